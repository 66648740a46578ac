import Derived.Test.YtmkdgnmmebldgaaPq26
import Derived.Test.YtmkdgnmmebldgaaPq8
namespace Go.Proofs.Ytmkdgnmmebldgaa
open Go.RowKit
def fE (es : List MEnd) : Value → Int
  | .agg ⟨[.int .i64 p, .int .i64 s]⟩ => usesIn es p s
  | _ => 0
theorem fE_at (es : List MEnd) (p s : Int) : fE es (.agg #[.int .i64 p, .int .i64 s]) = usesIn es p s := rfl
theorem fE_nil : fE [] = fun _ => 0 := by
  funext v
  unfold fE
  split <;> rfl
theorem usesIn_snoc (es : List MEnd) (e : MEnd) (p s : Int) : usesIn (es ++ [e]) p s = usesIn es p s + if (e.piece == p && e.side == s) = true then 1 else 0 := by
  unfold usesIn
  rw [List.countP_append, List.countP_singleton]
theorem fE_same (es : List MEnd) (e : MEnd) : fE (es ++ [e]) (.agg #[.int .i64 e.piece, .int .i64 e.side]) = fE es (.agg #[.int .i64 e.piece, .int .i64 e.side]) + 1 := by
  rw [fE_at, fE_at, usesIn_snoc, if_pos (by simp)]
  simp
theorem fE_other (es : List MEnd) (e : MEnd) : ∀ k, k ≠ .agg #[.int .i64 e.piece, .int .i64 e.side] → fE (es ++ [e]) k = fE es k := by
  intro k hk
  unfold fE
  split
  · rename_i p s
    rw [usesIn_snoc, if_neg]
    · simp
    · intro h
      simp at h
      apply hk
      rw [h.1, h.2]
  · rfl
theorem ends_succ {js : List MJoint} {k m : Nat} (hk : k < js.length) (hm : m < js[k].ends.length) :
    (js.take k).flatMap (·.ends) ++ js[k].ends.take (m + 1) = ((js.take k).flatMap (·.ends) ++ js[k].ends.take m) ++ [js[k].ends[m]] := by
  rw [List.take_succ_eq_append_getElem hm, List.append_assoc]
theorem ends_next {js : List MJoint} {k : Nat} (hk : k < js.length) : (js.take k).flatMap (·.ends) ++ js[k].ends = (js.take (k + 1)).flatMap (·.ends) := by
  rw [List.take_succ_eq_append_getElem hk, List.flatMap_append]
  simp
theorem ends_len {js : List MJoint} {k m : Nat} (hk : k < js.length) : ((js.take k).flatMap (·.ends) ++ js[k].ends.take m).length ≤ endsNo js := by
  have h1 : js.flatMap (·.ends) = ((js.take k).flatMap (·.ends) ++ js[k].ends) ++ (js.drop (k + 1)).flatMap (·.ends) := by
    rw [ends_next hk, ← List.flatMap_append, List.take_append_drop]
  unfold endsNo
  rw [h1]
  simp only [List.length_append, List.length_take]
  omega
theorem fE_bd (L : List MEnd) (k : Value) : 0 ≤ fE L k ∧ fE L k ≤ L.length := by
  unfold fE
  split
  · have := usesIn_le L
    rename_i p s
    have := this p s
    omega
  · omega
def upTo (js : List MJoint) (k m : Nat) : List MEnd := (js.take k).flatMap (·.ends) ++ (match js[k]? with | some j => j.ends.take m | none => [])
def EMap (w : World) (b : Nat) (L : List MEnd) : Prop := CMap 139 w b L.length (fE L)
theorem upTo_zero (js : List MJoint) (k : Nat) : upTo js k 0 = (js.take k).flatMap (·.ends) := by
  unfold upTo
  split <;> simp
theorem upTo_nil (js : List MJoint) : upTo js 0 0 = [] := by rw [upTo_zero]; rfl
theorem upTo_all (js : List MJoint) (k : Nat) (h : js.length ≤ k) : upTo js k 0 = js.flatMap (·.ends) := by
  rw [upTo_zero, List.take_of_length_le h]
theorem upTo_succ {js : List MJoint} {k m : Nat} (hk : k < js.length) (hm : m < js[k].ends.length) : upTo js k (m + 1) = upTo js k m ++ [js[k].ends[m]] := by
  unfold upTo
  simp only [List.getElem?_eq_getElem hk]
  exact ends_succ hk hm
theorem upTo_next {js : List MJoint} {k m : Nat} (hk : k < js.length) (hm : js[k].ends.length ≤ m) : upTo js k m = upTo js (k + 1) 0 := by
  rw [upTo_zero, ← ends_next hk]
  unfold upTo
  simp only [List.getElem?_eq_getElem hk]
  rw [List.take_of_length_le hm]
theorem upTo_len {js : List MJoint} {k m : Nat} (hk : k < js.length) : (upTo js k m).length ≤ endsNo js := by
  unfold upTo
  simp only [List.getElem?_eq_getElem hk]
  exact ends_len hk
set_option maxRecDepth 100000 in
set_option maxHeartbeats 2000000 in
theorem firstLoosePiece_any (pa ja : Option Addr) (pl pc jc : Nat) (js : List MJoint) (w : World) (hj : Hid (JointsAt w ja js)) (hpl : pl ≤ 1000) (hjl : js.length ≤ 1000) (hok : Hid (∀ q (h : q < js.length), ok3 pl js[q] = true)) :
    Calls Try.prog 67 #[.agg #[.slice pa pl pc, .slice ja js.length jc]] w fun e w' => e = .returned (.int .i64 (firstBad (bad5i js) pl)) ∧ Below w.heap.size w w' := by
  have hmm := @run_makeMap Try.prog
  have HE : Hid (endsNo js ≤ 4000) := by
    have := endsNo_le pl js (fun j hj => by
      obtain ⟨q, hq, rfl⟩ := List.getElem_of_mem hj
      exact hok.out q hq)
    unfold Hid
    omega
  have HR : Hid (∀ q (h : q < js.length) m (hm : m < js[q].ends.length), (Lit.int .i64 js[q].ends[m].piece).wf = true ∧ (Lit.int .i64 js[q].ends[m].side).wf = true) := by
    intro q h m hm
    have h1 := hok.out q h
    unfold ok3 at h1
    simp only [Bool.and_eq_true, List.all_eq_true] at h1
    have h2 := h1.2 _ (List.getElem_mem hm)
    unfold endB inB at h2
    simp at h2
    exact ⟨wf64 (by omega) (by omega), wf64 (by omega) (by omega)⟩
  go_enter Try.func67, Try.ntmps67
  go_wp2_with fail
  generalize hW : w.alloc (Obj.cells #[Value.slice pa pl pc, Value.slice ja js.length jc] 26) = W
  have e0 : W.cell? ⟨w.heap.size, 0, none⟩ = some (.slice pa pl pc) := by rw [← hW]; simp [go_sem]
  have hz : w.heap.size + 1 = W.heap.size := by rw [← hW]; simp
  have hbW : Below w.heap.size w W := by rw [← hW]; exact blo
  have HM : Hid (EMap (W.alloc (.map #[] 0)) (w.heap.size + 1) (upTo js 0 0)) := by
    have h := CMap.made 139 W
    rw [← fE_nil, ← hz] at h
    rw [upTo_nil]
    exact h
  have hzA : w.heap.size + 1 ≤ W.heap.size := Nat.le_of_eq hz
  have hzB : W.heap.size ≤ w.heap.size + 1 := Nat.le_of_eq hz.symm
  clear hW hz
  go_loopw [13] (fun c wr => ∃ (k : Nat), k ≤ js.length ∧ c = .int .i64 k ∧ Hid (EMap wr (w.heap.size + 1) (upTo js k 0)) ∧ Below W.heap.size W wr) (fun c _ => js.length - (intOf c).toNat)
  case atStart => exact ⟨0, Nat.zero_le _, rfl, HM.out, blo⟩
  case round =>
    clear HM hmm
    obtain ⟨k, hk, rfl, HM, hb⟩ := hrel
    have hbs := hb.size
    have hz2 : w.heap.size < wr.heap.size := by omega
    have e0' := cell_later hb e0
    by_cases hk' : k < js.length
    · obtain ⟨b1, off1, rfl, hpc⟩ := hj.out.2.2.resolve_left (fun h => by rw [h] at hk'; exact absurd hk' (Nat.not_lt_zero _))
      obtain ⟨c1, c2, ea, ec, c3, c4⟩ := (hpc.below hbW) k hk'
      have C4 := hidQ c4
      replace c1 := cell_later hb c1
      replace c2 := cell_later hb c2
      replace c3 := cell_later hb c3
      have hel := c4.1
      unfold maxLen at hel
      clear hpc c4
      have HM1 : Hid (∀ o, EMap (wr.alloc o) (w.heap.size + 1) (upTo js k 0)) := fun o => CMap.below HM.out (show Below wr.heap.size wr (wr.alloc o) from blo)
      have HBA : Hid (∀ o, Below W.heap.size W (wr.alloc o)) := fun o => blo
      go_wp2_with fail
      go_loopw [20] (fun c wr => ∃ (m : Nat), m ≤ js[k].ends.length ∧ c = .int .i64 m ∧ Hid (EMap wr (w.heap.size + 1) (upTo js k m)) ∧ Below W.heap.size W wr) (fun c _ => js[k].ends.length - (intOf c).toNat)
      case atStart => exact ⟨0, Nat.zero_le _, rfl, HM1.out _, HBA.out _⟩
      case round =>
        clear HM1 HBA HM c1 c2 c3 e0' hz2 hbs hb
        obtain ⟨m, hm, rfl, HM, hb⟩ := hrel
        have hbs := hb.size
        by_cases hm' : m < js[k].ends.length
        · obtain ⟨b2, off2, rfl, hpc2⟩ := C4.out.2.resolve_left (fun h => by rw [h] at hm'; exact absurd hm' (Nat.not_lt_zero _))
          obtain ⟨d1, d2⟩ := (hpc2.below hb) m hm'
          clear hpc2
          have hLen := upTo_len (m := m) hk'
          have hE4 := HE.out
          have hbd := fE_bd (upTo js k m) (.agg #[.int .i64 js[k].ends[m].piece, .int .i64 js[k].ends[m].side])
          obtain ⟨kl, hkey⟩ := keyE (HR.out k hk' m hm').1 (HR.out k hk' m hm').2
          have hM2 : CMap 139 (wr.alloc (Obj.cells #[Value.int IntKind.i64 js[k].ends[m].piece, Value.int IntKind.i64 js[k].ends[m].side] 139)).drew (w.heap.size + 1) _ _ := CMap.below HM.out (show Below wr.heap.size wr (wr.alloc _).drew from blo)
          have hlk := hM2.lookup lawE Try.underlying226 hkey
          obtain ⟨v0, st, w1, w2, hme, hl1, hes, hM3, hg⟩ := hM2.entry lawKE Try.underlying226 (by unfold maxLen; omega) hkey (fE (upTo js k m) (.agg #[.int .i64 js[k].ends[m].piece, .int .i64 js[k].ends[m].side]) + 1) (wf64 (by omega) (by omega)) (fE (upTo js k (m + 1))) (by rw [upTo_succ hk' hm']; exact fE_same _ _) (by rw [upTo_succ hk' hm']; exact fE_other _ _)
          have HM3 : Hid (EMap w2 (w.heap.size + 1) (upTo js k (m + 1))) := by
            refine hM3.mono ?_
            rw [upTo_succ hk' hm', List.length_append]
            simp
          have hb4 : Below W.heap.size W w2 := Below.grown (show Below W.heap.size W (wr.alloc _).drew from blo) hg (by simp; omega) (fun j hj => by cases hj; omega)
          generalize fE (upTo js k m) (.agg #[.int .i64 js[k].ends[m].piece, .int .i64 js[k].ends[m].side]) = c0 at hlk hl1 hes hbd
          have hbd1 := hbd.1
          have hbd2 : c0 ≤ 4000 := by omega
          clear hM2 hM3 hg hkey hLen hE4 HM hbd
          go_wp2_with fail
          go_region
          all_goals
            go_wp2_with fail
            go_roundw
            case rel => exact ⟨m + 1, by omega, by go_num, HM3, hb4⟩
            case measure => simp [intOf]; omega
        · have HM4 : Hid (EMap wr (w.heap.size + 1) (upTo js (k + 1) 0)) := by
            have h := HM.out
            rw [upTo_next hk' (by omega)] at h
            exact h
          clear HM
          go_wp2_with fail
          go_roundw
          case rel => exact ⟨k + 1, by omega, by go_num, HM4, hb⟩
          case measure => simp [intOf]; omega
    · have HM5 : Hid (EMap wr (w.heap.size + 1) (js.flatMap (·.ends))) := by
        have h := HM.out
        rw [upTo_all js k (by omega)] at h
        exact h
      have HB := hidQ hb
      clear HM
      go_wp2_with fail
      clear hb hbs e0' hz2
      go_loopw [35] (fun c wr => ∃ (i : Nat), i ≤ pl ∧ c = .int .i64 i ∧ Hid (∀ q, q < i → bad5i js q = false) ∧ Hid (EMap wr (w.heap.size + 1) (js.flatMap (·.ends))) ∧ Below W.heap.size W wr) (fun c _ => pl - (intOf c).toNat)
      case atStart => exact ⟨0, Nat.zero_le _, rfl, (fun q h => absurd h (Nat.not_lt_zero q)), HM5.out, HB.out⟩
      case round =>
        clear HM5 HB
        obtain ⟨i, hi, rfl, HQ, HM, hb⟩ := hrel
        by_cases hi' : i < pl
        · obtain ⟨kl0, hkey0⟩ := keyE (p := (i : Int)) (s := 0) (wf64 (by omega) (by omega)) (by decide)
          obtain ⟨kl1, hkey1⟩ := keyE (p := (i : Int)) (s := 1) (wf64 (by omega) (by omega)) (by decide)
          have hl0 := CMap.lookup HM.out lawE Try.underlying226 hkey0
          have hl1 := CMap.lookup HM.out lawE Try.underlying226 hkey1
          rw [fE_at] at hl0 hl1
          clear hkey0 hkey1
          by_cases hu0 : usesIn (js.flatMap (·.ends)) (i : Int) 0 = 1
          · rw [hu0] at hl0
            by_cases hu1 : usesIn (js.flatMap (·.ends)) (i : Int) 1 = 1
            · rw [hu1] at hl1
              have HQ2 : Hid (∀ q, q < i + 1 → bad5i js q = false) := by
                intro q hq
                by_cases e : q < i
                · exact HQ.out q e
                · have : q = i := by omega
                  subst this
                  unfold bad5i uses
                  rw [hu0, hu1]
                  rfl
              clear hu0 hu1 HQ
              go_wp2_with fail
              go_roundw
              case rel => exact ⟨i + 1, by omega, by go_num, HQ2, HM, hb⟩
              case measure => simp [intOf]; omega
            · have HX := hidQ (firstBad_hit hi' (by unfold bad5i uses; simp [hu1]) HQ.out)
              have hc : (((usesIn (js.flatMap (·.ends)) (i : Int) 1 : Nat) : Int) == 1) = false := by rw [beq_eq_false_iff_ne]; omega
              generalize ((usesIn (js.flatMap (·.ends)) (i : Int) 1 : Nat) : Int) = c0 at hc hl1
              clear hu0 hu1 HQ
              go_wp2_with fail
              go_ret
              exact ⟨ret_int HX.out.symm, hbW.trans (hb.mono hbW.size)⟩
          · have HX := hidQ (firstBad_hit hi' (by unfold bad5i uses; simp [hu0]) HQ.out)
            have hc : (((usesIn (js.flatMap (·.ends)) (i : Int) 0 : Nat) : Int) == 1) = false := by rw [beq_eq_false_iff_ne]; omega
            generalize ((usesIn (js.flatMap (·.ends)) (i : Int) 0 : Nat) : Int) = c0 at hc hl0
            have hc2 : (c0 != 1) = true := by rw [bne, hc]; rfl
            clear hu0 HQ
            go_wp2_with fail
            go_ret
            exact ⟨ret_int HX.out.symm, hbW.trans (hb.mono hbW.size)⟩
        · have HX := hidQ (firstBad_none (bad := bad5i js) (n := pl) (fun q h => HQ.out q (by omega)))
          clear HQ HM
          go_wp2_with fail
          go_ret
          exact ⟨ret_int HX.out.symm, hbW.trans (hb.mono hbW.size)⟩
end Go.Proofs.Ytmkdgnmmebldgaa

namespace Go.Proofs.Ytmkdgnmmebldgaa
open Go.RowKit Go.Maps
open Go.WideMaps (KeyLaw)
theorem wayE_cases (x : Int) : wayB x = true ∧ ((x == 1) = true ∨ (x == 1) = false ∧ (x == -1) = true) ∨ wayB x = false ∧ (x == 1) = false ∧ (x == -1) = false := by
  unfold wayB
  cases (x == 1) <;> cases (x == -1) <;> simp
set_option maxHeartbeats 2000000 in
theorem signalOk_any (pa : Option Addr) (pc : Nat) (ps : List MPiece) (s : ByteArray) (pi pl wy : Int) (w : World) (hp : Hid (PiecesAt w pa ps)) (hs : s.size ≤ maxLen) (hp100 : ps.length ≤ 100) (hpl : Hid (∀ k (hk : k < ps.length), 1 ≤ ps[k].len ∧ ps[k].len ≤ 10000000)) :
    Calls Try.prog 139 #[.slice pa ps.length pc, .agg #[.string s, .int .i64 pi, .int .i64 pl, .int .i64 wy]] w fun e w' => e = .returned (.bool (okSigC ps s pi pl wy)) ∧ Below w.heap.size w w' := by
  cases q1 : nameB s
  · have HX := hidQ (okSigC_1 (ps := ps) (pi := pi) (pl := pl) (wy := wy) q1)
    go_enter Try.func139, Try.ntmps139
    go_wp2_with (first | (go_at_call 165; refine (nameOk_any _ _ hs).mono ?_; rintro e w' ⟨rfl, rfl⟩) | (go_at_call 121; refine (within_any _ _ _ _).mono ?_; rintro e w' ⟨rfl, rfl⟩))
    go_ret
    exact ⟨ret_bool HX.out.symm, blo⟩
  cases q2 : inB pi 0 ((ps.length : Int) - 1)
  · have HX := hidQ (okSigC_2 (s := s) (pl := pl) (wy := wy) q2)
    go_enter Try.func139, Try.ntmps139
    go_wp2_with (first | (go_at_call 165; refine (nameOk_any _ _ hs).mono ?_; rintro e w' ⟨rfl, rfl⟩) | (go_at_call 121; refine (within_any _ _ _ _).mono ?_; rintro e w' ⟨rfl, rfl⟩))
    go_ret
    exact ⟨ret_bool HX.out.symm, blo⟩
  rcases wayE_cases wy with ⟨q3, hw⟩ | ⟨q3, hw1, hw2⟩
  rotate_left
  · have HX := hidQ (okSigC_3 (ps := ps) (s := s) (pi := pi) (pl := pl) q3)
    clear q3
    go_enter Try.func139, Try.ntmps139
    go_wp2_with (first | (go_at_call 165; refine (nameOk_any _ _ hs).mono ?_; rintro e w' ⟨rfl, rfl⟩) | (go_at_call 121; refine (within_any _ _ _ _).mono ?_; rintro e w' ⟨rfl, rfl⟩))
    go_quiet ((go_at_call 121; exact Calls.quiet_of_same (within_any _ _ _ _)))
    go_wp2_with fail
    go_ret
    exact ⟨ret_bool HX.out.symm, blo⟩
  have HO := hidQ (okSigC_4 (ps := ps) (pl := pl) q1 q2 q3)
  have hin : 0 ≤ pi ∧ pi < ps.length := by
    unfold inB at q2
    simp at q2
    omega
  obtain ⟨k, rfl⟩ := Int.eq_ofNat_of_zero_le hin.1
  have hkl : k < ps.length := by omega
  have hk0 : (0 : Int) ≤ (k : Int) := by omega
  have hk1 : (k : Int) < (ps.length : Int) := by omega
  obtain ⟨hpk1, hpk2⟩ := hpl.out k hkl
  have HLA : Hid (okSigC ps s (k : Int) pl wy = inB pl 1 (ps[k].len - 1)) := by
    have h := HO.out
    erw [lenAt_at hkl] at h
    exact h
  obtain ⟨b2, off2, rfl, hpp⟩ := hp.out.2.2.resolve_left (fun h => by rw [h] at hkl; exact absurd hkl (Nat.not_lt_zero _))
  obtain ⟨d1, d2, d3, d4⟩ := hpp k hkl
  have hzb2 : b2 < w.heap.size := cellLt d1
  clear hpp d1 d3 d4 hin q3 HO
  rcases hw with hw1 | ⟨hw1, hw2⟩
  all_goals
    go_enter Try.func139, Try.ntmps139
    go_wp2_with (first | (go_at_call 165; refine (nameOk_any _ _ hs).mono ?_; rintro e w' ⟨rfl, rfl⟩) | (go_at_call 121; refine (within_any _ _ _ _).mono ?_; rintro e w' ⟨rfl, rfl⟩))
    go_quiet ((go_at_call 121; exact Calls.quiet_of_same (within_any _ _ _ _)))
    go_wp2_with fail
    go_ret
    exact ⟨ret_bool HLA.out.symm, blo⟩
set_option maxHeartbeats 2000000 in
theorem firstWrongSignal_any (pa sa : Option Addr) (pc sc : Nat) (ps ss : List MPiece) (w : World) (hp : Hid (PiecesAt w pa ps)) (hs : Hid (PiecesAt w sa ss)) (hp100 : ps.length ≤ 100) (hpl : Hid (∀ k (hk : k < ps.length), 1 ≤ ps[k].len ∧ ps[k].len ≤ 10000000)) :
    Calls Try.prog 74 #[.slice pa ps.length pc, .slice sa ss.length sc] w fun e w' => e = .returned (.int .i64 (firstBad (badS3 ps ss) ss.length)) ∧ Below w.heap.size w w' := by
  have hl := hs.out.1
  unfold maxLen at hl
  go_enter Try.func74, Try.ntmps74
  go_wp2_with fail
  go_loopw [9] (fun c wr => ∃ (i : Nat), i ≤ ss.length ∧ c = .int .i64 i ∧ Hid (∀ q, q < i → badS3 ps ss q = false) ∧ Below w.heap.size w wr) (fun c _ => ss.length - (intOf c).toNat)
  case atStart => exact ⟨0, Nat.zero_le _, rfl, (fun q h => absurd h (Nat.not_lt_zero q)), blo⟩
  case round =>
    obtain ⟨i, hi, rfl, HQ, hb⟩ := hrel
    have hbs := hb.size
    by_cases hi' : i < ss.length
    · obtain ⟨b1, off1, rfl, hpc⟩ := hs.out.2.2.resolve_left (fun h => by rw [h] at hi'; exact absurd hi' (Nat.not_lt_zero _))
      obtain ⟨c1, c2, c3, c4⟩ := (hpc.below hb) i hi'
      have hsz : ss[i].name.size ≤ maxLen := hs.out.2.1 _ (List.getElem_mem hi')
      have HP := hidQ (hp.out.below hb)
      clear hpc
      go_wp2_with fail
      refine (signalOk_any _ _ _ _ _ _ _ _ (HP.out.below blo) hsz hp100 hpl).mono ?_
      rintro e w2 ⟨rfl, hb2⟩
      have hb3 : Below w.heap.size w w2 := Below.trans blo (hb2.mono (by simp; omega))
      clear hb hb2 c1 c2 c3 c4 HP
      cases ho : okSigC ps ss[i].name ss[i].len ss[i].speed ss[i].brake
      · have HX := hidQ (firstBad_hit hi' (by rw [badS3_at hi', okSig, ho]; rfl) HQ.out)
        clear ho
        go_wp2_with fail
        go_ret
        exact ⟨ret_int HX.out.symm, hb3⟩
      · have HQ2 : Hid (∀ q, q < i + 1 → badS3 ps ss q = false) := by
          intro q hq
          by_cases e : q < i
          · exact HQ.out q e
          · have : q = i := by omega
            subst this
            rw [badS3_at hi', okSig, ho]; rfl
        clear ho HQ
        go_wp2_with fail
        go_roundw
        case rel => exact ⟨i + 1, by omega, by go_num, HQ2, hb3⟩
        case measure => simp [intOf]; omega
    · have HX := hidQ (firstBad_none (bad := badS3 ps ss) (n := ss.length) (fun q h => HQ.out q (by omega)))
      clear HQ
      go_wp2_with fail
      go_ret
      exact ⟨ret_int HX.out.symm, hb⟩
end Go.Proofs.Ytmkdgnmmebldgaa
