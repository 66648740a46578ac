import Derived.Test.YtmkdgnmmebldgaaGreatEx7
import Derived.Test.YtmkdgnmmebldgaaGreatEx2
import Derived.RegionTactic
import Derived.Deep.RegionWith
import Derived.Deep.QuietTactic
import Derived.BigQuiet
namespace Go.Proofs.YtmkdgnmmebldgaaGreat
open Go.RowKit

def fE (es : List MEnd) : Value → Int
  | .agg ⟨[.int .i64 p, .int .i64 s]⟩ => usesIn es p s
  | _ => 0
theorem fE_at (es : List MEnd) (p s : Int) : fE es (.agg #[.int .i64 p, .int .i64 s]) = usesIn es p s := rfl
theorem fE_nil : fE [] = fun _ => 0 := by
  funext v
  unfold fE
  split <;> rfl
theorem usesIn_snoc (es : List MEnd) (e : MEnd) (p s : Int) : usesIn (es ++ [e]) p s = usesIn es p s + if (e.piece == p && e.side == s) = true then 1 else 0 := by
  unfold usesIn
  rw [List.countP_append, List.countP_singleton]
theorem fE_same (es : List MEnd) (e : MEnd) : fE (es ++ [e]) (.agg #[.int .i64 e.piece, .int .i64 e.side]) = fE es (.agg #[.int .i64 e.piece, .int .i64 e.side]) + 1 := by
  rw [fE_at, fE_at, usesIn_snoc, if_pos (by simp)]
  simp
theorem fE_other (es : List MEnd) (e : MEnd) : ∀ k, k ≠ .agg #[.int .i64 e.piece, .int .i64 e.side] → fE (es ++ [e]) k = fE es k := by
  intro k hk
  unfold fE
  split
  · rename_i p s
    rw [usesIn_snoc, if_neg]
    · simp
    · intro h
      simp at h
      apply hk
      rw [h.1, h.2]
  · rfl

theorem ends_succ {js : List MJoint} {k m : Nat} (hk : k < js.length) (hm : m < js[k].ends.length) :
    (js.take k).flatMap (·.ends) ++ js[k].ends.take (m + 1) = ((js.take k).flatMap (·.ends) ++ js[k].ends.take m) ++ [js[k].ends[m]] := by
  rw [List.take_succ_eq_append_getElem hm, List.append_assoc]
theorem ends_next {js : List MJoint} {k : Nat} (hk : k < js.length) : (js.take k).flatMap (·.ends) ++ js[k].ends = (js.take (k + 1)).flatMap (·.ends) := by
  rw [List.take_succ_eq_append_getElem hk, List.flatMap_append]
  simp
theorem ends_len {js : List MJoint} {k m : Nat} (hk : k < js.length) : ((js.take k).flatMap (·.ends) ++ js[k].ends.take m).length ≤ endsNo js := by
  have h1 : js.flatMap (·.ends) = ((js.take k).flatMap (·.ends) ++ js[k].ends) ++ (js.drop (k + 1)).flatMap (·.ends) := by
    rw [ends_next hk, ← List.flatMap_append, List.take_append_drop]
  unfold endsNo
  rw [h1]
  simp only [List.length_append, List.length_take]
  omega
theorem fE_bd (L : List MEnd) (k : Value) : 0 ≤ fE L k ∧ fE L k ≤ L.length := by
  unfold fE
  split
  · have := usesIn_le L
    rename_i p s
    have := this p s
    omega
  · omega

/-- The ends of the first k joints, and the first m of the next one. -/
def upTo (js : List MJoint) (k m : Nat) : List MEnd := (js.take k).flatMap (·.ends) ++ (match js[k]? with | some j => j.ends.take m | none => [])
def EMap (w : World) (b : Nat) (L : List MEnd) : Prop := CMap 112 w b L.length (fE L)

theorem upTo_zero (js : List MJoint) (k : Nat) : upTo js k 0 = (js.take k).flatMap (·.ends) := by
  unfold upTo
  split <;> simp
theorem upTo_nil (js : List MJoint) : upTo js 0 0 = [] := by rw [upTo_zero]; rfl
theorem upTo_all (js : List MJoint) (k : Nat) (h : js.length ≤ k) : upTo js k 0 = js.flatMap (·.ends) := by
  rw [upTo_zero, List.take_of_length_le h]
theorem upTo_succ {js : List MJoint} {k m : Nat} (hk : k < js.length) (hm : m < js[k].ends.length) : upTo js k (m + 1) = upTo js k m ++ [js[k].ends[m]] := by
  unfold upTo
  simp only [List.getElem?_eq_getElem hk]
  exact ends_succ hk hm
theorem upTo_next {js : List MJoint} {k m : Nat} (hk : k < js.length) (hm : js[k].ends.length ≤ m) : upTo js k m = upTo js (k + 1) 0 := by
  rw [upTo_zero, ← ends_next hk]
  unfold upTo
  simp only [List.getElem?_eq_getElem hk]
  rw [List.take_of_length_le hm]
theorem upTo_len {js : List MJoint} {k m : Nat} (hk : k < js.length) : (upTo js k m).length ≤ endsNo js := by
  unfold upTo
  simp only [List.getElem?_eq_getElem hk]
  exact ends_len hk

set_option maxRecDepth 100000 in
set_option maxHeartbeats 2000000 in
theorem firstLoosePiece_any (pa ja : Option Addr) (pl pc jc : Nat) (js : List MJoint) (w : World) (hj : Hid (JointsAt w ja js)) (hpl : pl ≤ 1000) (hjl : js.length ≤ 1000) (hok : Hid (∀ q (h : q < js.length), ok3 pl js[q] = true)) :
    Calls Tryz.prog 105 #[.agg #[.slice pa pl pc, .slice ja js.length jc]] w fun e w' => e = .returned (.int .i64 (firstBad (bad5i js) pl)) ∧ Below w.heap.size w w' := by
  have hmm := @run_makeMap Tryz.prog
  have HE : Hid (endsNo js ≤ 4000) := by
    have := endsNo_le pl js (fun j hj => by
      obtain ⟨q, hq, rfl⟩ := List.getElem_of_mem hj
      exact hok.out q hq)
    unfold Hid
    omega
  have HR : Hid (∀ q (h : q < js.length) m (hm : m < js[q].ends.length), (Lit.int .i64 js[q].ends[m].piece).wf = true ∧ (Lit.int .i64 js[q].ends[m].side).wf = true) := by
    intro q h m hm
    have h1 := hok.out q h
    unfold ok3 at h1
    simp only [Bool.and_eq_true, List.all_eq_true] at h1
    have h2 := h1.2 _ (List.getElem_mem hm)
    unfold endB inB at h2
    simp at h2
    exact ⟨wf64 (by omega) (by omega), wf64 (by omega) (by omega)⟩
  go_enter Tryz.func105, Tryz.ntmps105
  go_wp2_with fail
  generalize hW : w.alloc (Obj.cells #[Value.slice pa pl pc, Value.slice ja js.length jc] 34) = W
  have e0 : W.cell? ⟨w.heap.size, 0, none⟩ = some (.slice pa pl pc) := by rw [← hW]; simp [go_sem]
  have hz : w.heap.size + 1 = W.heap.size := by rw [← hW]; simp
  have hbW : Below w.heap.size w W := by rw [← hW]; exact (by repeat (first | exact Below.refl _ _ | assumption | refine Below.drew ?_ | refine bdrewN ?_ _ | refine Below.setCell ?_ (by first | omega | (simp; done) | (simp; omega)) _ | refine Below.alloc ?_ (by first | omega | (simp; done) | (simp; omega)) _))
  have HM : Hid (EMap (W.alloc (.map #[] 0)) (w.heap.size + 1) (upTo js 0 0)) := by
    have h := CMap.made 112 W
    rw [← fE_nil, ← hz] at h
    rw [upTo_nil]
    exact h
  have hzA : w.heap.size + 1 ≤ W.heap.size := Nat.le_of_eq hz
  have hzB : W.heap.size ≤ w.heap.size + 1 := Nat.le_of_eq hz.symm
  clear hW hz
  go_loopw [13] (fun c wr => ∃ (k : Nat), k ≤ js.length ∧ c = .int .i64 k ∧ Hid (EMap wr (w.heap.size + 1) (upTo js k 0)) ∧ Below W.heap.size W wr) (fun c _ => js.length - (intOf c).toNat)
  case atStart => exact ⟨0, Nat.zero_le _, rfl, HM.out, (by repeat (first | exact Below.refl _ _ | assumption | refine Below.drew ?_ | refine bdrewN ?_ _ | refine Below.setCell ?_ (by first | omega | (simp; done) | (simp; omega)) _ | refine Below.alloc ?_ (by first | omega | (simp; done) | (simp; omega)) _))⟩
  case round =>
    clear HM hmm
    obtain ⟨k, hk, rfl, HM, hb⟩ := hrel
    have hbs := hb.size
    have hz2 : w.heap.size < wr.heap.size := by omega
    have e0' := cell_later hb e0
    by_cases hk' : k < js.length
    · obtain ⟨b1, off1, rfl, hpc⟩ := hj.out.2.2.resolve_left (fun h => by rw [h] at hk'; exact absurd hk' (Nat.not_lt_zero _))
      obtain ⟨c1, c2, ea, ec, c3, c4⟩ := (hpc.below hbW) k hk'
      have C4 := hidQ c4
      replace c1 := cell_later hb c1
      replace c2 := cell_later hb c2
      replace c3 := cell_later hb c3
      have hel := c4.1
      unfold maxLen at hel
      clear hpc c4
      have HM1 : Hid (∀ o, EMap (wr.alloc o) (w.heap.size + 1) (upTo js k 0)) := fun o => CMap.below HM.out (show Below wr.heap.size wr (wr.alloc o) from (by repeat (first | exact Below.refl _ _ | assumption | refine Below.drew ?_ | refine bdrewN ?_ _ | refine Below.setCell ?_ (by first | omega | (simp; done) | (simp; omega)) _ | refine Below.alloc ?_ (by first | omega | (simp; done) | (simp; omega)) _)))
      have HBA : Hid (∀ o, Below W.heap.size W (wr.alloc o)) := fun o => (by repeat (first | exact Below.refl _ _ | assumption | refine Below.drew ?_ | refine bdrewN ?_ _ | refine Below.setCell ?_ (by first | omega | (simp; done) | (simp; omega)) _ | refine Below.alloc ?_ (by first | omega | (simp; done) | (simp; omega)) _))
      go_wp2_with fail
      go_loopw [20] (fun c wr => ∃ (m : Nat), m ≤ js[k].ends.length ∧ c = .int .i64 m ∧ Hid (EMap wr (w.heap.size + 1) (upTo js k m)) ∧ Below W.heap.size W wr) (fun c _ => js[k].ends.length - (intOf c).toNat)
      case atStart => exact ⟨0, Nat.zero_le _, rfl, HM1.out _, HBA.out _⟩
      case round =>
        clear HM1 HBA HM c1 c2 c3 e0' hz2 hbs hb
        obtain ⟨m, hm, rfl, HM, hb⟩ := hrel
        have hbs := hb.size
        by_cases hm' : m < js[k].ends.length
        · obtain ⟨b2, off2, rfl, hpc2⟩ := C4.out.2.resolve_left (fun h => by rw [h] at hm'; exact absurd hm' (Nat.not_lt_zero _))
          obtain ⟨d1, d2⟩ := (hpc2.below hb) m hm'
          clear hpc2
          have hLen := upTo_len (m := m) hk'
          have hE4 := HE.out
          have hbd := fE_bd (upTo js k m) (.agg #[.int .i64 js[k].ends[m].piece, .int .i64 js[k].ends[m].side])
          obtain ⟨kl, hkey⟩ := keyE (HR.out k hk' m hm').1 (HR.out k hk' m hm').2
          have hM2 : CMap 112 (wr.alloc (Obj.cells #[Value.int IntKind.i64 js[k].ends[m].piece, Value.int IntKind.i64 js[k].ends[m].side] 112)).drew (w.heap.size + 1) _ _ := CMap.below HM.out (show Below wr.heap.size wr (wr.alloc _).drew from (by repeat (first | exact Below.refl _ _ | assumption | refine Below.drew ?_ | refine bdrewN ?_ _ | refine Below.setCell ?_ (by first | omega | (simp; done) | (simp; omega)) _ | refine Below.alloc ?_ (by first | omega | (simp; done) | (simp; omega)) _)))
          have hlk := hM2.lookup lawE Tryz.underlying172 hkey
          obtain ⟨v0, st, w1, w2, hme, hl1, hes, hM3, hg⟩ := hM2.entry lawKE Tryz.underlying172 (by unfold maxLen; omega) hkey (fE (upTo js k m) (.agg #[.int .i64 js[k].ends[m].piece, .int .i64 js[k].ends[m].side]) + 1) (wf64 (by omega) (by omega)) (fE (upTo js k (m + 1))) (by rw [upTo_succ hk' hm']; exact fE_same _ _) (by rw [upTo_succ hk' hm']; exact fE_other _ _)
          have HM3 : Hid (EMap w2 (w.heap.size + 1) (upTo js k (m + 1))) := by
            refine hM3.mono ?_
            rw [upTo_succ hk' hm', List.length_append]
            simp
          have hb4 : Below W.heap.size W w2 := Below.grown (show Below W.heap.size W (wr.alloc _).drew from (by repeat (first | exact Below.refl _ _ | assumption | refine Below.drew ?_ | refine bdrewN ?_ _ | refine Below.setCell ?_ (by first | omega | (simp; done) | (simp; omega)) _ | refine Below.alloc ?_ (by first | omega | (simp; done) | (simp; omega)) _))) hg (by simp; omega) (fun j hj => by cases hj; omega)
          generalize fE (upTo js k m) (.agg #[.int .i64 js[k].ends[m].piece, .int .i64 js[k].ends[m].side]) = c0 at hlk hl1 hes hbd
          have hbd1 := hbd.1
          have hbd2 : c0 ≤ 4000 := by omega
          clear hM2 hM3 hg hkey hLen hE4 HM hbd
          go_wp2_with fail
          go_region
          all_goals
            go_wp2_with fail
            go_roundw
            case rel => exact ⟨m + 1, by omega, by go_num, HM3, hb4⟩
            case measure => simp [intOf]; omega
        · have HM4 : Hid (EMap wr (w.heap.size + 1) (upTo js (k + 1) 0)) := by
            have h := HM.out
            rw [upTo_next hk' (by omega)] at h
            exact h
          clear HM
          go_wp2_with fail
          go_roundw
          case rel => exact ⟨k + 1, by omega, by go_num, HM4, hb⟩
          case measure => simp [intOf]; omega
    · have HM5 : Hid (EMap wr (w.heap.size + 1) (js.flatMap (·.ends))) := by
        have h := HM.out
        rw [upTo_all js k (by omega)] at h
        exact h
      have HB := hidQ hb
      clear HM
      go_wp2_with fail
      clear hb hbs e0' hz2
      go_loopw [35] (fun c wr => ∃ (i : Nat), i ≤ pl ∧ c = .int .i64 i ∧ Hid (∀ q, q < i → bad5i js q = false) ∧ Hid (EMap wr (w.heap.size + 1) (js.flatMap (·.ends))) ∧ Below W.heap.size W wr) (fun c _ => pl - (intOf c).toNat)
      case atStart => exact ⟨0, Nat.zero_le _, rfl, (fun q h => absurd h (Nat.not_lt_zero q)), HM5.out, HB.out⟩
      case round =>
        clear HM5 HB
        obtain ⟨i, hi, rfl, HQ, HM, hb⟩ := hrel
        by_cases hi' : i < pl
        · obtain ⟨kl0, hkey0⟩ := keyE (p := (i : Int)) (s := 0) (wf64 (by omega) (by omega)) (by decide)
          obtain ⟨kl1, hkey1⟩ := keyE (p := (i : Int)) (s := 1) (wf64 (by omega) (by omega)) (by decide)
          have hl0 := CMap.lookup HM.out lawE Tryz.underlying172 hkey0
          have hl1 := CMap.lookup HM.out lawE Tryz.underlying172 hkey1
          rw [fE_at] at hl0 hl1
          clear hkey0 hkey1
          by_cases hu0 : usesIn (js.flatMap (·.ends)) (i : Int) 0 = 1
          · rw [hu0] at hl0
            by_cases hu1 : usesIn (js.flatMap (·.ends)) (i : Int) 1 = 1
            · rw [hu1] at hl1
              have HQ2 : Hid (∀ q, q < i + 1 → bad5i js q = false) := by
                intro q hq
                by_cases e : q < i
                · exact HQ.out q e
                · have : q = i := by omega
                  subst this
                  unfold bad5i uses
                  rw [hu0, hu1]
                  rfl
              clear hu0 hu1 HQ
              go_wp2_with fail
              go_roundw
              case rel => exact ⟨i + 1, by omega, by go_num, HQ2, HM, hb⟩
              case measure => simp [intOf]; omega
            · have HX := hidQ (firstBad_hit hi' (by unfold bad5i uses; simp [hu1]) HQ.out)
              have hc : (((usesIn (js.flatMap (·.ends)) (i : Int) 1 : Nat) : Int) == 1) = false := by rw [beq_eq_false_iff_ne]; omega
              generalize ((usesIn (js.flatMap (·.ends)) (i : Int) 1 : Nat) : Int) = c0 at hc hl1
              clear hu0 hu1 HQ
              go_wp2_with fail
              go_ret
              exact ⟨ret_int HX.out.symm, hbW.trans (hb.mono hbW.size)⟩
          · have HX := hidQ (firstBad_hit hi' (by unfold bad5i uses; simp [hu0]) HQ.out)
            have hc : (((usesIn (js.flatMap (·.ends)) (i : Int) 0 : Nat) : Int) == 1) = false := by rw [beq_eq_false_iff_ne]; omega
            generalize ((usesIn (js.flatMap (·.ends)) (i : Int) 0 : Nat) : Int) = c0 at hc hl0
            have hc2 : (c0 != 1) = true := by rw [bne, hc]; rfl
            clear hu0 HQ
            go_wp2_with fail
            go_ret
            exact ⟨ret_int HX.out.symm, hbW.trans (hb.mono hbW.size)⟩
        · have HX := hidQ (firstBad_none (bad := bad5i js) (n := pl) (fun q h => HQ.out q (by omega)))
          clear HQ HM
          go_wp2_with fail
          go_ret
          exact ⟨ret_int HX.out.symm, hbW.trans (hb.mono hbW.size)⟩

end Go.Proofs.YtmkdgnmmebldgaaGreat

namespace Go.Proofs.YtmkdgnmmebldgaaGreat
open Go.RowKit

theorem bcell' {W w1 : World} (hb : Below W.heap.size W w1) : (∀ b o, b < W.heap.size → w1.cell? ⟨b, o, none⟩ = W.cell? ⟨b, o, none⟩) :=
  fun b o h => hb.cell (p := ⟨b, o, none⟩) h

set_option maxHeartbeats 1000000 in
theorem l1uses_any (pa ja : Option Addr) (pl pc jc : Nat) (js : List MJoint) (p s : Int) (w : World) (hj : Hid (JointsAt w ja js)) (hn : endsNo js ≤ 1000000) :
    Calls Tryz.prog 119 #[.agg #[.slice pa pl pc, .slice ja js.length jc], .agg #[.int .i64 p, .int .i64 s]] w fun e w' => e = .returned (.int .i64 (uses js p s)) ∧ Below w.heap.size w w' := by
  have hl := hj.out.1
  unfold maxLen at hl
  have HU : Hid (∀ k, uses (js.take k) p s ≤ 1000000) := fun k => Nat.le_trans (uses_le js p s k) hn
  clear hn
  go_enter Tryz.func119, Tryz.ntmps119
  go_wp2_with fail
  generalize hW : (w.alloc (Obj.cells #[Value.slice pa pl pc, Value.slice ja js.length jc] 34)).alloc (Obj.cells #[Value.int IntKind.i64 p, Value.int IntKind.i64 s] 112) = W
  have e0 : W.cell? ⟨w.heap.size + 1, 0, none⟩ = some (.int .i64 p) := by rw [← hW]; simp [go_sem]
  have e1 : W.cell? ⟨w.heap.size + 1, 1, none⟩ = some (.int .i64 s) := by rw [← hW]; simp [go_sem]
  have hz : w.heap.size + 2 = W.heap.size := by rw [← hW]; simp
  have hbW : Below w.heap.size w W := by rw [← hW]; exact (by repeat (first | exact Below.refl _ _ | assumption | refine Below.drew ?_ | refine bdrewN ?_ _ | refine Below.setCell ?_ (by first | omega | (simp; done) | (simp; omega)) _ | refine Below.alloc ?_ (by first | omega | (simp; done) | (simp; omega)) _))
  clear hW
  go_loopw [5, 13] (fun c i wr => ∃ (k : Nat), k ≤ js.length ∧ i = .int .i64 k ∧ c = .int .i64 (uses (js.take k) p s) ∧ Below W.heap.size W wr) (fun _ i _ => js.length - (intOf i).toNat)
  case atStart => exact ⟨0, Nat.zero_le _, rfl, rfl, (by repeat (first | exact Below.refl _ _ | assumption | refine Below.drew ?_ | refine bdrewN ?_ _ | refine Below.setCell ?_ (by first | omega | (simp; done) | (simp; omega)) _ | refine Below.alloc ?_ (by first | omega | (simp; done) | (simp; omega)) _))⟩
  case round =>
    obtain ⟨k, hk, rfl, rfl, hb⟩ := hrel
    by_cases hk' : k < js.length
    · obtain ⟨b1, off1, rfl, hpc1⟩ := hj.out.2.2.resolve_left (fun h => by rw [h] at hk'; exact absurd hk' (Nat.not_lt_zero _))
      obtain ⟨c1, c2, ea, ec, c3, c4⟩ := (hpc1.below hbW) k hk'
      have C4 := hidQ c4
      replace c1 := cell_later hb c1
      replace c2 := cell_later hb c2
      replace c3 := cell_later hb c3
      have hel := c4.1
      unfold maxLen at hel
      clear hpc1 c4
      have hbs := hb.size
      have hu1 := HU.out k
      have hu2 := HU.out (k + 1)
      have HU2 : Hid (uses (js.take (k + 1)) p s = uses (js.take k) p s + usesIn js[k].ends p s) := uses_succ js p s k hk'
      have hu3 : usesIn js[k].ends p s ≤ 1000000 := by have := HU2.out; omega
      have HM : Hid (∀ m, usesIn (js[k].ends.take m) p s ≤ usesIn js[k].ends p s) := fun m => (List.take_sublist m js[k].ends).countP_le
      go_wp2_with fail
      go_loopw [5, 20] (fun c i wr2 => ∃ (m : Nat), m ≤ js[k].ends.length ∧ i = .int .i64 m ∧ c = .int .i64 ((uses (js.take k) p s : Int) + (usesIn (js[k].ends.take m) p s : Int)) ∧ Below W.heap.size W wr2) (fun _ i _ => js[k].ends.length - (intOf i).toNat)
      case atStart => exact ⟨0, Nat.zero_le _, rfl, (congrArg (Value.int IntKind.i64) (Int.add_zero _)).symm, (by repeat (first | exact Below.refl _ _ | assumption | refine Below.drew ?_ | refine bdrewN ?_ _ | refine Below.setCell ?_ (by first | omega | (simp; done) | (simp; omega)) _ | refine Below.alloc ?_ (by first | omega | (simp; done) | (simp; omega)) _))⟩
      case round =>
        clear c1 c2 c3 hb hbs
        obtain ⟨m, hm, rfl, rfl, hb⟩ := hrel
        have hbs := hb.size
        have hu4 := HM.out m
        by_cases hm' : m < js[k].ends.length
        · obtain ⟨b2, off2, rfl, hpc2⟩ := C4.out.2.resolve_left (fun h => by rw [h] at hm'; exact absurd hm' (Nat.not_lt_zero _))
          obtain ⟨d1, d2⟩ := (hpc2.below hb) m hm'
          have hz2 : w.heap.size + 1 < _ := Nat.lt_of_lt_of_le (by omega : w.heap.size + 1 < W.heap.size) hb.size
          have f0 := cell_later hb e0
          have f1 := cell_later hb e1
          clear hpc2
          have HS : Hid (usesIn (js[k].ends.take (m + 1)) p s = usesIn (js[k].ends.take m) p s + if (js[k].ends[m].piece == p && js[k].ends[m].side == s) = true then 1 else 0) := usesIn_succ _ p s m hm'
          cases h1 : (js[k].ends[m].piece == p) <;> cases h2 : (js[k].ends[m].side == s)
          all_goals
            have HS2 := HS.out
            rw [h1, h2] at HS2
            simp at HS2
            have HS3 := hidQ HS2
            clear HS HS2
            go_wp2_with fail
            go_roundw
            case rel => exact ⟨m + 1, by omega, by go_num, by rw [HS3.out] <;> go_num, (by repeat (first | exact Below.refl _ _ | assumption | refine Below.drew ?_ | refine bdrewN ?_ _ | refine Below.setCell ?_ (by first | omega | (simp; done) | (simp; omega)) _ | refine Below.alloc ?_ (by first | omega | (simp; done) | (simp; omega)) _))⟩
            case measure => simp [intOf]; omega
        · have HX : Hid ((uses (js.take k) p s : Int) + (usesIn (js[k].ends.take m) p s : Int) = (uses (js.take (k + 1)) p s : Int)) := by
            have := HU2.out
            rw [List.take_of_length_le (l := js[k].ends) (by omega)]
            unfold Hid
            omega
          go_wp2_with fail
          go_roundw
          case rel => exact ⟨k + 1, by omega, by go_num, by rw [HX.out], hb⟩
          case measure => simp [intOf]; omega
    · have HX : Hid (js.take k = js) := List.take_of_length_le (by omega)
      go_wp2_with fail
      go_ret
      exact ⟨ret_int (by rw [HX.out]), hbW.trans (hb.mono hbW.size)⟩

end Go.Proofs.YtmkdgnmmebldgaaGreat

namespace Go.Proofs.YtmkdgnmmebldgaaGreat
open Go.RowKit

set_option maxHeartbeats 1000000 in
theorem l1joint_any (pa ja : Option Addr) (pl pc jc : Nat) (js : List MJoint) (i : Nat) (hi : i < js.length) (w : World) (hj : Hid (JointsAt w ja js)) (hpl : pl ≤ maxLen) :
    Calls Tryz.prog 118 #[.agg #[.slice pa pl pc, .slice ja js.length jc], .int .i64 i] w fun e w' => e = .returned (.int .i64 (jointC js pl i js[i])) ∧ Below w.heap.size w w' := by
  have hl := hj.out.1
  unfold maxLen at hl
  obtain ⟨b1, off1, rfl, hpc1⟩ := hj.out.2.2.resolve_left (fun h => by rw [h] at hi; exact absurd hi (Nat.not_lt_zero _))
  have HPC := hidQ hpc1
  have HN := hidQ hj.out.2.1
  clear hj
  obtain ⟨c1, c2, ea, ec, c3, c4⟩ := hpc1 i hi
  have C4 := hidQ c4
  have hel := c4.1
  unfold maxLen at hel
  have hz1 : b1 < w.heap.size := cellLt c1
  clear hpc1 c4
  cases hk : inB js[i].kind 1 4
  · have HX := hidQ (jointC_3a (js := js) (np := pl) (i := i) hk)
    go_enter Tryz.func118, Tryz.ntmps118
    go_wp2_with (go_at_call 21; refine (l1in_any _ _ _ _).mono ?_; rintro e w' ⟨rfl, rfl⟩)
    go_ret
    exact ⟨ret_int HX.out.symm, (by repeat (first | exact Below.refl _ _ | assumption | refine Below.drew ?_ | refine bdrewN ?_ _ | refine Below.setCell ?_ (by first | omega | (simp; done) | (simp; omega)) _ | refine Below.alloc ?_ (by first | omega | (simp; done) | (simp; omega)) _))⟩
  · cases hk2 : ((js[i].ends.length : Int) == js[i].kind)
    · have HX := hidQ (jointC_3b (js := js) (np := pl) (i := i) hk2)
      go_enter Tryz.func118, Tryz.ntmps118
      go_wp2_with (go_at_call 21; refine (l1in_any _ _ _ _).mono ?_; rintro e w' ⟨rfl, rfl⟩)
      go_ret
      exact ⟨ret_int HX.out.symm, (by repeat (first | exact Below.refl _ _ | assumption | refine Below.drew ?_ | refine bdrewN ?_ _ | refine Below.setCell ?_ (by first | omega | (simp; done) | (simp; omega)) _ | refine Below.alloc ?_ (by first | omega | (simp; done) | (simp; omega)) _))⟩
    · go_enter Tryz.func118, Tryz.ntmps118
      go_wp2_with (go_at_call 21; refine (l1in_any _ _ _ _).mono ?_; rintro e w' ⟨rfl, rfl⟩)
      have HK := hidQ hk
      have HK2 := hidQ hk2
      have hbn : ((js[i].ends.length : Int) != js[i].kind) = false := by rw [bne, hk2]; rfl
      simp only [hbn]
      clear hk hk2 hbn
      generalize hW : (w.alloc (Obj.cells #[Value.slice pa pl pc, Value.slice (some ⟨b1, off1, none⟩) js.length jc] 34)).alloc (Obj.cells #[Value.int IntKind.i64 js[i].kind, Value.string js[i].name, Value.slice ea js[i].ends.length ec] 115) = W
      have e0 : W.cell? ⟨w.heap.size, 0, none⟩ = some (.slice pa pl pc) := by rw [← hW]; simp [go_sem]
      have e1 : W.cell? ⟨w.heap.size, 1, none⟩ = some (.slice (some ⟨b1, off1, none⟩) js.length jc) := by rw [← hW]; simp [go_sem]
      have g0 : W.cell? ⟨w.heap.size + 1, 0, none⟩ = some (.int .i64 js[i].kind) := by rw [← hW]; simp [go_sem]
      have g1 : W.cell? ⟨w.heap.size + 1, 1, none⟩ = some (.string js[i].name) := by rw [← hW]; simp [go_sem]
      have g2 : W.cell? ⟨w.heap.size + 1, 2, none⟩ = some (.slice ea js[i].ends.length ec) := by rw [← hW]; simp [go_sem]
      have hz : w.heap.size + 2 = W.heap.size := by rw [← hW]; simp
      have hbW : Below w.heap.size w W := by rw [← hW]; exact (by repeat (first | exact Below.refl _ _ | assumption | refine Below.drew ?_ | refine bdrewN ?_ _ | refine Below.setCell ?_ (by first | omega | (simp; done) | (simp; omega)) _ | refine Below.alloc ?_ (by first | omega | (simp; done) | (simp; omega)) _))
      clear hW c1 c2 c3
      go_loopw [29] (fun c wr => ∃ (m : Nat), m ≤ js[i].ends.length ∧ c = .int .i64 m ∧ Hid (∀ q (hq : q < js[i].ends.length), q < m → endB pl js[i].ends[q].piece js[i].ends[q].side = true) ∧ Below W.heap.size W wr) (fun c _ => js[i].ends.length - (intOf c).toNat)
      case atStart => exact ⟨0, Nat.zero_le _, rfl, (fun q _ h => absurd h (Nat.not_lt_zero q)), (by repeat (first | exact Below.refl _ _ | assumption | refine Below.drew ?_ | refine bdrewN ?_ _ | refine Below.setCell ?_ (by first | omega | (simp; done) | (simp; omega)) _ | refine Below.alloc ?_ (by first | omega | (simp; done) | (simp; omega)) _))⟩
      case round =>
        obtain ⟨m, hm, rfl, HQ, hb⟩ := hrel
        have hbs := hb.size
        have hz2 : w.heap.size + 1 < wr.heap.size := by omega
        have hz3 : w.heap.size < wr.heap.size := by omega
        have e0' := cell_later hb e0
        have e1' := cell_later hb e1
        have g0' := cell_later hb g0
        have g1' := cell_later hb g1
        by_cases hm' : m < js[i].ends.length
        · obtain ⟨b2, off2, rfl, hpc2⟩ := C4.out.2.resolve_left (fun h => by rw [h] at hm'; exact absurd hm' (Nat.not_lt_zero _))
          obtain ⟨d1, d2⟩ := ((hpc2.below hbW).below hb) m hm'
          clear hpc2
          go_wp2_with fail
          refine (l1end_any _ _ _ _ _ _ _ _ _ hpl).mono ?_
          rintro e w2 ⟨rfl, hb2⟩
          have hb3 : Below W.heap.size W w2 := Below.trans (by repeat (first | exact Below.refl _ _ | assumption | refine Below.drew ?_ | refine bdrewN ?_ _ | refine Below.setCell ?_ (by first | omega | (simp; done) | (simp; omega)) _ | refine Below.alloc ?_ (by first | omega | (simp; done) | (simp; omega)) _)) (hb2.mono (by simp; omega))
          clear hb2 d1 d2 e0' e1' g0' g1' hb
          cases hE : endB pl js[i].ends[m].piece js[i].ends[m].side
          · have HX := hidQ (jointC_3c (js := js) (np := pl) (i := i) m hm' hE)
            clear hE
            go_wp2_with fail
            go_ret
            exact ⟨ret_int HX.out.symm, hbW.trans (hb3.mono hbW.size)⟩
          · have HQ2 : Hid (∀ q (hq : q < js[i].ends.length), q < m + 1 → endB pl js[i].ends[q].piece js[i].ends[q].side = true) := by
              intro q hq hqm
              by_cases e : q < m
              · exact HQ.out q hq e
              · have : q = m := by omega
                subst this; exact hE
            clear hE HQ
            go_wp2_with fail
            go_roundw
            case rel => exact ⟨m + 1, by omega, by go_num, HQ2, hb3⟩
            case measure => simp [intOf]; omega
        · have H3 : Hid (ok3 pl js[i] = true) := ok3_of HK.out HK2.out (fun q hq => HQ.out q hq (by omega))
          clear HQ
          have hbF := hidQ (hbW.trans (hb.mono hbW.size))
          have HB := hidQ hb
          by_cases hk3 : js[i].kind < 3
          · by_cases hne : js[i].name = ⟨#[]⟩
            · have HX := hidQ (jointC_0a (js := js) (i := i) H3.out hk3 hne)
              rw [hne] at g1'
              clear hne
              go_wp2_with fail
              go_ret
              exact ⟨ret_int HX.out.symm, hbF.out⟩
            · have HX := hidQ (jointC_4a (js := js) (i := i) H3.out hk3 hne)
              have hne' := emptyS_ne hne
              go_wp2_with fail
              go_ret
              exact ⟨ret_int HX.out.symm, hbF.out⟩
          · have HK3 := hidQ hk3
            cases hnb : nameB js[i].name
            · have HX := hidQ (jointC_4b (js := js) (i := i) H3.out hk3 hnb)
              go_wp2_with (go_at_call 79; refine (l1name_any _ _ (HN.out _ (List.getElem_mem hi))).mono ?_; rintro e w' ⟨rfl, rfl⟩)
              go_ret
              exact ⟨ret_int HX.out.symm, hbF.out⟩
            · go_wp2_with (go_at_call 79; refine (l1name_any _ _ (HN.out _ (List.getElem_mem hi))).mono ?_; rintro e w' ⟨rfl, rfl⟩)
              have HNB := hidQ hnb
              clear hnb
              clear hb
              go_loopw [8] (fun c wr => ∃ (q : Nat), q ≤ i ∧ c = .int .i64 q ∧ Hid (∀ m (hm : m < js.length), m < q → js[m].name ≠ js[i].name) ∧ Below W.heap.size W wr) (fun c _ => i - (intOf c).toNat)
              case atStart => exact ⟨0, Nat.zero_le _, rfl, (fun q _ h => absurd h (Nat.not_lt_zero q)), HB.out⟩
              case round =>
                clear e0' e1' g0' g1' hbF hbs hz2 hz3
                obtain ⟨q, hq, rfl, HQ, hb⟩ := hrel
                have hbs := hb.size
                have hz2 : w.heap.size + 1 < wr.heap.size := by omega
                have hz3 : w.heap.size < wr.heap.size := by omega
                have e1' := cell_later hb e1
                have g1' := cell_later hb g1
                have hbF := hidQ (hbW.trans (hb.mono hbW.size))
                by_cases hq' : q < i
                · have hqj : q < js.length := by omega
                  obtain ⟨x1, c2, x2⟩ := ((HPC.out.below hbW).below hb) q hqj
                  clear x1 x2
                  by_cases hne : js[q].name = js[i].name
                  · have HX := hidQ (jointC_4c (js := js) (i := i) H3.out (by have := HK3.out; omega) (aheadB_hit hq' hqj hne))
                    rw [hne] at c2
                    clear hne
                    go_wp2_with fail
                    go_quiet (fail)
                    go_wp2_with fail
                    go_ret
                    exact ⟨ret_int HX.out.symm, (by have := hbF.out; exact (by repeat (first | exact Below.refl _ _ | assumption | refine Below.drew ?_ | refine bdrewN ?_ _ | refine Below.setCell ?_ (by first | omega | (simp; done) | (simp; omega)) _ | refine Below.alloc ?_ (by first | omega | (simp; done) | (simp; omega)) _)))⟩
                  · have HQ2 : Hid (∀ m (hm : m < js.length), m < q + 1 → js[m].name ≠ js[i].name) := by
                      intro m hm hmq
                      by_cases e : m < q
                      · exact HQ.out m hm e
                      · have : m = q := by omega
                        subst this; exact hne
                    have hne' := beqS_ne hne
                    clear hne HQ
                    go_wp2_with fail
                    go_quiet (fail)
                    go_wp2_with fail
                    go_roundw
                    case rel => exact ⟨q + 1, by omega, by go_num, HQ2, (by repeat (first | exact Below.refl _ _ | assumption | refine Below.drew ?_ | refine bdrewN ?_ _ | refine Below.setCell ?_ (by first | omega | (simp; done) | (simp; omega)) _ | refine Below.alloc ?_ (by first | omega | (simp; done) | (simp; omega)) _))⟩
                    case measure => simp [intOf]; omega
                · have HX := hidQ (jointC_0b (js := js) (i := i) H3.out (by have := HK3.out; omega) HNB.out (aheadB_none (fun m hm hmi => HQ.out m hm (by omega))))
                  go_wp2_with fail
                  go_ret
                  exact ⟨ret_int HX.out.symm, hbF.out⟩

end Go.Proofs.YtmkdgnmmebldgaaGreat
