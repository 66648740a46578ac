import Derived.Test.YtmkdgnmmebldgaaAp4
import Derived.RegionTactic
import Derived.Deep.RegionWith
import Derived.Deep.QuietTactic
import Derived.BigQuiet
namespace Go.Proofs.Ytmkdgnmmebldgaa
open Go.RowKit

theorem bcell' {W w1 : World} (hb : Below W.heap.size W w1) : (∀ b o, b < W.heap.size → w1.cell? ⟨b, o, none⟩ = W.cell? ⟨b, o, none⟩) :=
  fun b o h => hb.cell (p := ⟨b, o, none⟩) h

set_option maxHeartbeats 1000000 in
theorem l1uses_any (pa ja : Option Addr) (pl pc jc : Nat) (js : List MJoint) (p s : Int) (w : World) (hj : Hid (JointsAt w ja js)) (hn : endsNo js ≤ 1000000) :
    Calls Try.prog 60 #[.agg #[.slice pa pl pc, .slice ja js.length jc], .agg #[.int .i64 p, .int .i64 s]] w fun e w' => e = .returned (.int .i64 (uses js p s)) ∧ Below w.heap.size w w' := by
  have hl := hj.out.1
  unfold maxLen at hl
  have HU : Hid (∀ k, uses (js.take k) p s ≤ 1000000) := fun k => Nat.le_trans (uses_le js p s k) hn
  clear hn
  go_enter Try.func60, Try.ntmps60
  go_wp2_with fail
  generalize hW : (w.alloc (Obj.cells #[Value.slice pa pl pc, Value.slice ja js.length jc] 26)).alloc (Obj.cells #[Value.int IntKind.i64 p, Value.int IntKind.i64 s] 139) = W
  have e0 : W.cell? ⟨w.heap.size + 1, 0, none⟩ = some (.int .i64 p) := by rw [← hW]; simp [go_sem]
  have e1 : W.cell? ⟨w.heap.size + 1, 1, none⟩ = some (.int .i64 s) := by rw [← hW]; simp [go_sem]
  have hz : w.heap.size + 2 = W.heap.size := by rw [← hW]; simp
  have hbW : Below w.heap.size w W := by rw [← hW]; exact (by repeat (first | exact Below.refl _ _ | assumption | refine Below.drew ?_ | refine bdrewN ?_ _ | refine Below.setCell ?_ (by first | omega | (simp; done) | (simp; omega)) _ | refine Below.alloc ?_ (by first | omega | (simp; done) | (simp; omega)) _))
  clear hW
  go_loopw [5, 13] (fun c i wr => ∃ (k : Nat), k ≤ js.length ∧ i = .int .i64 k ∧ c = .int .i64 (uses (js.take k) p s) ∧ Below W.heap.size W wr) (fun _ i _ => js.length - (intOf i).toNat)
  case atStart => exact ⟨0, Nat.zero_le _, rfl, rfl, (by repeat (first | exact Below.refl _ _ | assumption | refine Below.drew ?_ | refine bdrewN ?_ _ | refine Below.setCell ?_ (by first | omega | (simp; done) | (simp; omega)) _ | refine Below.alloc ?_ (by first | omega | (simp; done) | (simp; omega)) _))⟩
  case round =>
    obtain ⟨k, hk, rfl, rfl, hb⟩ := hrel
    by_cases hk' : k < js.length
    · obtain ⟨b1, off1, rfl, hpc1⟩ := hj.out.2.2.resolve_left (fun h => by rw [h] at hk'; exact absurd hk' (Nat.not_lt_zero _))
      obtain ⟨c1, c2, ea, ec, c3, c4⟩ := (hpc1.below hbW) k hk'
      have C4 := hidQ c4
      replace c1 := cell_later hb c1
      replace c2 := cell_later hb c2
      replace c3 := cell_later hb c3
      have hel := c4.1
      unfold maxLen at hel
      clear hpc1 c4
      have hbs := hb.size
      have hu1 := HU.out k
      have hu2 := HU.out (k + 1)
      have HU2 : Hid (uses (js.take (k + 1)) p s = uses (js.take k) p s + usesIn js[k].ends p s) := uses_succ js p s k hk'
      have hu3 : usesIn js[k].ends p s ≤ 1000000 := by have := HU2.out; omega
      have HM : Hid (∀ m, usesIn (js[k].ends.take m) p s ≤ usesIn js[k].ends p s) := fun m => (List.take_sublist m js[k].ends).countP_le
      go_wp2_with fail
      go_loopw [5, 20] (fun c i wr2 => ∃ (m : Nat), m ≤ js[k].ends.length ∧ i = .int .i64 m ∧ c = .int .i64 ((uses (js.take k) p s : Int) + (usesIn (js[k].ends.take m) p s : Int)) ∧ Below W.heap.size W wr2) (fun _ i _ => js[k].ends.length - (intOf i).toNat)
      case atStart => exact ⟨0, Nat.zero_le _, rfl, (congrArg (Value.int IntKind.i64) (Int.add_zero _)).symm, (by repeat (first | exact Below.refl _ _ | assumption | refine Below.drew ?_ | refine bdrewN ?_ _ | refine Below.setCell ?_ (by first | omega | (simp; done) | (simp; omega)) _ | refine Below.alloc ?_ (by first | omega | (simp; done) | (simp; omega)) _))⟩
      case round =>
        clear c1 c2 c3 hb hbs
        obtain ⟨m, hm, rfl, rfl, hb⟩ := hrel
        have hbs := hb.size
        have hu4 := HM.out m
        by_cases hm' : m < js[k].ends.length
        · obtain ⟨b2, off2, rfl, hpc2⟩ := C4.out.2.resolve_left (fun h => by rw [h] at hm'; exact absurd hm' (Nat.not_lt_zero _))
          obtain ⟨d1, d2⟩ := (hpc2.below hb) m hm'
          have hz2 : w.heap.size + 1 < _ := Nat.lt_of_lt_of_le (by omega : w.heap.size + 1 < W.heap.size) hb.size
          have f0 := cell_later hb e0
          have f1 := cell_later hb e1
          clear hpc2
          have HS : Hid (usesIn (js[k].ends.take (m + 1)) p s = usesIn (js[k].ends.take m) p s + if (js[k].ends[m].piece == p && js[k].ends[m].side == s) = true then 1 else 0) := usesIn_succ _ p s m hm'
          cases h1 : (js[k].ends[m].piece == p) <;> cases h2 : (js[k].ends[m].side == s)
          all_goals
            have HS2 := HS.out
            rw [h1, h2] at HS2
            simp at HS2
            have HS3 := hidQ HS2
            clear HS HS2
            go_wp2_with fail
            go_roundw
            case rel => exact ⟨m + 1, by omega, by go_num, by rw [HS3.out] <;> go_num, (by repeat (first | exact Below.refl _ _ | assumption | refine Below.drew ?_ | refine bdrewN ?_ _ | refine Below.setCell ?_ (by first | omega | (simp; done) | (simp; omega)) _ | refine Below.alloc ?_ (by first | omega | (simp; done) | (simp; omega)) _))⟩
            case measure => simp [intOf]; omega
        · have HX : Hid ((uses (js.take k) p s : Int) + (usesIn (js[k].ends.take m) p s : Int) = (uses (js.take (k + 1)) p s : Int)) := by
            have := HU2.out
            rw [List.take_of_length_le (l := js[k].ends) (by omega)]
            unfold Hid
            omega
          go_wp2_with fail
          go_roundw
          case rel => exact ⟨k + 1, by omega, by go_num, by rw [HX.out], hb⟩
          case measure => simp [intOf]; omega
    · have HX : Hid (js.take k = js) := List.take_of_length_le (by omega)
      go_wp2_with fail
      go_ret
      exact ⟨ret_int (by rw [HX.out]), hbW.trans (hb.mono hbW.size)⟩

end Go.Proofs.Ytmkdgnmmebldgaa

namespace Go.Proofs.Ytmkdgnmmebldgaa
open Go.RowKit

set_option maxHeartbeats 1000000 in
theorem l1joint_any (pa ja : Option Addr) (pl pc jc : Nat) (js : List MJoint) (i : Nat) (hi : i < js.length) (w : World) (hj : Hid (JointsAt w ja js)) (hpl : pl ≤ maxLen) :
    Calls Try.prog 59 #[.agg #[.slice pa pl pc, .slice ja js.length jc], .int .i64 i] w fun e w' => e = .returned (.int .i64 (jointC js pl i js[i])) ∧ Below w.heap.size w w' := by
  have hl := hj.out.1
  unfold maxLen at hl
  obtain ⟨b1, off1, rfl, hpc1⟩ := hj.out.2.2.resolve_left (fun h => by rw [h] at hi; exact absurd hi (Nat.not_lt_zero _))
  have HPC := hidQ hpc1
  have HN := hidQ hj.out.2.1
  clear hj
  obtain ⟨c1, c2, ea, ec, c3, c4⟩ := hpc1 i hi
  have C4 := hidQ c4
  have hel := c4.1
  unfold maxLen at hel
  have hz1 : b1 < w.heap.size := cellLt c1
  clear hpc1 c4
  cases hk : inB js[i].kind 1 4
  · have HX := hidQ (jointC_3a (js := js) (np := pl) (i := i) hk)
    go_enter Try.func59, Try.ntmps59
    go_wp2_with (go_at_call 43; refine (l1in_any _ _ _ _).mono ?_; rintro e w' ⟨rfl, rfl⟩)
    go_ret
    exact ⟨ret_int HX.out.symm, (by repeat (first | exact Below.refl _ _ | assumption | refine Below.drew ?_ | refine bdrewN ?_ _ | refine Below.setCell ?_ (by first | omega | (simp; done) | (simp; omega)) _ | refine Below.alloc ?_ (by first | omega | (simp; done) | (simp; omega)) _))⟩
  · cases hk2 : ((js[i].ends.length : Int) == js[i].kind)
    · have HX := hidQ (jointC_3b (js := js) (np := pl) (i := i) hk2)
      go_enter Try.func59, Try.ntmps59
      go_wp2_with (go_at_call 43; refine (l1in_any _ _ _ _).mono ?_; rintro e w' ⟨rfl, rfl⟩)
      go_ret
      exact ⟨ret_int HX.out.symm, (by repeat (first | exact Below.refl _ _ | assumption | refine Below.drew ?_ | refine bdrewN ?_ _ | refine Below.setCell ?_ (by first | omega | (simp; done) | (simp; omega)) _ | refine Below.alloc ?_ (by first | omega | (simp; done) | (simp; omega)) _))⟩
    · go_enter Try.func59, Try.ntmps59
      go_wp2_with (go_at_call 43; refine (l1in_any _ _ _ _).mono ?_; rintro e w' ⟨rfl, rfl⟩)
      have HK := hidQ hk
      have HK2 := hidQ hk2
      have hbn : ((js[i].ends.length : Int) != js[i].kind) = false := by rw [bne, hk2]; rfl
      simp only [hbn]
      clear hk hk2 hbn
      generalize hW : (w.alloc (Obj.cells #[Value.slice pa pl pc, Value.slice (some ⟨b1, off1, none⟩) js.length jc] 26)).alloc (Obj.cells #[Value.int IntKind.i64 js[i].kind, Value.string js[i].name, Value.slice ea js[i].ends.length ec] 182) = W
      have e0 : W.cell? ⟨w.heap.size, 0, none⟩ = some (.slice pa pl pc) := by rw [← hW]; simp [go_sem]
      have e1 : W.cell? ⟨w.heap.size, 1, none⟩ = some (.slice (some ⟨b1, off1, none⟩) js.length jc) := by rw [← hW]; simp [go_sem]
      have g0 : W.cell? ⟨w.heap.size + 1, 0, none⟩ = some (.int .i64 js[i].kind) := by rw [← hW]; simp [go_sem]
      have g1 : W.cell? ⟨w.heap.size + 1, 1, none⟩ = some (.string js[i].name) := by rw [← hW]; simp [go_sem]
      have g2 : W.cell? ⟨w.heap.size + 1, 2, none⟩ = some (.slice ea js[i].ends.length ec) := by rw [← hW]; simp [go_sem]
      have hz : w.heap.size + 2 = W.heap.size := by rw [← hW]; simp
      have hbW : Below w.heap.size w W := by rw [← hW]; exact (by repeat (first | exact Below.refl _ _ | assumption | refine Below.drew ?_ | refine bdrewN ?_ _ | refine Below.setCell ?_ (by first | omega | (simp; done) | (simp; omega)) _ | refine Below.alloc ?_ (by first | omega | (simp; done) | (simp; omega)) _))
      clear hW c1 c2 c3
      go_loopw [29] (fun c wr => ∃ (m : Nat), m ≤ js[i].ends.length ∧ c = .int .i64 m ∧ Hid (∀ q (hq : q < js[i].ends.length), q < m → endB pl js[i].ends[q].piece js[i].ends[q].side = true) ∧ Below W.heap.size W wr) (fun c _ => js[i].ends.length - (intOf c).toNat)
      case atStart => exact ⟨0, Nat.zero_le _, rfl, (fun q _ h => absurd h (Nat.not_lt_zero q)), (by repeat (first | exact Below.refl _ _ | assumption | refine Below.drew ?_ | refine bdrewN ?_ _ | refine Below.setCell ?_ (by first | omega | (simp; done) | (simp; omega)) _ | refine Below.alloc ?_ (by first | omega | (simp; done) | (simp; omega)) _))⟩
      case round =>
        obtain ⟨m, hm, rfl, HQ, hb⟩ := hrel
        have hbs := hb.size
        have hz2 : w.heap.size + 1 < wr.heap.size := by omega
        have hz3 : w.heap.size < wr.heap.size := by omega
        have e0' := cell_later hb e0
        have e1' := cell_later hb e1
        have g0' := cell_later hb g0
        have g1' := cell_later hb g1
        by_cases hm' : m < js[i].ends.length
        · obtain ⟨b2, off2, rfl, hpc2⟩ := C4.out.2.resolve_left (fun h => by rw [h] at hm'; exact absurd hm' (Nat.not_lt_zero _))
          obtain ⟨d1, d2⟩ := ((hpc2.below hbW).below hb) m hm'
          clear hpc2
          go_wp2_with fail
          refine (l1end_any _ _ _ _ _ _ _ _ _ hpl).mono ?_
          rintro e w2 ⟨rfl, hb2⟩
          have hb3 : Below W.heap.size W w2 := Below.trans (by repeat (first | exact Below.refl _ _ | assumption | refine Below.drew ?_ | refine bdrewN ?_ _ | refine Below.setCell ?_ (by first | omega | (simp; done) | (simp; omega)) _ | refine Below.alloc ?_ (by first | omega | (simp; done) | (simp; omega)) _)) (hb2.mono (by simp; omega))
          clear hb2 d1 d2 e0' e1' g0' g1' hb
          cases hE : endB pl js[i].ends[m].piece js[i].ends[m].side
          · have HX := hidQ (jointC_3c (js := js) (np := pl) (i := i) m hm' hE)
            clear hE
            go_wp2_with fail
            go_ret
            exact ⟨ret_int HX.out.symm, hbW.trans (hb3.mono hbW.size)⟩
          · have HQ2 : Hid (∀ q (hq : q < js[i].ends.length), q < m + 1 → endB pl js[i].ends[q].piece js[i].ends[q].side = true) := by
              intro q hq hqm
              by_cases e : q < m
              · exact HQ.out q hq e
              · have : q = m := by omega
                subst this; exact hE
            clear hE HQ
            go_wp2_with fail
            go_roundw
            case rel => exact ⟨m + 1, by omega, by go_num, HQ2, hb3⟩
            case measure => simp [intOf]; omega
        · have H3 : Hid (ok3 pl js[i] = true) := ok3_of HK.out HK2.out (fun q hq => HQ.out q hq (by omega))
          clear HQ
          have hbF := hidQ (hbW.trans (hb.mono hbW.size))
          have HB := hidQ hb
          by_cases hk3 : js[i].kind < 3
          · by_cases hne : js[i].name = ⟨#[]⟩
            · have HX := hidQ (jointC_0a (js := js) (i := i) H3.out hk3 hne)
              rw [hne] at g1'
              clear hne
              go_wp2_with fail
              go_ret
              exact ⟨ret_int HX.out.symm, hbF.out⟩
            · have HX := hidQ (jointC_4a (js := js) (i := i) H3.out hk3 hne)
              have hne' := emptyS_ne hne
              go_wp2_with fail
              go_ret
              exact ⟨ret_int HX.out.symm, hbF.out⟩
          · have HK3 := hidQ hk3
            cases hnb : nameB js[i].name
            · have HX := hidQ (jointC_4b (js := js) (i := i) H3.out hk3 hnb)
              go_wp2_with (go_at_call 58; refine (l1name_any _ _ (HN.out _ (List.getElem_mem hi))).mono ?_; rintro e w' ⟨rfl, rfl⟩)
              go_ret
              exact ⟨ret_int HX.out.symm, hbF.out⟩
            · go_wp2_with (go_at_call 58; refine (l1name_any _ _ (HN.out _ (List.getElem_mem hi))).mono ?_; rintro e w' ⟨rfl, rfl⟩)
              have HNB := hidQ hnb
              clear hnb
              clear hb
              go_loopw [8] (fun c wr => ∃ (q : Nat), q ≤ i ∧ c = .int .i64 q ∧ Hid (∀ m (hm : m < js.length), m < q → js[m].name ≠ js[i].name) ∧ Below W.heap.size W wr) (fun c _ => i - (intOf c).toNat)
              case atStart => exact ⟨0, Nat.zero_le _, rfl, (fun q _ h => absurd h (Nat.not_lt_zero q)), HB.out⟩
              case round =>
                clear e0' e1' g0' g1' hbF hbs hz2 hz3
                obtain ⟨q, hq, rfl, HQ, hb⟩ := hrel
                have hbs := hb.size
                have hz2 : w.heap.size + 1 < wr.heap.size := by omega
                have hz3 : w.heap.size < wr.heap.size := by omega
                have e1' := cell_later hb e1
                have g1' := cell_later hb g1
                have hbF := hidQ (hbW.trans (hb.mono hbW.size))
                by_cases hq' : q < i
                · have hqj : q < js.length := by omega
                  obtain ⟨x1, c2, x2⟩ := ((HPC.out.below hbW).below hb) q hqj
                  clear x1 x2
                  by_cases hne : js[q].name = js[i].name
                  · have HX := hidQ (jointC_4c (js := js) (i := i) H3.out (by have := HK3.out; omega) (aheadB_hit hq' hqj hne))
                    rw [hne] at c2
                    clear hne
                    go_wp2_with fail
                    go_quiet (fail)
                    go_wp2_with fail
                    go_ret
                    exact ⟨ret_int HX.out.symm, (by have := hbF.out; exact (by repeat (first | exact Below.refl _ _ | assumption | refine Below.drew ?_ | refine bdrewN ?_ _ | refine Below.setCell ?_ (by first | omega | (simp; done) | (simp; omega)) _ | refine Below.alloc ?_ (by first | omega | (simp; done) | (simp; omega)) _)))⟩
                  · have HQ2 : Hid (∀ m (hm : m < js.length), m < q + 1 → js[m].name ≠ js[i].name) := by
                      intro m hm hmq
                      by_cases e : m < q
                      · exact HQ.out m hm e
                      · have : m = q := by omega
                        subst this; exact hne
                    have hne' := beqS_ne hne
                    clear hne HQ
                    go_wp2_with fail
                    go_quiet (fail)
                    go_wp2_with fail
                    go_roundw
                    case rel => exact ⟨q + 1, by omega, by go_num, HQ2, (by repeat (first | exact Below.refl _ _ | assumption | refine Below.drew ?_ | refine bdrewN ?_ _ | refine Below.setCell ?_ (by first | omega | (simp; done) | (simp; omega)) _ | refine Below.alloc ?_ (by first | omega | (simp; done) | (simp; omega)) _))⟩
                    case measure => simp [intOf]; omega
                · have HX := hidQ (jointC_0b (js := js) (i := i) H3.out (by have := HK3.out; omega) HNB.out (aheadB_none (fun m hm hmi => HQ.out m hm (by omega))))
                  go_wp2_with fail
                  go_ret
                  exact ⟨ret_int HX.out.symm, hbF.out⟩

end Go.Proofs.Ytmkdgnmmebldgaa

namespace Go.Proofs.Ytmkdgnmmebldgaa
open Go.RowKit

def faultV (f : Int × Int) : Value := .agg #[.int .i64 f.1, .int .i64 f.2]
theorem ret_fault {f : Int × Int} {a b : Int} (h : f = (a, b)) : Ending.returned (.agg #[.int .i64 a, .int .i64 b]) = .returned (faultV f) := by rw [h]; rfl

theorem pieceB_of {s : ByteArray} {l sp br : Int} (h1 : nameB s = true) (h2 : inB l 1 10000000 = true) (h3 : inB sp 1 10000 = true) (h4 : inB br 1 1000 = true) : pieceB s l sp br = true := pieceB_t h1 h2 h3 h4

theorem badPi_of_piece {ps : List MPiece} {i : Nat} (h : i < ps.length) (hp : pieceB ps[i].name ps[i].len ps[i].speed ps[i].brake = false) : badPi ps i = true := by
  rw [badPi_at h]; simp [okP, hp]

set_option maxHeartbeats 2000000 in
theorem specNetOk_any (pa ja : Option Addr) (pc jc : Nat) (ps : List MPiece) (js : List MJoint) (w : World) (hp : Hid (PiecesAt w pa ps)) (hj : Hid (JointsAt w ja js)) :
    Calls Try.prog 21 #[.agg #[.slice pa ps.length pc, .slice ja js.length jc]] w fun e w' => e = .returned (faultV (netF ps js)) ∧ Below w.heap.size w w' := by
  have hpl := hp.out.1
  have hjl := hj.out.1
  unfold maxLen at hpl hjl
  cases hS : sizeB ps.length js.length
  · have HX := hidQ (netF_1 hS)
    have hcs : ((ps.length : Int) == 0) = true ∨ ((ps.length : Int) == 0) = false ∧ (100 < (ps.length : Int) ∨ ¬ 100 < (ps.length : Int) ∧ decide (100 < (ps.length : Int)) = false ∧ 120 < (js.length : Int)) := by
      unfold sizeB at hS
      simp only [decide_eq_false_iff_not, beq_iff_eq, beq_eq_false_iff_ne] at hS ⊢
      omega
    clear hS
    rcases hcs with h1 | ⟨h1, h2 | ⟨h2, h3, h4⟩⟩
    all_goals
      go_enter Try.func21, Try.ntmps21
      go_wp2_with fail
      exact bodyPost_ret (v := .agg #[.int .i64 1, .int .i64 0]) (by simp [results, Try.results21, go_sem]) rfl ⟨ret_fault HX.out, (by repeat (first | exact Below.refl _ _ | assumption | refine Below.drew ?_ | refine bdrewN ?_ _ | refine Below.setCell ?_ (by first | omega | (simp; done) | (simp; omega)) _ | refine Below.alloc ?_ (by first | omega | (simp; done) | (simp; omega)) _))⟩
  · have hcs : ((ps.length : Int) == 0) = false ∧ ¬ 100 < (ps.length : Int) ∧ ¬ 120 < (js.length : Int) := by
      unfold sizeB at hS
      simp only [decide_eq_true_eq, beq_eq_false_iff_ne] at hS ⊢
      omega
    have HS := hidQ hS
    clear hS
    obtain ⟨h1, h2, h3⟩ := hcs
    go_enter Try.func21, Try.ntmps21
    go_wp2_with fail
    generalize hW : (w.alloc (Obj.cells #[Value.slice pa ps.length pc, Value.slice ja js.length jc] 26)).alloc (Obj.cells #[Value.int IntKind.i64 0, Value.int IntKind.i64 0] 66) = W
    have e0 : W.cell? ⟨w.heap.size, 0, none⟩ = some (.slice pa ps.length pc) := by rw [← hW]; simp [go_sem]
    have e1 : W.cell? ⟨w.heap.size, 1, none⟩ = some (.slice ja js.length jc) := by rw [← hW]; simp [go_sem]
    have r0 : W.cell? ⟨w.heap.size + 1, 0, none⟩ = some (.int .i64 0) := by rw [← hW]; simp [go_sem]
    have r1 : W.cell? ⟨w.heap.size + 1, 1, none⟩ = some (.int .i64 0) := by rw [← hW]; simp [go_sem]
    have f0 : W.frozen? ⟨w.heap.size + 1, 0, none⟩ = false := by rw [← hW]; simp [go_sem]
    have f1 : W.frozen? ⟨w.heap.size + 1, 1, none⟩ = false := by rw [← hW]; simp [go_sem]
    have hz : w.heap.size + 2 = W.heap.size := by rw [← hW]; simp
    have hbW : Below w.heap.size w W := by rw [← hW]; exact (by repeat (first | exact Below.refl _ _ | assumption | refine Below.drew ?_ | refine bdrewN ?_ _ | refine Below.setCell ?_ (by first | omega | (simp; done) | (simp; omega)) _ | refine Below.alloc ?_ (by first | omega | (simp; done) | (simp; omega)) _))
    clear hW
    go_loopw [30] (fun c wr => ∃ (i : Nat), i ≤ ps.length ∧ c = .int .i64 i ∧ Hid (∀ q, q < i → badPi ps q = false) ∧ Below W.heap.size W wr) (fun c _ => ps.length - (intOf c).toNat)
    case atStart => exact ⟨0, Nat.zero_le _, rfl, (fun q h => absurd h (Nat.not_lt_zero q)), (by repeat (first | exact Below.refl _ _ | assumption | refine Below.drew ?_ | refine bdrewN ?_ _ | refine Below.setCell ?_ (by first | omega | (simp; done) | (simp; omega)) _ | refine Below.alloc ?_ (by first | omega | (simp; done) | (simp; omega)) _))⟩
    case round =>
      obtain ⟨i, hi, rfl, HQ, hb⟩ := hrel
      have hbs := hb.size
      have hz2 : w.heap.size + 1 < wr.heap.size := by omega
      have hz3 : w.heap.size < wr.heap.size := by omega
      have e0' := cell_later hb e0
      have e1' := cell_later hb e1
      have r0' := cell_later hb r0
      have r1' := cell_later hb r1
      have f0' := (hb.frozen (p := ⟨w.heap.size + 1, 0, none⟩) (by simp; omega)).trans f0
      have f1' := (hb.frozen (p := ⟨w.heap.size + 1, 1, none⟩) (by simp; omega)).trans f1
      by_cases hi' : i < ps.length
      · obtain ⟨b1, off1, rfl, hpc⟩ := hp.out.2.2.resolve_left (fun h => by rw [h] at hi'; exact absurd hi' (Nat.not_lt_zero _))
        obtain ⟨c1, c2, c3, c4⟩ := ((hpc.below hbW).below hb) i hi'
        have hsz : ps[i].name.size ≤ maxLen := hp.out.2.1 _ (List.getElem_mem hi')
        have HPC := hidQ hpc
        clear hpc
        cases hP : pieceB ps[i].name ps[i].len ps[i].speed ps[i].brake
        · have HX := hidQ (netF_2 HS.out hi' (badPi_of_piece hi' hP) HQ.out)
          have hcs : nameB ps[i].name = false ∨ nameB ps[i].name = true ∧ (inB ps[i].len 1 10000000 = false ∨ inB ps[i].len 1 10000000 = true ∧ (inB ps[i].speed 1 10000 = false ∨ inB ps[i].speed 1 10000 = true ∧ inB ps[i].brake 1 1000 = false)) := by
            unfold pieceB at hP
            revert hP
            cases nameB ps[i].name <;> cases inB ps[i].len 1 10000000 <;> cases inB ps[i].speed 1 10000 <;> cases inB ps[i].brake 1 1000 <;> simp
          clear hP HQ
          rcases hcs with q1 | ⟨q1, q2 | ⟨q2, q3 | ⟨q3, q4⟩⟩⟩
          all_goals
            go_wp2_with (first | (go_at_call 58; refine (l1name_any _ _ hsz).mono ?_; rintro e w' ⟨rfl, rfl⟩) | (go_at_call 43; refine (l1in_any _ _ _ _).mono ?_; rintro e w' ⟨rfl, rfl⟩))
            refine bodyPost_ret (v := .agg #[.int .i64 2, .int .i64 i]) (by simp [results, Try.results21, go_sem, r0', r1', hz2]) rfl ⟨ret_fault HX.out, ?_⟩
            have hbF := hbW.trans (hb.mono hbW.size)
            exact (by repeat (first | exact Below.refl _ _ | assumption | refine Below.drew ?_ | refine bdrewN ?_ _ | refine Below.setCell ?_ (by first | omega | (simp; done) | (simp; omega)) _ | refine Below.alloc ?_ (by first | omega | (simp; done) | (simp; omega)) _))
        · have q1 : nameB ps[i].name = true := by
            unfold pieceB at hP; revert hP; cases nameB ps[i].name <;> simp
          have q2 : inB ps[i].len 1 10000000 = true := by
            unfold pieceB at hP; revert hP; cases inB ps[i].len 1 10000000 <;> simp
          have q3 : inB ps[i].speed 1 10000 = true := by
            unfold pieceB at hP; revert hP; cases inB ps[i].speed 1 10000 <;> simp
          have q4 : inB ps[i].brake 1 1000 = true := by
            unfold pieceB at hP; revert hP; cases inB ps[i].brake 1 1000 <;> simp
          have HP := hidQ hP
          clear hP
          go_wp2_with (first | (go_at_call 58; refine (l1name_any _ _ hsz).mono ?_; rintro e w' ⟨rfl, rfl⟩) | (go_at_call 43; refine (l1in_any _ _ _ _).mono ?_; rintro e w' ⟨rfl, rfl⟩))
          generalize hW1 : wr.alloc (Obj.cells #[Value.string ps[i].name, Value.int IntKind.i64 ps[i].len, Value.int IntKind.i64 ps[i].speed, Value.int IntKind.i64 ps[i].brake] 55) = W1
          have p0 : W1.cell? ⟨wr.heap.size, 0, none⟩ = some (.string ps[i].name) := by rw [← hW1]; simp [go_sem]
          have hz4 : wr.heap.size + 1 = W1.heap.size := by rw [← hW1]; simp
          have hb1 : Below W.heap.size W W1 := by rw [← hW1]; exact (by repeat (first | exact Below.refl _ _ | assumption | refine Below.drew ?_ | refine bdrewN ?_ _ | refine Below.setCell ?_ (by first | omega | (simp; done) | (simp; omega)) _ | refine Below.alloc ?_ (by first | omega | (simp; done) | (simp; omega)) _))
          clear hW1 q1 q2 q3 q4 c1 c2 c3 c4 e0' e1' r0' r1' f0' f1' hb
          go_loopw [5] (fun c wr2 => ∃ (k : Nat), k ≤ i ∧ c = .int .i64 k ∧ Hid (∀ q (hq : q < ps.length), q < k → ps[q].name ≠ ps[i].name) ∧ Below W1.heap.size W1 wr2) (fun c _ => i - (intOf c).toNat)
          case atStart => exact ⟨0, Nat.zero_le _, rfl, (fun q _ h => absurd h (Nat.not_lt_zero q)), Below.refl _ _⟩
          case round =>
            obtain ⟨k, hk, rfl, HQ2, hb2⟩ := hrel
            have hz5 := Nat.lt_of_lt_of_le (Nat.lt_of_succ_le (Nat.le_of_eq hz4)) hb2.size
            have hb := hb1.trans (hb2.mono hb1.size)
            have p0' := cell_later hb2 p0
            have hbs2 := hb.size
            have hz6 : w.heap.size + 1 < wr.heap.size := by omega
            have e0' := cell_later hb e0
            have r0' := cell_later hb r0
            have r1' := cell_later hb r1
            have f0' := (hb.frozen (p := ⟨w.heap.size + 1, 0, none⟩) (by simp; omega)).trans f0
            have f1' := (hb.frozen (p := ⟨w.heap.size + 1, 1, none⟩) (by simp; omega)).trans f1
            by_cases hk' : k < i
            · have hkp : k < ps.length := by omega
              obtain ⟨c1, c2, c3, c4⟩ := ((HPC.out.below hbW).below hb) k hkp
              clear c2 c3 c4
              by_cases hne : ps[k].name = ps[i].name
              · have HX := hidQ (netF_2 HS.out hi' (by rw [badPi_at hi']; simp [okP, aheadP_hit hk' hkp hne]) HQ.out)
                rw [hne] at c1
                clear hne HQ
                go_wp2_with fail
                go_quiet (fail)
                go_wp2_with fail
                refine bodyPost_ret (v := .agg #[.int .i64 2, .int .i64 i]) (by simp [results, Try.results21, go_sem, r0', r1']) rfl ⟨ret_fault HX.out, ?_⟩
                have hbF := hbW.trans (hb.mono hbW.size)
                exact (by repeat (first | exact Below.refl _ _ | assumption | refine Below.drew ?_ | refine bdrewN ?_ _ | refine Below.setCell ?_ (by first | omega | (simp; done) | (simp; omega)) _ | refine Below.alloc ?_ (by first | omega | (simp; done) | (simp; omega)) _))
              · have HQ3 : Hid (∀ q (hq : q < ps.length), q < k + 1 → ps[q].name ≠ ps[i].name) := by
                  intro m hm hmq
                  by_cases e : m < k
                  · exact HQ2.out m hm e
                  · have : m = k := by omega
                    subst this; exact hne
                have hne' := beqS_ne hne
                clear hne HQ2
                go_wp2_with fail
                go_quiet (fail)
                go_wp2_with fail
                go_roundw
                case rel => exact ⟨k + 1, by omega, by go_num, HQ3, (by repeat (first | exact Below.refl _ _ | assumption | refine Below.drew ?_ | refine bdrewN ?_ _ | refine Below.setCell ?_ (by first | omega | (simp; done) | (simp; omega)) _ | refine Below.alloc ?_ (by first | omega | (simp; done) | (simp; omega)) _))⟩
                case measure => simp [intOf]; omega
            · have HQ4 : Hid (∀ q, q < i + 1 → badPi ps q = false) := by
                intro q hq
                by_cases e : q < i
                · exact HQ.out q e
                · have : q = i := by omega
                  subst this
                  rw [badPi_at hi', okP, HP.out, aheadP_none (fun m hm hmi => HQ2.out m hm (by omega))]
                  rfl
              clear HQ HQ2
              go_wp2_with fail
              go_roundw
              case rel => exact ⟨i + 1, by omega, by go_num, HQ4, hb⟩
              case measure => simp [intOf]; omega
      · have H2 : Hid (∀ q, q < ps.length → badPi ps q = false) := fun q h => HQ.out q (by omega)
        clear HQ
        go_wp2_with fail
        have HB := hidQ hb
        clear e0' e1' r0' r1' f0' f1' hbs hz2 hz3 hb hi hi'
        go_loopw [6] (fun c wr => (c = .int .i64 3 ∨ c = .int .i64 4 ∧ Hid (∀ q, q < js.length → bad3i ps.length js q = false) ∨ c = .int .i64 5 ∧ Hid (∀ q, q < js.length → bad3i ps.length js q = false) ∧ Hid (∀ q, q < js.length → bad4i js q = false)) ∧ Below W.heap.size W wr) (fun c _ => (5 - intOf c).toNat)
        case atStart => exact ⟨Or.inl rfl, HB.out⟩
        case round =>
          clear HB
          obtain ⟨hrel, hb⟩ := hrel
          have hbs := hb.size
          have hz2 : w.heap.size + 1 < wr.heap.size := by omega
          have hz3 : w.heap.size < wr.heap.size := by omega
          have e0' := cell_later hb e0
          have e1' := cell_later hb e1
          have r0' := cell_later hb r0
          have r1' := cell_later hb r1
          have f0' := (hb.frozen (p := ⟨w.heap.size + 1, 0, none⟩) (by simp; omega)).trans f0
          have f1' := (hb.frozen (p := ⟨w.heap.size + 1, 1, none⟩) (by simp; omega)).trans f1
          have hbF := hbW.trans (hb.mono hbW.size)
          have HBF := hidQ hbF
          have HB := hidQ hb
          rcases hrel with rfl | ⟨rfl, H3⟩ | ⟨rfl, H3, H4⟩
          · clear hbF
            go_wp2_with fail
            clear e0' e1' r0' r1' f0' f1' hbs hz2 hz3 hb HBF
            go_loopw [83] (fun c wr => ∃ (i : Nat), i ≤ js.length ∧ c = .int .i64 i ∧ Hid (∀ q, q < i → bad3i ps.length js q = false) ∧ Below W.heap.size W wr) (fun c _ => js.length - (intOf c).toNat)
            case atStart => exact ⟨0, Nat.zero_le _, rfl, (fun q h => absurd h (Nat.not_lt_zero q)), HB.out⟩
            case round =>
              clear HB
              obtain ⟨i, hi, rfl, HQ, hb⟩ := hrel
              have hbs := hb.size
              have hz2 : w.heap.size + 1 < wr.heap.size := by omega
              have hz3 : w.heap.size < wr.heap.size := by omega
              have e0' := cell_later hb e0
              have e1' := cell_later hb e1
              have r0' := cell_later hb r0
              have r1' := cell_later hb r1
              have f0' := (hb.frozen (p := ⟨w.heap.size + 1, 0, none⟩) (by simp; omega)).trans f0
              have f1' := (hb.frozen (p := ⟨w.heap.size + 1, 1, none⟩) (by simp; omega)).trans f1
              have hbF := hbW.trans (hb.mono hbW.size)
              by_cases hi' : i < js.length
              · have HJ := hidQ (hj.out.below hbF)
                have HBF := hidQ hbF
                clear hbF
                go_wp2_with fail
                refine (l1joint_any _ _ _ _ _ _ i hi' _ HJ hpl).mono ?_
                rintro e w2 ⟨rfl, hb2⟩
                have hb3 := hb.trans (hb2.mono hb.size)
                have hb4 := HBF.out.trans (hb2.mono HBF.out.size)
                have r0'' := cell_later hb2 r0'
                have r1'' := cell_later hb2 r1'
                have f0'' := (hb2.frozen (p := ⟨w.heap.size + 1, 0, none⟩) (by simp; omega)).trans f0'
                have f1'' := (hb2.frozen (p := ⟨w.heap.size + 1, 1, none⟩) (by simp; omega)).trans f1'
                clear e0' e1' r0' r1' f0' f1' hb hb2 HBF HJ
                cases ho : ok3 ps.length js[i]
                · have HX := hidQ (netF_3 HS.out H2.out hi' (by rw [bad3i_at hi', ho]; rfl) HQ.out)
                  have hc : jointC js ps.length i js[i] = 3 := by unfold jointC; rw [if_pos ho]
                  rw [hc]
                  clear hc ho
                  go_wp2_with fail
                  refine bodyPost_ret (v := .agg #[.int .i64 3, .int .i64 i]) (by simp [results, Try.results21, go_sem, r0'', r1'']) rfl ⟨ret_fault HX.out, ?_⟩
                  exact (by repeat (first | exact Below.refl _ _ | assumption | refine Below.drew ?_ | refine bdrewN ?_ _ | refine Below.setCell ?_ (by first | omega | (simp; done) | (simp; omega)) _ | refine Below.alloc ?_ (by first | omega | (simp; done) | (simp; omega)) _))
                · have hc : (jointC js ps.length i js[i] == 3) = false := by
                    unfold jointC; rw [if_neg (by simp [ho])]; split <;> rfl
                  have HQ2 : Hid (∀ q, q < i + 1 → bad3i ps.length js q = false) := by
                    intro q hq
                    by_cases e : q < i
                    · exact HQ.out q e
                    · have : q = i := by omega
                      subst this
                      rw [bad3i_at hi', ho]; rfl
                  generalize jointC js ps.length i js[i] = c0 at hc ⊢
                  clear ho HQ
                  go_wp2_with fail
                  go_roundw
                  case rel => exact ⟨i + 1, by omega, by go_num, HQ2, hb3⟩
                  case measure => simp [intOf]; omega
              · have H3 : Hid (∀ q, q < js.length → bad3i ps.length js q = false) := fun q h => HQ.out q (by omega)
                clear HQ
                go_wp2_with fail
                go_roundw
                case rel => exact ⟨Or.inr (Or.inl ⟨rfl, H3⟩), hb⟩
                case measure => simp [intOf]
          · clear hbF
            go_wp2_with fail
            clear e0' e1' r0' r1' f0' f1' hbs hz2 hz3 hb HBF
            go_loopw [83] (fun c wr => ∃ (i : Nat), i ≤ js.length ∧ c = .int .i64 i ∧ Hid (∀ q, q < i → bad4i js q = false) ∧ Below W.heap.size W wr) (fun c _ => js.length - (intOf c).toNat)
            case atStart => exact ⟨0, Nat.zero_le _, rfl, (fun q h => absurd h (Nat.not_lt_zero q)), HB.out⟩
            case round =>
              clear HB
              obtain ⟨i, hi, rfl, HQ, hb⟩ := hrel
              have hbs := hb.size
              have hz2 : w.heap.size + 1 < wr.heap.size := by omega
              have hz3 : w.heap.size < wr.heap.size := by omega
              have e0' := cell_later hb e0
              have e1' := cell_later hb e1
              have r0' := cell_later hb r0
              have r1' := cell_later hb r1
              have f0' := (hb.frozen (p := ⟨w.heap.size + 1, 0, none⟩) (by simp; omega)).trans f0
              have f1' := (hb.frozen (p := ⟨w.heap.size + 1, 1, none⟩) (by simp; omega)).trans f1
              have hbF := hbW.trans (hb.mono hbW.size)
              by_cases hi' : i < js.length
              · have HJ := hidQ (hj.out.below hbF)
                have HBF := hidQ hbF
                clear hbF
                go_wp2_with fail
                refine (l1joint_any _ _ _ _ _ _ i hi' _ HJ hpl).mono ?_
                rintro e w2 ⟨rfl, hb2⟩
                have hb3 := hb.trans (hb2.mono hb.size)
                have hb4 := HBF.out.trans (hb2.mono HBF.out.size)
                have r0'' := cell_later hb2 r0'
                have r1'' := cell_later hb2 r1'
                have f0'' := (hb2.frozen (p := ⟨w.heap.size + 1, 0, none⟩) (by simp; omega)).trans f0'
                have f1'' := (hb2.frozen (p := ⟨w.heap.size + 1, 1, none⟩) (by simp; omega)).trans f1'
                clear e0' e1' r0' r1' f0' f1' hb hb2 HBF HJ
                have h3i : ok3 ps.length js[i] = true := by
                  have := H3.out i hi'
                  rw [bad3i_at hi'] at this
                  simpa using this
                cases ho : ok4 js i js[i]
                · have HX := hidQ (netF_4 HS.out H2.out H3.out hi' (by rw [bad4i_at hi', ho]; rfl) HQ.out)
                  have hc : jointC js ps.length i js[i] = 4 := by unfold jointC; rw [if_neg (by simp [h3i]), if_pos ho]
                  rw [hc]
                  clear hc ho h3i
                  go_wp2_with fail
                  refine bodyPost_ret (v := .agg #[.int .i64 4, .int .i64 i]) (by simp [results, Try.results21, go_sem, r0'', r1'']) rfl ⟨ret_fault HX.out, ?_⟩
                  exact (by repeat (first | exact Below.refl _ _ | assumption | refine Below.drew ?_ | refine bdrewN ?_ _ | refine Below.setCell ?_ (by first | omega | (simp; done) | (simp; omega)) _ | refine Below.alloc ?_ (by first | omega | (simp; done) | (simp; omega)) _))
                · have hc : jointC js ps.length i js[i] = 0 := by
                    unfold jointC; rw [if_neg (by simp [h3i]), if_neg (by simp [ho])]
                  have HQ2 : Hid (∀ q, q < i + 1 → bad4i js q = false) := by
                    intro q hq
                    by_cases e : q < i
                    · exact HQ.out q e
                    · have : q = i := by omega
                      subst this
                      rw [bad4i_at hi', ho]; rfl
                  rw [hc]
                  clear hc ho HQ h3i
                  go_wp2_with fail
                  go_roundw
                  case rel => exact ⟨i + 1, by omega, by go_num, HQ2, hb3⟩
                  case measure => simp [intOf]; omega
              · have H4 : Hid (∀ q, q < js.length → bad4i js q = false) := fun q h => HQ.out q (by omega)
                clear HQ
                go_wp2_with fail
                go_roundw
                case rel => exact ⟨Or.inr (Or.inr ⟨rfl, H3, H4⟩), hb⟩
                case measure => simp [intOf]
          · go_wp2_with fail
            have HE : Hid (endsNo js ≤ 1000000) := by
              have := endsNo_le ps.length js (fun j hj => by
                obtain ⟨q, hq, rfl⟩ := List.getElem_of_mem hj
                have := H3.out q hq
                rw [bad3i_at hq] at this
                simpa using this)
              unfold Hid
              omega
            clear e0' e1' r0' r1' f0' f1' hbs hz2 hz3 hb HBF hbF
            go_loopw [98] (fun c wr => ∃ (i : Nat), i ≤ ps.length ∧ c = .int .i64 i ∧ Hid (∀ q, q < i → bad5i js q = false) ∧ Below W.heap.size W wr) (fun c _ => ps.length - (intOf c).toNat)
            case atStart => exact ⟨0, Nat.zero_le _, rfl, (fun q h => absurd h (Nat.not_lt_zero q)), HB.out⟩
            case round =>
              clear HB
              obtain ⟨i, hi, rfl, HQ, hb⟩ := hrel
              have HB := hidQ hb
              have hbs := hb.size
              have hz2 : w.heap.size + 1 < wr.heap.size := by omega
              have hz3 : w.heap.size < wr.heap.size := by omega
              have e0' := cell_later hb e0
              have e1' := cell_later hb e1
              have r0' := cell_later hb r0
              have r1' := cell_later hb r1
              have f0' := (hb.frozen (p := ⟨w.heap.size + 1, 0, none⟩) (by simp; omega)).trans f0
              have f1' := (hb.frozen (p := ⟨w.heap.size + 1, 1, none⟩) (by simp; omega)).trans f1
              have hbF := hbW.trans (hb.mono hbW.size)
              by_cases hi' : i < ps.length
              · clear hbF
                go_wp2_with fail
                clear e0' e1' r0' r1' f0' f1' hbs hz2 hz3 hb
                go_loopw [9] (fun c wr => (c = .int .i64 0 ∨ c = .int .i64 1 ∧ Hid (uses js (i : Int) 0 = 1) ∨ c = .int .i64 2 ∧ Hid (uses js (i : Int) 0 = 1) ∧ Hid (uses js (i : Int) 1 = 1)) ∧ Below W.heap.size W wr) (fun c _ => (2 - intOf c).toNat)
                case atStart => exact ⟨Or.inl rfl, HB.out⟩
                case round =>
                clear HB
                obtain ⟨hrel, hb⟩ := hrel
                have hbs := hb.size
                have hz2 : w.heap.size + 1 < wr.heap.size := by omega
                have hz3 : w.heap.size < wr.heap.size := by omega
                have e0' := cell_later hb e0
                have e1' := cell_later hb e1
                have r0' := cell_later hb r0
                have r1' := cell_later hb r1
                have f0' := (hb.frozen (p := ⟨w.heap.size + 1, 0, none⟩) (by simp; omega)).trans f0
                have f1' := (hb.frozen (p := ⟨w.heap.size + 1, 1, none⟩) (by simp; omega)).trans f1
                have hbF := hbW.trans (hb.mono hbW.size)
                rcases hrel with rfl | ⟨rfl, HU0⟩ | ⟨rfl, HU0, HU1⟩
                · have HJ := hidQ (hj.out.below hbF)
                  have HBF := hidQ hbF
                  clear hbF
                  go_wp2_with fail
                  refine (l1uses_any _ _ _ _ _ _ (i : Int) 0 _ HJ HE.out).mono ?_
                  rintro e w2 ⟨rfl, hb2⟩
                  have hb3 := hb.trans (hb2.mono hb.size)
                  have hb4 := HBF.out.trans (hb2.mono HBF.out.size)
                  have r0'' := cell_later hb2 r0'
                  have r1'' := cell_later hb2 r1'
                  have f0'' := (hb2.frozen (p := ⟨w.heap.size + 1, 0, none⟩) (by simp; omega)).trans f0'
                  have f1'' := (hb2.frozen (p := ⟨w.heap.size + 1, 1, none⟩) (by simp; omega)).trans f1'
                  clear e0' e1' r0' r1' f0' f1' hb hb2 HBF HJ
                  by_cases hu : uses js (i : Int) 0 = 1
                  · have HU1 := hidQ hu
                    rw [hu]
                    clear hu
                    go_wp2_with fail
                    go_roundw
                    case rel => exact ⟨Or.inr (Or.inl ⟨rfl, HU1⟩), hb3⟩
                    case measure => simp [intOf]
                  · have HX := hidQ (netF_5 HS.out H2.out H3.out H4.out hi' (by unfold bad5i; simp [hu]) HQ.out)
                    have hc : (((uses js (i : Int) 0 : Nat) : Int) == 1) = false := by rw [beq_eq_false_iff_ne]; omega
                    generalize ((uses js (i : Int) 0 : Nat) : Int) = c0 at hc ⊢
                    clear hu
                    go_wp2_with fail
                    refine bodyPost_ret (v := .agg #[.int .i64 5, .int .i64 i]) (by simp [results, Try.results21, go_sem, r0'', r1'']) rfl ⟨ret_fault HX.out, ?_⟩
                    exact (by repeat (first | exact Below.refl _ _ | assumption | refine Below.drew ?_ | refine bdrewN ?_ _ | refine Below.setCell ?_ (by first | omega | (simp; done) | (simp; omega)) _ | refine Below.alloc ?_ (by first | omega | (simp; done) | (simp; omega)) _))
                · have HJ := hidQ (hj.out.below hbF)
                  have HBF := hidQ hbF
                  clear hbF
                  go_wp2_with fail
                  refine (l1uses_any _ _ _ _ _ _ (i : Int) 1 _ HJ HE.out).mono ?_
                  rintro e w2 ⟨rfl, hb2⟩
                  have hb3 := hb.trans (hb2.mono hb.size)
                  have hb4 := HBF.out.trans (hb2.mono HBF.out.size)
                  have r0'' := cell_later hb2 r0'
                  have r1'' := cell_later hb2 r1'
                  have f0'' := (hb2.frozen (p := ⟨w.heap.size + 1, 0, none⟩) (by simp; omega)).trans f0'
                  have f1'' := (hb2.frozen (p := ⟨w.heap.size + 1, 1, none⟩) (by simp; omega)).trans f1'
                  clear e0' e1' r0' r1' f0' f1' hb hb2 HBF HJ
                  by_cases hu : uses js (i : Int) 1 = 1
                  · have HU1 := hidQ hu
                    rw [hu]
                    clear hu
                    go_wp2_with fail
                    go_roundw
                    case rel => exact ⟨Or.inr (Or.inr ⟨rfl, HU0, HU1⟩), hb3⟩
                    case measure => simp [intOf]
                  · have HX := hidQ (netF_5 HS.out H2.out H3.out H4.out hi' (by unfold bad5i; simp [hu]) HQ.out)
                    have hc : (((uses js (i : Int) 1 : Nat) : Int) == 1) = false := by rw [beq_eq_false_iff_ne]; omega
                    generalize ((uses js (i : Int) 1 : Nat) : Int) = c0 at hc ⊢
                    clear hu
                    go_wp2_with fail
                    refine bodyPost_ret (v := .agg #[.int .i64 5, .int .i64 i]) (by simp [results, Try.results21, go_sem, r0'', r1'']) rfl ⟨ret_fault HX.out, ?_⟩
                    exact (by repeat (first | exact Below.refl _ _ | assumption | refine Below.drew ?_ | refine bdrewN ?_ _ | refine Below.setCell ?_ (by first | omega | (simp; done) | (simp; omega)) _ | refine Below.alloc ?_ (by first | omega | (simp; done) | (simp; omega)) _))
                · have HQ2 : Hid (∀ q, q < i + 1 → bad5i js q = false) := by
                    intro q hq
                    by_cases e : q < i
                    · exact HQ.out q e
                    · have : q = i := by omega
                      subst this
                      unfold bad5i
                      rw [HU0.out, HU1.out]
                      rfl
                  clear HQ HU0 HU1
                  go_wp2_with fail
                  go_roundw
                  case rel => exact ⟨i + 1, by omega, by go_num, HQ2, hb⟩
                  case measure => simp [intOf]; omega
              · have HX := hidQ (netF_0 HS.out H2.out H3.out H4.out (fun q h => HQ.out q (by omega)))
                clear HQ
                go_wp2_with fail
                refine bodyPost_ret (v := .agg #[.int .i64 0, .int .i64 0]) (by simp [results, Try.results21, go_sem, r0', r1']) rfl ⟨ret_fault HX.out, ?_⟩
                exact (by repeat (first | exact Below.refl _ _ | assumption | refine Below.drew ?_ | refine bdrewN ?_ _ | refine Below.setCell ?_ (by first | omega | (simp; done) | (simp; omega)) _ | refine Below.alloc ?_ (by first | omega | (simp; done) | (simp; omega)) _))

end Go.Proofs.Ytmkdgnmmebldgaa
