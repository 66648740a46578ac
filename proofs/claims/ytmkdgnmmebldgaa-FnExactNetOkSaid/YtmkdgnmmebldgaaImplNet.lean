import Derived.Test.YtmkdgnmmebldgaaFwName
import Derived.Test.YtmkdgnmmebldgaaLoose
import Derived.Test.YtmkdgnmmebldgaaSpecNet
namespace Go.Proofs.Ytmkdgnmmebldgaa
open Go.RowKit

theorem firstBad_neg {bad : Nat → Bool} {n : Nat} (h : ¬ 0 ≤ firstBad bad n) : ∀ i, i < n → bad i = false := by
  rcases firstBad_cases bad n with ⟨_, h2⟩ | ⟨i, _, h2, _⟩
  · exact h2
  · exact absurd (by rw [h2]; omega) h
theorem firstBad_pos {bad : Nat → Bool} {n : Nat} (h : 0 ≤ firstBad bad n) : ∃ i : Nat, firstBad bad n = (i : Int) ∧ i < n ∧ bad i = true ∧ ∀ k, k < i → bad k = false := by
  rcases firstBad_cases bad n with ⟨h1, _⟩ | ⟨i, hi, h2, h3⟩
  · rw [h1] at h; omega
  · exact ⟨i, h2, hi, h3⟩

set_option maxHeartbeats 2000000 in
theorem implNetOk_any (pa ja : Option Addr) (pc jc : Nat) (ps : List MPiece) (js : List MJoint) (w : World) (hp : Hid (PiecesAt w pa ps)) (hj : Hid (JointsAt w ja js)) :
    Calls Try.prog 23 #[.agg #[.slice pa ps.length pc, .slice ja js.length jc]] w fun e w' => e = .returned (faultV (netF ps js)) ∧ Below w.heap.size w w' := by
  have hpl := hp.out.1
  have hjl := hj.out.1
  go_enter Try.func23, Try.ntmps23
  go_wp2_with fail
  refine (netSizeOk_any _ _ _ _ _ _ _ hpl hjl).mono ?_
  rintro e w1 ⟨rfl, hb1⟩
  generalize hW : (w.alloc (Obj.cells #[Value.slice pa ps.length pc, Value.slice ja js.length jc] 26)).alloc (Obj.cells #[Value.int IntKind.i64 0, Value.int IntKind.i64 0] 66) = W at hb1
  have e0 : W.cell? ⟨w.heap.size, 0, none⟩ = some (.slice pa ps.length pc) := by rw [← hW]; simp [go_sem]
  have e1 : W.cell? ⟨w.heap.size, 1, none⟩ = some (.slice ja js.length jc) := by rw [← hW]; simp [go_sem]
  have r0 : W.cell? ⟨w.heap.size + 1, 0, none⟩ = some (.int .i64 0) := by rw [← hW]; simp [go_sem]
  have r1 : W.cell? ⟨w.heap.size + 1, 1, none⟩ = some (.int .i64 0) := by rw [← hW]; simp [go_sem]
  have f0 : W.frozen? ⟨w.heap.size + 1, 0, none⟩ = false := by rw [← hW]; simp [go_sem]
  have f1 : W.frozen? ⟨w.heap.size + 1, 1, none⟩ = false := by rw [← hW]; simp [go_sem]
  have hz : w.heap.size + 2 = W.heap.size := by rw [← hW]; simp
  have hzA : w.heap.size + 1 < W.heap.size := by omega
  have hbW : Below w.heap.size w W := by rw [← hW]; exact (by repeat (first | exact Below.refl _ _ | assumption | refine Below.drew ?_ | refine bdrewN ?_ _ | refine Below.setCell ?_ (by first | omega | (simp; done) | (simp; omega)) _ | refine Below.alloc ?_ (by first | omega | (simp; done) | (simp; omega)) _))
  clear hW hz
  have e0' := cell_later hb1 e0
  have e1' := cell_later hb1 e1
  have r0' := cell_later hb1 r0
  have r1' := cell_later hb1 r1
  have f0' := (hb1.frozen (p := ⟨w.heap.size + 1, 0, none⟩) (by exact hzA)).trans f0
  have f1' := (hb1.frozen (p := ⟨w.heap.size + 1, 1, none⟩) (by exact hzA)).trans f1
  have hbF := hbW.trans (hb1.mono hbW.size)
  cases hS : sizeB ps.length js.length
  · have HX := hidQ (netF_1 hS)
    clear hS
    go_wp2_with fail
    exact bodyPost_ret (v := .agg #[.int .i64 1, .int .i64 0]) (by simp [results, Try.results23, go_sem, r0', r1']) rfl ⟨ret_fault HX.out, (by repeat (first | exact Below.refl _ _ | assumption | refine Below.drew ?_ | refine bdrewN ?_ _ | refine Below.setCell ?_ (by first | omega | (simp; done) | (simp; omega)) _ | refine Below.alloc ?_ (by first | omega | (simp; done) | (simp; omega)) _))⟩
  have HS := hidQ hS
  have hsz : ps.length ≤ 100 ∧ js.length ≤ 120 := by
    unfold sizeB at hS
    simp at hS
    omega
  clear hS
  have HPL := hidQ hpl
  have HJL := hidQ hjl
  clear hpl hjl
  go_wp2_with fail
  refine (firstWrongPiece_any _ _ _ _ (hp.out.below hbF) (by omega)).mono ?_
  rintro e w2 ⟨rfl, hb2⟩
  have hb2' := hb1.trans (hb2.mono hb1.size)
  replace e0' := cell_later hb2 e0'
  replace e1' := cell_later hb2 e1'
  replace r0' := cell_later hb2 r0'
  replace r1' := cell_later hb2 r1'
  replace f0' := (hb2'.frozen (p := ⟨w.heap.size + 1, 0, none⟩) (by exact hzA)).trans f0
  replace f1' := (hb2'.frozen (p := ⟨w.heap.size + 1, 1, none⟩) (by exact hzA)).trans f1
  replace hbF := hbW.trans (hb2'.mono hbW.size)
  clear hb1 hb2
  by_cases h2 : 0 ≤ firstBad (badPi ps) ps.length
  · obtain ⟨i, hi1, hi2, hi3, hi4⟩ := firstBad_pos h2
    have HX := hidQ (netF_2 (js := js) HS.out hi2 hi3 hi4)
    rw [hi1]
    clear hi1 hi3 hi4 h2
    go_wp2_with fail
    exact bodyPost_ret (v := .agg #[.int .i64 2, .int .i64 i]) (by simp [results, Try.results23, go_sem, r0', r1']) rfl ⟨ret_fault HX.out, (by repeat (first | exact Below.refl _ _ | assumption | refine Below.drew ?_ | refine bdrewN ?_ _ | refine Below.setCell ?_ (by first | omega | (simp; done) | (simp; omega)) _ | refine Below.alloc ?_ (by first | omega | (simp; done) | (simp; omega)) _))⟩
  have H2 := hidQ (firstBad_neg h2)
  rw [firstBad_none H2.out]
  clear h2
  go_wp2_with fail
  refine (firstWrongJoint_any _ _ _ _ _ _ _ (hj.out.below hbF) HPL.out).mono ?_
  rintro e w3 ⟨rfl, hb3⟩
  have hb3' := hb2'.trans (hb3.mono hb2'.size)
  replace e0' := cell_later hb3 e0'
  replace e1' := cell_later hb3 e1'
  replace r0' := cell_later hb3 r0'
  replace r1' := cell_later hb3 r1'
  replace f0' := (hb3'.frozen (p := ⟨w.heap.size + 1, 0, none⟩) (by exact hzA)).trans f0
  replace f1' := (hb3'.frozen (p := ⟨w.heap.size + 1, 1, none⟩) (by exact hzA)).trans f1
  replace hbF := hbW.trans (hb3'.mono hbW.size)
  clear hb2' hb3
  by_cases h3 : 0 ≤ firstBad (bad3i ps.length js) js.length
  · obtain ⟨i, hi1, hi2, hi3, hi4⟩ := firstBad_pos h3
    have HX := hidQ (netF_3 HS.out H2.out hi2 hi3 hi4)
    rw [hi1]
    clear hi1 hi3 hi4 h3
    go_wp2_with fail
    exact bodyPost_ret (v := .agg #[.int .i64 3, .int .i64 i]) (by simp [results, Try.results23, go_sem, r0', r1']) rfl ⟨ret_fault HX.out, (by repeat (first | exact Below.refl _ _ | assumption | refine Below.drew ?_ | refine bdrewN ?_ _ | refine Below.setCell ?_ (by first | omega | (simp; done) | (simp; omega)) _ | refine Below.alloc ?_ (by first | omega | (simp; done) | (simp; omega)) _))⟩
  have H3 := hidQ (firstBad_neg h3)
  rw [firstBad_none H3.out]
  clear h3
  have HO : Hid (∀ q (h : q < js.length), ok3 ps.length js[q] = true) := by
    intro q h
    have := H3.out q h
    rw [bad3i_at h] at this
    simpa using this
  have HK : Hid (∀ q (h : q < js.length), inB js[q].kind 1 4 = true) := by
    intro q h
    have := HO.out q h
    unfold ok3 at this
    simp only [Bool.and_eq_true] at this
    exact this.1.1
  go_wp2_with fail
  refine (firstWrongJointName_any _ _ _ _ (hj.out.below hbF) (by omega) HK).mono ?_
  rintro e w4 ⟨rfl, hb4⟩
  have hb4' := hb3'.trans (hb4.mono hb3'.size)
  replace e0' := cell_later hb4 e0'
  replace e1' := cell_later hb4 e1'
  replace r0' := cell_later hb4 r0'
  replace r1' := cell_later hb4 r1'
  replace f0' := (hb4'.frozen (p := ⟨w.heap.size + 1, 0, none⟩) (by exact hzA)).trans f0
  replace f1' := (hb4'.frozen (p := ⟨w.heap.size + 1, 1, none⟩) (by exact hzA)).trans f1
  replace hbF := hbW.trans (hb4'.mono hbW.size)
  clear hb3' hb4
  by_cases h4 : 0 ≤ firstBad (bad4i js) js.length
  · obtain ⟨i, hi1, hi2, hi3, hi4⟩ := firstBad_pos h4
    have HX := hidQ (netF_4 HS.out H2.out H3.out hi2 hi3 hi4)
    rw [hi1]
    clear hi1 hi3 hi4 h4
    go_wp2_with fail
    exact bodyPost_ret (v := .agg #[.int .i64 4, .int .i64 i]) (by simp [results, Try.results23, go_sem, r0', r1']) rfl ⟨ret_fault HX.out, (by repeat (first | exact Below.refl _ _ | assumption | refine Below.drew ?_ | refine bdrewN ?_ _ | refine Below.setCell ?_ (by first | omega | (simp; done) | (simp; omega)) _ | refine Below.alloc ?_ (by first | omega | (simp; done) | (simp; omega)) _))⟩
  have H4 := hidQ (firstBad_neg h4)
  rw [firstBad_none H4.out]
  clear h4
  go_wp2_with fail
  refine (firstLoosePiece_any _ _ _ _ _ _ _ (hj.out.below hbF) (by omega) (by omega) HO).mono ?_
  rintro e w5 ⟨rfl, hb5⟩
  have hb5' := hb4'.trans (hb5.mono hb4'.size)
  replace e0' := cell_later hb5 e0'
  replace e1' := cell_later hb5 e1'
  replace r0' := cell_later hb5 r0'
  replace r1' := cell_later hb5 r1'
  replace f0' := (hb5'.frozen (p := ⟨w.heap.size + 1, 0, none⟩) (by exact hzA)).trans f0
  replace f1' := (hb5'.frozen (p := ⟨w.heap.size + 1, 1, none⟩) (by exact hzA)).trans f1
  replace hbF := hbW.trans (hb5'.mono hbW.size)
  clear hb4' hb5
  by_cases h5 : 0 ≤ firstBad (bad5i js) ps.length
  · obtain ⟨i, hi1, hi2, hi3, hi4⟩ := firstBad_pos h5
    have HX := hidQ (netF_5 HS.out H2.out H3.out H4.out hi2 hi3 hi4)
    rw [hi1]
    clear hi1 hi3 hi4 h5
    go_wp2_with fail
    exact bodyPost_ret (v := .agg #[.int .i64 5, .int .i64 i]) (by simp [results, Try.results23, go_sem, r0', r1']) rfl ⟨ret_fault HX.out, (by repeat (first | exact Below.refl _ _ | assumption | refine Below.drew ?_ | refine bdrewN ?_ _ | refine Below.setCell ?_ (by first | omega | (simp; done) | (simp; omega)) _ | refine Below.alloc ?_ (by first | omega | (simp; done) | (simp; omega)) _))⟩
  have HX := hidQ (netF_0 HS.out H2.out H3.out H4.out (firstBad_neg h5))
  rw [firstBad_none (firstBad_neg h5)]
  clear h5
  go_wp2_with fail
  exact bodyPost_ret (v := .agg #[.int .i64 0, .int .i64 0]) (by simp [results, Try.results23, go_sem, r0', r1']) rfl ⟨ret_fault HX.out, (by repeat (first | exact Below.refl _ _ | assumption | refine Below.drew ?_ | refine bdrewN ?_ _ | refine Below.setCell ?_ (by first | omega | (simp; done) | (simp; omega)) _ | refine Below.alloc ?_ (by first | omega | (simp; done) | (simp; omega)) _))⟩

end Go.Proofs.Ytmkdgnmmebldgaa
