import Derived.Test.YtmkdgnmmebldgaaDouble
import Derived.Test.YtmkdgnmmebldgaaImplNet
namespace Go.Proofs.Ytmkdgnmmebldgaa
open Go.RowKit

set_option maxHeartbeats 2000000 in
theorem implSignalsOk_any (pa ja sa : Option Addr) (pc jc sc : Nat) (ps : List MPiece) (js : List MJoint) (ss : List MPiece) (w : World) (hp : Hid (PiecesAt w pa ps)) (hj : Hid (JointsAt w ja js)) (hs : Hid (PiecesAt w sa ss)) :
    Calls Try.prog 29 #[.agg #[.slice pa ps.length pc, .slice ja js.length jc], .slice sa ss.length sc] w fun e w' => e = .returned (faultV (sigF ps js ss)) ∧ Below w.heap.size w w' := by
  have hsl := hs.out.1
  unfold maxLen at hsl
  go_enter Try.func29, Try.ntmps29
  go_wp2_with fail
  refine (implNetOk_any _ _ _ _ _ _ _ (hp.out.below (by repeat (first | exact Below.refl _ _ | assumption | refine Below.drew ?_ | refine bdrewN ?_ _ | refine Below.setCell ?_ (by first | omega | (simp; done) | (simp; omega)) _ | refine Below.alloc ?_ (by first | omega | (simp; done) | (simp; omega)) _))) (hj.out.below (by repeat (first | exact Below.refl _ _ | assumption | refine Below.drew ?_ | refine bdrewN ?_ _ | refine Below.setCell ?_ (by first | omega | (simp; done) | (simp; omega)) _ | refine Below.alloc ?_ (by first | omega | (simp; done) | (simp; omega)) _)))).mono ?_
  rintro e w1 ⟨rfl, hb1'⟩
  generalize hW : (w.alloc (Obj.cells #[Value.slice pa ps.length pc, Value.slice ja js.length jc] 26)).alloc (Obj.cells #[Value.int IntKind.i64 0, Value.int IntKind.i64 0] 66) = W at hb1'
  have e0 : W.cell? ⟨w.heap.size, 0, none⟩ = some (.slice pa ps.length pc) := by rw [← hW]; simp [go_sem]
  have r0 : W.cell? ⟨w.heap.size + 1, 0, none⟩ = some (.int .i64 0) := by rw [← hW]; simp [go_sem]
  have r1 : W.cell? ⟨w.heap.size + 1, 1, none⟩ = some (.int .i64 0) := by rw [← hW]; simp [go_sem]
  have f0 : W.frozen? ⟨w.heap.size + 1, 0, none⟩ = false := by rw [← hW]; simp [go_sem]
  have f1 : W.frozen? ⟨w.heap.size + 1, 1, none⟩ = false := by rw [← hW]; simp [go_sem]
  have hz : w.heap.size + 2 = W.heap.size := by rw [← hW]; simp
  have hzA : w.heap.size + 1 < W.heap.size := by omega
  have hbW : Below w.heap.size w W := by rw [← hW]; exact (by repeat (first | exact Below.refl _ _ | assumption | refine Below.drew ?_ | refine bdrewN ?_ _ | refine Below.setCell ?_ (by first | omega | (simp; done) | (simp; omega)) _ | refine Below.alloc ?_ (by first | omega | (simp; done) | (simp; omega)) _))
  clear hW hz
  have e0' := cell_later hb1' e0
  have r0' := cell_later hb1' r0
  have r1' := cell_later hb1' r1
  have f0' := (hb1'.frozen (p := ⟨w.heap.size + 1, 0, none⟩) (by exact hzA)).trans f0
  have f1' := (hb1'.frozen (p := ⟨w.heap.size + 1, 1, none⟩) (by exact hzA)).trans f1
  have hbF := hbW.trans (hb1'.mono hbW.size)
  by_cases hN : netF ps js = (0, 0)
  rotate_left
  · have HX := hidQ (sigF_1 (ss := ss) hN)
    have hc := (netF_code ps js).resolve_left hN
    obtain ⟨fc, fa, hf⟩ : ∃ fc fa, netF ps js = (fc, fa) := ⟨_, _, rfl⟩
    rw [hf] at hc ⊢
    simp only at hc
    unfold faultV
    clear hf hN
    go_wp2_with fail
    exact bodyPost_ret (v := .agg #[.int .i64 1, .int .i64 0]) (by simp [results, Try.results29, go_sem, r0', r1']) rfl ⟨ret_fault HX.out, (by repeat (first | exact Below.refl _ _ | assumption | refine Below.drew ?_ | refine bdrewN ?_ _ | refine Below.setCell ?_ (by first | omega | (simp; done) | (simp; omega)) _ | refine Below.alloc ?_ (by first | omega | (simp; done) | (simp; omega)) _))⟩
  have HN := hidQ hN
  rw [hN]
  unfold faultV
  obtain ⟨hp100, hplen⟩ := net_ok_pieces hN
  have HPL := hidQ hplen
  clear hN hplen
  by_cases h60 : 60 < ss.length
  · have HX := hidQ (sigF_2 HN.out h60)
    go_wp2_with fail
    exact bodyPost_ret (v := .agg #[.int .i64 2, .int .i64 0]) (by simp [results, Try.results29, go_sem, r0', r1']) rfl ⟨ret_fault HX.out, (by repeat (first | exact Below.refl _ _ | assumption | refine Below.drew ?_ | refine bdrewN ?_ _ | refine Below.setCell ?_ (by first | omega | (simp; done) | (simp; omega)) _ | refine Below.alloc ?_ (by first | omega | (simp; done) | (simp; omega)) _))⟩
  have H60 := hidQ h60
  have h60' : (ss.length : Int) ≤ 60 := by omega
  clear h60
  go_wp2_with fail
  refine (firstWrongSignal_any _ _ _ _ _ _ _ (hp.out.below hbF) (hs.out.below hbF) hp100 HPL).mono ?_
  rintro e w2 ⟨rfl, hb2⟩
  have hb2' := hb1'.trans (hb2.mono hb1'.size)
  replace e0' := cell_later hb2 e0'
  replace r0' := cell_later hb2 r0'
  replace r1' := cell_later hb2 r1'
  replace f0' := (hb2'.frozen (p := ⟨w.heap.size + 1, 0, none⟩) (by exact hzA)).trans f0
  replace f1' := (hb2'.frozen (p := ⟨w.heap.size + 1, 1, none⟩) (by exact hzA)).trans f1
  replace hbF := hbW.trans (hb2'.mono hbW.size)
  clear hb1' hb2
  by_cases h3 : 0 ≤ firstBad (badS3 ps ss) ss.length
  · obtain ⟨i, hi1, hi2, hi3, hi4⟩ := firstBad_pos h3
    have HX := hidQ (sigF_3 HN.out H60.out hi2 hi3 hi4)
    rw [hi1]
    clear hi1 hi3 hi4 h3
    go_wp2_with fail
    exact bodyPost_ret (v := .agg #[.int .i64 3, .int .i64 i]) (by simp [results, Try.results29, go_sem, r0', r1']) rfl ⟨ret_fault HX.out, (by repeat (first | exact Below.refl _ _ | assumption | refine Below.drew ?_ | refine bdrewN ?_ _ | refine Below.setCell ?_ (by first | omega | (simp; done) | (simp; omega)) _ | refine Below.alloc ?_ (by first | omega | (simp; done) | (simp; omega)) _))⟩
  have H3 := hidQ (firstBad_neg h3)
  rw [firstBad_none H3.out]
  clear h3
  have HR : Hid (∀ q (h : q < ss.length), 0 ≤ ss[q].len ∧ ss[q].len ≤ 100 ∧ 0 ≤ ss[q].speed ∧ ss[q].speed ≤ 10000000 ∧ -1 ≤ ss[q].brake ∧ ss[q].brake ≤ 1) := by
    intro q h
    have := H3.out q h
    rw [badS3_at h] at this
    exact okSig_range hp100 HPL.out (by simpa using this)
  go_wp2_with fail
  refine (firstDoubleSignal_any _ _ _ _ (hs.out.below hbF) (by omega) HR).mono ?_
  rintro e w3 ⟨rfl, hb3⟩
  have hb3' := hb2'.trans (hb3.mono hb2'.size)
  replace e0' := cell_later hb3 e0'
  replace r0' := cell_later hb3 r0'
  replace r1' := cell_later hb3 r1'
  replace f0' := (hb3'.frozen (p := ⟨w.heap.size + 1, 0, none⟩) (by exact hzA)).trans f0
  replace f1' := (hb3'.frozen (p := ⟨w.heap.size + 1, 1, none⟩) (by exact hzA)).trans f1
  replace hbF := hbW.trans (hb3'.mono hbW.size)
  clear hb2' hb3
  by_cases h4 : 0 ≤ firstBad (badS4 ss) ss.length
  · obtain ⟨i, hi1, hi2, hi3, hi4⟩ := firstBad_pos h4
    have HX := hidQ (sigF_4 HN.out H60.out H3.out hi2 hi3 hi4)
    rw [hi1]
    clear hi1 hi3 hi4 h4
    go_wp2_with fail
    exact bodyPost_ret (v := .agg #[.int .i64 4, .int .i64 i]) (by simp [results, Try.results29, go_sem, r0', r1']) rfl ⟨ret_fault HX.out, (by repeat (first | exact Below.refl _ _ | assumption | refine Below.drew ?_ | refine bdrewN ?_ _ | refine Below.setCell ?_ (by first | omega | (simp; done) | (simp; omega)) _ | refine Below.alloc ?_ (by first | omega | (simp; done) | (simp; omega)) _))⟩
  have HX := hidQ (sigF_0 HN.out H60.out H3.out (firstBad_neg h4))
  rw [firstBad_none (firstBad_neg h4)]
  clear h4
  go_wp2_with fail
  exact bodyPost_ret (v := .agg #[.int .i64 0, .int .i64 0]) (by simp [results, Try.results29, go_sem, r0', r1']) rfl ⟨ret_fault HX.out, (by repeat (first | exact Below.refl _ _ | assumption | refine Below.drew ?_ | refine bdrewN ?_ _ | refine Below.setCell ?_ (by first | omega | (simp; done) | (simp; omega)) _ | refine Below.alloc ?_ (by first | omega | (simp; done) | (simp; omega)) _))⟩

end Go.Proofs.Ytmkdgnmmebldgaa
