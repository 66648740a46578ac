import Derived.Test.YtmkdgnmmebldgaaPq47
import Derived.Test.YtmkdgnmmebldgaaPq45
import Derived.Test.YtmkdgnmmebldgaaPq7
import Derived.Test.YtmkdgnmmebldgaaPq46
import Derived.Test.YtmkdgnmmebldgaaPq44
namespace Go.Proofs.Ytmkdgnmmebldgaa
open Go.RowKit
theorem firstBad_neg {bad : Nat → Bool} {n : Nat} (h : ¬ 0 ≤ firstBad bad n) : ∀ i, i < n → bad i = false := by
  rcases firstBad_cases bad n with ⟨_, h2⟩ | ⟨i, _, h2, _⟩
  · exact h2
  · exact absurd (by rw [h2]; omega) h
theorem firstBad_pos {bad : Nat → Bool} {n : Nat} (h : 0 ≤ firstBad bad n) : ∃ i : Nat, firstBad bad n = (i : Int) ∧ i < n ∧ bad i = true ∧ ∀ k, k < i → bad k = false := by
  rcases firstBad_cases bad n with ⟨h1, _⟩ | ⟨i, hi, h2, h3⟩
  · rw [h1] at h; omega
  · exact ⟨i, h2, hi, h3⟩
set_option maxHeartbeats 2000000 in
theorem implNetOk_any (pa ja : Option Addr) (pc jc : Nat) (ps : List MPiece) (js : List MJoint) (w : World) (hp : Hid (PiecesAt w pa ps)) (hj : Hid (JointsAt w ja js)) :
    Calls Try.prog 23 #[.agg #[.slice pa ps.length pc, .slice ja js.length jc]] w fun e w' => e = .returned (faultV (netF ps js)) ∧ Below w.heap.size w w' := by
  have hpl := hp.out.1
  have hjl := hj.out.1
  go_enter Try.func23, Try.ntmps23
  go_wp2_with fail
  refine (netSizeOk_any _ _ _ _ _ _ _ hpl hjl).mono ?_
  rintro e w1 ⟨rfl, hb1⟩
  generalize hW : (w.alloc (Obj.cells #[Value.slice pa ps.length pc, Value.slice ja js.length jc] 26)).alloc (Obj.cells #[Value.int IntKind.i64 0, Value.int IntKind.i64 0] 66) = W at hb1
  have e0 : W.cell? ⟨w.heap.size, 0, none⟩ = some (.slice pa ps.length pc) := by rw [← hW]; simp [go_sem]
  have e1 : W.cell? ⟨w.heap.size, 1, none⟩ = some (.slice ja js.length jc) := by rw [← hW]; simp [go_sem]
  have r0 : W.cell? ⟨w.heap.size + 1, 0, none⟩ = some (.int .i64 0) := by rw [← hW]; simp [go_sem]
  have r1 : W.cell? ⟨w.heap.size + 1, 1, none⟩ = some (.int .i64 0) := by rw [← hW]; simp [go_sem]
  have f0 : W.frozen? ⟨w.heap.size + 1, 0, none⟩ = false := by rw [← hW]; simp [go_sem]
  have f1 : W.frozen? ⟨w.heap.size + 1, 1, none⟩ = false := by rw [← hW]; simp [go_sem]
  have hz : w.heap.size + 2 = W.heap.size := by rw [← hW]; simp
  have hzA : w.heap.size + 1 < W.heap.size := by omega
  have hbW : Below w.heap.size w W := by rw [← hW]; exact blo
  clear hW hz
  have e0' := cell_later hb1 e0
  have e1' := cell_later hb1 e1
  have r0' := cell_later hb1 r0
  have r1' := cell_later hb1 r1
  have f0' := (hb1.frozen (p := ⟨w.heap.size + 1, 0, none⟩) (by exact hzA)).trans f0
  have f1' := (hb1.frozen (p := ⟨w.heap.size + 1, 1, none⟩) (by exact hzA)).trans f1
  have hbF := hbW.trans (hb1.mono hbW.size)
  cases hS : sizeB ps.length js.length
  · have HX := hidQ (netF_1 hS)
    clear hS
    go_wp2_with fail
    exact bodyPost_ret (v := .agg #[.int .i64 1, .int .i64 0]) (by simp [results, Try.results23, go_sem, r0', r1']) rfl ⟨ret_fault HX.out, blo⟩
  have HS := hidQ hS
  have hsz : ps.length ≤ 100 ∧ js.length ≤ 120 := by
    unfold sizeB at hS
    simp at hS
    omega
  clear hS
  have HPL := hidQ hpl
  have HJL := hidQ hjl
  clear hpl hjl
  go_wp2_with fail
  refine (firstWrongPiece_any _ _ _ _ (hp.out.below hbF) (by omega)).mono ?_
  rintro e w2 ⟨rfl, hb2⟩
  have hb2' := hb1.trans (hb2.mono hb1.size)
  replace e0' := cell_later hb2 e0'
  replace e1' := cell_later hb2 e1'
  replace r0' := cell_later hb2 r0'
  replace r1' := cell_later hb2 r1'
  replace f0' := (hb2'.frozen (p := ⟨w.heap.size + 1, 0, none⟩) (by exact hzA)).trans f0
  replace f1' := (hb2'.frozen (p := ⟨w.heap.size + 1, 1, none⟩) (by exact hzA)).trans f1
  replace hbF := hbW.trans (hb2'.mono hbW.size)
  clear hb1 hb2
  by_cases h2 : 0 ≤ firstBad (badPi ps) ps.length
  · obtain ⟨i, hi1, hi2, hi3, hi4⟩ := firstBad_pos h2
    have HX := hidQ (netF_2 (js := js) HS.out hi2 hi3 hi4)
    rw [hi1]
    clear hi1 hi3 hi4 h2
    go_wp2_with fail
    exact bodyPost_ret (v := .agg #[.int .i64 2, .int .i64 i]) (by simp [results, Try.results23, go_sem, r0', r1']) rfl ⟨ret_fault HX.out, blo⟩
  have H2 := hidQ (firstBad_neg h2)
  rw [firstBad_none H2.out]
  clear h2
  go_wp2_with fail
  refine (firstWrongJoint_any _ _ _ _ _ _ _ (hj.out.below hbF) HPL.out).mono ?_
  rintro e w3 ⟨rfl, hb3⟩
  have hb3' := hb2'.trans (hb3.mono hb2'.size)
  replace e0' := cell_later hb3 e0'
  replace e1' := cell_later hb3 e1'
  replace r0' := cell_later hb3 r0'
  replace r1' := cell_later hb3 r1'
  replace f0' := (hb3'.frozen (p := ⟨w.heap.size + 1, 0, none⟩) (by exact hzA)).trans f0
  replace f1' := (hb3'.frozen (p := ⟨w.heap.size + 1, 1, none⟩) (by exact hzA)).trans f1
  replace hbF := hbW.trans (hb3'.mono hbW.size)
  clear hb2' hb3
  by_cases h3 : 0 ≤ firstBad (bad3i ps.length js) js.length
  · obtain ⟨i, hi1, hi2, hi3, hi4⟩ := firstBad_pos h3
    have HX := hidQ (netF_3 HS.out H2.out hi2 hi3 hi4)
    rw [hi1]
    clear hi1 hi3 hi4 h3
    go_wp2_with fail
    exact bodyPost_ret (v := .agg #[.int .i64 3, .int .i64 i]) (by simp [results, Try.results23, go_sem, r0', r1']) rfl ⟨ret_fault HX.out, blo⟩
  have H3 := hidQ (firstBad_neg h3)
  rw [firstBad_none H3.out]
  clear h3
  have HO : Hid (∀ q (h : q < js.length), ok3 ps.length js[q] = true) := by
    intro q h
    have := H3.out q h
    rw [bad3i_at h] at this
    simpa using this
  have HK : Hid (∀ q (h : q < js.length), inB js[q].kind 1 4 = true) := by
    intro q h
    have := HO.out q h
    unfold ok3 at this
    simp only [Bool.and_eq_true] at this
    exact this.1.1
  go_wp2_with fail
  refine (firstWrongJointName_any _ _ _ _ (hj.out.below hbF) (by omega) HK).mono ?_
  rintro e w4 ⟨rfl, hb4⟩
  have hb4' := hb3'.trans (hb4.mono hb3'.size)
  replace e0' := cell_later hb4 e0'
  replace e1' := cell_later hb4 e1'
  replace r0' := cell_later hb4 r0'
  replace r1' := cell_later hb4 r1'
  replace f0' := (hb4'.frozen (p := ⟨w.heap.size + 1, 0, none⟩) (by exact hzA)).trans f0
  replace f1' := (hb4'.frozen (p := ⟨w.heap.size + 1, 1, none⟩) (by exact hzA)).trans f1
  replace hbF := hbW.trans (hb4'.mono hbW.size)
  clear hb3' hb4
  by_cases h4 : 0 ≤ firstBad (bad4i js) js.length
  · obtain ⟨i, hi1, hi2, hi3, hi4⟩ := firstBad_pos h4
    have HX := hidQ (netF_4 HS.out H2.out H3.out hi2 hi3 hi4)
    rw [hi1]
    clear hi1 hi3 hi4 h4
    go_wp2_with fail
    exact bodyPost_ret (v := .agg #[.int .i64 4, .int .i64 i]) (by simp [results, Try.results23, go_sem, r0', r1']) rfl ⟨ret_fault HX.out, blo⟩
  have H4 := hidQ (firstBad_neg h4)
  rw [firstBad_none H4.out]
  clear h4
  go_wp2_with fail
  refine (firstLoosePiece_any _ _ _ _ _ _ _ (hj.out.below hbF) (by omega) (by omega) HO).mono ?_
  rintro e w5 ⟨rfl, hb5⟩
  have hb5' := hb4'.trans (hb5.mono hb4'.size)
  replace e0' := cell_later hb5 e0'
  replace e1' := cell_later hb5 e1'
  replace r0' := cell_later hb5 r0'
  replace r1' := cell_later hb5 r1'
  replace f0' := (hb5'.frozen (p := ⟨w.heap.size + 1, 0, none⟩) (by exact hzA)).trans f0
  replace f1' := (hb5'.frozen (p := ⟨w.heap.size + 1, 1, none⟩) (by exact hzA)).trans f1
  replace hbF := hbW.trans (hb5'.mono hbW.size)
  clear hb4' hb5
  by_cases h5 : 0 ≤ firstBad (bad5i js) ps.length
  · obtain ⟨i, hi1, hi2, hi3, hi4⟩ := firstBad_pos h5
    have HX := hidQ (netF_5 HS.out H2.out H3.out H4.out hi2 hi3 hi4)
    rw [hi1]
    clear hi1 hi3 hi4 h5
    go_wp2_with fail
    exact bodyPost_ret (v := .agg #[.int .i64 5, .int .i64 i]) (by simp [results, Try.results23, go_sem, r0', r1']) rfl ⟨ret_fault HX.out, blo⟩
  have HX := hidQ (netF_0 HS.out H2.out H3.out H4.out (firstBad_neg h5))
  rw [firstBad_none (firstBad_neg h5)]
  clear h5
  go_wp2_with fail
  exact bodyPost_ret (v := .agg #[.int .i64 0, .int .i64 0]) (by simp [results, Try.results23, go_sem, r0', r1']) rfl ⟨ret_fault HX.out, blo⟩
end Go.Proofs.Ytmkdgnmmebldgaa

namespace Go.Proofs.Ytmkdgnmmebldgaa
open Go.RowKit
set_option maxHeartbeats 2000000 in
theorem implSignalsOk_any (pa ja sa : Option Addr) (pc jc sc : Nat) (ps : List MPiece) (js : List MJoint) (ss : List MPiece) (w : World) (hp : Hid (PiecesAt w pa ps)) (hj : Hid (JointsAt w ja js)) (hs : Hid (PiecesAt w sa ss)) :
    Calls Try.prog 29 #[.agg #[.slice pa ps.length pc, .slice ja js.length jc], .slice sa ss.length sc] w fun e w' => e = .returned (faultV (sigF ps js ss)) ∧ Below w.heap.size w w' := by
  have hsl := hs.out.1
  unfold maxLen at hsl
  go_enter Try.func29, Try.ntmps29
  go_wp2_with fail
  refine (implNetOk_any _ _ _ _ _ _ _ (hp.out.below blo) (hj.out.below blo)).mono ?_
  rintro e w1 ⟨rfl, hb1'⟩
  generalize hW : (w.alloc (Obj.cells #[Value.slice pa ps.length pc, Value.slice ja js.length jc] 26)).alloc (Obj.cells #[Value.int IntKind.i64 0, Value.int IntKind.i64 0] 66) = W at hb1'
  have e0 : W.cell? ⟨w.heap.size, 0, none⟩ = some (.slice pa ps.length pc) := by rw [← hW]; simp [go_sem]
  have r0 : W.cell? ⟨w.heap.size + 1, 0, none⟩ = some (.int .i64 0) := by rw [← hW]; simp [go_sem]
  have r1 : W.cell? ⟨w.heap.size + 1, 1, none⟩ = some (.int .i64 0) := by rw [← hW]; simp [go_sem]
  have f0 : W.frozen? ⟨w.heap.size + 1, 0, none⟩ = false := by rw [← hW]; simp [go_sem]
  have f1 : W.frozen? ⟨w.heap.size + 1, 1, none⟩ = false := by rw [← hW]; simp [go_sem]
  have hz : w.heap.size + 2 = W.heap.size := by rw [← hW]; simp
  have hzA : w.heap.size + 1 < W.heap.size := by omega
  have hbW : Below w.heap.size w W := by rw [← hW]; exact blo
  clear hW hz
  have e0' := cell_later hb1' e0
  have r0' := cell_later hb1' r0
  have r1' := cell_later hb1' r1
  have f0' := (hb1'.frozen (p := ⟨w.heap.size + 1, 0, none⟩) (by exact hzA)).trans f0
  have f1' := (hb1'.frozen (p := ⟨w.heap.size + 1, 1, none⟩) (by exact hzA)).trans f1
  have hbF := hbW.trans (hb1'.mono hbW.size)
  by_cases hN : netF ps js = (0, 0)
  rotate_left
  · have HX := hidQ (sigF_1 (ss := ss) hN)
    have hc := (netF_code ps js).resolve_left hN
    obtain ⟨fc, fa, hf⟩ : ∃ fc fa, netF ps js = (fc, fa) := ⟨_, _, rfl⟩
    rw [hf] at hc ⊢
    simp only at hc
    unfold faultV
    clear hf hN
    go_wp2_with fail
    exact bodyPost_ret (v := .agg #[.int .i64 1, .int .i64 0]) (by simp [results, Try.results29, go_sem, r0', r1']) rfl ⟨ret_fault HX.out, blo⟩
  have HN := hidQ hN
  rw [hN]
  unfold faultV
  obtain ⟨hp100, hplen⟩ := net_ok_pieces hN
  have HPL := hidQ hplen
  clear hN hplen
  by_cases h60 : 60 < ss.length
  · have HX := hidQ (sigF_2 HN.out h60)
    go_wp2_with fail
    exact bodyPost_ret (v := .agg #[.int .i64 2, .int .i64 0]) (by simp [results, Try.results29, go_sem, r0', r1']) rfl ⟨ret_fault HX.out, blo⟩
  have H60 := hidQ h60
  have h60' : (ss.length : Int) ≤ 60 := by omega
  clear h60
  go_wp2_with fail
  refine (firstWrongSignal_any _ _ _ _ _ _ _ (hp.out.below hbF) (hs.out.below hbF) hp100 HPL).mono ?_
  rintro e w2 ⟨rfl, hb2⟩
  have hb2' := hb1'.trans (hb2.mono hb1'.size)
  replace e0' := cell_later hb2 e0'
  replace r0' := cell_later hb2 r0'
  replace r1' := cell_later hb2 r1'
  replace f0' := (hb2'.frozen (p := ⟨w.heap.size + 1, 0, none⟩) (by exact hzA)).trans f0
  replace f1' := (hb2'.frozen (p := ⟨w.heap.size + 1, 1, none⟩) (by exact hzA)).trans f1
  replace hbF := hbW.trans (hb2'.mono hbW.size)
  clear hb1' hb2
  by_cases h3 : 0 ≤ firstBad (badS3 ps ss) ss.length
  · obtain ⟨i, hi1, hi2, hi3, hi4⟩ := firstBad_pos h3
    have HX := hidQ (sigF_3 HN.out H60.out hi2 hi3 hi4)
    rw [hi1]
    clear hi1 hi3 hi4 h3
    go_wp2_with fail
    exact bodyPost_ret (v := .agg #[.int .i64 3, .int .i64 i]) (by simp [results, Try.results29, go_sem, r0', r1']) rfl ⟨ret_fault HX.out, blo⟩
  have H3 := hidQ (firstBad_neg h3)
  rw [firstBad_none H3.out]
  clear h3
  have HR : Hid (∀ q (h : q < ss.length), 0 ≤ ss[q].len ∧ ss[q].len ≤ 100 ∧ 0 ≤ ss[q].speed ∧ ss[q].speed ≤ 10000000 ∧ -1 ≤ ss[q].brake ∧ ss[q].brake ≤ 1) := by
    intro q h
    have := H3.out q h
    rw [badS3_at h] at this
    exact okSig_range hp100 HPL.out (by simpa using this)
  go_wp2_with fail
  refine (firstDoubleSignal_any _ _ _ _ (hs.out.below hbF) (by omega) HR).mono ?_
  rintro e w3 ⟨rfl, hb3⟩
  have hb3' := hb2'.trans (hb3.mono hb2'.size)
  replace e0' := cell_later hb3 e0'
  replace r0' := cell_later hb3 r0'
  replace r1' := cell_later hb3 r1'
  replace f0' := (hb3'.frozen (p := ⟨w.heap.size + 1, 0, none⟩) (by exact hzA)).trans f0
  replace f1' := (hb3'.frozen (p := ⟨w.heap.size + 1, 1, none⟩) (by exact hzA)).trans f1
  replace hbF := hbW.trans (hb3'.mono hbW.size)
  clear hb2' hb3
  by_cases h4 : 0 ≤ firstBad (badS4 ss) ss.length
  · obtain ⟨i, hi1, hi2, hi3, hi4⟩ := firstBad_pos h4
    have HX := hidQ (sigF_4 HN.out H60.out H3.out hi2 hi3 hi4)
    rw [hi1]
    clear hi1 hi3 hi4 h4
    go_wp2_with fail
    exact bodyPost_ret (v := .agg #[.int .i64 4, .int .i64 i]) (by simp [results, Try.results29, go_sem, r0', r1']) rfl ⟨ret_fault HX.out, blo⟩
  have HX := hidQ (sigF_0 HN.out H60.out H3.out (firstBad_neg h4))
  rw [firstBad_none (firstBad_neg h4)]
  clear h4
  go_wp2_with fail
  exact bodyPost_ret (v := .agg #[.int .i64 0, .int .i64 0]) (by simp [results, Try.results29, go_sem, r0', r1']) rfl ⟨ret_fault HX.out, blo⟩
end Go.Proofs.Ytmkdgnmmebldgaa

namespace Go.Proofs.Ytmkdgnmmebldgaa
open Go.RowKit Go.Deep Go.Maps
theorem WalkOk.path {ps : List MPiece} {js : List MJoint} {ss : List MPiece} (R : Right ps js ss) {i : Nat} {pre : List MStep} {s : MStep} {lies : List MLie} {crosses : List Int} {pos : Int} (h : WalkOk ps js ss i pre s lies crosses pos) {stop : Int} (hst : stop = -1 ∨ ∃ k : Nat, k < ss.length ∧ stop = k) : PathOk ps js ss (endP i stop (pre ++ [s]) lies crosses) := by
  have hf := h.few
  have hnp := R.np
  have hl := lies_few h.lv h.ld
  have hnj := R.nj
  have hc := h.cl
  refine ⟨by simp [endP], by simp [endP]; omega, ?_, ⟨i, h.start, rfl⟩, hst, h.lv, by simp [endP]; omega, by simp [endP]; omega⟩
  intro x hx
  rcases List.mem_append.1 hx with hx | hx
  · exact h.pv x hx
  · have : x = s := by simpa using hx
    rw [this]; exact h.sv
theorem evs_ok {ps : List MPiece} {js : List MJoint} {ss : List MPiece} (R : Right ps js ss) : ∀ (n i : Nat) (pre : List MStep) (s : MStep) (lies : List MLie) (crosses : List Int) (pos : Int), WalkOk ps js ss i pre s lies crosses pos → ∀ q ∈ evs ps js ss n (pathOf i (pre ++ [s]) lies crosses) pos, q.ended = true → PathOk ps js ss q
  | 0, _, _, _, _, _, _, _, q, hq, _ => absurd hq (by simp [evs])
  | n + 1, i, pre, s, lies, crosses, pos, h, q, hq, he => by
    by_cases hb : 0 ≤ nextB ss s.piece s.side pos ss.length
    · rw [evs_signal hb] at hq
      have hq' : q = endP i (nextB ss s.piece s.side pos ss.length) (pre ++ [s]) lies crosses := by simpa using hq
      rw [hq']
      rcases nextB_range ss s.piece s.side pos ss.length (Nat.le_refl _) with hr | ⟨b, hb2, _, hr, _⟩
      · omega
      · exact h.path R (Or.inr ⟨b, hb2, hr⟩)
    · by_cases hr : s ∈ pre
      · rw [evs_round hb hr] at hq
        have hq' : q = pathOf i (pre ++ [s]) lies crosses := by simpa using hq
        rw [hq'] at he
        cases he
      · by_cases hk : kindE js (spotE js (aheadE s)).1 = 1
        · rw [evs_buffer hb hr hk] at hq
          have hq' : q = endP i (-1) (pre ++ [s]) lies crosses := by simpa using hq
          rw [hq']
          exact h.path R (Or.inl rfl)
        · rw [evs_on hb hr hk] at hq
          rcases List.mem_cons.1 hq with hq | hq
          · rw [hq] at he
            cases he
          · unfold kidsF at hq
            obtain ⟨t, ht, hq⟩ := List.mem_flatMap.1 hq
            obtain ⟨j, k, h1, h2⟩ := R.spot (aheadE_valid h.sv)
            obtain ⟨_, hj, hkk, _⟩ := spotF_some h1
            simp only [Nat.sub_zero] at hj hkk
            rw [h2] at ht hq
            unfold kidF at hq
            cases hov : overP js (pathOf i (pre ++ [s]) lies crosses) j k t with
            | none =>
              rw [hov] at hq
              cases hq
            | some q2 =>
              rw [hov] at hq
              obtain ⟨l2, c2, e2, w2⟩ := h.over R hr hj hkk ht hov
              rw [e2] at hq
              exact evs_ok R n i _ _ _ _ _ w2 q hq he
theorem allEvs_ok {ps : List MPiece} {js : List MJoint} {ss : List MPiece} (R : Right ps js ss) : ∀ (m : Nat), m ≤ ss.length → ∀ q ∈ allEvs ps js ss m, q.ended = true → PathOk ps js ss q
  | 0, _, q, hq, _ => absurd hq (by simp [allEvs])
  | m + 1, hm, q, hq, he => by
    rw [allEvs_succ (by omega)] at hq
    rcases List.mem_append.1 hq with hq | hq
    · exact allEvs_ok R m (by omega) q hq he
    · exact evs_ok R (depthR ps) m [] ⟨ss[m].len, ss[m].brake⟩ [] [] ss[m].speed (WalkOk.begin R (by omega)) q hq he
theorem pathsF_ok {ps : List MPiece} {js : List MJoint} {ss : List MPiece} (R : Right ps js ss) : ∀ q ∈ pathsF ps js ss, PathOk ps js ss q := by
  intro q hq
  unfold pathsF at hq
  split at hq
  · unfold endedL at hq
    obtain ⟨h1, h2⟩ := List.mem_filter.1 hq
    exact allEvs_ok R ss.length (Nat.le_refl _) q h1 h2
  · cases hq
theorem pathsF_few (ps : List MPiece) (js : List MJoint) (ss : List MPiece) : (pathsF ps js ss).length ≤ 300 := by
  unfold pathsF
  split
  · rename_i h
    exact h.2
  · simp
open Classical in
theorem routesF_paths (ps : List MPiece) (js : List MJoint) (ss : List MPiece) (over : Int) : routesF ps js ss over = if sigF ps js ss = (0, 0) ∧ 0 ≤ over ∧ over ≤ 100000 then (pathsF ps js ss).map (routeF ps js ss over) else [] := by
  unfold routesF pathsF
  by_cases h : sigF ps js ss = (0, 0) ∧ 0 ≤ over ∧ over ≤ 100000
  · rw [if_pos h]
    by_cases hf : fitsB ps js ss
    · rw [if_pos hf, if_pos ⟨h.1, h.2.1, h.2.2, hf.1, hf.2⟩]
    · rw [if_neg hf, if_neg (fun q => hf ⟨q.2.2.2.1, q.2.2.2.2⟩)]
      rfl
  · rw [if_neg h, if_neg (fun q => h ⟨q.1, q.2.1, q.2.2.1⟩)]
set_option maxHeartbeats 1000000 in
theorem givenOk_any (pa ja sa : Option Addr) (pc jc sc : Nat) (ps : List MPiece) (js : List MJoint) (ss : List MPiece) (over : Int) (w : World) (hp : Hid (PiecesAt w pa ps)) (hj : Hid (JointsAt w ja js)) (hs : Hid (PiecesAt w sa ss)) :
    Calls Try.prog 50 #[.agg #[.slice pa ps.length pc, .slice ja js.length jc], .slice sa ss.length sc, .int .i64 over] w fun e w' => e = .returned (.bool (decide (sigF ps js ss = (0, 0) ∧ 0 ≤ over ∧ over ≤ 100000))) ∧ Below w.heap.size w w' := by
  have HSG : Hid (∀ u : World, Below w.heap.size w u → Calls Try.prog 29 #[.agg #[.slice pa ps.length pc, .slice ja js.length jc], .slice sa ss.length sc] u fun e w' => e = .returned (faultV (sigF ps js ss)) ∧ Below u.heap.size u w') := fun u hu => implSignalsOk_any pa ja sa pc jc sc ps js ss u (hp.out.below hu) (hj.out.below hu) (hs.out.below hu)
  obtain ⟨sf, hsf⟩ : ∃ sf, sigF ps js ss = sf := ⟨_, rfl⟩
  rw [hsf] at HSG ⊢
  clear hsf
  obtain ⟨f1, f2⟩ := sf
  unfold faultV at HSG
  by_cases h1 : f1 = 0
  · subst h1
    by_cases h2 : f2 = 0
    · subst h2
      have HD : Hid (decide ((((0 : Int), (0 : Int)) = (0, 0)) ∧ 0 ≤ over ∧ over ≤ 100000) = inB over 0 100000) := by
        unfold Hid inB
        simp
      go_enter Try.func50, Try.ntmps50
      go_wp2_with (first | (go_at_call 29; refine (HSG.out _ ((Below.refl _ _).alloc (Nat.le_refl _) _)).mono ?_; rintro e w2 ⟨rfl, hb2⟩) | (go_at_call 121; refine (within_any _ _ _ _).mono ?_; rintro e w3 ⟨rfl, rfl⟩))
      go_ret
      exact ⟨by first | exact ret_bool HD.out.symm | (refine ret_bool ?_; simp [inB]), ((Below.refl _ _).alloc (Nat.le_refl _) _).trans (hb2.mono (by simp))⟩
    · have h2b : (f2 == 0) = false := by simp [h2]
      have HD : Hid (decide ((((0 : Int), f2) = (0, 0)) ∧ 0 ≤ over ∧ over ≤ 100000) = false) := by
        unfold Hid
        simp [h2]
      clear h2
      go_enter Try.func50, Try.ntmps50
      go_wp2_with (first | (go_at_call 29; refine (HSG.out _ ((Below.refl _ _).alloc (Nat.le_refl _) _)).mono ?_; rintro e w2 ⟨rfl, hb2⟩) | (go_at_call 121; refine (within_any _ _ _ _).mono ?_; rintro e w3 ⟨rfl, rfl⟩))
      go_ret
      exact ⟨by first | exact ret_bool HD.out.symm | (refine ret_bool ?_; simp [inB]), ((Below.refl _ _).alloc (Nat.le_refl _) _).trans (hb2.mono (by simp))⟩
  · have h1b : (f1 == 0) = false := by simp [h1]
    have HD : Hid (decide (((f1, f2) = (0, 0)) ∧ 0 ≤ over ∧ over ≤ 100000) = false) := by
      unfold Hid
      simp [h1]
    clear h1
    go_enter Try.func50, Try.ntmps50
    go_wp2_with (first | (go_at_call 29; refine (HSG.out _ ((Below.refl _ _).alloc (Nat.le_refl _) _)).mono ?_; rintro e w2 ⟨rfl, hb2⟩) | (go_at_call 121; refine (within_any _ _ _ _).mono ?_; rintro e w3 ⟨rfl, rfl⟩))
    go_ret
    exact ⟨by first | exact ret_bool HD.out.symm | (refine ret_bool ?_; simp [inB]), ((Below.refl _ _).alloc (Nat.le_refl _) _).trans (hb2.mono (by simp))⟩
end Go.Proofs.Ytmkdgnmmebldgaa
