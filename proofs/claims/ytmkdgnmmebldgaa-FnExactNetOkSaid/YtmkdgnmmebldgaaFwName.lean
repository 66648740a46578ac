import Derived.Test.YtmkdgnmmebldgaaFwJoint
namespace Go.Proofs.Ytmkdgnmmebldgaa
open Go.RowKit

theorem names_succ {ps : List MJoint} {i : Nat} (h : i < ps.length) : names (ps.take (i + 1)) = names (ps.take i) ++ [ps[i].name] := by
  unfold names
  rw [List.take_succ_eq_append_getElem h, List.map_append]
  rfl
theorem names_len (ps : List MJoint) (i : Nat) : (names (ps.take i)).length ≤ i := by
  unfold names
  rw [List.length_map]
  exact List.length_take_le _ _
theorem ok4_low {js : List MJoint} {i : Nat} {j : MJoint} {k : Int} (hk : j.kind = k) (h3 : k < 3) : ok4 js i j = decide (j.name = ⟨#[]⟩) := by
  unfold ok4
  rw [hk, if_pos h3]
theorem ok4_high {js : List MJoint} {i : Nat} {j : MJoint} {k : Int} (hk : j.kind = k) (h3 : ¬ k < 3) : ok4 js i j = (nameB j.name && (fS (names (js.take i)) (.string j.name) == 0)) := by
  unfold ok4
  rw [hk, if_neg h3]
  congr 1
  show (!aheadB (names (js.take i)) j.name) = (((cntS (names (js.take i)) j.name : Nat) : Int) == 0)
  cases hA : aheadB (names (js.take i)) j.name
  · rw [(cntS_zero _ _).2 hA]; rfl
  · have : cntS (names (js.take i)) j.name ≠ 0 := fun h => by rw [cntS_zero, hA] at h; cases h
    symm
    rw [Bool.not_true, beq_eq_false_iff_ne]
    omega

set_option maxHeartbeats 2000000 in
theorem firstWrongJointName_any (ja : Option Addr) (jc : Nat) (js : List MJoint) (w : World) (hj : Hid (JointsAt w ja js)) (hl : js.length ≤ 1000000) (hkk : Hid (∀ q (h : q < js.length), inB js[q].kind 1 4 = true)) :
    Calls Try.prog 66 #[.slice ja js.length jc] w fun e w' => e = .returned (.int .i64 (firstBad (bad4i js) js.length)) ∧ Below w.heap.size w w' := by
  have hmm := @run_makeMap Try.prog
  go_enter Try.func66, Try.ntmps66
  go_wp2_with fail
  have HM := hidQ (CMap.made 9 w)
  rw [← fS_nil] at HM
  go_loopw [11] (fun c wr => ∃ (i : Nat), i ≤ js.length ∧ c = .int .i64 i ∧ Hid (∀ q, q < i → bad4i js q = false) ∧ Hid (CMap 9 wr w.heap.size i (fS (names (js.take i)))) ∧ Below w.heap.size w wr) (fun c _ => js.length - (intOf c).toNat)
  case atStart => exact ⟨0, Nat.zero_le _, rfl, (fun q h => absurd h (Nat.not_lt_zero q)), HM.out, (by repeat (first | exact Below.refl _ _ | assumption | refine Below.drew ?_ | refine bdrewN ?_ _ | refine Below.setCell ?_ (by first | omega | (simp; done) | (simp; omega)) _ | refine Below.alloc ?_ (by first | omega | (simp; done) | (simp; omega)) _))⟩
  case round =>
    clear HM hmm
    obtain ⟨i, hi, rfl, HQ, HM, hb⟩ := hrel
    have hbs := hb.size
    by_cases hi' : i < js.length
    · obtain ⟨b1, off1, rfl, hpc⟩ := hj.out.2.2.resolve_left (fun h => by rw [h] at hi'; exact absurd hi' (Nat.not_lt_zero _))
      obtain ⟨c1, c2, ea, ec, c3, c4⟩ := (hpc.below hb) i hi'
      have hsz : js[i].name.size ≤ maxLen := hj.out.2.1 _ (List.getElem_mem hi')
      clear hpc c4
      have HQ2 : Hid (ok4 js i js[i] = true → ∀ q, q < i + 1 → bad4i js q = false) := by
        intro ho q hq
        by_cases e : q < i
        · exact HQ.out q e
        · have : q = i := by omega
          subst this
          rw [bad4i_at hi', ho]; rfl
      have HX : Hid (ok4 js i js[i] = false → firstBad (bad4i js) js.length = i) := fun ho => firstBad_hit hi' (by rw [bad4i_at hi', ho]; rfl) HQ.out
      have hM2 : ∀ o, CMap 9 (wr.alloc o) w.heap.size i (fS (names (js.take i))) := fun o => HM.out.below (show Below wr.heap.size wr (wr.alloc o) from (by repeat (first | exact Below.refl _ _ | assumption | refine Below.drew ?_ | refine bdrewN ?_ _ | refine Below.setCell ?_ (by first | omega | (simp; done) | (simp; omega)) _ | refine Below.alloc ?_ (by first | omega | (simp; done) | (simp; omega)) _)))
      have hlk := fun o => (hM2 o).lookup lawS Try.underlying222 (keyS hsz)
      have hcn : 0 ≤ fS (names (js.take i)) (.string js[i].name) ∧ fS (names (js.take i)) (.string js[i].name) ≤ 1000000 := by
        show (0 : Int) ≤ ((cntS _ _ : Nat) : Int) ∧ ((cntS _ _ : Nat) : Int) ≤ 1000000
        have h1 := cntS_le (names (js.take i)) js[i].name
        have h2 := names_len js i
        omega
      have hup := fun o => (hM2 o).update lawS Try.underlying222 (by unfold maxLen; omega) (keyS hsz) (fS (names (js.take i)) (.string js[i].name) + 1) (wf64 (by omega) (by omega)) (fS (names (js.take (i + 1)))) (by rw [names_succ hi', fS_same]; rfl) (by rw [names_succ hi']; exact fS_other _ _)
      have HUP := hidQ hup
      clear hM2 hup HQ HM
      rcases kind_cases (hkk.out i hi') with hk | hk | hk | hk
      · have hok := ok4_low (js := js) (i := i) hk (by omega)
        rw [hk] at c1
        clear hk
        obtain ⟨w3, hup, hM3, hg⟩ := HUP.out (Obj.cells #[Value.int IntKind.i64 1, Value.string js[i].name, Value.slice ea js[i].ends.length ec] 182)
        have HM3 := hidQ hM3
        have hb4 : Below w.heap.size w w3 := Below.grown (show Below w.heap.size w (wr.alloc _) from (by repeat (first | exact Below.refl _ _ | assumption | refine Below.drew ?_ | refine bdrewN ?_ _ | refine Below.setCell ?_ (by first | omega | (simp; done) | (simp; omega)) _ | refine Below.alloc ?_ (by first | omega | (simp; done) | (simp; omega)) _))) hg (by simp; omega) (fun j hj => by cases hj; exact Nat.le_refl _)
        clear hM3 hg HUP
        cases ho : ok4 js i js[i]
        · have HX2 := hidQ (HX.out ho)
          rw [ho] at hok
          replace hok := hok.symm
          clear HX HQ2 ho hup HM3 hb4
          go_wp2_with (first | (go_at_call 122; refine (kindOf_1 _).mono ?_; rintro e w' ⟨rfl, rfl⟩) | (go_at_call 136; refine (jointNameOk_1 _ _ _).mono ?_; rintro e w' ⟨rfl, rfl⟩))
          go_ret
          exact ⟨ret_int HX2.out.symm, (by repeat (first | exact Below.refl _ _ | assumption | refine Below.drew ?_ | refine bdrewN ?_ _ | refine Below.setCell ?_ (by first | omega | (simp; done) | (simp; omega)) _ | refine Below.alloc ?_ (by first | omega | (simp; done) | (simp; omega)) _))⟩
        · have HQ3 := hidQ (HQ2.out ho)
          rw [ho] at hok
          replace hok := hok.symm
          clear HX HQ2 ho
          go_wp2_with (first | (go_at_call 122; refine (kindOf_1 _).mono ?_; rintro e w' ⟨rfl, rfl⟩) | (go_at_call 136; refine (jointNameOk_1 _ _ _).mono ?_; rintro e w' ⟨rfl, rfl⟩))
          go_roundw
          case rel => exact ⟨i + 1, by omega, by go_num, HQ3, HM3, hb4⟩
          case measure => simp [intOf]; omega
      · have hok := ok4_low (js := js) (i := i) hk (by omega)
        rw [hk] at c1
        clear hk
        obtain ⟨w3, hup, hM3, hg⟩ := HUP.out (Obj.cells #[Value.int IntKind.i64 2, Value.string js[i].name, Value.slice ea js[i].ends.length ec] 182)
        have HM3 := hidQ hM3
        have hb4 : Below w.heap.size w w3 := Below.grown (show Below w.heap.size w (wr.alloc _) from (by repeat (first | exact Below.refl _ _ | assumption | refine Below.drew ?_ | refine bdrewN ?_ _ | refine Below.setCell ?_ (by first | omega | (simp; done) | (simp; omega)) _ | refine Below.alloc ?_ (by first | omega | (simp; done) | (simp; omega)) _))) hg (by simp; omega) (fun j hj => by cases hj; exact Nat.le_refl _)
        clear hM3 hg HUP
        cases ho : ok4 js i js[i]
        · have HX2 := hidQ (HX.out ho)
          rw [ho] at hok
          replace hok := hok.symm
          clear HX HQ2 ho hup HM3 hb4
          go_wp2_with (first | (go_at_call 122; refine (kindOf_2 _).mono ?_; rintro e w' ⟨rfl, rfl⟩) | (go_at_call 136; refine (jointNameOk_2 _ _ _).mono ?_; rintro e w' ⟨rfl, rfl⟩))
          go_ret
          exact ⟨ret_int HX2.out.symm, (by repeat (first | exact Below.refl _ _ | assumption | refine Below.drew ?_ | refine bdrewN ?_ _ | refine Below.setCell ?_ (by first | omega | (simp; done) | (simp; omega)) _ | refine Below.alloc ?_ (by first | omega | (simp; done) | (simp; omega)) _))⟩
        · have HQ3 := hidQ (HQ2.out ho)
          rw [ho] at hok
          replace hok := hok.symm
          clear HX HQ2 ho
          go_wp2_with (first | (go_at_call 122; refine (kindOf_2 _).mono ?_; rintro e w' ⟨rfl, rfl⟩) | (go_at_call 136; refine (jointNameOk_2 _ _ _).mono ?_; rintro e w' ⟨rfl, rfl⟩))
          go_roundw
          case rel => exact ⟨i + 1, by omega, by go_num, HQ3, HM3, hb4⟩
          case measure => simp [intOf]; omega
      · have hok := ok4_high (js := js) (i := i) hk (by omega)
        rw [hk] at c1
        clear hk
        obtain ⟨w3, hup, hM3, hg⟩ := HUP.out (Obj.cells #[Value.int IntKind.i64 3, Value.string js[i].name, Value.slice ea js[i].ends.length ec] 182)
        have HM3 := hidQ hM3
        have hb4 : Below w.heap.size w w3 := Below.grown (show Below w.heap.size w (wr.alloc _) from (by repeat (first | exact Below.refl _ _ | assumption | refine Below.drew ?_ | refine bdrewN ?_ _ | refine Below.setCell ?_ (by first | omega | (simp; done) | (simp; omega)) _ | refine Below.alloc ?_ (by first | omega | (simp; done) | (simp; omega)) _))) hg (by simp; omega) (fun j hj => by cases hj; exact Nat.le_refl _)
        clear hM3 hg HUP
        cases ho : ok4 js i js[i]
        · have HX2 := hidQ (HX.out ho)
          rw [ho] at hok
          replace hok := hok.symm
          clear HX HQ2 ho hup HM3 hb4
          go_wp2_with (first | (go_at_call 122; refine (kindOf_3 _).mono ?_; rintro e w' ⟨rfl, rfl⟩) | (go_at_call 136; refine (jointNameOk_3 _ _ _ _ hsz (hlk _)).mono ?_; rintro e w' ⟨rfl, rfl⟩))
          go_ret
          exact ⟨ret_int HX2.out.symm, (by repeat (first | exact Below.refl _ _ | assumption | refine Below.drew ?_ | refine bdrewN ?_ _ | refine Below.setCell ?_ (by first | omega | (simp; done) | (simp; omega)) _ | refine Below.alloc ?_ (by first | omega | (simp; done) | (simp; omega)) _))⟩
        · have HQ3 := hidQ (HQ2.out ho)
          rw [ho] at hok
          replace hok := hok.symm
          clear HX HQ2 ho
          go_wp2_with (first | (go_at_call 122; refine (kindOf_3 _).mono ?_; rintro e w' ⟨rfl, rfl⟩) | (go_at_call 136; refine (jointNameOk_3 _ _ _ _ hsz (hlk _)).mono ?_; rintro e w' ⟨rfl, rfl⟩))
          go_roundw
          case rel => exact ⟨i + 1, by omega, by go_num, HQ3, HM3, hb4⟩
          case measure => simp [intOf]; omega
      · have hok := ok4_high (js := js) (i := i) hk (by omega)
        rw [hk] at c1
        clear hk
        obtain ⟨w3, hup, hM3, hg⟩ := HUP.out (Obj.cells #[Value.int IntKind.i64 4, Value.string js[i].name, Value.slice ea js[i].ends.length ec] 182)
        have HM3 := hidQ hM3
        have hb4 : Below w.heap.size w w3 := Below.grown (show Below w.heap.size w (wr.alloc _) from (by repeat (first | exact Below.refl _ _ | assumption | refine Below.drew ?_ | refine bdrewN ?_ _ | refine Below.setCell ?_ (by first | omega | (simp; done) | (simp; omega)) _ | refine Below.alloc ?_ (by first | omega | (simp; done) | (simp; omega)) _))) hg (by simp; omega) (fun j hj => by cases hj; exact Nat.le_refl _)
        clear hM3 hg HUP
        cases ho : ok4 js i js[i]
        · have HX2 := hidQ (HX.out ho)
          rw [ho] at hok
          replace hok := hok.symm
          clear HX HQ2 ho hup HM3 hb4
          go_wp2_with (first | (go_at_call 122; refine (kindOf_4 _).mono ?_; rintro e w' ⟨rfl, rfl⟩) | (go_at_call 136; refine (jointNameOk_4 _ _ _ _ hsz (hlk _)).mono ?_; rintro e w' ⟨rfl, rfl⟩))
          go_ret
          exact ⟨ret_int HX2.out.symm, (by repeat (first | exact Below.refl _ _ | assumption | refine Below.drew ?_ | refine bdrewN ?_ _ | refine Below.setCell ?_ (by first | omega | (simp; done) | (simp; omega)) _ | refine Below.alloc ?_ (by first | omega | (simp; done) | (simp; omega)) _))⟩
        · have HQ3 := hidQ (HQ2.out ho)
          rw [ho] at hok
          replace hok := hok.symm
          clear HX HQ2 ho
          go_wp2_with (first | (go_at_call 122; refine (kindOf_4 _).mono ?_; rintro e w' ⟨rfl, rfl⟩) | (go_at_call 136; refine (jointNameOk_4 _ _ _ _ hsz (hlk _)).mono ?_; rintro e w' ⟨rfl, rfl⟩))
          go_roundw
          case rel => exact ⟨i + 1, by omega, by go_num, HQ3, HM3, hb4⟩
          case measure => simp [intOf]; omega
    · have HX := hidQ (firstBad_none (bad := bad4i js) (n := js.length) (fun q h => HQ.out q (by omega)))
      clear HQ HM
      go_wp2_with fail
      go_ret
      exact ⟨ret_int HX.out.symm, hb⟩

end Go.Proofs.Ytmkdgnmmebldgaa
