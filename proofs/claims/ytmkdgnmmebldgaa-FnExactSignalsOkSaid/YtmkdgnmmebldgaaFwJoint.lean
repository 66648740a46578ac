import Derived.Test.YtmkdgnmmebldgaaJointOkK1
import Derived.Test.YtmkdgnmmebldgaaJointOkK2
import Derived.Test.YtmkdgnmmebldgaaJointOkK3
import Derived.Test.YtmkdgnmmebldgaaJointOkK4
import Derived.Test.YtmkdgnmmebldgaaFwPiece
namespace Go.Proofs.Ytmkdgnmmebldgaa
open Go.RowKit

theorem kind_cases {k : Int} (h : inB k 1 4 = true) : k = 1 ∨ k = 2 ∨ k = 3 ∨ k = 4 := by
  unfold inB at h
  simp at h
  omega

theorem jointOk_any (j : MJoint) (ea : Option Addr) (ec np : Nat) (w : World) (he : Hid (EndsAt w ea j.ends)) (hnp : np ≤ maxLen) :
    Calls Try.prog 135 #[.agg #[.int .i64 j.kind, .string j.name, .slice ea j.ends.length ec], .int .i64 np] w fun e w' => e = .returned (.bool (ok3 np j)) ∧ Below w.heap.size w w' := by
  cases hk : inB j.kind 1 4
  · exact jointOk_no j ea ec np w hk
  · obtain ⟨kd, s, es⟩ := j
    rcases kind_cases hk with h | h | h | h
    · obtain rfl : kd = 1 := h
      exact jointOk_1 s es ea ec np w he hnp
    · obtain rfl : kd = 2 := h
      exact jointOk_2 s es ea ec np w he hnp
    · obtain rfl : kd = 3 := h
      exact jointOk_3 s es ea ec np w he hnp
    · obtain rfl : kd = 4 := h
      exact jointOk_4 s es ea ec np w he hnp

set_option maxHeartbeats 1000000 in
theorem firstWrongJoint_any (pa ja : Option Addr) (pl pc jc : Nat) (js : List MJoint) (w : World) (hj : Hid (JointsAt w ja js)) (hpl : pl ≤ maxLen) :
    Calls Try.prog 65 #[.agg #[.slice pa pl pc, .slice ja js.length jc]] w fun e w' => e = .returned (.int .i64 (firstBad (bad3i pl js) js.length)) ∧ Below w.heap.size w w' := by
  have hl := hj.out.1
  unfold maxLen at hl
  go_enter Try.func65, Try.ntmps65
  go_wp2_with fail
  generalize hW : w.alloc (Obj.cells #[Value.slice pa pl pc, Value.slice ja js.length jc] 26) = W
  have e0 : W.cell? ⟨w.heap.size, 0, none⟩ = some (.slice pa pl pc) := by rw [← hW]; simp [go_sem]
  have hz : w.heap.size + 1 = W.heap.size := by rw [← hW]; simp
  have hbW : Below w.heap.size w W := by rw [← hW]; exact (by repeat (first | exact Below.refl _ _ | assumption | refine Below.drew ?_ | refine bdrewN ?_ _ | refine Below.setCell ?_ (by first | omega | (simp; done) | (simp; omega)) _ | refine Below.alloc ?_ (by first | omega | (simp; done) | (simp; omega)) _))
  clear hW
  go_loopw [8] (fun c wr => ∃ (i : Nat), i ≤ js.length ∧ c = .int .i64 i ∧ Hid (∀ q, q < i → bad3i pl js q = false) ∧ Below W.heap.size W wr) (fun c _ => js.length - (intOf c).toNat)
  case atStart => exact ⟨0, Nat.zero_le _, rfl, (fun q h => absurd h (Nat.not_lt_zero q)), (by repeat (first | exact Below.refl _ _ | assumption | refine Below.drew ?_ | refine bdrewN ?_ _ | refine Below.setCell ?_ (by first | omega | (simp; done) | (simp; omega)) _ | refine Below.alloc ?_ (by first | omega | (simp; done) | (simp; omega)) _))⟩
  case round =>
    obtain ⟨i, hi, rfl, HQ, hb⟩ := hrel
    have hbs := hb.size
    have hz2 : w.heap.size < wr.heap.size := by omega
    have e0' := cell_later hb e0
    by_cases hi' : i < js.length
    · obtain ⟨b1, off1, rfl, hpc⟩ := hj.out.2.2.resolve_left (fun h => by rw [h] at hi'; exact absurd hi' (Nat.not_lt_zero _))
      obtain ⟨c1, c2, ea, ec, c3, c4⟩ := ((hpc.below hbW).below hb) i hi'
      have C4 := hidQ c4
      clear hpc c4
      go_wp2_with fail
      refine (jointOk_any js[i] _ _ _ _ (C4.out.below (by repeat (first | exact Below.refl _ _ | assumption | refine Below.drew ?_ | refine bdrewN ?_ _ | refine Below.setCell ?_ (by first | omega | (simp; done) | (simp; omega)) _ | refine Below.alloc ?_ (by first | omega | (simp; done) | (simp; omega)) _))) hpl).mono ?_
      rintro e w2 ⟨rfl, hb2⟩
      have hb3 : Below W.heap.size W w2 := Below.trans (by repeat (first | exact Below.refl _ _ | assumption | refine Below.drew ?_ | refine bdrewN ?_ _ | refine Below.setCell ?_ (by first | omega | (simp; done) | (simp; omega)) _ | refine Below.alloc ?_ (by first | omega | (simp; done) | (simp; omega)) _)) (hb2.mono (by simp; omega))
      clear hb hb2 c1 c2 c3 e0'
      cases ho : ok3 pl js[i]
      · have HX := hidQ (firstBad_hit hi' (by rw [bad3i_at hi', ho]; rfl) HQ.out)
        clear ho
        go_wp2_with fail
        go_ret
        exact ⟨ret_int HX.out.symm, hbW.trans (hb3.mono hbW.size)⟩
      · have HQ2 : Hid (∀ q, q < i + 1 → bad3i pl js q = false) := by
          intro q hq
          by_cases e : q < i
          · exact HQ.out q e
          · have : q = i := by omega
            subst this
            rw [bad3i_at hi', ho]; rfl
        clear ho HQ
        go_wp2_with fail
        go_roundw
        case rel => exact ⟨i + 1, by omega, by go_num, HQ2, hb3⟩
        case measure => simp [intOf]; omega
    · have HX := hidQ (firstBad_none (bad := bad3i pl js) (n := js.length) (fun q h => HQ.out q (by omega)))
      clear HQ
      go_wp2_with fail
      go_ret
      exact ⟨ret_int HX.out.symm, hbW.trans (hb.mono hbW.size)⟩

set_option maxHeartbeats 400000 in
theorem jointNameOk_1 (s : ByteArray) (m : Option Nat) (w : World) :
    Calls Try.prog 136 #[.iface 252 (.agg #[]), .string s, .map m] w fun e w' => e = .returned (.bool (decide (s = ⟨#[]⟩))) ∧ w' = w := by
  by_cases h : s = ⟨#[]⟩
  · subst h
    go_enter Try.func136, Try.ntmps136
    go_wp2_with (go_at_call 166; refine (hasName_1 _).mono ?_; rintro e w' ⟨rfl, rfl⟩)
    go_ret
    exact ⟨rfl, rfl⟩
  · have HX : Hid (decide (s = (⟨#[]⟩ : ByteArray)) = false) := by unfold Hid; simp [h]
    have h' := emptyS_ne h
    clear h
    go_enter Try.func136, Try.ntmps136
    go_wp2_with (go_at_call 166; refine (hasName_1 _).mono ?_; rintro e w' ⟨rfl, rfl⟩)
    go_ret
    exact ⟨ret_bool HX.out.symm, rfl⟩

set_option maxHeartbeats 400000 in
theorem jointNameOk_2 (s : ByteArray) (m : Option Nat) (w : World) :
    Calls Try.prog 136 #[.iface 253 (.agg #[]), .string s, .map m] w fun e w' => e = .returned (.bool (decide (s = ⟨#[]⟩))) ∧ w' = w := by
  by_cases h : s = ⟨#[]⟩
  · subst h
    go_enter Try.func136, Try.ntmps136
    go_wp2_with (go_at_call 166; refine (hasName_2 _).mono ?_; rintro e w' ⟨rfl, rfl⟩)
    go_ret
    exact ⟨rfl, rfl⟩
  · have HX : Hid (decide (s = (⟨#[]⟩ : ByteArray)) = false) := by unfold Hid; simp [h]
    have h' := emptyS_ne h
    clear h
    go_enter Try.func136, Try.ntmps136
    go_wp2_with (go_at_call 166; refine (hasName_2 _).mono ?_; rintro e w' ⟨rfl, rfl⟩)
    go_ret
    exact ⟨ret_bool HX.out.symm, rfl⟩

set_option maxHeartbeats 400000 in
theorem jointNameOk_3 (s : ByteArray) (b : Nat) (c : Int) (w : World) (hs : s.size ≤ maxLen) (hl : (Instr.lookup 222 (.map (some b)) (.string s) false).run Try.prog w = .ok (.int .i64 c) w) :
    Calls Try.prog 136 #[.iface 254 (.agg #[]), .string s, .map (some b)] w fun e w' => e = .returned (.bool (nameB s && (c == 0))) ∧ w' = w := by
  cases h : nameB s
  · go_enter Try.func136, Try.ntmps136
    go_wp2_with (first | (go_at_call 166; refine (hasName_3 _).mono ?_; rintro e w' ⟨rfl, rfl⟩) | (go_at_call 165; refine (nameOk_any _ _ hs).mono ?_; rintro e w' ⟨rfl, rfl⟩))
    go_ret
    exact ⟨rfl, rfl⟩
  · go_enter Try.func136, Try.ntmps136
    go_wp2_with (first | (go_at_call 166; refine (hasName_3 _).mono ?_; rintro e w' ⟨rfl, rfl⟩) | (go_at_call 165; refine (nameOk_any _ _ hs).mono ?_; rintro e w' ⟨rfl, rfl⟩))
    go_ret
    exact ⟨ret_bool (by simp), rfl⟩

set_option maxHeartbeats 400000 in
theorem jointNameOk_4 (s : ByteArray) (b : Nat) (c : Int) (w : World) (hs : s.size ≤ maxLen) (hl : (Instr.lookup 222 (.map (some b)) (.string s) false).run Try.prog w = .ok (.int .i64 c) w) :
    Calls Try.prog 136 #[.iface 255 (.agg #[]), .string s, .map (some b)] w fun e w' => e = .returned (.bool (nameB s && (c == 0))) ∧ w' = w := by
  cases h : nameB s
  · go_enter Try.func136, Try.ntmps136
    go_wp2_with (first | (go_at_call 166; refine (hasName_4 _).mono ?_; rintro e w' ⟨rfl, rfl⟩) | (go_at_call 165; refine (nameOk_any _ _ hs).mono ?_; rintro e w' ⟨rfl, rfl⟩))
    go_ret
    exact ⟨rfl, rfl⟩
  · go_enter Try.func136, Try.ntmps136
    go_wp2_with (first | (go_at_call 166; refine (hasName_4 _).mono ?_; rintro e w' ⟨rfl, rfl⟩) | (go_at_call 165; refine (nameOk_any _ _ hs).mono ?_; rintro e w' ⟨rfl, rfl⟩))
    go_ret
    exact ⟨ret_bool (by simp), rfl⟩

end Go.Proofs.Ytmkdgnmmebldgaa
