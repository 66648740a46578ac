import Derived.Test.YtmkdgnmmebldgaaLeaf
namespace Go.Proofs.Ytmkdgnmmebldgaa
open Go.RowKit

theorem nameB_of_size {s : ByteArray} (h : ¬ (1 ≤ s.size ∧ s.size ≤ 20)) : nameB s = false := by simp [nameB, h]
theorem nameB_of_to {s : ByteArray} (h : 1 ≤ s.size ∧ s.size ≤ 20) (h2 : nameTo s s.size = true) : nameB s = true := by simp [nameB, h, h2]
theorem nameB_of_sign {s : ByteArray} (k : Nat) (h : k < s.size) (h1 : signI (s[k].toNat : Int) = false) : nameB s = false := by
  simp [nameB, nameTo_false s k h h1]
theorem sign_cases (c : Int) : signI c = true ∧ (97 ≤ c ∧ c ≤ 122 ∨ ¬ 97 ≤ c ∧ 48 ≤ c ∧ c ≤ 57 ∨ ¬ 97 ≤ c ∧ 48 ≤ c ∧ ¬ c ≤ 57 ∧ (c == 95) = true) ∨
    signI c = false ∧ (c == 95) = false ∧ (¬ c ≤ 122 ∧ decide (c ≤ 57) = false ∨ ¬ 97 ≤ c ∧ ¬ c ≤ 57 ∨ ¬ 48 ≤ c) := by
  unfold signI
  simp only [decide_eq_true_eq, decide_eq_false_iff_not, beq_iff_eq, beq_eq_false_iff_ne]
  omega
theorem nameTo_zero (s : ByteArray) : nameTo s 0 = true := by simp [nameTo]

set_option maxHeartbeats 400000 in
theorem l1name_any (s : ByteArray) (w : World) (hs : s.size ≤ maxLen) :
    Calls Try.prog 58 #[.string s] w fun e w' => e = .returned (.bool (nameB s)) ∧ w' = w := by
  unfold maxLen at hs
  go_enter Try.func58, Try.ntmps58
  go_wp2
  go_loop [3] (fun i => ∃ k : Nat, k ≤ s.size ∧ i = .int .i64 k ∧ Hid (nameTo s k = true)) (fun i => s.size - (intOf i).toNat)
  case atStart => exact ⟨0, Nat.zero_le _, rfl, nameTo_zero s⟩
  case round =>
    obtain ⟨k, hk, rfl, hn⟩ := hrel
    by_cases hlt : k < s.size
    · have HS : Hid (nameTo s (k + 1) = (nameTo s k && signI (s[k].toNat : Int))) := nameTo_succ s k hlt
      have HF : Hid (signI (s[k].toNat : Int) = false → nameB s = false) := nameB_of_sign k hlt
      have hcl : signI (s[k].toNat : Int) = true ∧ (97 ≤ (s[k].toNat : Int) ∧ (s[k].toNat : Int) ≤ 122 ∨ ¬ 97 ≤ (s[k].toNat : Int) ∧ 48 ≤ (s[k].toNat : Int) ∧ (s[k].toNat : Int) ≤ 57 ∨ ¬ 97 ≤ (s[k].toNat : Int) ∧ 48 ≤ (s[k].toNat : Int) ∧ ¬ (s[k].toNat : Int) ≤ 57 ∧ ((s[k].toNat : Int) == 95) = true) ∨
          signI (s[k].toNat : Int) = false ∧ ((s[k].toNat : Int) == 95) = false ∧ (¬ (s[k].toNat : Int) ≤ 122 ∧ decide ((s[k].toNat : Int) ≤ 57) = false ∨ ¬ 97 ≤ (s[k].toNat : Int) ∧ ¬ (s[k].toNat : Int) ≤ 57 ∨ ¬ 48 ≤ (s[k].toNat : Int)) := sign_cases _
      rcases hcl with ⟨hT, hcl⟩ | ⟨hT, h95, hcl⟩
      · have HT : Hid (nameTo s (k + 1) = true) := by
          have h1 := HS.out
          rw [hn.out, hT] at h1
          exact h1
        clear hT HS HF hn
        rcases hcl with hcl | hcl | hcl
        all_goals
          go_wp2
          go_round
          case rel => exact ⟨k + 1, by omega, by go_num, HT⟩
          case measure => simp [intOf]; omega
      · have HB : Hid (nameB s = false) := HF.out hT
        clear hT HS HF hn
        rcases hcl with hcl | hcl | hcl
        all_goals
          go_wp2
          go_ret
          exact ⟨ret_bool HB.out.symm, rfl⟩
    · have hk' : k = s.size := by omega
      have HN : Hid (nameTo s s.size = true) := hk' ▸ hn
      clear hn hk'
      by_cases h20 : 1 ≤ s.size ∧ s.size ≤ 20
      · have HB : Hid (nameB s = true) := nameB_of_to h20 HN.out
        go_wp2
        go_ret
        exact ⟨ret_bool (by rw [HB.out]; simp; omega), rfl⟩
      · have HB : Hid (nameB s = false) := nameB_of_size h20
        go_wp2
        all_goals
          go_ret
          exact ⟨ret_bool (by rw [HB.out]; try simp; try omega), rfl⟩

set_option maxHeartbeats 400000 in
theorem nameOk_any (s : ByteArray) (w : World) (hs : s.size ≤ maxLen) :
    Calls Try.prog 165 #[.string s] w fun e w' => e = .returned (.bool (nameB s)) ∧ w' = w := by
  unfold maxLen at hs
  by_cases h20 : 1 ≤ s.size ∧ s.size ≤ 20
  · have hin : inB (s.size : Int) 1 20 = true := inB_t (by omega) (by omega)
    go_enter Try.func165, Try.ntmps165
    go_wp2_with (go_at_call 121; refine (within_any _ _ _ _).mono ?_; rintro e w' ⟨rfl, rfl⟩)
    go_loop [3, 10] (fun _ i => ∃ k : Nat, k ≤ s.size ∧ i = .int .i64 k ∧ Hid (nameTo s k = true)) (fun _ i => s.size - (intOf i).toNat)
    case atStart => exact ⟨0, Nat.zero_le _, rfl, nameTo_zero s⟩
    case round =>
      obtain ⟨k, hk, rfl, hn⟩ := hrel
      by_cases hlt : k < s.size
      · have HS : Hid (nameTo s (k + 1) = (nameTo s k && signI (s[k].toNat : Int))) := nameTo_succ s k hlt
        have HF : Hid (signI (s[k].toNat : Int) = false → nameB s = false) := nameB_of_sign k hlt
        cases hT : signI (s[k].toNat : Int)
        · have HB : Hid (nameB s = false) := HF.out hT
          clear HS HF hn
          go_wp2_with (go_at_call 180; refine (nameSign_any _ _).mono ?_; rintro e w' ⟨rfl, rfl⟩)
          go_ret
          exact ⟨ret_bool HB.out.symm, rfl⟩
        · have HT : Hid (nameTo s (k + 1) = true) := by
            have h1 := HS.out
            rw [hn.out, hT] at h1
            exact h1
          clear HS HF hn
          go_wp2_with (go_at_call 180; refine (nameSign_any _ _).mono ?_; rintro e w' ⟨rfl, rfl⟩)
          go_round
          case rel => exact ⟨k + 1, by omega, by go_num, HT⟩
          case measure => simp [intOf]; omega
      · have hk' : k = s.size := by omega
        have HN : Hid (nameTo s s.size = true) := hk' ▸ hn
        clear hn hk'
        have HB : Hid (nameB s = true) := nameB_of_to h20 HN.out
        go_wp2
        go_ret
        exact ⟨ret_bool HB.out.symm, rfl⟩
  · have hin : inB (s.size : Int) 1 20 = false := by unfold inB; simp; omega
    have HB : Hid (nameB s = false) := nameB_of_size h20
    go_enter Try.func165, Try.ntmps165
    go_wp2_with (go_at_call 121; refine (within_any _ _ _ _).mono ?_; rintro e w' ⟨rfl, rfl⟩)
    go_ret
    exact ⟨ret_bool HB.out.symm, rfl⟩

end Go.Proofs.Ytmkdgnmmebldgaa
