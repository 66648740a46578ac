import Derived.Test.YtmkdgnmmebldgabLeaf
namespace Go.Proofs.Ytmkdgnmmebldgab
open Go.RowKit

theorem nameB_of_size {s : ByteArray} (h : ¬ (1 ≤ s.size ∧ s.size ≤ 20)) : nameB s = false := by simp [nameB, h]
theorem nameB_of_to {s : ByteArray} (h : 1 ≤ s.size ∧ s.size ≤ 20) (h2 : nameTo s s.size = true) : nameB s = true := by simp [nameB, h, h2]
theorem nameB_of_sign {s : ByteArray} (k : Nat) (h : k < s.size) (h1 : signI (s[k].toNat : Int) = false) : nameB s = false := by
  simp [nameB, nameTo_false s k h h1]
theorem sign_cases (c : Int) : signI c = true ∧ (97 ≤ c ∧ c ≤ 122 ∨ ¬ 97 ≤ c ∧ 48 ≤ c ∧ c ≤ 57 ∨ ¬ 97 ≤ c ∧ 48 ≤ c ∧ ¬ c ≤ 57 ∧ (c == 95) = true) ∨
    signI c = false ∧ (c == 95) = false ∧ (¬ c ≤ 122 ∧ decide (c ≤ 57) = false ∨ ¬ 97 ≤ c ∧ ¬ c ≤ 57 ∨ ¬ 48 ≤ c) := by
  unfold signI
  simp only [decide_eq_true_eq, decide_eq_false_iff_not, beq_iff_eq, beq_eq_false_iff_ne]
  omega
theorem nameTo_zero (s : ByteArray) : nameTo s 0 = true := by simp [nameTo]

end Go.Proofs.Ytmkdgnmmebldgab
