import Derived.Test.YtmkdgnmmebldgabProg
import Derived.WalkKit
import Derived.WalkSpells
import Derived.WalkLawsBesides
namespace Go.Proofs.Ytmkdgnmmebldgab
open Go.RowKit

theorem ret_int {k : IntKind} {a b : Int} (h : a = b) : Ending.returned (.int k a) = .returned (.int k b) := by rw [h]
theorem ret_bool {a b : Bool} (h : a = b) : Ending.returned (.bool a) = .returned (.bool b) := by rw [h]

theorem bdrewN {B : Nat} {a w : World} (h : Below B a w) (n : Nat) : Below B a (w.drewN n) := h.trans ⟨rfl, rfl, rfl, Nat.le_refl _, fun _ _ => rfl⟩
theorem beqS_ne {a b : ByteArray} (h : a ≠ b) : (a.toList == b.toList) = false := by
  rw [ByteArray.toList_eq, ByteArray.toList_eq, beq_eq_false_iff_ne]
  intro e
  apply h
  obtain ⟨⟨x⟩⟩ := a
  obtain ⟨⟨y⟩⟩ := b
  simp at e
  rw [e]
theorem emptyS_ne {a : ByteArray} (h : a ≠ ⟨#[]⟩) : a.toList.isEmpty = false := by
  rw [ByteArray.toList_eq]
  obtain ⟨⟨x⟩⟩ := a
  cases x with
  | nil => exact absurd rfl h
  | cons c r => rfl

def inB (x a b : Int) : Bool := decide (a ≤ x ∧ x ≤ b)
theorem inB_t {x a b : Int} (h1 : a ≤ x) (h2 : x ≤ b) : inB x a b = true := by simp [inB, h1, h2]
theorem inB_f1 {x a b : Int} (h1 : ¬ a ≤ x) : inB x a b = false := by simp [inB, h1]
theorem inB_f2 {x a b : Int} (h2 : ¬ x ≤ b) : inB x a b = false := by simp [inB, h2]

def signI (n : Int) : Bool := decide (97 ≤ n ∧ n ≤ 122 ∨ 48 ≤ n ∧ n ≤ 57 ∨ n = 95)

/-- The first k bytes are all signs of a name. -/
def nameTo (s : ByteArray) (k : Nat) : Bool := (s.data.toList.take k).all fun c => signI (c.toNat : Int)
def nameB (s : ByteArray) : Bool := decide (1 ≤ s.size ∧ s.size ≤ 20) && nameTo s s.size

theorem nameTo_succ (s : ByteArray) (k : Nat) (h : k < s.size) : nameTo s (k + 1) = (nameTo s k && signI (s[k].toNat : Int)) := by
  unfold nameTo
  rw [List.take_succ_eq_append_getElem (by simpa using h)]
  simp
  rfl
theorem nameTo_false (s : ByteArray) (k : Nat) (h : k < s.size) (h1 : signI (s[k].toNat : Int) = false) : nameTo s s.size = false := by
  unfold nameTo
  rw [List.take_of_length_le (by simp), List.all_eq_false]
  refine ⟨s[k], ?_, by simp [h1]⟩
  exact List.getElem_mem (l := s.data.toList) (by simpa using h)

end Go.Proofs.Ytmkdgnmmebldgab
