import Derived.Test.YtmkdgnmmebldgabSNeeds
import Derived.Test.YtmkdgnmmebldgabTRoute2
namespace Go.Proofs.Ytmkdgnmmebldgab
open Go.RowKit Go.Deep

theorem own_of_owns {w : World} {B T K n : Nat} {x : Option Addr} {y : Nat} {xs : List Value} (h : w.ownsRow B T K (.slice x n y) n xs) : OwnA w T K x n := by
  rcases h.2 with ⟨_, h0⟩ | ⟨g, cap, cur, h1, _, h3, h4, _, h6, _⟩
  · exact Or.inl h0
  · cases h1
    exact Or.inr ⟨g, cur.size, fun j => cur.getD j (.bool false), rfl, ⟨cur, h3, rfl, fun i hi => by simp [Array.getD, hi]⟩, by rw [h6]; exact Nat.mul_le_mul_right _ h4⟩
theorem blk_of_owns {w : World} {B T K n b : Nat} {x : Option Addr} {y : Nat} {xs : List Value} (h : w.ownsRow B T K (.slice x n y) n xs) (hb : BlkOf x n b) : B ≤ b ∧ b < w.heap.size := by
  obtain ⟨_, o, s, rfl⟩ := hb
  exact h.lt b rfl
theorem owns_only {S : Nat → Prop} {w w' : World} {B e s n : Nat} {v : Value} {xs : List Value} (h : w.ownsRow B e s v n xs) (hO : Only S w w') (hS : ∀ b, v.ownBlock = some b → ¬ S b) : w'.ownsRow B e s v n xs := by
  refine ⟨h.1, ?_⟩
  rcases h.2 with h2 | ⟨g, cap, cur, h1, h2, h3, h4⟩
  · exact Or.inl h2
  · refine Or.inr ⟨g, cap, cur, h1, h2, (hO.block g (Array.getElem?_eq_some_iff.1 h3).1 (hS g (by rw [h1]; rfl))).trans h3, h4⟩

theorem blkR_in {w : World} {lo : Nat} {g : Nat → Nat} {r : MRoute} (h : RRow w lo g r) {b : Nat} (hb : BlkR g b) : lo ≤ b ∧ b < w.heap.size := by
  have h0 := h.l0
  have h1 := h.l1
  have h2 := h.l2
  have h3 := h.l3
  have h4 := h.l4
  have h5 := h.l5
  have h6 := h.lt
  unfold BlkR at hb
  omega

end Go.Proofs.Ytmkdgnmmebldgab
