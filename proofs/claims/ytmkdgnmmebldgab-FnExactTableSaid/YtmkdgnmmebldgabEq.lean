import Derived.Test.YtmkdgnmmebldgabTo
import Derived.RegionTactic
import Derived.Deep.RegionWith
import Derived.Deep.RegionHeld3
import Derived.Deep.QuietTactic
import Derived.BigQuiet
namespace Go.Proofs.Ytmkdgnmmebldgab
open Go.RowKit Go.Deep

def SzOk (ps : List MPiece) (js : List MJoint) : Prop := ps.length ≤ 1048576 ∧ js.length ≤ 1048576 ∧ ∀ j, j ∈ js → j.ends.length ≤ 1048576

theorem szP_le : ∀ (ps : List MPiece) (left : Int), 0 ≤ left → szP left ps ≤ left ∧ -1 ≤ szP left ps
  | [], left, h => ⟨Int.le_refl _, by simp only [szP]; omega⟩
  | p :: r, left, h => by
    simp only [szP]
    by_cases h1 : left < p.name.size
    · rw [if_pos h1]; omega
    · rw [if_neg h1]
      have := szP_le r (left - p.name.size) (by omega)
      omega
theorem szJ_le : ∀ (ps : List MJoint) (left : Int), 0 ≤ left → szJ left ps ≤ left ∧ -1 ≤ szJ left ps ∧ (0 ≤ szJ left ps → ∀ j, j ∈ ps → (j.ends.length : Int) ≤ left)
  | [], left, h => ⟨Int.le_refl _, by simp only [szJ]; omega, fun _ j hj => absurd hj List.not_mem_nil⟩
  | p :: r, left, h => by
    simp only [szJ]
    by_cases h1 : left < p.name.size
    · rw [if_pos h1]; exact ⟨by omega, by omega, fun h => absurd h (by omega)⟩
    · rw [if_neg h1]
      by_cases h2 : left - p.name.size < p.ends.length
      · rw [if_pos h2]; exact ⟨by omega, by omega, fun h => absurd h (by omega)⟩
      · rw [if_neg h2]
        have := szJ_le r (left - p.name.size - p.ends.length) (by omega)
        refine ⟨by omega, by omega, fun h3 j hj => ?_⟩
        rcases List.mem_cons.1 hj with rfl | hj
        · omega
        · have := this.2.2 h3 j hj
          omega

end Go.Proofs.Ytmkdgnmmebldgab
