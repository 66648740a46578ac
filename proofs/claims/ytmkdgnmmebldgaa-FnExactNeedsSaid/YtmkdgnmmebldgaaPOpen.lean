import Derived.Test.YtmkdgnmmebldgaaTOpen
import Derived.WalkKit
import Derived.ProofKit
import Derived.OpenShut
import Derived.ShutString
import Derived.ChangeOld
import Derived.Below
namespace Go.Proofs.Ytmkdgnmmebldgaa
open Go.ChangeShapes Go.WideShapes Go.ChangeAt Go.RowKit Go.Deep

theorem Try.laidOutN : Go.laidOutB Try.prog = true := by kernel_rfl
theorem ownNeeds : ownKnob Try.prog.godebug = none := by kernel_rfl

section
variable {H : Type} {enc : TypeId × Value → H} {w : World}
theorem arr8 {α : Type} {cs : Array α} (h : cs.size = 8) : ∃ c0 c1 c2 c3 c4 c5 c6 c7, cs = #[c0, c1, c2, c3, c4, c5, c6, c7] := by
  obtain ⟨l⟩ := cs
  match l, h with
  | [c0, c1, c2, c3, c4, c5, c6, c7], _ => exact ⟨c0, c1, c2, c3, c4, c5, c6, c7, rfl⟩
set_option maxRecDepth 100000 in
/-- A route by value, opened. -/
theorem openRouteV {r0 : Reach} {b0 : Nat} {v : Value} {d : DataW H} {p : List MemPlace} (hv : Value.okWide Try.prog w r0 b0 83 v) (h : DataW.Trod enc Try.prog w 0 (fun _ => true) true 83 v d p) :
    ∃ (da : RAddr) (r : MRoute), v = routeV da r ∧ RListsAt w da r ∧ WfR r := by
  obtain ⟨cs, rfl, hsz⟩ := okWide_struct Try.underlying83 hv
  rw [Try.cellsLRoute] at hsz
  obtain ⟨c0, c1, c2, c3, c4, c5, c6, c7, rfl⟩ := arr8 hsz
  obtain ⟨fuel, hf⟩ := h
  obtain ⟨da, r, rfl, rfl, rfl, rfl, rfl, rfl, rfl, rfl, hl, hwf⟩ := openRoute (by simpa [Value.cells] using hf)
  exact ⟨da, r, rfl, hl, hwf⟩
end

end Go.Proofs.Ytmkdgnmmebldgaa
