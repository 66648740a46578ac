import Derived.Test.YtmkdgnmmebldgaaRows
import Derived.Test.YtmkdgnmmebldgaaOpen
import Derived.WalkKit
import Derived.ProofKit
import Derived.OpenShut
import Derived.ShutString
import Derived.ChangeOld
import Derived.Below
namespace Go.Proofs.Ytmkdgnmmebldgaa
open Go.ChangeShapes Go.WideShapes Go.ChangeAt Go.RowKit

theorem Try.own : ownKnob Try.prog.godebug = none := by kernel_rfl
theorem Try.cellsLNet : Try.prog.cellsOf 63 = 2 := by kernel_rfl

set_option maxRecDepth 100000 in
theorem netOk_lifted (os : Os) (started : os.Started) (H : Type) (enc : TypeId × Value → H) :
    ReturnsInHanded {} Try.checked os 6 .any (Rows.fnExactNetOkSpec.pre6 enc Try.prog Try.f6 Rows.fnExactNetOkRow.domain false) (Rows.fnExactNetOkSpec.post enc Try.prog Try.f6 false true false false) := by
  refine returnsInHanded_of_change (C := Try.checked) Try.own started (by kernel_rfl) Try.func6
    (ChangeSpec.witness6 (enc := enc) (C := Try.checked) false ⟨#[], #[.agg #[.slice none 0 0, .slice none 0 0]], []⟩ 8 (by kernel_rfl) (by kernel_rfl) (by kernel_rfl) (by kernel_rfl)) ?_
  intro W base args ds gs before hval0 hW hcnd _
  have hval : ∀ (j : Nat) t v, Try.f6.params[j]? = some t → args[j]? = some v → Value.okWide Try.prog W .any base t v := hval0
  have hW' := hW
  obtain ⟨p, q, hA0, hV, rfl, hfz, hnd⟩ := hW
  have hA : DataW.TrodAll enc Try.prog W 0 (fun _ => true) true Try.f6.params.toList args.toList ds p := hA0
  rw [Try.params6] at hA hval
  obtain ⟨v0, vs0, d0, ds0, p0, q0, hargs, rfl, rfl, h0, r0⟩ := trodAll_cons hA
  obtain ⟨rfl, rfl, rfl⟩ := trodAll_nil r0
  obtain rfl : args = #[v0] := by cases args; simp_all
  obtain ⟨rfl, rfl⟩ := trodVars_none hV
  have k0 := h0
  have lt0 : ∀ x ∈ p0, x.block < W.heap.size := by obtain ⟨m, hm⟩ := k0; exact DataW.trod_lt m _ _ _ hm
  obtain ⟨pa, pc, ps, ja, jc, js, hv0, hpp, hjj⟩ : ∃ (pa : Option Addr) (pc : Nat) (ps : List MPiece) (ja : Option Addr) (jc : Nat) (js : List MJoint), v0 = .agg #[.slice pa ps.length pc, .slice ja js.length jc] ∧ PiecesAt W pa ps ∧ JointsAt W ja js := by
    obtain ⟨c0, c1, y0, y1, m, e0, _, _, t0, t1⟩ := Joins.open_agg2 Try.underlying63 (by kernel_rfl) Try.cellsLNet (hval 0 63 v0 rfl rfl) h0
    obtain ⟨pa, pc, ps, f0, hpp⟩ := open_pieces t0
    obtain ⟨ja, jc, js, f1, hjj⟩ := open_joints t1
    simp at f0 f1
    subst f0 f1
    exact ⟨pa, pc, ps, ja, jc, js, e0, hpp, hjj⟩
  subst hv0
  clear hA0 hval0
  refine (lawNetOk_any pa ja pc jc ps js W hpp hjj).mono fun e W' ⟨he, bel⟩ => ?_
  subst he
  exact ⟨_, rfl, _, _, _, [], _, [], hW', trodAll_mk1 (shut_bool Try.underlying4 _), (trodAll_cons_mk (Below.trod Try.laidOutB (by kernel_rfl) (of_decide_eq_true (by kernel_rfl)) k0 bel lt0) trodAll_mk0), rfl, bel.frame _, fun h => by cases h⟩

theorem netOk_holds : Rows.FnExactNetOkSaid :=
  OpenClaim.holds_of_wide 6 Try.f6 rfl rfl rfl rfl rfl rfl rfl ⟨rfl, rfl, rfl, rfl, rfl⟩ rfl rfl rfl rfl rfl (by kernel_rfl) Try.func6 (by kernel_rfl)
    (of_decide_eq_true (by kernel_rfl)) (by unfold Func.isWrapper; first | (rw [if_pos (by decide +kernel)]; kernel_rfl) | (rw [if_neg (by decide +kernel)]; exact ⟨rfl, rfl⟩))
    (fun os started H enc _ => netOk_lifted os started H enc)

#print axioms netOk_holds

end Go.Proofs.Ytmkdgnmmebldgaa
