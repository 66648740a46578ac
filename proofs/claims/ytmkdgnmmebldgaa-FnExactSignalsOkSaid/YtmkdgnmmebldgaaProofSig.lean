import Derived.Test.YtmkdgnmmebldgaaRows
import Derived.Test.YtmkdgnmmebldgaaOpen
import Derived.Test.YtmkdgnmmebldgaaLawSig
import Derived.WalkKit
import Derived.ProofKit
import Derived.OpenShut
import Derived.ShutString
import Derived.ChangeOld
import Derived.Below
namespace Go.Proofs.Ytmkdgnmmebldgaa
open Go.ChangeShapes Go.WideShapes Go.ChangeAt Go.RowKit Go.Deep

theorem Try.cellsLSignal : Try.prog.cellsOf 149 = 4 := by kernel_rfl
theorem ownSig : ownKnob Try.prog.godebug = none := by kernel_rfl
theorem cellsLNetSig : Try.prog.cellsOf 63 = 2 := by kernel_rfl

section
variable {H : Type} {enc : TypeId × Value → H} {w : World}

theorem open_signals {fuel : Nat} {cs : List Value} {y : DataW H × List MemPlace} (h : DataW.trod enc Try.prog w 0 (fun _ => true) true fuel 72 cs = some y) :
    ∃ (a : Option Addr) (cap : Nat) (ps : List MPiece), cs = [.slice a ps.length cap] ∧ PiecesAt w a ps := by
  rcases open_slice Try.underlying72 h with ⟨hcs, _⟩ | ⟨a, len, cap, m, n, D, Pl, hcs, _, hl, hm, hmm, _, hx⟩
  · exact ⟨none, 0, [], hcs, by simp [maxLen], by simp, Or.inl rfl⟩
  · rw [if_pos rfl] at hmm
    subst hmm
    by_cases hl0 : len = 0
    · subst hl0
      exact ⟨some a, m, [], hcs, by simp [maxLen], by simp, Or.inl rfl⟩
    obtain ⟨cs0, hcs0, _⟩ := hx 0 (by omega)
    have hspot := spot_of hcs0 (by rw [Try.cellsLSignal]; omega)
    clear hcs0
    obtain ⟨ab, ao, asp⟩ := a
    simp only at hspot
    subst hspot
    have hi : ∀ i, i < len → ∃ p : MPiece, p.name.size ≤ maxLen ∧ w.cell? ⟨ab, ao + i * 4, none⟩ = some (.string p.name) ∧ w.cell? ⟨ab, ao + i * 4 + 1, none⟩ = some (.int .i64 p.len) ∧
        w.cell? ⟨ab, ao + i * 4 + 2, none⟩ = some (.int .i64 p.speed) ∧ w.cell? ⟨ab, ao + i * 4 + 3, none⟩ = some (.int .i64 p.brake) := by
      intro i hi
      obtain ⟨cs', h1, h2⟩ := hx i (by omega)
      rw [Try.cellsLSignal] at h1
      obtain ⟨_, hlen, hc⟩ := World.cells?_some h1
      match cs', hlen with
      | [c0, c1, c2, c3], _ =>
        obtain ⟨y0, y1, y2, y3, n', _, _, t0, t1, t2, t3⟩ := Joins.trod_struct4 Try.underlying149 h2
        simp [Try.cellsStr, Try.cellsInt] at t0 t1 t2 t3
        obtain ⟨s, e0, _, hs⟩ := DataW.trod_string Try.underlying9 t0
        obtain ⟨x1, e1, _, _⟩ := DataW.trod_int Try.underlying3 t1
        obtain ⟨x2, e2, _, _⟩ := DataW.trod_int Try.underlying3 t2
        obtain ⟨x3, e3, _, _⟩ := DataW.trod_int Try.underlying3 t3
        simp at e0 e1 e2 e3
        subst e0 e1 e2 e3
        have k0 := hc 0 (by omega)
        have k1 := hc 1 (by omega)
        have k2 := hc 2 (by omega)
        have k3 := hc 3 (by omega)
        rw [addr_add2] at k0 k1 k2 k3
        simp at k0 k1 k2 k3
        exact ⟨⟨s, x1, x2, x3⟩, hs, k0, k1, k2, k3⟩
    obtain ⟨ps, hpl, hp⟩ := choose_list len hi
    subst hpl
    refine ⟨_, m, ps, hcs, by omega, ?_, ?_⟩
    · intro p hp'
      obtain ⟨i, hi', rfl⟩ := List.getElem_of_mem hp'
      exact (hp i hi').1
    · exact Or.inr ⟨ab, ao, rfl, fun i hi' => (hp i hi').2⟩
end

set_option maxRecDepth 100000 in
theorem signalsOk_lifted (os : Os) (started : os.Started) (H : Type) (enc : TypeId × Value → H) :
    ReturnsInHanded {} Try.checked os 7 .any (Rows.fnExactSignalsOkSpec.pre6 enc Try.prog Try.f7 Rows.fnExactSignalsOkRow.domain false) (Rows.fnExactSignalsOkSpec.post enc Try.prog Try.f7 false true false false) := by
  refine returnsInHanded_of_change (C := Try.checked) ownSig started (by kernel_rfl) Try.func7
    (ChangeSpec.witness6 (enc := enc) (C := Try.checked) false ⟨#[], #[.agg #[.slice none 0 0, .slice none 0 0], .slice none 0 0], []⟩ 8 (by kernel_rfl) (by kernel_rfl) (by kernel_rfl) (by kernel_rfl)) ?_
  intro W base args ds gs before hval0 hW hcnd _
  have hval : ∀ (j : Nat) t v, Try.f7.params[j]? = some t → args[j]? = some v → Value.okWide Try.prog W .any base t v := hval0
  have hW' := hW
  obtain ⟨p, q, hA0, hV, rfl, hfz, hnd⟩ := hW
  have hA : DataW.TrodAll enc Try.prog W 0 (fun _ => true) true Try.f7.params.toList args.toList ds p := hA0
  rw [Try.params7] at hA hval
  obtain ⟨v0, vs0, d0, ds0, p0, q0, hargs, rfl, rfl, h0, r0⟩ := trodAll_cons hA
  obtain ⟨v1, vs1, d1, ds1, p1, q1, rfl, rfl, rfl, h1, r1⟩ := trodAll_cons r0
  obtain ⟨rfl, rfl, rfl⟩ := trodAll_nil r1
  obtain rfl : args = #[v0, v1] := by cases args; simp_all
  obtain ⟨rfl, rfl⟩ := trodVars_none hV
  have k0 := h0
  have lt0 : ∀ x ∈ p0, x.block < W.heap.size := by obtain ⟨m, hm⟩ := k0; exact DataW.trod_lt m _ _ _ hm
  have k1 := h1
  have lt1 : ∀ x ∈ p1, x.block < W.heap.size := by obtain ⟨m, hm⟩ := k1; exact DataW.trod_lt m _ _ _ hm
  obtain ⟨pa, pc, ps, ja, jc, js, hv0, hpp, hjj⟩ : ∃ (pa : Option Addr) (pc : Nat) (ps : List MPiece) (ja : Option Addr) (jc : Nat) (js : List MJoint), v0 = .agg #[.slice pa ps.length pc, .slice ja js.length jc] ∧ PiecesAt W pa ps ∧ JointsAt W ja js := by
    obtain ⟨c0, c1, y0, y1, m, e0, _, _, t0, t1⟩ := Joins.open_agg2 Try.underlying63 (by kernel_rfl) cellsLNetSig (hval 0 63 v0 rfl rfl) h0
    obtain ⟨pa, pc, ps, f0, hpp⟩ := open_pieces t0
    obtain ⟨ja, jc, js, f1, hjj⟩ := open_joints t1
    simp at f0 f1
    subst f0 f1
    exact ⟨pa, pc, ps, ja, jc, js, e0, hpp, hjj⟩
  subst hv0
  obtain ⟨sa, sc, ss, hv1, hss⟩ : ∃ (sa : Option Addr) (sc : Nat) (ss : List MPiece), v1 = .slice sa ss.length sc ∧ PiecesAt W sa ss := by
    obtain ⟨sa, len, sc, rfl⟩ := okWide_slice Try.underlying72 (hval 1 72 v1 rfl rfl)
    obtain ⟨fuel, hf⟩ := h1
    obtain ⟨a, cap, ss, e, hss⟩ := open_signals hf
    simp [Value.cells] at e
    obtain ⟨rfl, rfl, rfl⟩ := e
    exact ⟨_, _, ss, rfl, hss⟩
  subst hv1
  clear hA0 hval0
  refine (lawSignalsOk_any pa ja sa pc jc sc ps js ss W hpp hjj hss).mono fun e W' ⟨he, bel⟩ => ?_
  subst he
  exact ⟨_, rfl, _, _, _, [], _, [], hW', trodAll_mk1 (shut_bool Try.underlying4 _), (trodAll_cons_mk (Below.trod Try.laidOutB (by kernel_rfl) (of_decide_eq_true (by kernel_rfl)) k0 bel lt0) (trodAll_cons_mk (Below.trod Try.laidOutB (by kernel_rfl) (of_decide_eq_true (by kernel_rfl)) k1 bel lt1) trodAll_mk0)), rfl, bel.frame _, fun h => by cases h⟩

theorem signalsOk_holds : Rows.FnExactSignalsOkSaid :=
  OpenClaim.holds_of_wide 7 Try.f7 rfl rfl rfl rfl rfl rfl rfl ⟨rfl, rfl, rfl, rfl, rfl⟩ rfl rfl rfl rfl rfl (by kernel_rfl) Try.func7 (by kernel_rfl)
    (of_decide_eq_true (by kernel_rfl)) (by unfold Func.isWrapper; first | (rw [if_pos (by decide +kernel)]; kernel_rfl) | (rw [if_neg (by decide +kernel)]; exact ⟨rfl, rfl⟩))
    (fun os started H enc _ => signalsOk_lifted os started H enc)

#print axioms signalsOk_holds

end Go.Proofs.Ytmkdgnmmebldgaa
