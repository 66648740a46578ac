import Derived.Test.YtmkdgnmmebldgaaRows
import Derived.Test.YtmkdgnmmebldgaaAp1
import Derived.Test.YtmkdgnmmebldgaaAp32
import Derived.WalkKit
import Derived.ProofKit
import Derived.OpenShut
import Derived.ShutString
import Derived.ChangeOld
import Derived.Below
namespace Go.Proofs.Ytmkdgnmmebldgaa
open Go.ChangeShapes Go.WideShapes Go.ChangeAt Go.RowKit Go.Deep

theorem Try.cellsU8 : Try.prog.cellsOf 5 = 1 := by kernel_rfl
theorem u8_small {x : Int} (h : (Lit.int .u8 x).wf = true) : 0 ≤ x ∧ x < 256 := by
  have e1 : IntKind.u8.min = 0 := by decide
  have e2 : IntKind.u8.max = 255 := by decide
  simp only [Lit.wf, e1, e2] at h
  simp at h
  omega

section
variable {H : Type} {enc : TypeId × Value → H} {w : World}
theorem openByteS {fuel : Nat} {cs : List Value} {y : DataW H × List MemPlace} (h : DataW.trod enc Try.prog w 0 (fun _ => true) true fuel 22 cs = some y) :
    ∃ (a : Option Addr) (cap : Nat) (bs : List Int), cs = [.slice a bs.length cap] ∧ BytesAt w a bs := by
  rcases open_slice Try.underlying22 h with ⟨hcs, _⟩ | ⟨a, len, cap, m, n, D, Pl, hcs, _, hl, hm, hmm, _, hx⟩
  · exact ⟨none, 0, [], hcs, by simp [maxLen], Or.inl rfl, fun x hx => by cases hx⟩
  · rw [if_pos rfl] at hmm
    subst hmm
    by_cases hl0 : len = 0
    · subst hl0
      exact ⟨some a, m, [], hcs, by simp [maxLen], Or.inl rfl, fun x hx => by cases hx⟩
    obtain ⟨cs0, hcs0, _⟩ := hx 0 (by omega)
    have hspot := spotOfB hcs0 (by rw [Try.cellsU8]; omega)
    clear hcs0
    obtain ⟨ab, ao, asp⟩ := a
    simp only at hspot
    subst hspot
    have hi : ∀ i, i < len → ∃ p : Int, w.cell? ⟨ab, ao + i, none⟩ = some (.int .u8 p) ∧ 0 ≤ p ∧ p < 256 := by
      intro i hi
      obtain ⟨cs', h1, h2⟩ := hx i (by omega)
      rw [Try.cellsU8] at h1
      obtain ⟨_, hlen, hc⟩ := World.cells?_some h1
      match cs', hlen with
      | [c0], _ =>
        obtain ⟨x0, e0, _, hw⟩ := DataW.trod_int Try.underlying5 h2
        simp at e0
        subst e0
        have k0 := hc 0 (by omega)
        rw [addrAddB] at k0
        simp at k0
        exact ⟨x0, k0, u8_small hw⟩
    obtain ⟨ps, hpl, hp⟩ := chooseB len hi
    subst hpl
    refine ⟨_, m, ps, hcs, by omega, Or.inr ⟨ab, ao, rfl, fun i hi' => (hp i hi').1⟩, fun x hx' => ?_⟩
    obtain ⟨i, hi', rfl⟩ := List.getElem_of_mem hx'
    exact (hp i hi').2
set_option maxRecDepth 100000 in
theorem openBytesV {r0 : Reach} {b0 : Nat} {v : Value} {d : DataW H} {p : List MemPlace} (hv : Value.okWide Try.prog w r0 b0 22 v) (h : DataW.Trod enc Try.prog w 0 (fun _ => true) true 22 v d p) :
    ∃ (a : Option Addr) (cap : Nat) (bs : List Int), v = .slice a bs.length cap ∧ BytesAt w a bs := by
  obtain ⟨a0, len, cap, rfl⟩ := okWide_slice Try.underlying22 hv
  obtain ⟨fuel, hf⟩ := h
  obtain ⟨a, c, bs, hcs, hb⟩ := openByteS (by simpa [Value.cells] using hf)
  refine ⟨a, c, bs, ?_, hb⟩
  simpa using hcs
end

set_option maxRecDepth 100000 in
theorem apart_lifted (os : Os) (started : os.Started) (H : Type) (enc : TypeId × Value → H) :
    ReturnsInHanded {} Try.checked os 3 .any (Rows.fnApartSpec.pre6 enc Try.prog Try.f3 Rows.fnApartRow.domain false) (Rows.fnApartSpec.post enc Try.prog Try.f3 false true false false) := by
  refine returnsInHanded_of_change (C := Try.checked) ownDraws started (by kernel_rfl) Try.func3
    (ChangeSpec.witness6 (enc := enc) (C := Try.checked) false ⟨#[], #[.slice none 0 0, .slice none 0 0], []⟩ 8 (by kernel_rfl) (by kernel_rfl) (by kernel_rfl) (by kernel_rfl)) ?_
  intro W base args ds gs before hval0 hW hcnd _
  have hval : ∀ (j : Nat) t v, Try.f3.params[j]? = some t → args[j]? = some v → Value.okWide Try.prog W .any base t v := hval0
  have hW' := hW
  obtain ⟨p, q, hA0, hV, rfl, hfz, hnd⟩ := hW
  have hA : DataW.TrodAll enc Try.prog W 0 (fun _ => true) true Try.f3.params.toList args.toList ds p := hA0
  rw [Try.params3] at hA hval
  obtain ⟨v0, vs0, d0, ds0, p0, q0, hargs, rfl, rfl, h0, r0⟩ := trodAll_cons hA
  obtain ⟨v1, vs1, d1, ds1, p1, q1, rfl, rfl, rfl, h1, r1⟩ := trodAll_cons r0
  obtain ⟨rfl, rfl, rfl⟩ := trodAll_nil r1
  obtain rfl : args = #[v0, v1] := by cases args; simp_all
  obtain ⟨rfl, rfl⟩ := trodVars_none hV
  have k0 := h0
  have k1 := h1
  have lt0 : ∀ x ∈ p0, x.block < W.heap.size := by obtain ⟨m, hm⟩ := k0; exact DataW.trod_lt m _ _ _ hm
  have lt1 : ∀ x ∈ p1, x.block < W.heap.size := by obtain ⟨m, hm⟩ := k1; exact DataW.trod_lt m _ _ _ hm
  obtain ⟨ca, cc, bs, hv0, hb0⟩ := openBytesV (hval 0 22 v0 rfl rfl) h0
  obtain ⟨ma, mc, ms, hv1, hb1⟩ := openBytesV (hval 1 22 v1 rfl rfl) h1
  subst hv0 hv1
  clear hA0 hval0
  refine (lawApart_any ca ma cc mc bs ms W hb0 hb1).mono fun e W' ⟨he, bel⟩ => ?_
  subst he
  exact ⟨_, rfl, _, _, _, [], _, [], hW', trodAll_mk1 (shut_bool Try.underlying4 _), (trodAll_cons_mk (Below.trod Try.laidOutD (by kernel_rfl) (of_decide_eq_true (by kernel_rfl)) k0 bel lt0) (trodAll_cons_mk (Below.trod Try.laidOutD (by kernel_rfl) (of_decide_eq_true (by kernel_rfl)) k1 bel lt1) trodAll_mk0)), rfl, bel.frame _, fun h => by cases h⟩

theorem apart_holds : Rows.FnApartSaid :=
  OpenClaim.holds_of_wide 3 Try.f3 rfl rfl rfl rfl rfl rfl rfl ⟨rfl, rfl, rfl, rfl, rfl⟩ rfl rfl rfl rfl rfl (by kernel_rfl) Try.func3 (by kernel_rfl)
    (of_decide_eq_true (by kernel_rfl)) (by unfold Func.isWrapper; first | (rw [if_pos (by decide +kernel)]; kernel_rfl) | (rw [if_neg (by decide +kernel)]; exact ⟨rfl, rfl⟩))
    (fun os started H enc _ => apart_lifted os started H enc)

#print axioms apart_holds

end Go.Proofs.Ytmkdgnmmebldgaa
