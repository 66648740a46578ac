import Derived.Test.YtmkdgnmmebldgaaKind
namespace Go.Proofs.Ytmkdgnmmebldgaa
open Go.RowKit

theorem bcellK {W w1 : World} (hb : Below W.heap.size W w1) : (∀ b o, b < W.heap.size → w1.cell? ⟨b, o, none⟩ = W.cell? ⟨b, o, none⟩) :=
  fun b o h => hb.cell (p := ⟨b, o, none⟩) h

theorem ok3_kind {np : Nat} {j : MJoint} (h : inB j.kind 1 4 = false) : ok3 np j = false := by simp [ok3, h]
theorem ok3_len {np : Nat} {j : MJoint} (h : ((j.ends.length : Int) == j.kind) = false) : ok3 np j = false := by simp only [ok3, h]; simp
theorem ok3_end {np : Nat} {j : MJoint} (m : Nat) (hm : m < j.ends.length) (h : endB np j.ends[m].piece j.ends[m].side = false) : ok3 np j = false := by
  have : (j.ends.all fun e => endB np e.piece e.side) = false := List.all_eq_false.2 ⟨_, List.getElem_mem hm, by simp [h]⟩
  simp only [ok3, this]; simp

set_option maxHeartbeats 1000000 in
theorem jointOk_no (j : MJoint) (ea : Option Addr) (ec np : Nat) (w : World) (hk : inB j.kind 1 4 = false) :
    Calls Try.prog 135 #[.agg #[.int .i64 j.kind, .string j.name, .slice ea j.ends.length ec], .int .i64 np] w fun e w' => e = .returned (.bool (ok3 np j)) ∧ Below w.heap.size w w' := by
  rw [ok3_kind hk]
  go_enter Try.func135, Try.ntmps135
  go_wp2_with (go_at_call 122; refine (kindOf_no _ hk _).mono ?_; rintro e w' ⟨rfl, rfl⟩)
  go_quiet (fail)
  go_wp2_with fail
  go_ret
  exact ⟨rfl, (by repeat (first | exact Below.refl _ _ | assumption | refine Below.drew ?_ | refine bdrewN ?_ _ | refine Below.setCell ?_ (by first | omega | (simp; done) | (simp; omega)) _ | refine Below.alloc ?_ (by first | omega | (simp; done) | (simp; omega)) _))⟩

end Go.Proofs.Ytmkdgnmmebldgaa
