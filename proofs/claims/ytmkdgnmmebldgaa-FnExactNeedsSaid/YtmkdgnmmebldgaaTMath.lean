import Derived.Test.YtmkdgnmmebldgaaRMem
import Derived.Test.YtmkdgnmmebldgaaMath
namespace Go.Proofs.Ytmkdgnmmebldgaa
open Go.RowKit

/-! Who excludes whom, as plain mathematics. -/

def touchP (x y : MPart) : Bool := x.piece == y.piece && decide (x.lo ≤ y.hi) && decide (y.lo ≤ x.hi)
def touchL (a b : List MPart) : Bool := a.any fun x => b.any fun y => touchP x y
def crossL (a b : List Int) : Bool := a.any fun x => b.any fun y => x == y
def wantL (a b : List MEnd) : Bool := a.any fun x => b.any fun y => x.piece == y.piece && x.side != y.side
def metL (out : List MEnd) (f : MFlank) : Bool := out.any fun x => x.piece == f.of && x.side == f.lie
def needStep (out : List MEnd) (f : MFlank) : List MEnd := if f.kind = 3 ∧ metL out f = false then out ++ [⟨f.of, f.lie⟩] else out
def needsF (lies : List MEnd) (flanks : List MFlank) : List MEnd := flanks.foldl needStep lies
def exclF (a b : MRoute) : Int :=
  if touchL a.parts b.parts = true then 1
  else if crossL a.crosses b.crosses = true then 2
  else if wantL (needsF a.lies a.flanks) (needsF b.lies b.flanks) = true then 3
  else if touchL a.over b.parts = true ∨ touchL a.parts b.over = true then 4
  else 0
def tableF (rs : List MRoute) : List (List Int) := if 300 < rs.length then [] else rs.map fun a => rs.map (exclF a)

theorem any_hit {α : Type} {p : α → Bool} {l : List α} {i : Nat} (hi : i < l.length) (h : p l[i] = true) : l.any p = true := List.any_eq_true.2 ⟨_, List.getElem_mem hi, h⟩
theorem any_none {α : Type} {p : α → Bool} {l : List α} (h : ∀ i (hi : i < l.length), p l[i] = false) : l.any p = false := by
  rw [List.any_eq_false]
  intro x hx
  obtain ⟨i, hi, rfl⟩ := List.getElem_of_mem hx
  rw [h i hi]
  simp
theorem any_take_succ {α : Type} (p : α → Bool) (l : List α) (k : Nat) (hk : k < l.length) : (l.take (k + 1)).any p = ((l.take k).any p || p l[k]) := by
  rw [List.take_succ_eq_append_getElem hk, List.any_append]
  simp
theorem fold_take_succ {α β : Type} (f : β → α → β) (b : β) (l : List α) (k : Nat) (hk : k < l.length) : (l.take (k + 1)).foldl f b = f ((l.take k).foldl f b) l[k] := by
  rw [List.take_succ_eq_append_getElem hk, List.foldl_append]
  rfl
theorem needStep_len (out : List MEnd) (f : MFlank) : (needStep out f).length ≤ out.length + 1 := by
  unfold needStep
  split <;> simp
theorem needs_len : ∀ (fs : List MFlank) (out : List MEnd), (fs.foldl needStep out).length ≤ out.length + fs.length
  | [], out => by simp
  | f :: r, out => by
    have h1 := needs_len r (needStep out f)
    have h2 := needStep_len out f
    simp only [List.foldl_cons, List.length_cons]
    omega

end Go.Proofs.Ytmkdgnmmebldgaa
