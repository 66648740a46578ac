import Derived.Test.YtmkdgnmmebldgaaTMath
import Derived.Laws.BitsAllLaws
namespace Go.Proofs.Ytmkdgnmmebldgaa
open Go.RowKit

/-! Sets of numbers by their remainders, as plain mathematics. -/

def bitN (n : Int) : Nat := (n % 128).toNat
theorem bitN_lt (n : Int) : bitN n < 128 := by unfold bitN; omega
structure MSet where
  a : Nat
  b : Nat
def MSet.Ok (s : MSet) : Prop := s.a < 18446744073709551616 ∧ s.b < 18446744073709551616
def emptyF : MSet := ⟨0, 0⟩
def withF (s : MSet) (n : Int) : MSet := if bitN n < 64 then ⟨s.a ||| 2 ^ (bitN n % 64), s.b⟩ else ⟨s.a, s.b ||| 2 ^ (bitN n % 64)⟩
def keysF (l : List Int) : MSet := l.foldl withF emptyF
def meetsF (s t : MSet) : Bool := (s.a &&& t.a != 0) || (s.b &&& t.b != 0)
def hasF (s : MSet) (n : Int) : Bool := if bitN n < 64 then s.a.testBit (bitN n % 64) else s.b.testBit (bitN n % 64)

theorem pow64 {i : Nat} (h : i < 64) : 2 ^ i < 18446744073709551616 := Nat.pow_lt_pow_right (by omega) h
theorem withF_ok {s : MSet} (h : s.Ok) (n : Int) : (withF s n).Ok := by
  have hp := pow64 (Nat.mod_lt (bitN n) (show 0 < 64 by omega))
  unfold withF
  split
  · exact ⟨Nat.or_lt_two_pow (n := 64) h.1 hp, h.2⟩
  · exact ⟨h.1, Nat.or_lt_two_pow (n := 64) h.2 hp⟩
theorem emptyF_ok : emptyF.Ok := by unfold MSet.Ok emptyF; decide
theorem fold_ok : ∀ (l : List Int) (s : MSet), s.Ok → (l.foldl withF s).Ok
  | [], _, h => h
  | n :: r, _, h => fold_ok r _ (withF_ok h n)
theorem keysF_ok (l : List Int) : (keysF l).Ok := fold_ok l _ emptyF_ok
theorem has_with (s : MSet) (n : Int) : hasF (withF s n) n = true := by
  unfold hasF withF
  by_cases h : bitN n < 64
  · simp [h, Nat.testBit_or, Nat.testBit_two_pow_self]
  · simp [h, Nat.testBit_or, Nat.testBit_two_pow_self]
theorem has_mono (s : MSet) (n m : Int) (h : hasF s n = true) : hasF (withF s m) n = true := by
  unfold hasF at h ⊢
  unfold withF
  by_cases h1 : bitN n < 64 <;> by_cases h2 : bitN m < 64 <;> simp [h1, h2, Nat.testBit_or] at h ⊢ <;> simp [h]
theorem has_fold : ∀ (l : List Int) (s : MSet) (n : Int), hasF s n = true ∨ n ∈ l → hasF (l.foldl withF s) n = true
  | [], _, n, h => h.resolve_right (by simp)
  | m :: r, s, n, h => by
    simp only [List.foldl_cons]
    refine has_fold r _ n ?_
    rcases h with h | h
    · exact Or.inl (has_mono s n m h)
    · rcases List.mem_cons.1 h with rfl | h
      · exact Or.inl (has_with s n)
      · exact Or.inr h
theorem has_keys {l : List Int} {n : Int} (h : n ∈ l) : hasF (keysF l) n = true := has_fold l _ n (Or.inr h)
theorem and_ne_zero {a b i : Nat} (h1 : a.testBit i = true) (h2 : b.testBit i = true) : (a &&& b != 0) = true := by
  have h : (a &&& b).testBit i = true := by simp [Nat.testBit_and, h1, h2]
  have : a &&& b ≠ 0 := fun e => by rw [e] at h; simp at h
  simp [this]
theorem meets_has {s t : MSet} {n : Int} (h1 : hasF s n = true) (h2 : hasF t n = true) : meetsF s t = true := by
  unfold hasF at h1 h2
  unfold meetsF
  by_cases h : bitN n < 64
  · simp only [h, if_true] at h1 h2
    rw [and_ne_zero h1 h2]; rfl
  · simp only [h, if_false] at h1 h2
    rw [and_ne_zero h1 h2]; simp
theorem keys_meet {l r : List Int} {n : Int} (h1 : n ∈ l) (h2 : n ∈ r) : meetsF (keysF l) (keysF r) = true := meets_has (has_keys h1) (has_keys h2)
theorem keys_snoc (l : List Int) (n : Int) : keysF (l ++ [n]) = withF (keysF l) n := by unfold keysF; rw [List.foldl_append]; rfl

/-- The numbers that serve as keys of a map are numbers of 64 bits. -/
structure WfR (r : MRoute) : Prop where
  lies : ∀ i (h : i < r.lies.length), (Lit.int .i64 r.lies[i].piece).wf = true ∧ (Lit.int .i64 r.lies[i].side).wf = true
  flanks : ∀ i (h : i < r.flanks.length), (Lit.int .i64 r.flanks[i].of).wf = true ∧ (Lit.int .i64 r.flanks[i].lie).wf = true

def WfRs (rs : List MRoute) : Prop := ∀ i (h : i < rs.length), WfR rs[i]

/-- Where keys do not meet, nothing holds of two. -/
theorem any2_part {α : Type} {xs ys : List α} {key : α → Int} {p : α → α → Bool} (hp : ∀ x y, p x y = true → key x = key y) (h : meetsF (keysF (xs.map key)) (keysF (ys.map key)) = false) : (xs.any fun x => ys.any fun y => p x y) = false := by
  rw [List.any_eq_false]
  intro x hx h2
  rw [List.any_eq_true] at h2
  obtain ⟨y, hy, hxy⟩ := h2
  have e := hp x y hxy
  rw [keys_meet (List.mem_map.2 ⟨x, hx, rfl⟩) (List.mem_map.2 ⟨y, hy, e.symm⟩)] at h
  exact absurd h (by simp)

theorem touchP_key (x y : MPart) (h : touchP x y = true) : x.piece = y.piece := by
  unfold touchP at h
  simp only [Bool.and_eq_true, beq_iff_eq] at h
  exact h.1.1
theorem touchP_symm (x y : MPart) : touchP x y = touchP y x := by
  unfold touchP
  rw [Bool.and_assoc, Bool.and_assoc, Bool.and_comm (decide (x.lo ≤ y.hi))]
  have : (x.piece == y.piece) = (y.piece == x.piece) := by rw [Bool.eq_iff_iff, beq_iff_eq, beq_iff_eq]; exact ⟨Eq.symm, Eq.symm⟩
  rw [this]
theorem any_swap {α β : Type} (xs : List α) (ys : List β) (p : α → β → Bool) : (xs.any fun x => ys.any fun y => p x y) = (ys.any fun y => xs.any fun x => p x y) := by
  rw [Bool.eq_iff_iff]
  simp only [List.any_eq_true]
  exact ⟨fun ⟨x, hx, y, hy, h⟩ => ⟨y, hy, x, hx, h⟩, fun ⟨y, hy, x, hx, h⟩ => ⟨x, hx, y, hy, h⟩⟩
theorem touchL_symm (a b : List MPart) : touchL a b = touchL b a := by
  unfold touchL
  rw [any_swap]
  simp only [touchP_symm]
theorem crossL_symm (a b : List Int) : crossL a b = crossL b a := by
  unfold crossL
  rw [any_swap]
  rw [Bool.eq_iff_iff]
  simp only [List.any_eq_true, beq_iff_eq]
  exact ⟨fun ⟨x, hx, y, hy, h⟩ => ⟨x, hx, y, hy, h.symm⟩, fun ⟨x, hx, y, hy, h⟩ => ⟨x, hx, y, hy, h.symm⟩⟩
theorem wantL_symm (a b : List MEnd) : wantL a b = wantL b a := by
  unfold wantL
  rw [any_swap]
  rw [Bool.eq_iff_iff]
  simp only [List.any_eq_true, Bool.and_eq_true, beq_iff_eq, bne_iff_ne, ne_eq]
  exact ⟨fun ⟨x, hx, y, hy, h⟩ => ⟨x, hx, y, hy, h.1.symm, fun e => h.2 e.symm⟩, fun ⟨x, hx, y, hy, h⟩ => ⟨x, hx, y, hy, h.1.symm, fun e => h.2 e.symm⟩⟩
theorem exclF_symm (a b : MRoute) : exclF a b = exclF b a := by
  unfold exclF
  rw [touchL_symm a.parts, crossL_symm a.crosses, wantL_symm (needsF a.lies a.flanks), touchL_symm a.over, touchL_symm a.parts b.over]
  simp only [Or.comm]

end Go.Proofs.Ytmkdgnmmebldgaa
