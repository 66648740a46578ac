import Derived.Test.YtmkdgnmmebldgaaAp2
import Derived.OwnWalk
import Derived.WalkKit
import Derived.Laws.AppendOwnNone
namespace Go.Proofs.Ytmkdgnmmebldgaa
open Go.RowKit Go.Deep

/-! Lists that are written over with numbers in their order, and read again. -/

/-- A list of n elements, of K cells each, in a row that may be written. -/
def OwnA (w : World) (T K : Nat) (a : Option Addr) (n : Nat) : Prop := n = 0 ∨ ∃ g N f, a = some ⟨g, 0, none⟩ ∧ w.rowIs g T N f ∧ n * K ≤ N
/-- It holds the numbers from k on. -/
def MarkA (w : World) (K : Nat) (a : Option Addr) (n : Nat) (k : Int) : Prop := n = 0 ∨ ∃ g, a = some ⟨g, 0, none⟩ ∧ ∀ j, j < n * K → w.cell? ⟨g, j, none⟩ = some (.int .i64 (k + j))
/-- The block of a list that is not empty. -/
def BlkOf (a : Option Addr) (n : Nat) (b : Nat) : Prop := n ≠ 0 ∧ ∃ o s, a = some ⟨b, o, s⟩

theorem OwnA.kept {w w' : World} {T K n : Nat} {a : Option Addr} (h : OwnA w T K a n) (hb : ∀ b, BlkOf a n b → w'.heap[b]? = w.heap[b]?) : OwnA w' T K a n := by
  rcases h with h | ⟨g, N, f, h1, h2, h3⟩
  · exact Or.inl h
  · by_cases e : n = 0
    · exact Or.inl e
    · exact Or.inr ⟨g, N, f, h1, h2.of_block (hb g ⟨e, 0, none, h1⟩), h3⟩
theorem MarkA.kept {w w' : World} {K n : Nat} {a : Option Addr} {k : Int} (h : MarkA w K a n k) (hb : ∀ b, BlkOf a n b → w'.heap[b]? = w.heap[b]?) : MarkA w' K a n k := by
  rcases h with h | ⟨g, h1, h2⟩
  · exact Or.inl h
  · by_cases e : n = 0
    · exact Or.inl e
    · exact Or.inr ⟨g, h1, fun j hj => (World.cell?_of_block (w := w) (hb g ⟨e, 0, none, h1⟩)).trans (h2 j hj)⟩
theorem grown_set {w wr : World} {g : Nat} (h : w.grownBy wr (some g)) (i : Nat) (v : Value) : w.grownBy (wr.setCell ⟨g, i, none⟩ v) (some g) :=
  ⟨h.os, h.tape, h.output, by have := h.size; simpa [World.setCell] using this, fun b hb hne => (Below.heap_setCell _ _ _ _ (fun e => hne (by rw [e]))).trans (h.block b hb hne)⟩

theorem OwnA.lt {w : World} {T K n : Nat} {a : Option Addr} (h : OwnA w T K a n) {b : Nat} (hb : BlkOf a n b) : b < w.heap.size := by
  obtain ⟨h0, o, s, h1⟩ := hb
  rcases h with h | ⟨g, N, f, h2, h3, _⟩
  · exact absurd h h0
  · rw [h2] at h1
    cases h1
    exact h3.lt

theorem markStep_next {k : Int} {m : Nat} {f : Nat → Value} (h : ∀ j : Nat, j < m * 2 → f j = .int .i64 (k + j)) :
    ∀ j : Nat, j < (m + 1) * 2 → (fun j : Nat => if j = m * 2 + 1 then .int .i64 (k + m * 2 + 1) else if j = m * 2 then .int .i64 (k + m * 2) else f j) j = .int .i64 (k + j) := by
  intro j hj
  dsimp only
  by_cases e1 : j = m * 2 + 1
  · rw [if_pos e1]; congr 1; omega
  rw [if_neg e1]
  by_cases e0 : j = m * 2
  · rw [if_pos e0]; congr 1; omega
  rw [if_neg e0]
  exact h j (by omega)

set_option maxHeartbeats 1000000 in
theorem markStepS_walk (g N n cap : Nat) (k : Int) (f0 : Nat → Value) (w : World) (hr : Hid (w.rowIs g 51 N f0)) (hn : n * 2 ≤ N) (hk : 0 ≤ k) (hkb : k + n * 2 ≤ 1152921504606846976) :
    Calls Try.prog 92 #[.slice (some ⟨g, 0, none⟩) n cap, .int .i64 k] w fun e w' => e = .returned (.int .i64 (k + n * 2)) ∧ (∃ f, w'.rowIs g 51 N f ∧ ∀ j : Nat, j < n * 2 → f j = .int .i64 (k + j)) ∧ w.grownBy w' (some g) := by
  have hg0 : w.grownBy w (some g) := ⟨rfl, rfl, rfl, Nat.le_refl _, fun _ _ _ => rfl⟩
  have HG0 := hidP hg0
  clear hg0
  go_enter Try.func92, Try.ntmps92
  go_wp2_with fail
  go_loopw [1, 5] (fun kk i wr => ∃ (m : Nat) (f : Nat → Value), m ≤ n ∧ i = .int .i64 m ∧ kk = .int .i64 (k + m * 2) ∧ Hid (wr.rowIs g 51 N f) ∧ Hid (∀ j : Nat, j < m * 2 → f j = .int .i64 (k + j)) ∧ Hid (w.grownBy wr (some g))) (fun _ i _ => n - (intOf i).toNat)
  case atStart => exact ⟨0, f0, Nat.zero_le _, rfl, by simp, hr, (fun j h => absurd h (by omega)), HG0⟩
  case round =>
    obtain ⟨m, f, hm, rfl, rfl, hrow, hf, hg⟩ := hrel
    clear hr HG0
    by_cases hm' : m < n
    · have HN := hidP (markStep_next hf.out)
      have d0 := hrow.out.cell (i := m * 2) (by omega)
      have e0 := hrow.out.frozen (m * 2)
      have d1 := hrow.out.cell (i := m * 2 + 1) (by omega)
      have e1 := hrow.out.frozen (m * 2 + 1)
      clear hf
      go_wp2_with fail
      go_roundw
      case rel => exact ⟨m + 1, _, by omega, by go_num, by go_num, ((hrow.out.set (m * 2) _).set (m * 2 + 1) _), HN, (grown_set (grown_set hg.out _ _) _ _)⟩
      case measure => simp [intOf]; omega
    · have hmm : m = n := by omega
      subst hmm
      go_wp2
      go_ret
      exact ⟨rfl, ⟨f, hrow.out, hf.out⟩, hg.out⟩

set_option maxHeartbeats 400000 in
theorem markStepS_nil (a : Option Addr) (cap : Nat) (k : Int) (w : World) :
    Calls Try.prog 92 #[.slice a 0 cap, .int .i64 k] w fun e w' => e = .returned (.int .i64 k) ∧ w' = w := by
  go_enter Try.func92, Try.ntmps92
  go_wp2_with fail
  go_loopw [1, 5] (fun l i wr => i = .int .i64 0 ∧ l = .int .i64 k ∧ wr = w) (fun _ _ _ => 0)
  case atStart => exact ⟨rfl, rfl, rfl⟩
  case round =>
    obtain ⟨rfl, rfl, rfl⟩ := hrel
    go_wp2
    go_ret
    exact ⟨rfl, rfl⟩

theorem markStepS_any (a : Option Addr) (n cap : Nat) (k : Int) (w : World) (ho : OwnA w 51 2 a n) (hk : 0 ≤ k) (hkb : k + n * 2 ≤ 1152921504606846976) :
    Calls Try.prog 92 #[.slice a n cap, .int .i64 k] w fun e w' => e = .returned (.int .i64 (k + n * 2)) ∧ MarkA w' 2 a n k ∧ OwnA w' 51 2 a n ∧ Only (BlkOf a n) w w' := by
  by_cases h0 : n = 0
  · subst h0
    refine (markStepS_nil a cap k w).mono ?_
    rintro e w' ⟨rfl, rfl⟩
    exact ⟨by simp, Or.inl rfl, Or.inl rfl, Only.refl _ _⟩
  · rcases ho with ho | ⟨g, N, f, rfl, h2, h3⟩
    · exact absurd ho h0
    · refine (markStepS_walk g N n cap k f w h2 (by omega) hk hkb).mono ?_
      rintro e w' ⟨rfl, ⟨f', h4, h5⟩, h6⟩
      exact ⟨rfl, Or.inr ⟨g, rfl, fun j hj => by rw [h4.cell (by omega), h5 j (by omega)]⟩, Or.inr ⟨g, N, f', rfl, h4, h3⟩, Only.of_grown h6 (fun b hb => ⟨h0, 0, none, by cases hb; rfl⟩)⟩

theorem markLie_next {k : Int} {m : Nat} {f : Nat → Value} (h : ∀ j : Nat, j < m * 2 → f j = .int .i64 (k + j)) :
    ∀ j : Nat, j < (m + 1) * 2 → (fun j : Nat => if j = m * 2 + 1 then .int .i64 (k + m * 2 + 1) else if j = m * 2 then .int .i64 (k + m * 2) else f j) j = .int .i64 (k + j) := by
  intro j hj
  dsimp only
  by_cases e1 : j = m * 2 + 1
  · rw [if_pos e1]; congr 1; omega
  rw [if_neg e1]
  by_cases e0 : j = m * 2
  · rw [if_pos e0]; congr 1; omega
  rw [if_neg e0]
  exact h j (by omega)

set_option maxHeartbeats 1000000 in
theorem markLieS_walk (g N n cap : Nat) (k : Int) (f0 : Nat → Value) (w : World) (hr : Hid (w.rowIs g 48 N f0)) (hn : n * 2 ≤ N) (hk : 0 ≤ k) (hkb : k + n * 2 ≤ 1152921504606846976) :
    Calls Try.prog 36 #[.slice (some ⟨g, 0, none⟩) n cap, .int .i64 k] w fun e w' => e = .returned (.int .i64 (k + n * 2)) ∧ (∃ f, w'.rowIs g 48 N f ∧ ∀ j : Nat, j < n * 2 → f j = .int .i64 (k + j)) ∧ w.grownBy w' (some g) := by
  have hg0 : w.grownBy w (some g) := ⟨rfl, rfl, rfl, Nat.le_refl _, fun _ _ _ => rfl⟩
  have HG0 := hidP hg0
  clear hg0
  go_enter Try.func36, Try.ntmps36
  go_wp2_with fail
  go_loopw [1, 5] (fun kk i wr => ∃ (m : Nat) (f : Nat → Value), m ≤ n ∧ i = .int .i64 m ∧ kk = .int .i64 (k + m * 2) ∧ Hid (wr.rowIs g 48 N f) ∧ Hid (∀ j : Nat, j < m * 2 → f j = .int .i64 (k + j)) ∧ Hid (w.grownBy wr (some g))) (fun _ i _ => n - (intOf i).toNat)
  case atStart => exact ⟨0, f0, Nat.zero_le _, rfl, by simp, hr, (fun j h => absurd h (by omega)), HG0⟩
  case round =>
    obtain ⟨m, f, hm, rfl, rfl, hrow, hf, hg⟩ := hrel
    clear hr HG0
    by_cases hm' : m < n
    · have HN := hidP (markLie_next hf.out)
      have d0 := hrow.out.cell (i := m * 2) (by omega)
      have e0 := hrow.out.frozen (m * 2)
      have d1 := hrow.out.cell (i := m * 2 + 1) (by omega)
      have e1 := hrow.out.frozen (m * 2 + 1)
      clear hf
      go_wp2_with fail
      go_roundw
      case rel => exact ⟨m + 1, _, by omega, by go_num, by go_num, ((hrow.out.set (m * 2) _).set (m * 2 + 1) _), HN, (grown_set (grown_set hg.out _ _) _ _)⟩
      case measure => simp [intOf]; omega
    · have hmm : m = n := by omega
      subst hmm
      go_wp2
      go_ret
      exact ⟨rfl, ⟨f, hrow.out, hf.out⟩, hg.out⟩

set_option maxHeartbeats 400000 in
theorem markLieS_nil (a : Option Addr) (cap : Nat) (k : Int) (w : World) :
    Calls Try.prog 36 #[.slice a 0 cap, .int .i64 k] w fun e w' => e = .returned (.int .i64 k) ∧ w' = w := by
  go_enter Try.func36, Try.ntmps36
  go_wp2_with fail
  go_loopw [1, 5] (fun l i wr => i = .int .i64 0 ∧ l = .int .i64 k ∧ wr = w) (fun _ _ _ => 0)
  case atStart => exact ⟨rfl, rfl, rfl⟩
  case round =>
    obtain ⟨rfl, rfl, rfl⟩ := hrel
    go_wp2
    go_ret
    exact ⟨rfl, rfl⟩

theorem markLieS_any (a : Option Addr) (n cap : Nat) (k : Int) (w : World) (ho : OwnA w 48 2 a n) (hk : 0 ≤ k) (hkb : k + n * 2 ≤ 1152921504606846976) :
    Calls Try.prog 36 #[.slice a n cap, .int .i64 k] w fun e w' => e = .returned (.int .i64 (k + n * 2)) ∧ MarkA w' 2 a n k ∧ OwnA w' 48 2 a n ∧ Only (BlkOf a n) w w' := by
  by_cases h0 : n = 0
  · subst h0
    refine (markLieS_nil a cap k w).mono ?_
    rintro e w' ⟨rfl, rfl⟩
    exact ⟨by simp, Or.inl rfl, Or.inl rfl, Only.refl _ _⟩
  · rcases ho with ho | ⟨g, N, f, rfl, h2, h3⟩
    · exact absurd ho h0
    · refine (markLieS_walk g N n cap k f w h2 (by omega) hk hkb).mono ?_
      rintro e w' ⟨rfl, ⟨f', h4, h5⟩, h6⟩
      exact ⟨rfl, Or.inr ⟨g, rfl, fun j hj => by rw [h4.cell (by omega), h5 j (by omega)]⟩, Or.inr ⟨g, N, f', rfl, h4, h3⟩, Only.of_grown h6 (fun b hb => ⟨h0, 0, none, by cases hb; rfl⟩)⟩

set_option maxHeartbeats 1000000 in
theorem heldLieS_walk (g n cap : Nat) (k : Int) (w : World) (hc : Hid (∀ j : Nat, j < n * 2 → w.cell? ⟨g, j, none⟩ = some (.int .i64 (k + j)))) (hk : 0 ≤ k) (hkb : k + n * 2 ≤ 1152921504606846976) :
    Calls Try.prog 37 #[.slice (some ⟨g, 0, none⟩) n cap, .int .i64 k] w fun e w' => e = .returned (.int .i64 (k + n * 2)) ∧ Below w.heap.size w w' := by
  go_enter Try.func37, Try.ntmps37
  go_wp2_with fail
  go_loopw [1, 5] (fun kk i wr => ∃ (m : Nat), m ≤ n ∧ i = .int .i64 m ∧ kk = .int .i64 (k + m * 2) ∧ Below w.heap.size w wr) (fun _ i _ => n - (intOf i).toNat)
  case atStart => exact ⟨0, Nat.zero_le _, rfl, by simp, Below.refl _ _⟩
  case round =>
    obtain ⟨m, hm, rfl, rfl, hbw⟩ := hrel
    by_cases hm' : m < n
    · have hgw : g < w.heap.size := cellLt (hc.out 0 (by omega))
      have d0 : wr.cell? ⟨g, m * 2, none⟩ = some (.int .i64 (k + m * 2)) := by have := (cell_later hbw (hc.out (m * 2) (by omega))); rw [this]; first | done | (congr 2; done) | (congr 2; omega)
      have d1 : wr.cell? ⟨g, m * 2 + 1, none⟩ = some (.int .i64 (k + m * 2 + 1)) := by have := (cell_later hbw (hc.out (m * 2 + 1) (by omega))); rw [this]; first | done | (congr 2; done) | (congr 2; omega)
      go_wp2_with fail
      go_roundw
      case rel => exact ⟨m + 1, by omega, by go_num, by go_num, hbw⟩
      case measure => simp [intOf]; omega
    · have hmm : m = n := by omega
      subst hmm
      go_wp2
      go_ret
      exact ⟨rfl, hbw⟩

set_option maxHeartbeats 400000 in
theorem heldLieS_nil (a : Option Addr) (cap : Nat) (k : Int) (w : World) :
    Calls Try.prog 37 #[.slice a 0 cap, .int .i64 k] w fun e w' => e = .returned (.int .i64 k) ∧ w' = w := by
  go_enter Try.func37, Try.ntmps37
  go_wp2_with fail
  go_loopw [1, 5] (fun l i wr => i = .int .i64 0 ∧ l = .int .i64 k ∧ wr = w) (fun _ _ _ => 0)
  case atStart => exact ⟨rfl, rfl, rfl⟩
  case round =>
    obtain ⟨rfl, rfl, rfl⟩ := hrel
    go_wp2
    go_ret
    exact ⟨rfl, rfl⟩

theorem heldLieS_any (a : Option Addr) (n cap : Nat) (k : Int) (w : World) (ho : MarkA w 2 a n k) (hk : 0 ≤ k) (hkb : k + n * 2 ≤ 1152921504606846976) :
    Calls Try.prog 37 #[.slice a n cap, .int .i64 k] w fun e w' => e = .returned (.int .i64 (k + n * 2)) ∧ Below w.heap.size w w' := by
  by_cases h0 : n = 0
  · subst h0
    refine (heldLieS_nil a cap k w).mono ?_
    rintro e w' ⟨rfl, rfl⟩
    exact ⟨by simp, Below.refl _ _⟩
  · rcases ho with ho | ⟨g, rfl, h2⟩
    · exact absurd ho h0
    · exact heldLieS_walk g n cap k w (fun j hj => h2 j (by omega)) hk hkb

theorem markInt_next {k : Int} {m : Nat} {f : Nat → Value} (h : ∀ j : Nat, j < m → f j = .int .i64 (k + j)) :
    ∀ j : Nat, j < (m + 1) → (fun j : Nat => if j = m then .int .i64 (k + m) else f j) j = .int .i64 (k + j) := by
  intro j hj
  dsimp only
  by_cases e0 : j = m
  · rw [if_pos e0]; congr 1; omega
  rw [if_neg e0]
  exact h j (by omega)

set_option maxHeartbeats 1000000 in
theorem markIntS_walk (g N n cap : Nat) (k : Int) (f0 : Nat → Value) (w : World) (hr : Hid (w.rowIs g 3 N f0)) (hn : n ≤ N) (hk : 0 ≤ k) (hkb : k + n ≤ 1152921504606846976) :
    Calls Try.prog 93 #[.slice (some ⟨g, 0, none⟩) n cap, .int .i64 k] w fun e w' => e = .returned (.int .i64 (k + n)) ∧ (∃ f, w'.rowIs g 3 N f ∧ ∀ j : Nat, j < n → f j = .int .i64 (k + j)) ∧ w.grownBy w' (some g) := by
  have hg0 : w.grownBy w (some g) := ⟨rfl, rfl, rfl, Nat.le_refl _, fun _ _ _ => rfl⟩
  have HG0 := hidP hg0
  clear hg0
  go_enter Try.func93, Try.ntmps93
  go_wp2_with fail
  go_loopw [1, 5] (fun kk i wr => ∃ (m : Nat) (f : Nat → Value), m ≤ n ∧ i = .int .i64 m ∧ kk = .int .i64 (k + m) ∧ Hid (wr.rowIs g 3 N f) ∧ Hid (∀ j : Nat, j < m → f j = .int .i64 (k + j)) ∧ Hid (w.grownBy wr (some g))) (fun _ i _ => n - (intOf i).toNat)
  case atStart => exact ⟨0, f0, Nat.zero_le _, rfl, by simp, hr, (fun j h => absurd h (by omega)), HG0⟩
  case round =>
    obtain ⟨m, f, hm, rfl, rfl, hrow, hf, hg⟩ := hrel
    clear hr HG0
    by_cases hm' : m < n
    · have HN := hidP (markInt_next hf.out)
      have d0 := hrow.out.cell (i := m) (by omega)
      have e0 := hrow.out.frozen (m)
      clear hf
      go_wp2_with fail
      go_roundw
      case rel => exact ⟨m + 1, _, by omega, by go_num, by go_num, (hrow.out.set (m) _), HN, (grown_set hg.out _ _)⟩
      case measure => simp [intOf]; omega
    · have hmm : m = n := by omega
      subst hmm
      go_wp2
      go_ret
      exact ⟨rfl, ⟨f, hrow.out, hf.out⟩, hg.out⟩

set_option maxHeartbeats 400000 in
theorem markIntS_nil (a : Option Addr) (cap : Nat) (k : Int) (w : World) :
    Calls Try.prog 93 #[.slice a 0 cap, .int .i64 k] w fun e w' => e = .returned (.int .i64 k) ∧ w' = w := by
  go_enter Try.func93, Try.ntmps93
  go_wp2_with fail
  go_loopw [1, 5] (fun l i wr => i = .int .i64 0 ∧ l = .int .i64 k ∧ wr = w) (fun _ _ _ => 0)
  case atStart => exact ⟨rfl, rfl, rfl⟩
  case round =>
    obtain ⟨rfl, rfl, rfl⟩ := hrel
    go_wp2
    go_ret
    exact ⟨rfl, rfl⟩

theorem markIntS_any (a : Option Addr) (n cap : Nat) (k : Int) (w : World) (ho : OwnA w 3 1 a n) (hk : 0 ≤ k) (hkb : k + n ≤ 1152921504606846976) :
    Calls Try.prog 93 #[.slice a n cap, .int .i64 k] w fun e w' => e = .returned (.int .i64 (k + n)) ∧ MarkA w' 1 a n k ∧ OwnA w' 3 1 a n ∧ Only (BlkOf a n) w w' := by
  by_cases h0 : n = 0
  · subst h0
    refine (markIntS_nil a cap k w).mono ?_
    rintro e w' ⟨rfl, rfl⟩
    exact ⟨by simp, Or.inl rfl, Or.inl rfl, Only.refl _ _⟩
  · rcases ho with ho | ⟨g, N, f, rfl, h2, h3⟩
    · exact absurd ho h0
    · refine (markIntS_walk g N n cap k f w h2 (by omega) hk hkb).mono ?_
      rintro e w' ⟨rfl, ⟨f', h4, h5⟩, h6⟩
      exact ⟨rfl, Or.inr ⟨g, rfl, fun j hj => by rw [h4.cell (by omega), h5 j (by omega)]⟩, Or.inr ⟨g, N, f', rfl, h4, h3⟩, Only.of_grown h6 (fun b hb => ⟨h0, 0, none, by cases hb; rfl⟩)⟩

theorem markPart_next {k : Int} {m : Nat} {f : Nat → Value} (h : ∀ j : Nat, j < m * 3 → f j = .int .i64 (k + j)) :
    ∀ j : Nat, j < (m + 1) * 3 → (fun j : Nat => if j = m * 3 + 2 then .int .i64 (k + m * 3 + 1 + 1) else if j = m * 3 + 1 then .int .i64 (k + m * 3 + 1) else if j = m * 3 then .int .i64 (k + m * 3) else f j) j = .int .i64 (k + j) := by
  intro j hj
  dsimp only
  by_cases e2 : j = m * 3 + 2
  · rw [if_pos e2]; congr 1; omega
  rw [if_neg e2]
  by_cases e1 : j = m * 3 + 1
  · rw [if_pos e1]; congr 1; omega
  rw [if_neg e1]
  by_cases e0 : j = m * 3
  · rw [if_pos e0]; congr 1; omega
  rw [if_neg e0]
  exact h j (by omega)

set_option maxHeartbeats 1000000 in
theorem markPartS_walk (g N n cap : Nat) (k : Int) (f0 : Nat → Value) (w : World) (hr : Hid (w.rowIs g 44 N f0)) (hn : n * 3 ≤ N) (hk : 0 ≤ k) (hkb : k + n * 3 ≤ 1152921504606846976) :
    Calls Try.prog 94 #[.slice (some ⟨g, 0, none⟩) n cap, .int .i64 k] w fun e w' => e = .returned (.int .i64 (k + n * 3)) ∧ (∃ f, w'.rowIs g 44 N f ∧ ∀ j : Nat, j < n * 3 → f j = .int .i64 (k + j)) ∧ w.grownBy w' (some g) := by
  have hg0 : w.grownBy w (some g) := ⟨rfl, rfl, rfl, Nat.le_refl _, fun _ _ _ => rfl⟩
  have HG0 := hidP hg0
  clear hg0
  go_enter Try.func94, Try.ntmps94
  go_wp2_with fail
  go_loopw [1, 5] (fun kk i wr => ∃ (m : Nat) (f : Nat → Value), m ≤ n ∧ i = .int .i64 m ∧ kk = .int .i64 (k + m * 3) ∧ Hid (wr.rowIs g 44 N f) ∧ Hid (∀ j : Nat, j < m * 3 → f j = .int .i64 (k + j)) ∧ Hid (w.grownBy wr (some g))) (fun _ i _ => n - (intOf i).toNat)
  case atStart => exact ⟨0, f0, Nat.zero_le _, rfl, by simp, hr, (fun j h => absurd h (by omega)), HG0⟩
  case round =>
    obtain ⟨m, f, hm, rfl, rfl, hrow, hf, hg⟩ := hrel
    clear hr HG0
    by_cases hm' : m < n
    · have HN := hidP (markPart_next hf.out)
      have d0 := hrow.out.cell (i := m * 3) (by omega)
      have e0 := hrow.out.frozen (m * 3)
      have d1 := hrow.out.cell (i := m * 3 + 1) (by omega)
      have e1 := hrow.out.frozen (m * 3 + 1)
      have d2 := hrow.out.cell (i := m * 3 + 2) (by omega)
      have e2 := hrow.out.frozen (m * 3 + 2)
      clear hf
      go_wp2_with fail
      go_roundw
      case rel => exact ⟨m + 1, _, by omega, by go_num, by go_num, (((hrow.out.set (m * 3) _).set (m * 3 + 1) _).set (m * 3 + 2) _), HN, (grown_set (grown_set (grown_set hg.out _ _) _ _) _ _)⟩
      case measure => simp [intOf]; omega
    · have hmm : m = n := by omega
      subst hmm
      go_wp2
      go_ret
      exact ⟨rfl, ⟨f, hrow.out, hf.out⟩, hg.out⟩

set_option maxHeartbeats 400000 in
theorem markPartS_nil (a : Option Addr) (cap : Nat) (k : Int) (w : World) :
    Calls Try.prog 94 #[.slice a 0 cap, .int .i64 k] w fun e w' => e = .returned (.int .i64 k) ∧ w' = w := by
  go_enter Try.func94, Try.ntmps94
  go_wp2_with fail
  go_loopw [1, 5] (fun l i wr => i = .int .i64 0 ∧ l = .int .i64 k ∧ wr = w) (fun _ _ _ => 0)
  case atStart => exact ⟨rfl, rfl, rfl⟩
  case round =>
    obtain ⟨rfl, rfl, rfl⟩ := hrel
    go_wp2
    go_ret
    exact ⟨rfl, rfl⟩

theorem markPartS_any (a : Option Addr) (n cap : Nat) (k : Int) (w : World) (ho : OwnA w 44 3 a n) (hk : 0 ≤ k) (hkb : k + n * 3 ≤ 1152921504606846976) :
    Calls Try.prog 94 #[.slice a n cap, .int .i64 k] w fun e w' => e = .returned (.int .i64 (k + n * 3)) ∧ MarkA w' 3 a n k ∧ OwnA w' 44 3 a n ∧ Only (BlkOf a n) w w' := by
  by_cases h0 : n = 0
  · subst h0
    refine (markPartS_nil a cap k w).mono ?_
    rintro e w' ⟨rfl, rfl⟩
    exact ⟨by simp, Or.inl rfl, Or.inl rfl, Only.refl _ _⟩
  · rcases ho with ho | ⟨g, N, f, rfl, h2, h3⟩
    · exact absurd ho h0
    · refine (markPartS_walk g N n cap k f w h2 (by omega) hk hkb).mono ?_
      rintro e w' ⟨rfl, ⟨f', h4, h5⟩, h6⟩
      exact ⟨rfl, Or.inr ⟨g, rfl, fun j hj => by rw [h4.cell (by omega), h5 j (by omega)]⟩, Or.inr ⟨g, N, f', rfl, h4, h3⟩, Only.of_grown h6 (fun b hb => ⟨h0, 0, none, by cases hb; rfl⟩)⟩

theorem markFlank_next {k : Int} {m : Nat} {f : Nat → Value} (h : ∀ j : Nat, j < m * 4 → f j = .int .i64 (k + j)) :
    ∀ j : Nat, j < (m + 1) * 4 → (fun j : Nat => if j = m * 4 + 3 then .int .i64 (k + m * 4 + 1 + 1 + 1) else if j = m * 4 + 2 then .int .i64 (k + m * 4 + 1 + 1) else if j = m * 4 + 1 then .int .i64 (k + m * 4 + 1) else if j = m * 4 then .int .i64 (k + m * 4) else f j) j = .int .i64 (k + j) := by
  intro j hj
  dsimp only
  by_cases e3 : j = m * 4 + 3
  · rw [if_pos e3]; congr 1; omega
  rw [if_neg e3]
  by_cases e2 : j = m * 4 + 2
  · rw [if_pos e2]; congr 1; omega
  rw [if_neg e2]
  by_cases e1 : j = m * 4 + 1
  · rw [if_pos e1]; congr 1; omega
  rw [if_neg e1]
  by_cases e0 : j = m * 4
  · rw [if_pos e0]; congr 1; omega
  rw [if_neg e0]
  exact h j (by omega)

set_option maxHeartbeats 1000000 in
theorem markFlankS_walk (g N n cap : Nat) (k : Int) (f0 : Nat → Value) (w : World) (hr : Hid (w.rowIs g 57 N f0)) (hn : n * 4 ≤ N) (hk : 0 ≤ k) (hkb : k + n * 4 ≤ 1152921504606846976) :
    Calls Try.prog 95 #[.slice (some ⟨g, 0, none⟩) n cap, .int .i64 k] w fun e w' => e = .returned (.int .i64 (k + n * 4)) ∧ (∃ f, w'.rowIs g 57 N f ∧ ∀ j : Nat, j < n * 4 → f j = .int .i64 (k + j)) ∧ w.grownBy w' (some g) := by
  have hg0 : w.grownBy w (some g) := ⟨rfl, rfl, rfl, Nat.le_refl _, fun _ _ _ => rfl⟩
  have HG0 := hidP hg0
  clear hg0
  go_enter Try.func95, Try.ntmps95
  go_wp2_with fail
  go_loopw [1, 5] (fun kk i wr => ∃ (m : Nat) (f : Nat → Value), m ≤ n ∧ i = .int .i64 m ∧ kk = .int .i64 (k + m * 4) ∧ Hid (wr.rowIs g 57 N f) ∧ Hid (∀ j : Nat, j < m * 4 → f j = .int .i64 (k + j)) ∧ Hid (w.grownBy wr (some g))) (fun _ i _ => n - (intOf i).toNat)
  case atStart => exact ⟨0, f0, Nat.zero_le _, rfl, by simp, hr, (fun j h => absurd h (by omega)), HG0⟩
  case round =>
    obtain ⟨m, f, hm, rfl, rfl, hrow, hf, hg⟩ := hrel
    clear hr HG0
    by_cases hm' : m < n
    · have HN := hidP (markFlank_next hf.out)
      have d0 := hrow.out.cell (i := m * 4) (by omega)
      have e0 := hrow.out.frozen (m * 4)
      have d1 := hrow.out.cell (i := m * 4 + 1) (by omega)
      have e1 := hrow.out.frozen (m * 4 + 1)
      have d2 := hrow.out.cell (i := m * 4 + 2) (by omega)
      have e2 := hrow.out.frozen (m * 4 + 2)
      have d3 := hrow.out.cell (i := m * 4 + 3) (by omega)
      have e3 := hrow.out.frozen (m * 4 + 3)
      clear hf
      go_wp2_with fail
      go_roundw
      case rel => exact ⟨m + 1, _, by omega, by go_num, by go_num, ((((hrow.out.set (m * 4) _).set (m * 4 + 1) _).set (m * 4 + 2) _).set (m * 4 + 3) _), HN, (grown_set (grown_set (grown_set (grown_set hg.out _ _) _ _) _ _) _ _)⟩
      case measure => simp [intOf]; omega
    · have hmm : m = n := by omega
      subst hmm
      go_wp2
      go_ret
      exact ⟨rfl, ⟨f, hrow.out, hf.out⟩, hg.out⟩

set_option maxHeartbeats 400000 in
theorem markFlankS_nil (a : Option Addr) (cap : Nat) (k : Int) (w : World) :
    Calls Try.prog 95 #[.slice a 0 cap, .int .i64 k] w fun e w' => e = .returned (.int .i64 k) ∧ w' = w := by
  go_enter Try.func95, Try.ntmps95
  go_wp2_with fail
  go_loopw [1, 5] (fun l i wr => i = .int .i64 0 ∧ l = .int .i64 k ∧ wr = w) (fun _ _ _ => 0)
  case atStart => exact ⟨rfl, rfl, rfl⟩
  case round =>
    obtain ⟨rfl, rfl, rfl⟩ := hrel
    go_wp2
    go_ret
    exact ⟨rfl, rfl⟩

theorem markFlankS_any (a : Option Addr) (n cap : Nat) (k : Int) (w : World) (ho : OwnA w 57 4 a n) (hk : 0 ≤ k) (hkb : k + n * 4 ≤ 1152921504606846976) :
    Calls Try.prog 95 #[.slice a n cap, .int .i64 k] w fun e w' => e = .returned (.int .i64 (k + n * 4)) ∧ MarkA w' 4 a n k ∧ OwnA w' 57 4 a n ∧ Only (BlkOf a n) w w' := by
  by_cases h0 : n = 0
  · subst h0
    refine (markFlankS_nil a cap k w).mono ?_
    rintro e w' ⟨rfl, rfl⟩
    exact ⟨by simp, Or.inl rfl, Or.inl rfl, Only.refl _ _⟩
  · rcases ho with ho | ⟨g, N, f, rfl, h2, h3⟩
    · exact absurd ho h0
    · refine (markFlankS_walk g N n cap k f w h2 (by omega) hk hkb).mono ?_
      rintro e w' ⟨rfl, ⟨f', h4, h5⟩, h6⟩
      exact ⟨rfl, Or.inr ⟨g, rfl, fun j hj => by rw [h4.cell (by omega), h5 j (by omega)]⟩, Or.inr ⟨g, N, f', rfl, h4, h3⟩, Only.of_grown h6 (fun b hb => ⟨h0, 0, none, by cases hb; rfl⟩)⟩

end Go.Proofs.Ytmkdgnmmebldgaa

namespace Go.Proofs.Ytmkdgnmmebldgaa
open Go.RowKit Go.Deep

/-! A list of routes, written over with numbers in their order, and read again. -/

def kR : Nat → Nat
  | 0 => 2
  | 1 => 2
  | 2 => 1
  | 3 => 3
  | 4 => 3
  | _ => 4
def tR : Nat → Nat
  | 0 => 51
  | 1 => 48
  | 2 => 3
  | 3 => 44
  | 4 => 44
  | _ => 57

/-- The lists of routes: how long, where, and their room. -/
structure Tab where
  n : Nat → Nat → Nat
  ad : Nat → Nat → Option Addr
  cp : Nat → Nat → Nat

def offF (t : Tab) (p : Nat) : Nat → Int
  | 0 => 0
  | j + 1 => offF t p j + (t.n p j : Int) * (kR j : Int)
def kkF (t : Tab) (k : Int) : Nat → Int
  | 0 => k
  | p + 1 => kkF t k p + 2 + offF t p 6

theorem offF_pos (t : Tab) (p j : Nat) : 0 ≤ offF t p j := by
  induction j with
  | zero => exact Int.le_refl _
  | succ j ih =>
    have : (0 : Int) ≤ (t.n p j : Int) * (kR j : Int) := Int.mul_nonneg (Int.natCast_nonneg _) (Int.natCast_nonneg _)
    simp only [offF]; omega
theorem offF_le (t : Tab) (p : Nat) {i j : Nat} (h : i ≤ j) : offF t p i ≤ offF t p j := by
  induction j with
  | zero => have : i = 0 := by omega
            subst this; exact Int.le_refl _
  | succ j ih =>
    by_cases e : i = j + 1
    · subst e; exact Int.le_refl _
    · have := ih (by omega)
      have h2 : (0 : Int) ≤ (t.n p j : Int) * (kR j : Int) := Int.mul_nonneg (Int.natCast_nonneg _) (Int.natCast_nonneg _)
      simp only [offF]; omega
theorem kkF_le (t : Tab) (k : Int) {p r : Nat} (h : p ≤ r) : kkF t k p ≤ kkF t k r := by
  induction r with
  | zero => have : p = 0 := by omega
            subst this; exact Int.le_refl _
  | succ r ih =>
    by_cases e : p = r + 1
    · subst e; exact Int.le_refl _
    · have := ih (by omega)
      have h2 := offF_pos t r 6
      simp only [kkF]; omega

/-- The first m routes have their two numbers; the lists ahead of the q-th one of route i hold theirs. -/
structure MSt (G N R : Nat) (t : Tab) (k : Int) (w : World) (m i q : Nat) : Prop where
  row : ∃ f, w.rowIs G 42 N f ∧ (∀ p j, p < R → j < 6 → f (p * 8 + 2 + j) = .slice (t.ad p j) (t.n p j) (t.cp p j)) ∧ (∀ p, p < m → f (p * 8) = .int .i64 (kkF t k p) ∧ f (p * 8 + 1) = .int .i64 (kkF t k p + 1))
  own : ∀ p j, p < R → j < 6 → OwnA w (tR j) (kR j) (t.ad p j) (t.n p j)
  mark : ∀ p j, p < R → j < 6 → (p < i ∨ p = i ∧ j < q) → MarkA w (kR j) (t.ad p j) (t.n p j) (kkF t k p + 2 + offF t p j)

/-- No two lists share a block, and none the routes' own. -/
def ApartT (G R : Nat) (t : Tab) : Prop := ∀ p j, p < R → j < 6 → ∀ b, BlkOf (t.ad p j) (t.n p j) b → b ≠ G ∧ ∀ p' j', p' < R → j' < 6 → BlkOf (t.ad p' j') (t.n p' j') b → p' = p ∧ j' = j

def TabS (G R : Nat) (t : Tab) (b : Nat) : Prop := b = G ∨ ∃ p j, p < R ∧ j < 6 ∧ BlkOf (t.ad p j) (t.n p j) b

section
variable {G N R : Nat} {t : Tab} {k : Int} {w w' : World} {m i q : Nat}

theorem MSt.lt (h : MSt G N R t k w m i q) : G < w.heap.size := by
  obtain ⟨f, hf, _⟩ := h.row
  exact hf.lt

theorem MSt.step (hA : ApartT G R t) (h : MSt G N R t k w m i q) (hi : i < R) (hq : q < 6) (x : Int) (hx : x = kkF t k i + 2 + offF t i q) (hm : MarkA w' (kR q) (t.ad i q) (t.n i q) x)
    (ho : OwnA w' (tR q) (kR q) (t.ad i q) (t.n i q)) (hO : Only (BlkOf (t.ad i q) (t.n i q)) w w') : MSt G N R t k w' m i (q + 1) := by
  have hG : ¬ BlkOf (t.ad i q) (t.n i q) G := fun e => (hA i q hi hq G e).1 rfl
  have hother : ∀ p j, p < R → j < 6 → ¬ (p = i ∧ j = q) → ∀ b, BlkOf (t.ad p j) (t.n p j) b → w'.heap[b]? = w.heap[b]? := by
    intro p j hp hj hne b hb
    refine hO.block b ((h.own p j hp hj).lt hb) (fun e => hne ?_)
    have := (hA i q hi hq b e).2 p j hp hj hb
    exact this
  refine ⟨?_, ?_, ?_⟩
  · obtain ⟨f, hf, h1, h2⟩ := h.row
    exact ⟨f, hf.of_block (hO.block G hf.lt hG), h1, h2⟩
  · intro p j hp hj
    by_cases e : p = i ∧ j = q
    · obtain ⟨rfl, rfl⟩ := e
      exact ho
    · exact (h.own p j hp hj).kept (hother p j hp hj e)
  · intro p j hp hj hd
    by_cases e : p = i ∧ j = q
    · obtain ⟨rfl, rfl⟩ := e
      rw [← hx]; exact hm
    · exact (h.mark p j hp hj (by omega)).kept (hother p j hp hj e)

theorem MSt.next (h : MSt G N R t k w m i 6) : MSt G N R t k w m (i + 1) 0 :=
  ⟨h.row, h.own, fun p j hp hj hd => h.mark p j hp hj (by omega)⟩

theorem MSt.cell (h : MSt G N R t k w m i q) (hN : R * 8 ≤ N) {p : Nat} (hp : p < R) (j : Nat) (hj : j < 6) : w.cell? ⟨G, p * 8 + 2 + j, none⟩ = some (.slice (t.ad p j) (t.n p j) (t.cp p j)) := by
  obtain ⟨f, hf, h1, _⟩ := h.row
  rw [hf.cell (by omega), h1 p j hp hj]

theorem MSt.ints (hA : ApartT G R t) (h : MSt G N R t k w m m 0) (hm : m < R) :
    MSt G N R t k ((w.setCell ⟨G, m * 8, none⟩ (.int .i64 (kkF t k m))).setCell ⟨G, m * 8 + 1, none⟩ (.int .i64 (kkF t k m + 1))) (m + 1) m 0 := by
  have hblk : ∀ p j, p < R → j < 6 → ∀ b, BlkOf (t.ad p j) (t.n p j) b → ((w.setCell ⟨G, m * 8, none⟩ (.int .i64 (kkF t k m))).setCell ⟨G, m * 8 + 1, none⟩ (.int .i64 (kkF t k m + 1))).heap[b]? = w.heap[b]? := by
    intro p j hp hj b hb
    have := (hA p j hp hj b hb).1
    exact (Below.heap_setCell _ _ _ _ this).trans (Below.heap_setCell _ _ _ _ this)
  refine ⟨?_, fun p j hp hj => (h.own p j hp hj).kept (hblk p j hp hj), fun p j hp hj hd => (h.mark p j hp hj hd).kept (hblk p j hp hj)⟩
  obtain ⟨f, hf, h1, h2⟩ := h.row
  refine ⟨_, (hf.set (m * 8) _).set (m * 8 + 1) _, ?_, ?_⟩
  · intro p j hp hj
    rw [if_neg (by omega), if_neg (by omega)]
    exact h1 p j hp hj
  · intro p hp
    by_cases e : p = m
    · subst e
      rw [if_neg (by omega), if_pos rfl, if_pos rfl]
      exact ⟨rfl, rfl⟩
    · rw [if_neg (by omega), if_neg (by omega), if_neg (by omega), if_neg (by omega)]
      exact h2 p (by omega)
end

theorem MSt.below {G N R : Nat} {t : Tab} {k : Int} {w w' : World} {m i q : Nat} (h : MSt G N R t k w m i q) (hb : Below w.heap.size w w') : MSt G N R t k w' m i q := by
  refine ⟨?_, fun p j hp hj => (h.own p j hp hj).kept (fun b hb' => hb.block b ((h.own p j hp hj).lt hb')), fun p j hp hj hd => (h.mark p j hp hj hd).kept (fun b hb' => hb.block b ((h.own p j hp hj).lt hb'))⟩
  obtain ⟨f, hf, h1, h2⟩ := h.row
  exact ⟨f, hf.of_block (hb.block G hf.lt), h1, h2⟩

theorem MSt.num {G N R : Nat} {t : Tab} {k : Int} {w : World} {m i q : Nat} (h : MSt G N R t k w m i q) (hN : R * 8 ≤ N) {p : Nat} (hp : p < m) (hpR : p < R) :
    w.cell? ⟨G, p * 8, none⟩ = some (.int .i64 (kkF t k p)) ∧ w.cell? ⟨G, p * 8 + 1, none⟩ = some (.int .i64 (kkF t k p + 1)) := by
  obtain ⟨f, hf, _, h2⟩ := h.row
  exact ⟨by rw [hf.cell (by omega), (h2 p hp).1], by rw [hf.cell (by omega), (h2 p hp).2]⟩

end Go.Proofs.Ytmkdgnmmebldgaa

namespace Go.Proofs.Ytmkdgnmmebldgaa
open Go.RowKit Go.Deep

theorem flat_len {α : Type} (f : α → List Value) (k : Nat) (hk : ∀ x, (f x).length = k) : ∀ (xs : List α), (xs.flatMap f).length = xs.length * k
  | [] => by simp
  | x :: r => by rw [List.flatMap_cons, List.length_append, hk, flat_len f k hk r, List.length_cons, Nat.add_mul]; omega
theorem flat_get {α : Type} (f : α → List Value) (k : Nat) (hk : ∀ x, (f x).length = k) : ∀ (xs : List α) (i j : Nat) (hi : i < xs.length), j < k → (xs.flatMap f)[i * k + j]? = (f xs[i])[j]?
  | [], _, _, hi, _ => absurd hi (by simp)
  | x :: r, 0, j, _, hj => by
    rw [List.flatMap_cons, List.getElem?_append_left (by rw [hk]; omega)]
    simp
  | x :: r, i + 1, j, hi, hj => by
    have ih := flat_get f k hk r i j (by simpa using hi) hj
    rw [List.flatMap_cons, List.getElem?_append_right (by rw [hk, Nat.add_mul]; omega), hk, show (i + 1) * k + j - k = i * k + j by rw [Nat.add_mul]; omega, ih]
    simp

theorem addr_at (b off j : Nat) : (⟨b, off, none⟩ : Addr).add j = ⟨b, off + j, none⟩ := by unfold Addr.add; split <;> simp_all

/-- 'append' of a whole list, nil or not, onto a row of the call's own. -/
theorem wpList_append_list {P : Program} {w : World} {ops : Array Oper} {rest : List Oper} {o : Oper} {a : Act} {Q : Exit → Act → World → Prop} (hgd : o.guard = none) (s x : Operand) (t : TypeId)
    (ho : o.op = .call { callee := .builtin .append, args := #[s, x], argTypes := #[t, t] })
    (base : Nat) (e : TypeId) (z : Value) (size bytes : Nat) (ht : P.underlying t = some (.slice e)) (hi : (P.info? e).map (fun i => (i.zero, i.size, i.bytes)) = some (some z, size, bytes)) (hzs : z.cells.size = size) (hsz : 0 < size)
    (v : Value) (n : Nat) (xs : List Value) (hs : a.eval s = v) (hown : w.ownsRow base e size v n xs)
    (av : Option Addr) (m c : Nat) (news : List Value) (hx : a.eval x = .slice av m c) (hav : av = none → c = 0) (hl : news.length = m * size) (hnews : ∀ ad, av = some ad → ∀ j u, news[j]? = some u → w.cell? (ad.add j) = some u) (hm : av = none → m = 0) (h1 : ∀ u ∈ news, u.oneCell' = true)
    (h63 : n + m ≤ maxLen) (hbytes : (n + m) * bytes ≤ 140737488355328) (hbase : base ≤ w.heap.size)
    (h : ∀ v' w', w'.ownsRow base e size v' (n + m) (xs ++ news) → w.grownBy w' v.ownBlock → wpList P ops Q rest (a.put o.dst v') w') : wpList P ops Q (o :: rest) a w := by
  obtain ⟨i, hi1, hi2, hi3, hi4⟩ := info_parts hi
  cases av with
  | some ad => exact wpList_append_own w hgd s x t ho base e i z size bytes ht hi1 hi2 hi3 hi4 hzs hsz v n xs hs hown ad m c news hx hl (hnews ad rfl) h1 h63 hbytes hbase (fun v' w' h2 h3 _ => h v' w' h2 h3)
  | none =>
    have hm0 := hm rfl
    have hc0 := hav rfl
    subst hm0 hc0
    have hnil : news = [] := List.eq_nil_of_length_eq_zero (by omega)
    subst hnil
    exact wpList_append_own_none hgd s x t ho base e i size ht hi1 v n xs hs hown hx (h v w (by simpa using hown) ⟨rfl, rfl, rfl, Nat.le_refl _, fun _ _ _ => rfl⟩)

def encE (x : MEnd) : List Value := [.int .i64 x.piece, .int .i64 x.side]
def flatE (xs : List MEnd) : List Value := xs.flatMap encE
theorem flatE_len (xs : List MEnd) : (flatE xs).length = xs.length * 2 := flat_len encE 2 (fun _ => rfl) xs
theorem flatE_one (xs : List MEnd) : ∀ u ∈ flatE xs, u.oneCell' = true := by
  intro u hu
  obtain ⟨x, _, hx⟩ := List.mem_flatMap.1 hu
  simp only [encE, List.mem_cons, List.not_mem_nil, or_false] at hx
  rcases hx with rfl | rfl <;> rfl
theorem flatE_snoc (xs : List MEnd) (x : MEnd) : flatE (xs ++ [x]) = flatE xs ++ encE x := by simp [flatE]
theorem endCells_of {w : World} {b off : Nat} {es : List MEnd} (H : ∀ j u, (flatE es)[j]? = some u → w.cell? ((⟨b, off, none⟩ : Addr).add j) = some u) : EndCells w b off es := by
  intro i hi
  have h0 : (flatE es)[i * 2 + 0]? = some (.int .i64 es[i].piece) := (flat_get encE 2 (fun _ => rfl) es i 0 hi (by omega)).trans rfl
  have h1 : (flatE es)[i * 2 + 1]? = some (.int .i64 es[i].side) := (flat_get encE 2 (fun _ => rfl) es i 1 hi (by omega)).trans rfl
  exact ⟨by have := H _ _ h0; rw [addr_at] at this; simpa [Nat.add_assoc] using this, by have := H _ _ h1; rw [addr_at] at this; simpa [Nat.add_assoc] using this⟩
theorem newsE {w : World} {a : Option Addr} {es : List MEnd} (h : EndsAt w a es) : ∀ ad, a = some ad → ∀ j u, (flatE es)[j]? = some u → w.cell? (ad.add j) = some u := by
  intro ad had j u hu
  have hj : j < es.length * 2 := by
    have := (List.getElem?_eq_some_iff.1 hu).1
    rwa [flatE_len] at this
  obtain ⟨b, off, h3, hc⟩ := h.2.resolve_left (fun e => by rw [e] at hj; simp at hj)
  rw [had] at h3
  cases h3
  rw [addr_at]
  have hi : j / 2 < es.length := by omega
  have hr : j % 2 = 0 ∨ j % 2 = 1 := by omega
  rcases hr with hr | hr
  · have hg := flat_get encE 2 (fun _ => rfl) es (j / 2) 0 hi (by omega)
    rw [show j / 2 * 2 + 0 = j by omega] at hg
    rw [show (flatE es)[j]? = _ from hg] at hu
    have hc' := (hc (j / 2) hi).1
    cases hu
    have e : off + j / 2 * 2 = off + j := by omega
    rw [e] at hc'
    exact hc'
  · have hg := flat_get encE 2 (fun _ => rfl) es (j / 2) 1 hi (by omega)
    rw [show j / 2 * 2 + 1 = j by omega] at hg
    rw [show (flatE es)[j]? = _ from hg] at hu
    have hc' := (hc (j / 2) hi).2
    cases hu
    have e : off + j / 2 * 2 + 1 = off + j := by omega
    rw [e] at hc'
    exact hc'
theorem ownE {w : World} {base t : Nat} {v : Value} {es : List MEnd} (h : w.ownsRow base t 2 v es.length (flatE es)) (hm : es.length ≤ maxLen) :
    ∃ a cap, v = .slice a es.length cap ∧ EndsAt w a es ∧ (a = none → es.length = 0 ∧ cap = 0) ∧ ∀ b, BlkOf a es.length b → v.ownBlock = some b := by
  rcases h.2 with ⟨rfl, hn⟩ | ⟨g, cap, cur, rfl, hb, hg, _⟩
  · exact ⟨none, 0, by rw [hn], ⟨hm, Or.inl (List.eq_nil_of_length_eq_zero hn)⟩, fun _ => ⟨hn, rfl⟩, fun b hb => absurd hn hb.1⟩
  · refine ⟨some ⟨g, 0, none⟩, cap, rfl, ⟨hm, Or.inr ⟨g, 0, rfl, endCells_of (h.cells rfl)⟩⟩, (fun e => nomatch e), fun b hb => ?_⟩
    obtain ⟨_, _, _, hb⟩ := hb
    cases hb
    rfl

def encN (x : Int) : List Value := [.int .i64 x]
def flatN (xs : List Int) : List Value := xs.flatMap encN
theorem flatN_len (xs : List Int) : (flatN xs).length = xs.length * 1 := flat_len encN 1 (fun _ => rfl) xs
theorem flatN_one (xs : List Int) : ∀ u ∈ flatN xs, u.oneCell' = true := by
  intro u hu
  obtain ⟨x, _, hx⟩ := List.mem_flatMap.1 hu
  simp only [encN, List.mem_cons, List.not_mem_nil, or_false] at hx
  subst hx; rfl
theorem flatN_snoc (xs : List Int) (x : Int) : flatN (xs ++ [x]) = flatN xs ++ encN x := by simp [flatN]
theorem numCells_of {w : World} {b off : Nat} {es : List Int} (H : ∀ j u, (flatN es)[j]? = some u → w.cell? ((⟨b, off, none⟩ : Addr).add j) = some u) : NumCells w b off es := by
  intro i hi
  have h0 : (flatN es)[i * 1 + 0]? = some (.int .i64 es[i]) := (flat_get encN 1 (fun _ => rfl) es i 0 hi (by omega)).trans rfl
  have := H _ _ h0
  rw [addr_at] at this
  simpa using this
theorem newsN {w : World} {a : Option Addr} {es : List Int} (h : NumsAt w a es) : ∀ ad, a = some ad → ∀ j u, (flatN es)[j]? = some u → w.cell? (ad.add j) = some u := by
  intro ad had j u hu
  have hj : j < es.length := by
    have := (List.getElem?_eq_some_iff.1 hu).1
    rw [flatN_len] at this
    omega
  obtain ⟨b, off, h3, hc⟩ := h.2.resolve_left (fun e => by rw [e] at hj; simp at hj)
  rw [had] at h3
  cases h3
  rw [addr_at]
  have hg := flat_get encN 1 (fun _ => rfl) es j 0 hj (by omega)
  rw [show j * 1 + 0 = j by omega] at hg
  rw [show (flatN es)[j]? = _ from hg] at hu
  have hc' := hc j hj
  cases hu
  exact hc'
theorem ownN {w : World} {base t : Nat} {v : Value} {es : List Int} (h : w.ownsRow base t 1 v es.length (flatN es)) (hm : es.length ≤ maxLen) :
    ∃ a cap, v = .slice a es.length cap ∧ NumsAt w a es ∧ (a = none → es.length = 0 ∧ cap = 0) ∧ ∀ b, BlkOf a es.length b → v.ownBlock = some b := by
  rcases h.2 with ⟨rfl, hn⟩ | ⟨g, cap, cur, rfl, hb, hg, _⟩
  · exact ⟨none, 0, by rw [hn], ⟨hm, Or.inl (List.eq_nil_of_length_eq_zero hn)⟩, fun _ => ⟨hn, rfl⟩, fun b hb => absurd hn hb.1⟩
  · refine ⟨some ⟨g, 0, none⟩, cap, rfl, ⟨hm, Or.inr ⟨g, 0, rfl, numCells_of (h.cells rfl)⟩⟩, (fun e => nomatch e), fun b hb => ?_⟩
    obtain ⟨_, _, _, hb⟩ := hb
    cases hb
    rfl

def encP (x : MPart) : List Value := [.int .i64 x.piece, .int .i64 x.lo, .int .i64 x.hi]
def flatP (xs : List MPart) : List Value := xs.flatMap encP
theorem flatP_len (xs : List MPart) : (flatP xs).length = xs.length * 3 := flat_len encP 3 (fun _ => rfl) xs
theorem flatP_one (xs : List MPart) : ∀ u ∈ flatP xs, u.oneCell' = true := by
  intro u hu
  obtain ⟨x, _, hx⟩ := List.mem_flatMap.1 hu
  simp only [encP, List.mem_cons, List.not_mem_nil, or_false] at hx
  rcases hx with rfl | rfl | rfl <;> rfl
theorem flatP_snoc (xs : List MPart) (x : MPart) : flatP (xs ++ [x]) = flatP xs ++ encP x := by simp [flatP]
theorem partCells_of {w : World} {b off : Nat} {es : List MPart} (H : ∀ j u, (flatP es)[j]? = some u → w.cell? ((⟨b, off, none⟩ : Addr).add j) = some u) : PartCells w b off es := by
  intro i hi
  have h0 : (flatP es)[i * 3 + 0]? = some (.int .i64 es[i].piece) := (flat_get encP 3 (fun _ => rfl) es i 0 hi (by omega)).trans rfl
  have h1 : (flatP es)[i * 3 + 1]? = some (.int .i64 es[i].lo) := (flat_get encP 3 (fun _ => rfl) es i 1 hi (by omega)).trans rfl
  have h2 : (flatP es)[i * 3 + 2]? = some (.int .i64 es[i].hi) := (flat_get encP 3 (fun _ => rfl) es i 2 hi (by omega)).trans rfl
  exact ⟨by have := H _ _ h0; rw [addr_at] at this; simpa [Nat.add_assoc] using this, by have := H _ _ h1; rw [addr_at] at this; simpa [Nat.add_assoc] using this, by have := H _ _ h2; rw [addr_at] at this; simpa [Nat.add_assoc] using this⟩
theorem newsP {w : World} {a : Option Addr} {es : List MPart} (h : PartsAt w a es) : ∀ ad, a = some ad → ∀ j u, (flatP es)[j]? = some u → w.cell? (ad.add j) = some u := by
  intro ad had j u hu
  have hj : j < es.length * 3 := by
    have := (List.getElem?_eq_some_iff.1 hu).1
    rwa [flatP_len] at this
  obtain ⟨b, off, h3, hc⟩ := h.2.resolve_left (fun e => by rw [e] at hj; simp at hj)
  rw [had] at h3
  cases h3
  rw [addr_at]
  have hi : j / 3 < es.length := by omega
  have hr : j % 3 = 0 ∨ j % 3 = 1 ∨ j % 3 = 2 := by omega
  rcases hr with hr | hr | hr
  · have hg := flat_get encP 3 (fun _ => rfl) es (j / 3) 0 hi (by omega)
    rw [show j / 3 * 3 + 0 = j by omega] at hg
    rw [show (flatP es)[j]? = _ from hg] at hu
    have hc' := (hc (j / 3) hi).1
    cases hu
    have e : off + j / 3 * 3 = off + j := by omega
    rw [e] at hc'
    exact hc'
  · have hg := flat_get encP 3 (fun _ => rfl) es (j / 3) 1 hi (by omega)
    rw [show j / 3 * 3 + 1 = j by omega] at hg
    rw [show (flatP es)[j]? = _ from hg] at hu
    have hc' := (hc (j / 3) hi).2.1
    cases hu
    have e : off + j / 3 * 3 + 1 = off + j := by omega
    rw [e] at hc'
    exact hc'
  · have hg := flat_get encP 3 (fun _ => rfl) es (j / 3) 2 hi (by omega)
    rw [show j / 3 * 3 + 2 = j by omega] at hg
    rw [show (flatP es)[j]? = _ from hg] at hu
    have hc' := (hc (j / 3) hi).2.2
    cases hu
    have e : off + j / 3 * 3 + 2 = off + j := by omega
    rw [e] at hc'
    exact hc'
theorem ownP {w : World} {base t : Nat} {v : Value} {es : List MPart} (h : w.ownsRow base t 3 v es.length (flatP es)) (hm : es.length ≤ maxLen) :
    ∃ a cap, v = .slice a es.length cap ∧ PartsAt w a es ∧ (a = none → es.length = 0 ∧ cap = 0) ∧ ∀ b, BlkOf a es.length b → v.ownBlock = some b := by
  rcases h.2 with ⟨rfl, hn⟩ | ⟨g, cap, cur, rfl, hb, hg, _⟩
  · exact ⟨none, 0, by rw [hn], ⟨hm, Or.inl (List.eq_nil_of_length_eq_zero hn)⟩, fun _ => ⟨hn, rfl⟩, fun b hb => absurd hn hb.1⟩
  · refine ⟨some ⟨g, 0, none⟩, cap, rfl, ⟨hm, Or.inr ⟨g, 0, rfl, partCells_of (h.cells rfl)⟩⟩, (fun e => nomatch e), fun b hb => ?_⟩
    obtain ⟨_, _, _, hb⟩ := hb
    cases hb
    rfl

def encF (x : MFlank) : List Value := [.int .i64 x.place, .int .i64 x.kind, .int .i64 x.of, .int .i64 x.lie]
def flatF (xs : List MFlank) : List Value := xs.flatMap encF
theorem flatF_len (xs : List MFlank) : (flatF xs).length = xs.length * 4 := flat_len encF 4 (fun _ => rfl) xs
theorem flatF_one (xs : List MFlank) : ∀ u ∈ flatF xs, u.oneCell' = true := by
  intro u hu
  obtain ⟨x, _, hx⟩ := List.mem_flatMap.1 hu
  simp only [encF, List.mem_cons, List.not_mem_nil, or_false] at hx
  rcases hx with rfl | rfl | rfl | rfl <;> rfl
theorem flatF_snoc (xs : List MFlank) (x : MFlank) : flatF (xs ++ [x]) = flatF xs ++ encF x := by simp [flatF]
theorem flankCells_of {w : World} {b off : Nat} {es : List MFlank} (H : ∀ j u, (flatF es)[j]? = some u → w.cell? ((⟨b, off, none⟩ : Addr).add j) = some u) : FlankCells w b off es := by
  intro i hi
  have h0 : (flatF es)[i * 4 + 0]? = some (.int .i64 es[i].place) := (flat_get encF 4 (fun _ => rfl) es i 0 hi (by omega)).trans rfl
  have h1 : (flatF es)[i * 4 + 1]? = some (.int .i64 es[i].kind) := (flat_get encF 4 (fun _ => rfl) es i 1 hi (by omega)).trans rfl
  have h2 : (flatF es)[i * 4 + 2]? = some (.int .i64 es[i].of) := (flat_get encF 4 (fun _ => rfl) es i 2 hi (by omega)).trans rfl
  have h3 : (flatF es)[i * 4 + 3]? = some (.int .i64 es[i].lie) := (flat_get encF 4 (fun _ => rfl) es i 3 hi (by omega)).trans rfl
  exact ⟨by have := H _ _ h0; rw [addr_at] at this; simpa [Nat.add_assoc] using this, by have := H _ _ h1; rw [addr_at] at this; simpa [Nat.add_assoc] using this, by have := H _ _ h2; rw [addr_at] at this; simpa [Nat.add_assoc] using this, by have := H _ _ h3; rw [addr_at] at this; simpa [Nat.add_assoc] using this⟩
theorem newsF {w : World} {a : Option Addr} {es : List MFlank} (h : FlanksAt w a es) : ∀ ad, a = some ad → ∀ j u, (flatF es)[j]? = some u → w.cell? (ad.add j) = some u := by
  intro ad had j u hu
  have hj : j < es.length * 4 := by
    have := (List.getElem?_eq_some_iff.1 hu).1
    rwa [flatF_len] at this
  obtain ⟨b, off, h3, hc⟩ := h.2.resolve_left (fun e => by rw [e] at hj; simp at hj)
  rw [had] at h3
  cases h3
  rw [addr_at]
  have hi : j / 4 < es.length := by omega
  have hr : j % 4 = 0 ∨ j % 4 = 1 ∨ j % 4 = 2 ∨ j % 4 = 3 := by omega
  rcases hr with hr | hr | hr | hr
  · have hg := flat_get encF 4 (fun _ => rfl) es (j / 4) 0 hi (by omega)
    rw [show j / 4 * 4 + 0 = j by omega] at hg
    rw [show (flatF es)[j]? = _ from hg] at hu
    have hc' := (hc (j / 4) hi).1
    cases hu
    have e : off + j / 4 * 4 = off + j := by omega
    rw [e] at hc'
    exact hc'
  · have hg := flat_get encF 4 (fun _ => rfl) es (j / 4) 1 hi (by omega)
    rw [show j / 4 * 4 + 1 = j by omega] at hg
    rw [show (flatF es)[j]? = _ from hg] at hu
    have hc' := (hc (j / 4) hi).2.1
    cases hu
    have e : off + j / 4 * 4 + 1 = off + j := by omega
    rw [e] at hc'
    exact hc'
  · have hg := flat_get encF 4 (fun _ => rfl) es (j / 4) 2 hi (by omega)
    rw [show j / 4 * 4 + 2 = j by omega] at hg
    rw [show (flatF es)[j]? = _ from hg] at hu
    have hc' := (hc (j / 4) hi).2.2.1
    cases hu
    have e : off + j / 4 * 4 + 2 = off + j := by omega
    rw [e] at hc'
    exact hc'
  · have hg := flat_get encF 4 (fun _ => rfl) es (j / 4) 3 hi (by omega)
    rw [show j / 4 * 4 + 3 = j by omega] at hg
    rw [show (flatF es)[j]? = _ from hg] at hu
    have hc' := (hc (j / 4) hi).2.2.2
    cases hu
    have e : off + j / 4 * 4 + 3 = off + j := by omega
    rw [e] at hc'
    exact hc'
theorem ownF {w : World} {base t : Nat} {v : Value} {es : List MFlank} (h : w.ownsRow base t 4 v es.length (flatF es)) (hm : es.length ≤ maxLen) :
    ∃ a cap, v = .slice a es.length cap ∧ FlanksAt w a es ∧ (a = none → es.length = 0 ∧ cap = 0) ∧ ∀ b, BlkOf a es.length b → v.ownBlock = some b := by
  rcases h.2 with ⟨rfl, hn⟩ | ⟨g, cap, cur, rfl, hb, hg, _⟩
  · exact ⟨none, 0, by rw [hn], ⟨hm, Or.inl (List.eq_nil_of_length_eq_zero hn)⟩, fun _ => ⟨hn, rfl⟩, fun b hb => absurd hn hb.1⟩
  · refine ⟨some ⟨g, 0, none⟩, cap, rfl, ⟨hm, Or.inr ⟨g, 0, rfl, flankCells_of (h.cells rfl)⟩⟩, (fun e => nomatch e), fun b hb => ?_⟩
    obtain ⟨_, _, _, hb⟩ := hb
    cases hb
    rfl

end Go.Proofs.Ytmkdgnmmebldgaa

namespace Go.Proofs.Ytmkdgnmmebldgaa
open Go.RowKit Go.Deep

theorem Try.infoStep : (Try.prog.info? 51).map (fun i => (i.zero, i.size, i.bytes)) = some (some (.agg #[.int .i64 0, .int .i64 0]), 2, 16) := by kernel_rfl
theorem Try.infoLie : (Try.prog.info? 48).map (fun i => (i.zero, i.size, i.bytes)) = some (some (.agg #[.int .i64 0, .int .i64 0]), 2, 16) := by kernel_rfl
theorem Try.infoInt : (Try.prog.info? 3).map (fun i => (i.zero, i.size, i.bytes)) = some (some (.int .i64 0), 1, 8) := by kernel_rfl
theorem Try.infoPart : (Try.prog.info? 44).map (fun i => (i.zero, i.size, i.bytes)) = some (some (.agg #[.int .i64 0, .int .i64 0, .int .i64 0]), 3, 24) := by kernel_rfl
theorem Try.infoFlank : (Try.prog.info? 57).map (fun i => (i.zero, i.size, i.bytes)) = some (some (.agg #[.int .i64 0, .int .i64 0, .int .i64 0, .int .i64 0]), 4, 32) := by kernel_rfl
theorem Try.infoRoute : (Try.prog.info? 42).map (fun i => (i.zero, i.size, i.bytes)) = some (some (.agg #[.int .i64 0, .int .i64 0, .slice none 0 0, .slice none 0 0, .slice none 0 0, .slice none 0 0, .slice none 0 0, .slice none 0 0]), 8, 160) := by kernel_rfl

/-- Rows of two element types are two. -/
theorem owns_ne {w : World} {b b' e e' s s' n n' : Nat} {v v' : Value} {xs xs' : List Value} (he : e ≠ e') (h : w.ownsRow b e s v n xs) (h' : w.ownsRow b' e' s' v' n' xs') : v.ownBlock = none ∨ v.ownBlock ≠ v'.ownBlock := by
  rcases h.2 with ⟨rfl, _⟩ | ⟨g, cap, cur, rfl, _, hg, _⟩
  · exact Or.inl rfl
  · right
    rcases h'.2 with ⟨rfl, _⟩ | ⟨g', cap', cur', rfl, _, hg', _⟩
    · simp [Value.ownBlock]
    · simp only [Value.ownBlock, ne_eq, Option.some.injEq]
      intro e1
      subst e1
      rw [hg] at hg'
      simp only [Option.some.injEq, Obj.cells.injEq] at hg'
      exact he hg'.2.1

theorem owns_base {w : World} {B B' e s n : Nat} {v : Value} {xs : List Value} (h : w.ownsRow B e s v n xs) (hB : B' ≤ B) : w.ownsRow B' e s v n xs := by
  refine ⟨h.1, ?_⟩
  rcases h.2 with h2 | ⟨g, cap, cur, h1, h2, h3⟩
  · exact Or.inl h2
  · exact Or.inr ⟨g, cap, cur, h1, by omega, h3⟩
theorem owns_below {w w' : World} {B e s n : Nat} {v : Value} {xs : List Value} (h : w.ownsRow B e s v n xs) (hb : Below w.heap.size w w') : w'.ownsRow B e s v n xs := by
  refine ⟨h.1, ?_⟩
  rcases h.2 with h2 | ⟨g, cap, cur, h1, h2, h3, h4⟩
  · exact Or.inl h2
  · exact Or.inr ⟨g, cap, cur, h1, h2, (hb.block g (Array.getElem?_eq_some_iff.1 h3).1).trans h3, h4⟩
theorem owns_shape {w : World} {B e s n : Nat} {v : Value} {xs : List Value} (h : w.ownsRow B e s v n xs) : ∃ x y, v = .slice x n y ∧ (x = none → n = 0 ∧ y = 0) := by
  rcases h.2 with ⟨rfl, rfl⟩ | ⟨g, cap, cur, rfl, _⟩
  · exact ⟨none, 0, rfl, fun _ => ⟨rfl, rfl⟩⟩
  · exact ⟨_, _, rfl, fun e => by cases e⟩

/-- 'append([]T{}, xs...)': a new row of one's own with xs in it. -/
theorem wpList_copy {P : Program} {Wp : World} {ops : Array Oper} {rest : List Oper} {o : Oper} {a : Act} {Q : Exit → Act → World → Prop} (hgd : o.guard = none) (s x : Operand) (t : TypeId)
    (ho : o.op = .call { callee := .builtin .append, args := #[s, x], argTypes := #[t, t] })
    (e : TypeId) (z : Value) (size bytes : Nat) (ht : P.underlying t = some (.slice e)) (hi : (P.info? e).map (fun i => (i.zero, i.size, i.bytes)) = some (some z, size, bytes)) (hzs : z.cells.size = size) (hsz : 0 < size)
    (g : Nat) (hgs : g = Wp.heap.size) (hs : a.eval s = .slice (some ⟨g, 0, none⟩) 0 0)
    (av : Option Addr) (m c : Nat) (news : List Value) (hx : a.eval x = .slice av m c) (hav : av = none → m = 0 ∧ c = 0) (hl : news.length = m * size) (hnews : ∀ ad, av = some ad → ∀ j u, news[j]? = some u → Wp.cell? (ad.add j) = some u) (h1 : ∀ u ∈ news, u.oneCell' = true)
    (h63 : m ≤ maxLen) (hbytes : m * bytes ≤ 140737488355328)
    (h : ∀ x' y' w', w'.ownsRow Wp.heap.size e size (.slice x' m y') m news → Below Wp.heap.size Wp w' → wpList P ops Q rest (a.put o.dst (.slice x' m y')) w') : wpList P ops Q (o :: rest) a (Wp.alloc (.cells #[] e)) := by
  subst hgs
  refine wpList_append_list hgd s x t ho Wp.heap.size e z size bytes ht hi hzs hsz _ 0 [] hs (World.ownsRow_made Wp #[] 0 (Nat.le_refl _) (Nat.zero_le _) (by simp)) av m c news hx (fun h => (hav h).2) hl ?_ (fun h => (hav h).1) h1 (by rw [Nat.zero_add]; exact h63) (by rw [Nat.zero_add]; exact hbytes) (by simp) ?_
  · intro ad had j u hu
    have hc := hnews ad had j u hu
    exact (World.cell?_of_block (w := Wp) (Below.heap_alloc _ _ _ (cellLt hc))).trans hc
  · intro v' w' ho' hg'
    rw [Nat.zero_add, List.nil_append] at ho'
    obtain ⟨x', y', rfl, _⟩ := owns_shape ho'
    refine h x' y' w' ho' ⟨hg'.os, hg'.tape, hg'.output, Nat.le_trans (by simp) hg'.size, fun k hk => ?_⟩
    exact (hg'.block k (by simp; omega) (by simp only [Value.ownBlock, ne_eq, Option.some.injEq]; omega)).trans (Below.heap_alloc _ _ _ hk)

/-- 'append(v, x)' of one element onto a row of one's own. -/
theorem wpList_push {P : Program} {Wp : World} {ops : Array Oper} {rest : List Oper} {o : Oper} {a : Act} {Q : Exit → Act → World → Prop} (hgd : o.guard = none) (s x : Operand) (t : TypeId)
    (ho : o.op = .call { callee := .builtin .append, args := #[s, x], argTypes := #[t, t] })
    (B : Nat) (e : TypeId) (z : Value) (size bytes : Nat) (ht : P.underlying t = some (.slice e)) (hi : (P.info? e).map (fun i => (i.zero, i.size, i.bytes)) = some (some z, size, bytes)) (hzs : z.cells.size = size) (hsz : 0 < size)
    (v : Value) (n : Nat) (xs : List Value) (hs : a.eval s = v) (hown : Wp.ownsRow B e size v n xs)
    (g : Nat) (hgs : g = Wp.heap.size) (news : List Value) (hx : a.eval x = .slice (some ⟨g, 0, none⟩) 1 1) (hl : news.length = size) (h1 : ∀ u ∈ news, u.oneCell' = true)
    (h63 : n + 1 ≤ maxLen) (hbytes : (n + 1) * bytes ≤ 140737488355328) (hB : B ≤ Wp.heap.size)
    (h : ∀ x' y' w', w'.ownsRow B e size (.slice x' (n + 1) y') (n + 1) (xs ++ news) → Wp.grownBy w' v.ownBlock → wpList P ops Q rest (a.put o.dst (.slice x' (n + 1) y')) w') : wpList P ops Q (o :: rest) a (Wp.alloc (.cells news.toArray e)) := by
  subst hgs
  obtain ⟨i, hi1, hi2, hi3, hi4⟩ := info_parts hi
  refine wpList_append_own _ hgd s x t ho B e i z size bytes ht hi1 hi2 hi3 hi4 hzs hsz v n xs hs (hown.alloc _) ⟨Wp.heap.size, 0, none⟩ 1 1 news hx (by omega) ?_ h1 h63 hbytes (by simp; omega) ?_
  · intro j u hu
    rw [addr_at, Nat.zero_add]
    have := cell_of_row (Wp.alloc (.cells news.toArray e)) Wp.heap.size j news.toArray e (0, 0) (heap_alloc_new Wp _)
    rw [this]
    simpa using hu
  · intro v' w' ho' hg' _
    obtain ⟨x', y', rfl, _⟩ := owns_shape ho'
    refine h x' y' w' ho' ⟨hg'.os, hg'.tape, hg'.output, Nat.le_trans (by simp) hg'.size, fun k hk hne => ?_⟩
    exact (hg'.block k (by simp; omega) hne).trans (Below.heap_alloc _ _ _ hk)

theorem push_below {B e s n : Nat} {w0 Wp w' : World} {v : Value} {xs : List Value} (hb : Below B w0 Wp) (ho : Wp.ownsRow B e s v n xs) (hg : Wp.grownBy w' v.ownBlock) (hB : B ≤ Wp.heap.size) : Below B w0 w' :=
  hb.grown hg hB (fun k e => (ho.lt k e).1)

end Go.Proofs.Ytmkdgnmmebldgaa

namespace Go.Proofs.Ytmkdgnmmebldgaa
open Go.RowKit Go.Deep

/-! The copies that a law makes of routes, as rows that may be written. -/

/-- A row that holds just these values. -/
def LRow (w : World) (T g : Nat) (vals : List Value) : Prop := ∃ f, w.rowIs g T vals.length f ∧ ∀ j (h : j < vals.length), f j = vals[j]
theorem LRow.kept {w w' : World} {T g : Nat} {vals : List Value} (h : LRow w T g vals) (e : w'.heap[g]? = w.heap[g]?) : LRow w' T g vals := by
  obtain ⟨f, h1, h2⟩ := h
  exact ⟨f, h1.of_block e, h2⟩
theorem LRow.lt {w : World} {T g : Nat} {vals : List Value} (h : LRow w T g vals) : g < w.heap.size := by
  obtain ⟨f, h1, _⟩ := h
  exact h1.lt
theorem LRow.below {w w' : World} {T g : Nat} {vals : List Value} (h : LRow w T g vals) (hb : Below w.heap.size w w') : LRow w' T g vals := h.kept (hb.block g h.lt)
theorem LRow.set {w : World} {T g : Nat} {vals : List Value} (h : LRow w T g vals) {b : Nat} (hb : g ≠ b) (o : Nat) (v : Value) : LRow (w.setCell ⟨b, o, none⟩ v) T g vals := h.kept (Below.heap_setCell _ _ _ _ hb)
theorem LRow.cell {w : World} {T g : Nat} {vals : List Value} (h : LRow w T g vals) : ∀ j u, vals[j]? = some u → w.cell? ((⟨g, 0, none⟩ : Addr).add j) = some u := by
  obtain ⟨f, h1, h2⟩ := h
  intro j u hu
  obtain ⟨hj, hu⟩ := List.getElem?_eq_some_iff.1 hu
  rw [addr_at, Nat.zero_add, h1.cell hj, h2 j hj, hu]
theorem LRow.own {w : World} {T g K n : Nat} {vals : List Value} (h : LRow w T g vals) (hn : vals.length = n * K) : OwnA w T K (some ⟨g, 0, none⟩) n := by
  obtain ⟨f, h1, _⟩ := h
  exact Or.inr ⟨g, _, f, rfl, h1, by omega⟩

set_option maxHeartbeats 400000 in
theorem szStepS_any (a : Option Addr) (len cap : Nat) (left : Int) (w : World) (hs : len ≤ maxLen) (h0 : 0 ≤ left) (h1 : left ≤ 1048576) :
    Calls Try.prog 77 #[.slice a len cap, .int .i64 left] w fun e w' => e = .returned (.int .i64 (if left < len then -1 else left - len)) ∧ Below w.heap.size w w' := by
  unfold maxLen at hs
  by_cases hl : left < len
  · rw [if_pos hl]
    go_enter Try.func77, Try.ntmps77
    go_wp2
    go_ret
    exact ⟨rfl, (by repeat (first | exact Below.refl _ _ | assumption | refine Below.drew ?_ | refine bdrewN ?_ _ | refine Below.setCell ?_ (by first | omega | (simp; done) | (simp; omega)) _ | refine Below.alloc ?_ (by first | omega | (simp; done) | (simp; omega)) _))⟩
  · rw [if_neg hl]
    go_enter Try.func77, Try.ntmps77
    go_wp2
    go_ret
    exact ⟨rfl, (by repeat (first | exact Below.refl _ _ | assumption | refine Below.drew ?_ | refine bdrewN ?_ _ | refine Below.setCell ?_ (by first | omega | (simp; done) | (simp; omega)) _ | refine Below.alloc ?_ (by first | omega | (simp; done) | (simp; omega)) _))⟩

set_option maxHeartbeats 400000 in
theorem toStep_any (x0 x1 : Int) (w : World) :
    Calls Try.prog 140 #[.agg #[.int .i64 x0, .int .i64 x1]] w fun e w' => e = .returned (.agg #[.int .i64 x0, .int .i64 x1]) ∧ Below w.heap.size w w' := by
  go_enter Try.func140, Try.ntmps140
  go_wp2
  exact bodyPost_ret (v := .agg #[.int .i64 x0, .int .i64 x1]) (by simp [results, Try.results140, go_sem]) rfl ⟨rfl, (by repeat (first | exact Below.refl _ _ | assumption | refine Below.drew ?_ | refine bdrewN ?_ _ | refine Below.setCell ?_ (by first | omega | (simp; done) | (simp; omega)) _ | refine Below.alloc ?_ (by first | omega | (simp; done) | (simp; omega)) _))⟩

theorem rowE_next {es : List MEnd} {k : Nat} {f : Nat → Value} (hk : k < es.length) (h : ∀ j (hj : j < (flatE es).length), j < k * 2 → f j = (flatE es)[j]) :
    ∀ j (hj : j < (flatE es).length), j < (k + 1) * 2 → (fun j : Nat => if j = k * 2 + 1 then .int .i64 es[k].side else if j = k * 2 then .int .i64 es[k].piece else f j) j = (flatE es)[j] := by
  intro j hj hjk
  by_cases e1 : j = k * 2 + 1
  · subst e1
    have hh : (flatE es)[k * 2 + 1]? = some (.int .i64 es[k].side) := (flat_get encE 2 (fun _ => rfl) es k 1 hk (by omega)).trans rfl
    have := (List.getElem?_eq_some_iff.1 hh).2
    rw [this]
    simp
  by_cases e0 : j = k * 2
  · subst e0
    have hh : (flatE es)[k * 2]? = some (.int .i64 es[k].piece) := (flat_get encE 2 (fun _ => rfl) es k 0 hk (by omega)).trans rfl
    have := (List.getElem?_eq_some_iff.1 hh).2
    rw [this]
    simp
  have hj2 : j < k * 2 := by omega
  have := h j hj hj2
  rw [← this]
  simp only []
  rw [if_neg e1]; rw [if_neg e0]

set_option maxHeartbeats 1000000 in
theorem toStepS_row (a : Option Addr) (cap : Nat) (es : List MEnd) (w : World) (hp : Hid (EndsAt w a es)) (hl : es.length ≤ 1048576) :
    Calls Try.prog 82 #[.slice a es.length cap] w fun e w' => ∃ g, e = .returned (.slice (some ⟨g, 0, none⟩) es.length es.length) ∧ Hid (LRow w' 51 g (flatE es)) ∧ Below w.heap.size w w' ∧ w.heap.size ≤ g := by
  obtain ⟨w1, hm, hrow, hb1, hz1⟩ := make_structs (P := Try.prog) w 37 51 _ _ _ Try.underlying37 Try.infoStep (by omega) es.length hl
  rw [← flatE_len] at hrow
  have HROW : Hid (∃ f, w1.rowIs w.heap.size 51 (flatE es).length f) := hrow
  have HLN := hidP (flatE_len es)
  clear hrow
  go_enter Try.func82, Try.ntmps82
  go_wp2_with fail
  go_loopw [4] (fun i wr => ∃ (k : Nat) (f : Nat → Value), k ≤ es.length ∧ i = .int .i64 k ∧ Hid (wr.rowIs w.heap.size 51 (flatE es).length f) ∧ Hid (∀ j (hj : j < (flatE es).length), j < k * 2 → f j = (flatE es)[j]) ∧ Below w.heap.size w wr ∧ w.heap.size < wr.heap.size) (fun i _ => es.length - (intOf i).toNat)
  case atStart =>
    obtain ⟨f, hf⟩ := HROW.out
    exact ⟨0, f, Nat.zero_le _, rfl, hf, (fun j _ h => absurd h (by omega)), hb1, by omega⟩
  case round =>
    obtain ⟨k, f, hk, rfl, hrow, hpr, hb, hz⟩ := hrel
    clear hm HROW hb1 hz1
    by_cases hk' : k < es.length
    · obtain ⟨b, off, rfl, hpc⟩ := hp.out.2.resolve_left (fun h => by rw [h] at hk'; exact absurd hk' (Nat.not_lt_zero _))
      obtain ⟨c0, c1⟩ := (hpc.below hb) k hk'
      clear hpc
      have HNX := hidP (rowE_next hk' hpr.out)
      clear hpr
      go_wp2_with fail
      refine (toStep_any _ _ _).mono ?_
      rintro e w2 ⟨rfl, hb2⟩
      have hr2 : w2.rowIs w.heap.size 51 (flatE es).length f := hrow.out.of_block (hb2.block _ hz)
      have d0 := hr2.cell (i := k * 2) (by have := flatE_len es; omega)
      have e0 := hr2.frozen (k * 2)
      have d1 := hr2.cell (i := k * 2 + 1) (by have := flatE_len es; omega)
      have e1 := hr2.frozen (k * 2 + 1)
      have HR2 := hidP hr2
      clear hr2 hrow
      have hb3 : Below w.heap.size w w2 := hb.trans (hb2.mono hb.size)
      have hz2 : w.heap.size < w2.heap.size := Nat.lt_of_lt_of_le hz hb2.size
      clear hb hb2 hz c0 c1
      go_wp2_with fail
      go_roundw
      case rel =>
        refine ⟨k + 1, _, by omega, by go_num, ((HR2.out.set (k * 2) _).set (k * 2 + 1) _), HNX, (by repeat (first | exact Below.refl _ _ | assumption | refine Below.drew ?_ | refine bdrewN ?_ _ | refine Below.setCell ?_ (by first | omega | (simp; done) | (simp; omega)) _ | refine Below.alloc ?_ (by first | omega | (simp; done) | (simp; omega)) _)), by simpa using hz2⟩
      case measure => simp [intOf]; omega
    · have HC : Hid (LRow wr 51 w.heap.size (flatE es)) := ⟨f, hrow.out, fun j hj => hpr.out j hj (by have := HLN.out; omega)⟩
      clear hrow hpr HLN
      go_wp2
      go_ret
      exact ⟨_, rfl, HC, hb, Nat.le_refl _⟩

set_option maxHeartbeats 400000 in
theorem szLieS_any (a : Option Addr) (len cap : Nat) (left : Int) (w : World) (hs : len ≤ maxLen) (h0 : 0 ≤ left) (h1 : left ≤ 1048576) :
    Calls Try.prog 78 #[.slice a len cap, .int .i64 left] w fun e w' => e = .returned (.int .i64 (if left < len then -1 else left - len)) ∧ Below w.heap.size w w' := by
  unfold maxLen at hs
  by_cases hl : left < len
  · rw [if_pos hl]
    go_enter Try.func78, Try.ntmps78
    go_wp2
    go_ret
    exact ⟨rfl, (by repeat (first | exact Below.refl _ _ | assumption | refine Below.drew ?_ | refine bdrewN ?_ _ | refine Below.setCell ?_ (by first | omega | (simp; done) | (simp; omega)) _ | refine Below.alloc ?_ (by first | omega | (simp; done) | (simp; omega)) _))⟩
  · rw [if_neg hl]
    go_enter Try.func78, Try.ntmps78
    go_wp2
    go_ret
    exact ⟨rfl, (by repeat (first | exact Below.refl _ _ | assumption | refine Below.drew ?_ | refine bdrewN ?_ _ | refine Below.setCell ?_ (by first | omega | (simp; done) | (simp; omega)) _ | refine Below.alloc ?_ (by first | omega | (simp; done) | (simp; omega)) _))⟩

set_option maxHeartbeats 400000 in
theorem toLie_any (x0 x1 : Int) (w : World) :
    Calls Try.prog 141 #[.agg #[.int .i64 x0, .int .i64 x1]] w fun e w' => e = .returned (.agg #[.int .i64 x0, .int .i64 x1]) ∧ Below w.heap.size w w' := by
  go_enter Try.func141, Try.ntmps141
  go_wp2
  exact bodyPost_ret (v := .agg #[.int .i64 x0, .int .i64 x1]) (by simp [results, Try.results141, go_sem]) rfl ⟨rfl, (by repeat (first | exact Below.refl _ _ | assumption | refine Below.drew ?_ | refine bdrewN ?_ _ | refine Below.setCell ?_ (by first | omega | (simp; done) | (simp; omega)) _ | refine Below.alloc ?_ (by first | omega | (simp; done) | (simp; omega)) _))⟩

set_option maxHeartbeats 1000000 in
theorem toLieS_row (a : Option Addr) (cap : Nat) (es : List MEnd) (w : World) (hp : Hid (EndsAt w a es)) (hl : es.length ≤ 1048576) :
    Calls Try.prog 83 #[.slice a es.length cap] w fun e w' => ∃ g, e = .returned (.slice (some ⟨g, 0, none⟩) es.length es.length) ∧ Hid (LRow w' 48 g (flatE es)) ∧ Below w.heap.size w w' ∧ w.heap.size ≤ g := by
  obtain ⟨w1, hm, hrow, hb1, hz1⟩ := make_structs (P := Try.prog) w 38 48 _ _ _ Try.underlying38 Try.infoLie (by omega) es.length hl
  rw [← flatE_len] at hrow
  have HROW : Hid (∃ f, w1.rowIs w.heap.size 48 (flatE es).length f) := hrow
  have HLN := hidP (flatE_len es)
  clear hrow
  go_enter Try.func83, Try.ntmps83
  go_wp2_with fail
  go_loopw [4] (fun i wr => ∃ (k : Nat) (f : Nat → Value), k ≤ es.length ∧ i = .int .i64 k ∧ Hid (wr.rowIs w.heap.size 48 (flatE es).length f) ∧ Hid (∀ j (hj : j < (flatE es).length), j < k * 2 → f j = (flatE es)[j]) ∧ Below w.heap.size w wr ∧ w.heap.size < wr.heap.size) (fun i _ => es.length - (intOf i).toNat)
  case atStart =>
    obtain ⟨f, hf⟩ := HROW.out
    exact ⟨0, f, Nat.zero_le _, rfl, hf, (fun j _ h => absurd h (by omega)), hb1, by omega⟩
  case round =>
    obtain ⟨k, f, hk, rfl, hrow, hpr, hb, hz⟩ := hrel
    clear hm HROW hb1 hz1
    by_cases hk' : k < es.length
    · obtain ⟨b, off, rfl, hpc⟩ := hp.out.2.resolve_left (fun h => by rw [h] at hk'; exact absurd hk' (Nat.not_lt_zero _))
      obtain ⟨c0, c1⟩ := (hpc.below hb) k hk'
      clear hpc
      have HNX := hidP (rowE_next hk' hpr.out)
      clear hpr
      go_wp2_with fail
      refine (toLie_any _ _ _).mono ?_
      rintro e w2 ⟨rfl, hb2⟩
      have hr2 : w2.rowIs w.heap.size 48 (flatE es).length f := hrow.out.of_block (hb2.block _ hz)
      have d0 := hr2.cell (i := k * 2) (by have := flatE_len es; omega)
      have e0 := hr2.frozen (k * 2)
      have d1 := hr2.cell (i := k * 2 + 1) (by have := flatE_len es; omega)
      have e1 := hr2.frozen (k * 2 + 1)
      have HR2 := hidP hr2
      clear hr2 hrow
      have hb3 : Below w.heap.size w w2 := hb.trans (hb2.mono hb.size)
      have hz2 : w.heap.size < w2.heap.size := Nat.lt_of_lt_of_le hz hb2.size
      clear hb hb2 hz c0 c1
      go_wp2_with fail
      go_roundw
      case rel =>
        refine ⟨k + 1, _, by omega, by go_num, ((HR2.out.set (k * 2) _).set (k * 2 + 1) _), HNX, (by repeat (first | exact Below.refl _ _ | assumption | refine Below.drew ?_ | refine bdrewN ?_ _ | refine Below.setCell ?_ (by first | omega | (simp; done) | (simp; omega)) _ | refine Below.alloc ?_ (by first | omega | (simp; done) | (simp; omega)) _)), by simpa using hz2⟩
      case measure => simp [intOf]; omega
    · have HC : Hid (LRow wr 48 w.heap.size (flatE es)) := ⟨f, hrow.out, fun j hj => hpr.out j hj (by have := HLN.out; omega)⟩
      clear hrow hpr HLN
      go_wp2
      go_ret
      exact ⟨_, rfl, HC, hb, Nat.le_refl _⟩

set_option maxHeartbeats 400000 in
theorem szIntS_any (a : Option Addr) (len cap : Nat) (left : Int) (w : World) (hs : len ≤ maxLen) (h0 : 0 ≤ left) (h1 : left ≤ 1048576) :
    Calls Try.prog 79 #[.slice a len cap, .int .i64 left] w fun e w' => e = .returned (.int .i64 (if left < len then -1 else left - len)) ∧ Below w.heap.size w w' := by
  unfold maxLen at hs
  by_cases hl : left < len
  · rw [if_pos hl]
    go_enter Try.func79, Try.ntmps79
    go_wp2
    go_ret
    exact ⟨rfl, (by repeat (first | exact Below.refl _ _ | assumption | refine Below.drew ?_ | refine bdrewN ?_ _ | refine Below.setCell ?_ (by first | omega | (simp; done) | (simp; omega)) _ | refine Below.alloc ?_ (by first | omega | (simp; done) | (simp; omega)) _))⟩
  · rw [if_neg hl]
    go_enter Try.func79, Try.ntmps79
    go_wp2
    go_ret
    exact ⟨rfl, (by repeat (first | exact Below.refl _ _ | assumption | refine Below.drew ?_ | refine bdrewN ?_ _ | refine Below.setCell ?_ (by first | omega | (simp; done) | (simp; omega)) _ | refine Below.alloc ?_ (by first | omega | (simp; done) | (simp; omega)) _))⟩

theorem rowN_next {es : List Int} {k : Nat} {f : Nat → Value} (hk : k < es.length) (h : ∀ j (hj : j < (flatN es).length), j < k * 1 → f j = (flatN es)[j]) :
    ∀ j (hj : j < (flatN es).length), j < (k + 1) * 1 → (fun j : Nat => if j = k then .int .i64 es[k] else f j) j = (flatN es)[j] := by
  intro j hj hjk
  by_cases e0 : j = k
  · subst e0
    have hh : (flatN es)[j * 1 + 0]? = some (.int .i64 es[j]) := (flat_get encN 1 (fun _ => rfl) es j 0 hk (by omega)).trans rfl
    simp only [Nat.mul_one, Nat.add_zero] at hh
    have := (List.getElem?_eq_some_iff.1 hh).2
    rw [this]
    simp
  have hj2 : j < k * 1 := by omega
  have := h j hj hj2
  rw [← this]
  simp only []
  rw [if_neg e0]

set_option maxHeartbeats 1000000 in
theorem toIntS_row (a : Option Addr) (cap : Nat) (es : List Int) (w : World) (hp : Hid (NumsAt w a es)) (hl : es.length ≤ 1048576) :
    Calls Try.prog 84 #[.slice a es.length cap] w fun e w' => ∃ g, e = .returned (.slice (some ⟨g, 0, none⟩) es.length es.length) ∧ Hid (LRow w' 3 g (flatN es)) ∧ Below w.heap.size w w' ∧ w.heap.size ≤ g := by
  obtain ⟨w1, hm, hrow, hb1, hz1⟩ := make_structs (P := Try.prog) w 34 3 _ _ _ Try.underlying34 Try.infoInt (by omega) es.length hl
  rw [← flatN_len] at hrow
  have HROW : Hid (∃ f, w1.rowIs w.heap.size 3 (flatN es).length f) := hrow
  have HLN := hidP (flatN_len es)
  clear hrow
  go_enter Try.func84, Try.ntmps84
  go_wp2_with fail
  go_loopw [4] (fun i wr => ∃ (k : Nat) (f : Nat → Value), k ≤ es.length ∧ i = .int .i64 k ∧ Hid (wr.rowIs w.heap.size 3 (flatN es).length f) ∧ Hid (∀ j (hj : j < (flatN es).length), j < k * 1 → f j = (flatN es)[j]) ∧ Below w.heap.size w wr ∧ w.heap.size < wr.heap.size) (fun i _ => es.length - (intOf i).toNat)
  case atStart =>
    obtain ⟨f, hf⟩ := HROW.out
    exact ⟨0, f, Nat.zero_le _, rfl, hf, (fun j _ h => absurd h (by omega)), hb1, by omega⟩
  case round =>
    obtain ⟨k, f, hk, rfl, hrow, hpr, hb, hz⟩ := hrel
    clear hm HROW hb1 hz1
    by_cases hk' : k < es.length
    · obtain ⟨b, off, rfl, hpc⟩ := hp.out.2.resolve_left (fun h => by rw [h] at hk'; exact absurd hk' (Nat.not_lt_zero _))
      have c0 := (hpc.below hb) k hk'
      clear hpc
      have HNX := hidP (rowN_next hk' hpr.out)
      clear hpr
      have hr2 : wr.rowIs w.heap.size 3 (flatN es).length f := hrow.out
      have d0 := hr2.cell (i := k) (by have := flatN_len es; omega)
      have e0 := hr2.frozen (k)
      have HR2 := hidP hr2
      clear hr2 hrow
      have hb3 := hb
      have hz2 := hz
      clear hb hz
      go_wp2_with fail
      go_roundw
      case rel =>
        refine ⟨k + 1, _, by omega, by go_num, (HR2.out.set (k) _), HNX, (by repeat (first | exact Below.refl _ _ | assumption | refine Below.drew ?_ | refine bdrewN ?_ _ | refine Below.setCell ?_ (by first | omega | (simp; done) | (simp; omega)) _ | refine Below.alloc ?_ (by first | omega | (simp; done) | (simp; omega)) _)), by simpa using hz2⟩
      case measure => simp [intOf]; omega
    · have HC : Hid (LRow wr 3 w.heap.size (flatN es)) := ⟨f, hrow.out, fun j hj => hpr.out j hj (by have := HLN.out; omega)⟩
      clear hrow hpr HLN
      go_wp2
      go_ret
      exact ⟨_, rfl, HC, hb, Nat.le_refl _⟩

set_option maxHeartbeats 400000 in
theorem szPartS_any (a : Option Addr) (len cap : Nat) (left : Int) (w : World) (hs : len ≤ maxLen) (h0 : 0 ≤ left) (h1 : left ≤ 1048576) :
    Calls Try.prog 80 #[.slice a len cap, .int .i64 left] w fun e w' => e = .returned (.int .i64 (if left < len then -1 else left - len)) ∧ Below w.heap.size w w' := by
  unfold maxLen at hs
  by_cases hl : left < len
  · rw [if_pos hl]
    go_enter Try.func80, Try.ntmps80
    go_wp2
    go_ret
    exact ⟨rfl, (by repeat (first | exact Below.refl _ _ | assumption | refine Below.drew ?_ | refine bdrewN ?_ _ | refine Below.setCell ?_ (by first | omega | (simp; done) | (simp; omega)) _ | refine Below.alloc ?_ (by first | omega | (simp; done) | (simp; omega)) _))⟩
  · rw [if_neg hl]
    go_enter Try.func80, Try.ntmps80
    go_wp2
    go_ret
    exact ⟨rfl, (by repeat (first | exact Below.refl _ _ | assumption | refine Below.drew ?_ | refine bdrewN ?_ _ | refine Below.setCell ?_ (by first | omega | (simp; done) | (simp; omega)) _ | refine Below.alloc ?_ (by first | omega | (simp; done) | (simp; omega)) _))⟩

set_option maxHeartbeats 400000 in
theorem toPart_any (x0 x1 x2 : Int) (w : World) :
    Calls Try.prog 142 #[.agg #[.int .i64 x0, .int .i64 x1, .int .i64 x2]] w fun e w' => e = .returned (.agg #[.int .i64 x0, .int .i64 x1, .int .i64 x2]) ∧ Below w.heap.size w w' := by
  go_enter Try.func142, Try.ntmps142
  go_wp2
  exact bodyPost_ret (v := .agg #[.int .i64 x0, .int .i64 x1, .int .i64 x2]) (by simp [results, Try.results142, go_sem]) rfl ⟨rfl, (by repeat (first | exact Below.refl _ _ | assumption | refine Below.drew ?_ | refine bdrewN ?_ _ | refine Below.setCell ?_ (by first | omega | (simp; done) | (simp; omega)) _ | refine Below.alloc ?_ (by first | omega | (simp; done) | (simp; omega)) _))⟩

theorem rowP_next {es : List MPart} {k : Nat} {f : Nat → Value} (hk : k < es.length) (h : ∀ j (hj : j < (flatP es).length), j < k * 3 → f j = (flatP es)[j]) :
    ∀ j (hj : j < (flatP es).length), j < (k + 1) * 3 → (fun j : Nat => if j = k * 3 + 2 then .int .i64 es[k].hi else if j = k * 3 + 1 then .int .i64 es[k].lo else if j = k * 3 then .int .i64 es[k].piece else f j) j = (flatP es)[j] := by
  intro j hj hjk
  by_cases e2 : j = k * 3 + 2
  · subst e2
    have hh : (flatP es)[k * 3 + 2]? = some (.int .i64 es[k].hi) := (flat_get encP 3 (fun _ => rfl) es k 2 hk (by omega)).trans rfl
    have := (List.getElem?_eq_some_iff.1 hh).2
    rw [this]
    simp
  by_cases e1 : j = k * 3 + 1
  · subst e1
    have hh : (flatP es)[k * 3 + 1]? = some (.int .i64 es[k].lo) := (flat_get encP 3 (fun _ => rfl) es k 1 hk (by omega)).trans rfl
    have := (List.getElem?_eq_some_iff.1 hh).2
    rw [this]
    simp
  by_cases e0 : j = k * 3
  · subst e0
    have hh : (flatP es)[k * 3]? = some (.int .i64 es[k].piece) := (flat_get encP 3 (fun _ => rfl) es k 0 hk (by omega)).trans rfl
    have := (List.getElem?_eq_some_iff.1 hh).2
    rw [this]
    simp
  have hj2 : j < k * 3 := by omega
  have := h j hj hj2
  rw [← this]
  simp only []
  rw [if_neg e2]; rw [if_neg e1]; rw [if_neg e0]

set_option maxHeartbeats 1000000 in
theorem toPartS_row (a : Option Addr) (cap : Nat) (es : List MPart) (w : World) (hp : Hid (PartsAt w a es)) (hl : es.length ≤ 1048576) :
    Calls Try.prog 85 #[.slice a es.length cap] w fun e w' => ∃ g, e = .returned (.slice (some ⟨g, 0, none⟩) es.length es.length) ∧ Hid (LRow w' 44 g (flatP es)) ∧ Below w.heap.size w w' ∧ w.heap.size ≤ g := by
  obtain ⟨w1, hm, hrow, hb1, hz1⟩ := make_structs (P := Try.prog) w 39 44 _ _ _ Try.underlying39 Try.infoPart (by omega) es.length hl
  rw [← flatP_len] at hrow
  have HROW : Hid (∃ f, w1.rowIs w.heap.size 44 (flatP es).length f) := hrow
  have HLN := hidP (flatP_len es)
  clear hrow
  go_enter Try.func85, Try.ntmps85
  go_wp2_with fail
  go_loopw [4] (fun i wr => ∃ (k : Nat) (f : Nat → Value), k ≤ es.length ∧ i = .int .i64 k ∧ Hid (wr.rowIs w.heap.size 44 (flatP es).length f) ∧ Hid (∀ j (hj : j < (flatP es).length), j < k * 3 → f j = (flatP es)[j]) ∧ Below w.heap.size w wr ∧ w.heap.size < wr.heap.size) (fun i _ => es.length - (intOf i).toNat)
  case atStart =>
    obtain ⟨f, hf⟩ := HROW.out
    exact ⟨0, f, Nat.zero_le _, rfl, hf, (fun j _ h => absurd h (by omega)), hb1, by omega⟩
  case round =>
    obtain ⟨k, f, hk, rfl, hrow, hpr, hb, hz⟩ := hrel
    clear hm HROW hb1 hz1
    by_cases hk' : k < es.length
    · obtain ⟨b, off, rfl, hpc⟩ := hp.out.2.resolve_left (fun h => by rw [h] at hk'; exact absurd hk' (Nat.not_lt_zero _))
      obtain ⟨c0, c1, c2⟩ := (hpc.below hb) k hk'
      clear hpc
      have HNX := hidP (rowP_next hk' hpr.out)
      clear hpr
      go_wp2_with fail
      refine (toPart_any _ _ _ _).mono ?_
      rintro e w2 ⟨rfl, hb2⟩
      have hr2 : w2.rowIs w.heap.size 44 (flatP es).length f := hrow.out.of_block (hb2.block _ hz)
      have d0 := hr2.cell (i := k * 3) (by have := flatP_len es; omega)
      have e0 := hr2.frozen (k * 3)
      have d1 := hr2.cell (i := k * 3 + 1) (by have := flatP_len es; omega)
      have e1 := hr2.frozen (k * 3 + 1)
      have d2 := hr2.cell (i := k * 3 + 2) (by have := flatP_len es; omega)
      have e2 := hr2.frozen (k * 3 + 2)
      have HR2 := hidP hr2
      clear hr2 hrow
      have hb3 : Below w.heap.size w w2 := hb.trans (hb2.mono hb.size)
      have hz2 : w.heap.size < w2.heap.size := Nat.lt_of_lt_of_le hz hb2.size
      clear hb hb2 hz c0 c1 c2
      go_wp2_with fail
      go_roundw
      case rel =>
        refine ⟨k + 1, _, by omega, by go_num, (((HR2.out.set (k * 3) _).set (k * 3 + 1) _).set (k * 3 + 2) _), HNX, (by repeat (first | exact Below.refl _ _ | assumption | refine Below.drew ?_ | refine bdrewN ?_ _ | refine Below.setCell ?_ (by first | omega | (simp; done) | (simp; omega)) _ | refine Below.alloc ?_ (by first | omega | (simp; done) | (simp; omega)) _)), by simpa using hz2⟩
      case measure => simp [intOf]; omega
    · have HC : Hid (LRow wr 44 w.heap.size (flatP es)) := ⟨f, hrow.out, fun j hj => hpr.out j hj (by have := HLN.out; omega)⟩
      clear hrow hpr HLN
      go_wp2
      go_ret
      exact ⟨_, rfl, HC, hb, Nat.le_refl _⟩

set_option maxHeartbeats 400000 in
theorem szFlankS_any (a : Option Addr) (len cap : Nat) (left : Int) (w : World) (hs : len ≤ maxLen) (h0 : 0 ≤ left) (h1 : left ≤ 1048576) :
    Calls Try.prog 81 #[.slice a len cap, .int .i64 left] w fun e w' => e = .returned (.int .i64 (if left < len then -1 else left - len)) ∧ Below w.heap.size w w' := by
  unfold maxLen at hs
  by_cases hl : left < len
  · rw [if_pos hl]
    go_enter Try.func81, Try.ntmps81
    go_wp2
    go_ret
    exact ⟨rfl, (by repeat (first | exact Below.refl _ _ | assumption | refine Below.drew ?_ | refine bdrewN ?_ _ | refine Below.setCell ?_ (by first | omega | (simp; done) | (simp; omega)) _ | refine Below.alloc ?_ (by first | omega | (simp; done) | (simp; omega)) _))⟩
  · rw [if_neg hl]
    go_enter Try.func81, Try.ntmps81
    go_wp2
    go_ret
    exact ⟨rfl, (by repeat (first | exact Below.refl _ _ | assumption | refine Below.drew ?_ | refine bdrewN ?_ _ | refine Below.setCell ?_ (by first | omega | (simp; done) | (simp; omega)) _ | refine Below.alloc ?_ (by first | omega | (simp; done) | (simp; omega)) _))⟩

set_option maxHeartbeats 400000 in
theorem toFlank_any (x0 x1 x2 x3 : Int) (w : World) :
    Calls Try.prog 143 #[.agg #[.int .i64 x0, .int .i64 x1, .int .i64 x2, .int .i64 x3]] w fun e w' => e = .returned (.agg #[.int .i64 x0, .int .i64 x1, .int .i64 x2, .int .i64 x3]) ∧ Below w.heap.size w w' := by
  go_enter Try.func143, Try.ntmps143
  go_wp2
  exact bodyPost_ret (v := .agg #[.int .i64 x0, .int .i64 x1, .int .i64 x2, .int .i64 x3]) (by simp [results, Try.results143, go_sem]) rfl ⟨rfl, (by repeat (first | exact Below.refl _ _ | assumption | refine Below.drew ?_ | refine bdrewN ?_ _ | refine Below.setCell ?_ (by first | omega | (simp; done) | (simp; omega)) _ | refine Below.alloc ?_ (by first | omega | (simp; done) | (simp; omega)) _))⟩

theorem rowF_next {es : List MFlank} {k : Nat} {f : Nat → Value} (hk : k < es.length) (h : ∀ j (hj : j < (flatF es).length), j < k * 4 → f j = (flatF es)[j]) :
    ∀ j (hj : j < (flatF es).length), j < (k + 1) * 4 → (fun j : Nat => if j = k * 4 + 3 then .int .i64 es[k].lie else if j = k * 4 + 2 then .int .i64 es[k].of else if j = k * 4 + 1 then .int .i64 es[k].kind else if j = k * 4 then .int .i64 es[k].place else f j) j = (flatF es)[j] := by
  intro j hj hjk
  by_cases e3 : j = k * 4 + 3
  · subst e3
    have hh : (flatF es)[k * 4 + 3]? = some (.int .i64 es[k].lie) := (flat_get encF 4 (fun _ => rfl) es k 3 hk (by omega)).trans rfl
    have := (List.getElem?_eq_some_iff.1 hh).2
    rw [this]
    simp
  by_cases e2 : j = k * 4 + 2
  · subst e2
    have hh : (flatF es)[k * 4 + 2]? = some (.int .i64 es[k].of) := (flat_get encF 4 (fun _ => rfl) es k 2 hk (by omega)).trans rfl
    have := (List.getElem?_eq_some_iff.1 hh).2
    rw [this]
    simp
  by_cases e1 : j = k * 4 + 1
  · subst e1
    have hh : (flatF es)[k * 4 + 1]? = some (.int .i64 es[k].kind) := (flat_get encF 4 (fun _ => rfl) es k 1 hk (by omega)).trans rfl
    have := (List.getElem?_eq_some_iff.1 hh).2
    rw [this]
    simp
  by_cases e0 : j = k * 4
  · subst e0
    have hh : (flatF es)[k * 4]? = some (.int .i64 es[k].place) := (flat_get encF 4 (fun _ => rfl) es k 0 hk (by omega)).trans rfl
    have := (List.getElem?_eq_some_iff.1 hh).2
    rw [this]
    simp
  have hj2 : j < k * 4 := by omega
  have := h j hj hj2
  rw [← this]
  simp only []
  rw [if_neg e3]; rw [if_neg e2]; rw [if_neg e1]; rw [if_neg e0]

set_option maxHeartbeats 1000000 in
theorem toFlankS_row (a : Option Addr) (cap : Nat) (es : List MFlank) (w : World) (hp : Hid (FlanksAt w a es)) (hl : es.length ≤ 1048576) :
    Calls Try.prog 86 #[.slice a es.length cap] w fun e w' => ∃ g, e = .returned (.slice (some ⟨g, 0, none⟩) es.length es.length) ∧ Hid (LRow w' 57 g (flatF es)) ∧ Below w.heap.size w w' ∧ w.heap.size ≤ g := by
  obtain ⟨w1, hm, hrow, hb1, hz1⟩ := make_structs (P := Try.prog) w 40 57 _ _ _ Try.underlying40 Try.infoFlank (by omega) es.length hl
  rw [← flatF_len] at hrow
  have HROW : Hid (∃ f, w1.rowIs w.heap.size 57 (flatF es).length f) := hrow
  have HLN := hidP (flatF_len es)
  clear hrow
  go_enter Try.func86, Try.ntmps86
  go_wp2_with fail
  go_loopw [4] (fun i wr => ∃ (k : Nat) (f : Nat → Value), k ≤ es.length ∧ i = .int .i64 k ∧ Hid (wr.rowIs w.heap.size 57 (flatF es).length f) ∧ Hid (∀ j (hj : j < (flatF es).length), j < k * 4 → f j = (flatF es)[j]) ∧ Below w.heap.size w wr ∧ w.heap.size < wr.heap.size) (fun i _ => es.length - (intOf i).toNat)
  case atStart =>
    obtain ⟨f, hf⟩ := HROW.out
    exact ⟨0, f, Nat.zero_le _, rfl, hf, (fun j _ h => absurd h (by omega)), hb1, by omega⟩
  case round =>
    obtain ⟨k, f, hk, rfl, hrow, hpr, hb, hz⟩ := hrel
    clear hm HROW hb1 hz1
    by_cases hk' : k < es.length
    · obtain ⟨b, off, rfl, hpc⟩ := hp.out.2.resolve_left (fun h => by rw [h] at hk'; exact absurd hk' (Nat.not_lt_zero _))
      obtain ⟨c0, c1, c2, c3⟩ := (hpc.below hb) k hk'
      clear hpc
      have HNX := hidP (rowF_next hk' hpr.out)
      clear hpr
      go_wp2_with fail
      refine (toFlank_any _ _ _ _ _).mono ?_
      rintro e w2 ⟨rfl, hb2⟩
      have hr2 : w2.rowIs w.heap.size 57 (flatF es).length f := hrow.out.of_block (hb2.block _ hz)
      have d0 := hr2.cell (i := k * 4) (by have := flatF_len es; omega)
      have e0 := hr2.frozen (k * 4)
      have d1 := hr2.cell (i := k * 4 + 1) (by have := flatF_len es; omega)
      have e1 := hr2.frozen (k * 4 + 1)
      have d2 := hr2.cell (i := k * 4 + 2) (by have := flatF_len es; omega)
      have e2 := hr2.frozen (k * 4 + 2)
      have d3 := hr2.cell (i := k * 4 + 3) (by have := flatF_len es; omega)
      have e3 := hr2.frozen (k * 4 + 3)
      have HR2 := hidP hr2
      clear hr2 hrow
      have hb3 : Below w.heap.size w w2 := hb.trans (hb2.mono hb.size)
      have hz2 : w.heap.size < w2.heap.size := Nat.lt_of_lt_of_le hz hb2.size
      clear hb hb2 hz c0 c1 c2 c3
      go_wp2_with fail
      go_roundw
      case rel =>
        refine ⟨k + 1, _, by omega, by go_num, ((((HR2.out.set (k * 4) _).set (k * 4 + 1) _).set (k * 4 + 2) _).set (k * 4 + 3) _), HNX, (by repeat (first | exact Below.refl _ _ | assumption | refine Below.drew ?_ | refine bdrewN ?_ _ | refine Below.setCell ?_ (by first | omega | (simp; done) | (simp; omega)) _ | refine Below.alloc ?_ (by first | omega | (simp; done) | (simp; omega)) _)), by simpa using hz2⟩
      case measure => simp [intOf]; omega
    · have HC : Hid (LRow wr 57 w.heap.size (flatF es)) := ⟨f, hrow.out, fun j hj => hpr.out j hj (by have := HLN.out; omega)⟩
      clear hrow hpr HLN
      go_wp2
      go_ret
      exact ⟨_, rfl, HC, hb, Nat.le_refl _⟩

end Go.Proofs.Ytmkdgnmmebldgaa
