import Derived.Test.YtmkdgnmmebldgaaGreatEx13
import Derived.OwnWalk
import Derived.WalkKit
import Derived.Laws.AppendOwnNone
namespace Go.Proofs.YtmkdgnmmebldgaaGreat
open Go.RowKit Go.Deep

/-! Lists that are written over with numbers in their order, and read again. -/

/-- A list of n elements, of K cells each, in a row that may be written. -/
def OwnA (w : World) (T K : Nat) (a : Option Addr) (n : Nat) : Prop := n = 0 ∨ ∃ g N f, a = some ⟨g, 0, none⟩ ∧ w.rowIs g T N f ∧ n * K ≤ N
/-- It holds the numbers from k on. -/
def MarkA (w : World) (K : Nat) (a : Option Addr) (n : Nat) (k : Int) : Prop := n = 0 ∨ ∃ g, a = some ⟨g, 0, none⟩ ∧ ∀ j, j < n * K → w.cell? ⟨g, j, none⟩ = some (.int .i64 (k + j))
/-- The block of a list that is not empty. -/
def BlkOf (a : Option Addr) (n : Nat) (b : Nat) : Prop := n ≠ 0 ∧ ∃ o s, a = some ⟨b, o, s⟩

theorem OwnA.kept {w w' : World} {T K n : Nat} {a : Option Addr} (h : OwnA w T K a n) (hb : ∀ b, BlkOf a n b → w'.heap[b]? = w.heap[b]?) : OwnA w' T K a n := by
  rcases h with h | ⟨g, N, f, h1, h2, h3⟩
  · exact Or.inl h
  · by_cases e : n = 0
    · exact Or.inl e
    · exact Or.inr ⟨g, N, f, h1, h2.of_block (hb g ⟨e, 0, none, h1⟩), h3⟩
theorem MarkA.kept {w w' : World} {K n : Nat} {a : Option Addr} {k : Int} (h : MarkA w K a n k) (hb : ∀ b, BlkOf a n b → w'.heap[b]? = w.heap[b]?) : MarkA w' K a n k := by
  rcases h with h | ⟨g, h1, h2⟩
  · exact Or.inl h
  · by_cases e : n = 0
    · exact Or.inl e
    · exact Or.inr ⟨g, h1, fun j hj => (World.cell?_of_block (w := w) (hb g ⟨e, 0, none, h1⟩)).trans (h2 j hj)⟩
theorem grown_set {w wr : World} {g : Nat} (h : w.grownBy wr (some g)) (i : Nat) (v : Value) : w.grownBy (wr.setCell ⟨g, i, none⟩ v) (some g) :=
  ⟨h.os, h.tape, h.output, by have := h.size; simpa [World.setCell] using this, fun b hb hne => (Below.heap_setCell _ _ _ _ (fun e => hne (by rw [e]))).trans (h.block b hb hne)⟩

theorem OwnA.lt {w : World} {T K n : Nat} {a : Option Addr} (h : OwnA w T K a n) {b : Nat} (hb : BlkOf a n b) : b < w.heap.size := by
  obtain ⟨h0, o, s, h1⟩ := hb
  rcases h with h | ⟨g, N, f, h2, h3, _⟩
  · exact absurd h h0
  · rw [h2] at h1
    cases h1
    exact h3.lt

theorem markStep_next {k : Int} {m : Nat} {f : Nat → Value} (h : ∀ j : Nat, j < m * 2 → f j = .int .i64 (k + j)) :
    ∀ j : Nat, j < (m + 1) * 2 → (fun j : Nat => if j = m * 2 + 1 then .int .i64 (k + m * 2 + 1) else if j = m * 2 then .int .i64 (k + m * 2) else f j) j = .int .i64 (k + j) := by
  intro j hj
  dsimp only
  by_cases e1 : j = m * 2 + 1
  · rw [if_pos e1]; congr 1; omega
  rw [if_neg e1]
  by_cases e0 : j = m * 2
  · rw [if_pos e0]; congr 1; omega
  rw [if_neg e0]
  exact h j (by omega)

set_option maxHeartbeats 1000000 in
theorem markStepS_walk (g N n cap : Nat) (k : Int) (f0 : Nat → Value) (w : World) (hr : Hid (w.rowIs g 100 N f0)) (hn : n * 2 ≤ N) (hk : 0 ≤ k) (hkb : k + n * 2 ≤ 1152921504606846976) :
    Calls Tryz.prog 38 #[.slice (some ⟨g, 0, none⟩) n cap, .int .i64 k] w fun e w' => e = .returned (.int .i64 (k + n * 2)) ∧ (∃ f, w'.rowIs g 100 N f ∧ ∀ j : Nat, j < n * 2 → f j = .int .i64 (k + j)) ∧ w.grownBy w' (some g) := by
  have hg0 : w.grownBy w (some g) := ⟨rfl, rfl, rfl, Nat.le_refl _, fun _ _ _ => rfl⟩
  have HG0 := hidP hg0
  clear hg0
  go_enter Tryz.func38, Tryz.ntmps38
  go_wp2_with fail
  go_loopw [1, 5] (fun kk i wr => ∃ (m : Nat) (f : Nat → Value), m ≤ n ∧ i = .int .i64 m ∧ kk = .int .i64 (k + m * 2) ∧ Hid (wr.rowIs g 100 N f) ∧ Hid (∀ j : Nat, j < m * 2 → f j = .int .i64 (k + j)) ∧ Hid (w.grownBy wr (some g))) (fun _ i _ => n - (intOf i).toNat)
  case atStart => exact ⟨0, f0, Nat.zero_le _, rfl, by simp, hr, (fun j h => absurd h (by omega)), HG0⟩
  case round =>
    obtain ⟨m, f, hm, rfl, rfl, hrow, hf, hg⟩ := hrel
    clear hr HG0
    by_cases hm' : m < n
    · have HN := hidP (markStep_next hf.out)
      have d0 := hrow.out.cell (i := m * 2) (by omega)
      have e0 := hrow.out.frozen (m * 2)
      have d1 := hrow.out.cell (i := m * 2 + 1) (by omega)
      have e1 := hrow.out.frozen (m * 2 + 1)
      clear hf
      go_wp2_with fail
      go_roundw
      case rel => exact ⟨m + 1, _, by omega, by go_num, by go_num, ((hrow.out.set (m * 2) _).set (m * 2 + 1) _), HN, (grown_set (grown_set hg.out _ _) _ _)⟩
      case measure => simp [intOf]; omega
    · have hmm : m = n := by omega
      subst hmm
      go_wp2
      go_ret
      exact ⟨rfl, ⟨f, hrow.out, hf.out⟩, hg.out⟩

set_option maxHeartbeats 400000 in
theorem markStepS_nil (a : Option Addr) (cap : Nat) (k : Int) (w : World) :
    Calls Tryz.prog 38 #[.slice a 0 cap, .int .i64 k] w fun e w' => e = .returned (.int .i64 k) ∧ w' = w := by
  go_enter Tryz.func38, Tryz.ntmps38
  go_wp2_with fail
  go_loopw [1, 5] (fun l i wr => i = .int .i64 0 ∧ l = .int .i64 k ∧ wr = w) (fun _ _ _ => 0)
  case atStart => exact ⟨rfl, rfl, rfl⟩
  case round =>
    obtain ⟨rfl, rfl, rfl⟩ := hrel
    go_wp2
    go_ret
    exact ⟨rfl, rfl⟩

theorem markStepS_any (a : Option Addr) (n cap : Nat) (k : Int) (w : World) (ho : OwnA w 100 2 a n) (hk : 0 ≤ k) (hkb : k + n * 2 ≤ 1152921504606846976) :
    Calls Tryz.prog 38 #[.slice a n cap, .int .i64 k] w fun e w' => e = .returned (.int .i64 (k + n * 2)) ∧ MarkA w' 2 a n k ∧ OwnA w' 100 2 a n ∧ Only (BlkOf a n) w w' := by
  by_cases h0 : n = 0
  · subst h0
    refine (markStepS_nil a cap k w).mono ?_
    rintro e w' ⟨rfl, rfl⟩
    exact ⟨by simp, Or.inl rfl, Or.inl rfl, Only.refl _ _⟩
  · rcases ho with ho | ⟨g, N, f, rfl, h2, h3⟩
    · exact absurd ho h0
    · refine (markStepS_walk g N n cap k f w h2 (by omega) hk hkb).mono ?_
      rintro e w' ⟨rfl, ⟨f', h4, h5⟩, h6⟩
      exact ⟨rfl, Or.inr ⟨g, rfl, fun j hj => by rw [h4.cell (by omega), h5 j (by omega)]⟩, Or.inr ⟨g, N, f', rfl, h4, h3⟩, Only.of_grown h6 (fun b hb => ⟨h0, 0, none, by cases hb; rfl⟩)⟩

set_option maxHeartbeats 1000000 in
theorem heldStepS_walk (g n cap : Nat) (k : Int) (w : World) (hc : Hid (∀ j : Nat, j < n * 2 → w.cell? ⟨g, j, none⟩ = some (.int .i64 (k + j)))) (hk : 0 ≤ k) (hkb : k + n * 2 ≤ 1152921504606846976) :
    Calls Tryz.prog 43 #[.slice (some ⟨g, 0, none⟩) n cap, .int .i64 k] w fun e w' => e = .returned (.int .i64 (k + n * 2)) ∧ Below w.heap.size w w' := by
  go_enter Tryz.func43, Tryz.ntmps43
  go_wp2_with fail
  go_loopw [1, 5] (fun kk i wr => ∃ (m : Nat), m ≤ n ∧ i = .int .i64 m ∧ kk = .int .i64 (k + m * 2) ∧ Below w.heap.size w wr) (fun _ i _ => n - (intOf i).toNat)
  case atStart => exact ⟨0, Nat.zero_le _, rfl, by simp, Below.refl _ _⟩
  case round =>
    obtain ⟨m, hm, rfl, rfl, hbw⟩ := hrel
    by_cases hm' : m < n
    · have hgw : g < w.heap.size := cellLt (hc.out 0 (by omega))
      have d0 : wr.cell? ⟨g, m * 2, none⟩ = some (.int .i64 (k + m * 2)) := by have := (cell_later hbw (hc.out (m * 2) (by omega))); rw [this]; first | done | (congr 2; done) | (congr 2; omega)
      have d1 : wr.cell? ⟨g, m * 2 + 1, none⟩ = some (.int .i64 (k + m * 2 + 1)) := by have := (cell_later hbw (hc.out (m * 2 + 1) (by omega))); rw [this]; first | done | (congr 2; done) | (congr 2; omega)
      go_wp2_with fail
      go_roundw
      case rel => exact ⟨m + 1, by omega, by go_num, by go_num, hbw⟩
      case measure => simp [intOf]; omega
    · have hmm : m = n := by omega
      subst hmm
      go_wp2
      go_ret
      exact ⟨rfl, hbw⟩

set_option maxHeartbeats 400000 in
theorem heldStepS_nil (a : Option Addr) (cap : Nat) (k : Int) (w : World) :
    Calls Tryz.prog 43 #[.slice a 0 cap, .int .i64 k] w fun e w' => e = .returned (.int .i64 k) ∧ w' = w := by
  go_enter Tryz.func43, Tryz.ntmps43
  go_wp2_with fail
  go_loopw [1, 5] (fun l i wr => i = .int .i64 0 ∧ l = .int .i64 k ∧ wr = w) (fun _ _ _ => 0)
  case atStart => exact ⟨rfl, rfl, rfl⟩
  case round =>
    obtain ⟨rfl, rfl, rfl⟩ := hrel
    go_wp2
    go_ret
    exact ⟨rfl, rfl⟩

theorem heldStepS_any (a : Option Addr) (n cap : Nat) (k : Int) (w : World) (ho : MarkA w 2 a n k) (hk : 0 ≤ k) (hkb : k + n * 2 ≤ 1152921504606846976) :
    Calls Tryz.prog 43 #[.slice a n cap, .int .i64 k] w fun e w' => e = .returned (.int .i64 (k + n * 2)) ∧ Below w.heap.size w w' := by
  by_cases h0 : n = 0
  · subst h0
    refine (heldStepS_nil a cap k w).mono ?_
    rintro e w' ⟨rfl, rfl⟩
    exact ⟨by simp, Below.refl _ _⟩
  · rcases ho with ho | ⟨g, rfl, h2⟩
    · exact absurd ho h0
    · exact heldStepS_walk g n cap k w (fun j hj => h2 j (by omega)) hk hkb

theorem markLie_next {k : Int} {m : Nat} {f : Nat → Value} (h : ∀ j : Nat, j < m * 2 → f j = .int .i64 (k + j)) :
    ∀ j : Nat, j < (m + 1) * 2 → (fun j : Nat => if j = m * 2 + 1 then .int .i64 (k + m * 2 + 1) else if j = m * 2 then .int .i64 (k + m * 2) else f j) j = .int .i64 (k + j) := by
  intro j hj
  dsimp only
  by_cases e1 : j = m * 2 + 1
  · rw [if_pos e1]; congr 1; omega
  rw [if_neg e1]
  by_cases e0 : j = m * 2
  · rw [if_pos e0]; congr 1; omega
  rw [if_neg e0]
  exact h j (by omega)

set_option maxHeartbeats 1000000 in
theorem markLieS_walk (g N n cap : Nat) (k : Int) (f0 : Nat → Value) (w : World) (hr : Hid (w.rowIs g 144 N f0)) (hn : n * 2 ≤ N) (hk : 0 ≤ k) (hkb : k + n * 2 ≤ 1152921504606846976) :
    Calls Tryz.prog 39 #[.slice (some ⟨g, 0, none⟩) n cap, .int .i64 k] w fun e w' => e = .returned (.int .i64 (k + n * 2)) ∧ (∃ f, w'.rowIs g 144 N f ∧ ∀ j : Nat, j < n * 2 → f j = .int .i64 (k + j)) ∧ w.grownBy w' (some g) := by
  have hg0 : w.grownBy w (some g) := ⟨rfl, rfl, rfl, Nat.le_refl _, fun _ _ _ => rfl⟩
  have HG0 := hidP hg0
  clear hg0
  go_enter Tryz.func39, Tryz.ntmps39
  go_wp2_with fail
  go_loopw [1, 5] (fun kk i wr => ∃ (m : Nat) (f : Nat → Value), m ≤ n ∧ i = .int .i64 m ∧ kk = .int .i64 (k + m * 2) ∧ Hid (wr.rowIs g 144 N f) ∧ Hid (∀ j : Nat, j < m * 2 → f j = .int .i64 (k + j)) ∧ Hid (w.grownBy wr (some g))) (fun _ i _ => n - (intOf i).toNat)
  case atStart => exact ⟨0, f0, Nat.zero_le _, rfl, by simp, hr, (fun j h => absurd h (by omega)), HG0⟩
  case round =>
    obtain ⟨m, f, hm, rfl, rfl, hrow, hf, hg⟩ := hrel
    clear hr HG0
    by_cases hm' : m < n
    · have HN := hidP (markLie_next hf.out)
      have d0 := hrow.out.cell (i := m * 2) (by omega)
      have e0 := hrow.out.frozen (m * 2)
      have d1 := hrow.out.cell (i := m * 2 + 1) (by omega)
      have e1 := hrow.out.frozen (m * 2 + 1)
      clear hf
      go_wp2_with fail
      go_roundw
      case rel => exact ⟨m + 1, _, by omega, by go_num, by go_num, ((hrow.out.set (m * 2) _).set (m * 2 + 1) _), HN, (grown_set (grown_set hg.out _ _) _ _)⟩
      case measure => simp [intOf]; omega
    · have hmm : m = n := by omega
      subst hmm
      go_wp2
      go_ret
      exact ⟨rfl, ⟨f, hrow.out, hf.out⟩, hg.out⟩

set_option maxHeartbeats 400000 in
theorem markLieS_nil (a : Option Addr) (cap : Nat) (k : Int) (w : World) :
    Calls Tryz.prog 39 #[.slice a 0 cap, .int .i64 k] w fun e w' => e = .returned (.int .i64 k) ∧ w' = w := by
  go_enter Tryz.func39, Tryz.ntmps39
  go_wp2_with fail
  go_loopw [1, 5] (fun l i wr => i = .int .i64 0 ∧ l = .int .i64 k ∧ wr = w) (fun _ _ _ => 0)
  case atStart => exact ⟨rfl, rfl, rfl⟩
  case round =>
    obtain ⟨rfl, rfl, rfl⟩ := hrel
    go_wp2
    go_ret
    exact ⟨rfl, rfl⟩

theorem markLieS_any (a : Option Addr) (n cap : Nat) (k : Int) (w : World) (ho : OwnA w 144 2 a n) (hk : 0 ≤ k) (hkb : k + n * 2 ≤ 1152921504606846976) :
    Calls Tryz.prog 39 #[.slice a n cap, .int .i64 k] w fun e w' => e = .returned (.int .i64 (k + n * 2)) ∧ MarkA w' 2 a n k ∧ OwnA w' 144 2 a n ∧ Only (BlkOf a n) w w' := by
  by_cases h0 : n = 0
  · subst h0
    refine (markLieS_nil a cap k w).mono ?_
    rintro e w' ⟨rfl, rfl⟩
    exact ⟨by simp, Or.inl rfl, Or.inl rfl, Only.refl _ _⟩
  · rcases ho with ho | ⟨g, N, f, rfl, h2, h3⟩
    · exact absurd ho h0
    · refine (markLieS_walk g N n cap k f w h2 (by omega) hk hkb).mono ?_
      rintro e w' ⟨rfl, ⟨f', h4, h5⟩, h6⟩
      exact ⟨rfl, Or.inr ⟨g, rfl, fun j hj => by rw [h4.cell (by omega), h5 j (by omega)]⟩, Or.inr ⟨g, N, f', rfl, h4, h3⟩, Only.of_grown h6 (fun b hb => ⟨h0, 0, none, by cases hb; rfl⟩)⟩

set_option maxHeartbeats 1000000 in
theorem heldLieS_walk (g n cap : Nat) (k : Int) (w : World) (hc : Hid (∀ j : Nat, j < n * 2 → w.cell? ⟨g, j, none⟩ = some (.int .i64 (k + j)))) (hk : 0 ≤ k) (hkb : k + n * 2 ≤ 1152921504606846976) :
    Calls Tryz.prog 44 #[.slice (some ⟨g, 0, none⟩) n cap, .int .i64 k] w fun e w' => e = .returned (.int .i64 (k + n * 2)) ∧ Below w.heap.size w w' := by
  go_enter Tryz.func44, Tryz.ntmps44
  go_wp2_with fail
  go_loopw [1, 5] (fun kk i wr => ∃ (m : Nat), m ≤ n ∧ i = .int .i64 m ∧ kk = .int .i64 (k + m * 2) ∧ Below w.heap.size w wr) (fun _ i _ => n - (intOf i).toNat)
  case atStart => exact ⟨0, Nat.zero_le _, rfl, by simp, Below.refl _ _⟩
  case round =>
    obtain ⟨m, hm, rfl, rfl, hbw⟩ := hrel
    by_cases hm' : m < n
    · have hgw : g < w.heap.size := cellLt (hc.out 0 (by omega))
      have d0 : wr.cell? ⟨g, m * 2, none⟩ = some (.int .i64 (k + m * 2)) := by have := (cell_later hbw (hc.out (m * 2) (by omega))); rw [this]; first | done | (congr 2; done) | (congr 2; omega)
      have d1 : wr.cell? ⟨g, m * 2 + 1, none⟩ = some (.int .i64 (k + m * 2 + 1)) := by have := (cell_later hbw (hc.out (m * 2 + 1) (by omega))); rw [this]; first | done | (congr 2; done) | (congr 2; omega)
      go_wp2_with fail
      go_roundw
      case rel => exact ⟨m + 1, by omega, by go_num, by go_num, hbw⟩
      case measure => simp [intOf]; omega
    · have hmm : m = n := by omega
      subst hmm
      go_wp2
      go_ret
      exact ⟨rfl, hbw⟩

set_option maxHeartbeats 400000 in
theorem heldLieS_nil (a : Option Addr) (cap : Nat) (k : Int) (w : World) :
    Calls Tryz.prog 44 #[.slice a 0 cap, .int .i64 k] w fun e w' => e = .returned (.int .i64 k) ∧ w' = w := by
  go_enter Tryz.func44, Tryz.ntmps44
  go_wp2_with fail
  go_loopw [1, 5] (fun l i wr => i = .int .i64 0 ∧ l = .int .i64 k ∧ wr = w) (fun _ _ _ => 0)
  case atStart => exact ⟨rfl, rfl, rfl⟩
  case round =>
    obtain ⟨rfl, rfl, rfl⟩ := hrel
    go_wp2
    go_ret
    exact ⟨rfl, rfl⟩

theorem heldLieS_any (a : Option Addr) (n cap : Nat) (k : Int) (w : World) (ho : MarkA w 2 a n k) (hk : 0 ≤ k) (hkb : k + n * 2 ≤ 1152921504606846976) :
    Calls Tryz.prog 44 #[.slice a n cap, .int .i64 k] w fun e w' => e = .returned (.int .i64 (k + n * 2)) ∧ Below w.heap.size w w' := by
  by_cases h0 : n = 0
  · subst h0
    refine (heldLieS_nil a cap k w).mono ?_
    rintro e w' ⟨rfl, rfl⟩
    exact ⟨by simp, Below.refl _ _⟩
  · rcases ho with ho | ⟨g, rfl, h2⟩
    · exact absurd ho h0
    · exact heldLieS_walk g n cap k w (fun j hj => h2 j (by omega)) hk hkb

theorem markInt_next {k : Int} {m : Nat} {f : Nat → Value} (h : ∀ j : Nat, j < m → f j = .int .i64 (k + j)) :
    ∀ j : Nat, j < (m + 1) → (fun j : Nat => if j = m then .int .i64 (k + m) else f j) j = .int .i64 (k + j) := by
  intro j hj
  dsimp only
  by_cases e0 : j = m
  · rw [if_pos e0]; congr 1; omega
  rw [if_neg e0]
  exact h j (by omega)

set_option maxHeartbeats 1000000 in
theorem markIntS_walk (g N n cap : Nat) (k : Int) (f0 : Nat → Value) (w : World) (hr : Hid (w.rowIs g 3 N f0)) (hn : n ≤ N) (hk : 0 ≤ k) (hkb : k + n ≤ 1152921504606846976) :
    Calls Tryz.prog 40 #[.slice (some ⟨g, 0, none⟩) n cap, .int .i64 k] w fun e w' => e = .returned (.int .i64 (k + n)) ∧ (∃ f, w'.rowIs g 3 N f ∧ ∀ j : Nat, j < n → f j = .int .i64 (k + j)) ∧ w.grownBy w' (some g) := by
  have hg0 : w.grownBy w (some g) := ⟨rfl, rfl, rfl, Nat.le_refl _, fun _ _ _ => rfl⟩
  have HG0 := hidP hg0
  clear hg0
  go_enter Tryz.func40, Tryz.ntmps40
  go_wp2_with fail
  go_loopw [1, 5] (fun kk i wr => ∃ (m : Nat) (f : Nat → Value), m ≤ n ∧ i = .int .i64 m ∧ kk = .int .i64 (k + m) ∧ Hid (wr.rowIs g 3 N f) ∧ Hid (∀ j : Nat, j < m → f j = .int .i64 (k + j)) ∧ Hid (w.grownBy wr (some g))) (fun _ i _ => n - (intOf i).toNat)
  case atStart => exact ⟨0, f0, Nat.zero_le _, rfl, by simp, hr, (fun j h => absurd h (by omega)), HG0⟩
  case round =>
    obtain ⟨m, f, hm, rfl, rfl, hrow, hf, hg⟩ := hrel
    clear hr HG0
    by_cases hm' : m < n
    · have HN := hidP (markInt_next hf.out)
      have d0 := hrow.out.cell (i := m) (by omega)
      have e0 := hrow.out.frozen (m)
      clear hf
      go_wp2_with fail
      go_roundw
      case rel => exact ⟨m + 1, _, by omega, by go_num, by go_num, (hrow.out.set (m) _), HN, (grown_set hg.out _ _)⟩
      case measure => simp [intOf]; omega
    · have hmm : m = n := by omega
      subst hmm
      go_wp2
      go_ret
      exact ⟨rfl, ⟨f, hrow.out, hf.out⟩, hg.out⟩

set_option maxHeartbeats 400000 in
theorem markIntS_nil (a : Option Addr) (cap : Nat) (k : Int) (w : World) :
    Calls Tryz.prog 40 #[.slice a 0 cap, .int .i64 k] w fun e w' => e = .returned (.int .i64 k) ∧ w' = w := by
  go_enter Tryz.func40, Tryz.ntmps40
  go_wp2_with fail
  go_loopw [1, 5] (fun l i wr => i = .int .i64 0 ∧ l = .int .i64 k ∧ wr = w) (fun _ _ _ => 0)
  case atStart => exact ⟨rfl, rfl, rfl⟩
  case round =>
    obtain ⟨rfl, rfl, rfl⟩ := hrel
    go_wp2
    go_ret
    exact ⟨rfl, rfl⟩

theorem markIntS_any (a : Option Addr) (n cap : Nat) (k : Int) (w : World) (ho : OwnA w 3 1 a n) (hk : 0 ≤ k) (hkb : k + n ≤ 1152921504606846976) :
    Calls Tryz.prog 40 #[.slice a n cap, .int .i64 k] w fun e w' => e = .returned (.int .i64 (k + n)) ∧ MarkA w' 1 a n k ∧ OwnA w' 3 1 a n ∧ Only (BlkOf a n) w w' := by
  by_cases h0 : n = 0
  · subst h0
    refine (markIntS_nil a cap k w).mono ?_
    rintro e w' ⟨rfl, rfl⟩
    exact ⟨by simp, Or.inl rfl, Or.inl rfl, Only.refl _ _⟩
  · rcases ho with ho | ⟨g, N, f, rfl, h2, h3⟩
    · exact absurd ho h0
    · refine (markIntS_walk g N n cap k f w h2 (by omega) hk hkb).mono ?_
      rintro e w' ⟨rfl, ⟨f', h4, h5⟩, h6⟩
      exact ⟨rfl, Or.inr ⟨g, rfl, fun j hj => by rw [h4.cell (by omega), h5 j (by omega)]⟩, Or.inr ⟨g, N, f', rfl, h4, h3⟩, Only.of_grown h6 (fun b hb => ⟨h0, 0, none, by cases hb; rfl⟩)⟩

set_option maxHeartbeats 1000000 in
theorem heldIntS_walk (g n cap : Nat) (k : Int) (w : World) (hc : Hid (∀ j : Nat, j < n → w.cell? ⟨g, j, none⟩ = some (.int .i64 (k + j)))) (hk : 0 ≤ k) (hkb : k + n ≤ 1152921504606846976) :
    Calls Tryz.prog 45 #[.slice (some ⟨g, 0, none⟩) n cap, .int .i64 k] w fun e w' => e = .returned (.int .i64 (k + n)) ∧ Below w.heap.size w w' := by
  go_enter Tryz.func45, Tryz.ntmps45
  go_wp2_with fail
  go_loopw [1, 5] (fun kk i wr => ∃ (m : Nat), m ≤ n ∧ i = .int .i64 m ∧ kk = .int .i64 (k + m) ∧ Below w.heap.size w wr) (fun _ i _ => n - (intOf i).toNat)
  case atStart => exact ⟨0, Nat.zero_le _, rfl, by simp, Below.refl _ _⟩
  case round =>
    obtain ⟨m, hm, rfl, rfl, hbw⟩ := hrel
    by_cases hm' : m < n
    · have hgw : g < w.heap.size := cellLt (hc.out 0 (by omega))
      have d0 : wr.cell? ⟨g, m, none⟩ = some (.int .i64 (k + m)) := by have := (cell_later hbw (hc.out (m) (by omega))); rw [this]; first | done | (congr 2; done) | (congr 2; omega)
      go_wp2_with fail
      go_roundw
      case rel => exact ⟨m + 1, by omega, by go_num, by go_num, hbw⟩
      case measure => simp [intOf]; omega
    · have hmm : m = n := by omega
      subst hmm
      go_wp2
      go_ret
      exact ⟨rfl, hbw⟩

set_option maxHeartbeats 400000 in
theorem heldIntS_nil (a : Option Addr) (cap : Nat) (k : Int) (w : World) :
    Calls Tryz.prog 45 #[.slice a 0 cap, .int .i64 k] w fun e w' => e = .returned (.int .i64 k) ∧ w' = w := by
  go_enter Tryz.func45, Tryz.ntmps45
  go_wp2_with fail
  go_loopw [1, 5] (fun l i wr => i = .int .i64 0 ∧ l = .int .i64 k ∧ wr = w) (fun _ _ _ => 0)
  case atStart => exact ⟨rfl, rfl, rfl⟩
  case round =>
    obtain ⟨rfl, rfl, rfl⟩ := hrel
    go_wp2
    go_ret
    exact ⟨rfl, rfl⟩

theorem heldIntS_any (a : Option Addr) (n cap : Nat) (k : Int) (w : World) (ho : MarkA w 1 a n k) (hk : 0 ≤ k) (hkb : k + n ≤ 1152921504606846976) :
    Calls Tryz.prog 45 #[.slice a n cap, .int .i64 k] w fun e w' => e = .returned (.int .i64 (k + n)) ∧ Below w.heap.size w w' := by
  by_cases h0 : n = 0
  · subst h0
    refine (heldIntS_nil a cap k w).mono ?_
    rintro e w' ⟨rfl, rfl⟩
    exact ⟨by simp, Below.refl _ _⟩
  · rcases ho with ho | ⟨g, rfl, h2⟩
    · exact absurd ho h0
    · exact heldIntS_walk g n cap k w (fun j hj => h2 j (by omega)) hk hkb

theorem markPart_next {k : Int} {m : Nat} {f : Nat → Value} (h : ∀ j : Nat, j < m * 3 → f j = .int .i64 (k + j)) :
    ∀ j : Nat, j < (m + 1) * 3 → (fun j : Nat => if j = m * 3 + 2 then .int .i64 (k + m * 3 + 1 + 1) else if j = m * 3 + 1 then .int .i64 (k + m * 3 + 1) else if j = m * 3 then .int .i64 (k + m * 3) else f j) j = .int .i64 (k + j) := by
  intro j hj
  dsimp only
  by_cases e2 : j = m * 3 + 2
  · rw [if_pos e2]; congr 1; omega
  rw [if_neg e2]
  by_cases e1 : j = m * 3 + 1
  · rw [if_pos e1]; congr 1; omega
  rw [if_neg e1]
  by_cases e0 : j = m * 3
  · rw [if_pos e0]; congr 1; omega
  rw [if_neg e0]
  exact h j (by omega)

set_option maxHeartbeats 1000000 in
theorem markPartS_walk (g N n cap : Nat) (k : Int) (f0 : Nat → Value) (w : World) (hr : Hid (w.rowIs g 104 N f0)) (hn : n * 3 ≤ N) (hk : 0 ≤ k) (hkb : k + n * 3 ≤ 1152921504606846976) :
    Calls Tryz.prog 41 #[.slice (some ⟨g, 0, none⟩) n cap, .int .i64 k] w fun e w' => e = .returned (.int .i64 (k + n * 3)) ∧ (∃ f, w'.rowIs g 104 N f ∧ ∀ j : Nat, j < n * 3 → f j = .int .i64 (k + j)) ∧ w.grownBy w' (some g) := by
  have hg0 : w.grownBy w (some g) := ⟨rfl, rfl, rfl, Nat.le_refl _, fun _ _ _ => rfl⟩
  have HG0 := hidP hg0
  clear hg0
  go_enter Tryz.func41, Tryz.ntmps41
  go_wp2_with fail
  go_loopw [1, 5] (fun kk i wr => ∃ (m : Nat) (f : Nat → Value), m ≤ n ∧ i = .int .i64 m ∧ kk = .int .i64 (k + m * 3) ∧ Hid (wr.rowIs g 104 N f) ∧ Hid (∀ j : Nat, j < m * 3 → f j = .int .i64 (k + j)) ∧ Hid (w.grownBy wr (some g))) (fun _ i _ => n - (intOf i).toNat)
  case atStart => exact ⟨0, f0, Nat.zero_le _, rfl, by simp, hr, (fun j h => absurd h (by omega)), HG0⟩
  case round =>
    obtain ⟨m, f, hm, rfl, rfl, hrow, hf, hg⟩ := hrel
    clear hr HG0
    by_cases hm' : m < n
    · have HN := hidP (markPart_next hf.out)
      have d0 := hrow.out.cell (i := m * 3) (by omega)
      have e0 := hrow.out.frozen (m * 3)
      have d1 := hrow.out.cell (i := m * 3 + 1) (by omega)
      have e1 := hrow.out.frozen (m * 3 + 1)
      have d2 := hrow.out.cell (i := m * 3 + 2) (by omega)
      have e2 := hrow.out.frozen (m * 3 + 2)
      clear hf
      go_wp2_with fail
      go_roundw
      case rel => exact ⟨m + 1, _, by omega, by go_num, by go_num, (((hrow.out.set (m * 3) _).set (m * 3 + 1) _).set (m * 3 + 2) _), HN, (grown_set (grown_set (grown_set hg.out _ _) _ _) _ _)⟩
      case measure => simp [intOf]; omega
    · have hmm : m = n := by omega
      subst hmm
      go_wp2
      go_ret
      exact ⟨rfl, ⟨f, hrow.out, hf.out⟩, hg.out⟩

set_option maxHeartbeats 400000 in
theorem markPartS_nil (a : Option Addr) (cap : Nat) (k : Int) (w : World) :
    Calls Tryz.prog 41 #[.slice a 0 cap, .int .i64 k] w fun e w' => e = .returned (.int .i64 k) ∧ w' = w := by
  go_enter Tryz.func41, Tryz.ntmps41
  go_wp2_with fail
  go_loopw [1, 5] (fun l i wr => i = .int .i64 0 ∧ l = .int .i64 k ∧ wr = w) (fun _ _ _ => 0)
  case atStart => exact ⟨rfl, rfl, rfl⟩
  case round =>
    obtain ⟨rfl, rfl, rfl⟩ := hrel
    go_wp2
    go_ret
    exact ⟨rfl, rfl⟩

theorem markPartS_any (a : Option Addr) (n cap : Nat) (k : Int) (w : World) (ho : OwnA w 104 3 a n) (hk : 0 ≤ k) (hkb : k + n * 3 ≤ 1152921504606846976) :
    Calls Tryz.prog 41 #[.slice a n cap, .int .i64 k] w fun e w' => e = .returned (.int .i64 (k + n * 3)) ∧ MarkA w' 3 a n k ∧ OwnA w' 104 3 a n ∧ Only (BlkOf a n) w w' := by
  by_cases h0 : n = 0
  · subst h0
    refine (markPartS_nil a cap k w).mono ?_
    rintro e w' ⟨rfl, rfl⟩
    exact ⟨by simp, Or.inl rfl, Or.inl rfl, Only.refl _ _⟩
  · rcases ho with ho | ⟨g, N, f, rfl, h2, h3⟩
    · exact absurd ho h0
    · refine (markPartS_walk g N n cap k f w h2 (by omega) hk hkb).mono ?_
      rintro e w' ⟨rfl, ⟨f', h4, h5⟩, h6⟩
      exact ⟨rfl, Or.inr ⟨g, rfl, fun j hj => by rw [h4.cell (by omega), h5 j (by omega)]⟩, Or.inr ⟨g, N, f', rfl, h4, h3⟩, Only.of_grown h6 (fun b hb => ⟨h0, 0, none, by cases hb; rfl⟩)⟩

set_option maxHeartbeats 1000000 in
theorem heldPartS_walk (g n cap : Nat) (k : Int) (w : World) (hc : Hid (∀ j : Nat, j < n * 3 → w.cell? ⟨g, j, none⟩ = some (.int .i64 (k + j)))) (hk : 0 ≤ k) (hkb : k + n * 3 ≤ 1152921504606846976) :
    Calls Tryz.prog 46 #[.slice (some ⟨g, 0, none⟩) n cap, .int .i64 k] w fun e w' => e = .returned (.int .i64 (k + n * 3)) ∧ Below w.heap.size w w' := by
  go_enter Tryz.func46, Tryz.ntmps46
  go_wp2_with fail
  go_loopw [1, 5] (fun kk i wr => ∃ (m : Nat), m ≤ n ∧ i = .int .i64 m ∧ kk = .int .i64 (k + m * 3) ∧ Below w.heap.size w wr) (fun _ i _ => n - (intOf i).toNat)
  case atStart => exact ⟨0, Nat.zero_le _, rfl, by simp, Below.refl _ _⟩
  case round =>
    obtain ⟨m, hm, rfl, rfl, hbw⟩ := hrel
    by_cases hm' : m < n
    · have hgw : g < w.heap.size := cellLt (hc.out 0 (by omega))
      have d0 : wr.cell? ⟨g, m * 3, none⟩ = some (.int .i64 (k + m * 3)) := by have := (cell_later hbw (hc.out (m * 3) (by omega))); rw [this]; first | done | (congr 2; done) | (congr 2; omega)
      have d1 : wr.cell? ⟨g, m * 3 + 1, none⟩ = some (.int .i64 (k + m * 3 + 1)) := by have := (cell_later hbw (hc.out (m * 3 + 1) (by omega))); rw [this]; first | done | (congr 2; done) | (congr 2; omega)
      have d2 : wr.cell? ⟨g, m * 3 + 2, none⟩ = some (.int .i64 (k + m * 3 + 1 + 1)) := by have := (cell_later hbw (hc.out (m * 3 + 2) (by omega))); rw [this]; first | done | (congr 2; done) | (congr 2; omega)
      go_wp2_with fail
      go_roundw
      case rel => exact ⟨m + 1, by omega, by go_num, by go_num, hbw⟩
      case measure => simp [intOf]; omega
    · have hmm : m = n := by omega
      subst hmm
      go_wp2
      go_ret
      exact ⟨rfl, hbw⟩

set_option maxHeartbeats 400000 in
theorem heldPartS_nil (a : Option Addr) (cap : Nat) (k : Int) (w : World) :
    Calls Tryz.prog 46 #[.slice a 0 cap, .int .i64 k] w fun e w' => e = .returned (.int .i64 k) ∧ w' = w := by
  go_enter Tryz.func46, Tryz.ntmps46
  go_wp2_with fail
  go_loopw [1, 5] (fun l i wr => i = .int .i64 0 ∧ l = .int .i64 k ∧ wr = w) (fun _ _ _ => 0)
  case atStart => exact ⟨rfl, rfl, rfl⟩
  case round =>
    obtain ⟨rfl, rfl, rfl⟩ := hrel
    go_wp2
    go_ret
    exact ⟨rfl, rfl⟩

theorem heldPartS_any (a : Option Addr) (n cap : Nat) (k : Int) (w : World) (ho : MarkA w 3 a n k) (hk : 0 ≤ k) (hkb : k + n * 3 ≤ 1152921504606846976) :
    Calls Tryz.prog 46 #[.slice a n cap, .int .i64 k] w fun e w' => e = .returned (.int .i64 (k + n * 3)) ∧ Below w.heap.size w w' := by
  by_cases h0 : n = 0
  · subst h0
    refine (heldPartS_nil a cap k w).mono ?_
    rintro e w' ⟨rfl, rfl⟩
    exact ⟨by simp, Below.refl _ _⟩
  · rcases ho with ho | ⟨g, rfl, h2⟩
    · exact absurd ho h0
    · exact heldPartS_walk g n cap k w (fun j hj => h2 j (by omega)) hk hkb

theorem markFlank_next {k : Int} {m : Nat} {f : Nat → Value} (h : ∀ j : Nat, j < m * 4 → f j = .int .i64 (k + j)) :
    ∀ j : Nat, j < (m + 1) * 4 → (fun j : Nat => if j = m * 4 + 3 then .int .i64 (k + m * 4 + 1 + 1 + 1) else if j = m * 4 + 2 then .int .i64 (k + m * 4 + 1 + 1) else if j = m * 4 + 1 then .int .i64 (k + m * 4 + 1) else if j = m * 4 then .int .i64 (k + m * 4) else f j) j = .int .i64 (k + j) := by
  intro j hj
  dsimp only
  by_cases e3 : j = m * 4 + 3
  · rw [if_pos e3]; congr 1; omega
  rw [if_neg e3]
  by_cases e2 : j = m * 4 + 2
  · rw [if_pos e2]; congr 1; omega
  rw [if_neg e2]
  by_cases e1 : j = m * 4 + 1
  · rw [if_pos e1]; congr 1; omega
  rw [if_neg e1]
  by_cases e0 : j = m * 4
  · rw [if_pos e0]; congr 1; omega
  rw [if_neg e0]
  exact h j (by omega)

set_option maxHeartbeats 1000000 in
theorem markFlankS_walk (g N n cap : Nat) (k : Int) (f0 : Nat → Value) (w : World) (hr : Hid (w.rowIs g 146 N f0)) (hn : n * 4 ≤ N) (hk : 0 ≤ k) (hkb : k + n * 4 ≤ 1152921504606846976) :
    Calls Tryz.prog 42 #[.slice (some ⟨g, 0, none⟩) n cap, .int .i64 k] w fun e w' => e = .returned (.int .i64 (k + n * 4)) ∧ (∃ f, w'.rowIs g 146 N f ∧ ∀ j : Nat, j < n * 4 → f j = .int .i64 (k + j)) ∧ w.grownBy w' (some g) := by
  have hg0 : w.grownBy w (some g) := ⟨rfl, rfl, rfl, Nat.le_refl _, fun _ _ _ => rfl⟩
  have HG0 := hidP hg0
  clear hg0
  go_enter Tryz.func42, Tryz.ntmps42
  go_wp2_with fail
  go_loopw [1, 5] (fun kk i wr => ∃ (m : Nat) (f : Nat → Value), m ≤ n ∧ i = .int .i64 m ∧ kk = .int .i64 (k + m * 4) ∧ Hid (wr.rowIs g 146 N f) ∧ Hid (∀ j : Nat, j < m * 4 → f j = .int .i64 (k + j)) ∧ Hid (w.grownBy wr (some g))) (fun _ i _ => n - (intOf i).toNat)
  case atStart => exact ⟨0, f0, Nat.zero_le _, rfl, by simp, hr, (fun j h => absurd h (by omega)), HG0⟩
  case round =>
    obtain ⟨m, f, hm, rfl, rfl, hrow, hf, hg⟩ := hrel
    clear hr HG0
    by_cases hm' : m < n
    · have HN := hidP (markFlank_next hf.out)
      have d0 := hrow.out.cell (i := m * 4) (by omega)
      have e0 := hrow.out.frozen (m * 4)
      have d1 := hrow.out.cell (i := m * 4 + 1) (by omega)
      have e1 := hrow.out.frozen (m * 4 + 1)
      have d2 := hrow.out.cell (i := m * 4 + 2) (by omega)
      have e2 := hrow.out.frozen (m * 4 + 2)
      have d3 := hrow.out.cell (i := m * 4 + 3) (by omega)
      have e3 := hrow.out.frozen (m * 4 + 3)
      clear hf
      go_wp2_with fail
      go_roundw
      case rel => exact ⟨m + 1, _, by omega, by go_num, by go_num, ((((hrow.out.set (m * 4) _).set (m * 4 + 1) _).set (m * 4 + 2) _).set (m * 4 + 3) _), HN, (grown_set (grown_set (grown_set (grown_set hg.out _ _) _ _) _ _) _ _)⟩
      case measure => simp [intOf]; omega
    · have hmm : m = n := by omega
      subst hmm
      go_wp2
      go_ret
      exact ⟨rfl, ⟨f, hrow.out, hf.out⟩, hg.out⟩

set_option maxHeartbeats 400000 in
theorem markFlankS_nil (a : Option Addr) (cap : Nat) (k : Int) (w : World) :
    Calls Tryz.prog 42 #[.slice a 0 cap, .int .i64 k] w fun e w' => e = .returned (.int .i64 k) ∧ w' = w := by
  go_enter Tryz.func42, Tryz.ntmps42
  go_wp2_with fail
  go_loopw [1, 5] (fun l i wr => i = .int .i64 0 ∧ l = .int .i64 k ∧ wr = w) (fun _ _ _ => 0)
  case atStart => exact ⟨rfl, rfl, rfl⟩
  case round =>
    obtain ⟨rfl, rfl, rfl⟩ := hrel
    go_wp2
    go_ret
    exact ⟨rfl, rfl⟩

theorem markFlankS_any (a : Option Addr) (n cap : Nat) (k : Int) (w : World) (ho : OwnA w 146 4 a n) (hk : 0 ≤ k) (hkb : k + n * 4 ≤ 1152921504606846976) :
    Calls Tryz.prog 42 #[.slice a n cap, .int .i64 k] w fun e w' => e = .returned (.int .i64 (k + n * 4)) ∧ MarkA w' 4 a n k ∧ OwnA w' 146 4 a n ∧ Only (BlkOf a n) w w' := by
  by_cases h0 : n = 0
  · subst h0
    refine (markFlankS_nil a cap k w).mono ?_
    rintro e w' ⟨rfl, rfl⟩
    exact ⟨by simp, Or.inl rfl, Or.inl rfl, Only.refl _ _⟩
  · rcases ho with ho | ⟨g, N, f, rfl, h2, h3⟩
    · exact absurd ho h0
    · refine (markFlankS_walk g N n cap k f w h2 (by omega) hk hkb).mono ?_
      rintro e w' ⟨rfl, ⟨f', h4, h5⟩, h6⟩
      exact ⟨rfl, Or.inr ⟨g, rfl, fun j hj => by rw [h4.cell (by omega), h5 j (by omega)]⟩, Or.inr ⟨g, N, f', rfl, h4, h3⟩, Only.of_grown h6 (fun b hb => ⟨h0, 0, none, by cases hb; rfl⟩)⟩

set_option maxHeartbeats 1000000 in
theorem heldFlankS_walk (g n cap : Nat) (k : Int) (w : World) (hc : Hid (∀ j : Nat, j < n * 4 → w.cell? ⟨g, j, none⟩ = some (.int .i64 (k + j)))) (hk : 0 ≤ k) (hkb : k + n * 4 ≤ 1152921504606846976) :
    Calls Tryz.prog 47 #[.slice (some ⟨g, 0, none⟩) n cap, .int .i64 k] w fun e w' => e = .returned (.int .i64 (k + n * 4)) ∧ Below w.heap.size w w' := by
  go_enter Tryz.func47, Tryz.ntmps47
  go_wp2_with fail
  go_loopw [1, 5] (fun kk i wr => ∃ (m : Nat), m ≤ n ∧ i = .int .i64 m ∧ kk = .int .i64 (k + m * 4) ∧ Below w.heap.size w wr) (fun _ i _ => n - (intOf i).toNat)
  case atStart => exact ⟨0, Nat.zero_le _, rfl, by simp, Below.refl _ _⟩
  case round =>
    obtain ⟨m, hm, rfl, rfl, hbw⟩ := hrel
    by_cases hm' : m < n
    · have hgw : g < w.heap.size := cellLt (hc.out 0 (by omega))
      have d0 : wr.cell? ⟨g, m * 4, none⟩ = some (.int .i64 (k + m * 4)) := by have := (cell_later hbw (hc.out (m * 4) (by omega))); rw [this]; first | done | (congr 2; done) | (congr 2; omega)
      have d1 : wr.cell? ⟨g, m * 4 + 1, none⟩ = some (.int .i64 (k + m * 4 + 1)) := by have := (cell_later hbw (hc.out (m * 4 + 1) (by omega))); rw [this]; first | done | (congr 2; done) | (congr 2; omega)
      have d2 : wr.cell? ⟨g, m * 4 + 2, none⟩ = some (.int .i64 (k + m * 4 + 1 + 1)) := by have := (cell_later hbw (hc.out (m * 4 + 2) (by omega))); rw [this]; first | done | (congr 2; done) | (congr 2; omega)
      have d3 : wr.cell? ⟨g, m * 4 + 3, none⟩ = some (.int .i64 (k + m * 4 + 1 + 1 + 1)) := by have := (cell_later hbw (hc.out (m * 4 + 3) (by omega))); rw [this]; first | done | (congr 2; done) | (congr 2; omega)
      go_wp2_with fail
      go_roundw
      case rel => exact ⟨m + 1, by omega, by go_num, by go_num, hbw⟩
      case measure => simp [intOf]; omega
    · have hmm : m = n := by omega
      subst hmm
      go_wp2
      go_ret
      exact ⟨rfl, hbw⟩

set_option maxHeartbeats 400000 in
theorem heldFlankS_nil (a : Option Addr) (cap : Nat) (k : Int) (w : World) :
    Calls Tryz.prog 47 #[.slice a 0 cap, .int .i64 k] w fun e w' => e = .returned (.int .i64 k) ∧ w' = w := by
  go_enter Tryz.func47, Tryz.ntmps47
  go_wp2_with fail
  go_loopw [1, 5] (fun l i wr => i = .int .i64 0 ∧ l = .int .i64 k ∧ wr = w) (fun _ _ _ => 0)
  case atStart => exact ⟨rfl, rfl, rfl⟩
  case round =>
    obtain ⟨rfl, rfl, rfl⟩ := hrel
    go_wp2
    go_ret
    exact ⟨rfl, rfl⟩

theorem heldFlankS_any (a : Option Addr) (n cap : Nat) (k : Int) (w : World) (ho : MarkA w 4 a n k) (hk : 0 ≤ k) (hkb : k + n * 4 ≤ 1152921504606846976) :
    Calls Tryz.prog 47 #[.slice a n cap, .int .i64 k] w fun e w' => e = .returned (.int .i64 (k + n * 4)) ∧ Below w.heap.size w w' := by
  by_cases h0 : n = 0
  · subst h0
    refine (heldFlankS_nil a cap k w).mono ?_
    rintro e w' ⟨rfl, rfl⟩
    exact ⟨by simp, Below.refl _ _⟩
  · rcases ho with ho | ⟨g, rfl, h2⟩
    · exact absurd ho h0
    · exact heldFlankS_walk g n cap k w (fun j hj => h2 j (by omega)) hk hkb

end Go.Proofs.YtmkdgnmmebldgaaGreat

namespace Go.Proofs.YtmkdgnmmebldgaaGreat
open Go.RowKit Go.Deep

theorem flat_len {α : Type} (f : α → List Value) (k : Nat) (hk : ∀ x, (f x).length = k) : ∀ (xs : List α), (xs.flatMap f).length = xs.length * k
  | [] => by simp
  | x :: r => by rw [List.flatMap_cons, List.length_append, hk, flat_len f k hk r, List.length_cons, Nat.add_mul]; omega
theorem flat_get {α : Type} (f : α → List Value) (k : Nat) (hk : ∀ x, (f x).length = k) : ∀ (xs : List α) (i j : Nat) (hi : i < xs.length), j < k → (xs.flatMap f)[i * k + j]? = (f xs[i])[j]?
  | [], _, _, hi, _ => absurd hi (by simp)
  | x :: r, 0, j, _, hj => by
    rw [List.flatMap_cons, List.getElem?_append_left (by rw [hk]; omega)]
    simp
  | x :: r, i + 1, j, hi, hj => by
    have ih := flat_get f k hk r i j (by simpa using hi) hj
    rw [List.flatMap_cons, List.getElem?_append_right (by rw [hk, Nat.add_mul]; omega), hk, show (i + 1) * k + j - k = i * k + j by rw [Nat.add_mul]; omega, ih]
    simp

theorem addr_at (b off j : Nat) : (⟨b, off, none⟩ : Addr).add j = ⟨b, off + j, none⟩ := by unfold Addr.add; split <;> simp_all

/-- 'append' of a whole list, nil or not, onto a row of the call's own. -/
theorem wpList_append_list {P : Program} {w : World} {ops : Array Oper} {rest : List Oper} {o : Oper} {a : Act} {Q : Exit → Act → World → Prop} (hgd : o.guard = none) (s x : Operand) (t : TypeId)
    (ho : o.op = .call { callee := .builtin .append, args := #[s, x], argTypes := #[t, t] })
    (base : Nat) (e : TypeId) (z : Value) (size bytes : Nat) (ht : P.underlying t = some (.slice e)) (hi : (P.info? e).map (fun i => (i.zero, i.size, i.bytes)) = some (some z, size, bytes)) (hzs : z.cells.size = size) (hsz : 0 < size)
    (v : Value) (n : Nat) (xs : List Value) (hs : a.eval s = v) (hown : w.ownsRow base e size v n xs)
    (av : Option Addr) (m c : Nat) (news : List Value) (hx : a.eval x = .slice av m c) (hav : av = none → c = 0) (hl : news.length = m * size) (hnews : ∀ ad, av = some ad → ∀ j u, news[j]? = some u → w.cell? (ad.add j) = some u) (hm : av = none → m = 0) (h1 : ∀ u ∈ news, u.oneCell' = true)
    (h63 : n + m ≤ maxLen) (hbytes : (n + m) * bytes ≤ 140737488355328) (hbase : base ≤ w.heap.size)
    (h : ∀ v' w', w'.ownsRow base e size v' (n + m) (xs ++ news) → w.grownBy w' v.ownBlock → wpList P ops Q rest (a.put o.dst v') w') : wpList P ops Q (o :: rest) a w := by
  obtain ⟨i, hi1, hi2, hi3, hi4⟩ := info_parts hi
  cases av with
  | some ad => exact wpList_append_own w hgd s x t ho base e i z size bytes ht hi1 hi2 hi3 hi4 hzs hsz v n xs hs hown ad m c news hx hl (hnews ad rfl) h1 h63 hbytes hbase (fun v' w' h2 h3 _ => h v' w' h2 h3)
  | none =>
    have hm0 := hm rfl
    have hc0 := hav rfl
    subst hm0 hc0
    have hnil : news = [] := List.eq_nil_of_length_eq_zero (by omega)
    subst hnil
    exact wpList_append_own_none hgd s x t ho base e i size ht hi1 v n xs hs hown hx (h v w (by simpa using hown) ⟨rfl, rfl, rfl, Nat.le_refl _, fun _ _ _ => rfl⟩)

def encE (x : MEnd) : List Value := [.int .i64 x.piece, .int .i64 x.side]
def flatE (xs : List MEnd) : List Value := xs.flatMap encE
theorem flatE_len (xs : List MEnd) : (flatE xs).length = xs.length * 2 := flat_len encE 2 (fun _ => rfl) xs
theorem flatE_one (xs : List MEnd) : ∀ u ∈ flatE xs, u.oneCell' = true := by
  intro u hu
  obtain ⟨x, _, hx⟩ := List.mem_flatMap.1 hu
  simp only [encE, List.mem_cons, List.not_mem_nil, or_false] at hx
  rcases hx with rfl | rfl <;> rfl
theorem flatE_snoc (xs : List MEnd) (x : MEnd) : flatE (xs ++ [x]) = flatE xs ++ encE x := by simp [flatE]
theorem endCells_of {w : World} {b off : Nat} {es : List MEnd} (H : ∀ j u, (flatE es)[j]? = some u → w.cell? ((⟨b, off, none⟩ : Addr).add j) = some u) : EndCells w b off es := by
  intro i hi
  have h0 : (flatE es)[i * 2 + 0]? = some (.int .i64 es[i].piece) := (flat_get encE 2 (fun _ => rfl) es i 0 hi (by omega)).trans rfl
  have h1 : (flatE es)[i * 2 + 1]? = some (.int .i64 es[i].side) := (flat_get encE 2 (fun _ => rfl) es i 1 hi (by omega)).trans rfl
  exact ⟨by have := H _ _ h0; rw [addr_at] at this; simpa [Nat.add_assoc] using this, by have := H _ _ h1; rw [addr_at] at this; simpa [Nat.add_assoc] using this⟩
theorem newsE {w : World} {a : Option Addr} {es : List MEnd} (h : EndsAt w a es) : ∀ ad, a = some ad → ∀ j u, (flatE es)[j]? = some u → w.cell? (ad.add j) = some u := by
  intro ad had j u hu
  have hj : j < es.length * 2 := by
    have := (List.getElem?_eq_some_iff.1 hu).1
    rwa [flatE_len] at this
  obtain ⟨b, off, h3, hc⟩ := h.2.resolve_left (fun e => by rw [e] at hj; simp at hj)
  rw [had] at h3
  cases h3
  rw [addr_at]
  have hi : j / 2 < es.length := by omega
  have hr : j % 2 = 0 ∨ j % 2 = 1 := by omega
  rcases hr with hr | hr
  · have hg := flat_get encE 2 (fun _ => rfl) es (j / 2) 0 hi (by omega)
    rw [show j / 2 * 2 + 0 = j by omega] at hg
    rw [show (flatE es)[j]? = _ from hg] at hu
    have hc' := (hc (j / 2) hi).1
    cases hu
    have e : off + j / 2 * 2 = off + j := by omega
    rw [e] at hc'
    exact hc'
  · have hg := flat_get encE 2 (fun _ => rfl) es (j / 2) 1 hi (by omega)
    rw [show j / 2 * 2 + 1 = j by omega] at hg
    rw [show (flatE es)[j]? = _ from hg] at hu
    have hc' := (hc (j / 2) hi).2
    cases hu
    have e : off + j / 2 * 2 + 1 = off + j := by omega
    rw [e] at hc'
    exact hc'
theorem ownE {w : World} {base t : Nat} {v : Value} {es : List MEnd} (h : w.ownsRow base t 2 v es.length (flatE es)) (hm : es.length ≤ maxLen) :
    ∃ a cap, v = .slice a es.length cap ∧ EndsAt w a es ∧ (a = none → es.length = 0 ∧ cap = 0) ∧ ∀ b, BlkOf a es.length b → v.ownBlock = some b := by
  rcases h.2 with ⟨rfl, hn⟩ | ⟨g, cap, cur, rfl, hb, hg, _⟩
  · exact ⟨none, 0, by rw [hn], ⟨hm, Or.inl (List.eq_nil_of_length_eq_zero hn)⟩, fun _ => ⟨hn, rfl⟩, fun b hb => absurd hn hb.1⟩
  · refine ⟨some ⟨g, 0, none⟩, cap, rfl, ⟨hm, Or.inr ⟨g, 0, rfl, endCells_of (h.cells rfl)⟩⟩, (fun e => nomatch e), fun b hb => ?_⟩
    obtain ⟨_, _, _, hb⟩ := hb
    cases hb
    rfl

def encN (x : Int) : List Value := [.int .i64 x]
def flatN (xs : List Int) : List Value := xs.flatMap encN
theorem flatN_len (xs : List Int) : (flatN xs).length = xs.length * 1 := flat_len encN 1 (fun _ => rfl) xs
theorem flatN_one (xs : List Int) : ∀ u ∈ flatN xs, u.oneCell' = true := by
  intro u hu
  obtain ⟨x, _, hx⟩ := List.mem_flatMap.1 hu
  simp only [encN, List.mem_cons, List.not_mem_nil, or_false] at hx
  subst hx; rfl
theorem flatN_snoc (xs : List Int) (x : Int) : flatN (xs ++ [x]) = flatN xs ++ encN x := by simp [flatN]
theorem numCells_of {w : World} {b off : Nat} {es : List Int} (H : ∀ j u, (flatN es)[j]? = some u → w.cell? ((⟨b, off, none⟩ : Addr).add j) = some u) : NumCells w b off es := by
  intro i hi
  have h0 : (flatN es)[i * 1 + 0]? = some (.int .i64 es[i]) := (flat_get encN 1 (fun _ => rfl) es i 0 hi (by omega)).trans rfl
  have := H _ _ h0
  rw [addr_at] at this
  simpa using this
theorem newsN {w : World} {a : Option Addr} {es : List Int} (h : NumsAt w a es) : ∀ ad, a = some ad → ∀ j u, (flatN es)[j]? = some u → w.cell? (ad.add j) = some u := by
  intro ad had j u hu
  have hj : j < es.length := by
    have := (List.getElem?_eq_some_iff.1 hu).1
    rw [flatN_len] at this
    omega
  obtain ⟨b, off, h3, hc⟩ := h.2.resolve_left (fun e => by rw [e] at hj; simp at hj)
  rw [had] at h3
  cases h3
  rw [addr_at]
  have hg := flat_get encN 1 (fun _ => rfl) es j 0 hj (by omega)
  rw [show j * 1 + 0 = j by omega] at hg
  rw [show (flatN es)[j]? = _ from hg] at hu
  have hc' := hc j hj
  cases hu
  exact hc'
theorem ownN {w : World} {base t : Nat} {v : Value} {es : List Int} (h : w.ownsRow base t 1 v es.length (flatN es)) (hm : es.length ≤ maxLen) :
    ∃ a cap, v = .slice a es.length cap ∧ NumsAt w a es ∧ (a = none → es.length = 0 ∧ cap = 0) ∧ ∀ b, BlkOf a es.length b → v.ownBlock = some b := by
  rcases h.2 with ⟨rfl, hn⟩ | ⟨g, cap, cur, rfl, hb, hg, _⟩
  · exact ⟨none, 0, by rw [hn], ⟨hm, Or.inl (List.eq_nil_of_length_eq_zero hn)⟩, fun _ => ⟨hn, rfl⟩, fun b hb => absurd hn hb.1⟩
  · refine ⟨some ⟨g, 0, none⟩, cap, rfl, ⟨hm, Or.inr ⟨g, 0, rfl, numCells_of (h.cells rfl)⟩⟩, (fun e => nomatch e), fun b hb => ?_⟩
    obtain ⟨_, _, _, hb⟩ := hb
    cases hb
    rfl

def encP (x : MPart) : List Value := [.int .i64 x.piece, .int .i64 x.lo, .int .i64 x.hi]
def flatP (xs : List MPart) : List Value := xs.flatMap encP
theorem flatP_len (xs : List MPart) : (flatP xs).length = xs.length * 3 := flat_len encP 3 (fun _ => rfl) xs
theorem flatP_one (xs : List MPart) : ∀ u ∈ flatP xs, u.oneCell' = true := by
  intro u hu
  obtain ⟨x, _, hx⟩ := List.mem_flatMap.1 hu
  simp only [encP, List.mem_cons, List.not_mem_nil, or_false] at hx
  rcases hx with rfl | rfl | rfl <;> rfl
theorem flatP_snoc (xs : List MPart) (x : MPart) : flatP (xs ++ [x]) = flatP xs ++ encP x := by simp [flatP]
theorem partCells_of {w : World} {b off : Nat} {es : List MPart} (H : ∀ j u, (flatP es)[j]? = some u → w.cell? ((⟨b, off, none⟩ : Addr).add j) = some u) : PartCells w b off es := by
  intro i hi
  have h0 : (flatP es)[i * 3 + 0]? = some (.int .i64 es[i].piece) := (flat_get encP 3 (fun _ => rfl) es i 0 hi (by omega)).trans rfl
  have h1 : (flatP es)[i * 3 + 1]? = some (.int .i64 es[i].lo) := (flat_get encP 3 (fun _ => rfl) es i 1 hi (by omega)).trans rfl
  have h2 : (flatP es)[i * 3 + 2]? = some (.int .i64 es[i].hi) := (flat_get encP 3 (fun _ => rfl) es i 2 hi (by omega)).trans rfl
  exact ⟨by have := H _ _ h0; rw [addr_at] at this; simpa [Nat.add_assoc] using this, by have := H _ _ h1; rw [addr_at] at this; simpa [Nat.add_assoc] using this, by have := H _ _ h2; rw [addr_at] at this; simpa [Nat.add_assoc] using this⟩
theorem newsP {w : World} {a : Option Addr} {es : List MPart} (h : PartsAt w a es) : ∀ ad, a = some ad → ∀ j u, (flatP es)[j]? = some u → w.cell? (ad.add j) = some u := by
  intro ad had j u hu
  have hj : j < es.length * 3 := by
    have := (List.getElem?_eq_some_iff.1 hu).1
    rwa [flatP_len] at this
  obtain ⟨b, off, h3, hc⟩ := h.2.resolve_left (fun e => by rw [e] at hj; simp at hj)
  rw [had] at h3
  cases h3
  rw [addr_at]
  have hi : j / 3 < es.length := by omega
  have hr : j % 3 = 0 ∨ j % 3 = 1 ∨ j % 3 = 2 := by omega
  rcases hr with hr | hr | hr
  · have hg := flat_get encP 3 (fun _ => rfl) es (j / 3) 0 hi (by omega)
    rw [show j / 3 * 3 + 0 = j by omega] at hg
    rw [show (flatP es)[j]? = _ from hg] at hu
    have hc' := (hc (j / 3) hi).1
    cases hu
    have e : off + j / 3 * 3 = off + j := by omega
    rw [e] at hc'
    exact hc'
  · have hg := flat_get encP 3 (fun _ => rfl) es (j / 3) 1 hi (by omega)
    rw [show j / 3 * 3 + 1 = j by omega] at hg
    rw [show (flatP es)[j]? = _ from hg] at hu
    have hc' := (hc (j / 3) hi).2.1
    cases hu
    have e : off + j / 3 * 3 + 1 = off + j := by omega
    rw [e] at hc'
    exact hc'
  · have hg := flat_get encP 3 (fun _ => rfl) es (j / 3) 2 hi (by omega)
    rw [show j / 3 * 3 + 2 = j by omega] at hg
    rw [show (flatP es)[j]? = _ from hg] at hu
    have hc' := (hc (j / 3) hi).2.2
    cases hu
    have e : off + j / 3 * 3 + 2 = off + j := by omega
    rw [e] at hc'
    exact hc'
theorem ownP {w : World} {base t : Nat} {v : Value} {es : List MPart} (h : w.ownsRow base t 3 v es.length (flatP es)) (hm : es.length ≤ maxLen) :
    ∃ a cap, v = .slice a es.length cap ∧ PartsAt w a es ∧ (a = none → es.length = 0 ∧ cap = 0) ∧ ∀ b, BlkOf a es.length b → v.ownBlock = some b := by
  rcases h.2 with ⟨rfl, hn⟩ | ⟨g, cap, cur, rfl, hb, hg, _⟩
  · exact ⟨none, 0, by rw [hn], ⟨hm, Or.inl (List.eq_nil_of_length_eq_zero hn)⟩, fun _ => ⟨hn, rfl⟩, fun b hb => absurd hn hb.1⟩
  · refine ⟨some ⟨g, 0, none⟩, cap, rfl, ⟨hm, Or.inr ⟨g, 0, rfl, partCells_of (h.cells rfl)⟩⟩, (fun e => nomatch e), fun b hb => ?_⟩
    obtain ⟨_, _, _, hb⟩ := hb
    cases hb
    rfl

def encF (x : MFlank) : List Value := [.int .i64 x.place, .int .i64 x.kind, .int .i64 x.of, .int .i64 x.lie]
def flatF (xs : List MFlank) : List Value := xs.flatMap encF
theorem flatF_len (xs : List MFlank) : (flatF xs).length = xs.length * 4 := flat_len encF 4 (fun _ => rfl) xs
theorem flatF_one (xs : List MFlank) : ∀ u ∈ flatF xs, u.oneCell' = true := by
  intro u hu
  obtain ⟨x, _, hx⟩ := List.mem_flatMap.1 hu
  simp only [encF, List.mem_cons, List.not_mem_nil, or_false] at hx
  rcases hx with rfl | rfl | rfl | rfl <;> rfl
theorem flatF_snoc (xs : List MFlank) (x : MFlank) : flatF (xs ++ [x]) = flatF xs ++ encF x := by simp [flatF]
theorem flankCells_of {w : World} {b off : Nat} {es : List MFlank} (H : ∀ j u, (flatF es)[j]? = some u → w.cell? ((⟨b, off, none⟩ : Addr).add j) = some u) : FlankCells w b off es := by
  intro i hi
  have h0 : (flatF es)[i * 4 + 0]? = some (.int .i64 es[i].place) := (flat_get encF 4 (fun _ => rfl) es i 0 hi (by omega)).trans rfl
  have h1 : (flatF es)[i * 4 + 1]? = some (.int .i64 es[i].kind) := (flat_get encF 4 (fun _ => rfl) es i 1 hi (by omega)).trans rfl
  have h2 : (flatF es)[i * 4 + 2]? = some (.int .i64 es[i].of) := (flat_get encF 4 (fun _ => rfl) es i 2 hi (by omega)).trans rfl
  have h3 : (flatF es)[i * 4 + 3]? = some (.int .i64 es[i].lie) := (flat_get encF 4 (fun _ => rfl) es i 3 hi (by omega)).trans rfl
  exact ⟨by have := H _ _ h0; rw [addr_at] at this; simpa [Nat.add_assoc] using this, by have := H _ _ h1; rw [addr_at] at this; simpa [Nat.add_assoc] using this, by have := H _ _ h2; rw [addr_at] at this; simpa [Nat.add_assoc] using this, by have := H _ _ h3; rw [addr_at] at this; simpa [Nat.add_assoc] using this⟩
theorem newsF {w : World} {a : Option Addr} {es : List MFlank} (h : FlanksAt w a es) : ∀ ad, a = some ad → ∀ j u, (flatF es)[j]? = some u → w.cell? (ad.add j) = some u := by
  intro ad had j u hu
  have hj : j < es.length * 4 := by
    have := (List.getElem?_eq_some_iff.1 hu).1
    rwa [flatF_len] at this
  obtain ⟨b, off, h3, hc⟩ := h.2.resolve_left (fun e => by rw [e] at hj; simp at hj)
  rw [had] at h3
  cases h3
  rw [addr_at]
  have hi : j / 4 < es.length := by omega
  have hr : j % 4 = 0 ∨ j % 4 = 1 ∨ j % 4 = 2 ∨ j % 4 = 3 := by omega
  rcases hr with hr | hr | hr | hr
  · have hg := flat_get encF 4 (fun _ => rfl) es (j / 4) 0 hi (by omega)
    rw [show j / 4 * 4 + 0 = j by omega] at hg
    rw [show (flatF es)[j]? = _ from hg] at hu
    have hc' := (hc (j / 4) hi).1
    cases hu
    have e : off + j / 4 * 4 = off + j := by omega
    rw [e] at hc'
    exact hc'
  · have hg := flat_get encF 4 (fun _ => rfl) es (j / 4) 1 hi (by omega)
    rw [show j / 4 * 4 + 1 = j by omega] at hg
    rw [show (flatF es)[j]? = _ from hg] at hu
    have hc' := (hc (j / 4) hi).2.1
    cases hu
    have e : off + j / 4 * 4 + 1 = off + j := by omega
    rw [e] at hc'
    exact hc'
  · have hg := flat_get encF 4 (fun _ => rfl) es (j / 4) 2 hi (by omega)
    rw [show j / 4 * 4 + 2 = j by omega] at hg
    rw [show (flatF es)[j]? = _ from hg] at hu
    have hc' := (hc (j / 4) hi).2.2.1
    cases hu
    have e : off + j / 4 * 4 + 2 = off + j := by omega
    rw [e] at hc'
    exact hc'
  · have hg := flat_get encF 4 (fun _ => rfl) es (j / 4) 3 hi (by omega)
    rw [show j / 4 * 4 + 3 = j by omega] at hg
    rw [show (flatF es)[j]? = _ from hg] at hu
    have hc' := (hc (j / 4) hi).2.2.2
    cases hu
    have e : off + j / 4 * 4 + 3 = off + j := by omega
    rw [e] at hc'
    exact hc'
theorem ownF {w : World} {base t : Nat} {v : Value} {es : List MFlank} (h : w.ownsRow base t 4 v es.length (flatF es)) (hm : es.length ≤ maxLen) :
    ∃ a cap, v = .slice a es.length cap ∧ FlanksAt w a es ∧ (a = none → es.length = 0 ∧ cap = 0) ∧ ∀ b, BlkOf a es.length b → v.ownBlock = some b := by
  rcases h.2 with ⟨rfl, hn⟩ | ⟨g, cap, cur, rfl, hb, hg, _⟩
  · exact ⟨none, 0, by rw [hn], ⟨hm, Or.inl (List.eq_nil_of_length_eq_zero hn)⟩, fun _ => ⟨hn, rfl⟩, fun b hb => absurd hn hb.1⟩
  · refine ⟨some ⟨g, 0, none⟩, cap, rfl, ⟨hm, Or.inr ⟨g, 0, rfl, flankCells_of (h.cells rfl)⟩⟩, (fun e => nomatch e), fun b hb => ?_⟩
    obtain ⟨_, _, _, hb⟩ := hb
    cases hb
    rfl

end Go.Proofs.YtmkdgnmmebldgaaGreat

namespace Go.Proofs.YtmkdgnmmebldgaaGreat
open Go.RowKit Go.Deep

theorem Tryz.infoStep : (Tryz.prog.info? 100).map (fun i => (i.zero, i.size, i.bytes)) = some (some (.agg #[.int .i64 0, .int .i64 0]), 2, 16) := by kernel_rfl
theorem Tryz.infoLie : (Tryz.prog.info? 144).map (fun i => (i.zero, i.size, i.bytes)) = some (some (.agg #[.int .i64 0, .int .i64 0]), 2, 16) := by kernel_rfl
theorem Tryz.infoInt : (Tryz.prog.info? 3).map (fun i => (i.zero, i.size, i.bytes)) = some (some (.int .i64 0), 1, 8) := by kernel_rfl
theorem Tryz.infoPart : (Tryz.prog.info? 104).map (fun i => (i.zero, i.size, i.bytes)) = some (some (.agg #[.int .i64 0, .int .i64 0, .int .i64 0]), 3, 24) := by kernel_rfl
theorem Tryz.infoFlank : (Tryz.prog.info? 146).map (fun i => (i.zero, i.size, i.bytes)) = some (some (.agg #[.int .i64 0, .int .i64 0, .int .i64 0, .int .i64 0]), 4, 32) := by kernel_rfl
theorem Tryz.infoRoute : (Tryz.prog.info? 64).map (fun i => (i.zero, i.size, i.bytes)) = some (some (.agg #[.int .i64 0, .int .i64 0, .slice none 0 0, .slice none 0 0, .slice none 0 0, .slice none 0 0, .slice none 0 0, .slice none 0 0]), 8, 160) := by kernel_rfl

/-- Rows of two element types are two. -/
theorem owns_ne {w : World} {b b' e e' s s' n n' : Nat} {v v' : Value} {xs xs' : List Value} (he : e ≠ e') (h : w.ownsRow b e s v n xs) (h' : w.ownsRow b' e' s' v' n' xs') : v.ownBlock = none ∨ v.ownBlock ≠ v'.ownBlock := by
  rcases h.2 with ⟨rfl, _⟩ | ⟨g, cap, cur, rfl, _, hg, _⟩
  · exact Or.inl rfl
  · right
    rcases h'.2 with ⟨rfl, _⟩ | ⟨g', cap', cur', rfl, _, hg', _⟩
    · simp [Value.ownBlock]
    · simp only [Value.ownBlock, ne_eq, Option.some.injEq]
      intro e1
      subst e1
      rw [hg] at hg'
      simp only [Option.some.injEq, Obj.cells.injEq] at hg'
      exact he hg'.2.1

theorem owns_base {w : World} {B B' e s n : Nat} {v : Value} {xs : List Value} (h : w.ownsRow B e s v n xs) (hB : B' ≤ B) : w.ownsRow B' e s v n xs := by
  refine ⟨h.1, ?_⟩
  rcases h.2 with h2 | ⟨g, cap, cur, h1, h2, h3⟩
  · exact Or.inl h2
  · exact Or.inr ⟨g, cap, cur, h1, by omega, h3⟩
theorem owns_below {w w' : World} {B e s n : Nat} {v : Value} {xs : List Value} (h : w.ownsRow B e s v n xs) (hb : Below w.heap.size w w') : w'.ownsRow B e s v n xs := by
  refine ⟨h.1, ?_⟩
  rcases h.2 with h2 | ⟨g, cap, cur, h1, h2, h3, h4⟩
  · exact Or.inl h2
  · exact Or.inr ⟨g, cap, cur, h1, h2, (hb.block g (Array.getElem?_eq_some_iff.1 h3).1).trans h3, h4⟩
theorem owns_shape {w : World} {B e s n : Nat} {v : Value} {xs : List Value} (h : w.ownsRow B e s v n xs) : ∃ x y, v = .slice x n y ∧ (x = none → n = 0 ∧ y = 0) := by
  rcases h.2 with ⟨rfl, rfl⟩ | ⟨g, cap, cur, rfl, _⟩
  · exact ⟨none, 0, rfl, fun _ => ⟨rfl, rfl⟩⟩
  · exact ⟨_, _, rfl, fun e => by cases e⟩

/-- 'append([]T{}, xs...)': a new row of one's own with xs in it. -/
theorem wpList_copy {P : Program} {Wp : World} {ops : Array Oper} {rest : List Oper} {o : Oper} {a : Act} {Q : Exit → Act → World → Prop} (hgd : o.guard = none) (s x : Operand) (t : TypeId)
    (ho : o.op = .call { callee := .builtin .append, args := #[s, x], argTypes := #[t, t] })
    (e : TypeId) (z : Value) (size bytes : Nat) (ht : P.underlying t = some (.slice e)) (hi : (P.info? e).map (fun i => (i.zero, i.size, i.bytes)) = some (some z, size, bytes)) (hzs : z.cells.size = size) (hsz : 0 < size)
    (g : Nat) (hgs : g = Wp.heap.size) (hs : a.eval s = .slice (some ⟨g, 0, none⟩) 0 0)
    (av : Option Addr) (m c : Nat) (news : List Value) (hx : a.eval x = .slice av m c) (hav : av = none → m = 0 ∧ c = 0) (hl : news.length = m * size) (hnews : ∀ ad, av = some ad → ∀ j u, news[j]? = some u → Wp.cell? (ad.add j) = some u) (h1 : ∀ u ∈ news, u.oneCell' = true)
    (h63 : m ≤ maxLen) (hbytes : m * bytes ≤ 140737488355328)
    (h : ∀ x' y' w', w'.ownsRow Wp.heap.size e size (.slice x' m y') m news → Below Wp.heap.size Wp w' → wpList P ops Q rest (a.put o.dst (.slice x' m y')) w') : wpList P ops Q (o :: rest) a (Wp.alloc (.cells #[] e)) := by
  subst hgs
  refine wpList_append_list hgd s x t ho Wp.heap.size e z size bytes ht hi hzs hsz _ 0 [] hs (World.ownsRow_made Wp #[] 0 (Nat.le_refl _) (Nat.zero_le _) (by simp)) av m c news hx (fun h => (hav h).2) hl ?_ (fun h => (hav h).1) h1 (by rw [Nat.zero_add]; exact h63) (by rw [Nat.zero_add]; exact hbytes) (by simp) ?_
  · intro ad had j u hu
    have hc := hnews ad had j u hu
    exact (World.cell?_of_block (w := Wp) (Below.heap_alloc _ _ _ (cellLt hc))).trans hc
  · intro v' w' ho' hg'
    rw [Nat.zero_add, List.nil_append] at ho'
    obtain ⟨x', y', rfl, _⟩ := owns_shape ho'
    refine h x' y' w' ho' ⟨hg'.os, hg'.tape, hg'.output, Nat.le_trans (by simp) hg'.size, fun k hk => ?_⟩
    exact (hg'.block k (by simp; omega) (by simp only [Value.ownBlock, ne_eq, Option.some.injEq]; omega)).trans (Below.heap_alloc _ _ _ hk)

/-- 'append(v, x)' of one element onto a row of one's own. -/
theorem wpList_push {P : Program} {Wp : World} {ops : Array Oper} {rest : List Oper} {o : Oper} {a : Act} {Q : Exit → Act → World → Prop} (hgd : o.guard = none) (s x : Operand) (t : TypeId)
    (ho : o.op = .call { callee := .builtin .append, args := #[s, x], argTypes := #[t, t] })
    (B : Nat) (e : TypeId) (z : Value) (size bytes : Nat) (ht : P.underlying t = some (.slice e)) (hi : (P.info? e).map (fun i => (i.zero, i.size, i.bytes)) = some (some z, size, bytes)) (hzs : z.cells.size = size) (hsz : 0 < size)
    (v : Value) (n : Nat) (xs : List Value) (hs : a.eval s = v) (hown : Wp.ownsRow B e size v n xs)
    (g : Nat) (hgs : g = Wp.heap.size) (news : List Value) (hx : a.eval x = .slice (some ⟨g, 0, none⟩) 1 1) (hl : news.length = size) (h1 : ∀ u ∈ news, u.oneCell' = true)
    (h63 : n + 1 ≤ maxLen) (hbytes : (n + 1) * bytes ≤ 140737488355328) (hB : B ≤ Wp.heap.size)
    (h : ∀ x' y' w', w'.ownsRow B e size (.slice x' (n + 1) y') (n + 1) (xs ++ news) → Wp.grownBy w' v.ownBlock → wpList P ops Q rest (a.put o.dst (.slice x' (n + 1) y')) w') : wpList P ops Q (o :: rest) a (Wp.alloc (.cells news.toArray e)) := by
  subst hgs
  obtain ⟨i, hi1, hi2, hi3, hi4⟩ := info_parts hi
  refine wpList_append_own _ hgd s x t ho B e i z size bytes ht hi1 hi2 hi3 hi4 hzs hsz v n xs hs (hown.alloc _) ⟨Wp.heap.size, 0, none⟩ 1 1 news hx (by omega) ?_ h1 h63 hbytes (by simp; omega) ?_
  · intro j u hu
    rw [addr_at, Nat.zero_add]
    have := cell_of_row (Wp.alloc (.cells news.toArray e)) Wp.heap.size j news.toArray e (0, 0) (heap_alloc_new Wp _)
    rw [this]
    simpa using hu
  · intro v' w' ho' hg' _
    obtain ⟨x', y', rfl, _⟩ := owns_shape ho'
    refine h x' y' w' ho' ⟨hg'.os, hg'.tape, hg'.output, Nat.le_trans (by simp) hg'.size, fun k hk hne => ?_⟩
    exact (hg'.block k (by simp; omega) hne).trans (Below.heap_alloc _ _ _ hk)

theorem push_below {B e s n : Nat} {w0 Wp w' : World} {v : Value} {xs : List Value} (hb : Below B w0 Wp) (ho : Wp.ownsRow B e s v n xs) (hg : Wp.grownBy w' v.ownBlock) (hB : B ≤ Wp.heap.size) : Below B w0 w' :=
  hb.grown hg hB (fun k e => (ho.lt k e).1)

end Go.Proofs.YtmkdgnmmebldgaaGreat

namespace Go.Proofs.YtmkdgnmmebldgaaGreat
open Go.RowKit Go.Deep

/-- The first four lists of a route, in rows of one's own. -/
structure OwnR (w : World) (B : Nat) (v0 v1 v2 v3 : Value) (r : MRoute) : Prop where
  o0 : w.ownsRow B 100 2 v0 r.steps.length (flatE r.steps)
  o1 : w.ownsRow B 144 2 v1 r.lies.length (flatE r.lies)
  o2 : w.ownsRow B 3 1 v2 r.crosses.length (flatN r.crosses)
  o3 : w.ownsRow B 104 3 v3 r.parts.length (flatP r.parts)

structure ShortR (r : MRoute) : Prop where
  s0 : r.steps.length ≤ 1000
  s1 : r.lies.length ≤ 1000
  s2 : r.crosses.length ≤ 1000
  s3 : r.parts.length ≤ 1000

structure NilR (d : RAddr) (r : MRoute) : Prop where
  n0 : d.a0 = none → r.steps.length = 0 ∧ d.c0 = 0
  n1 : d.a1 = none → r.lies.length = 0 ∧ d.c1 = 0
  n2 : d.a2 = none → r.crosses.length = 0 ∧ d.c2 = 0
  n3 : d.a3 = none → r.parts.length = 0 ∧ d.c3 = 0

theorem row_of_alloc2 (w : World) (c : Array Value) (T : Nat) : (w.alloc (.cells c T)).rowIs w.heap.size T c.size (fun j => c.getD j (.bool false)) :=
  World.rowIs_alloc w c T _ (by intro k hk; simp [Array.getD, hk])
theorem routeCell_boxR (w : World) (d : RAddr) (r : MRoute) (T : Nat) : RouteCell (w.alloc (.cells #[.int .i64 r.start, .int .i64 r.stop, .slice d.a0 r.steps.length d.c0, .slice d.a1 r.lies.length d.c1, .slice d.a2 r.crosses.length d.c2, .slice d.a3 r.parts.length d.c3, .slice d.a4 r.over.length d.c4, .slice d.a5 r.flanks.length d.c5] T)) w.heap.size 0 d r := by
  constructor <;> simp [go_sem]

set_option maxRecDepth 4000 in
set_option maxHeartbeats 2000000 in
theorem l2copy_any (d : RAddr) (r : MRoute) (w : World) (hl : Hid (RListsAt w d r)) (hs : Hid (ShortR r)) (hn : Hid (NilR d r)) :
    Calls Tryz.prog 51 #[routeV d r] w fun e w' => ∃ v0 v1 v2 v3, e = .returned (.agg #[.int .i64 r.start, .int .i64 r.stop, v0, v1, v2, v3, .slice d.a4 r.over.length d.c4, .slice d.a5 r.flanks.length d.c5]) ∧ OwnR w' w.heap.size v0 v1 v2 v3 r ∧ Below w.heap.size w w' := by
  unfold routeV
  obtain ⟨W0, hW0⟩ : ∃ W0, ((w.alloc (.cells #[.int .i64 r.start, .int .i64 r.stop, .slice d.a0 r.steps.length d.c0, .slice d.a1 r.lies.length d.c1, .slice d.a2 r.crosses.length d.c2, .slice d.a3 r.parts.length d.c3, .slice d.a4 r.over.length d.c4, .slice d.a5 r.flanks.length d.c5] 64)).alloc (.cells #[.int .i64 0, .int .i64 0, .slice none 0 0, .slice none 0 0, .slice none 0 0, .slice none 0 0, .slice none 0 0, .slice none 0 0] 64)).alloc (.cells #[.int .i64 r.start, .int .i64 r.stop, .slice d.a0 r.steps.length d.c0, .slice d.a1 r.lies.length d.c1, .slice d.a2 r.crosses.length d.c2, .slice d.a3 r.parts.length d.c3, .slice d.a4 r.over.length d.c4, .slice d.a5 r.flanks.length d.c5] 64) = W0 := ⟨_, rfl⟩
  have HA0 : Hid (RouteCell W0 w.heap.size 0 d r) := by rw [← hW0]; exact ((routeCell_boxR w d r _).below ((Below.refl _ _).alloc (Nat.le_refl _) _)).below ((Below.refl _ _).alloc (Nat.le_refl _) _)
  have HY0 : Hid (W0.rowIs (w.heap.size + 1 + 1) 64 8 (fun j => (#[.int .i64 r.start, .int .i64 r.stop, .slice d.a0 r.steps.length d.c0, .slice d.a1 r.lies.length d.c1, .slice d.a2 r.crosses.length d.c2, .slice d.a3 r.parts.length d.c3, .slice d.a4 r.over.length d.c4, .slice d.a5 r.flanks.length d.c5] : Array Value).getD j (.bool false))) := by
    rw [← hW0]
    have h := row_of_alloc2 ((w.alloc (.cells #[.int .i64 r.start, .int .i64 r.stop, .slice d.a0 r.steps.length d.c0, .slice d.a1 r.lies.length d.c1, .slice d.a2 r.crosses.length d.c2, .slice d.a3 r.parts.length d.c3, .slice d.a4 r.over.length d.c4, .slice d.a5 r.flanks.length d.c5] 64)).alloc (.cells #[.int .i64 0, .int .i64 0, .slice none 0 0, .slice none 0 0, .slice none 0 0, .slice none 0 0, .slice none 0 0, .slice none 0 0] 64)) #[.int .i64 r.start, .int .i64 r.stop, .slice d.a0 r.steps.length d.c0, .slice d.a1 r.lies.length d.c1, .slice d.a2 r.crosses.length d.c2, .slice d.a3 r.parts.length d.c3, .slice d.a4 r.over.length d.c4, .slice d.a5 r.flanks.length d.c5] 64
    simp only [World.size_alloc] at h
    exact h
  have HZ0 : Hid (∃ f, W0.rowIs (w.heap.size + 1) 64 8 f) := by
    rw [← hW0]
    have h := (row_of_alloc2 (w.alloc (.cells #[.int .i64 r.start, .int .i64 r.stop, .slice d.a0 r.steps.length d.c0, .slice d.a1 r.lies.length d.c1, .slice d.a2 r.crosses.length d.c2, .slice d.a3 r.parts.length d.c3, .slice d.a4 r.over.length d.c4, .slice d.a5 r.flanks.length d.c5] 64)) #[.int .i64 0, .int .i64 0, .slice none 0 0, .slice none 0 0, .slice none 0 0, .slice none 0 0, .slice none 0 0, .slice none 0 0] 64).alloc (.cells #[.int .i64 r.start, .int .i64 r.stop, .slice d.a0 r.steps.length d.c0, .slice d.a1 r.lies.length d.c1, .slice d.a2 r.crosses.length d.c2, .slice d.a3 r.parts.length d.c3, .slice d.a4 r.over.length d.c4, .slice d.a5 r.flanks.length d.c5] 64)
    simp only [World.size_alloc] at h
    exact ⟨_, h⟩
  have hz0 : w.heap.size + 3 = W0.heap.size := by rw [← hW0]; simp
  have HZZ := hidP hz0
  have hz0' : w.heap.size + 3 ≤ W0.heap.size := by omega
  clear hz0
  have HB0 : Hid (Below w.heap.size w W0) := by rw [← hW0]; exact ((Below.refl _ _).alloc (Nat.le_refl _) _).alloc (by simp) _ |>.alloc (by simp; omega) _
  have hq0 : r.steps.length ≤ maxLen := by have := hs.out.s0; unfold maxLen; omega
  have hr0 : r.steps.length * 16 ≤ 140737488355328 := by have := hs.out.s0; omega
  have hq1 : r.lies.length ≤ maxLen := by have := hs.out.s1; unfold maxLen; omega
  have hr1 : r.lies.length * 16 ≤ 140737488355328 := by have := hs.out.s1; omega
  have hq2 : r.crosses.length ≤ maxLen := by have := hs.out.s2; unfold maxLen; omega
  have hr2 : r.crosses.length * 8 ≤ 140737488355328 := by have := hs.out.s2; omega
  have hq3 : r.parts.length ≤ maxLen := by have := hs.out.s3; unfold maxLen; omega
  have hr3 : r.parts.length * 24 ≤ 140737488355328 := by have := hs.out.s3; omega
  have HW0 := hidP hW0
  clear hW0
  go_enter Tryz.func51, Tryz.ntmps51
  go_wp2_with (first
    | (at_builtin; rw [HW0.out]; refine wpList_copy rfl (.tmp 5) (.tmp 7) 58 rfl 100 _ 2 16 Tryz.underlying58 Tryz.infoStep rfl (by decide) (w.heap.size + 1 + 1 + 1) ?_ rfl d.a0 r.steps.length d.c0 (flatE r.steps) rfl hn.out.n0 (flatE_len _) (newsE (hl.out.steps.below ?_)) (flatE_one _) hq0 hr0 ?_; (· (have := HZZ.out; omega)); (· exact HB0.out); intro x0 y0 w1 ho0 hb0; have HA1 := hidP (HA0.out.below hb0); have HY1 := hidP (HY0.out.of_block (hb0.block _ HY0.out.lt)); have HZ1 : Hid (∃ f, w1.rowIs (w.heap.size + 1) 64 8 f) := (by obtain ⟨f, h⟩ := HZ0.out; exact ⟨f, h.of_block (hb0.block _ h.lt)⟩); have HB1 := hidP (HB0.out.trans (hb0.mono HB0.out.size)); have HO0 := hidP (owns_base ho0 (show w.heap.size + 3 ≤ _ from (by first | omega | (simp; omega)))); have hs0 : w.heap.size + 3 ≤ w1.heap.size := (by have h1 := HZZ.out; have h2 := hb0.size; omega); have yy := HY1.out.cell (i := 2) (by omega); have ff := HY1.out.frozen 2; have za : w.heap.size < w1.heap.size := (by omega); have zb : w.heap.size + 1 + 1 < w1.heap.size := (by omega); clear hb0 ho0; have xx : w1.cell? ⟨w.heap.size, 3, none⟩ = some (.slice d.a1 r.lies.length d.c1) := HA1.out.k3)
    | (at_builtin; refine wpList_copy rfl (.tmp 10) (.tmp 12) 59 rfl 144 _ 2 16 Tryz.underlying59 Tryz.infoLie rfl (by decide) w1.heap.size ?_ rfl d.a1 r.lies.length d.c1 (flatE r.lies) rfl hn.out.n1 (flatE_len _) (newsE (hl.out.lies.below ?_)) (flatE_one _) hq1 hr1 ?_; (· simp); (· exact HB1.out.setCell (by simp; omega) _); intro x1 y1 w2 ho1 hb1; have HA2 := hidP ((HA1.out.kept (w' := (w1.setCell ⟨w.heap.size + 1 + 1, 2, none⟩ (.slice x0 r.steps.length y0))) (Below.heap_setCell _ _ _ _ (by simp only [ne_eq]; omega))).below hb1); have HY2 := hidP ((HY1.out.set 2 (.slice x0 r.steps.length y0)).of_block (hb1.block _ (by have := HY1.out.lt; simpa using this))); have HZ2 : Hid (∃ f, w2.rowIs (w.heap.size + 1) 64 8 f) := (by obtain ⟨f, h⟩ := HZ1.out; exact ⟨f, (h.setOther (a := ⟨w.heap.size + 1 + 1, 2, none⟩) (by simp only [ne_eq]; omega) _).of_block (hb1.block _ (by have := h.lt; simpa using this))⟩); have HB2 := hidP ((HB1.out.setCell (p := ⟨w.heap.size + 1 + 1, 2, none⟩) (by simp; omega) _).trans (hb1.mono (by have := HB1.out.size; simpa using this))); have HO1 := hidP (owns_base ho1 (show w.heap.size + 3 ≤ _ from (by first | omega | (simp; omega)))); have hs1 : w1.heap.size ≤ w2.heap.size := (by have := hb1.size; simpa using this); replace HO0 := hidP (owns_below (ownsRow_setCell_below HO0.out (a := ⟨w.heap.size + 1 + 1, 2, none⟩) (by simp only []; omega) (.slice x0 r.steps.length y0)) hb1); clear HA1 HY1 HZ1 HB1 yy ff xx za zb; have yy := HY2.out.cell (i := 3) (by omega); have ff := HY2.out.frozen 3; have za : w.heap.size < w2.heap.size := (by omega); have zb : w.heap.size + 1 + 1 < w2.heap.size := (by omega); clear hb1 ho1; have xx : w2.cell? ⟨w.heap.size, 4, none⟩ = some (.slice d.a2 r.crosses.length d.c2) := HA2.out.k4)
    | (at_builtin; refine wpList_copy rfl (.tmp 15) (.tmp 17) 60 rfl 3 _ 1 8 Tryz.underlying60 Tryz.infoInt rfl (by decide) w2.heap.size ?_ rfl d.a2 r.crosses.length d.c2 (flatN r.crosses) rfl hn.out.n2 (flatN_len _) (newsN (hl.out.crosses.below ?_)) (flatN_one _) hq2 hr2 ?_; (· simp); (· exact HB2.out.setCell (by simp; omega) _); intro x2 y2 w3 ho2 hb2; have HA3 := hidP ((HA2.out.kept (w' := (w2.setCell ⟨w.heap.size + 1 + 1, 3, none⟩ (.slice x1 r.lies.length y1))) (Below.heap_setCell _ _ _ _ (by simp only [ne_eq]; omega))).below hb2); have HY3 := hidP ((HY2.out.set 3 (.slice x1 r.lies.length y1)).of_block (hb2.block _ (by have := HY2.out.lt; simpa using this))); have HZ3 : Hid (∃ f, w3.rowIs (w.heap.size + 1) 64 8 f) := (by obtain ⟨f, h⟩ := HZ2.out; exact ⟨f, (h.setOther (a := ⟨w.heap.size + 1 + 1, 3, none⟩) (by simp only [ne_eq]; omega) _).of_block (hb2.block _ (by have := h.lt; simpa using this))⟩); have HB3 := hidP ((HB2.out.setCell (p := ⟨w.heap.size + 1 + 1, 3, none⟩) (by simp; omega) _).trans (hb2.mono (by have := HB2.out.size; simpa using this))); have HO2 := hidP (owns_base ho2 (show w.heap.size + 3 ≤ _ from (by first | omega | (simp; omega)))); have hs2 : w2.heap.size ≤ w3.heap.size := (by have := hb2.size; simpa using this); replace HO0 := hidP (owns_below (ownsRow_setCell_below HO0.out (a := ⟨w.heap.size + 1 + 1, 3, none⟩) (by simp only []; omega) (.slice x1 r.lies.length y1)) hb2); replace HO1 := hidP (owns_below (ownsRow_setCell_below HO1.out (a := ⟨w.heap.size + 1 + 1, 3, none⟩) (by simp only []; omega) (.slice x1 r.lies.length y1)) hb2); clear HA2 HY2 HZ2 HB2 yy ff xx za zb; have yy := HY3.out.cell (i := 4) (by omega); have ff := HY3.out.frozen 4; have za : w.heap.size < w3.heap.size := (by omega); have zb : w.heap.size + 1 + 1 < w3.heap.size := (by omega); clear hb2 ho2; have xx : w3.cell? ⟨w.heap.size, 5, none⟩ = some (.slice d.a3 r.parts.length d.c3) := HA3.out.k5)
    | (at_builtin; refine wpList_copy rfl (.tmp 20) (.tmp 22) 61 rfl 104 _ 3 24 Tryz.underlying61 Tryz.infoPart rfl (by decide) w3.heap.size ?_ rfl d.a3 r.parts.length d.c3 (flatP r.parts) rfl hn.out.n3 (flatP_len _) (newsP (hl.out.parts.below ?_)) (flatP_one _) hq3 hr3 ?_; (· simp); (· exact HB3.out.setCell (by simp; omega) _); intro x3 y3 w4 ho3 hb3; have HA4 := hidP ((HA3.out.kept (w' := (w3.setCell ⟨w.heap.size + 1 + 1, 4, none⟩ (.slice x2 r.crosses.length y2))) (Below.heap_setCell _ _ _ _ (by simp only [ne_eq]; omega))).below hb3); have HY4 := hidP ((HY3.out.set 4 (.slice x2 r.crosses.length y2)).of_block (hb3.block _ (by have := HY3.out.lt; simpa using this))); have HZ4 : Hid (∃ f, w4.rowIs (w.heap.size + 1) 64 8 f) := (by obtain ⟨f, h⟩ := HZ3.out; exact ⟨f, (h.setOther (a := ⟨w.heap.size + 1 + 1, 4, none⟩) (by simp only [ne_eq]; omega) _).of_block (hb3.block _ (by have := h.lt; simpa using this))⟩); have HB4 := hidP ((HB3.out.setCell (p := ⟨w.heap.size + 1 + 1, 4, none⟩) (by simp; omega) _).trans (hb3.mono (by have := HB3.out.size; simpa using this))); have HO3 := hidP (owns_base ho3 (show w.heap.size + 3 ≤ _ from (by first | omega | (simp; omega)))); have hs3 : w3.heap.size ≤ w4.heap.size := (by have := hb3.size; simpa using this); replace HO0 := hidP (owns_below (ownsRow_setCell_below HO0.out (a := ⟨w.heap.size + 1 + 1, 4, none⟩) (by simp only []; omega) (.slice x2 r.crosses.length y2)) hb3); replace HO1 := hidP (owns_below (ownsRow_setCell_below HO1.out (a := ⟨w.heap.size + 1 + 1, 4, none⟩) (by simp only []; omega) (.slice x2 r.crosses.length y2)) hb3); replace HO2 := hidP (owns_below (ownsRow_setCell_below HO2.out (a := ⟨w.heap.size + 1 + 1, 4, none⟩) (by simp only []; omega) (.slice x2 r.crosses.length y2)) hb3); clear HA3 HY3 HZ3 HB3 yy ff xx za zb; have yy := HY4.out.cell (i := 5) (by omega); have ff := HY4.out.frozen 5; have za : w.heap.size < w4.heap.size := (by omega); have zb : w.heap.size + 1 + 1 < w4.heap.size := (by omega); clear hb3 ho3; obtain ⟨fz, hfz⟩ := HZ4.out; have u0 : w4.cell? ⟨w.heap.size + 1 + 1, 0, none⟩ = some (.int .i64 r.start) := (HY4.out.cell (i := 0) (by omega)).trans (by simp); have u1 : w4.cell? ⟨w.heap.size + 1 + 1, 1, none⟩ = some (.int .i64 r.stop) := (HY4.out.cell (i := 1) (by omega)).trans (by simp); have u2 : w4.cell? ⟨w.heap.size + 1 + 1, 2, none⟩ = some (.slice x0 r.steps.length y0) := (HY4.out.cell (i := 2) (by omega)).trans (by simp); have u3 : w4.cell? ⟨w.heap.size + 1 + 1, 3, none⟩ = some (.slice x1 r.lies.length y1) := (HY4.out.cell (i := 3) (by omega)).trans (by simp); have u4 : w4.cell? ⟨w.heap.size + 1 + 1, 4, none⟩ = some (.slice x2 r.crosses.length y2) := (HY4.out.cell (i := 4) (by omega)).trans (by simp); have u6 : w4.cell? ⟨w.heap.size + 1 + 1, 6, none⟩ = some (.slice d.a4 r.over.length d.c4) := (HY4.out.cell (i := 6) (by omega)).trans (by simp); have u7 : w4.cell? ⟨w.heap.size + 1 + 1, 7, none⟩ = some (.slice d.a5 r.flanks.length d.c5) := (HY4.out.cell (i := 7) (by omega)).trans (by simp); have q0 := hfz.cell (i := 0) (by omega); have r0 := hfz.frozen 0; have q1 := hfz.cell (i := 1) (by omega); have r1 := hfz.frozen 1; have q2 := hfz.cell (i := 2) (by omega); have r2 := hfz.frozen 2; have q3 := hfz.cell (i := 3) (by omega); have r3 := hfz.frozen 3; have q4 := hfz.cell (i := 4) (by omega); have r4 := hfz.frozen 4; have q5 := hfz.cell (i := 5) (by omega); have r5 := hfz.frozen 5; have q6 := hfz.cell (i := 6) (by omega); have r6 := hfz.frozen 6; have q7 := hfz.cell (i := 7) (by omega); have r7 := hfz.frozen 7; have zc : w.heap.size + 1 < w4.heap.size := (by omega); clear hfz))
  refine bodyPost_ret (v := .agg #[.int .i64 r.start, .int .i64 r.stop, .slice x0 r.steps.length y0, .slice x1 r.lies.length y1, .slice x2 r.crosses.length y2, .slice x3 r.parts.length y3, .slice d.a4 r.over.length d.c4, .slice d.a5 r.flanks.length d.c5]) (by simp [results, Tryz.results51, go_sem, q0, q1, q2, q3, q4, q5, q6, q7]) rfl ⟨_, _, _, _, rfl, ⟨(owns_base (ownsRow_setCell_below (ownsRow_setCell_below (ownsRow_setCell_below (ownsRow_setCell_below (ownsRow_setCell_below (ownsRow_setCell_below (ownsRow_setCell_below (ownsRow_setCell_below (ownsRow_setCell_below HO0.out (by simp only []; omega) _) (by simp only []; omega) _) (by simp only []; omega) _) (by simp only []; omega) _) (by simp only []; omega) _) (by simp only []; omega) _) (by simp only []; omega) _) (by simp only []; omega) _) (by simp only []; omega) _) (by omega)), (owns_base (ownsRow_setCell_below (ownsRow_setCell_below (ownsRow_setCell_below (ownsRow_setCell_below (ownsRow_setCell_below (ownsRow_setCell_below (ownsRow_setCell_below (ownsRow_setCell_below (ownsRow_setCell_below HO1.out (by simp only []; omega) _) (by simp only []; omega) _) (by simp only []; omega) _) (by simp only []; omega) _) (by simp only []; omega) _) (by simp only []; omega) _) (by simp only []; omega) _) (by simp only []; omega) _) (by simp only []; omega) _) (by omega)), (owns_base (ownsRow_setCell_below (ownsRow_setCell_below (ownsRow_setCell_below (ownsRow_setCell_below (ownsRow_setCell_below (ownsRow_setCell_below (ownsRow_setCell_below (ownsRow_setCell_below (ownsRow_setCell_below HO2.out (by simp only []; omega) _) (by simp only []; omega) _) (by simp only []; omega) _) (by simp only []; omega) _) (by simp only []; omega) _) (by simp only []; omega) _) (by simp only []; omega) _) (by simp only []; omega) _) (by simp only []; omega) _) (by omega)), (owns_base (ownsRow_setCell_below (ownsRow_setCell_below (ownsRow_setCell_below (ownsRow_setCell_below (ownsRow_setCell_below (ownsRow_setCell_below (ownsRow_setCell_below (ownsRow_setCell_below (ownsRow_setCell_below HO3.out (by simp only []; omega) _) (by simp only []; omega) _) (by simp only []; omega) _) (by simp only []; omega) _) (by simp only []; omega) _) (by simp only []; omega) _) (by simp only []; omega) _) (by simp only []; omega) _) (by simp only []; omega) _) (by omega))⟩, (((((((((HB4.out.setCell (by simp only []; omega) _).setCell (by simp only []; omega) _).setCell (by simp only []; omega) _).setCell (by simp only []; omega) _).setCell (by simp only []; omega) _).setCell (by simp only []; omega) _).setCell (by simp only []; omega) _).setCell (by simp only []; omega) _).setCell (by simp only []; omega) _)⟩

end Go.Proofs.YtmkdgnmmebldgaaGreat
