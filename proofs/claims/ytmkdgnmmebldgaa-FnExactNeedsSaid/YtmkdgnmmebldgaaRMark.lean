import Derived.Test.YtmkdgnmmebldgaaREq
namespace Go.Proofs.Ytmkdgnmmebldgaa
open Go.RowKit Go.Deep

/-! Lists that are written over with numbers in their order, and read again. -/

/-- A list of n elements, of K cells each, in a row that may be written. -/
def OwnA (w : World) (T K : Nat) (a : Option Addr) (n : Nat) : Prop := n = 0 ∨ ∃ g N f, a = some ⟨g, 0, none⟩ ∧ w.rowIs g T N f ∧ n * K ≤ N
/-- It holds the numbers from k on. -/
def MarkA (w : World) (K : Nat) (a : Option Addr) (n : Nat) (k : Int) : Prop := n = 0 ∨ ∃ g, a = some ⟨g, 0, none⟩ ∧ ∀ j, j < n * K → w.cell? ⟨g, j, none⟩ = some (.int .i64 (k + j))
/-- The block of a list that is not empty. -/
def BlkOf (a : Option Addr) (n : Nat) (b : Nat) : Prop := n ≠ 0 ∧ ∃ o s, a = some ⟨b, o, s⟩

theorem OwnA.kept {w w' : World} {T K n : Nat} {a : Option Addr} (h : OwnA w T K a n) (hb : ∀ b, BlkOf a n b → w'.heap[b]? = w.heap[b]?) : OwnA w' T K a n := by
  rcases h with h | ⟨g, N, f, h1, h2, h3⟩
  · exact Or.inl h
  · by_cases e : n = 0
    · exact Or.inl e
    · exact Or.inr ⟨g, N, f, h1, h2.of_block (hb g ⟨e, 0, none, h1⟩), h3⟩
theorem MarkA.kept {w w' : World} {K n : Nat} {a : Option Addr} {k : Int} (h : MarkA w K a n k) (hb : ∀ b, BlkOf a n b → w'.heap[b]? = w.heap[b]?) : MarkA w' K a n k := by
  rcases h with h | ⟨g, h1, h2⟩
  · exact Or.inl h
  · by_cases e : n = 0
    · exact Or.inl e
    · exact Or.inr ⟨g, h1, fun j hj => (World.cell?_of_block (w := w) (hb g ⟨e, 0, none, h1⟩)).trans (h2 j hj)⟩
theorem grown_set {w wr : World} {g : Nat} (h : w.grownBy wr (some g)) (i : Nat) (v : Value) : w.grownBy (wr.setCell ⟨g, i, none⟩ v) (some g) :=
  ⟨h.os, h.tape, h.output, by have := h.size; simpa [World.setCell] using this, fun b hb hne => (Below.heap_setCell _ _ _ _ (fun e => hne (by rw [e]))).trans (h.block b hb hne)⟩

theorem OwnA.lt {w : World} {T K n : Nat} {a : Option Addr} (h : OwnA w T K a n) {b : Nat} (hb : BlkOf a n b) : b < w.heap.size := by
  obtain ⟨h0, o, s, h1⟩ := hb
  rcases h with h | ⟨g, N, f, h2, h3, _⟩
  · exact absurd h h0
  · rw [h2] at h1
    cases h1
    exact h3.lt

theorem markStep_next {k : Int} {m : Nat} {f : Nat → Value} (h : ∀ j : Nat, j < m * 2 → f j = .int .i64 (k + j)) :
    ∀ j : Nat, j < (m + 1) * 2 → (fun j : Nat => if j = m * 2 + 1 then .int .i64 (k + m * 2 + 1) else if j = m * 2 then .int .i64 (k + m * 2) else f j) j = .int .i64 (k + j) := by
  intro j hj
  dsimp only
  by_cases e1 : j = m * 2 + 1
  · rw [if_pos e1]; congr 1; omega
  rw [if_neg e1]
  by_cases e0 : j = m * 2
  · rw [if_pos e0]; congr 1; omega
  rw [if_neg e0]
  exact h j (by omega)

set_option maxHeartbeats 1000000 in
theorem markStepS_walk (g N n cap : Nat) (k : Int) (f0 : Nat → Value) (w : World) (hr : Hid (w.rowIs g 51 N f0)) (hn : n * 2 ≤ N) (hk : 0 ≤ k) (hkb : k + n * 2 ≤ 1152921504606846976) :
    Calls Try.prog 92 #[.slice (some ⟨g, 0, none⟩) n cap, .int .i64 k] w fun e w' => e = .returned (.int .i64 (k + n * 2)) ∧ (∃ f, w'.rowIs g 51 N f ∧ ∀ j : Nat, j < n * 2 → f j = .int .i64 (k + j)) ∧ w.grownBy w' (some g) := by
  have hg0 : w.grownBy w (some g) := ⟨rfl, rfl, rfl, Nat.le_refl _, fun _ _ _ => rfl⟩
  have HG0 := hidP hg0
  clear hg0
  go_enter Try.func92, Try.ntmps92
  go_wp2_with fail
  go_loopw [1, 5] (fun kk i wr => ∃ (m : Nat) (f : Nat → Value), m ≤ n ∧ i = .int .i64 m ∧ kk = .int .i64 (k + m * 2) ∧ Hid (wr.rowIs g 51 N f) ∧ Hid (∀ j : Nat, j < m * 2 → f j = .int .i64 (k + j)) ∧ Hid (w.grownBy wr (some g))) (fun _ i _ => n - (intOf i).toNat)
  case atStart => exact ⟨0, f0, Nat.zero_le _, rfl, by simp, hr, (fun j h => absurd h (by omega)), HG0⟩
  case round =>
    obtain ⟨m, f, hm, rfl, rfl, hrow, hf, hg⟩ := hrel
    clear hr HG0
    by_cases hm' : m < n
    · have HN := hidP (markStep_next hf.out)
      have d0 := hrow.out.cell (i := m * 2) (by omega)
      have e0 := hrow.out.frozen (m * 2)
      have d1 := hrow.out.cell (i := m * 2 + 1) (by omega)
      have e1 := hrow.out.frozen (m * 2 + 1)
      clear hf
      go_wp2_with fail
      go_roundw
      case rel => exact ⟨m + 1, _, by omega, by go_num, by go_num, ((hrow.out.set (m * 2) _).set (m * 2 + 1) _), HN, (grown_set (grown_set hg.out _ _) _ _)⟩
      case measure => simp [intOf]; omega
    · have hmm : m = n := by omega
      subst hmm
      go_wp2
      go_ret
      exact ⟨rfl, ⟨f, hrow.out, hf.out⟩, hg.out⟩

set_option maxHeartbeats 400000 in
theorem markStepS_nil (a : Option Addr) (cap : Nat) (k : Int) (w : World) :
    Calls Try.prog 92 #[.slice a 0 cap, .int .i64 k] w fun e w' => e = .returned (.int .i64 k) ∧ w' = w := by
  go_enter Try.func92, Try.ntmps92
  go_wp2_with fail
  go_loopw [1, 5] (fun l i wr => i = .int .i64 0 ∧ l = .int .i64 k ∧ wr = w) (fun _ _ _ => 0)
  case atStart => exact ⟨rfl, rfl, rfl⟩
  case round =>
    obtain ⟨rfl, rfl, rfl⟩ := hrel
    go_wp2
    go_ret
    exact ⟨rfl, rfl⟩

theorem markStepS_any (a : Option Addr) (n cap : Nat) (k : Int) (w : World) (ho : OwnA w 51 2 a n) (hk : 0 ≤ k) (hkb : k + n * 2 ≤ 1152921504606846976) :
    Calls Try.prog 92 #[.slice a n cap, .int .i64 k] w fun e w' => e = .returned (.int .i64 (k + n * 2)) ∧ MarkA w' 2 a n k ∧ OwnA w' 51 2 a n ∧ Only (BlkOf a n) w w' := by
  by_cases h0 : n = 0
  · subst h0
    refine (markStepS_nil a cap k w).mono ?_
    rintro e w' ⟨rfl, rfl⟩
    exact ⟨by simp, Or.inl rfl, Or.inl rfl, Only.refl _ _⟩
  · rcases ho with ho | ⟨g, N, f, rfl, h2, h3⟩
    · exact absurd ho h0
    · refine (markStepS_walk g N n cap k f w h2 (by omega) hk hkb).mono ?_
      rintro e w' ⟨rfl, ⟨f', h4, h5⟩, h6⟩
      exact ⟨rfl, Or.inr ⟨g, rfl, fun j hj => by rw [h4.cell (by omega), h5 j (by omega)]⟩, Or.inr ⟨g, N, f', rfl, h4, h3⟩, Only.of_grown h6 (fun b hb => ⟨h0, 0, none, by cases hb; rfl⟩)⟩

theorem markLie_next {k : Int} {m : Nat} {f : Nat → Value} (h : ∀ j : Nat, j < m * 2 → f j = .int .i64 (k + j)) :
    ∀ j : Nat, j < (m + 1) * 2 → (fun j : Nat => if j = m * 2 + 1 then .int .i64 (k + m * 2 + 1) else if j = m * 2 then .int .i64 (k + m * 2) else f j) j = .int .i64 (k + j) := by
  intro j hj
  dsimp only
  by_cases e1 : j = m * 2 + 1
  · rw [if_pos e1]; congr 1; omega
  rw [if_neg e1]
  by_cases e0 : j = m * 2
  · rw [if_pos e0]; congr 1; omega
  rw [if_neg e0]
  exact h j (by omega)

set_option maxHeartbeats 1000000 in
theorem markLieS_walk (g N n cap : Nat) (k : Int) (f0 : Nat → Value) (w : World) (hr : Hid (w.rowIs g 48 N f0)) (hn : n * 2 ≤ N) (hk : 0 ≤ k) (hkb : k + n * 2 ≤ 1152921504606846976) :
    Calls Try.prog 36 #[.slice (some ⟨g, 0, none⟩) n cap, .int .i64 k] w fun e w' => e = .returned (.int .i64 (k + n * 2)) ∧ (∃ f, w'.rowIs g 48 N f ∧ ∀ j : Nat, j < n * 2 → f j = .int .i64 (k + j)) ∧ w.grownBy w' (some g) := by
  have hg0 : w.grownBy w (some g) := ⟨rfl, rfl, rfl, Nat.le_refl _, fun _ _ _ => rfl⟩
  have HG0 := hidP hg0
  clear hg0
  go_enter Try.func36, Try.ntmps36
  go_wp2_with fail
  go_loopw [1, 5] (fun kk i wr => ∃ (m : Nat) (f : Nat → Value), m ≤ n ∧ i = .int .i64 m ∧ kk = .int .i64 (k + m * 2) ∧ Hid (wr.rowIs g 48 N f) ∧ Hid (∀ j : Nat, j < m * 2 → f j = .int .i64 (k + j)) ∧ Hid (w.grownBy wr (some g))) (fun _ i _ => n - (intOf i).toNat)
  case atStart => exact ⟨0, f0, Nat.zero_le _, rfl, by simp, hr, (fun j h => absurd h (by omega)), HG0⟩
  case round =>
    obtain ⟨m, f, hm, rfl, rfl, hrow, hf, hg⟩ := hrel
    clear hr HG0
    by_cases hm' : m < n
    · have HN := hidP (markLie_next hf.out)
      have d0 := hrow.out.cell (i := m * 2) (by omega)
      have e0 := hrow.out.frozen (m * 2)
      have d1 := hrow.out.cell (i := m * 2 + 1) (by omega)
      have e1 := hrow.out.frozen (m * 2 + 1)
      clear hf
      go_wp2_with fail
      go_roundw
      case rel => exact ⟨m + 1, _, by omega, by go_num, by go_num, ((hrow.out.set (m * 2) _).set (m * 2 + 1) _), HN, (grown_set (grown_set hg.out _ _) _ _)⟩
      case measure => simp [intOf]; omega
    · have hmm : m = n := by omega
      subst hmm
      go_wp2
      go_ret
      exact ⟨rfl, ⟨f, hrow.out, hf.out⟩, hg.out⟩

set_option maxHeartbeats 400000 in
theorem markLieS_nil (a : Option Addr) (cap : Nat) (k : Int) (w : World) :
    Calls Try.prog 36 #[.slice a 0 cap, .int .i64 k] w fun e w' => e = .returned (.int .i64 k) ∧ w' = w := by
  go_enter Try.func36, Try.ntmps36
  go_wp2_with fail
  go_loopw [1, 5] (fun l i wr => i = .int .i64 0 ∧ l = .int .i64 k ∧ wr = w) (fun _ _ _ => 0)
  case atStart => exact ⟨rfl, rfl, rfl⟩
  case round =>
    obtain ⟨rfl, rfl, rfl⟩ := hrel
    go_wp2
    go_ret
    exact ⟨rfl, rfl⟩

theorem markLieS_any (a : Option Addr) (n cap : Nat) (k : Int) (w : World) (ho : OwnA w 48 2 a n) (hk : 0 ≤ k) (hkb : k + n * 2 ≤ 1152921504606846976) :
    Calls Try.prog 36 #[.slice a n cap, .int .i64 k] w fun e w' => e = .returned (.int .i64 (k + n * 2)) ∧ MarkA w' 2 a n k ∧ OwnA w' 48 2 a n ∧ Only (BlkOf a n) w w' := by
  by_cases h0 : n = 0
  · subst h0
    refine (markLieS_nil a cap k w).mono ?_
    rintro e w' ⟨rfl, rfl⟩
    exact ⟨by simp, Or.inl rfl, Or.inl rfl, Only.refl _ _⟩
  · rcases ho with ho | ⟨g, N, f, rfl, h2, h3⟩
    · exact absurd ho h0
    · refine (markLieS_walk g N n cap k f w h2 (by omega) hk hkb).mono ?_
      rintro e w' ⟨rfl, ⟨f', h4, h5⟩, h6⟩
      exact ⟨rfl, Or.inr ⟨g, rfl, fun j hj => by rw [h4.cell (by omega), h5 j (by omega)]⟩, Or.inr ⟨g, N, f', rfl, h4, h3⟩, Only.of_grown h6 (fun b hb => ⟨h0, 0, none, by cases hb; rfl⟩)⟩

set_option maxHeartbeats 1000000 in
theorem heldLieS_walk (g n cap : Nat) (k : Int) (w : World) (hc : Hid (∀ j : Nat, j < n * 2 → w.cell? ⟨g, j, none⟩ = some (.int .i64 (k + j)))) (hk : 0 ≤ k) (hkb : k + n * 2 ≤ 1152921504606846976) :
    Calls Try.prog 37 #[.slice (some ⟨g, 0, none⟩) n cap, .int .i64 k] w fun e w' => e = .returned (.int .i64 (k + n * 2)) ∧ Below w.heap.size w w' := by
  go_enter Try.func37, Try.ntmps37
  go_wp2_with fail
  go_loopw [1, 5] (fun kk i wr => ∃ (m : Nat), m ≤ n ∧ i = .int .i64 m ∧ kk = .int .i64 (k + m * 2) ∧ Below w.heap.size w wr) (fun _ i _ => n - (intOf i).toNat)
  case atStart => exact ⟨0, Nat.zero_le _, rfl, by simp, Below.refl _ _⟩
  case round =>
    obtain ⟨m, hm, rfl, rfl, hbw⟩ := hrel
    by_cases hm' : m < n
    · have hgw : g < w.heap.size := cellLt (hc.out 0 (by omega))
      have d0 : wr.cell? ⟨g, m * 2, none⟩ = some (.int .i64 (k + m * 2)) := by have := (cell_later hbw (hc.out (m * 2) (by omega))); rw [this]; first | done | (congr 2; done) | (congr 2; omega)
      have d1 : wr.cell? ⟨g, m * 2 + 1, none⟩ = some (.int .i64 (k + m * 2 + 1)) := by have := (cell_later hbw (hc.out (m * 2 + 1) (by omega))); rw [this]; first | done | (congr 2; done) | (congr 2; omega)
      go_wp2_with fail
      go_roundw
      case rel => exact ⟨m + 1, by omega, by go_num, by go_num, hbw⟩
      case measure => simp [intOf]; omega
    · have hmm : m = n := by omega
      subst hmm
      go_wp2
      go_ret
      exact ⟨rfl, hbw⟩

set_option maxHeartbeats 400000 in
theorem heldLieS_nil (a : Option Addr) (cap : Nat) (k : Int) (w : World) :
    Calls Try.prog 37 #[.slice a 0 cap, .int .i64 k] w fun e w' => e = .returned (.int .i64 k) ∧ w' = w := by
  go_enter Try.func37, Try.ntmps37
  go_wp2_with fail
  go_loopw [1, 5] (fun l i wr => i = .int .i64 0 ∧ l = .int .i64 k ∧ wr = w) (fun _ _ _ => 0)
  case atStart => exact ⟨rfl, rfl, rfl⟩
  case round =>
    obtain ⟨rfl, rfl, rfl⟩ := hrel
    go_wp2
    go_ret
    exact ⟨rfl, rfl⟩

theorem heldLieS_any (a : Option Addr) (n cap : Nat) (k : Int) (w : World) (ho : MarkA w 2 a n k) (hk : 0 ≤ k) (hkb : k + n * 2 ≤ 1152921504606846976) :
    Calls Try.prog 37 #[.slice a n cap, .int .i64 k] w fun e w' => e = .returned (.int .i64 (k + n * 2)) ∧ Below w.heap.size w w' := by
  by_cases h0 : n = 0
  · subst h0
    refine (heldLieS_nil a cap k w).mono ?_
    rintro e w' ⟨rfl, rfl⟩
    exact ⟨by simp, Below.refl _ _⟩
  · rcases ho with ho | ⟨g, rfl, h2⟩
    · exact absurd ho h0
    · exact heldLieS_walk g n cap k w (fun j hj => h2 j (by omega)) hk hkb

theorem markInt_next {k : Int} {m : Nat} {f : Nat → Value} (h : ∀ j : Nat, j < m → f j = .int .i64 (k + j)) :
    ∀ j : Nat, j < (m + 1) → (fun j : Nat => if j = m then .int .i64 (k + m) else f j) j = .int .i64 (k + j) := by
  intro j hj
  dsimp only
  by_cases e0 : j = m
  · rw [if_pos e0]; congr 1; omega
  rw [if_neg e0]
  exact h j (by omega)

set_option maxHeartbeats 1000000 in
theorem markIntS_walk (g N n cap : Nat) (k : Int) (f0 : Nat → Value) (w : World) (hr : Hid (w.rowIs g 3 N f0)) (hn : n ≤ N) (hk : 0 ≤ k) (hkb : k + n ≤ 1152921504606846976) :
    Calls Try.prog 93 #[.slice (some ⟨g, 0, none⟩) n cap, .int .i64 k] w fun e w' => e = .returned (.int .i64 (k + n)) ∧ (∃ f, w'.rowIs g 3 N f ∧ ∀ j : Nat, j < n → f j = .int .i64 (k + j)) ∧ w.grownBy w' (some g) := by
  have hg0 : w.grownBy w (some g) := ⟨rfl, rfl, rfl, Nat.le_refl _, fun _ _ _ => rfl⟩
  have HG0 := hidP hg0
  clear hg0
  go_enter Try.func93, Try.ntmps93
  go_wp2_with fail
  go_loopw [1, 5] (fun kk i wr => ∃ (m : Nat) (f : Nat → Value), m ≤ n ∧ i = .int .i64 m ∧ kk = .int .i64 (k + m) ∧ Hid (wr.rowIs g 3 N f) ∧ Hid (∀ j : Nat, j < m → f j = .int .i64 (k + j)) ∧ Hid (w.grownBy wr (some g))) (fun _ i _ => n - (intOf i).toNat)
  case atStart => exact ⟨0, f0, Nat.zero_le _, rfl, by simp, hr, (fun j h => absurd h (by omega)), HG0⟩
  case round =>
    obtain ⟨m, f, hm, rfl, rfl, hrow, hf, hg⟩ := hrel
    clear hr HG0
    by_cases hm' : m < n
    · have HN := hidP (markInt_next hf.out)
      have d0 := hrow.out.cell (i := m) (by omega)
      have e0 := hrow.out.frozen (m)
      clear hf
      go_wp2_with fail
      go_roundw
      case rel => exact ⟨m + 1, _, by omega, by go_num, by go_num, (hrow.out.set (m) _), HN, (grown_set hg.out _ _)⟩
      case measure => simp [intOf]; omega
    · have hmm : m = n := by omega
      subst hmm
      go_wp2
      go_ret
      exact ⟨rfl, ⟨f, hrow.out, hf.out⟩, hg.out⟩

set_option maxHeartbeats 400000 in
theorem markIntS_nil (a : Option Addr) (cap : Nat) (k : Int) (w : World) :
    Calls Try.prog 93 #[.slice a 0 cap, .int .i64 k] w fun e w' => e = .returned (.int .i64 k) ∧ w' = w := by
  go_enter Try.func93, Try.ntmps93
  go_wp2_with fail
  go_loopw [1, 5] (fun l i wr => i = .int .i64 0 ∧ l = .int .i64 k ∧ wr = w) (fun _ _ _ => 0)
  case atStart => exact ⟨rfl, rfl, rfl⟩
  case round =>
    obtain ⟨rfl, rfl, rfl⟩ := hrel
    go_wp2
    go_ret
    exact ⟨rfl, rfl⟩

theorem markIntS_any (a : Option Addr) (n cap : Nat) (k : Int) (w : World) (ho : OwnA w 3 1 a n) (hk : 0 ≤ k) (hkb : k + n ≤ 1152921504606846976) :
    Calls Try.prog 93 #[.slice a n cap, .int .i64 k] w fun e w' => e = .returned (.int .i64 (k + n)) ∧ MarkA w' 1 a n k ∧ OwnA w' 3 1 a n ∧ Only (BlkOf a n) w w' := by
  by_cases h0 : n = 0
  · subst h0
    refine (markIntS_nil a cap k w).mono ?_
    rintro e w' ⟨rfl, rfl⟩
    exact ⟨by simp, Or.inl rfl, Or.inl rfl, Only.refl _ _⟩
  · rcases ho with ho | ⟨g, N, f, rfl, h2, h3⟩
    · exact absurd ho h0
    · refine (markIntS_walk g N n cap k f w h2 (by omega) hk hkb).mono ?_
      rintro e w' ⟨rfl, ⟨f', h4, h5⟩, h6⟩
      exact ⟨rfl, Or.inr ⟨g, rfl, fun j hj => by rw [h4.cell (by omega), h5 j (by omega)]⟩, Or.inr ⟨g, N, f', rfl, h4, h3⟩, Only.of_grown h6 (fun b hb => ⟨h0, 0, none, by cases hb; rfl⟩)⟩

theorem markPart_next {k : Int} {m : Nat} {f : Nat → Value} (h : ∀ j : Nat, j < m * 3 → f j = .int .i64 (k + j)) :
    ∀ j : Nat, j < (m + 1) * 3 → (fun j : Nat => if j = m * 3 + 2 then .int .i64 (k + m * 3 + 1 + 1) else if j = m * 3 + 1 then .int .i64 (k + m * 3 + 1) else if j = m * 3 then .int .i64 (k + m * 3) else f j) j = .int .i64 (k + j) := by
  intro j hj
  dsimp only
  by_cases e2 : j = m * 3 + 2
  · rw [if_pos e2]; congr 1; omega
  rw [if_neg e2]
  by_cases e1 : j = m * 3 + 1
  · rw [if_pos e1]; congr 1; omega
  rw [if_neg e1]
  by_cases e0 : j = m * 3
  · rw [if_pos e0]; congr 1; omega
  rw [if_neg e0]
  exact h j (by omega)

set_option maxHeartbeats 1000000 in
theorem markPartS_walk (g N n cap : Nat) (k : Int) (f0 : Nat → Value) (w : World) (hr : Hid (w.rowIs g 44 N f0)) (hn : n * 3 ≤ N) (hk : 0 ≤ k) (hkb : k + n * 3 ≤ 1152921504606846976) :
    Calls Try.prog 94 #[.slice (some ⟨g, 0, none⟩) n cap, .int .i64 k] w fun e w' => e = .returned (.int .i64 (k + n * 3)) ∧ (∃ f, w'.rowIs g 44 N f ∧ ∀ j : Nat, j < n * 3 → f j = .int .i64 (k + j)) ∧ w.grownBy w' (some g) := by
  have hg0 : w.grownBy w (some g) := ⟨rfl, rfl, rfl, Nat.le_refl _, fun _ _ _ => rfl⟩
  have HG0 := hidP hg0
  clear hg0
  go_enter Try.func94, Try.ntmps94
  go_wp2_with fail
  go_loopw [1, 5] (fun kk i wr => ∃ (m : Nat) (f : Nat → Value), m ≤ n ∧ i = .int .i64 m ∧ kk = .int .i64 (k + m * 3) ∧ Hid (wr.rowIs g 44 N f) ∧ Hid (∀ j : Nat, j < m * 3 → f j = .int .i64 (k + j)) ∧ Hid (w.grownBy wr (some g))) (fun _ i _ => n - (intOf i).toNat)
  case atStart => exact ⟨0, f0, Nat.zero_le _, rfl, by simp, hr, (fun j h => absurd h (by omega)), HG0⟩
  case round =>
    obtain ⟨m, f, hm, rfl, rfl, hrow, hf, hg⟩ := hrel
    clear hr HG0
    by_cases hm' : m < n
    · have HN := hidP (markPart_next hf.out)
      have d0 := hrow.out.cell (i := m * 3) (by omega)
      have e0 := hrow.out.frozen (m * 3)
      have d1 := hrow.out.cell (i := m * 3 + 1) (by omega)
      have e1 := hrow.out.frozen (m * 3 + 1)
      have d2 := hrow.out.cell (i := m * 3 + 2) (by omega)
      have e2 := hrow.out.frozen (m * 3 + 2)
      clear hf
      go_wp2_with fail
      go_roundw
      case rel => exact ⟨m + 1, _, by omega, by go_num, by go_num, (((hrow.out.set (m * 3) _).set (m * 3 + 1) _).set (m * 3 + 2) _), HN, (grown_set (grown_set (grown_set hg.out _ _) _ _) _ _)⟩
      case measure => simp [intOf]; omega
    · have hmm : m = n := by omega
      subst hmm
      go_wp2
      go_ret
      exact ⟨rfl, ⟨f, hrow.out, hf.out⟩, hg.out⟩

set_option maxHeartbeats 400000 in
theorem markPartS_nil (a : Option Addr) (cap : Nat) (k : Int) (w : World) :
    Calls Try.prog 94 #[.slice a 0 cap, .int .i64 k] w fun e w' => e = .returned (.int .i64 k) ∧ w' = w := by
  go_enter Try.func94, Try.ntmps94
  go_wp2_with fail
  go_loopw [1, 5] (fun l i wr => i = .int .i64 0 ∧ l = .int .i64 k ∧ wr = w) (fun _ _ _ => 0)
  case atStart => exact ⟨rfl, rfl, rfl⟩
  case round =>
    obtain ⟨rfl, rfl, rfl⟩ := hrel
    go_wp2
    go_ret
    exact ⟨rfl, rfl⟩

theorem markPartS_any (a : Option Addr) (n cap : Nat) (k : Int) (w : World) (ho : OwnA w 44 3 a n) (hk : 0 ≤ k) (hkb : k + n * 3 ≤ 1152921504606846976) :
    Calls Try.prog 94 #[.slice a n cap, .int .i64 k] w fun e w' => e = .returned (.int .i64 (k + n * 3)) ∧ MarkA w' 3 a n k ∧ OwnA w' 44 3 a n ∧ Only (BlkOf a n) w w' := by
  by_cases h0 : n = 0
  · subst h0
    refine (markPartS_nil a cap k w).mono ?_
    rintro e w' ⟨rfl, rfl⟩
    exact ⟨by simp, Or.inl rfl, Or.inl rfl, Only.refl _ _⟩
  · rcases ho with ho | ⟨g, N, f, rfl, h2, h3⟩
    · exact absurd ho h0
    · refine (markPartS_walk g N n cap k f w h2 (by omega) hk hkb).mono ?_
      rintro e w' ⟨rfl, ⟨f', h4, h5⟩, h6⟩
      exact ⟨rfl, Or.inr ⟨g, rfl, fun j hj => by rw [h4.cell (by omega), h5 j (by omega)]⟩, Or.inr ⟨g, N, f', rfl, h4, h3⟩, Only.of_grown h6 (fun b hb => ⟨h0, 0, none, by cases hb; rfl⟩)⟩

theorem markFlank_next {k : Int} {m : Nat} {f : Nat → Value} (h : ∀ j : Nat, j < m * 4 → f j = .int .i64 (k + j)) :
    ∀ j : Nat, j < (m + 1) * 4 → (fun j : Nat => if j = m * 4 + 3 then .int .i64 (k + m * 4 + 1 + 1 + 1) else if j = m * 4 + 2 then .int .i64 (k + m * 4 + 1 + 1) else if j = m * 4 + 1 then .int .i64 (k + m * 4 + 1) else if j = m * 4 then .int .i64 (k + m * 4) else f j) j = .int .i64 (k + j) := by
  intro j hj
  dsimp only
  by_cases e3 : j = m * 4 + 3
  · rw [if_pos e3]; congr 1; omega
  rw [if_neg e3]
  by_cases e2 : j = m * 4 + 2
  · rw [if_pos e2]; congr 1; omega
  rw [if_neg e2]
  by_cases e1 : j = m * 4 + 1
  · rw [if_pos e1]; congr 1; omega
  rw [if_neg e1]
  by_cases e0 : j = m * 4
  · rw [if_pos e0]; congr 1; omega
  rw [if_neg e0]
  exact h j (by omega)

set_option maxHeartbeats 1000000 in
theorem markFlankS_walk (g N n cap : Nat) (k : Int) (f0 : Nat → Value) (w : World) (hr : Hid (w.rowIs g 57 N f0)) (hn : n * 4 ≤ N) (hk : 0 ≤ k) (hkb : k + n * 4 ≤ 1152921504606846976) :
    Calls Try.prog 95 #[.slice (some ⟨g, 0, none⟩) n cap, .int .i64 k] w fun e w' => e = .returned (.int .i64 (k + n * 4)) ∧ (∃ f, w'.rowIs g 57 N f ∧ ∀ j : Nat, j < n * 4 → f j = .int .i64 (k + j)) ∧ w.grownBy w' (some g) := by
  have hg0 : w.grownBy w (some g) := ⟨rfl, rfl, rfl, Nat.le_refl _, fun _ _ _ => rfl⟩
  have HG0 := hidP hg0
  clear hg0
  go_enter Try.func95, Try.ntmps95
  go_wp2_with fail
  go_loopw [1, 5] (fun kk i wr => ∃ (m : Nat) (f : Nat → Value), m ≤ n ∧ i = .int .i64 m ∧ kk = .int .i64 (k + m * 4) ∧ Hid (wr.rowIs g 57 N f) ∧ Hid (∀ j : Nat, j < m * 4 → f j = .int .i64 (k + j)) ∧ Hid (w.grownBy wr (some g))) (fun _ i _ => n - (intOf i).toNat)
  case atStart => exact ⟨0, f0, Nat.zero_le _, rfl, by simp, hr, (fun j h => absurd h (by omega)), HG0⟩
  case round =>
    obtain ⟨m, f, hm, rfl, rfl, hrow, hf, hg⟩ := hrel
    clear hr HG0
    by_cases hm' : m < n
    · have HN := hidP (markFlank_next hf.out)
      have d0 := hrow.out.cell (i := m * 4) (by omega)
      have e0 := hrow.out.frozen (m * 4)
      have d1 := hrow.out.cell (i := m * 4 + 1) (by omega)
      have e1 := hrow.out.frozen (m * 4 + 1)
      have d2 := hrow.out.cell (i := m * 4 + 2) (by omega)
      have e2 := hrow.out.frozen (m * 4 + 2)
      have d3 := hrow.out.cell (i := m * 4 + 3) (by omega)
      have e3 := hrow.out.frozen (m * 4 + 3)
      clear hf
      go_wp2_with fail
      go_roundw
      case rel => exact ⟨m + 1, _, by omega, by go_num, by go_num, ((((hrow.out.set (m * 4) _).set (m * 4 + 1) _).set (m * 4 + 2) _).set (m * 4 + 3) _), HN, (grown_set (grown_set (grown_set (grown_set hg.out _ _) _ _) _ _) _ _)⟩
      case measure => simp [intOf]; omega
    · have hmm : m = n := by omega
      subst hmm
      go_wp2
      go_ret
      exact ⟨rfl, ⟨f, hrow.out, hf.out⟩, hg.out⟩

set_option maxHeartbeats 400000 in
theorem markFlankS_nil (a : Option Addr) (cap : Nat) (k : Int) (w : World) :
    Calls Try.prog 95 #[.slice a 0 cap, .int .i64 k] w fun e w' => e = .returned (.int .i64 k) ∧ w' = w := by
  go_enter Try.func95, Try.ntmps95
  go_wp2_with fail
  go_loopw [1, 5] (fun l i wr => i = .int .i64 0 ∧ l = .int .i64 k ∧ wr = w) (fun _ _ _ => 0)
  case atStart => exact ⟨rfl, rfl, rfl⟩
  case round =>
    obtain ⟨rfl, rfl, rfl⟩ := hrel
    go_wp2
    go_ret
    exact ⟨rfl, rfl⟩

theorem markFlankS_any (a : Option Addr) (n cap : Nat) (k : Int) (w : World) (ho : OwnA w 57 4 a n) (hk : 0 ≤ k) (hkb : k + n * 4 ≤ 1152921504606846976) :
    Calls Try.prog 95 #[.slice a n cap, .int .i64 k] w fun e w' => e = .returned (.int .i64 (k + n * 4)) ∧ MarkA w' 4 a n k ∧ OwnA w' 57 4 a n ∧ Only (BlkOf a n) w w' := by
  by_cases h0 : n = 0
  · subst h0
    refine (markFlankS_nil a cap k w).mono ?_
    rintro e w' ⟨rfl, rfl⟩
    exact ⟨by simp, Or.inl rfl, Or.inl rfl, Only.refl _ _⟩
  · rcases ho with ho | ⟨g, N, f, rfl, h2, h3⟩
    · exact absurd ho h0
    · refine (markFlankS_walk g N n cap k f w h2 (by omega) hk hkb).mono ?_
      rintro e w' ⟨rfl, ⟨f', h4, h5⟩, h6⟩
      exact ⟨rfl, Or.inr ⟨g, rfl, fun j hj => by rw [h4.cell (by omega), h5 j (by omega)]⟩, Or.inr ⟨g, N, f', rfl, h4, h3⟩, Only.of_grown h6 (fun b hb => ⟨h0, 0, none, by cases hb; rfl⟩)⟩

end Go.Proofs.Ytmkdgnmmebldgaa
