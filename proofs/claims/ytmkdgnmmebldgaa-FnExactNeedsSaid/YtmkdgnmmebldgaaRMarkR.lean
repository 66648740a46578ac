import Derived.Test.YtmkdgnmmebldgaaRMark
namespace Go.Proofs.Ytmkdgnmmebldgaa
open Go.RowKit Go.Deep

/-! A list of routes, written over with numbers in their order, and read again. -/

def kR : Nat → Nat
  | 0 => 2
  | 1 => 2
  | 2 => 1
  | 3 => 3
  | 4 => 3
  | _ => 4
def tR : Nat → Nat
  | 0 => 51
  | 1 => 48
  | 2 => 3
  | 3 => 44
  | 4 => 44
  | _ => 57

/-- The lists of routes: how long, where, and their room. -/
structure Tab where
  n : Nat → Nat → Nat
  ad : Nat → Nat → Option Addr
  cp : Nat → Nat → Nat

def offF (t : Tab) (p : Nat) : Nat → Int
  | 0 => 0
  | j + 1 => offF t p j + (t.n p j : Int) * (kR j : Int)
def kkF (t : Tab) (k : Int) : Nat → Int
  | 0 => k
  | p + 1 => kkF t k p + 2 + offF t p 6

theorem offF_pos (t : Tab) (p j : Nat) : 0 ≤ offF t p j := by
  induction j with
  | zero => exact Int.le_refl _
  | succ j ih =>
    have : (0 : Int) ≤ (t.n p j : Int) * (kR j : Int) := Int.mul_nonneg (Int.natCast_nonneg _) (Int.natCast_nonneg _)
    simp only [offF]; omega
theorem offF_le (t : Tab) (p : Nat) {i j : Nat} (h : i ≤ j) : offF t p i ≤ offF t p j := by
  induction j with
  | zero => have : i = 0 := by omega
            subst this; exact Int.le_refl _
  | succ j ih =>
    by_cases e : i = j + 1
    · subst e; exact Int.le_refl _
    · have := ih (by omega)
      have h2 : (0 : Int) ≤ (t.n p j : Int) * (kR j : Int) := Int.mul_nonneg (Int.natCast_nonneg _) (Int.natCast_nonneg _)
      simp only [offF]; omega
theorem kkF_le (t : Tab) (k : Int) {p r : Nat} (h : p ≤ r) : kkF t k p ≤ kkF t k r := by
  induction r with
  | zero => have : p = 0 := by omega
            subst this; exact Int.le_refl _
  | succ r ih =>
    by_cases e : p = r + 1
    · subst e; exact Int.le_refl _
    · have := ih (by omega)
      have h2 := offF_pos t r 6
      simp only [kkF]; omega

/-- The first m routes have their two numbers; the lists ahead of the q-th one of route i hold theirs. -/
structure MSt (G N R : Nat) (t : Tab) (k : Int) (w : World) (m i q : Nat) : Prop where
  row : ∃ f, w.rowIs G 42 N f ∧ (∀ p j, p < R → j < 6 → f (p * 8 + 2 + j) = .slice (t.ad p j) (t.n p j) (t.cp p j)) ∧ (∀ p, p < m → f (p * 8) = .int .i64 (kkF t k p) ∧ f (p * 8 + 1) = .int .i64 (kkF t k p + 1))
  own : ∀ p j, p < R → j < 6 → OwnA w (tR j) (kR j) (t.ad p j) (t.n p j)
  mark : ∀ p j, p < R → j < 6 → (p < i ∨ p = i ∧ j < q) → MarkA w (kR j) (t.ad p j) (t.n p j) (kkF t k p + 2 + offF t p j)

/-- No two lists share a block, and none the routes' own. -/
def ApartT (G R : Nat) (t : Tab) : Prop := ∀ p j, p < R → j < 6 → ∀ b, BlkOf (t.ad p j) (t.n p j) b → b ≠ G ∧ ∀ p' j', p' < R → j' < 6 → BlkOf (t.ad p' j') (t.n p' j') b → p' = p ∧ j' = j

def TabS (G R : Nat) (t : Tab) (b : Nat) : Prop := b = G ∨ ∃ p j, p < R ∧ j < 6 ∧ BlkOf (t.ad p j) (t.n p j) b

section
variable {G N R : Nat} {t : Tab} {k : Int} {w w' : World} {m i q : Nat}

theorem MSt.lt (h : MSt G N R t k w m i q) : G < w.heap.size := by
  obtain ⟨f, hf, _⟩ := h.row
  exact hf.lt

theorem MSt.step (hA : ApartT G R t) (h : MSt G N R t k w m i q) (hi : i < R) (hq : q < 6) (x : Int) (hx : x = kkF t k i + 2 + offF t i q) (hm : MarkA w' (kR q) (t.ad i q) (t.n i q) x)
    (ho : OwnA w' (tR q) (kR q) (t.ad i q) (t.n i q)) (hO : Only (BlkOf (t.ad i q) (t.n i q)) w w') : MSt G N R t k w' m i (q + 1) := by
  have hG : ¬ BlkOf (t.ad i q) (t.n i q) G := fun e => (hA i q hi hq G e).1 rfl
  have hother : ∀ p j, p < R → j < 6 → ¬ (p = i ∧ j = q) → ∀ b, BlkOf (t.ad p j) (t.n p j) b → w'.heap[b]? = w.heap[b]? := by
    intro p j hp hj hne b hb
    refine hO.block b ((h.own p j hp hj).lt hb) (fun e => hne ?_)
    have := (hA i q hi hq b e).2 p j hp hj hb
    exact this
  refine ⟨?_, ?_, ?_⟩
  · obtain ⟨f, hf, h1, h2⟩ := h.row
    exact ⟨f, hf.of_block (hO.block G hf.lt hG), h1, h2⟩
  · intro p j hp hj
    by_cases e : p = i ∧ j = q
    · obtain ⟨rfl, rfl⟩ := e
      exact ho
    · exact (h.own p j hp hj).kept (hother p j hp hj e)
  · intro p j hp hj hd
    by_cases e : p = i ∧ j = q
    · obtain ⟨rfl, rfl⟩ := e
      rw [← hx]; exact hm
    · exact (h.mark p j hp hj (by omega)).kept (hother p j hp hj e)

theorem MSt.next (h : MSt G N R t k w m i 6) : MSt G N R t k w m (i + 1) 0 :=
  ⟨h.row, h.own, fun p j hp hj hd => h.mark p j hp hj (by omega)⟩

theorem MSt.cell (h : MSt G N R t k w m i q) (hN : R * 8 ≤ N) {p : Nat} (hp : p < R) (j : Nat) (hj : j < 6) : w.cell? ⟨G, p * 8 + 2 + j, none⟩ = some (.slice (t.ad p j) (t.n p j) (t.cp p j)) := by
  obtain ⟨f, hf, h1, _⟩ := h.row
  rw [hf.cell (by omega), h1 p j hp hj]

theorem MSt.ints (hA : ApartT G R t) (h : MSt G N R t k w m m 0) (hm : m < R) :
    MSt G N R t k ((w.setCell ⟨G, m * 8, none⟩ (.int .i64 (kkF t k m))).setCell ⟨G, m * 8 + 1, none⟩ (.int .i64 (kkF t k m + 1))) (m + 1) m 0 := by
  have hblk : ∀ p j, p < R → j < 6 → ∀ b, BlkOf (t.ad p j) (t.n p j) b → ((w.setCell ⟨G, m * 8, none⟩ (.int .i64 (kkF t k m))).setCell ⟨G, m * 8 + 1, none⟩ (.int .i64 (kkF t k m + 1))).heap[b]? = w.heap[b]? := by
    intro p j hp hj b hb
    have := (hA p j hp hj b hb).1
    exact (Below.heap_setCell _ _ _ _ this).trans (Below.heap_setCell _ _ _ _ this)
  refine ⟨?_, fun p j hp hj => (h.own p j hp hj).kept (hblk p j hp hj), fun p j hp hj hd => (h.mark p j hp hj hd).kept (hblk p j hp hj)⟩
  obtain ⟨f, hf, h1, h2⟩ := h.row
  refine ⟨_, (hf.set (m * 8) _).set (m * 8 + 1) _, ?_, ?_⟩
  · intro p j hp hj
    rw [if_neg (by omega), if_neg (by omega)]
    exact h1 p j hp hj
  · intro p hp
    by_cases e : p = m
    · subst e
      rw [if_neg (by omega), if_pos rfl, if_pos rfl]
      exact ⟨rfl, rfl⟩
    · rw [if_neg (by omega), if_neg (by omega), if_neg (by omega), if_neg (by omega)]
      exact h2 p (by omega)
end

theorem MSt.below {G N R : Nat} {t : Tab} {k : Int} {w w' : World} {m i q : Nat} (h : MSt G N R t k w m i q) (hb : Below w.heap.size w w') : MSt G N R t k w' m i q := by
  refine ⟨?_, fun p j hp hj => (h.own p j hp hj).kept (fun b hb' => hb.block b ((h.own p j hp hj).lt hb')), fun p j hp hj hd => (h.mark p j hp hj hd).kept (fun b hb' => hb.block b ((h.own p j hp hj).lt hb'))⟩
  obtain ⟨f, hf, h1, h2⟩ := h.row
  exact ⟨f, hf.of_block (hb.block G hf.lt), h1, h2⟩

theorem MSt.num {G N R : Nat} {t : Tab} {k : Int} {w : World} {m i q : Nat} (h : MSt G N R t k w m i q) (hN : R * 8 ≤ N) {p : Nat} (hp : p < m) (hpR : p < R) :
    w.cell? ⟨G, p * 8, none⟩ = some (.int .i64 (kkF t k p)) ∧ w.cell? ⟨G, p * 8 + 1, none⟩ = some (.int .i64 (kkF t k p + 1)) := by
  obtain ⟨f, hf, _, h2⟩ := h.row
  exact ⟨by rw [hf.cell (by omega), (h2 p hp).1], by rw [hf.cell (by omega), (h2 p hp).2]⟩

end Go.Proofs.Ytmkdgnmmebldgaa
