import Derived.Test.YtmkdgnmmebldgabMem
import Derived.Deep.OwnRows
namespace Go.Proofs.Ytmkdgnmmebldgab
open Go.RowKit Go.Deep

theorem Try.infoE : (Try.prog.info? 142).map (fun i => (i.zero, i.size, i.bytes)) = some (some (.agg #[.int .i64 0, .int .i64 0]), 2, 16) := by kernel_rfl
theorem bcell {W w1 : World} (hb : Below W.heap.size W w1) : (∀ b o, b < W.heap.size → w1.cell? ⟨b, o, none⟩ = W.cell? ⟨b, o, none⟩) ∧ (∀ b o, b < W.heap.size → w1.frozen? ⟨b, o, none⟩ = W.frozen? ⟨b, o, none⟩) :=
  ⟨fun b o h => hb.cell (p := ⟨b, o, none⟩) h, fun b o h => hb.frozen (p := ⟨b, o, none⟩) h⟩

theorem hidP {p : Prop} (h : p) : Hid p := h

theorem EndCells.setOther {w : World} {g off : Nat} {es : List MEnd} (h : EndCells w g off es) {b : Nat} (hb : b ≠ g) (o : Nat) (v : Value) : EndCells (w.setCell ⟨b, o, none⟩ v) g off es := by
  intro i hi
  obtain ⟨h1, h2⟩ := h i hi
  have e : (w.setCell ⟨b, o, none⟩ v).heap[g]? = w.heap[g]? := Below.heap_setCell _ _ _ _ (fun h => hb h.symm)
  exact ⟨(World.cell?_of_block (w := w) e).trans h1, (World.cell?_of_block (w := w) e).trans h2⟩

/-- A new row of structs. -/
theorem make_structs {P : Program} (w : World) (t e : TypeId) (z : Value) (size bytes : Nat) (ht : P.underlying t = some (.slice e)) (hinfo : (P.info? e).map (fun i => (i.zero, i.size, i.bytes)) = some (some z, size, bytes))
    (hb : bytes ≤ 100) (n : Nat) (hn : n ≤ 1048576) :
    ∃ w', (Instr.makeSlice t (.int .i64 (n : Int)) (.int .i64 (n : Int))).run P w = .ok (.slice (some ⟨w.heap.size, 0, none⟩) n n) w' ∧
      (∃ f, w'.rowIs w.heap.size e (n * size) f) ∧ Below w.heap.size w w' ∧ w'.heap.size = w.heap.size + 1 := by
  obtain ⟨i, hi, hi2⟩ := Option.map_eq_some_iff.1 hinfo
  simp only [Prod.mk.injEq] at hi2
  obtain ⟨hz, hs, hby⟩ := hi2
  have hlt : i.bytes * n ≤ 100 * 1048576 := Nat.mul_le_mul (by omega) hn
  have h2 : (i.bytes : Int) * (n : Int) = ((i.bytes * n : Nat) : Int) := by simp
  have h3 : (i.bytes : Int) * (n : Int) ≤ 281474976710656 := by rw [h2]; exact Int.le_trans (Int.ofNat_le.2 hlt) (by decide)
  have h := run_make (P := P) w t e i z ht hi hz .i64 .i64 (n : Int) (n : Int) (by omega) (by omega) h3 (by omega)
  refine ⟨_, h, ⟨fun j => (madeCells z.cells (n * size)).getD j (.bool false), ?_⟩, (Below.refl _ _).alloc (Nat.le_refl _) _, by simp⟩
  have hr := World.rowIs_alloc w (madeCells z.cells (n * size)) e (fun j => (madeCells z.cells (n * size)).getD j (.bool false)) (by intro j hj; simp only [Array.getD, hj, dite_true]; exact Array.getElem?_eq_getElem hj)
  rw [size_madeCells] at hr
  simp only [Int.toNat_natCast, hs]
  exact hr

/-- The first k pieces stand in a row. -/
def PieceRow (ps : List MPiece) (k : Nat) (f : Nat → Value) : Prop :=
  ∀ i (h : i < ps.length), i < k → f (i * 4) = .string ps[i].name ∧ f (i * 4 + 1) = .int .i64 ps[i].len ∧ f (i * 4 + 2) = .int .i64 ps[i].speed ∧ f (i * 4 + 3) = .int .i64 ps[i].brake

theorem PieceRow.next {ps : List MPiece} {k : Nat} {f : Nat → Value} (h : PieceRow ps k f) (hk : k < ps.length) :
    PieceRow ps (k + 1) (fun j => if j = k * 4 + 3 then .int .i64 ps[k].brake else if j = k * 4 + 2 then .int .i64 ps[k].speed else if j = k * 4 + 1 then .int .i64 ps[k].len else if j = k * 4 then .string ps[k].name else f j) := by
  intro i hi hik
  by_cases e : i = k
  · subst e
    simp
  · have h1 := h i hi (by omega)
    refine ⟨?_, ?_, ?_, ?_⟩
    · dsimp only; rw [if_neg (by omega), if_neg (by omega), if_neg (by omega), if_neg (by omega)]; exact h1.1
    · dsimp only; rw [if_neg (by omega), if_neg (by omega), if_neg (by omega), if_neg (by omega)]; exact h1.2.1
    · dsimp only; rw [if_neg (by omega), if_neg (by omega), if_neg (by omega), if_neg (by omega)]; exact h1.2.2.1
    · dsimp only; rw [if_neg (by omega), if_neg (by omega), if_neg (by omega), if_neg (by omega)]; exact h1.2.2.2

theorem pieceCells_of_row {w : World} {g : Nat} {t : TypeId} {ps : List MPiece} {f : Nat → Value} (h : w.rowIs g t (ps.length * 4) f) (hr : PieceRow ps ps.length f) : PieceCells w g 0 ps := by
  intro i hi
  obtain ⟨h1, h2, h3, h4⟩ := hr i hi hi
  simp only [Nat.zero_add]
  exact ⟨by rw [h.cell (by omega), h1], by rw [h.cell (by omega), h2], by rw [h.cell (by omega), h3], by rw [h.cell (by omega), h4]⟩

theorem PieceCells.setOther {w : World} {g off : Nat} {es : List MPiece} (h : PieceCells w g off es) {b : Nat} (hb : b ≠ g) (o : Nat) (v : Value) : PieceCells (w.setCell ⟨b, o, none⟩ v) g off es := by
  intro i hi
  obtain ⟨h1, h2, h3, h4⟩ := h i hi
  have e : (w.setCell ⟨b, o, none⟩ v).heap[g]? = w.heap[g]? := Below.heap_setCell _ _ _ _ (fun h => hb h.symm)
  exact ⟨(World.cell?_of_block (w := w) e).trans h1, (World.cell?_of_block (w := w) e).trans h2, (World.cell?_of_block (w := w) e).trans h3, (World.cell?_of_block (w := w) e).trans h4⟩

def EndRow (ps : List MEnd) (k : Nat) (f : Nat → Value) : Prop :=
  ∀ i (h : i < ps.length), i < k → f (i * 2) = .int .i64 ps[i].piece ∧ f (i * 2 + 1) = .int .i64 ps[i].side

theorem EndRow.next {ps : List MEnd} {k : Nat} {f : Nat → Value} (h : EndRow ps k f) (hk : k < ps.length) :
    EndRow ps (k + 1) (fun j => if j = k * 2 + 1 then .int .i64 ps[k].side else if j = k * 2 then .int .i64 ps[k].piece else f j) := by
  intro i hi hik
  by_cases e : i = k
  · subst e
    simp
  · have h1 := h i hi (by omega)
    refine ⟨?_, ?_⟩
    · dsimp only; rw [if_neg (by omega), if_neg (by omega)]; exact h1.1
    · dsimp only; rw [if_neg (by omega), if_neg (by omega)]; exact h1.2

theorem endCells_of_row {w : World} {g : Nat} {t : TypeId} {ps : List MEnd} {f : Nat → Value} (h : w.rowIs g t (ps.length * 2) f) (hr : EndRow ps ps.length f) : EndCells w g 0 ps := by
  intro i hi
  obtain ⟨h1, h2⟩ := hr i hi hi
  simp only [Nat.zero_add]
  exact ⟨by rw [h.cell (by omega), h1], by rw [h.cell (by omega), h2]⟩

/-- The first k joints stand in a row; their ends each in a row of their own behind it. -/
def JointRow (w : World) (B : Nat) (js : List MJoint) (k : Nat) (f : Nat → Value) : Prop :=
  ∀ i (h : i < js.length), i < k → f (i * 3) = .int .i64 js[i].kind ∧ f (i * 3 + 1) = .string js[i].name ∧
    ∃ g, f (i * 3 + 2) = .slice (some ⟨g, 0, none⟩) js[i].ends.length js[i].ends.length ∧ B < g ∧ EndCells w g 0 js[i].ends

theorem JointRow.below {w w' : World} {B : Nat} {js : List MJoint} {k : Nat} {f : Nat → Value} (h : JointRow w B js k f) (hb : Below w.heap.size w w') : JointRow w' B js k f := by
  intro i hi hk
  obtain ⟨h1, h2, g, h3, h4, h5⟩ := h i hi hk
  exact ⟨h1, h2, g, h3, h4, h5.below hb⟩

theorem JointRow.setCell {w : World} {B : Nat} {js : List MJoint} {k : Nat} {f : Nat → Value} (h : JointRow w B js k f) (o : Nat) (v : Value) : JointRow (w.setCell ⟨B, o, none⟩ v) B js k f := by
  intro i hi hk
  obtain ⟨h1, h2, g, h3, h4, h5⟩ := h i hi hk
  exact ⟨h1, h2, g, h3, h4, h5.setOther (by omega) o v⟩

theorem JointRow.next {w : World} {B : Nat} {js : List MJoint} {k : Nat} {f : Nat → Value} (h : JointRow w B js k f) (hk : k < js.length) (g : Nat) (hg : B < g) (he : EndCells w g 0 js[k].ends) :
    JointRow w B js (k + 1) (fun j => if j = k * 3 + 2 then .slice (some ⟨g, 0, none⟩) js[k].ends.length js[k].ends.length else if j = k * 3 + 1 then .string js[k].name else if j = k * 3 then .int .i64 js[k].kind else f j) := by
  intro i hi hik
  by_cases e : i = k
  · subst e
    refine ⟨by simp, by simp, g, by simp, hg, he⟩
  · obtain ⟨h1, h2, g', h3, h4, h5⟩ := h i hi (by omega)
    refine ⟨?_, ?_, g', ?_, h4, h5⟩
    · dsimp only; rw [if_neg (by omega), if_neg (by omega), if_neg (by omega)]; exact h1
    · dsimp only; rw [if_neg (by omega), if_neg (by omega), if_neg (by omega)]; exact h2
    · dsimp only; rw [if_neg (by omega), if_neg (by omega), if_neg (by omega)]; exact h3

/-- The cells of joints whose ends lie from block B on. -/
def JointCellsFrom (B : Nat) (w : World) (b off : Nat) (js : List MJoint) : Prop :=
  ∀ i (h : i < js.length), w.cell? ⟨b, off + i * 3, none⟩ = some (.int .i64 js[i].kind) ∧ w.cell? ⟨b, off + i * 3 + 1, none⟩ = some (.string js[i].name) ∧
    ∃ g ec, w.cell? ⟨b, off + i * 3 + 2, none⟩ = some (.slice (some ⟨g, 0, none⟩) js[i].ends.length ec) ∧ js[i].ends.length ≤ maxLen ∧ B ≤ g ∧ EndCells w g 0 js[i].ends

theorem JointCellsFrom.cells {B : Nat} {w : World} {b off : Nat} {js : List MJoint} (h : JointCellsFrom B w b off js) : JointCells w b off js := by
  intro i hi
  obtain ⟨h1, h2, g, ec, h3, h4, _, h5⟩ := h i hi
  exact ⟨h1, h2, _, ec, h3, h4, Or.inr ⟨g, 0, rfl, h5⟩⟩

theorem JointCellsFrom.setOther {B : Nat} {w : World} {g off : Nat} {es : List MJoint} (h : JointCellsFrom B w g off es) {b : Nat} (hb : b ≠ g) (hB : b < B) (o : Nat) (v : Value) : JointCellsFrom B (w.setCell ⟨b, o, none⟩ v) g off es := by
  intro i hi
  obtain ⟨h1, h2, g', ec, h3, h4, h5, h6⟩ := h i hi
  have e : (w.setCell ⟨b, o, none⟩ v).heap[g]? = w.heap[g]? := Below.heap_setCell _ _ _ _ (fun h => hb h.symm)
  exact ⟨(World.cell?_of_block (w := w) e).trans h1, (World.cell?_of_block (w := w) e).trans h2, g', ec, (World.cell?_of_block (w := w) e).trans h3, h4, h5, h6.setOther (by omega) o v⟩

theorem jointCells_of_row {w : World} {g : Nat} {t : TypeId} {js : List MJoint} {f : Nat → Value} (h : w.rowIs g t (js.length * 3) f) (hr : JointRow w g js js.length f) (hl : ∀ j, j ∈ js → j.ends.length ≤ 1048576) : JointCellsFrom g w g 0 js := by
  intro i hi
  obtain ⟨h1, h2, g', h3, h4, h5⟩ := hr i hi hi
  simp only [Nat.zero_add]
  refine ⟨by rw [h.cell (by omega), h1], by rw [h.cell (by omega), h2], g', _, by rw [h.cell (by omega), h3], ?_, by omega, h5⟩
  have := hl _ (List.getElem_mem hi)
  unfold maxLen
  omega

end Go.Proofs.Ytmkdgnmmebldgab
