import Derived.Test.YtmkdgnmmebldgabSmall
namespace Go.Proofs.Ytmkdgnmmebldgab
open Go.RowKit

structure MPiece where
  name : ByteArray
  len : Int
  speed : Int
  brake : Int
structure MEnd where
  piece : Int
  side : Int
structure MJoint where
  kind : Int
  name : ByteArray
  ends : List MEnd

theorem cellLt {w : World} {a : Addr} {v : Value} (h : w.cell? a = some v) : a.block < w.heap.size := World.block_lt_of_cell? _ _ h

/-- The cells of pieces, one after the other, from an address on. -/
def PieceCells (w : World) (b off : Nat) (ps : List MPiece) : Prop :=
  ∀ i (h : i < ps.length), w.cell? ⟨b, off + i * 4, none⟩ = some (.string ps[i].name) ∧ w.cell? ⟨b, off + i * 4 + 1, none⟩ = some (.int .i64 ps[i].len) ∧
    w.cell? ⟨b, off + i * 4 + 2, none⟩ = some (.int .i64 ps[i].speed) ∧ w.cell? ⟨b, off + i * 4 + 3, none⟩ = some (.int .i64 ps[i].brake)

theorem PieceCells.below {w w' : World} {b off : Nat} {ps : List MPiece} (h : PieceCells w b off ps) (hb : Below w.heap.size w w') : PieceCells w' b off ps := by
  intro i hi
  obtain ⟨h1, h2, h3, h4⟩ := h i hi
  exact ⟨cell_later hb h1, cell_later hb h2, cell_later hb h3, cell_later hb h4⟩

/-- A slice that reads as pieces. -/
def PiecesAt (w : World) (a : Option Addr) (ps : List MPiece) : Prop :=
  ps.length ≤ maxLen ∧ (∀ p, p ∈ ps → p.name.size ≤ maxLen) ∧ (ps = [] ∨ ∃ b off, a = some ⟨b, off, none⟩ ∧ PieceCells w b off ps)

theorem PiecesAt.below {w w' : World} {a : Option Addr} {ps : List MPiece} (h : PiecesAt w a ps) (hb : Below w.heap.size w w') : PiecesAt w' a ps := by
  obtain ⟨h1, h2, h3⟩ := h
  refine ⟨h1, h2, ?_⟩
  rcases h3 with h3 | ⟨b, off, h3, h4⟩
  · exact Or.inl h3
  · exact Or.inr ⟨b, off, h3, h4.below hb⟩

/-- What is left behind the first k pieces; -1 when it is used up. -/
def szP (left : Int) : List MPiece → Int
  | [] => left
  | p :: r => if left < p.name.size then -1 else szP (left - p.name.size) r

/-- The cells of ends. -/
def EndCells (w : World) (b off : Nat) (es : List MEnd) : Prop :=
  ∀ i (h : i < es.length), w.cell? ⟨b, off + i * 2, none⟩ = some (.int .i64 es[i].piece) ∧ w.cell? ⟨b, off + i * 2 + 1, none⟩ = some (.int .i64 es[i].side)

theorem EndCells.below {w w' : World} {b off : Nat} {es : List MEnd} (h : EndCells w b off es) (hb : Below w.heap.size w w') : EndCells w' b off es := by
  intro i hi
  obtain ⟨h1, h2⟩ := h i hi
  exact ⟨cell_later hb h1, cell_later hb h2⟩

def EndsAt (w : World) (a : Option Addr) (es : List MEnd) : Prop :=
  es.length ≤ maxLen ∧ (es = [] ∨ ∃ b off, a = some ⟨b, off, none⟩ ∧ EndCells w b off es)

theorem EndsAt.below {w w' : World} {a : Option Addr} {es : List MEnd} (h : EndsAt w a es) (hb : Below w.heap.size w w') : EndsAt w' a es := by
  obtain ⟨h1, h3⟩ := h
  refine ⟨h1, ?_⟩
  rcases h3 with h3 | ⟨b, off, h3, h4⟩
  · exact Or.inl h3
  · exact Or.inr ⟨b, off, h3, h4.below hb⟩

/-- The cells of joints. -/
def JointCells (w : World) (b off : Nat) (js : List MJoint) : Prop :=
  ∀ i (h : i < js.length), w.cell? ⟨b, off + i * 3, none⟩ = some (.int .i64 js[i].kind) ∧ w.cell? ⟨b, off + i * 3 + 1, none⟩ = some (.string js[i].name) ∧
    ∃ ea ec, w.cell? ⟨b, off + i * 3 + 2, none⟩ = some (.slice ea js[i].ends.length ec) ∧ EndsAt w ea js[i].ends

theorem JointCells.below {w w' : World} {b off : Nat} {js : List MJoint} (h : JointCells w b off js) (hb : Below w.heap.size w w') : JointCells w' b off js := by
  intro i hi
  obtain ⟨h1, h2, ea, ec, h3, h4⟩ := h i hi
  exact ⟨cell_later hb h1, cell_later hb h2, ea, ec, cell_later hb h3, h4.below hb⟩

def JointsAt (w : World) (a : Option Addr) (js : List MJoint) : Prop :=
  js.length ≤ maxLen ∧ (∀ p, p ∈ js → p.name.size ≤ maxLen) ∧ (js = [] ∨ ∃ b off, a = some ⟨b, off, none⟩ ∧ JointCells w b off js)

theorem JointsAt.below {w w' : World} {a : Option Addr} {js : List MJoint} (h : JointsAt w a js) (hb : Below w.heap.size w w') : JointsAt w' a js := by
  obtain ⟨h1, h2, h3⟩ := h
  refine ⟨h1, h2, ?_⟩
  rcases h3 with h3 | ⟨b, off, h3, h4⟩
  · exact Or.inl h3
  · exact Or.inr ⟨b, off, h3, h4.below hb⟩

def szJ (left : Int) : List MJoint → Int
  | [] => left
  | p :: r => if left < p.name.size then -1 else if left - p.name.size < p.ends.length then -1 else szJ (left - p.name.size - p.ends.length) r

def szJ1 (left : Int) (a b : Nat) : Int := if left < a then -1 else if left - a < b then -1 else left - a - b

theorem szJ1_cons (left : Int) (p : MJoint) (r : List MJoint) : szJ left (p :: r) = if szJ1 left p.name.size p.ends.length < 0 then -1 else szJ (szJ1 left p.name.size p.ends.length) r := by
  by_cases h : left < p.name.size
  · have e : szJ1 left p.name.size p.ends.length = -1 := by unfold szJ1; rw [if_pos h]
    rw [e]; simp [szJ, h]
  · by_cases h2 : left - p.name.size < p.ends.length
    · have e : szJ1 left p.name.size p.ends.length = -1 := by unfold szJ1; rw [if_neg h, if_pos h2]
      rw [e]; simp [szJ, h, h2]
    · have e : szJ1 left p.name.size p.ends.length = left - p.name.size - p.ends.length := by unfold szJ1; rw [if_neg h, if_neg h2]
      rw [e, if_neg (by omega)]
      simp [szJ, h, h2]
theorem szJ1_le (left : Int) (h0 : 0 ≤ left) (a b : Nat) : szJ1 left a b ≤ left := by
  unfold szJ1
  split
  · omega
  · split <;> omega
theorem szJ1_neg (left : Int) (a b : Nat) (h : szJ1 left a b < 0) : szJ1 left a b = -1 := by
  unfold szJ1 at h ⊢
  split
  · rfl
  · split
    · rfl
    · rename_i h1 h2
      rw [if_neg h1, if_neg h2] at h
      omega

end Go.Proofs.Ytmkdgnmmebldgab
