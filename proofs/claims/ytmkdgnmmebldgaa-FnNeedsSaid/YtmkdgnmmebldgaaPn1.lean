import Derived.Test.YtmkdgnmmebldgaaProg
import Derived.WalkKit
import Derived.WalkSpells
import Derived.WalkLawsBesides
import Derived.ProofKit
import Derived.Deep.Slices
import Derived.Deep.Strs
import Derived.Lib.SmallJoins
import Derived.Deep.OwnRows
namespace Go.Proofs.Ytmkdgnmmebldgaa
open Go.RowKit
theorem ret_int {k : IntKind} {a b : Int} (h : a = b) : Ending.returned (.int k a) = .returned (.int k b) := by rw [h]
theorem ret_bool {a b : Bool} (h : a = b) : Ending.returned (.bool a) = .returned (.bool b) := by rw [h]
theorem bdrewN {B : Nat} {a w : World} (h : Below B a w) (n : Nat) : Below B a (w.drewN n) := h.trans ⟨rfl, rfl, rfl, Nat.le_refl _, fun _ _ => rfl⟩
theorem blo {B : Nat} {a w : World} (h : Below B a w := by repeat (first | exact Below.refl _ _ | assumption | refine Below.drew ?_ | refine bdrewN ?_ _ | refine Below.setCell ?_ (by first | omega | (simp; done) | (simp; omega)) _ | refine Below.alloc ?_ (by first | omega | (simp; done) | (simp; omega)) _)) : Below B a w := h
theorem beqS_ne {a b : ByteArray} (h : a ≠ b) : (a.toList == b.toList) = false := by
  rw [ByteArray.toList_eq, ByteArray.toList_eq, beq_eq_false_iff_ne]
  intro e
  apply h
  obtain ⟨⟨x⟩⟩ := a
  obtain ⟨⟨y⟩⟩ := b
  simp at e
  rw [e]
theorem emptyS_ne {a : ByteArray} (h : a ≠ ⟨#[]⟩) : a.toList.isEmpty = false := by
  rw [ByteArray.toList_eq]
  obtain ⟨⟨x⟩⟩ := a
  cases x with
  | nil => exact absurd rfl h
  | cons c r => rfl
def inB (x a b : Int) : Bool := decide (a ≤ x ∧ x ≤ b)
theorem inB_t {x a b : Int} (h1 : a ≤ x) (h2 : x ≤ b) : inB x a b = true := by simp [inB, h1, h2]
theorem inB_f1 {x a b : Int} (h1 : ¬ a ≤ x) : inB x a b = false := by simp [inB, h1]
theorem inB_f2 {x a b : Int} (h2 : ¬ x ≤ b) : inB x a b = false := by simp [inB, h2]
set_option maxHeartbeats 400000 in
theorem l1in_any (x a b : Int) (w : World) :
    Calls Try.prog 43 #[.int .i64 x, .int .i64 a, .int .i64 b] w fun e w' => e = .returned (.bool (inB x a b)) ∧ w' = w := by
  by_cases h1 : a ≤ x
  · by_cases h2 : x ≤ b
    · rw [inB_t h1 h2]
      go_enter Try.func43, Try.ntmps43
      go_wp2
      go_ret
      exact ⟨rfl, rfl⟩
    · rw [inB_f2 h2]
      go_enter Try.func43, Try.ntmps43
      go_wp2
      go_ret
      exact ⟨rfl, rfl⟩
  · rw [inB_f1 h1]
    go_enter Try.func43, Try.ntmps43
    go_wp2
    go_ret
    exact ⟨rfl, rfl⟩
def signI (n : Int) : Bool := decide (97 ≤ n ∧ n ≤ 122 ∨ 48 ≤ n ∧ n ≤ 57 ∨ n = 95)
def nameTo (s : ByteArray) (k : Nat) : Bool := (s.data.toList.take k).all fun c => signI (c.toNat : Int)
def nameB (s : ByteArray) : Bool := decide (1 ≤ s.size ∧ s.size ≤ 20) && nameTo s s.size
theorem nameTo_succ (s : ByteArray) (k : Nat) (h : k < s.size) : nameTo s (k + 1) = (nameTo s k && signI (s[k].toNat : Int)) := by
  unfold nameTo
  rw [List.take_succ_eq_append_getElem (by simpa using h)]
  simp
  rfl
theorem nameTo_false (s : ByteArray) (k : Nat) (h : k < s.size) (h1 : signI (s[k].toNat : Int) = false) : nameTo s s.size = false := by
  unfold nameTo
  rw [List.take_of_length_le (by simp), List.all_eq_false]
  refine ⟨s[k], ?_, by simp [h1]⟩
  exact List.getElem_mem (l := s.data.toList) (by simpa using h)
end Go.Proofs.Ytmkdgnmmebldgaa

namespace Go.Proofs.Ytmkdgnmmebldgaa
open Go.RowKit Go.Deep Go.ChangeShapes Go.WideShapes
theorem chooseB {α : Type} {p : Nat → α → Prop} : ∀ (n : Nat), (∀ i, i < n → ∃ x, p i x) → ∃ l : List α, l.length = n ∧ ∀ i (hi : i < l.length), p i l[i]
  | 0, _ => ⟨[], rfl, fun i hi => absurd hi (Nat.not_lt_zero i)⟩
  | n + 1, h => by
    obtain ⟨l, hl, hp⟩ := chooseB n (fun i hi => h i (by omega))
    obtain ⟨x, hx⟩ := h n (by omega)
    refine ⟨l ++ [x], by simp [hl], fun i hi => ?_⟩
    by_cases e : i < l.length
    · rw [List.getElem_append_left e]; exact hp i e
    · have : i = n := by simp at hi; omega
      subst this
      simp [hl]
      exact hx
theorem addrAddB (b o n m : Nat) : (Addr.add ⟨b, o, none⟩ n).add m = ⟨b, o + n + m, none⟩ := by
  unfold Addr.add
  by_cases h1 : n = 0 <;> by_cases h2 : m = 0 <;> simp [h1, h2]
theorem spotOfB {w : World} {a : Addr} {k n : Nat} {cs : List Value} (h : w.cells? 0 (a.add (0 * k)) n = some cs) (hn : 0 < n) : a.spot = none := by
  obtain ⟨_, hlen, hc⟩ := World.cells?_some h
  have k0 := hc 0 hn
  rw [List.getElem?_eq_getElem (by omega)] at k0
  have := World.cell?_spot k0
  simpa [Addr.add] using this
theorem Try.laidOutD : Go.laidOutB Try.prog = true := by kernel_rfl
theorem ownDraws : ownKnob Try.prog.godebug = none := by kernel_rfl
end Go.Proofs.Ytmkdgnmmebldgaa

namespace Go.Proofs.Ytmkdgnmmebldgaa
open Go.RowKit
theorem nameB_of_size {s : ByteArray} (h : ¬ (1 ≤ s.size ∧ s.size ≤ 20)) : nameB s = false := by simp [nameB, h]
theorem nameB_of_to {s : ByteArray} (h : 1 ≤ s.size ∧ s.size ≤ 20) (h2 : nameTo s s.size = true) : nameB s = true := by simp [nameB, h, h2]
theorem nameB_of_sign {s : ByteArray} (k : Nat) (h : k < s.size) (h1 : signI (s[k].toNat : Int) = false) : nameB s = false := by
  simp [nameB, nameTo_false s k h h1]
theorem sign_cases (c : Int) : signI c = true ∧ (97 ≤ c ∧ c ≤ 122 ∨ ¬ 97 ≤ c ∧ 48 ≤ c ∧ c ≤ 57 ∨ ¬ 97 ≤ c ∧ 48 ≤ c ∧ ¬ c ≤ 57 ∧ (c == 95) = true) ∨
    signI c = false ∧ (c == 95) = false ∧ (¬ c ≤ 122 ∧ decide (c ≤ 57) = false ∨ ¬ 97 ≤ c ∧ ¬ c ≤ 57 ∨ ¬ 48 ≤ c) := by
  unfold signI
  simp only [decide_eq_true_eq, decide_eq_false_iff_not, beq_iff_eq, beq_eq_false_iff_ne]
  omega
theorem nameTo_zero (s : ByteArray) : nameTo s 0 = true := by simp [nameTo]
set_option maxHeartbeats 400000 in
theorem l1name_any (s : ByteArray) (w : World) (hs : s.size ≤ maxLen) :
    Calls Try.prog 58 #[.string s] w fun e w' => e = .returned (.bool (nameB s)) ∧ w' = w := by
  unfold maxLen at hs
  go_enter Try.func58, Try.ntmps58
  go_wp2
  go_loop [3] (fun i => ∃ k : Nat, k ≤ s.size ∧ i = .int .i64 k ∧ Hid (nameTo s k = true)) (fun i => s.size - (intOf i).toNat)
  case atStart => exact ⟨0, Nat.zero_le _, rfl, nameTo_zero s⟩
  case round =>
    obtain ⟨k, hk, rfl, hn⟩ := hrel
    by_cases hlt : k < s.size
    · have HS : Hid (nameTo s (k + 1) = (nameTo s k && signI (s[k].toNat : Int))) := nameTo_succ s k hlt
      have HF : Hid (signI (s[k].toNat : Int) = false → nameB s = false) := nameB_of_sign k hlt
      have hcl : signI (s[k].toNat : Int) = true ∧ (97 ≤ (s[k].toNat : Int) ∧ (s[k].toNat : Int) ≤ 122 ∨ ¬ 97 ≤ (s[k].toNat : Int) ∧ 48 ≤ (s[k].toNat : Int) ∧ (s[k].toNat : Int) ≤ 57 ∨ ¬ 97 ≤ (s[k].toNat : Int) ∧ 48 ≤ (s[k].toNat : Int) ∧ ¬ (s[k].toNat : Int) ≤ 57 ∧ ((s[k].toNat : Int) == 95) = true) ∨
          signI (s[k].toNat : Int) = false ∧ ((s[k].toNat : Int) == 95) = false ∧ (¬ (s[k].toNat : Int) ≤ 122 ∧ decide ((s[k].toNat : Int) ≤ 57) = false ∨ ¬ 97 ≤ (s[k].toNat : Int) ∧ ¬ (s[k].toNat : Int) ≤ 57 ∨ ¬ 48 ≤ (s[k].toNat : Int)) := sign_cases _
      rcases hcl with ⟨hT, hcl⟩ | ⟨hT, h95, hcl⟩
      · have HT : Hid (nameTo s (k + 1) = true) := by
          have h1 := HS.out
          rw [hn.out, hT] at h1
          exact h1
        clear hT HS HF hn
        rcases hcl with hcl | hcl | hcl
        all_goals
          go_wp2
          go_round
          case rel => exact ⟨k + 1, by omega, by go_num, HT⟩
          case measure => simp [intOf]; omega
      · have HB : Hid (nameB s = false) := HF.out hT
        clear hT HS HF hn
        rcases hcl with hcl | hcl | hcl
        all_goals
          go_wp2
          go_ret
          exact ⟨ret_bool HB.out.symm, rfl⟩
    · have hk' : k = s.size := by omega
      have HN : Hid (nameTo s s.size = true) := hk' ▸ hn
      clear hn hk'
      by_cases h20 : 1 ≤ s.size ∧ s.size ≤ 20
      · have HB : Hid (nameB s = true) := nameB_of_to h20 HN.out
        go_wp2
        go_ret
        exact ⟨ret_bool (by rw [HB.out]; simp; omega), rfl⟩
      · have HB : Hid (nameB s = false) := nameB_of_size h20
        go_wp2
        all_goals
          go_ret
          exact ⟨ret_bool (by rw [HB.out]; try simp; try omega), rfl⟩
end Go.Proofs.Ytmkdgnmmebldgaa

namespace Go.Proofs.Ytmkdgnmmebldgaa
open Go.RowKit
def pieceB (s : ByteArray) (l sp br : Int) : Bool := nameB s && inB l 1 10000000 && inB sp 1 10000 && inB br 1 1000
def sizeB (np nj : Nat) : Bool := decide (0 < np ∧ np ≤ 100 ∧ nj ≤ 120)
def endB (np : Nat) (p s : Int) : Bool := inB p 0 ((np : Int) - 1) && inB s 0 1
set_option maxHeartbeats 400000 in
theorem l1end_any (pa ja : Option Addr) (pl pc jl jc : Nat) (p s : Int) (w : World) (hp : pl ≤ maxLen) :
    Calls Try.prog 131 #[.agg #[.slice pa pl pc, .slice ja jl jc], .agg #[.int .i64 p, .int .i64 s]] w fun e w' => e = .returned (.bool (endB pl p s)) ∧ Below w.heap.size w w' := by
  unfold maxLen at hp
  cases h1 : inB p 0 ((pl : Int) - 1)
  · have HB : Hid (endB pl p s = false) := by unfold Hid endB; simp [h1]
    go_enter Try.func131, Try.ntmps131
    go_wp2_with (go_at_call 43; refine (l1in_any _ _ _ _).mono ?_; rintro e w' ⟨rfl, rfl⟩)
    go_ret
    exact ⟨ret_bool HB.out.symm, blo⟩
  · have HB : Hid (inB s 0 1 = endB pl p s) := by unfold Hid endB; simp [h1]
    go_enter Try.func131, Try.ntmps131
    go_wp2_with (go_at_call 43; refine (l1in_any _ _ _ _).mono ?_; rintro e w' ⟨rfl, rfl⟩)
    go_ret
    exact ⟨ret_bool HB.out, blo⟩
end Go.Proofs.Ytmkdgnmmebldgaa

namespace Go.Proofs.Ytmkdgnmmebldgaa
open Go.RowKit
structure MPiece where
  name : ByteArray
  len : Int
  speed : Int
  brake : Int
structure MEnd where
  piece : Int
  side : Int
structure MJoint where
  kind : Int
  name : ByteArray
  ends : List MEnd
theorem cellLt {w : World} {a : Addr} {v : Value} (h : w.cell? a = some v) : a.block < w.heap.size := World.block_lt_of_cell? _ _ h
def PieceCells (w : World) (b off : Nat) (ps : List MPiece) : Prop :=
  ∀ i (h : i < ps.length), w.cell? ⟨b, off + i * 4, none⟩ = some (.string ps[i].name) ∧ w.cell? ⟨b, off + i * 4 + 1, none⟩ = some (.int .i64 ps[i].len) ∧
    w.cell? ⟨b, off + i * 4 + 2, none⟩ = some (.int .i64 ps[i].speed) ∧ w.cell? ⟨b, off + i * 4 + 3, none⟩ = some (.int .i64 ps[i].brake)
theorem PieceCells.below {w w' : World} {b off : Nat} {ps : List MPiece} (h : PieceCells w b off ps) (hb : Below w.heap.size w w') : PieceCells w' b off ps := by
  intro i hi
  obtain ⟨h1, h2, h3, h4⟩ := h i hi
  exact ⟨cell_later hb h1, cell_later hb h2, cell_later hb h3, cell_later hb h4⟩
def PiecesAt (w : World) (a : Option Addr) (ps : List MPiece) : Prop :=
  ps.length ≤ maxLen ∧ (∀ p, p ∈ ps → p.name.size ≤ maxLen) ∧ (ps = [] ∨ ∃ b off, a = some ⟨b, off, none⟩ ∧ PieceCells w b off ps)
theorem PiecesAt.below {w w' : World} {a : Option Addr} {ps : List MPiece} (h : PiecesAt w a ps) (hb : Below w.heap.size w w') : PiecesAt w' a ps := by
  obtain ⟨h1, h2, h3⟩ := h
  refine ⟨h1, h2, ?_⟩
  rcases h3 with h3 | ⟨b, off, h3, h4⟩
  · exact Or.inl h3
  · exact Or.inr ⟨b, off, h3, h4.below hb⟩
def EndCells (w : World) (b off : Nat) (es : List MEnd) : Prop :=
  ∀ i (h : i < es.length), w.cell? ⟨b, off + i * 2, none⟩ = some (.int .i64 es[i].piece) ∧ w.cell? ⟨b, off + i * 2 + 1, none⟩ = some (.int .i64 es[i].side)
theorem EndCells.below {w w' : World} {b off : Nat} {es : List MEnd} (h : EndCells w b off es) (hb : Below w.heap.size w w') : EndCells w' b off es := by
  intro i hi
  obtain ⟨h1, h2⟩ := h i hi
  exact ⟨cell_later hb h1, cell_later hb h2⟩
def EndsAt (w : World) (a : Option Addr) (es : List MEnd) : Prop :=
  es.length ≤ maxLen ∧ (es = [] ∨ ∃ b off, a = some ⟨b, off, none⟩ ∧ EndCells w b off es)
theorem EndsAt.below {w w' : World} {a : Option Addr} {es : List MEnd} (h : EndsAt w a es) (hb : Below w.heap.size w w') : EndsAt w' a es := by
  obtain ⟨h1, h3⟩ := h
  refine ⟨h1, ?_⟩
  rcases h3 with h3 | ⟨b, off, h3, h4⟩
  · exact Or.inl h3
  · exact Or.inr ⟨b, off, h3, h4.below hb⟩
def JointCells (w : World) (b off : Nat) (js : List MJoint) : Prop :=
  ∀ i (h : i < js.length), w.cell? ⟨b, off + i * 3, none⟩ = some (.int .i64 js[i].kind) ∧ w.cell? ⟨b, off + i * 3 + 1, none⟩ = some (.string js[i].name) ∧
    ∃ ea ec, w.cell? ⟨b, off + i * 3 + 2, none⟩ = some (.slice ea js[i].ends.length ec) ∧ EndsAt w ea js[i].ends
theorem JointCells.below {w w' : World} {b off : Nat} {js : List MJoint} (h : JointCells w b off js) (hb : Below w.heap.size w w') : JointCells w' b off js := by
  intro i hi
  obtain ⟨h1, h2, ea, ec, h3, h4⟩ := h i hi
  exact ⟨cell_later hb h1, cell_later hb h2, ea, ec, cell_later hb h3, h4.below hb⟩
def JointsAt (w : World) (a : Option Addr) (js : List MJoint) : Prop :=
  js.length ≤ maxLen ∧ (∀ p, p ∈ js → p.name.size ≤ maxLen) ∧ (js = [] ∨ ∃ b off, a = some ⟨b, off, none⟩ ∧ JointCells w b off js)
theorem JointsAt.below {w w' : World} {a : Option Addr} {js : List MJoint} (h : JointsAt w a js) (hb : Below w.heap.size w w') : JointsAt w' a js := by
  obtain ⟨h1, h2, h3⟩ := h
  refine ⟨h1, h2, ?_⟩
  rcases h3 with h3 | ⟨b, off, h3, h4⟩
  · exact Or.inl h3
  · exact Or.inr ⟨b, off, h3, h4.below hb⟩
end Go.Proofs.Ytmkdgnmmebldgaa

namespace Go.Proofs.Ytmkdgnmmebldgaa
open Go.RowKit Go.Deep
theorem Try.infoE : (Try.prog.info? 139).map (fun i => (i.zero, i.size, i.bytes)) = some (some (.agg #[.int .i64 0, .int .i64 0]), 2, 16) := by kernel_rfl
theorem hidP {p : Prop} (h : p) : Hid p := h
theorem EndCells.setOther {w : World} {g off : Nat} {es : List MEnd} (h : EndCells w g off es) {b : Nat} (hb : b ≠ g) (o : Nat) (v : Value) : EndCells (w.setCell ⟨b, o, none⟩ v) g off es := by
  intro i hi
  obtain ⟨h1, h2⟩ := h i hi
  have e : (w.setCell ⟨b, o, none⟩ v).heap[g]? = w.heap[g]? := Below.heap_setCell _ _ _ _ (fun h => hb h.symm)
  exact ⟨(World.cell?_of_block (w := w) e).trans h1, (World.cell?_of_block (w := w) e).trans h2⟩
def PieceRow (ps : List MPiece) (k : Nat) (f : Nat → Value) : Prop :=
  ∀ i (h : i < ps.length), i < k → f (i * 4) = .string ps[i].name ∧ f (i * 4 + 1) = .int .i64 ps[i].len ∧ f (i * 4 + 2) = .int .i64 ps[i].speed ∧ f (i * 4 + 3) = .int .i64 ps[i].brake
theorem PieceRow.next {ps : List MPiece} {k : Nat} {f : Nat → Value} (h : PieceRow ps k f) (hk : k < ps.length) :
    PieceRow ps (k + 1) (fun j => if j = k * 4 + 3 then .int .i64 ps[k].brake else if j = k * 4 + 2 then .int .i64 ps[k].speed else if j = k * 4 + 1 then .int .i64 ps[k].len else if j = k * 4 then .string ps[k].name else f j) := by
  intro i hi hik
  by_cases e : i = k
  · subst e
    simp
  · have h1 := h i hi (by omega)
    refine ⟨?_, ?_, ?_, ?_⟩
    · dsimp only; rw [if_neg (by omega), if_neg (by omega), if_neg (by omega), if_neg (by omega)]; exact h1.1
    · dsimp only; rw [if_neg (by omega), if_neg (by omega), if_neg (by omega), if_neg (by omega)]; exact h1.2.1
    · dsimp only; rw [if_neg (by omega), if_neg (by omega), if_neg (by omega), if_neg (by omega)]; exact h1.2.2.1
    · dsimp only; rw [if_neg (by omega), if_neg (by omega), if_neg (by omega), if_neg (by omega)]; exact h1.2.2.2
theorem PieceCells.setOther {w : World} {g off : Nat} {es : List MPiece} (h : PieceCells w g off es) {b : Nat} (hb : b ≠ g) (o : Nat) (v : Value) : PieceCells (w.setCell ⟨b, o, none⟩ v) g off es := by
  intro i hi
  obtain ⟨h1, h2, h3, h4⟩ := h i hi
  have e : (w.setCell ⟨b, o, none⟩ v).heap[g]? = w.heap[g]? := Below.heap_setCell _ _ _ _ (fun h => hb h.symm)
  exact ⟨(World.cell?_of_block (w := w) e).trans h1, (World.cell?_of_block (w := w) e).trans h2, (World.cell?_of_block (w := w) e).trans h3, (World.cell?_of_block (w := w) e).trans h4⟩
def EndRow (ps : List MEnd) (k : Nat) (f : Nat → Value) : Prop :=
  ∀ i (h : i < ps.length), i < k → f (i * 2) = .int .i64 ps[i].piece ∧ f (i * 2 + 1) = .int .i64 ps[i].side
theorem EndRow.next {ps : List MEnd} {k : Nat} {f : Nat → Value} (h : EndRow ps k f) (hk : k < ps.length) :
    EndRow ps (k + 1) (fun j => if j = k * 2 + 1 then .int .i64 ps[k].side else if j = k * 2 then .int .i64 ps[k].piece else f j) := by
  intro i hi hik
  by_cases e : i = k
  · subst e
    simp
  · have h1 := h i hi (by omega)
    refine ⟨?_, ?_⟩
    · dsimp only; rw [if_neg (by omega), if_neg (by omega)]; exact h1.1
    · dsimp only; rw [if_neg (by omega), if_neg (by omega)]; exact h1.2
def JointRow (w : World) (B : Nat) (js : List MJoint) (k : Nat) (f : Nat → Value) : Prop :=
  ∀ i (h : i < js.length), i < k → f (i * 3) = .int .i64 js[i].kind ∧ f (i * 3 + 1) = .string js[i].name ∧
    ∃ g, f (i * 3 + 2) = .slice (some ⟨g, 0, none⟩) js[i].ends.length js[i].ends.length ∧ B < g ∧ EndCells w g 0 js[i].ends
theorem JointRow.below {w w' : World} {B : Nat} {js : List MJoint} {k : Nat} {f : Nat → Value} (h : JointRow w B js k f) (hb : Below w.heap.size w w') : JointRow w' B js k f := by
  intro i hi hk
  obtain ⟨h1, h2, g, h3, h4, h5⟩ := h i hi hk
  exact ⟨h1, h2, g, h3, h4, h5.below hb⟩
theorem JointRow.setCell {w : World} {B : Nat} {js : List MJoint} {k : Nat} {f : Nat → Value} (h : JointRow w B js k f) (o : Nat) (v : Value) : JointRow (w.setCell ⟨B, o, none⟩ v) B js k f := by
  intro i hi hk
  obtain ⟨h1, h2, g, h3, h4, h5⟩ := h i hi hk
  exact ⟨h1, h2, g, h3, h4, h5.setOther (by omega) o v⟩
theorem JointRow.next {w : World} {B : Nat} {js : List MJoint} {k : Nat} {f : Nat → Value} (h : JointRow w B js k f) (hk : k < js.length) (g : Nat) (hg : B < g) (he : EndCells w g 0 js[k].ends) :
    JointRow w B js (k + 1) (fun j => if j = k * 3 + 2 then .slice (some ⟨g, 0, none⟩) js[k].ends.length js[k].ends.length else if j = k * 3 + 1 then .string js[k].name else if j = k * 3 then .int .i64 js[k].kind else f j) := by
  intro i hi hik
  by_cases e : i = k
  · subst e
    refine ⟨by simp, by simp, g, by simp, hg, he⟩
  · obtain ⟨h1, h2, g', h3, h4, h5⟩ := h i hi (by omega)
    refine ⟨?_, ?_, g', ?_, h4, h5⟩
    · dsimp only; rw [if_neg (by omega), if_neg (by omega), if_neg (by omega)]; exact h1
    · dsimp only; rw [if_neg (by omega), if_neg (by omega), if_neg (by omega)]; exact h2
    · dsimp only; rw [if_neg (by omega), if_neg (by omega), if_neg (by omega)]; exact h3
def JointCellsFrom (B : Nat) (w : World) (b off : Nat) (js : List MJoint) : Prop :=
  ∀ i (h : i < js.length), w.cell? ⟨b, off + i * 3, none⟩ = some (.int .i64 js[i].kind) ∧ w.cell? ⟨b, off + i * 3 + 1, none⟩ = some (.string js[i].name) ∧
    ∃ g ec, w.cell? ⟨b, off + i * 3 + 2, none⟩ = some (.slice (some ⟨g, 0, none⟩) js[i].ends.length ec) ∧ js[i].ends.length ≤ maxLen ∧ B ≤ g ∧ EndCells w g 0 js[i].ends
theorem JointCellsFrom.cells {B : Nat} {w : World} {b off : Nat} {js : List MJoint} (h : JointCellsFrom B w b off js) : JointCells w b off js := by
  intro i hi
  obtain ⟨h1, h2, g, ec, h3, h4, _, h5⟩ := h i hi
  exact ⟨h1, h2, _, ec, h3, h4, Or.inr ⟨g, 0, rfl, h5⟩⟩
theorem JointCellsFrom.setOther {B : Nat} {w : World} {g off : Nat} {es : List MJoint} (h : JointCellsFrom B w g off es) {b : Nat} (hb : b ≠ g) (hB : b < B) (o : Nat) (v : Value) : JointCellsFrom B (w.setCell ⟨b, o, none⟩ v) g off es := by
  intro i hi
  obtain ⟨h1, h2, g', ec, h3, h4, h5, h6⟩ := h i hi
  have e : (w.setCell ⟨b, o, none⟩ v).heap[g]? = w.heap[g]? := Below.heap_setCell _ _ _ _ (fun h => hb h.symm)
  exact ⟨(World.cell?_of_block (w := w) e).trans h1, (World.cell?_of_block (w := w) e).trans h2, g', ec, (World.cell?_of_block (w := w) e).trans h3, h4, h5, h6.setOther (by omega) o v⟩
end Go.Proofs.Ytmkdgnmmebldgaa
