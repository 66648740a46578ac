import Derived.Test.YtmkdgnmmebldgaaGreatEx1
import Derived.RegionTactic
import Derived.Deep.RegionWith
import Derived.Deep.QuietTactic
import Derived.BigQuiet
namespace Go.Proofs.YtmkdgnmmebldgaaGreat
open Go.RowKit

structure MPiece where
  name : ByteArray
  len : Int
  speed : Int
  brake : Int
structure MEnd where
  piece : Int
  side : Int
structure MJoint where
  kind : Int
  name : ByteArray
  ends : List MEnd

theorem cellLt {w : World} {a : Addr} {v : Value} (h : w.cell? a = some v) : a.block < w.heap.size := World.block_lt_of_cell? _ _ h

/-- The cells of pieces, one after the other, from an address on. -/
def PieceCells (w : World) (b off : Nat) (ps : List MPiece) : Prop :=
  ∀ i (h : i < ps.length), w.cell? ⟨b, off + i * 4, none⟩ = some (.string ps[i].name) ∧ w.cell? ⟨b, off + i * 4 + 1, none⟩ = some (.int .i64 ps[i].len) ∧
    w.cell? ⟨b, off + i * 4 + 2, none⟩ = some (.int .i64 ps[i].speed) ∧ w.cell? ⟨b, off + i * 4 + 3, none⟩ = some (.int .i64 ps[i].brake)

theorem PieceCells.below {w w' : World} {b off : Nat} {ps : List MPiece} (h : PieceCells w b off ps) (hb : Below w.heap.size w w') : PieceCells w' b off ps := by
  intro i hi
  obtain ⟨h1, h2, h3, h4⟩ := h i hi
  exact ⟨cell_later hb h1, cell_later hb h2, cell_later hb h3, cell_later hb h4⟩

/-- A slice that reads as pieces. -/
def PiecesAt (w : World) (a : Option Addr) (ps : List MPiece) : Prop :=
  ps.length ≤ maxLen ∧ (∀ p, p ∈ ps → p.name.size ≤ maxLen) ∧ (ps = [] ∨ ∃ b off, a = some ⟨b, off, none⟩ ∧ PieceCells w b off ps)

theorem PiecesAt.below {w w' : World} {a : Option Addr} {ps : List MPiece} (h : PiecesAt w a ps) (hb : Below w.heap.size w w') : PiecesAt w' a ps := by
  obtain ⟨h1, h2, h3⟩ := h
  refine ⟨h1, h2, ?_⟩
  rcases h3 with h3 | ⟨b, off, h3, h4⟩
  · exact Or.inl h3
  · exact Or.inr ⟨b, off, h3, h4.below hb⟩

/-- What is left behind the first k pieces; -1 when it is used up. -/
def szP (left : Int) : List MPiece → Int
  | [] => left
  | p :: r => if left < p.name.size then -1 else szP (left - p.name.size) r

set_option maxHeartbeats 400000 in
theorem szPieceS_walk (b off cap : Nat) (ps : List MPiece) (left : Int) (w : World) (hl : ps.length ≤ maxLen) (hn : Hid (∀ p, p ∈ ps → p.name.size ≤ maxLen)) (hc : Hid (PieceCells w b off ps)) (h0 : 0 ≤ left) (h1 : left ≤ 1048576) :
    Calls Tryz.prog 17 #[.slice (some ⟨b, off, none⟩) ps.length cap, .int .i64 left] w fun e w' => e = .returned (.int .i64 (if left < ps.length then -1 else szP (left - ps.length) ps)) ∧ Below w.heap.size w w' := by
  unfold maxLen at hl


  by_cases hlt : left < ps.length
  · rw [if_pos hlt]
    go_enter Tryz.func17, Tryz.ntmps17
    go_wp2
    go_ret
    exact ⟨rfl, (by repeat (first | exact Below.refl _ _ | assumption | refine Below.drew ?_ | refine bdrewN ?_ _ | refine Below.setCell ?_ (by first | omega | (simp; done) | (simp; omega)) _ | refine Below.alloc ?_ (by first | omega | (simp; done) | (simp; omega)) _))⟩
  · rw [if_neg hlt]
    go_enter Tryz.func17, Tryz.ntmps17
    go_wp2_with fail
    go_loopw [1, 5] (fun l i wr => ∃ (k : Nat) (lf : Int), k ≤ ps.length ∧ i = .int .i64 k ∧ l = .int .i64 lf ∧ 0 ≤ lf ∧ lf ≤ 1048576 ∧ Hid (szP (left - ps.length) ps = szP lf (ps.drop k)) ∧ Below w.heap.size w wr) (fun _ i _ => ps.length - (intOf i).toNat)
    case atStart => exact ⟨0, left - ps.length, Nat.zero_le _, rfl, rfl, by omega, by omega, rfl, (by repeat (first | exact Below.refl _ _ | assumption | refine Below.drew ?_ | refine bdrewN ?_ _ | refine Below.setCell ?_ (by first | omega | (simp; done) | (simp; omega)) _ | refine Below.alloc ?_ (by first | omega | (simp; done) | (simp; omega)) _))⟩
    case round =>
      obtain ⟨k, lf, hk, rfl, rfl, hf0, hf1, HZ, hb⟩ := hrel
      by_cases hk' : k < ps.length
      · obtain ⟨c1, c2, c3, c4⟩ := (hc.out.below hb) k hk'
        have hsz : ps[k].name.size ≤ maxLen := hn.out _ (List.getElem_mem hk')
        have HD : Hid (szP lf (ps.drop k) = if lf < ps[k].name.size then -1 else szP (lf - ps[k].name.size) (ps.drop (k + 1))) := by
          unfold Hid
          rw [List.drop_eq_getElem_cons hk']
          rfl
        by_cases hs : lf < ps[k].name.size
        · have HE : Hid (szP (left - ps.length) ps = -1) := by
            have h := HD.out
            rw [if_pos hs] at h
            exact HZ.out.trans h
          clear HZ HD
          go_wp2_with (go_at_call 48; refine (szPiece_any _ _ _ _ _ _ hsz hf0 hf1).mono ?_; rintro e w1 ⟨rfl, hb1⟩; rw [if_pos hs])
          go_ret
          exact ⟨ret_int HE.out.symm, hb.trans (hb1.mono hb.size)⟩
        · have HE : Hid (szP (left - ps.length) ps = szP (lf - ps[k].name.size) (ps.drop (k + 1))) := by
            have h := HD.out
            rw [if_neg hs] at h
            exact HZ.out.trans h
          clear HZ HD
          go_wp2_with (go_at_call 48; refine (szPiece_any _ _ _ _ _ _ hsz hf0 hf1).mono ?_; rintro e w1 ⟨rfl, hb1⟩; rw [if_neg hs])
          go_roundw
          case rel => exact ⟨k + 1, _, by omega, by go_num, rfl, by omega, by omega, HE, hb.trans (hb1.mono hb.size)⟩
          case measure => simp [intOf]; omega
      · have HE : Hid (szP (left - ps.length) ps = lf) := by
          have h := HZ.out
          rw [List.drop_of_length_le (by omega)] at h
          exact h
        clear HZ
        go_wp2
        go_ret
        exact ⟨ret_int HE.out.symm, hb⟩

set_option maxHeartbeats 400000 in
theorem szPieceS_nil (a : Option Addr) (cap : Nat) (left : Int) (w : World) (h0 : 0 ≤ left) (h1 : left ≤ 1048576) :
    Calls Tryz.prog 17 #[.slice a 0 cap, .int .i64 left] w fun e w' => e = .returned (.int .i64 left) ∧ Below w.heap.size w w' := by
  go_enter Tryz.func17, Tryz.ntmps17
  go_wp2_with fail
  go_loopw [1, 5] (fun l i wr => i = .int .i64 0 ∧ l = .int .i64 left ∧ wr = w) (fun _ _ _ => 0)
  case atStart => exact ⟨rfl, by simp, rfl⟩
  case round =>
    obtain ⟨rfl, rfl, rfl⟩ := hrel
    go_wp2
    go_ret
    exact ⟨rfl, (by repeat (first | exact Below.refl _ _ | assumption | refine Below.drew ?_ | refine bdrewN ?_ _ | refine Below.setCell ?_ (by first | omega | (simp; done) | (simp; omega)) _ | refine Below.alloc ?_ (by first | omega | (simp; done) | (simp; omega)) _))⟩

theorem szPieceS_any (a : Option Addr) (cap : Nat) (ps : List MPiece) (left : Int) (w : World) (hp : PiecesAt w a ps) (h0 : 0 ≤ left) (h1 : left ≤ 1048576) :
    Calls Tryz.prog 17 #[.slice a ps.length cap, .int .i64 left] w fun e w' => e = .returned (.int .i64 (if left < ps.length then -1 else szP (left - ps.length) ps)) ∧ Below w.heap.size w w' := by
  obtain ⟨hl, hn, h⟩ := hp
  rcases h with rfl | ⟨b, off, rfl, hc⟩
  · rw [if_neg (by simp; omega)]
    have := szPieceS_nil a cap left w h0 h1
    simpa [szP] using this
  · exact szPieceS_walk b off cap ps left w hl hn hc h0 h1

/-- The cells of ends. -/
def EndCells (w : World) (b off : Nat) (es : List MEnd) : Prop :=
  ∀ i (h : i < es.length), w.cell? ⟨b, off + i * 2, none⟩ = some (.int .i64 es[i].piece) ∧ w.cell? ⟨b, off + i * 2 + 1, none⟩ = some (.int .i64 es[i].side)

theorem EndCells.below {w w' : World} {b off : Nat} {es : List MEnd} (h : EndCells w b off es) (hb : Below w.heap.size w w') : EndCells w' b off es := by
  intro i hi
  obtain ⟨h1, h2⟩ := h i hi
  exact ⟨cell_later hb h1, cell_later hb h2⟩

def EndsAt (w : World) (a : Option Addr) (es : List MEnd) : Prop :=
  es.length ≤ maxLen ∧ (es = [] ∨ ∃ b off, a = some ⟨b, off, none⟩ ∧ EndCells w b off es)

theorem EndsAt.below {w w' : World} {a : Option Addr} {es : List MEnd} (h : EndsAt w a es) (hb : Below w.heap.size w w') : EndsAt w' a es := by
  obtain ⟨h1, h3⟩ := h
  refine ⟨h1, ?_⟩
  rcases h3 with h3 | ⟨b, off, h3, h4⟩
  · exact Or.inl h3
  · exact Or.inr ⟨b, off, h3, h4.below hb⟩

/-- The cells of joints. -/
def JointCells (w : World) (b off : Nat) (js : List MJoint) : Prop :=
  ∀ i (h : i < js.length), w.cell? ⟨b, off + i * 3, none⟩ = some (.int .i64 js[i].kind) ∧ w.cell? ⟨b, off + i * 3 + 1, none⟩ = some (.string js[i].name) ∧
    ∃ ea ec, w.cell? ⟨b, off + i * 3 + 2, none⟩ = some (.slice ea js[i].ends.length ec) ∧ EndsAt w ea js[i].ends

theorem JointCells.below {w w' : World} {b off : Nat} {js : List MJoint} (h : JointCells w b off js) (hb : Below w.heap.size w w') : JointCells w' b off js := by
  intro i hi
  obtain ⟨h1, h2, ea, ec, h3, h4⟩ := h i hi
  exact ⟨cell_later hb h1, cell_later hb h2, ea, ec, cell_later hb h3, h4.below hb⟩

def JointsAt (w : World) (a : Option Addr) (js : List MJoint) : Prop :=
  js.length ≤ maxLen ∧ (∀ p, p ∈ js → p.name.size ≤ maxLen) ∧ (js = [] ∨ ∃ b off, a = some ⟨b, off, none⟩ ∧ JointCells w b off js)

theorem JointsAt.below {w w' : World} {a : Option Addr} {js : List MJoint} (h : JointsAt w a js) (hb : Below w.heap.size w w') : JointsAt w' a js := by
  obtain ⟨h1, h2, h3⟩ := h
  refine ⟨h1, h2, ?_⟩
  rcases h3 with h3 | ⟨b, off, h3, h4⟩
  · exact Or.inl h3
  · exact Or.inr ⟨b, off, h3, h4.below hb⟩

def szJ (left : Int) : List MJoint → Int
  | [] => left
  | p :: r => if left < p.name.size then -1 else if left - p.name.size < p.ends.length then -1 else szJ (left - p.name.size - p.ends.length) r

def szJ1 (left : Int) (a b : Nat) : Int := if left < a then -1 else if left - a < b then -1 else left - a - b

set_option maxHeartbeats 400000 in
theorem szJoint_any (kd : Int) (s : ByteArray) (ea : Option Addr) (el ec : Nat) (left : Int) (w : World) (hs : s.size ≤ maxLen) (he : el ≤ maxLen) (h0 : 0 ≤ left) (h1 : left ≤ 1048576) :
    Calls Tryz.prog 49 #[.agg #[.int .i64 kd, .string s, .slice ea el ec], .int .i64 left] w fun e w' => e = .returned (.int .i64 (szJ1 left s.size el)) ∧ Below w.heap.size w w' := by
  unfold maxLen at hs
  unfold szJ1
  by_cases hl : left < s.size
  · rw [if_pos hl]
    go_enter Tryz.func49, Tryz.ntmps49
    go_wp2
    go_ret
    exact ⟨rfl, (by repeat (first | exact Below.refl _ _ | assumption | refine Below.drew ?_ | refine bdrewN ?_ _ | refine Below.setCell ?_ (by first | omega | (simp; done) | (simp; omega)) _ | refine Below.alloc ?_ (by first | omega | (simp; done) | (simp; omega)) _))⟩
  · rw [if_neg hl]
    by_cases hl2 : left - s.size < el
    · rw [if_pos hl2]
      go_enter Tryz.func49, Tryz.ntmps49
      go_wp2_with (go_at_call 77; refine (szEndS_any _ _ _ _ _ he (by omega) (by omega)).mono ?_; rintro e w1 ⟨rfl, hb1⟩; rw [if_pos hl2])
      go_ret
      exact ⟨rfl, (show Below w.heap.size w (w.alloc _) from (by repeat (first | exact Below.refl _ _ | assumption | refine Below.drew ?_ | refine bdrewN ?_ _ | refine Below.setCell ?_ (by first | omega | (simp; done) | (simp; omega)) _ | refine Below.alloc ?_ (by first | omega | (simp; done) | (simp; omega)) _))).trans (hb1.mono (by simp))⟩
    · rw [if_neg hl2]
      go_enter Tryz.func49, Tryz.ntmps49
      go_wp2_with (go_at_call 77; refine (szEndS_any _ _ _ _ _ he (by omega) (by omega)).mono ?_; rintro e w1 ⟨rfl, hb1⟩; rw [if_neg hl2])
      go_ret
      exact ⟨rfl, (show Below w.heap.size w (w.alloc _) from (by repeat (first | exact Below.refl _ _ | assumption | refine Below.drew ?_ | refine bdrewN ?_ _ | refine Below.setCell ?_ (by first | omega | (simp; done) | (simp; omega)) _ | refine Below.alloc ?_ (by first | omega | (simp; done) | (simp; omega)) _))).trans (hb1.mono (by simp))⟩

theorem szJ1_cons (left : Int) (p : MJoint) (r : List MJoint) : szJ left (p :: r) = if szJ1 left p.name.size p.ends.length < 0 then -1 else szJ (szJ1 left p.name.size p.ends.length) r := by
  by_cases h : left < p.name.size
  · have e : szJ1 left p.name.size p.ends.length = -1 := by unfold szJ1; rw [if_pos h]
    rw [e]; simp [szJ, h]
  · by_cases h2 : left - p.name.size < p.ends.length
    · have e : szJ1 left p.name.size p.ends.length = -1 := by unfold szJ1; rw [if_neg h, if_pos h2]
      rw [e]; simp [szJ, h, h2]
    · have e : szJ1 left p.name.size p.ends.length = left - p.name.size - p.ends.length := by unfold szJ1; rw [if_neg h, if_neg h2]
      rw [e, if_neg (by omega)]
      simp [szJ, h, h2]
theorem szJ1_le (left : Int) (h0 : 0 ≤ left) (a b : Nat) : szJ1 left a b ≤ left := by
  unfold szJ1
  split
  · omega
  · split <;> omega
theorem szJ1_neg (left : Int) (a b : Nat) (h : szJ1 left a b < 0) : szJ1 left a b = -1 := by
  unfold szJ1 at h ⊢
  split
  · rfl
  · split
    · rfl
    · rename_i h1 h2
      rw [if_neg h1, if_neg h2] at h
      omega

set_option maxHeartbeats 400000 in
theorem szJointS_walk (b off cap : Nat) (ps : List MJoint) (left : Int) (w : World) (hl : ps.length ≤ maxLen) (hn : Hid (∀ p, p ∈ ps → p.name.size ≤ maxLen)) (hc : Hid (JointCells w b off ps)) (h0 : 0 ≤ left) (h1 : left ≤ 1048576) :
    Calls Tryz.prog 18 #[.slice (some ⟨b, off, none⟩) ps.length cap, .int .i64 left] w fun e w' => e = .returned (.int .i64 (if left < ps.length then -1 else szJ (left - ps.length) ps)) ∧ Below w.heap.size w w' := by
  unfold maxLen at hl
  by_cases hlt : left < ps.length
  · rw [if_pos hlt]
    go_enter Tryz.func18, Tryz.ntmps18
    go_wp2
    go_ret
    exact ⟨rfl, (by repeat (first | exact Below.refl _ _ | assumption | refine Below.drew ?_ | refine bdrewN ?_ _ | refine Below.setCell ?_ (by first | omega | (simp; done) | (simp; omega)) _ | refine Below.alloc ?_ (by first | omega | (simp; done) | (simp; omega)) _))⟩
  · rw [if_neg hlt]
    go_enter Tryz.func18, Tryz.ntmps18
    go_wp2_with fail
    go_loopw [1, 5] (fun l i wr => ∃ (k : Nat) (lf : Int), k ≤ ps.length ∧ i = .int .i64 k ∧ l = .int .i64 lf ∧ 0 ≤ lf ∧ lf ≤ 1048576 ∧ Hid (szJ (left - ps.length) ps = szJ lf (ps.drop k)) ∧ Below w.heap.size w wr) (fun _ i _ => ps.length - (intOf i).toNat)
    case atStart => exact ⟨0, left - ps.length, Nat.zero_le _, rfl, rfl, by omega, by omega, rfl, (by repeat (first | exact Below.refl _ _ | assumption | refine Below.drew ?_ | refine bdrewN ?_ _ | refine Below.setCell ?_ (by first | omega | (simp; done) | (simp; omega)) _ | refine Below.alloc ?_ (by first | omega | (simp; done) | (simp; omega)) _))⟩
    case round =>
      obtain ⟨k, lf, hk, rfl, rfl, hf0, hf1, HZ, hb⟩ := hrel
      by_cases hk' : k < ps.length
      · obtain ⟨c1, c2, ea, ec, c3, c4⟩ := (hc.out.below hb) k hk'
        have hel := c4.1
        clear c4
        have hsz : ps[k].name.size ≤ maxLen := hn.out _ (List.getElem_mem hk')
        have HD : Hid (szJ lf (ps.drop k) = if szJ1 lf ps[k].name.size ps[k].ends.length < 0 then -1 else szJ (szJ1 lf ps[k].name.size ps[k].ends.length) (ps.drop (k + 1))) := by
          unfold Hid
          rw [List.drop_eq_getElem_cons hk']
          exact szJ1_cons lf _ _
        have hle := szJ1_le lf hf0 ps[k].name.size ps[k].ends.length
        have HNEG : Hid (szJ1 lf ps[k].name.size ps[k].ends.length < 0 → szJ1 lf ps[k].name.size ps[k].ends.length = -1) := szJ1_neg lf _ _
        by_cases hs : szJ1 lf ps[k].name.size ps[k].ends.length < 0
        · have HE : Hid (szJ (left - ps.length) ps = -1) := by
            have h := HD.out
            rw [if_pos hs] at h
            exact HZ.out.trans h
          clear HZ HD
          go_wp2_with (go_at_call 49; refine (szJoint_any _ _ _ _ _ _ _ hsz hel hf0 hf1).mono ?_; rintro e w1 ⟨rfl, hb1⟩; rw [HNEG.out hs])
          go_ret
          exact ⟨ret_int HE.out.symm, hb.trans (hb1.mono hb.size)⟩
        · have HE : Hid (szJ (left - ps.length) ps = szJ (szJ1 lf ps[k].name.size ps[k].ends.length) (ps.drop (k + 1))) := by
            have h := HD.out
            rw [if_neg hs] at h
            exact HZ.out.trans h
          clear HZ HD
          go_wp2_with (go_at_call 49; refine (szJoint_any _ _ _ _ _ _ _ hsz hel hf0 hf1).mono ?_; rintro e w1 ⟨rfl, hb1⟩)
          go_roundw
          case rel => exact ⟨k + 1, _, by omega, by go_num, rfl, by omega, by omega, HE, hb.trans (hb1.mono hb.size)⟩
          case measure => simp [intOf]; omega
      · have HE : Hid (szJ (left - ps.length) ps = lf) := by
          have h := HZ.out
          rw [List.drop_of_length_le (by omega)] at h
          exact h
        clear HZ
        go_wp2
        go_ret
        exact ⟨ret_int HE.out.symm, hb⟩

set_option maxHeartbeats 400000 in
theorem szJointS_nil (a : Option Addr) (cap : Nat) (left : Int) (w : World) (h0 : 0 ≤ left) (h1 : left ≤ 1048576) :
    Calls Tryz.prog 18 #[.slice a 0 cap, .int .i64 left] w fun e w' => e = .returned (.int .i64 left) ∧ Below w.heap.size w w' := by
  go_enter Tryz.func18, Tryz.ntmps18
  go_wp2_with fail
  go_loopw [1, 5] (fun l i wr => i = .int .i64 0 ∧ l = .int .i64 left ∧ wr = w) (fun _ _ _ => 0)
  case atStart => exact ⟨rfl, by simp, rfl⟩
  case round =>
    obtain ⟨rfl, rfl, rfl⟩ := hrel
    go_wp2
    go_ret
    exact ⟨rfl, (by repeat (first | exact Below.refl _ _ | assumption | refine Below.drew ?_ | refine bdrewN ?_ _ | refine Below.setCell ?_ (by first | omega | (simp; done) | (simp; omega)) _ | refine Below.alloc ?_ (by first | omega | (simp; done) | (simp; omega)) _))⟩

theorem szJointS_any (a : Option Addr) (cap : Nat) (ps : List MJoint) (left : Int) (w : World) (hp : JointsAt w a ps) (h0 : 0 ≤ left) (h1 : left ≤ 1048576) :
    Calls Tryz.prog 18 #[.slice a ps.length cap, .int .i64 left] w fun e w' => e = .returned (.int .i64 (if left < ps.length then -1 else szJ (left - ps.length) ps)) ∧ Below w.heap.size w w' := by
  obtain ⟨hl, hn, h⟩ := hp
  rcases h with rfl | ⟨b, off, rfl, hc⟩
  · rw [if_neg (by simp; omega)]
    have := szJointS_nil a cap left w h0 h1
    simpa [szJ] using this
  · exact szJointS_walk b off cap ps left w hl hn hc h0 h1

end Go.Proofs.YtmkdgnmmebldgaaGreat

namespace Go.Proofs.YtmkdgnmmebldgaaGreat
open Go.RowKit

theorem hidQ {p : Prop} (h : p) : Hid p := h

/-- The first of n that is bad; -1 when there is none. -/
def firstBad (bad : Nat → Bool) (n : Nat) : Int :=
  match (List.range n).find? bad with
  | some i => i
  | none => -1

theorem firstBad_none {bad : Nat → Bool} {n : Nat} (h : ∀ i, i < n → bad i = false) : firstBad bad n = -1 := by
  have e : (List.range n).find? bad = none := by
    rw [List.find?_eq_none]
    intro i hi
    rw [h i (List.mem_range.1 hi)]
    simp
  simp [firstBad, e]

theorem find_first {bad : Nat → Bool} : ∀ (n i : Nat), i < n → bad i = true → (∀ k, k < i → bad k = false) → (List.range n).find? bad = some i
  | 0, i, h, _, _ => absurd h (Nat.not_lt_zero i)
  | n + 1, i, h, hb, hk => by
    rw [List.range_succ, List.find?_append]
    by_cases e : i < n
    · rw [find_first n i e hb hk]; rfl
    · have : i = n := by omega
      subst this
      have : (List.range i).find? bad = none := by
        rw [List.find?_eq_none]
        intro j hj
        rw [hk j (List.mem_range.1 hj)]
        simp
      rw [this]
      simp [hb]

theorem firstBad_hit {bad : Nat → Bool} {n i : Nat} (h : i < n) (hb : bad i = true) (hk : ∀ k, k < i → bad k = false) : firstBad bad n = i := by
  simp [firstBad, find_first n i h hb hk]

theorem firstBad_cases (bad : Nat → Bool) (n : Nat) : (firstBad bad n = -1 ∧ ∀ i, i < n → bad i = false) ∨ ∃ i, i < n ∧ firstBad bad n = (i : Int) ∧ bad i = true ∧ ∀ k, k < i → bad k = false := by
  induction n with
  | zero => exact Or.inl ⟨rfl, fun i h => absurd h (Nat.not_lt_zero i)⟩
  | succ n ih =>
    rcases ih with ⟨_, h⟩ | ⟨i, hi, _, hb, hk⟩
    · cases hb : bad n
      · have h' : ∀ i, i < n + 1 → bad i = false := by
          intro i hi
          by_cases e : i < n
          · exact h i e
          · have : i = n := by omega
            subst this; exact hb
        exact Or.inl ⟨firstBad_none h', h'⟩
      · exact Or.inr ⟨n, by omega, firstBad_hit (by omega) hb h, hb, h⟩
    · exact Or.inr ⟨i, by omega, firstBad_hit (by omega) hb hk, hb, hk⟩

/-- How often an end stands among ends; in joints. -/
def usesIn (es : List MEnd) (p s : Int) : Nat := es.countP fun e => e.piece == p && e.side == s
def uses (js : List MJoint) (p s : Int) : Nat := usesIn (js.flatMap (·.ends)) p s

theorem usesIn_le (es : List MEnd) (p s : Int) : usesIn es p s ≤ es.length := List.countP_le_length
theorem usesIn_succ (es : List MEnd) (p s : Int) (k : Nat) (h : k < es.length) : usesIn (es.take (k + 1)) p s = usesIn (es.take k) p s + if (es[k].piece == p && es[k].side == s) = true then 1 else 0 := by
  unfold usesIn
  rw [List.take_succ_eq_append_getElem h, List.countP_append, List.countP_singleton]
theorem uses_succ (js : List MJoint) (p s : Int) (k : Nat) (h : k < js.length) : uses (js.take (k + 1)) p s = uses (js.take k) p s + usesIn js[k].ends p s := by
  unfold uses usesIn
  rw [List.take_succ_eq_append_getElem h, List.flatMap_append, List.countP_append]
  simp

def endsNo (js : List MJoint) : Nat := (js.flatMap (·.ends)).length
theorem uses_le (js : List MJoint) (p s : Int) (k : Nat) : uses (js.take k) p s ≤ endsNo js := by
  unfold uses endsNo
  refine Nat.le_trans (usesIn_le _ p s) ?_
  have : (js.flatMap (·.ends)) = (js.take k).flatMap (·.ends) ++ (js.drop k).flatMap (·.ends) := by
    rw [← List.flatMap_append, List.take_append_drop]
  rw [this]; simp

def ok3 (np : Nat) (j : MJoint) : Bool := inB j.kind 1 4 && ((j.ends.length : Int) == j.kind) && j.ends.all fun e => endB np e.piece e.side
def aheadB (names : List ByteArray) (s : ByteArray) : Bool := names.any fun t => decide (t = s)
def names (js : List MJoint) : List ByteArray := js.map (·.name)
def ok4 (js : List MJoint) (i : Nat) (j : MJoint) : Bool := if j.kind < 3 then decide (j.name = ⟨#[]⟩) else nameB j.name && !aheadB (names (js.take i)) j.name
def jointC (js : List MJoint) (np i : Nat) (j : MJoint) : Int := if ok3 np j = false then 3 else if ok4 js i j = false then 4 else 0

theorem jointC_3a {js : List MJoint} {np i : Nat} {j : MJoint} (h : inB j.kind 1 4 = false) : jointC js np i j = 3 := by simp [jointC, ok3, h]
theorem jointC_3b {js : List MJoint} {np i : Nat} {j : MJoint} (h : ((j.ends.length : Int) == j.kind) = false) : jointC js np i j = 3 := by simp only [jointC, ok3, h]; simp
theorem jointC_3c {js : List MJoint} {np i : Nat} {j : MJoint} (m : Nat) (hm : m < j.ends.length) (h : endB np j.ends[m].piece j.ends[m].side = false) : jointC js np i j = 3 := by
  have : (j.ends.all fun e => endB np e.piece e.side) = false := List.all_eq_false.2 ⟨_, List.getElem_mem hm, by simp [h]⟩
  simp only [jointC, ok3, this]; simp
theorem ok3_of {np : Nat} {j : MJoint} (h1 : inB j.kind 1 4 = true) (h2 : ((j.ends.length : Int) == j.kind) = true) (h3 : ∀ m (hm : m < j.ends.length), endB np j.ends[m].piece j.ends[m].side = true) : ok3 np j = true := by
  have : (j.ends.all fun e => endB np e.piece e.side) = true := by
    rw [List.all_eq_true]
    intro e he
    obtain ⟨m, hm, rfl⟩ := List.getElem_of_mem he
    exact h3 m hm
  simp only [ok3, h1, h2, this]; simp
theorem jointC_4a {js : List MJoint} {np i : Nat} {j : MJoint} (h : ok3 np j = true) (hk : j.kind < 3) (hn : j.name ≠ ⟨#[]⟩) : jointC js np i j = 4 := by
  simp [jointC, h, ok4, hk, hn]
theorem jointC_0a {js : List MJoint} {np i : Nat} {j : MJoint} (h : ok3 np j = true) (hk : j.kind < 3) (hn : j.name = ⟨#[]⟩) : jointC js np i j = 0 := by
  simp [jointC, h, ok4, hk, hn]
theorem jointC_4b {js : List MJoint} {np i : Nat} {j : MJoint} (h : ok3 np j = true) (hk : ¬ j.kind < 3) (hn : nameB j.name = false) : jointC js np i j = 4 := by
  simp [jointC, h, ok4, hk, hn]
theorem aheadB_hit {js : List MJoint} {i m : Nat} {s : ByteArray} (hm : m < i) (hi : m < js.length) (h : js[m].name = s) : aheadB (names (js.take i)) s = true := by
  unfold aheadB names
  rw [List.any_eq_true]
  refine ⟨js[m].name, ?_, by simp [h]⟩
  rw [List.mem_map]
  refine ⟨js[m], ?_, rfl⟩
  rw [List.mem_take_iff_getElem]
  exact ⟨m, by omega, rfl⟩
theorem aheadB_none {js : List MJoint} {i : Nat} {s : ByteArray} (h : ∀ m (hm : m < js.length), m < i → js[m].name ≠ s) : aheadB (names (js.take i)) s = false := by
  unfold aheadB names
  rw [List.any_eq_false]
  intro t ht
  rw [List.mem_map] at ht
  obtain ⟨j, hj, rfl⟩ := ht
  rw [List.mem_take_iff_getElem] at hj
  obtain ⟨m, hm, rfl⟩ := hj
  have := h m (by omega) (by omega)
  simpa using this
theorem jointC_4c {js : List MJoint} {np i : Nat} {j : MJoint} (h : ok3 np j = true) (hk : ¬ j.kind < 3) (hn : aheadB (names (js.take i)) j.name = true) : jointC js np i j = 4 := by
  simp [jointC, h, ok4, hk, hn]
theorem jointC_0b {js : List MJoint} {np i : Nat} {j : MJoint} (h : ok3 np j = true) (hk : ¬ j.kind < 3) (hn : nameB j.name = true) (ha : aheadB (names (js.take i)) j.name = false) : jointC js np i j = 0 := by
  simp [jointC, h, ok4, hk, hn, ha]

def namesP (ps : List MPiece) : List ByteArray := ps.map (·.name)
def okP (ps : List MPiece) (i : Nat) (p : MPiece) : Bool := pieceB p.name p.len p.speed p.brake && !aheadB (namesP (ps.take i)) p.name
def badPi (ps : List MPiece) (i : Nat) : Bool := match ps[i]? with | some p => !okP ps i p | none => false
def bad3i (np : Nat) (js : List MJoint) (i : Nat) : Bool := match js[i]? with | some j => !ok3 np j | none => false
def bad4i (js : List MJoint) (i : Nat) : Bool := match js[i]? with | some j => !ok4 js i j | none => false
def bad5i (js : List MJoint) (i : Nat) : Bool := !(decide (uses js i 0 = 1) && decide (uses js i 1 = 1))

theorem badPi_at {ps : List MPiece} {i : Nat} (h : i < ps.length) : badPi ps i = !okP ps i ps[i] := by simp [badPi, h]
theorem bad3i_at {np : Nat} {js : List MJoint} {i : Nat} (h : i < js.length) : bad3i np js i = !ok3 np js[i] := by simp [bad3i, h]
theorem bad4i_at {js : List MJoint} {i : Nat} (h : i < js.length) : bad4i js i = !ok4 js i js[i] := by simp [bad4i, h]

theorem aheadP_hit {js : List MPiece} {i m : Nat} {s : ByteArray} (hm : m < i) (hi : m < js.length) (h : js[m].name = s) : aheadB (namesP (js.take i)) s = true := by
  unfold aheadB namesP
  rw [List.any_eq_true]
  refine ⟨js[m].name, ?_, by simp [h]⟩
  rw [List.mem_map]
  refine ⟨js[m], ?_, rfl⟩
  rw [List.mem_take_iff_getElem]
  exact ⟨m, by omega, rfl⟩
theorem aheadP_none {js : List MPiece} {i : Nat} {s : ByteArray} (h : ∀ m (hm : m < js.length), m < i → js[m].name ≠ s) : aheadB (namesP (js.take i)) s = false := by
  unfold aheadB namesP
  rw [List.any_eq_false]
  intro t ht
  rw [List.mem_map] at ht
  obtain ⟨j, hj, rfl⟩ := ht
  rw [List.mem_take_iff_getElem] at hj
  obtain ⟨m, hm, rfl⟩ := hj
  have := h m (by omega) (by omega)
  simpa using this

/-- The fault of a net: its code, its place. -/
def netF (ps : List MPiece) (js : List MJoint) : Int × Int :=
  if sizeB ps.length js.length = false then (1, 0)
  else if 0 ≤ firstBad (badPi ps) ps.length then (2, firstBad (badPi ps) ps.length)
  else if 0 ≤ firstBad (bad3i ps.length js) js.length then (3, firstBad (bad3i ps.length js) js.length)
  else if 0 ≤ firstBad (bad4i js) js.length then (4, firstBad (bad4i js) js.length)
  else if 0 ≤ firstBad (bad5i js) ps.length then (5, firstBad (bad5i js) ps.length)
  else (0, 0)

section
variable {ps : List MPiece} {js : List MJoint}
theorem netF_1 (h : sizeB ps.length js.length = false) : netF ps js = (1, 0) := by simp [netF, h]
theorem netF_2 (h : sizeB ps.length js.length = true) {i : Nat} (hi : i < ps.length) (hb : badPi ps i = true) (hk : ∀ k, k < i → badPi ps k = false) : netF ps js = (2, (i : Int)) := by
  have e := firstBad_hit hi hb hk
  unfold netF
  rw [h, if_neg (by simp), e, if_pos (by omega)]
theorem netF_3 (h : sizeB ps.length js.length = true) (h2 : ∀ k, k < ps.length → badPi ps k = false) {i : Nat} (hi : i < js.length) (hb : bad3i ps.length js i = true) (hk : ∀ k, k < i → bad3i ps.length js k = false) : netF ps js = (3, (i : Int)) := by
  have e := firstBad_hit hi hb hk
  unfold netF
  rw [h, if_neg (by simp), firstBad_none h2, if_neg (by omega), e, if_pos (by omega)]
theorem netF_4 (h : sizeB ps.length js.length = true) (h2 : ∀ k, k < ps.length → badPi ps k = false) (h3 : ∀ k, k < js.length → bad3i ps.length js k = false) {i : Nat} (hi : i < js.length) (hb : bad4i js i = true) (hk : ∀ k, k < i → bad4i js k = false) : netF ps js = (4, (i : Int)) := by
  have e := firstBad_hit hi hb hk
  unfold netF
  rw [h, if_neg (by simp), firstBad_none h2, if_neg (by omega), firstBad_none h3, if_neg (by omega), e, if_pos (by omega)]
theorem netF_5 (h : sizeB ps.length js.length = true) (h2 : ∀ k, k < ps.length → badPi ps k = false) (h3 : ∀ k, k < js.length → bad3i ps.length js k = false) (h4 : ∀ k, k < js.length → bad4i js k = false) {i : Nat} (hi : i < ps.length) (hb : bad5i js i = true) (hk : ∀ k, k < i → bad5i js k = false) : netF ps js = (5, (i : Int)) := by
  have e := firstBad_hit hi hb hk
  unfold netF
  rw [h, if_neg (by simp), firstBad_none h2, if_neg (by omega), firstBad_none h3, if_neg (by omega), firstBad_none h4, if_neg (by omega), e, if_pos (by omega)]
theorem netF_0 (h : sizeB ps.length js.length = true) (h2 : ∀ k, k < ps.length → badPi ps k = false) (h3 : ∀ k, k < js.length → bad3i ps.length js k = false) (h4 : ∀ k, k < js.length → bad4i js k = false) (h5 : ∀ k, k < ps.length → bad5i js k = false) : netF ps js = (0, 0) := by
  unfold netF
  rw [h, if_neg (by simp), firstBad_none h2, if_neg (by omega), firstBad_none h3, if_neg (by omega), firstBad_none h4, if_neg (by omega), firstBad_none h5, if_neg (by omega)]
end

/-- Joints that are all right (3) hold few ends. -/
theorem endsNo_le (np : Nat) : ∀ (js : List MJoint), (∀ j, j ∈ js → ok3 np j = true) → endsNo js ≤ 4 * js.length
  | [], _ => by simp [endsNo]
  | j :: r, h => by
    have h1 := h j List.mem_cons_self
    have h2 := endsNo_le np r (fun x hx => h x (List.mem_cons_of_mem _ hx))
    have h3 : j.ends.length ≤ 4 := by
      unfold ok3 inB at h1
      simp at h1
      omega
    unfold endsNo at h2 ⊢
    simp only [List.flatMap_cons, List.length_append, List.length_cons]
    omega

end Go.Proofs.YtmkdgnmmebldgaaGreat

namespace Go.Proofs.YtmkdgnmmebldgaaGreat
open Go.RowKit

section
variable {P : Program} (w : World)
theorem run_typeAssert_hit (xt t : TypeId) (v : Value) (fs : Array Field) (hu : P.underlying t = some (.struct fs)) :
    (Instr.typeAssert (.iface t v) xt t true).run P w = .ok (.tuple #[v, .bool true]) w := by
  simp [Instr.typeAssert, run_underlying hu]
theorem run_typeAssert_miss (xt t t' : TypeId) (v z : Value) (i : TypeInfo) (fs : Array Field) (hu : P.underlying t = some (.struct fs)) (hne : t' ≠ t) (hi : P.info? t = some i) (hz : i.zero = some z) :
    (Instr.typeAssert (.iface t' v) xt t true).run P w = .ok (.tuple #[z, .bool false]) w := by
  simp [Instr.typeAssert, run_underlying hu, hne, zeroValue, typeInfo, hi, hz]
end

theorem Tryz.zeroS : (Tryz.prog.info? 159).map (·.zero) = some (some (.agg #[])) := by kernel_rfl
theorem Tryz.zeroC : (Tryz.prog.info? 160).map (·.zero) = some (some (.agg #[])) := by kernel_rfl

theorem missS (w : World) (xt t' : TypeId) (hne : t' ≠ 159) : (Instr.typeAssert (.iface t' (.agg #[])) xt 159 true).run Tryz.prog w = .ok (.tuple #[.agg #[], .bool false]) w := by
  obtain ⟨i, hi, hz⟩ := Option.map_eq_some_iff.1 Tryz.zeroS
  exact run_typeAssert_miss w xt _ t' _ _ i _ Tryz.underlying159 hne hi hz
theorem missC (w : World) (xt t' : TypeId) (hne : t' ≠ 160) : (Instr.typeAssert (.iface t' (.agg #[])) xt 160 true).run Tryz.prog w = .ok (.tuple #[.agg #[], .bool false]) w := by
  obtain ⟨i, hi, hz⟩ := Option.map_eq_some_iff.1 Tryz.zeroC
  exact run_typeAssert_miss w xt _ t' _ _ i _ Tryz.underlying160 hne hi hz

/-- What a kind stands for: the type's number. -/
def kindT (k : Int) : Nat := if k = 1 then 157 else if k = 2 then 158 else if k = 3 then 159 else 160

set_option maxHeartbeats 400000 in
theorem kindOf_1 (w : World) : Calls Tryz.prog 64 #[.int .i64 1] w fun e w' => e = .returned (.tuple #[.iface 157 (.agg #[]), .bool true]) ∧ w' = w := by
  go_enter Tryz.func64, Tryz.ntmps64
  go_wp2
  go_ret2
  exact ⟨rfl, rfl⟩
set_option maxHeartbeats 400000 in
theorem kindOf_2 (w : World) : Calls Tryz.prog 64 #[.int .i64 2] w fun e w' => e = .returned (.tuple #[.iface 158 (.agg #[]), .bool true]) ∧ w' = w := by
  go_enter Tryz.func64, Tryz.ntmps64
  go_wp2
  go_ret2
  exact ⟨rfl, rfl⟩
set_option maxHeartbeats 400000 in
theorem kindOf_3 (w : World) : Calls Tryz.prog 64 #[.int .i64 3] w fun e w' => e = .returned (.tuple #[.iface 159 (.agg #[]), .bool true]) ∧ w' = w := by
  go_enter Tryz.func64, Tryz.ntmps64
  go_wp2
  go_ret2
  exact ⟨rfl, rfl⟩
set_option maxHeartbeats 400000 in
theorem kindOf_4 (w : World) : Calls Tryz.prog 64 #[.int .i64 4] w fun e w' => e = .returned (.tuple #[.iface 160 (.agg #[]), .bool true]) ∧ w' = w := by
  go_enter Tryz.func64, Tryz.ntmps64
  go_wp2
  go_ret2
  exact ⟨rfl, rfl⟩
set_option maxHeartbeats 400000 in
theorem kindOf_no (k : Int) (h : inB k 1 4 = false) (w : World) : Calls Tryz.prog 64 #[.int .i64 k] w fun e w' => e = .returned (.tuple #[.nilIface, .bool false]) ∧ w' = w := by
  have h1 : (k == 1) = false ∧ (k == 2) = false ∧ (k == 3) = false ∧ (k == 4) = false := by
    unfold inB at h
    simp only [decide_eq_false_iff_not, beq_eq_false_iff_ne] at h ⊢
    omega
  obtain ⟨h1, h2, h3, h4⟩ := h1
  clear h
  go_enter Tryz.func64, Tryz.ntmps64
  go_wp2
  go_ret2
  exact ⟨rfl, rfl⟩

set_option maxHeartbeats 400000 in
theorem endCount_1 (w : World) : Calls Tryz.prog 153 #[.agg #[]] w fun e w' => e = .returned (.int .i64 1) ∧ Below w.heap.size w w' := by
  go_enter Tryz.func153, Tryz.ntmps153
  go_wp2
  go_ret
  exact ⟨rfl, (by repeat (first | exact Below.refl _ _ | assumption | refine Below.drew ?_ | refine bdrewN ?_ _ | refine Below.setCell ?_ (by first | omega | (simp; done) | (simp; omega)) _ | refine Below.alloc ?_ (by first | omega | (simp; done) | (simp; omega)) _))⟩
set_option maxHeartbeats 400000 in
theorem endCount_2 (w : World) : Calls Tryz.prog 155 #[.agg #[]] w fun e w' => e = .returned (.int .i64 2) ∧ Below w.heap.size w w' := by
  go_enter Tryz.func155, Tryz.ntmps155
  go_wp2
  go_ret
  exact ⟨rfl, (by repeat (first | exact Below.refl _ _ | assumption | refine Below.drew ?_ | refine bdrewN ?_ _ | refine Below.setCell ?_ (by first | omega | (simp; done) | (simp; omega)) _ | refine Below.alloc ?_ (by first | omega | (simp; done) | (simp; omega)) _))⟩
set_option maxHeartbeats 400000 in
theorem endCount_3 (w : World) : Calls Tryz.prog 157 #[.agg #[]] w fun e w' => e = .returned (.int .i64 3) ∧ Below w.heap.size w w' := by
  go_enter Tryz.func157, Tryz.ntmps157
  go_wp2
  go_ret
  exact ⟨rfl, (by repeat (first | exact Below.refl _ _ | assumption | refine Below.drew ?_ | refine bdrewN ?_ _ | refine Below.setCell ?_ (by first | omega | (simp; done) | (simp; omega)) _ | refine Below.alloc ?_ (by first | omega | (simp; done) | (simp; omega)) _))⟩
set_option maxHeartbeats 400000 in
theorem endCount_4 (w : World) : Calls Tryz.prog 159 #[.agg #[]] w fun e w' => e = .returned (.int .i64 4) ∧ Below w.heap.size w w' := by
  go_enter Tryz.func159, Tryz.ntmps159
  go_wp2
  go_ret
  exact ⟨rfl, (by repeat (first | exact Below.refl _ _ | assumption | refine Below.drew ?_ | refine bdrewN ?_ _ | refine Below.setCell ?_ (by first | omega | (simp; done) | (simp; omega)) _ | refine Below.alloc ?_ (by first | omega | (simp; done) | (simp; omega)) _))⟩

set_option maxRecDepth 100000 in
set_option maxHeartbeats 400000 in
theorem hasName_1 (w : World) : Calls Tryz.prog 131 #[.iface 157 (.agg #[])] w fun e w' => e = .returned (.bool false) ∧ w' = w := by
  have hs := missS w 125 157 (by decide)
  have hc := missC w 125 157 (by decide)
  go_enter Tryz.func131, Tryz.ntmps131
  go_wp2
  go_ret
  exact ⟨rfl, rfl⟩
set_option maxRecDepth 100000 in
set_option maxHeartbeats 400000 in
theorem hasName_2 (w : World) : Calls Tryz.prog 131 #[.iface 158 (.agg #[])] w fun e w' => e = .returned (.bool false) ∧ w' = w := by
  have hs := missS w 125 158 (by decide)
  have hc := missC w 125 158 (by decide)
  go_enter Tryz.func131, Tryz.ntmps131
  go_wp2
  go_ret
  exact ⟨rfl, rfl⟩
set_option maxRecDepth 100000 in
set_option maxHeartbeats 400000 in
theorem hasName_3 (w : World) : Calls Tryz.prog 131 #[.iface 159 (.agg #[])] w fun e w' => e = .returned (.bool true) ∧ w' = w := by
  have hs := run_typeAssert_hit (P := Tryz.prog) w 125 159 (.agg #[]) _ Tryz.underlying159
  have hc := missC w 125 159 (by decide)
  go_enter Tryz.func131, Tryz.ntmps131
  go_wp2
  go_ret
  exact ⟨rfl, rfl⟩
set_option maxRecDepth 100000 in
set_option maxHeartbeats 400000 in
theorem hasName_4 (w : World) : Calls Tryz.prog 131 #[.iface 160 (.agg #[])] w fun e w' => e = .returned (.bool true) ∧ w' = w := by
  have hs := missS w 125 160 (by decide)
  have hc := run_typeAssert_hit (P := Tryz.prog) w 125 160 (.agg #[]) _ Tryz.underlying160
  go_enter Tryz.func131, Tryz.ntmps131
  go_wp2
  go_ret
  exact ⟨rfl, rfl⟩

end Go.Proofs.YtmkdgnmmebldgaaGreat

namespace Go.Proofs.YtmkdgnmmebldgaaGreat
open Go.RowKit

theorem bcellK {W w1 : World} (hb : Below W.heap.size W w1) : (∀ b o, b < W.heap.size → w1.cell? ⟨b, o, none⟩ = W.cell? ⟨b, o, none⟩) :=
  fun b o h => hb.cell (p := ⟨b, o, none⟩) h

theorem ok3_kind {np : Nat} {j : MJoint} (h : inB j.kind 1 4 = false) : ok3 np j = false := by simp [ok3, h]
theorem ok3_len {np : Nat} {j : MJoint} (h : ((j.ends.length : Int) == j.kind) = false) : ok3 np j = false := by simp only [ok3, h]; simp
theorem ok3_end {np : Nat} {j : MJoint} (m : Nat) (hm : m < j.ends.length) (h : endB np j.ends[m].piece j.ends[m].side = false) : ok3 np j = false := by
  have : (j.ends.all fun e => endB np e.piece e.side) = false := List.all_eq_false.2 ⟨_, List.getElem_mem hm, by simp [h]⟩
  simp only [ok3, this]; simp

set_option maxHeartbeats 1000000 in
theorem jointOk_no (j : MJoint) (ea : Option Addr) (ec np : Nat) (w : World) (hk : inB j.kind 1 4 = false) :
    Calls Tryz.prog 121 #[.agg #[.int .i64 j.kind, .string j.name, .slice ea j.ends.length ec], .int .i64 np] w fun e w' => e = .returned (.bool (ok3 np j)) ∧ Below w.heap.size w w' := by
  rw [ok3_kind hk]
  go_enter Tryz.func121, Tryz.ntmps121
  go_wp2_with (go_at_call 64; refine (kindOf_no _ hk _).mono ?_; rintro e w' ⟨rfl, rfl⟩)
  go_quiet (fail)
  go_wp2_with fail
  go_ret
  exact ⟨rfl, (by repeat (first | exact Below.refl _ _ | assumption | refine Below.drew ?_ | refine bdrewN ?_ _ | refine Below.setCell ?_ (by first | omega | (simp; done) | (simp; omega)) _ | refine Below.alloc ?_ (by first | omega | (simp; done) | (simp; omega)) _))⟩

end Go.Proofs.YtmkdgnmmebldgaaGreat
