import Derived.Test.YtmkdgnmmebldgaaSmall
namespace Go.Proofs.Ytmkdgnmmebldgaa
open Go.RowKit

structure MPiece where
  name : ByteArray
  len : Int
  speed : Int
  brake : Int
structure MEnd where
  piece : Int
  side : Int
structure MJoint where
  kind : Int
  name : ByteArray
  ends : List MEnd

theorem cellLt {w : World} {a : Addr} {v : Value} (h : w.cell? a = some v) : a.block < w.heap.size := World.block_lt_of_cell? _ _ h

/-- The cells of pieces, one after the other, from an address on. -/
def PieceCells (w : World) (b off : Nat) (ps : List MPiece) : Prop :=
  ∀ i (h : i < ps.length), w.cell? ⟨b, off + i * 4, none⟩ = some (.string ps[i].name) ∧ w.cell? ⟨b, off + i * 4 + 1, none⟩ = some (.int .i64 ps[i].len) ∧
    w.cell? ⟨b, off + i * 4 + 2, none⟩ = some (.int .i64 ps[i].speed) ∧ w.cell? ⟨b, off + i * 4 + 3, none⟩ = some (.int .i64 ps[i].brake)

theorem PieceCells.below {w w' : World} {b off : Nat} {ps : List MPiece} (h : PieceCells w b off ps) (hb : Below w.heap.size w w') : PieceCells w' b off ps := by
  intro i hi
  obtain ⟨h1, h2, h3, h4⟩ := h i hi
  exact ⟨cell_later hb h1, cell_later hb h2, cell_later hb h3, cell_later hb h4⟩

/-- A slice that reads as pieces. -/
def PiecesAt (w : World) (a : Option Addr) (ps : List MPiece) : Prop :=
  ps.length ≤ maxLen ∧ (∀ p, p ∈ ps → p.name.size ≤ maxLen) ∧ (ps = [] ∨ ∃ b off, a = some ⟨b, off, none⟩ ∧ PieceCells w b off ps)

theorem PiecesAt.below {w w' : World} {a : Option Addr} {ps : List MPiece} (h : PiecesAt w a ps) (hb : Below w.heap.size w w') : PiecesAt w' a ps := by
  obtain ⟨h1, h2, h3⟩ := h
  refine ⟨h1, h2, ?_⟩
  rcases h3 with h3 | ⟨b, off, h3, h4⟩
  · exact Or.inl h3
  · exact Or.inr ⟨b, off, h3, h4.below hb⟩

/-- What is left behind the first k pieces; -1 when it is used up. -/
def szP (left : Int) : List MPiece → Int
  | [] => left
  | p :: r => if left < p.name.size then -1 else szP (left - p.name.size) r

set_option maxHeartbeats 400000 in
theorem szPieceS_walk (b off cap : Nat) (ps : List MPiece) (left : Int) (w : World) (hl : ps.length ≤ maxLen) (hn : Hid (∀ p, p ∈ ps → p.name.size ≤ maxLen)) (hc : Hid (PieceCells w b off ps)) (h0 : 0 ≤ left) (h1 : left ≤ 1048576) :
    Calls Try.prog 56 #[.slice (some ⟨b, off, none⟩) ps.length cap, .int .i64 left] w fun e w' => e = .returned (.int .i64 (if left < ps.length then -1 else szP (left - ps.length) ps)) ∧ Below w.heap.size w w' := by
  unfold maxLen at hl


  by_cases hlt : left < ps.length
  · rw [if_pos hlt]
    go_enter Try.func56, Try.ntmps56
    go_wp2
    go_ret
    exact ⟨rfl, (by repeat (first | exact Below.refl _ _ | assumption | refine Below.drew ?_ | refine bdrewN ?_ _ | refine Below.setCell ?_ (by first | omega | (simp; done) | (simp; omega)) _ | refine Below.alloc ?_ (by first | omega | (simp; done) | (simp; omega)) _))⟩
  · rw [if_neg hlt]
    go_enter Try.func56, Try.ntmps56
    go_wp2_with fail
    go_loopw [1, 5] (fun l i wr => ∃ (k : Nat) (lf : Int), k ≤ ps.length ∧ i = .int .i64 k ∧ l = .int .i64 lf ∧ 0 ≤ lf ∧ lf ≤ 1048576 ∧ Hid (szP (left - ps.length) ps = szP lf (ps.drop k)) ∧ Below w.heap.size w wr) (fun _ i _ => ps.length - (intOf i).toNat)
    case atStart => exact ⟨0, left - ps.length, Nat.zero_le _, rfl, rfl, by omega, by omega, rfl, (by repeat (first | exact Below.refl _ _ | assumption | refine Below.drew ?_ | refine bdrewN ?_ _ | refine Below.setCell ?_ (by first | omega | (simp; done) | (simp; omega)) _ | refine Below.alloc ?_ (by first | omega | (simp; done) | (simp; omega)) _))⟩
    case round =>
      obtain ⟨k, lf, hk, rfl, rfl, hf0, hf1, HZ, hb⟩ := hrel
      by_cases hk' : k < ps.length
      · obtain ⟨c1, c2, c3, c4⟩ := (hc.out.below hb) k hk'
        have hsz : ps[k].name.size ≤ maxLen := hn.out _ (List.getElem_mem hk')
        have HD : Hid (szP lf (ps.drop k) = if lf < ps[k].name.size then -1 else szP (lf - ps[k].name.size) (ps.drop (k + 1))) := by
          unfold Hid
          rw [List.drop_eq_getElem_cons hk']
          rfl
        by_cases hs : lf < ps[k].name.size
        · have HE : Hid (szP (left - ps.length) ps = -1) := by
            have h := HD.out
            rw [if_pos hs] at h
            exact HZ.out.trans h
          clear HZ HD
          go_wp2_with (go_at_call 129; refine (szPiece_any _ _ _ _ _ _ hsz hf0 hf1).mono ?_; rintro e w1 ⟨rfl, hb1⟩; rw [if_pos hs])
          go_ret
          exact ⟨ret_int HE.out.symm, hb.trans (hb1.mono hb.size)⟩
        · have HE : Hid (szP (left - ps.length) ps = szP (lf - ps[k].name.size) (ps.drop (k + 1))) := by
            have h := HD.out
            rw [if_neg hs] at h
            exact HZ.out.trans h
          clear HZ HD
          go_wp2_with (go_at_call 129; refine (szPiece_any _ _ _ _ _ _ hsz hf0 hf1).mono ?_; rintro e w1 ⟨rfl, hb1⟩; rw [if_neg hs])
          go_roundw
          case rel => exact ⟨k + 1, _, by omega, by go_num, rfl, by omega, by omega, HE, hb.trans (hb1.mono hb.size)⟩
          case measure => simp [intOf]; omega
      · have HE : Hid (szP (left - ps.length) ps = lf) := by
          have h := HZ.out
          rw [List.drop_of_length_le (by omega)] at h
          exact h
        clear HZ
        go_wp2
        go_ret
        exact ⟨ret_int HE.out.symm, hb⟩

set_option maxHeartbeats 400000 in
theorem szPieceS_nil (a : Option Addr) (cap : Nat) (left : Int) (w : World) (h0 : 0 ≤ left) (h1 : left ≤ 1048576) :
    Calls Try.prog 56 #[.slice a 0 cap, .int .i64 left] w fun e w' => e = .returned (.int .i64 left) ∧ Below w.heap.size w w' := by
  go_enter Try.func56, Try.ntmps56
  go_wp2_with fail
  go_loopw [1, 5] (fun l i wr => i = .int .i64 0 ∧ l = .int .i64 left ∧ wr = w) (fun _ _ _ => 0)
  case atStart => exact ⟨rfl, by simp, rfl⟩
  case round =>
    obtain ⟨rfl, rfl, rfl⟩ := hrel
    go_wp2
    go_ret
    exact ⟨rfl, (by repeat (first | exact Below.refl _ _ | assumption | refine Below.drew ?_ | refine bdrewN ?_ _ | refine Below.setCell ?_ (by first | omega | (simp; done) | (simp; omega)) _ | refine Below.alloc ?_ (by first | omega | (simp; done) | (simp; omega)) _))⟩

theorem szPieceS_any (a : Option Addr) (cap : Nat) (ps : List MPiece) (left : Int) (w : World) (hp : PiecesAt w a ps) (h0 : 0 ≤ left) (h1 : left ≤ 1048576) :
    Calls Try.prog 56 #[.slice a ps.length cap, .int .i64 left] w fun e w' => e = .returned (.int .i64 (if left < ps.length then -1 else szP (left - ps.length) ps)) ∧ Below w.heap.size w w' := by
  obtain ⟨hl, hn, h⟩ := hp
  rcases h with rfl | ⟨b, off, rfl, hc⟩
  · rw [if_neg (by simp; omega)]
    have := szPieceS_nil a cap left w h0 h1
    simpa [szP] using this
  · exact szPieceS_walk b off cap ps left w hl hn hc h0 h1

/-- The cells of ends. -/
def EndCells (w : World) (b off : Nat) (es : List MEnd) : Prop :=
  ∀ i (h : i < es.length), w.cell? ⟨b, off + i * 2, none⟩ = some (.int .i64 es[i].piece) ∧ w.cell? ⟨b, off + i * 2 + 1, none⟩ = some (.int .i64 es[i].side)

theorem EndCells.below {w w' : World} {b off : Nat} {es : List MEnd} (h : EndCells w b off es) (hb : Below w.heap.size w w') : EndCells w' b off es := by
  intro i hi
  obtain ⟨h1, h2⟩ := h i hi
  exact ⟨cell_later hb h1, cell_later hb h2⟩

def EndsAt (w : World) (a : Option Addr) (es : List MEnd) : Prop :=
  es.length ≤ maxLen ∧ (es = [] ∨ ∃ b off, a = some ⟨b, off, none⟩ ∧ EndCells w b off es)

theorem EndsAt.below {w w' : World} {a : Option Addr} {es : List MEnd} (h : EndsAt w a es) (hb : Below w.heap.size w w') : EndsAt w' a es := by
  obtain ⟨h1, h3⟩ := h
  refine ⟨h1, ?_⟩
  rcases h3 with h3 | ⟨b, off, h3, h4⟩
  · exact Or.inl h3
  · exact Or.inr ⟨b, off, h3, h4.below hb⟩

/-- The cells of joints. -/
def JointCells (w : World) (b off : Nat) (js : List MJoint) : Prop :=
  ∀ i (h : i < js.length), w.cell? ⟨b, off + i * 3, none⟩ = some (.int .i64 js[i].kind) ∧ w.cell? ⟨b, off + i * 3 + 1, none⟩ = some (.string js[i].name) ∧
    ∃ ea ec, w.cell? ⟨b, off + i * 3 + 2, none⟩ = some (.slice ea js[i].ends.length ec) ∧ EndsAt w ea js[i].ends

theorem JointCells.below {w w' : World} {b off : Nat} {js : List MJoint} (h : JointCells w b off js) (hb : Below w.heap.size w w') : JointCells w' b off js := by
  intro i hi
  obtain ⟨h1, h2, ea, ec, h3, h4⟩ := h i hi
  exact ⟨cell_later hb h1, cell_later hb h2, ea, ec, cell_later hb h3, h4.below hb⟩

def JointsAt (w : World) (a : Option Addr) (js : List MJoint) : Prop :=
  js.length ≤ maxLen ∧ (∀ p, p ∈ js → p.name.size ≤ maxLen) ∧ (js = [] ∨ ∃ b off, a = some ⟨b, off, none⟩ ∧ JointCells w b off js)

theorem JointsAt.below {w w' : World} {a : Option Addr} {js : List MJoint} (h : JointsAt w a js) (hb : Below w.heap.size w w') : JointsAt w' a js := by
  obtain ⟨h1, h2, h3⟩ := h
  refine ⟨h1, h2, ?_⟩
  rcases h3 with h3 | ⟨b, off, h3, h4⟩
  · exact Or.inl h3
  · exact Or.inr ⟨b, off, h3, h4.below hb⟩

def szJ (left : Int) : List MJoint → Int
  | [] => left
  | p :: r => if left < p.name.size then -1 else if left - p.name.size < p.ends.length then -1 else szJ (left - p.name.size - p.ends.length) r

def szJ1 (left : Int) (a b : Nat) : Int := if left < a then -1 else if left - a < b then -1 else left - a - b

set_option maxHeartbeats 400000 in
theorem szJoint_any (kd : Int) (s : ByteArray) (ea : Option Addr) (el ec : Nat) (left : Int) (w : World) (hs : s.size ≤ maxLen) (he : el ≤ maxLen) (h0 : 0 ≤ left) (h1 : left ≤ 1048576) :
    Calls Try.prog 130 #[.agg #[.int .i64 kd, .string s, .slice ea el ec], .int .i64 left] w fun e w' => e = .returned (.int .i64 (szJ1 left s.size el)) ∧ Below w.heap.size w w' := by
  unfold maxLen at hs
  unfold szJ1
  by_cases hl : left < s.size
  · rw [if_pos hl]
    go_enter Try.func130, Try.ntmps130
    go_wp2
    go_ret
    exact ⟨rfl, (by repeat (first | exact Below.refl _ _ | assumption | refine Below.drew ?_ | refine bdrewN ?_ _ | refine Below.setCell ?_ (by first | omega | (simp; done) | (simp; omega)) _ | refine Below.alloc ?_ (by first | omega | (simp; done) | (simp; omega)) _))⟩
  · rw [if_neg hl]
    by_cases hl2 : left - s.size < el
    · rw [if_pos hl2]
      go_enter Try.func130, Try.ntmps130
      go_wp2_with (go_at_call 163; refine (szEndS_any _ _ _ _ _ he (by omega) (by omega)).mono ?_; rintro e w1 ⟨rfl, hb1⟩; rw [if_pos hl2])
      go_ret
      exact ⟨rfl, (show Below w.heap.size w (w.alloc _) from (by repeat (first | exact Below.refl _ _ | assumption | refine Below.drew ?_ | refine bdrewN ?_ _ | refine Below.setCell ?_ (by first | omega | (simp; done) | (simp; omega)) _ | refine Below.alloc ?_ (by first | omega | (simp; done) | (simp; omega)) _))).trans (hb1.mono (by simp))⟩
    · rw [if_neg hl2]
      go_enter Try.func130, Try.ntmps130
      go_wp2_with (go_at_call 163; refine (szEndS_any _ _ _ _ _ he (by omega) (by omega)).mono ?_; rintro e w1 ⟨rfl, hb1⟩; rw [if_neg hl2])
      go_ret
      exact ⟨rfl, (show Below w.heap.size w (w.alloc _) from (by repeat (first | exact Below.refl _ _ | assumption | refine Below.drew ?_ | refine bdrewN ?_ _ | refine Below.setCell ?_ (by first | omega | (simp; done) | (simp; omega)) _ | refine Below.alloc ?_ (by first | omega | (simp; done) | (simp; omega)) _))).trans (hb1.mono (by simp))⟩

theorem szJ1_cons (left : Int) (p : MJoint) (r : List MJoint) : szJ left (p :: r) = if szJ1 left p.name.size p.ends.length < 0 then -1 else szJ (szJ1 left p.name.size p.ends.length) r := by
  by_cases h : left < p.name.size
  · have e : szJ1 left p.name.size p.ends.length = -1 := by unfold szJ1; rw [if_pos h]
    rw [e]; simp [szJ, h]
  · by_cases h2 : left - p.name.size < p.ends.length
    · have e : szJ1 left p.name.size p.ends.length = -1 := by unfold szJ1; rw [if_neg h, if_pos h2]
      rw [e]; simp [szJ, h, h2]
    · have e : szJ1 left p.name.size p.ends.length = left - p.name.size - p.ends.length := by unfold szJ1; rw [if_neg h, if_neg h2]
      rw [e, if_neg (by omega)]
      simp [szJ, h, h2]
theorem szJ1_le (left : Int) (h0 : 0 ≤ left) (a b : Nat) : szJ1 left a b ≤ left := by
  unfold szJ1
  split
  · omega
  · split <;> omega
theorem szJ1_neg (left : Int) (a b : Nat) (h : szJ1 left a b < 0) : szJ1 left a b = -1 := by
  unfold szJ1 at h ⊢
  split
  · rfl
  · split
    · rfl
    · rename_i h1 h2
      rw [if_neg h1, if_neg h2] at h
      omega

set_option maxHeartbeats 400000 in
theorem szJointS_walk (b off cap : Nat) (ps : List MJoint) (left : Int) (w : World) (hl : ps.length ≤ maxLen) (hn : Hid (∀ p, p ∈ ps → p.name.size ≤ maxLen)) (hc : Hid (JointCells w b off ps)) (h0 : 0 ≤ left) (h1 : left ≤ 1048576) :
    Calls Try.prog 57 #[.slice (some ⟨b, off, none⟩) ps.length cap, .int .i64 left] w fun e w' => e = .returned (.int .i64 (if left < ps.length then -1 else szJ (left - ps.length) ps)) ∧ Below w.heap.size w w' := by
  unfold maxLen at hl
  by_cases hlt : left < ps.length
  · rw [if_pos hlt]
    go_enter Try.func57, Try.ntmps57
    go_wp2
    go_ret
    exact ⟨rfl, (by repeat (first | exact Below.refl _ _ | assumption | refine Below.drew ?_ | refine bdrewN ?_ _ | refine Below.setCell ?_ (by first | omega | (simp; done) | (simp; omega)) _ | refine Below.alloc ?_ (by first | omega | (simp; done) | (simp; omega)) _))⟩
  · rw [if_neg hlt]
    go_enter Try.func57, Try.ntmps57
    go_wp2_with fail
    go_loopw [1, 5] (fun l i wr => ∃ (k : Nat) (lf : Int), k ≤ ps.length ∧ i = .int .i64 k ∧ l = .int .i64 lf ∧ 0 ≤ lf ∧ lf ≤ 1048576 ∧ Hid (szJ (left - ps.length) ps = szJ lf (ps.drop k)) ∧ Below w.heap.size w wr) (fun _ i _ => ps.length - (intOf i).toNat)
    case atStart => exact ⟨0, left - ps.length, Nat.zero_le _, rfl, rfl, by omega, by omega, rfl, (by repeat (first | exact Below.refl _ _ | assumption | refine Below.drew ?_ | refine bdrewN ?_ _ | refine Below.setCell ?_ (by first | omega | (simp; done) | (simp; omega)) _ | refine Below.alloc ?_ (by first | omega | (simp; done) | (simp; omega)) _))⟩
    case round =>
      obtain ⟨k, lf, hk, rfl, rfl, hf0, hf1, HZ, hb⟩ := hrel
      by_cases hk' : k < ps.length
      · obtain ⟨c1, c2, ea, ec, c3, c4⟩ := (hc.out.below hb) k hk'
        have hel := c4.1
        clear c4
        have hsz : ps[k].name.size ≤ maxLen := hn.out _ (List.getElem_mem hk')
        have HD : Hid (szJ lf (ps.drop k) = if szJ1 lf ps[k].name.size ps[k].ends.length < 0 then -1 else szJ (szJ1 lf ps[k].name.size ps[k].ends.length) (ps.drop (k + 1))) := by
          unfold Hid
          rw [List.drop_eq_getElem_cons hk']
          exact szJ1_cons lf _ _
        have hle := szJ1_le lf hf0 ps[k].name.size ps[k].ends.length
        have HNEG : Hid (szJ1 lf ps[k].name.size ps[k].ends.length < 0 → szJ1 lf ps[k].name.size ps[k].ends.length = -1) := szJ1_neg lf _ _
        by_cases hs : szJ1 lf ps[k].name.size ps[k].ends.length < 0
        · have HE : Hid (szJ (left - ps.length) ps = -1) := by
            have h := HD.out
            rw [if_pos hs] at h
            exact HZ.out.trans h
          clear HZ HD
          go_wp2_with (go_at_call 130; refine (szJoint_any _ _ _ _ _ _ _ hsz hel hf0 hf1).mono ?_; rintro e w1 ⟨rfl, hb1⟩; rw [HNEG.out hs])
          go_ret
          exact ⟨ret_int HE.out.symm, hb.trans (hb1.mono hb.size)⟩
        · have HE : Hid (szJ (left - ps.length) ps = szJ (szJ1 lf ps[k].name.size ps[k].ends.length) (ps.drop (k + 1))) := by
            have h := HD.out
            rw [if_neg hs] at h
            exact HZ.out.trans h
          clear HZ HD
          go_wp2_with (go_at_call 130; refine (szJoint_any _ _ _ _ _ _ _ hsz hel hf0 hf1).mono ?_; rintro e w1 ⟨rfl, hb1⟩)
          go_roundw
          case rel => exact ⟨k + 1, _, by omega, by go_num, rfl, by omega, by omega, HE, hb.trans (hb1.mono hb.size)⟩
          case measure => simp [intOf]; omega
      · have HE : Hid (szJ (left - ps.length) ps = lf) := by
          have h := HZ.out
          rw [List.drop_of_length_le (by omega)] at h
          exact h
        clear HZ
        go_wp2
        go_ret
        exact ⟨ret_int HE.out.symm, hb⟩

set_option maxHeartbeats 400000 in
theorem szJointS_nil (a : Option Addr) (cap : Nat) (left : Int) (w : World) (h0 : 0 ≤ left) (h1 : left ≤ 1048576) :
    Calls Try.prog 57 #[.slice a 0 cap, .int .i64 left] w fun e w' => e = .returned (.int .i64 left) ∧ Below w.heap.size w w' := by
  go_enter Try.func57, Try.ntmps57
  go_wp2_with fail
  go_loopw [1, 5] (fun l i wr => i = .int .i64 0 ∧ l = .int .i64 left ∧ wr = w) (fun _ _ _ => 0)
  case atStart => exact ⟨rfl, by simp, rfl⟩
  case round =>
    obtain ⟨rfl, rfl, rfl⟩ := hrel
    go_wp2
    go_ret
    exact ⟨rfl, (by repeat (first | exact Below.refl _ _ | assumption | refine Below.drew ?_ | refine bdrewN ?_ _ | refine Below.setCell ?_ (by first | omega | (simp; done) | (simp; omega)) _ | refine Below.alloc ?_ (by first | omega | (simp; done) | (simp; omega)) _))⟩

theorem szJointS_any (a : Option Addr) (cap : Nat) (ps : List MJoint) (left : Int) (w : World) (hp : JointsAt w a ps) (h0 : 0 ≤ left) (h1 : left ≤ 1048576) :
    Calls Try.prog 57 #[.slice a ps.length cap, .int .i64 left] w fun e w' => e = .returned (.int .i64 (if left < ps.length then -1 else szJ (left - ps.length) ps)) ∧ Below w.heap.size w w' := by
  obtain ⟨hl, hn, h⟩ := hp
  rcases h with rfl | ⟨b, off, rfl, hc⟩
  · rw [if_neg (by simp; omega)]
    have := szJointS_nil a cap left w h0 h1
    simpa [szJ] using this
  · exact szJointS_walk b off cap ps left w hl hn hc h0 h1

end Go.Proofs.Ytmkdgnmmebldgaa
