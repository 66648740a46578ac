import Derived.Test.YtmkdgnmmebldgaaGreatEx35
import Derived.Test.YtmkdgnmmebldgaaGreatEx12
import Derived.Laws.IdiomStrings
namespace Go.Proofs.YtmkdgnmmebldgaaGreat
open Go.RowKit Go.Deep

/-! The copies that a law makes of a net and of signals, as rows that may be written. -/

def PieceRowAt (w : World) (t g : Nat) (ps : List MPiece) : Prop := ∃ f, w.rowIs g t (ps.length * 4) f ∧ PieceRow ps ps.length f
def EndRowAt (w : World) (g : Nat) (es : List MEnd) : Prop := ∃ f, w.rowIs g 112 (es.length * 2) f ∧ EndRow es es.length f

theorem PieceRowAt.kept {w w' : World} {t g : Nat} {ps : List MPiece} (h : PieceRowAt w t g ps) (e : w'.heap[g]? = w.heap[g]?) : PieceRowAt w' t g ps := by
  obtain ⟨f, h1, h2⟩ := h
  exact ⟨f, h1.of_block e, h2⟩
theorem PieceRowAt.lt {w : World} {t g : Nat} {ps : List MPiece} (h : PieceRowAt w t g ps) : g < w.heap.size := by
  obtain ⟨f, h1, _⟩ := h
  exact h1.lt
theorem PieceRowAt.cells {w : World} {t g : Nat} {ps : List MPiece} (h : PieceRowAt w t g ps) : PieceCells w g 0 ps := by
  obtain ⟨f, h1, h2⟩ := h
  exact pieceCells_of_row h1 h2
theorem EndRowAt.kept {w w' : World} {g : Nat} {es : List MEnd} (h : EndRowAt w g es) (e : w'.heap[g]? = w.heap[g]?) : EndRowAt w' g es := by
  obtain ⟨f, h1, h2⟩ := h
  exact ⟨f, h1.of_block e, h2⟩
theorem EndRowAt.lt {w : World} {g : Nat} {es : List MEnd} (h : EndRowAt w g es) : g < w.heap.size := by
  obtain ⟨f, h1, _⟩ := h
  exact h1.lt
theorem EndRowAt.below {w w' : World} {g : Nat} {es : List MEnd} (h : EndRowAt w g es) (hb : Below w.heap.size w w') : EndRowAt w' g es := h.kept (hb.block g h.lt)
theorem EndRowAt.setOther {w : World} {g : Nat} {es : List MEnd} (h : EndRowAt w g es) {b : Nat} (hb : b ≠ g) (o : Nat) (v : Value) : EndRowAt (w.setCell ⟨b, o, none⟩ v) g es := h.kept (Below.heap_setCell _ _ _ _ (fun e => hb e.symm))
theorem EndRowAt.cells {w : World} {g : Nat} {es : List MEnd} (h : EndRowAt w g es) : EndCells w g 0 es := by
  obtain ⟨f, h1, h2⟩ := h
  exact endCells_of_row h1 h2

set_option maxHeartbeats 1000000 in
theorem toPieceS_row (a : Option Addr) (cap : Nat) (ps : List MPiece) (w : World) (hp : Hid (PiecesAt w a ps)) (hl : ps.length ≤ 1048576) :
    Calls Tryz.prog 24 #[.slice a ps.length cap] w fun e w' => ∃ g, e = .returned (.slice (some ⟨g, 0, none⟩) ps.length ps.length) ∧ Hid (PieceRowAt w' 108 g ps) ∧ Below w.heap.size w w' ∧ w.heap.size ≤ g := by
  obtain ⟨w1, hm, hrow, hb1, hz1⟩ := make_structs (P := Tryz.prog) w 31 108 _ _ _ Tryz.underlying31 Tryz.infoP (by omega) ps.length hl
  have HROW : Hid (∃ f, w1.rowIs w.heap.size 108 (ps.length * 4) f) := hrow
  clear hrow
  go_enter Tryz.func24, Tryz.ntmps24
  go_wp2_with fail
  go_loopw [4] (fun i wr => ∃ (k : Nat) (f : Nat → Value), k ≤ ps.length ∧ i = .int .i64 k ∧ Hid (wr.rowIs w.heap.size 108 (ps.length * 4) f) ∧ Hid (PieceRow ps k f) ∧ Below w.heap.size w wr ∧ w.heap.size < wr.heap.size) (fun i _ => ps.length - (intOf i).toNat)
  case atStart =>
    obtain ⟨f, hf⟩ := HROW.out
    exact ⟨0, f, Nat.zero_le _, rfl, hf, (fun i _ h => absurd h (Nat.not_lt_zero i)), hb1, by omega⟩
  case round =>
    obtain ⟨k, f, hk, rfl, hrow, hpr, hb, hz⟩ := hrel
    clear hm HROW hb1 hz1
    by_cases hk' : k < ps.length
    · obtain ⟨b, off, rfl, hpc⟩ := hp.out.2.2.resolve_left (fun h => by rw [h] at hk'; exact absurd hk' (Nat.not_lt_zero _))
      obtain ⟨c1, c2, c3, c4⟩ := (hpc.below hb) k hk'
      clear hpc
      have HNX := hpr.out.next hk'
      have HNX' : Hid (PieceRow ps (k + 1) _) := HNX
      clear HNX hpr
      go_wp2_with fail
      refine (toPiece_any _ _ _ _ _).mono ?_
      rintro e w2 ⟨rfl, hb2⟩
      have hr2 : w2.rowIs w.heap.size 108 (ps.length * 4) f := hrow.out.of_block (hb2.block _ hz)
      have d0 := hr2.cell (i := k * 4) (by omega)
      have d1 := hr2.cell (i := k * 4 + 1) (by omega)
      have d2 := hr2.cell (i := k * 4 + 2) (by omega)
      have d3 := hr2.cell (i := k * 4 + 3) (by omega)
      have e0 := hr2.frozen (k * 4)
      have e1 := hr2.frozen (k * 4 + 1)
      have e2 := hr2.frozen (k * 4 + 2)
      have e3 := hr2.frozen (k * 4 + 3)
      have HR2 : Hid (w2.rowIs w.heap.size 108 (ps.length * 4) f) := hr2
      clear hr2 hrow
      have hb3 : Below w.heap.size w w2 := hb.trans (hb2.mono hb.size)
      have hz2 : w.heap.size < w2.heap.size := Nat.lt_of_lt_of_le hz hb2.size
      clear hb hb2 hz c1 c2 c3 c4
      go_wp2_with fail
      go_roundw
      case rel =>
        refine ⟨k + 1, _, by omega, by go_num, ((((HR2.out.set (k * 4) _).set (k * 4 + 1) _).set (k * 4 + 2) _).set (k * 4 + 3) _), HNX', (by repeat (first | exact Below.refl _ _ | assumption | refine Below.drew ?_ | refine bdrewN ?_ _ | refine Below.setCell ?_ (by first | omega | (simp; done) | (simp; omega)) _ | refine Below.alloc ?_ (by first | omega | (simp; done) | (simp; omega)) _)), by simpa using hz2⟩
      case measure => simp [intOf]; omega
    · have hkk : k = ps.length := by omega
      have HC : Hid (PieceRowAt wr 108 w.heap.size ps) := ⟨f, hrow.out, hkk ▸ hpr.out⟩
      clear hrow hpr hkk
      go_wp2
      go_ret
      exact ⟨_, rfl, HC, hb, Nat.le_refl _⟩

set_option maxHeartbeats 1000000 in
theorem toEndS_row (a : Option Addr) (cap : Nat) (ps : List MEnd) (w : World) (hp : Hid (EndsAt w a ps)) (hl : ps.length ≤ 1048576) :
    Calls Tryz.prog 82 #[.slice a ps.length cap] w fun e w' => ∃ g, e = .returned (.slice (some ⟨g, 0, none⟩) ps.length ps.length) ∧ Hid (EndRowAt w' g ps) ∧ Below w.heap.size w w' ∧ w.heap.size ≤ g := by
  obtain ⟨w1, hm, hrow, hb1, hz1⟩ := make_structs (P := Tryz.prog) w 53 112 _ _ _ Tryz.underlying53 Tryz.infoE (by omega) ps.length hl
  have HROW : Hid (∃ f, w1.rowIs w.heap.size 112 (ps.length * 2) f) := hrow
  clear hrow
  go_enter Tryz.func82, Tryz.ntmps82
  go_wp2_with fail
  go_loopw [4] (fun i wr => ∃ (k : Nat) (f : Nat → Value), k ≤ ps.length ∧ i = .int .i64 k ∧ Hid (wr.rowIs w.heap.size 112 (ps.length * 2) f) ∧ Hid (EndRow ps k f) ∧ Below w.heap.size w wr ∧ w.heap.size < wr.heap.size) (fun i _ => ps.length - (intOf i).toNat)
  case atStart =>
    obtain ⟨f, hf⟩ := HROW.out
    exact ⟨0, f, Nat.zero_le _, rfl, hf, (fun i _ h => absurd h (Nat.not_lt_zero i)), hb1, by omega⟩
  case round =>
    obtain ⟨k, f, hk, rfl, hrow, hpr, hb, hz⟩ := hrel
    clear hm HROW hb1 hz1
    by_cases hk' : k < ps.length
    · obtain ⟨b, off, rfl, hpc⟩ := hp.out.2.resolve_left (fun h => by rw [h] at hk'; exact absurd hk' (Nat.not_lt_zero _))
      obtain ⟨c1, c2⟩ := (hpc.below hb) k hk'
      clear hpc
      have HNX := hpr.out.next hk'
      have HNX' : Hid (EndRow ps (k + 1) _) := HNX
      clear HNX hpr
      go_wp2_with fail
      refine (toEnd_any _ _ _).mono ?_
      rintro e w2 ⟨rfl, hb2⟩
      have hr2 : w2.rowIs w.heap.size 112 (ps.length * 2) f := hrow.out.of_block (hb2.block _ hz)
      have d0 := hr2.cell (i := k * 2) (by omega)
      have d1 := hr2.cell (i := k * 2 + 1) (by omega)
      have e0 := hr2.frozen (k * 2)
      have e1 := hr2.frozen (k * 2 + 1)
      have HR2 : Hid (w2.rowIs w.heap.size 112 (ps.length * 2) f) := hr2
      clear hr2 hrow
      have hb3 : Below w.heap.size w w2 := hb.trans (hb2.mono hb.size)
      have hz2 : w.heap.size < w2.heap.size := Nat.lt_of_lt_of_le hz hb2.size
      clear hb hb2 hz c1 c2
      go_wp2_with fail
      go_roundw
      case rel =>
        refine ⟨k + 1, _, by omega, by go_num, ((HR2.out.set (k * 2) _).set (k * 2 + 1) _), HNX', (by repeat (first | exact Below.refl _ _ | assumption | refine Below.drew ?_ | refine bdrewN ?_ _ | refine Below.setCell ?_ (by first | omega | (simp; done) | (simp; omega)) _ | refine Below.alloc ?_ (by first | omega | (simp; done) | (simp; omega)) _)), by simpa using hz2⟩
      case measure => simp [intOf]; omega
    · have hkk : k = ps.length := by omega
      have HC : Hid (EndRowAt wr w.heap.size ps) := ⟨f, hrow.out, hkk ▸ hpr.out⟩
      clear hrow hpr hkk
      go_wp2
      go_ret
      exact ⟨_, rfl, HC, hb, Nat.le_refl _⟩

set_option maxHeartbeats 400000 in
theorem toJoint_row (kd : Int) (s : ByteArray) (ea : Option Addr) (ec : Nat) (es : List MEnd) (w : World) (hp : Hid (EndsAt w ea es)) (hl : es.length ≤ 1048576) :
    Calls Tryz.prog 61 #[.agg #[.int .i64 kd, .string s, .slice ea es.length ec]] w fun e w' => ∃ g, e = .returned (.agg #[.int .i64 kd, .string s, .slice (some ⟨g, 0, none⟩) es.length es.length]) ∧ Hid (EndRowAt w' g es) ∧ Below w.heap.size w w' ∧ w.heap.size ≤ g := by
  go_enter Tryz.func61, Tryz.ntmps61
  go_wp2_with fail
  refine (toEndS_row _ _ _ _ (hp.out.below (by repeat (first | exact Below.refl _ _ | assumption | refine Below.drew ?_ | refine bdrewN ?_ _ | refine Below.setCell ?_ (by first | omega | (simp; done) | (simp; omega)) _ | refine Below.alloc ?_ (by first | omega | (simp; done) | (simp; omega)) _))) hl).mono ?_
  rintro e w1 ⟨g, rfl, hq, hb, hg⟩
  obtain ⟨hc, hf⟩ := bcell hb
  have hbw : Below w.heap.size w w1 := Below.trans (by repeat (first | exact Below.refl _ _ | assumption | refine Below.drew ?_ | refine bdrewN ?_ _ | refine Below.setCell ?_ (by first | omega | (simp; done) | (simp; omega)) _ | refine Below.alloc ?_ (by first | omega | (simp; done) | (simp; omega)) _)) (hb.mono (by simp; omega))
  have hgw : w.heap.size + 3 ≤ g := by simpa using hg
  have hz : w.heap.size + 3 ≤ w1.heap.size := by have := hb.size; simpa using this
  clear hb hg
  go_wp2_with fail
  refine bodyPost_ret (v := .agg #[.int .i64 kd, .string s, .slice (some ⟨g, 0, none⟩) es.length es.length]) (by simp [results, Tryz.results61, go_sem, hc]) rfl ⟨g, rfl, ?_, ?_, by omega⟩
  · exact (((hq.out.setOther (by omega) _ _).setOther (by omega) _ _).setOther (by omega) _ _).setOther (by omega) _ _
  · exact (by repeat (first | exact Below.refl _ _ | assumption | refine Below.drew ?_ | refine bdrewN ?_ _ | refine Below.setCell ?_ (by first | omega | (simp; done) | (simp; omega)) _ | refine Below.alloc ?_ (by first | omega | (simp; done) | (simp; omega)) _))

/-- The first k joints stand in a row; their ends each in a row of their own behind it. -/
def JointRow2 (w : World) (B : Nat) (js : List MJoint) (k : Nat) (f : Nat → Value) : Prop :=
  ∀ i (h : i < js.length), i < k → f (i * 3) = .int .i64 js[i].kind ∧ f (i * 3 + 1) = .string js[i].name ∧
    ∃ g, f (i * 3 + 2) = .slice (some ⟨g, 0, none⟩) js[i].ends.length js[i].ends.length ∧ B < g ∧ EndRowAt w g js[i].ends

theorem JointRow2.below {w w' : World} {B : Nat} {js : List MJoint} {k : Nat} {f : Nat → Value} (h : JointRow2 w B js k f) (hb : Below w.heap.size w w') : JointRow2 w' B js k f := by
  intro i hi hk
  obtain ⟨h1, h2, g, h3, h4, h5⟩ := h i hi hk
  exact ⟨h1, h2, g, h3, h4, h5.below hb⟩

theorem JointRow2.setCell {w : World} {B : Nat} {js : List MJoint} {k : Nat} {f : Nat → Value} (h : JointRow2 w B js k f) (o : Nat) (v : Value) : JointRow2 (w.setCell ⟨B, o, none⟩ v) B js k f := by
  intro i hi hk
  obtain ⟨h1, h2, g, h3, h4, h5⟩ := h i hi hk
  exact ⟨h1, h2, g, h3, h4, h5.setOther (by omega) o v⟩

theorem JointRow2.next {w : World} {B : Nat} {js : List MJoint} {k : Nat} {f : Nat → Value} (h : JointRow2 w B js k f) (hk : k < js.length) (g : Nat) (hg : B < g) (he : EndRowAt w g js[k].ends) :
    JointRow2 w B js (k + 1) (fun j => if j = k * 3 + 2 then .slice (some ⟨g, 0, none⟩) js[k].ends.length js[k].ends.length else if j = k * 3 + 1 then .string js[k].name else if j = k * 3 then .int .i64 js[k].kind else f j) := by
  intro i hi hik
  by_cases e : i = k
  · subst e
    refine ⟨by simp, by simp, g, by simp, hg, he⟩
  · obtain ⟨h1, h2, g', h3, h4, h5⟩ := h i hi (by omega)
    refine ⟨?_, ?_, g', ?_, h4, h5⟩
    · dsimp only; rw [if_neg (by omega), if_neg (by omega), if_neg (by omega)]; exact h1
    · dsimp only; rw [if_neg (by omega), if_neg (by omega), if_neg (by omega)]; exact h2
    · dsimp only; rw [if_neg (by omega), if_neg (by omega), if_neg (by omega)]; exact h3

/-- Joints in a row that may be written, their ends each in one of their own behind it. -/
def JointRowAt (w : World) (g : Nat) (js : List MJoint) : Prop := ∃ f, w.rowIs g 115 (js.length * 3) f ∧ JointRow2 w g js js.length f

theorem JointRowAt.lt {w : World} {g : Nat} {js : List MJoint} (h : JointRowAt w g js) : g < w.heap.size := by
  obtain ⟨f, h1, _⟩ := h
  exact h1.lt
theorem JointRowAt.kept {w w' : World} {g : Nat} {js : List MJoint} (h : JointRowAt w g js) (e : ∀ b, g ≤ b → b < w.heap.size → w'.heap[b]? = w.heap[b]?) : JointRowAt w' g js := by
  obtain ⟨f, h1, h2⟩ := h
  refine ⟨f, h1.of_block (e g (Nat.le_refl _) h1.lt), fun i hi hk => ?_⟩
  obtain ⟨k1, k2, q, k3, k4, k5⟩ := h2 i hi hk
  exact ⟨k1, k2, q, k3, k4, k5.kept (e q (Nat.le_of_lt k4) k5.lt)⟩
theorem JointRowAt.below {w w' : World} {g : Nat} {js : List MJoint} (h : JointRowAt w g js) (hb : Below w.heap.size w w') : JointRowAt w' g js := h.kept (fun b _ hb' => hb.block b hb')
theorem JointRowAt.setBefore {w : World} {g : Nat} {js : List MJoint} (h : JointRowAt w g js) {b : Nat} (hb : b < g) (o : Nat) (v : Value) : JointRowAt (w.setCell ⟨b, o, none⟩ v) g js := h.kept (fun c hc _ => Below.heap_setCell _ _ _ _ (by show c ≠ b; omega))
theorem JointRowAt.cells {w : World} {g : Nat} {js : List MJoint} (h : JointRowAt w g js) (hl : ∀ j, j ∈ js → j.ends.length ≤ 1048576) : JointCells w g 0 js := by
  obtain ⟨f, h1, h2⟩ := h
  intro i hi
  obtain ⟨k1, k2, q, k3, _, k5⟩ := h2 i hi hi
  simp only [Nat.zero_add]
  refine ⟨by rw [h1.cell (by omega), k1], by rw [h1.cell (by omega), k2], _, _, by rw [h1.cell (by omega), k3], ?_, Or.inr ⟨q, 0, rfl, k5.cells⟩⟩
  have := hl _ (List.getElem_mem hi)
  unfold maxLen
  omega

set_option maxHeartbeats 1000000 in
theorem toJointS_row (a : Option Addr) (cap : Nat) (ps : List MJoint) (w : World) (hp : Hid (JointsAt w a ps)) (hl : ps.length ≤ 1048576) (hel : Hid (∀ j, j ∈ ps → j.ends.length ≤ 1048576)) :
    Calls Tryz.prog 25 #[.slice a ps.length cap] w fun e w' => ∃ g, e = .returned (.slice (some ⟨g, 0, none⟩) ps.length ps.length) ∧ Hid (JointRowAt w' g ps) ∧ Below w.heap.size w w' ∧ w.heap.size ≤ g := by
  obtain ⟨w1, hm, hrow, hb1, hz1⟩ := make_structs (P := Tryz.prog) w 32 115 _ _ _ Tryz.underlying32 Tryz.infoJ (by omega) ps.length hl
  have HROW : Hid (∃ f, w1.rowIs w.heap.size 115 (ps.length * 3) f) := hrow
  clear hrow
  go_enter Tryz.func25, Tryz.ntmps25
  go_wp2_with fail
  go_loopw [4] (fun i wr => ∃ (k : Nat) (f : Nat → Value), k ≤ ps.length ∧ i = .int .i64 k ∧ Hid (wr.rowIs w.heap.size 115 (ps.length * 3) f) ∧ Hid (JointRow2 wr w.heap.size ps k f) ∧ Below w.heap.size w wr ∧ w.heap.size < wr.heap.size) (fun i _ => ps.length - (intOf i).toNat)
  case atStart =>
    obtain ⟨f, hf⟩ := HROW.out
    exact ⟨0, f, Nat.zero_le _, rfl, hf, (fun i _ h => absurd h (Nat.not_lt_zero i)), hb1, by omega⟩
  case round =>
    obtain ⟨k, f, hk, rfl, hrow, hpr, hb, hz⟩ := hrel
    clear hm HROW hb1 hz1
    by_cases hk' : k < ps.length
    · obtain ⟨b, off, rfl, hpc⟩ := hp.out.2.2.resolve_left (fun h => by rw [h] at hk'; exact absurd hk' (Nat.not_lt_zero _))
      obtain ⟨c1, c2, ea, ec, c3, c4⟩ := (hpc.below hb) k hk'
      clear hpc
      have C4 : Hid (EndsAt wr ea ps[k].ends) := c4
      have hke : ps[k].ends.length ≤ 1048576 := hel.out _ (List.getElem_mem hk')
      clear c4
      go_wp2_with fail
      refine (toJoint_row _ _ _ _ _ _ C4 hke).mono ?_
      rintro e w2 ⟨g, rfl, hge, hb2, hgg⟩
      have hr2 : w2.rowIs w.heap.size 115 (ps.length * 3) f := hrow.out.of_block (hb2.block _ hz)
      have HNX := (hpr.out.below hb2).next hk' g (by omega) hge.out
      have HNX' : Hid (JointRow2 w2 w.heap.size ps (k + 1) _) := HNX
      have d0 := hr2.cell (i := k * 3) (by omega)
      have d1 := hr2.cell (i := k * 3 + 1) (by omega)
      have d2 := hr2.cell (i := k * 3 + 2) (by omega)
      have e0 := hr2.frozen (k * 3)
      have e1 := hr2.frozen (k * 3 + 1)
      have e2 := hr2.frozen (k * 3 + 2)
      have HR2 : Hid (w2.rowIs w.heap.size 115 (ps.length * 3) f) := hr2
      clear HNX hpr hr2 hrow
      have hb3 : Below w.heap.size w w2 := hb.trans (hb2.mono hb.size)
      have hz2 : w.heap.size < w2.heap.size := Nat.lt_of_lt_of_le hz hb2.size
      clear hb hb2 hz hge hgg C4 c1 c2 c3
      go_wp2_with fail
      go_roundw
      case rel =>
        refine ⟨k + 1, _, by omega, by go_num, (((HR2.out.set (k * 3) _).set (k * 3 + 1) _).set (k * 3 + 2) _), ((HNX'.out.setCell _ _).setCell _ _).setCell _ _, (by repeat (first | exact Below.refl _ _ | assumption | refine Below.drew ?_ | refine bdrewN ?_ _ | refine Below.setCell ?_ (by first | omega | (simp; done) | (simp; omega)) _ | refine Below.alloc ?_ (by first | omega | (simp; done) | (simp; omega)) _)), by simpa using hz2⟩
      case measure => simp [intOf]; omega
    · have hkk : k = ps.length := by omega
      have HC : Hid (JointRowAt wr w.heap.size ps) := ⟨f, hrow.out, hkk ▸ hpr.out⟩
      clear hrow hpr hkk
      go_wp2
      go_ret
      exact ⟨_, rfl, HC, hb, Nat.le_refl _⟩

set_option maxHeartbeats 400000 in
theorem toNet_row (pa ja : Option Addr) (pc jc : Nat) (ps : List MPiece) (js : List MJoint) (w : World) (hp : Hid (PiecesAt w pa ps)) (hj : Hid (JointsAt w ja js)) (hpl : ps.length ≤ 1048576) (hjl : js.length ≤ 1048576) (hel : Hid (∀ j, j ∈ js → j.ends.length ≤ 1048576)) :
    Calls Tryz.prog 7 #[.agg #[.slice pa ps.length pc, .slice ja js.length jc]] w fun e w' => ∃ g h, e = .returned (.agg #[.slice (some ⟨g, 0, none⟩) ps.length ps.length, .slice (some ⟨h, 0, none⟩) js.length js.length]) ∧ Hid (PieceRowAt w' 108 g ps) ∧ Hid (JointRowAt w' h js) ∧ Below w.heap.size w w' ∧ w.heap.size ≤ g ∧ g < h := by
  go_enter Tryz.func7, Tryz.ntmps7
  go_wp2_with fail
  refine (toPieceS_row _ _ _ _ (hp.out.below (by repeat (first | exact Below.refl _ _ | assumption | refine Below.drew ?_ | refine bdrewN ?_ _ | refine Below.setCell ?_ (by first | omega | (simp; done) | (simp; omega)) _ | refine Below.alloc ?_ (by first | omega | (simp; done) | (simp; omega)) _))) hpl).mono ?_
  rintro e w1 ⟨g, rfl, hq, hb, hg⟩
  obtain ⟨hc, hf⟩ := bcell hb
  have hbw : Below w.heap.size w w1 := Below.trans (by repeat (first | exact Below.refl _ _ | assumption | refine Below.drew ?_ | refine bdrewN ?_ _ | refine Below.setCell ?_ (by first | omega | (simp; done) | (simp; omega)) _ | refine Below.alloc ?_ (by first | omega | (simp; done) | (simp; omega)) _)) (hb.mono (by simp; omega))
  have hz : w.heap.size + 3 ≤ w1.heap.size := by have := hb.size; simpa using this
  have hgw : w.heap.size + 3 ≤ g := by simpa using hg
  clear hb hg
  go_wp2_with fail
  refine (toJointS_row _ _ _ _ (hj.out.below (by repeat (first | exact Below.refl _ _ | assumption | refine Below.drew ?_ | refine bdrewN ?_ _ | refine Below.setCell ?_ (by first | omega | (simp; done) | (simp; omega)) _ | refine Below.alloc ?_ (by first | omega | (simp; done) | (simp; omega)) _))) hjl hel).mono ?_
  rintro e w2 ⟨gj, rfl, hq2, hb, hg⟩
  have hz0 : w.heap.size + 1 + 1 < w1.heap.size := by omega
  have hz1 : w.heap.size + 1 < w1.heap.size := by omega
  obtain ⟨hc2, hf2⟩ := bcell hb
  have hbw2 : Below w.heap.size w w2 := Below.trans (by repeat (first | exact Below.refl _ _ | assumption | refine Below.drew ?_ | refine bdrewN ?_ _ | refine Below.setCell ?_ (by first | omega | (simp; done) | (simp; omega)) _ | refine Below.alloc ?_ (by first | omega | (simp; done) | (simp; omega)) _)) (hb.mono (by simp; omega))
  have hz2 : w.heap.size + 3 ≤ w2.heap.size := by have := hb.size; simp at this; omega
  have hhw : w.heap.size + 3 ≤ gj := by simp at hg; omega
  have hgj : g < gj := Nat.lt_of_lt_of_le hq.out.lt (by have := hg; simp at this; omega)
  have HP2 : Hid (PieceRowAt w2 108 g ps) := (hq.out.kept (Below.heap_setCell _ _ _ _ (by simp only [ne_eq]; omega))).kept (hb.block g (by have := hq.out.lt; simpa using this))
  clear hb hg hq
  go_wp2_with fail
  refine bodyPost_ret (v := .agg #[.slice (some ⟨g, 0, none⟩) ps.length ps.length, .slice (some ⟨gj, 0, none⟩) js.length js.length]) (by simp [results, Tryz.results7, go_sem, hc, hc2, hz1]) rfl ⟨g, gj, rfl, ?_, ?_, (by repeat (first | exact Below.refl _ _ | assumption | refine Below.drew ?_ | refine bdrewN ?_ _ | refine Below.setCell ?_ (by first | omega | (simp; done) | (simp; omega)) _ | refine Below.alloc ?_ (by first | omega | (simp; done) | (simp; omega)) _)), by omega, hgj⟩
  · exact ((HP2.out.kept (Below.heap_setCell _ _ _ _ (by simp only [ne_eq]; omega))).kept (Below.heap_setCell _ _ _ _ (by simp only [ne_eq]; omega))).kept (Below.heap_setCell _ _ _ _ (by simp only [ne_eq]; omega))
  · exact ((hq2.out.setBefore (by omega) _ _).setBefore (by omega) _ _).setBefore (by omega) _ _

set_option maxHeartbeats 1000000 in
theorem toSignalS_row (a : Option Addr) (cap : Nat) (ps : List MPiece) (w : World) (hp : Hid (PiecesAt w a ps)) (hl : ps.length ≤ 1048576) :
    Calls Tryz.prog 8 #[.slice a ps.length cap] w fun e w' => ∃ g, e = .returned (.slice (some ⟨g, 0, none⟩) ps.length ps.length) ∧ Hid (PieceRowAt w' 56 g ps) ∧ Below w.heap.size w w' ∧ w.heap.size ≤ g := by
  obtain ⟨w1, hm, hrow, hb1, hz1⟩ := make_structs (P := Tryz.prog) w 36 56 _ _ _ Tryz.underlying36 Tryz.infoS (by omega) ps.length hl
  have HROW : Hid (∃ f, w1.rowIs w.heap.size 56 (ps.length * 4) f) := hrow
  clear hrow
  go_enter Tryz.func8, Tryz.ntmps8
  go_wp2_with fail
  go_loopw [4] (fun i wr => ∃ (k : Nat) (f : Nat → Value), k ≤ ps.length ∧ i = .int .i64 k ∧ Hid (wr.rowIs w.heap.size 56 (ps.length * 4) f) ∧ Hid (PieceRow ps k f) ∧ Below w.heap.size w wr ∧ w.heap.size < wr.heap.size) (fun i _ => ps.length - (intOf i).toNat)
  case atStart =>
    obtain ⟨f, hf⟩ := HROW.out
    exact ⟨0, f, Nat.zero_le _, rfl, hf, (fun i _ h => absurd h (Nat.not_lt_zero i)), hb1, by omega⟩
  case round =>
    obtain ⟨k, f, hk, rfl, hrow, hpr, hb, hz⟩ := hrel
    clear hm HROW hb1 hz1
    by_cases hk' : k < ps.length
    · obtain ⟨b, off, rfl, hpc⟩ := hp.out.2.2.resolve_left (fun h => by rw [h] at hk'; exact absurd hk' (Nat.not_lt_zero _))
      obtain ⟨c1, c2, c3, c4⟩ := (hpc.below hb) k hk'
      clear hpc
      have HNX := hpr.out.next hk'
      have HNX' : Hid (PieceRow ps (k + 1) _) := HNX
      clear HNX hpr
      go_wp2_with fail
      refine (toSignal_any _ _ _ _ _).mono ?_
      rintro e w2 ⟨rfl, hb2⟩
      have hr2 : w2.rowIs w.heap.size 56 (ps.length * 4) f := hrow.out.of_block (hb2.block _ hz)
      have d0 := hr2.cell (i := k * 4) (by omega)
      have d1 := hr2.cell (i := k * 4 + 1) (by omega)
      have d2 := hr2.cell (i := k * 4 + 2) (by omega)
      have d3 := hr2.cell (i := k * 4 + 3) (by omega)
      have e0 := hr2.frozen (k * 4)
      have e1 := hr2.frozen (k * 4 + 1)
      have e2 := hr2.frozen (k * 4 + 2)
      have e3 := hr2.frozen (k * 4 + 3)
      have HR2 : Hid (w2.rowIs w.heap.size 56 (ps.length * 4) f) := hr2
      clear hr2 hrow
      have hb3 : Below w.heap.size w w2 := hb.trans (hb2.mono hb.size)
      have hz2 : w.heap.size < w2.heap.size := Nat.lt_of_lt_of_le hz hb2.size
      clear hb hb2 hz c1 c2 c3 c4
      go_wp2_with fail
      go_roundw
      case rel =>
        refine ⟨k + 1, _, by omega, by go_num, ((((HR2.out.set (k * 4) _).set (k * 4 + 1) _).set (k * 4 + 2) _).set (k * 4 + 3) _), HNX', (by repeat (first | exact Below.refl _ _ | assumption | refine Below.drew ?_ | refine bdrewN ?_ _ | refine Below.setCell ?_ (by first | omega | (simp; done) | (simp; omega)) _ | refine Below.alloc ?_ (by first | omega | (simp; done) | (simp; omega)) _)), by simpa using hz2⟩
      case measure => simp [intOf]; omega
    · have hkk : k = ps.length := by omega
      have HC : Hid (PieceRowAt wr 56 w.heap.size ps) := ⟨f, hrow.out, hkk ▸ hpr.out⟩
      clear hrow hpr hkk
      go_wp2
      go_ret
      exact ⟨_, rfl, HC, hb, Nat.le_refl _⟩

end Go.Proofs.YtmkdgnmmebldgaaGreat

namespace Go.Proofs.YtmkdgnmmebldgaaGreat
open Go.RowKit Go.Deep

def signOf (n : Int) : ByteArray := ByteArray.empty.push (UInt8.ofNat n.toNat)
theorem signOf_size (n : Int) : (signOf n).size = 1 := rfl

theorem conv_sign (w : World) (n : Int) :
    (convert 142 9 (.slice (some ⟨w.heap.size, 0, none⟩) 1 1)).run Tryz.prog (w.alloc (.cells #[.int .u8 n] 5)) = .ok (.string (signOf n)) (w.alloc (.cells #[.int .u8 n] 5)) := by
  rw [run_convert_bytes_string _ _ _ 5 _ _ _ Tryz.underlying142 Tryz.underlying5 Tryz.underlying9]
  have hl := run_loadCells_list (P := Tryz.prog) (w.alloc (.cells #[.int .u8 n] 5)) ⟨w.heap.size, 0, none⟩ ([n].map (Value.int .u8)) (fun j v hj => by
    match j, hj with
    | 0, hj => simp at hj; subst hj; simp [Addr.add, go_sem])
  exact run_bytesToString _ _ 1 1 [n] hl

set_option maxRecDepth 10000 in
set_option maxHeartbeats 1000000 in
theorem markText_any (k : Int) (w : World) (h0 : 0 ≤ k) (h1 : k ≤ 17592186044416) :
    Calls Tryz.prog 37 #[.int .i64 k] w fun e w' => (∃ s, e = .returned (.string s)) ∧ Below w.heap.size w w' := by
  by_cases hk : k ≤ 0
  · go_enter Tryz.func37, Tryz.ntmps37
    go_wp2_with fail
    go_ret
    exact ⟨⟨_, rfl⟩, Below.refl _ _⟩
  · go_enter Tryz.func37, Tryz.ntmps37
    go_wp2_with fail
    go_loopw [0, 3] (fun kk o wr => ∃ (m : Int) (s : ByteArray), kk = .int .i64 m ∧ o = .string s ∧ 0 ≤ m ∧ (s.size : Int) + m ≤ 17592186044416 ∧ Below w.heap.size w wr) (fun kk _ _ => (intOf kk).toNat)
    case atStart => exact ⟨k, _, rfl, rfl, by omega, by show (0 : Int) + k ≤ _; omega, Below.refl _ _⟩
    case round =>
      obtain ⟨m, s, rfl, rfl, hm0, hm1, hb⟩ := hrel
      by_cases hm : 0 < m
      · have hcv := conv_sign
        have hsz := signOf_size
        go_wp2_with fail
        go_roundw
        case rel =>
          have hbs := hb.size
          refine ⟨_, _, rfl, rfl, ?_, ?_, (by repeat (first | exact Below.refl _ _ | assumption | refine Below.drew ?_ | refine bdrewN ?_ _ | refine Below.setCell ?_ (by first | omega | (simp; done) | (simp; omega)) _ | refine Below.alloc ?_ (by first | omega | (simp; done) | (simp; omega)) _))⟩
          · omega
          · have h2 := signOf_size (48 + m % 10)
            simp only [ByteArray.size_append, h2]
            omega
        case measure => simp [intOf]; omega
      · go_wp2_with fail
        go_ret
        exact ⟨⟨_, rfl⟩, hb⟩

theorem markEnd_next {k : Int} {m : Nat} {f : Nat → Value} (h : ∀ j : Nat, j < m * 2 → f j = .int .i64 (k + j)) :
    ∀ j : Nat, j < (m + 1) * 2 → (fun j : Nat => if j = m * 2 + 1 then .int .i64 (k + m * 2 + 1) else if j = m * 2 then .int .i64 (k + m * 2) else f j) j = .int .i64 (k + j) := by
  intro j hj
  dsimp only
  by_cases e1 : j = m * 2 + 1
  · rw [if_pos e1]; congr 1; omega
  rw [if_neg e1]
  by_cases e0 : j = m * 2
  · rw [if_pos e0]; congr 1; omega
  rw [if_neg e0]
  exact h j (by omega)

set_option maxHeartbeats 1000000 in
theorem markEndS_walk (g N n cap : Nat) (k : Int) (f0 : Nat → Value) (w : World) (hr : Hid (w.rowIs g 112 N f0)) (hn : n * 2 ≤ N) (hk : 0 ≤ k) (hkb : k + n * 2 ≤ 1152921504606846976) :
    Calls Tryz.prog 76 #[.slice (some ⟨g, 0, none⟩) n cap, .int .i64 k] w fun e w' => e = .returned (.int .i64 (k + n * 2)) ∧ (∃ f, w'.rowIs g 112 N f ∧ ∀ j : Nat, j < n * 2 → f j = .int .i64 (k + j)) ∧ w.grownBy w' (some g) := by
  have hg0 : w.grownBy w (some g) := ⟨rfl, rfl, rfl, Nat.le_refl _, fun _ _ _ => rfl⟩
  have HG0 := hidP hg0
  clear hg0
  go_enter Tryz.func76, Tryz.ntmps76
  go_wp2_with fail
  go_loopw [1, 5] (fun kk i wr => ∃ (m : Nat) (f : Nat → Value), m ≤ n ∧ i = .int .i64 m ∧ kk = .int .i64 (k + m * 2) ∧ Hid (wr.rowIs g 112 N f) ∧ Hid (∀ j : Nat, j < m * 2 → f j = .int .i64 (k + j)) ∧ Hid (w.grownBy wr (some g))) (fun _ i _ => n - (intOf i).toNat)
  case atStart => exact ⟨0, f0, Nat.zero_le _, rfl, by simp, hr, (fun j h => absurd h (by omega)), HG0⟩
  case round =>
    obtain ⟨m, f, hm, rfl, rfl, hrow, hf, hg⟩ := hrel
    clear hr HG0
    by_cases hm' : m < n
    · have HN := hidP (markEnd_next hf.out)
      have d0 := hrow.out.cell (i := m * 2) (by omega)
      have e0 := hrow.out.frozen (m * 2)
      have d1 := hrow.out.cell (i := m * 2 + 1) (by omega)
      have e1 := hrow.out.frozen (m * 2 + 1)
      clear hf
      go_wp2_with fail
      go_roundw
      case rel => exact ⟨m + 1, _, by omega, by go_num, by go_num, ((hrow.out.set (m * 2) _).set (m * 2 + 1) _), HN, (grown_set (grown_set hg.out _ _) _ _)⟩
      case measure => simp [intOf]; omega
    · have hmm : m = n := by omega
      subst hmm
      go_wp2
      go_ret
      exact ⟨rfl, ⟨f, hrow.out, hf.out⟩, hg.out⟩

set_option maxHeartbeats 400000 in
theorem markEndS_nil (a : Option Addr) (cap : Nat) (k : Int) (w : World) :
    Calls Tryz.prog 76 #[.slice a 0 cap, .int .i64 k] w fun e w' => e = .returned (.int .i64 k) ∧ w' = w := by
  go_enter Tryz.func76, Tryz.ntmps76
  go_wp2_with fail
  go_loopw [1, 5] (fun l i wr => i = .int .i64 0 ∧ l = .int .i64 k ∧ wr = w) (fun _ _ _ => 0)
  case atStart => exact ⟨rfl, rfl, rfl⟩
  case round =>
    obtain ⟨rfl, rfl, rfl⟩ := hrel
    go_wp2
    go_ret
    exact ⟨rfl, rfl⟩

set_option maxRecDepth 10000 in
set_option maxHeartbeats 1000000 in
theorem markPieceS_walk (g N n cap : Nat) (k : Int) (f0 : Nat → Value) (w : World) (hr : Hid (w.rowIs g 108 N f0)) (hn : n * 4 ≤ N) (hk : 0 ≤ k) (hkb : k + n * 4 ≤ 17592186044416) :
    Calls Tryz.prog 35 #[.slice (some ⟨g, 0, none⟩) n cap, .int .i64 k] w fun e w' => e = .returned (.int .i64 (k + n * 4)) ∧ (∃ f, w'.rowIs g 108 N f) ∧ w.grownBy w' (some g) := by
  have hg0 : w.grownBy w (some g) := ⟨rfl, rfl, rfl, Nat.le_refl _, fun _ _ _ => rfl⟩
  have HG0 := hidP hg0
  clear hg0
  go_enter Tryz.func35, Tryz.ntmps35
  go_wp2_with fail
  go_loopw [1, 5] (fun kk i wr => ∃ (m : Nat) (f : Nat → Value), m ≤ n ∧ i = .int .i64 m ∧ kk = .int .i64 (k + m * 4) ∧ Hid (wr.rowIs g 108 N f) ∧ Hid (w.grownBy wr (some g))) (fun _ i _ => n - (intOf i).toNat)
  case atStart => exact ⟨0, f0, Nat.zero_le _, rfl, by simp, hr, HG0⟩
  case round =>
    obtain ⟨m, f, hm, rfl, rfl, hrow, hg⟩ := hrel
    clear hr HG0
    by_cases hm' : m < n
    · go_wp2_with fail
      refine (markText_any _ _ (by omega) (by omega)).mono ?_
      rintro e w2 ⟨⟨s, rfl⟩, hb2⟩
      have hr2 : w2.rowIs g 108 N f := hrow.out.of_block (hb2.block g hrow.out.lt)
      have hg2 : w.grownBy w2 (some g) := ⟨hb2.os.trans hg.out.os, hb2.tape.trans hg.out.tape, hb2.output.trans hg.out.output, Nat.le_trans hg.out.size hb2.size, fun b hb hne => (hb2.block b (Nat.lt_of_lt_of_le hb hg.out.size)).trans (hg.out.block b hb hne)⟩
      have HR := hidP hr2
      have HG := hidP hg2
      have d0 := hr2.cell (i := m * 4) (by omega)
      have d1 := hr2.cell (i := m * 4 + 1) (by omega)
      have d2 := hr2.cell (i := m * 4 + 2) (by omega)
      have d3 := hr2.cell (i := m * 4 + 3) (by omega)
      have e0 := hr2.frozen (m * 4)
      have e1 := hr2.frozen (m * 4 + 1)
      have e2 := hr2.frozen (m * 4 + 2)
      have e3 := hr2.frozen (m * 4 + 3)
      clear hr2 hg2 hb2 hrow hg
      go_wp2_with fail
      go_roundw
      case rel => exact ⟨m + 1, _, by omega, by go_num, by go_num, (((HR.out.set (m * 4) _).set (m * 4 + 1) _).set (m * 4 + 2) _).set (m * 4 + 3) _, grown_set (grown_set (grown_set (grown_set HG.out _ _) _ _) _ _) _ _⟩
      case measure => simp [intOf]; omega
    · have hmm : m = n := by omega
      subst hmm
      go_wp2
      go_ret
      exact ⟨rfl, ⟨f, hrow.out⟩, hg.out⟩

set_option maxRecDepth 10000 in
set_option maxHeartbeats 1000000 in
theorem markSignalS_walk (g N n cap : Nat) (k : Int) (f0 : Nat → Value) (w : World) (hr : Hid (w.rowIs g 56 N f0)) (hn : n * 4 ≤ N) (hk : 0 ≤ k) (hkb : k + n * 4 ≤ 17592186044416) :
    Calls Tryz.prog 14 #[.slice (some ⟨g, 0, none⟩) n cap, .int .i64 k] w fun e w' => e = .returned (.int .i64 (k + n * 4)) ∧ (∃ f, w'.rowIs g 56 N f) ∧ w.grownBy w' (some g) := by
  have hg0 : w.grownBy w (some g) := ⟨rfl, rfl, rfl, Nat.le_refl _, fun _ _ _ => rfl⟩
  have HG0 := hidP hg0
  clear hg0
  go_enter Tryz.func14, Tryz.ntmps14
  go_wp2_with fail
  go_loopw [1, 5] (fun kk i wr => ∃ (m : Nat) (f : Nat → Value), m ≤ n ∧ i = .int .i64 m ∧ kk = .int .i64 (k + m * 4) ∧ Hid (wr.rowIs g 56 N f) ∧ Hid (w.grownBy wr (some g))) (fun _ i _ => n - (intOf i).toNat)
  case atStart => exact ⟨0, f0, Nat.zero_le _, rfl, by simp, hr, HG0⟩
  case round =>
    obtain ⟨m, f, hm, rfl, rfl, hrow, hg⟩ := hrel
    clear hr HG0
    by_cases hm' : m < n
    · go_wp2_with fail
      refine (markText_any _ _ (by omega) (by omega)).mono ?_
      rintro e w2 ⟨⟨s, rfl⟩, hb2⟩
      have hr2 : w2.rowIs g 56 N f := hrow.out.of_block (hb2.block g hrow.out.lt)
      have hg2 : w.grownBy w2 (some g) := ⟨hb2.os.trans hg.out.os, hb2.tape.trans hg.out.tape, hb2.output.trans hg.out.output, Nat.le_trans hg.out.size hb2.size, fun b hb hne => (hb2.block b (Nat.lt_of_lt_of_le hb hg.out.size)).trans (hg.out.block b hb hne)⟩
      have HR := hidP hr2
      have HG := hidP hg2
      have d0 := hr2.cell (i := m * 4) (by omega)
      have d1 := hr2.cell (i := m * 4 + 1) (by omega)
      have d2 := hr2.cell (i := m * 4 + 2) (by omega)
      have d3 := hr2.cell (i := m * 4 + 3) (by omega)
      have e0 := hr2.frozen (m * 4)
      have e1 := hr2.frozen (m * 4 + 1)
      have e2 := hr2.frozen (m * 4 + 2)
      have e3 := hr2.frozen (m * 4 + 3)
      clear hr2 hg2 hb2 hrow hg
      go_wp2_with fail
      go_roundw
      case rel => exact ⟨m + 1, _, by omega, by go_num, by go_num, (((HR.out.set (m * 4) _).set (m * 4 + 1) _).set (m * 4 + 2) _).set (m * 4 + 3) _, grown_set (grown_set (grown_set (grown_set HG.out _ _) _ _) _ _) _ _⟩
      case measure => simp [intOf]; omega
    · have hmm : m = n := by omega
      subst hmm
      go_wp2
      go_ret
      exact ⟨rfl, ⟨f, hrow.out⟩, hg.out⟩

/-- Joints that may be written, with their ends, all of them from block G on and ahead of block hi. -/
structure JW (w : World) (G hi R N : Nat) (nn : Nat → Nat) : Prop where
  row : ∃ f, w.rowIs G 115 N f ∧ ∀ p, p < R → ∃ q, f (p * 3 + 2) = .slice (some ⟨q, 0, none⟩) (nn p) (nn p) ∧ G < q ∧ q < hi ∧ ∃ h, w.rowIs q 112 (nn p * 2) h

def Win (lo hi b : Nat) : Prop := lo ≤ b ∧ b < hi

def kjF (nn : Nat → Nat) (k : Int) : Nat → Int
  | 0 => k
  | p + 1 => kjF nn k p + 2 + (nn p : Int) * 2
theorem kjF_ge (nn : Nat → Nat) (k : Int) (p : Nat) : k ≤ kjF nn k p := by
  induction p with
  | zero => exact Int.le_refl _
  | succ p ih => simp only [kjF]; omega
theorem kjF_le (nn : Nat → Nat) (k : Int) (R : Nat) (h : ∀ p, p < R → nn p ≤ 1048576) : ∀ p, p ≤ R → kjF nn k p ≤ k + (p : Int) * 2097154 := by
  intro p
  induction p with
  | zero => intro _; simp [kjF]
  | succ p ih => intro hp; have := ih (by omega); have := h p (by omega); simp only [kjF]; omega

/-- A row keeps its length whatever is written into its cells. -/
theorem row_size {w : World} {b t n n' : Nat} {f g : Nat → Value} (h : w.rowIs b t n f) (h' : w.rowIs b t n' g) : n = n' := by
  obtain ⟨c, h1, h2, _⟩ := h
  obtain ⟨c', h3, h4, _⟩ := h'
  rw [h1] at h3
  cases h3
  omega

theorem JW.ends {w w' : World} {G hi R N : Nat} {nn : Nat → Nat} (h : JW w G hi R N nn) {q n : Nat} (hq : G < q) (hr : ∃ f, w.rowIs q 112 (n * 2) f) (hr' : ∃ f, w'.rowIs q 112 (n * 2) f) (hg : w.grownBy w' (some q)) : JW w' G hi R N nn := by
  obtain ⟨f, h1, h2⟩ := h.row
  refine ⟨f, h1.of_block (hg.block G h1.lt (fun e => by cases e; omega)), fun p hp => ?_⟩
  obtain ⟨q', k1, k2, k3, f2, k4⟩ := h2 p hp
  refine ⟨q', k1, k2, k3, ?_⟩
  by_cases e : q' = q
  · subst e
    obtain ⟨f3, hr⟩ := hr
    obtain ⟨f4, hr'⟩ := hr'
    have := row_size k4 hr
    exact ⟨f4, by rw [this]; exact hr'⟩
  · exact ⟨f2, k4.of_block (hg.block q' k4.lt (fun e' => e (by cases e'; rfl)))⟩

theorem JW.set {w : World} {G hi R N : Nat} {nn : Nat → Nat} (h : JW w G hi R N nn) (i : Nat) (hi3 : ∀ p, p < R → i ≠ p * 3 + 2) (v : Value) : JW (w.setCell ⟨G, i, none⟩ v) G hi R N nn := by
  obtain ⟨f, h1, h2⟩ := h.row
  refine ⟨_, h1.set i v, fun p hp => ?_⟩
  obtain ⟨q', k1, k2, k3, f2, k4⟩ := h2 p hp
  exact ⟨q', by rw [if_neg (fun e => hi3 p hp e.symm)]; exact k1, k2, k3, f2, k4.of_block (Below.heap_setCell _ _ _ _ (by simp only [ne_eq]; omega))⟩

theorem JW.below {w w' : World} {G hi R N : Nat} {nn : Nat → Nat} (h : JW w G hi R N nn) (hb : Below w.heap.size w w') : JW w' G hi R N nn := by
  obtain ⟨f, h1, h2⟩ := h.row
  refine ⟨f, h1.of_block (hb.block G h1.lt), fun p hp => ?_⟩
  obtain ⟨q', k1, k2, k3, f2, k4⟩ := h2 p hp
  exact ⟨q', k1, k2, k3, f2, k4.of_block (hb.block q' k4.lt)⟩

set_option maxRecDepth 10000 in
set_option maxHeartbeats 1000000 in
theorem markJointS_walk (G hi R N cap : Nat) (nn : Nat → Nat) (k : Int) (w : World) (h0 : Hid (JW w G hi R N nn)) (hN : R * 3 ≤ N) (hGh : G < hi) (hk : 0 ≤ k) (hR : R ≤ 1048576) (hnn : Hid (∀ p, p < R → nn p ≤ 1048576)) (hkb : k ≤ 1099511627776) :
    Calls Tryz.prog 36 #[.slice (some ⟨G, 0, none⟩) R cap, .int .i64 k] w fun e w' => e = .returned (.int .i64 (kjF nn k R)) ∧ Only (Win G hi) w w' := by
  go_enter Tryz.func36, Tryz.ntmps36
  go_wp2_with fail
  go_loopw [1, 5] (fun kk i wr => ∃ (m : Nat), m ≤ R ∧ i = .int .i64 m ∧ kk = .int .i64 (kjF nn k m) ∧ Hid (JW wr G hi R N nn) ∧ Hid (Only (Win G hi) w wr)) (fun _ i _ => R - (intOf i).toNat)
  case atStart => exact ⟨0, Nat.zero_le _, rfl, rfl, h0, Only.refl _ _⟩
  case round =>
    obtain ⟨m, hm, rfl, rfl, hJ, hO⟩ := hrel
    clear h0
    by_cases hm' : m < R
    · have hk0 := kjF_ge nn k m
      have hk1 := kjF_le nn k R hnn.out m hm
      have hk2 : nn m ≤ 1048576 := hnn.out m hm'
      have HNX : Hid (kjF nn k (m + 1) = kjF nn k m + 2 + (nn m : Int) * 2) := rfl
      generalize kjF nn k m = K at *
      have hWG : Win G hi G := ⟨Nat.le_refl _, hGh⟩
      obtain ⟨f, hf, _⟩ := hJ.out.row
      have d0 := hf.cell (i := m * 3) (by omega)
      have e0 := hf.frozen (m * 3)
      have HJ1 := hidP (hJ.out.set (m * 3) (fun p hp => by omega) (.int .i64 K))
      have HO1 := hidP (hO.out.setCell (p := ⟨G, m * 3, none⟩) (Or.inl hWG) (.int .i64 K))
      clear hf hJ hO
      go_wp2_with fail
      refine (markText_any _ _ (by omega) (by omega)).mono ?_
      rintro e w2 ⟨⟨s, rfl⟩, hb2⟩
      have HJ2 := hidP (HJ1.out.below hb2)
      have HO2 := hidP (HO1.out.trans (Only.of_below hb2))
      obtain ⟨f2, hf2, hs2⟩ := HJ2.out.row
      have d1 := hf2.cell (i := m * 3 + 1) (by omega)
      have e1 := hf2.frozen (m * 3 + 1)
      obtain ⟨q, k1, k2, k3, h4, k4⟩ := hs2 m hm'
      have d2 : w2.cell? ⟨G, m * 3 + 2, none⟩ = some (.slice (some ⟨q, 0, none⟩) (nn m) (nn m)) := by rw [hf2.cell (by omega), k1]
      have HJ3 := hidP (HJ2.out.set (m * 3 + 1) (fun p hp => by omega) (.string s))
      have HO3 := hidP (HO2.out.setCell (p := ⟨G, m * 3 + 1, none⟩) (Or.inl hWG) (.string s))
      have HE := hidP (k4.of_block (w' := w2.setCell ⟨G, m * 3 + 1, none⟩ (.string s)) (Below.heap_setCell _ _ _ _ (by simp only [ne_eq]; omega)))
      clear hf2 hs2 hb2 HJ1 HO1 HJ2 HO2 k1 k4 d0 e0
      go_wp2_with fail
      refine (markEndS_walk q _ (nn m) _ _ _ _ HE (Nat.le_refl _) (by omega) (by omega)).mono ?_
      rintro e w4 ⟨rfl, ⟨f5, hf5, _⟩, hg5⟩
      have HJ4 := hidP (HJ3.out.ends k2 ⟨_, HE.out⟩ ⟨f5, hf5⟩ hg5)
      have HO4 := hidP (HO3.out.trans (Only.of_grown hg5 (fun b hb => by cases hb; exact ⟨by omega, k3⟩)))
      clear hf5 hg5 HJ3 HO3 HE d1 e1 d2
      go_wp2_with fail
      go_roundw
      case rel => exact ⟨m + 1, by omega, by go_num, by have h2 := HNX.out; rw [h2]; congr 1; omega, HJ4, HO4⟩
      case measure => simp [intOf]; omega
    · have hmm : m = R := by omega
      subst hmm
      go_wp2
      go_ret
      exact ⟨rfl, hO.out⟩

theorem jw_of_row {w : World} {g hi : Nat} {js : List MJoint} (h : JointRowAt w g js) (hh : hi = w.heap.size) : JW w g hi js.length (js.length * 3) (fun p => (js[p]?.map (fun j => j.ends.length)).getD 0) := by
  obtain ⟨f, h1, h2⟩ := h
  refine ⟨f, h1, fun p hp => ?_⟩
  obtain ⟨_, _, q, k3, k4, f2, k5, _⟩ := h2 p hp hp
  have e : (js[p]?.map (fun j => j.ends.length)).getD 0 = js[p].ends.length := by simp [List.getElem?_eq_getElem hp]
  rw [e]
  exact ⟨q, k3, k4, by rw [hh]; exact k5.lt, f2, k5⟩

theorem JW.kept {w w' : World} {G hi R N : Nat} {nn : Nat → Nat} (h : JW w G hi R N nn) (hb : ∀ b, G ≤ b → b < hi → w'.heap[b]? = w.heap[b]?) (hG : G < hi) : JW w' G hi R N nn := by
  obtain ⟨f, h1, h2⟩ := h.row
  refine ⟨f, h1.of_block (hb G (Nat.le_refl _) hG), fun p hp => ?_⟩
  obtain ⟨q', k1, k2, k3, f2, k4⟩ := h2 p hp
  exact ⟨q', k1, k2, k3, f2, k4.of_block (hb q' (Nat.le_of_lt k2) k3)⟩

set_option maxHeartbeats 1000000 in
theorem markNet_any (g h hi np R pc jc : Nat) (nn : Nat → Nat) (k : Int) (w : World) (hp : Hid (∃ f, w.rowIs g 108 (np * 4) f)) (hj : Hid (JW w h hi R (R * 3) nn)) (hgh : g < h) (hhi : h < hi) (hhw : hi ≤ w.heap.size) (hk : 0 ≤ k) (hkb : k ≤ 16777216) (hnp : np ≤ 1048576) (hR : R ≤ 1048576) (hnn : Hid (∀ p, p < R → nn p ≤ 1048576)) :
    Calls Tryz.prog 13 #[.agg #[.slice (some ⟨g, 0, none⟩) np pc, .slice (some ⟨h, 0, none⟩) R jc], .int .i64 k] w fun e w' => (∃ r : Int, e = .returned (.int .i64 r) ∧ 0 ≤ r ∧ r ≤ 8796093022208) ∧ Only (Win g hi) w w' := by
  obtain ⟨f, hf⟩ := hp.out
  have hgw := hf.lt
  have HF := hidP hf
  clear hf hp
  go_enter Tryz.func13, Tryz.ntmps13
  go_wp2_with fail
  generalize hW : w.alloc _ = W
  have e0 : W.cell? ⟨w.heap.size, 0, none⟩ = some (.slice (some ⟨g, 0, none⟩) np pc) := by rw [← hW]; simp [go_sem]
  have e1 : W.cell? ⟨w.heap.size, 1, none⟩ = some (.slice (some ⟨h, 0, none⟩) R jc) := by rw [← hW]; simp [go_sem]
  have hz : w.heap.size + 1 ≤ W.heap.size := by rw [← hW]; simp
  have HO : Hid (Only (Win g hi) w W) := by rw [← hW]; exact (Only.refl _ _).alloc _
  have hWb : ∀ b, b < w.heap.size → W.heap[b]? = w.heap[b]? := by rw [← hW]; exact fun b hb => Below.heap_alloc _ _ _ hb
  have HWB := hidP hWb
  clear hW hWb
  refine (markPieceS_walk g _ np _ k f W (HF.out.of_block (HWB.out g hgw)) (Nat.le_refl _) hk (by omega)).mono ?_
  rintro e w1 ⟨rfl, _, hg1⟩
  have HO1 := hidP (HO.out.trans (Only.of_grown hg1 (fun b hb => by cases hb; exact ⟨Nat.le_refl _, by omega⟩)))
  have HJ1 : Hid (JW w1 h hi R (R * 3) nn) := hj.out.kept (fun b hb1 hb2 => (hg1.block b (by omega) (fun e => by cases e; omega)).trans (HWB.out b (by omega))) hhi
  have e1' := hg1.cell e1 (by simp only [ne_eq, Option.some.injEq]; omega)
  have hz1 := Nat.le_trans hz hg1.size
  clear hg1 e0 e1 HO HF HWB hz
  go_wp2_with fail
  have hr1 := kjF_ge nn (k + np * 4) R
  have hr2 := kjF_le nn (k + np * 4) R hnn.out R (Nat.le_refl _)
  have HRR := hidP (And.intro hr1 hr2)
  clear hr1 hr2
  refine (markJointS_walk h hi R (R * 3) _ nn _ w1 HJ1 (Nat.le_refl _) hhi (by omega) hR hnn (by omega)).mono ?_
  rintro e w2 ⟨rfl, hO2⟩
  have HO2 := hidP (HO1.out.trans (hO2.mono (fun b hb => ⟨by have := hb.1; omega, hb.2⟩)))
  clear hO2 HO1 HJ1 e1'
  obtain ⟨r, hr⟩ : ∃ r, kjF nn (k + np * 4) R = r := ⟨_, rfl⟩
  rw [hr] at HRR ⊢
  clear hr
  go_wp2_with fail
  go_ret
  exact ⟨⟨_, rfl, by have := HRR.out; omega, by have := HRR.out; omega⟩, HO2.out⟩

end Go.Proofs.YtmkdgnmmebldgaaGreat
