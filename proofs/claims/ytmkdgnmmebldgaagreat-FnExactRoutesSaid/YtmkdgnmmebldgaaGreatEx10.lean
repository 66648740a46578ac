import Derived.Test.YtmkdgnmmebldgaaGreatEx7
import Derived.Test.YtmkdgnmmebldgaaGreatEx8
import Derived.Test.YtmkdgnmmebldgaaGreatEx9
import Derived.Test.YtmkdgnmmebldgaaGreatEx2
import Derived.Deep.OwnRows
namespace Go.Proofs.YtmkdgnmmebldgaaGreat
open Go.RowKit

theorem firstBad_neg {bad : Nat → Bool} {n : Nat} (h : ¬ 0 ≤ firstBad bad n) : ∀ i, i < n → bad i = false := by
  rcases firstBad_cases bad n with ⟨_, h2⟩ | ⟨i, _, h2, _⟩
  · exact h2
  · exact absurd (by rw [h2]; omega) h
theorem firstBad_pos {bad : Nat → Bool} {n : Nat} (h : 0 ≤ firstBad bad n) : ∃ i : Nat, firstBad bad n = (i : Int) ∧ i < n ∧ bad i = true ∧ ∀ k, k < i → bad k = false := by
  rcases firstBad_cases bad n with ⟨h1, _⟩ | ⟨i, hi, h2, h3⟩
  · rw [h1] at h; omega
  · exact ⟨i, h2, hi, h3⟩

set_option maxHeartbeats 2000000 in
theorem implNetOk_any (pa ja : Option Addr) (pc jc : Nat) (ps : List MPiece) (js : List MJoint) (w : World) (hp : Hid (PiecesAt w pa ps)) (hj : Hid (JointsAt w ja js)) :
    Calls Tryz.prog 83 #[.agg #[.slice pa ps.length pc, .slice ja js.length jc]] w fun e w' => e = .returned (faultV (netF ps js)) ∧ Below w.heap.size w w' := by
  have hpl := hp.out.1
  have hjl := hj.out.1
  go_enter Tryz.func83, Tryz.ntmps83
  go_wp2_with fail
  refine (netSizeOk_any _ _ _ _ _ _ _ hpl hjl).mono ?_
  rintro e w1 ⟨rfl, hb1⟩
  generalize hW : (w.alloc (Obj.cells #[Value.slice pa ps.length pc, Value.slice ja js.length jc] 34)).alloc (Obj.cells #[Value.int IntKind.i64 0, Value.int IntKind.i64 0] 97) = W at hb1
  have e0 : W.cell? ⟨w.heap.size, 0, none⟩ = some (.slice pa ps.length pc) := by rw [← hW]; simp [go_sem]
  have e1 : W.cell? ⟨w.heap.size, 1, none⟩ = some (.slice ja js.length jc) := by rw [← hW]; simp [go_sem]
  have r0 : W.cell? ⟨w.heap.size + 1, 0, none⟩ = some (.int .i64 0) := by rw [← hW]; simp [go_sem]
  have r1 : W.cell? ⟨w.heap.size + 1, 1, none⟩ = some (.int .i64 0) := by rw [← hW]; simp [go_sem]
  have f0 : W.frozen? ⟨w.heap.size + 1, 0, none⟩ = false := by rw [← hW]; simp [go_sem]
  have f1 : W.frozen? ⟨w.heap.size + 1, 1, none⟩ = false := by rw [← hW]; simp [go_sem]
  have hz : w.heap.size + 2 = W.heap.size := by rw [← hW]; simp
  have hzA : w.heap.size + 1 < W.heap.size := by omega
  have hbW : Below w.heap.size w W := by rw [← hW]; exact (by repeat (first | exact Below.refl _ _ | assumption | refine Below.drew ?_ | refine bdrewN ?_ _ | refine Below.setCell ?_ (by first | omega | (simp; done) | (simp; omega)) _ | refine Below.alloc ?_ (by first | omega | (simp; done) | (simp; omega)) _))
  clear hW hz
  have e0' := cell_later hb1 e0
  have e1' := cell_later hb1 e1
  have r0' := cell_later hb1 r0
  have r1' := cell_later hb1 r1
  have f0' := (hb1.frozen (p := ⟨w.heap.size + 1, 0, none⟩) (by exact hzA)).trans f0
  have f1' := (hb1.frozen (p := ⟨w.heap.size + 1, 1, none⟩) (by exact hzA)).trans f1
  have hbF := hbW.trans (hb1.mono hbW.size)
  cases hS : sizeB ps.length js.length
  · have HX := hidQ (netF_1 hS)
    clear hS
    go_wp2_with fail
    exact bodyPost_ret (v := .agg #[.int .i64 1, .int .i64 0]) (by simp [results, Tryz.results83, go_sem, r0', r1']) rfl ⟨ret_fault HX.out, (by repeat (first | exact Below.refl _ _ | assumption | refine Below.drew ?_ | refine bdrewN ?_ _ | refine Below.setCell ?_ (by first | omega | (simp; done) | (simp; omega)) _ | refine Below.alloc ?_ (by first | omega | (simp; done) | (simp; omega)) _))⟩
  have HS := hidQ hS
  have hsz : ps.length ≤ 100 ∧ js.length ≤ 120 := by
    unfold sizeB at hS
    simp at hS
    omega
  clear hS
  have HPL := hidQ hpl
  have HJL := hidQ hjl
  clear hpl hjl
  go_wp2_with fail
  refine (firstWrongPiece_any _ _ _ _ (hp.out.below hbF) (by omega)).mono ?_
  rintro e w2 ⟨rfl, hb2⟩
  have hb2' := hb1.trans (hb2.mono hb1.size)
  replace e0' := cell_later hb2 e0'
  replace e1' := cell_later hb2 e1'
  replace r0' := cell_later hb2 r0'
  replace r1' := cell_later hb2 r1'
  replace f0' := (hb2'.frozen (p := ⟨w.heap.size + 1, 0, none⟩) (by exact hzA)).trans f0
  replace f1' := (hb2'.frozen (p := ⟨w.heap.size + 1, 1, none⟩) (by exact hzA)).trans f1
  replace hbF := hbW.trans (hb2'.mono hbW.size)
  clear hb1 hb2
  by_cases h2 : 0 ≤ firstBad (badPi ps) ps.length
  · obtain ⟨i, hi1, hi2, hi3, hi4⟩ := firstBad_pos h2
    have HX := hidQ (netF_2 (js := js) HS.out hi2 hi3 hi4)
    rw [hi1]
    clear hi1 hi3 hi4 h2
    go_wp2_with fail
    exact bodyPost_ret (v := .agg #[.int .i64 2, .int .i64 i]) (by simp [results, Tryz.results83, go_sem, r0', r1']) rfl ⟨ret_fault HX.out, (by repeat (first | exact Below.refl _ _ | assumption | refine Below.drew ?_ | refine bdrewN ?_ _ | refine Below.setCell ?_ (by first | omega | (simp; done) | (simp; omega)) _ | refine Below.alloc ?_ (by first | omega | (simp; done) | (simp; omega)) _))⟩
  have H2 := hidQ (firstBad_neg h2)
  rw [firstBad_none H2.out]
  clear h2
  go_wp2_with fail
  refine (firstWrongJoint_any _ _ _ _ _ _ _ (hj.out.below hbF) HPL.out).mono ?_
  rintro e w3 ⟨rfl, hb3⟩
  have hb3' := hb2'.trans (hb3.mono hb2'.size)
  replace e0' := cell_later hb3 e0'
  replace e1' := cell_later hb3 e1'
  replace r0' := cell_later hb3 r0'
  replace r1' := cell_later hb3 r1'
  replace f0' := (hb3'.frozen (p := ⟨w.heap.size + 1, 0, none⟩) (by exact hzA)).trans f0
  replace f1' := (hb3'.frozen (p := ⟨w.heap.size + 1, 1, none⟩) (by exact hzA)).trans f1
  replace hbF := hbW.trans (hb3'.mono hbW.size)
  clear hb2' hb3
  by_cases h3 : 0 ≤ firstBad (bad3i ps.length js) js.length
  · obtain ⟨i, hi1, hi2, hi3, hi4⟩ := firstBad_pos h3
    have HX := hidQ (netF_3 HS.out H2.out hi2 hi3 hi4)
    rw [hi1]
    clear hi1 hi3 hi4 h3
    go_wp2_with fail
    exact bodyPost_ret (v := .agg #[.int .i64 3, .int .i64 i]) (by simp [results, Tryz.results83, go_sem, r0', r1']) rfl ⟨ret_fault HX.out, (by repeat (first | exact Below.refl _ _ | assumption | refine Below.drew ?_ | refine bdrewN ?_ _ | refine Below.setCell ?_ (by first | omega | (simp; done) | (simp; omega)) _ | refine Below.alloc ?_ (by first | omega | (simp; done) | (simp; omega)) _))⟩
  have H3 := hidQ (firstBad_neg h3)
  rw [firstBad_none H3.out]
  clear h3
  have HO : Hid (∀ q (h : q < js.length), ok3 ps.length js[q] = true) := by
    intro q h
    have := H3.out q h
    rw [bad3i_at h] at this
    simpa using this
  have HK : Hid (∀ q (h : q < js.length), inB js[q].kind 1 4 = true) := by
    intro q h
    have := HO.out q h
    unfold ok3 at this
    simp only [Bool.and_eq_true] at this
    exact this.1.1
  go_wp2_with fail
  refine (firstWrongJointName_any _ _ _ _ (hj.out.below hbF) (by omega) HK).mono ?_
  rintro e w4 ⟨rfl, hb4⟩
  have hb4' := hb3'.trans (hb4.mono hb3'.size)
  replace e0' := cell_later hb4 e0'
  replace e1' := cell_later hb4 e1'
  replace r0' := cell_later hb4 r0'
  replace r1' := cell_later hb4 r1'
  replace f0' := (hb4'.frozen (p := ⟨w.heap.size + 1, 0, none⟩) (by exact hzA)).trans f0
  replace f1' := (hb4'.frozen (p := ⟨w.heap.size + 1, 1, none⟩) (by exact hzA)).trans f1
  replace hbF := hbW.trans (hb4'.mono hbW.size)
  clear hb3' hb4
  by_cases h4 : 0 ≤ firstBad (bad4i js) js.length
  · obtain ⟨i, hi1, hi2, hi3, hi4⟩ := firstBad_pos h4
    have HX := hidQ (netF_4 HS.out H2.out H3.out hi2 hi3 hi4)
    rw [hi1]
    clear hi1 hi3 hi4 h4
    go_wp2_with fail
    exact bodyPost_ret (v := .agg #[.int .i64 4, .int .i64 i]) (by simp [results, Tryz.results83, go_sem, r0', r1']) rfl ⟨ret_fault HX.out, (by repeat (first | exact Below.refl _ _ | assumption | refine Below.drew ?_ | refine bdrewN ?_ _ | refine Below.setCell ?_ (by first | omega | (simp; done) | (simp; omega)) _ | refine Below.alloc ?_ (by first | omega | (simp; done) | (simp; omega)) _))⟩
  have H4 := hidQ (firstBad_neg h4)
  rw [firstBad_none H4.out]
  clear h4
  go_wp2_with fail
  refine (firstLoosePiece_any _ _ _ _ _ _ _ (hj.out.below hbF) (by omega) (by omega) HO).mono ?_
  rintro e w5 ⟨rfl, hb5⟩
  have hb5' := hb4'.trans (hb5.mono hb4'.size)
  replace e0' := cell_later hb5 e0'
  replace e1' := cell_later hb5 e1'
  replace r0' := cell_later hb5 r0'
  replace r1' := cell_later hb5 r1'
  replace f0' := (hb5'.frozen (p := ⟨w.heap.size + 1, 0, none⟩) (by exact hzA)).trans f0
  replace f1' := (hb5'.frozen (p := ⟨w.heap.size + 1, 1, none⟩) (by exact hzA)).trans f1
  replace hbF := hbW.trans (hb5'.mono hbW.size)
  clear hb4' hb5
  by_cases h5 : 0 ≤ firstBad (bad5i js) ps.length
  · obtain ⟨i, hi1, hi2, hi3, hi4⟩ := firstBad_pos h5
    have HX := hidQ (netF_5 HS.out H2.out H3.out H4.out hi2 hi3 hi4)
    rw [hi1]
    clear hi1 hi3 hi4 h5
    go_wp2_with fail
    exact bodyPost_ret (v := .agg #[.int .i64 5, .int .i64 i]) (by simp [results, Tryz.results83, go_sem, r0', r1']) rfl ⟨ret_fault HX.out, (by repeat (first | exact Below.refl _ _ | assumption | refine Below.drew ?_ | refine bdrewN ?_ _ | refine Below.setCell ?_ (by first | omega | (simp; done) | (simp; omega)) _ | refine Below.alloc ?_ (by first | omega | (simp; done) | (simp; omega)) _))⟩
  have HX := hidQ (netF_0 HS.out H2.out H3.out H4.out (firstBad_neg h5))
  rw [firstBad_none (firstBad_neg h5)]
  clear h5
  go_wp2_with fail
  exact bodyPost_ret (v := .agg #[.int .i64 0, .int .i64 0]) (by simp [results, Tryz.results83, go_sem, r0', r1']) rfl ⟨ret_fault HX.out, (by repeat (first | exact Below.refl _ _ | assumption | refine Below.drew ?_ | refine bdrewN ?_ _ | refine Below.setCell ?_ (by first | omega | (simp; done) | (simp; omega)) _ | refine Below.alloc ?_ (by first | omega | (simp; done) | (simp; omega)) _))⟩

end Go.Proofs.YtmkdgnmmebldgaaGreat

namespace Go.Proofs.YtmkdgnmmebldgaaGreat
open Go.RowKit Go.Deep

theorem Tryz.infoP : (Tryz.prog.info? 108).map (fun i => (i.zero, i.size, i.bytes)) = some (some (.agg #[.string ⟨#[]⟩, .int .i64 0, .int .i64 0, .int .i64 0]), 4, 40) := by kernel_rfl
theorem Tryz.infoE : (Tryz.prog.info? 112).map (fun i => (i.zero, i.size, i.bytes)) = some (some (.agg #[.int .i64 0, .int .i64 0]), 2, 16) := by kernel_rfl
theorem Tryz.infoJ : (Tryz.prog.info? 115).map (fun i => (i.zero, i.size, i.bytes)) = some (some (.agg #[.int .i64 0, .string ⟨#[]⟩, .slice none 0 0]), 3, 48) := by kernel_rfl

theorem bcell {W w1 : World} (hb : Below W.heap.size W w1) : (∀ b o, b < W.heap.size → w1.cell? ⟨b, o, none⟩ = W.cell? ⟨b, o, none⟩) ∧ (∀ b o, b < W.heap.size → w1.frozen? ⟨b, o, none⟩ = W.frozen? ⟨b, o, none⟩) :=
  ⟨fun b o h => hb.cell (p := ⟨b, o, none⟩) h, fun b o h => hb.frozen (p := ⟨b, o, none⟩) h⟩

theorem hidP {p : Prop} (h : p) : Hid p := h

theorem EndCells.setOther {w : World} {g off : Nat} {es : List MEnd} (h : EndCells w g off es) {b : Nat} (hb : b ≠ g) (o : Nat) (v : Value) : EndCells (w.setCell ⟨b, o, none⟩ v) g off es := by
  intro i hi
  obtain ⟨h1, h2⟩ := h i hi
  have e : (w.setCell ⟨b, o, none⟩ v).heap[g]? = w.heap[g]? := Below.heap_setCell _ _ _ _ (fun h => hb h.symm)
  exact ⟨(World.cell?_of_block (w := w) e).trans h1, (World.cell?_of_block (w := w) e).trans h2⟩

/-- A new row of structs. -/
theorem make_structs {P : Program} (w : World) (t e : TypeId) (z : Value) (size bytes : Nat) (ht : P.underlying t = some (.slice e)) (hinfo : (P.info? e).map (fun i => (i.zero, i.size, i.bytes)) = some (some z, size, bytes))
    (hb : bytes ≤ 100) (n : Nat) (hn : n ≤ 1048576) :
    ∃ w', (Instr.makeSlice t (.int .i64 (n : Int)) (.int .i64 (n : Int))).run P w = .ok (.slice (some ⟨w.heap.size, 0, none⟩) n n) w' ∧
      (∃ f, w'.rowIs w.heap.size e (n * size) f) ∧ Below w.heap.size w w' ∧ w'.heap.size = w.heap.size + 1 := by
  obtain ⟨i, hi, hi2⟩ := Option.map_eq_some_iff.1 hinfo
  simp only [Prod.mk.injEq] at hi2
  obtain ⟨hz, hs, hby⟩ := hi2
  have hlt : i.bytes * n ≤ 100 * 1048576 := Nat.mul_le_mul (by omega) hn
  have h2 : (i.bytes : Int) * (n : Int) = ((i.bytes * n : Nat) : Int) := by simp
  have h3 : (i.bytes : Int) * (n : Int) ≤ 281474976710656 := by rw [h2]; exact Int.le_trans (Int.ofNat_le.2 hlt) (by decide)
  have h := run_make (P := P) w t e i z ht hi hz .i64 .i64 (n : Int) (n : Int) (by omega) (by omega) h3 (by omega)
  refine ⟨_, h, ⟨fun j => (madeCells z.cells (n * size)).getD j (.bool false), ?_⟩, (Below.refl _ _).alloc (Nat.le_refl _) _, by simp⟩
  have hr := World.rowIs_alloc w (madeCells z.cells (n * size)) e (fun j => (madeCells z.cells (n * size)).getD j (.bool false)) (by intro j hj; simp only [Array.getD, hj, dite_true]; exact Array.getElem?_eq_getElem hj)
  rw [size_madeCells] at hr
  simp only [Int.toNat_natCast, hs]
  exact hr

/-- The first k pieces stand in a row. -/
def PieceRow (ps : List MPiece) (k : Nat) (f : Nat → Value) : Prop :=
  ∀ i (h : i < ps.length), i < k → f (i * 4) = .string ps[i].name ∧ f (i * 4 + 1) = .int .i64 ps[i].len ∧ f (i * 4 + 2) = .int .i64 ps[i].speed ∧ f (i * 4 + 3) = .int .i64 ps[i].brake

theorem PieceRow.next {ps : List MPiece} {k : Nat} {f : Nat → Value} (h : PieceRow ps k f) (hk : k < ps.length) :
    PieceRow ps (k + 1) (fun j => if j = k * 4 + 3 then .int .i64 ps[k].brake else if j = k * 4 + 2 then .int .i64 ps[k].speed else if j = k * 4 + 1 then .int .i64 ps[k].len else if j = k * 4 then .string ps[k].name else f j) := by
  intro i hi hik
  by_cases e : i = k
  · subst e
    simp
  · have h1 := h i hi (by omega)
    refine ⟨?_, ?_, ?_, ?_⟩
    · dsimp only; rw [if_neg (by omega), if_neg (by omega), if_neg (by omega), if_neg (by omega)]; exact h1.1
    · dsimp only; rw [if_neg (by omega), if_neg (by omega), if_neg (by omega), if_neg (by omega)]; exact h1.2.1
    · dsimp only; rw [if_neg (by omega), if_neg (by omega), if_neg (by omega), if_neg (by omega)]; exact h1.2.2.1
    · dsimp only; rw [if_neg (by omega), if_neg (by omega), if_neg (by omega), if_neg (by omega)]; exact h1.2.2.2

theorem pieceCells_of_row {w : World} {g : Nat} {t : TypeId} {ps : List MPiece} {f : Nat → Value} (h : w.rowIs g t (ps.length * 4) f) (hr : PieceRow ps ps.length f) : PieceCells w g 0 ps := by
  intro i hi
  obtain ⟨h1, h2, h3, h4⟩ := hr i hi hi
  simp only [Nat.zero_add]
  exact ⟨by rw [h.cell (by omega), h1], by rw [h.cell (by omega), h2], by rw [h.cell (by omega), h3], by rw [h.cell (by omega), h4]⟩

set_option maxHeartbeats 1000000 in
theorem toPieceS_walk (a : Option Addr) (cap : Nat) (ps : List MPiece) (w : World) (hp : Hid (PiecesAt w a ps)) (hl : ps.length ≤ 1048576) :
    Calls Tryz.prog 24 #[.slice a ps.length cap] w fun e w' => ∃ g, e = .returned (.slice (some ⟨g, 0, none⟩) ps.length ps.length) ∧ Hid (PieceCells w' g 0 ps) ∧ Below w.heap.size w w' ∧ w.heap.size ≤ g := by
  obtain ⟨w1, hm, hrow, hb1, hz1⟩ := make_structs (P := Tryz.prog) w 31 108 _ _ _ Tryz.underlying31 Tryz.infoP (by omega) ps.length hl
  have HROW : Hid (∃ f, w1.rowIs w.heap.size 108 (ps.length * 4) f) := hrow
  clear hrow
  go_enter Tryz.func24, Tryz.ntmps24
  go_wp2_with fail
  go_loopw [4] (fun i wr => ∃ (k : Nat) (f : Nat → Value), k ≤ ps.length ∧ i = .int .i64 k ∧ Hid (wr.rowIs w.heap.size 108 (ps.length * 4) f) ∧ Hid (PieceRow ps k f) ∧ Below w.heap.size w wr ∧ w.heap.size < wr.heap.size) (fun i _ => ps.length - (intOf i).toNat)
  case atStart =>
    obtain ⟨f, hf⟩ := HROW.out
    exact ⟨0, f, Nat.zero_le _, rfl, hf, (fun i _ h => absurd h (Nat.not_lt_zero i)), hb1, by omega⟩
  case round =>
    obtain ⟨k, f, hk, rfl, hrow, hpr, hb, hz⟩ := hrel
    clear hm HROW hb1 hz1
    by_cases hk' : k < ps.length
    · obtain ⟨b, off, rfl, hpc⟩ := hp.out.2.2.resolve_left (fun h => by rw [h] at hk'; exact absurd hk' (Nat.not_lt_zero _))
      obtain ⟨c1, c2, c3, c4⟩ := (hpc.below hb) k hk'
      clear hpc
      have HNX := hpr.out.next hk'
      have HNX' : Hid (PieceRow ps (k + 1) _) := HNX
      clear HNX hpr
      go_wp2_with fail
      refine (toPiece_any _ _ _ _ _).mono ?_
      rintro e w2 ⟨rfl, hb2⟩
      have hr2 : w2.rowIs w.heap.size 108 (ps.length * 4) f := hrow.out.of_block (hb2.block _ hz)
      have d0 := hr2.cell (i := k * 4) (by omega)
      have d1 := hr2.cell (i := k * 4 + 1) (by omega)
      have d2 := hr2.cell (i := k * 4 + 2) (by omega)
      have d3 := hr2.cell (i := k * 4 + 3) (by omega)
      have e0 := hr2.frozen (k * 4)
      have e1 := hr2.frozen (k * 4 + 1)
      have e2 := hr2.frozen (k * 4 + 2)
      have e3 := hr2.frozen (k * 4 + 3)
      have HR2 : Hid (w2.rowIs w.heap.size 108 (ps.length * 4) f) := hr2
      clear hr2 hrow
      have hb3 : Below w.heap.size w w2 := hb.trans (hb2.mono hb.size)
      have hz2 : w.heap.size < w2.heap.size := Nat.lt_of_lt_of_le hz hb2.size
      clear hb hb2 hz c1 c2 c3 c4
      go_wp2_with fail
      go_roundw
      case rel =>
        refine ⟨k + 1, _, by omega, by go_num, ((((HR2.out.set (k * 4) _).set (k * 4 + 1) _).set (k * 4 + 2) _).set (k * 4 + 3) _), HNX', (by repeat (first | exact Below.refl _ _ | assumption | refine Below.drew ?_ | refine bdrewN ?_ _ | refine Below.setCell ?_ (by first | omega | (simp; done) | (simp; omega)) _ | refine Below.alloc ?_ (by first | omega | (simp; done) | (simp; omega)) _)), by simpa using hz2⟩
      case measure => simp [intOf]; omega
    · have hkk : k = ps.length := by omega
      have HC : Hid (PieceCells wr w.heap.size 0 ps) := pieceCells_of_row hrow.out (hkk ▸ hpr.out)
      clear hrow hpr hkk
      go_wp2
      go_ret
      exact ⟨_, rfl, HC, hb, Nat.le_refl _⟩

theorem PieceCells.setOther {w : World} {g off : Nat} {es : List MPiece} (h : PieceCells w g off es) {b : Nat} (hb : b ≠ g) (o : Nat) (v : Value) : PieceCells (w.setCell ⟨b, o, none⟩ v) g off es := by
  intro i hi
  obtain ⟨h1, h2, h3, h4⟩ := h i hi
  have e : (w.setCell ⟨b, o, none⟩ v).heap[g]? = w.heap[g]? := Below.heap_setCell _ _ _ _ (fun h => hb h.symm)
  exact ⟨(World.cell?_of_block (w := w) e).trans h1, (World.cell?_of_block (w := w) e).trans h2, (World.cell?_of_block (w := w) e).trans h3, (World.cell?_of_block (w := w) e).trans h4⟩

def EndRow (ps : List MEnd) (k : Nat) (f : Nat → Value) : Prop :=
  ∀ i (h : i < ps.length), i < k → f (i * 2) = .int .i64 ps[i].piece ∧ f (i * 2 + 1) = .int .i64 ps[i].side

theorem EndRow.next {ps : List MEnd} {k : Nat} {f : Nat → Value} (h : EndRow ps k f) (hk : k < ps.length) :
    EndRow ps (k + 1) (fun j => if j = k * 2 + 1 then .int .i64 ps[k].side else if j = k * 2 then .int .i64 ps[k].piece else f j) := by
  intro i hi hik
  by_cases e : i = k
  · subst e
    simp
  · have h1 := h i hi (by omega)
    refine ⟨?_, ?_⟩
    · dsimp only; rw [if_neg (by omega), if_neg (by omega)]; exact h1.1
    · dsimp only; rw [if_neg (by omega), if_neg (by omega)]; exact h1.2

theorem endCells_of_row {w : World} {g : Nat} {t : TypeId} {ps : List MEnd} {f : Nat → Value} (h : w.rowIs g t (ps.length * 2) f) (hr : EndRow ps ps.length f) : EndCells w g 0 ps := by
  intro i hi
  obtain ⟨h1, h2⟩ := hr i hi hi
  simp only [Nat.zero_add]
  exact ⟨by rw [h.cell (by omega), h1], by rw [h.cell (by omega), h2]⟩

set_option maxHeartbeats 1000000 in
theorem toEndS_walk (a : Option Addr) (cap : Nat) (ps : List MEnd) (w : World) (hp : Hid (EndsAt w a ps)) (hl : ps.length ≤ 1048576) :
    Calls Tryz.prog 82 #[.slice a ps.length cap] w fun e w' => ∃ g, e = .returned (.slice (some ⟨g, 0, none⟩) ps.length ps.length) ∧ Hid (EndCells w' g 0 ps) ∧ Below w.heap.size w w' ∧ w.heap.size ≤ g := by
  obtain ⟨w1, hm, hrow, hb1, hz1⟩ := make_structs (P := Tryz.prog) w 53 112 _ _ _ Tryz.underlying53 Tryz.infoE (by omega) ps.length hl
  have HROW : Hid (∃ f, w1.rowIs w.heap.size 112 (ps.length * 2) f) := hrow
  clear hrow
  go_enter Tryz.func82, Tryz.ntmps82
  go_wp2_with fail
  go_loopw [4] (fun i wr => ∃ (k : Nat) (f : Nat → Value), k ≤ ps.length ∧ i = .int .i64 k ∧ Hid (wr.rowIs w.heap.size 112 (ps.length * 2) f) ∧ Hid (EndRow ps k f) ∧ Below w.heap.size w wr ∧ w.heap.size < wr.heap.size) (fun i _ => ps.length - (intOf i).toNat)
  case atStart =>
    obtain ⟨f, hf⟩ := HROW.out
    exact ⟨0, f, Nat.zero_le _, rfl, hf, (fun i _ h => absurd h (Nat.not_lt_zero i)), hb1, by omega⟩
  case round =>
    obtain ⟨k, f, hk, rfl, hrow, hpr, hb, hz⟩ := hrel
    clear hm HROW hb1 hz1
    by_cases hk' : k < ps.length
    · obtain ⟨b, off, rfl, hpc⟩ := hp.out.2.resolve_left (fun h => by rw [h] at hk'; exact absurd hk' (Nat.not_lt_zero _))
      obtain ⟨c1, c2⟩ := (hpc.below hb) k hk'
      clear hpc
      have HNX := hpr.out.next hk'
      have HNX' : Hid (EndRow ps (k + 1) _) := HNX
      clear HNX hpr
      go_wp2_with fail
      refine (toEnd_any _ _ _).mono ?_
      rintro e w2 ⟨rfl, hb2⟩
      have hr2 : w2.rowIs w.heap.size 112 (ps.length * 2) f := hrow.out.of_block (hb2.block _ hz)
      have d0 := hr2.cell (i := k * 2) (by omega)
      have d1 := hr2.cell (i := k * 2 + 1) (by omega)
      have e0 := hr2.frozen (k * 2)
      have e1 := hr2.frozen (k * 2 + 1)
      have HR2 : Hid (w2.rowIs w.heap.size 112 (ps.length * 2) f) := hr2
      clear hr2 hrow
      have hb3 : Below w.heap.size w w2 := hb.trans (hb2.mono hb.size)
      have hz2 : w.heap.size < w2.heap.size := Nat.lt_of_lt_of_le hz hb2.size
      clear hb hb2 hz c1 c2
      go_wp2_with fail
      go_roundw
      case rel =>
        refine ⟨k + 1, _, by omega, by go_num, ((HR2.out.set (k * 2) _).set (k * 2 + 1) _), HNX', (by repeat (first | exact Below.refl _ _ | assumption | refine Below.drew ?_ | refine bdrewN ?_ _ | refine Below.setCell ?_ (by first | omega | (simp; done) | (simp; omega)) _ | refine Below.alloc ?_ (by first | omega | (simp; done) | (simp; omega)) _)), by simpa using hz2⟩
      case measure => simp [intOf]; omega
    · have hkk : k = ps.length := by omega
      have HC : Hid (EndCells wr w.heap.size 0 ps) := endCells_of_row hrow.out (hkk ▸ hpr.out)
      clear hrow hpr hkk
      go_wp2
      go_ret
      exact ⟨_, rfl, HC, hb, Nat.le_refl _⟩

set_option maxHeartbeats 400000 in
theorem toJoint_any (kd : Int) (s : ByteArray) (ea : Option Addr) (ec : Nat) (es : List MEnd) (w : World) (hp : Hid (EndsAt w ea es)) (hl : es.length ≤ 1048576) :
    Calls Tryz.prog 61 #[.agg #[.int .i64 kd, .string s, .slice ea es.length ec]] w fun e w' => ∃ g, e = .returned (.agg #[.int .i64 kd, .string s, .slice (some ⟨g, 0, none⟩) es.length es.length]) ∧ Hid (EndCells w' g 0 es) ∧ Below w.heap.size w w' ∧ w.heap.size ≤ g := by
  go_enter Tryz.func61, Tryz.ntmps61
  go_wp2_with fail
  refine (toEndS_walk _ _ _ _ (hp.out.below (by repeat (first | exact Below.refl _ _ | assumption | refine Below.drew ?_ | refine bdrewN ?_ _ | refine Below.setCell ?_ (by first | omega | (simp; done) | (simp; omega)) _ | refine Below.alloc ?_ (by first | omega | (simp; done) | (simp; omega)) _))) hl).mono ?_
  rintro e w1 ⟨g, rfl, hq, hb, hg⟩
  obtain ⟨hc, hf⟩ := bcell hb
  have hbw : Below w.heap.size w w1 := Below.trans (by repeat (first | exact Below.refl _ _ | assumption | refine Below.drew ?_ | refine bdrewN ?_ _ | refine Below.setCell ?_ (by first | omega | (simp; done) | (simp; omega)) _ | refine Below.alloc ?_ (by first | omega | (simp; done) | (simp; omega)) _)) (hb.mono (by simp; omega))
  have hgw : w.heap.size + 3 ≤ g := by simpa using hg
  have hz : w.heap.size + 3 ≤ w1.heap.size := by have := hb.size; simpa using this
  clear hb hg
  go_wp2_with fail
  refine bodyPost_ret (v := .agg #[.int .i64 kd, .string s, .slice (some ⟨g, 0, none⟩) es.length es.length]) (by simp [results, Tryz.results61, go_sem, hc]) rfl ⟨g, rfl, ?_, ?_, by omega⟩
  · exact (((hq.out.setOther (by omega) _ _).setOther (by omega) _ _).setOther (by omega) _ _).setOther (by omega) _ _
  · exact (by repeat (first | exact Below.refl _ _ | assumption | refine Below.drew ?_ | refine bdrewN ?_ _ | refine Below.setCell ?_ (by first | omega | (simp; done) | (simp; omega)) _ | refine Below.alloc ?_ (by first | omega | (simp; done) | (simp; omega)) _))

/-- The first k joints stand in a row; their ends each in a row of their own behind it. -/
def JointRow (w : World) (B : Nat) (js : List MJoint) (k : Nat) (f : Nat → Value) : Prop :=
  ∀ i (h : i < js.length), i < k → f (i * 3) = .int .i64 js[i].kind ∧ f (i * 3 + 1) = .string js[i].name ∧
    ∃ g, f (i * 3 + 2) = .slice (some ⟨g, 0, none⟩) js[i].ends.length js[i].ends.length ∧ B < g ∧ EndCells w g 0 js[i].ends

theorem JointRow.below {w w' : World} {B : Nat} {js : List MJoint} {k : Nat} {f : Nat → Value} (h : JointRow w B js k f) (hb : Below w.heap.size w w') : JointRow w' B js k f := by
  intro i hi hk
  obtain ⟨h1, h2, g, h3, h4, h5⟩ := h i hi hk
  exact ⟨h1, h2, g, h3, h4, h5.below hb⟩

theorem JointRow.setCell {w : World} {B : Nat} {js : List MJoint} {k : Nat} {f : Nat → Value} (h : JointRow w B js k f) (o : Nat) (v : Value) : JointRow (w.setCell ⟨B, o, none⟩ v) B js k f := by
  intro i hi hk
  obtain ⟨h1, h2, g, h3, h4, h5⟩ := h i hi hk
  exact ⟨h1, h2, g, h3, h4, h5.setOther (by omega) o v⟩

theorem JointRow.next {w : World} {B : Nat} {js : List MJoint} {k : Nat} {f : Nat → Value} (h : JointRow w B js k f) (hk : k < js.length) (g : Nat) (hg : B < g) (he : EndCells w g 0 js[k].ends) :
    JointRow w B js (k + 1) (fun j => if j = k * 3 + 2 then .slice (some ⟨g, 0, none⟩) js[k].ends.length js[k].ends.length else if j = k * 3 + 1 then .string js[k].name else if j = k * 3 then .int .i64 js[k].kind else f j) := by
  intro i hi hik
  by_cases e : i = k
  · subst e
    refine ⟨by simp, by simp, g, by simp, hg, he⟩
  · obtain ⟨h1, h2, g', h3, h4, h5⟩ := h i hi (by omega)
    refine ⟨?_, ?_, g', ?_, h4, h5⟩
    · dsimp only; rw [if_neg (by omega), if_neg (by omega), if_neg (by omega)]; exact h1
    · dsimp only; rw [if_neg (by omega), if_neg (by omega), if_neg (by omega)]; exact h2
    · dsimp only; rw [if_neg (by omega), if_neg (by omega), if_neg (by omega)]; exact h3

/-- The cells of joints whose ends lie from block B on. -/
def JointCellsFrom (B : Nat) (w : World) (b off : Nat) (js : List MJoint) : Prop :=
  ∀ i (h : i < js.length), w.cell? ⟨b, off + i * 3, none⟩ = some (.int .i64 js[i].kind) ∧ w.cell? ⟨b, off + i * 3 + 1, none⟩ = some (.string js[i].name) ∧
    ∃ g ec, w.cell? ⟨b, off + i * 3 + 2, none⟩ = some (.slice (some ⟨g, 0, none⟩) js[i].ends.length ec) ∧ js[i].ends.length ≤ maxLen ∧ B ≤ g ∧ EndCells w g 0 js[i].ends

theorem JointCellsFrom.cells {B : Nat} {w : World} {b off : Nat} {js : List MJoint} (h : JointCellsFrom B w b off js) : JointCells w b off js := by
  intro i hi
  obtain ⟨h1, h2, g, ec, h3, h4, _, h5⟩ := h i hi
  exact ⟨h1, h2, _, ec, h3, h4, Or.inr ⟨g, 0, rfl, h5⟩⟩

theorem JointCellsFrom.setOther {B : Nat} {w : World} {g off : Nat} {es : List MJoint} (h : JointCellsFrom B w g off es) {b : Nat} (hb : b ≠ g) (hB : b < B) (o : Nat) (v : Value) : JointCellsFrom B (w.setCell ⟨b, o, none⟩ v) g off es := by
  intro i hi
  obtain ⟨h1, h2, g', ec, h3, h4, h5, h6⟩ := h i hi
  have e : (w.setCell ⟨b, o, none⟩ v).heap[g]? = w.heap[g]? := Below.heap_setCell _ _ _ _ (fun h => hb h.symm)
  exact ⟨(World.cell?_of_block (w := w) e).trans h1, (World.cell?_of_block (w := w) e).trans h2, g', ec, (World.cell?_of_block (w := w) e).trans h3, h4, h5, h6.setOther (by omega) o v⟩

theorem jointCells_of_row {w : World} {g : Nat} {t : TypeId} {js : List MJoint} {f : Nat → Value} (h : w.rowIs g t (js.length * 3) f) (hr : JointRow w g js js.length f) (hl : ∀ j, j ∈ js → j.ends.length ≤ 1048576) : JointCellsFrom g w g 0 js := by
  intro i hi
  obtain ⟨h1, h2, g', h3, h4, h5⟩ := hr i hi hi
  simp only [Nat.zero_add]
  refine ⟨by rw [h.cell (by omega), h1], by rw [h.cell (by omega), h2], g', _, by rw [h.cell (by omega), h3], ?_, by omega, h5⟩
  have := hl _ (List.getElem_mem hi)
  unfold maxLen
  omega

set_option maxHeartbeats 1000000 in
theorem toJointS_walk (a : Option Addr) (cap : Nat) (ps : List MJoint) (w : World) (hp : Hid (JointsAt w a ps)) (hl : ps.length ≤ 1048576) (hel : Hid (∀ j, j ∈ ps → j.ends.length ≤ 1048576)) :
    Calls Tryz.prog 25 #[.slice a ps.length cap] w fun e w' => ∃ g, e = .returned (.slice (some ⟨g, 0, none⟩) ps.length ps.length) ∧ Hid (JointCellsFrom g w' g 0 ps) ∧ Below w.heap.size w w' ∧ w.heap.size ≤ g := by
  obtain ⟨w1, hm, hrow, hb1, hz1⟩ := make_structs (P := Tryz.prog) w 32 115 _ _ _ Tryz.underlying32 Tryz.infoJ (by omega) ps.length hl
  have HROW : Hid (∃ f, w1.rowIs w.heap.size 115 (ps.length * 3) f) := hrow
  clear hrow
  go_enter Tryz.func25, Tryz.ntmps25
  go_wp2_with fail
  go_loopw [4] (fun i wr => ∃ (k : Nat) (f : Nat → Value), k ≤ ps.length ∧ i = .int .i64 k ∧ Hid (wr.rowIs w.heap.size 115 (ps.length * 3) f) ∧ Hid (JointRow wr w.heap.size ps k f) ∧ Below w.heap.size w wr ∧ w.heap.size < wr.heap.size) (fun i _ => ps.length - (intOf i).toNat)
  case atStart =>
    obtain ⟨f, hf⟩ := HROW.out
    exact ⟨0, f, Nat.zero_le _, rfl, hf, (fun i _ h => absurd h (Nat.not_lt_zero i)), hb1, by omega⟩
  case round =>
    obtain ⟨k, f, hk, rfl, hrow, hpr, hb, hz⟩ := hrel
    clear hm HROW hb1 hz1
    by_cases hk' : k < ps.length
    · obtain ⟨b, off, rfl, hpc⟩ := hp.out.2.2.resolve_left (fun h => by rw [h] at hk'; exact absurd hk' (Nat.not_lt_zero _))
      obtain ⟨c1, c2, ea, ec, c3, c4⟩ := (hpc.below hb) k hk'
      clear hpc
      have C4 : Hid (EndsAt wr ea ps[k].ends) := c4
      have hke : ps[k].ends.length ≤ 1048576 := hel.out _ (List.getElem_mem hk')
      clear c4
      go_wp2_with fail
      refine (toJoint_any _ _ _ _ _ _ C4 hke).mono ?_
      rintro e w2 ⟨g, rfl, hge, hb2, hgg⟩
      have hr2 : w2.rowIs w.heap.size 115 (ps.length * 3) f := hrow.out.of_block (hb2.block _ hz)
      have HNX := (hpr.out.below hb2).next hk' g (by omega) hge.out
      have HNX' : Hid (JointRow w2 w.heap.size ps (k + 1) _) := HNX
      have d0 := hr2.cell (i := k * 3) (by omega)
      have d1 := hr2.cell (i := k * 3 + 1) (by omega)
      have d2 := hr2.cell (i := k * 3 + 2) (by omega)
      have e0 := hr2.frozen (k * 3)
      have e1 := hr2.frozen (k * 3 + 1)
      have e2 := hr2.frozen (k * 3 + 2)
      have HR2 : Hid (w2.rowIs w.heap.size 115 (ps.length * 3) f) := hr2
      clear HNX hpr hr2 hrow
      have hb3 : Below w.heap.size w w2 := hb.trans (hb2.mono hb.size)
      have hz2 : w.heap.size < w2.heap.size := Nat.lt_of_lt_of_le hz hb2.size
      clear hb hb2 hz hge hgg C4 c1 c2 c3
      go_wp2_with fail
      go_roundw
      case rel =>
        refine ⟨k + 1, _, by omega, by go_num, (((HR2.out.set (k * 3) _).set (k * 3 + 1) _).set (k * 3 + 2) _), ((HNX'.out.setCell _ _).setCell _ _).setCell _ _, (by repeat (first | exact Below.refl _ _ | assumption | refine Below.drew ?_ | refine bdrewN ?_ _ | refine Below.setCell ?_ (by first | omega | (simp; done) | (simp; omega)) _ | refine Below.alloc ?_ (by first | omega | (simp; done) | (simp; omega)) _)), by simpa using hz2⟩
      case measure => simp [intOf]; omega
    · have hkk : k = ps.length := by omega
      have HC : Hid (JointCellsFrom w.heap.size wr w.heap.size 0 ps) := jointCells_of_row hrow.out (hkk ▸ hpr.out) hel.out
      clear hrow hpr hkk
      go_wp2
      go_ret
      exact ⟨_, rfl, HC, hb, Nat.le_refl _⟩

set_option maxHeartbeats 400000 in
theorem toNet_any (pa ja : Option Addr) (pc jc : Nat) (ps : List MPiece) (js : List MJoint) (w : World) (hp : Hid (PiecesAt w pa ps)) (hj : Hid (JointsAt w ja js)) (hpl : ps.length ≤ 1048576) (hjl : js.length ≤ 1048576) (hel : Hid (∀ j, j ∈ js → j.ends.length ≤ 1048576)) :
    Calls Tryz.prog 7 #[.agg #[.slice pa ps.length pc, .slice ja js.length jc]] w fun e w' => ∃ g h, e = .returned (.agg #[.slice (some ⟨g, 0, none⟩) ps.length ps.length, .slice (some ⟨h, 0, none⟩) js.length js.length]) ∧ Hid (PiecesAt w' (some ⟨g, 0, none⟩) ps) ∧ Hid (JointsAt w' (some ⟨h, 0, none⟩) js) ∧ Below w.heap.size w w' := by
  go_enter Tryz.func7, Tryz.ntmps7
  go_wp2_with fail
  refine (toPieceS_walk _ _ _ _ (hp.out.below (by repeat (first | exact Below.refl _ _ | assumption | refine Below.drew ?_ | refine bdrewN ?_ _ | refine Below.setCell ?_ (by first | omega | (simp; done) | (simp; omega)) _ | refine Below.alloc ?_ (by first | omega | (simp; done) | (simp; omega)) _))) hpl).mono ?_
  rintro e w1 ⟨g, rfl, hq, hb, hg⟩
  obtain ⟨hc, hf⟩ := bcell hb
  have hbw : Below w.heap.size w w1 := Below.trans (by repeat (first | exact Below.refl _ _ | assumption | refine Below.drew ?_ | refine bdrewN ?_ _ | refine Below.setCell ?_ (by first | omega | (simp; done) | (simp; omega)) _ | refine Below.alloc ?_ (by first | omega | (simp; done) | (simp; omega)) _)) (hb.mono (by simp; omega))
  have hz : w.heap.size + 3 ≤ w1.heap.size := by have := hb.size; simpa using this
  have hgw : w.heap.size + 3 ≤ g := by simpa using hg
  clear hb hg
  go_wp2_with fail
  refine (toJointS_walk _ _ _ _ (hj.out.below (by repeat (first | exact Below.refl _ _ | assumption | refine Below.drew ?_ | refine bdrewN ?_ _ | refine Below.setCell ?_ (by first | omega | (simp; done) | (simp; omega)) _ | refine Below.alloc ?_ (by first | omega | (simp; done) | (simp; omega)) _))) hjl hel).mono ?_
  rintro e w2 ⟨gj, rfl, hq2, hb, hg⟩
  have hz0 : w.heap.size + 1 + 1 < w1.heap.size := by omega
  have hz1 : w.heap.size + 1 < w1.heap.size := by omega
  obtain ⟨hc2, hf2⟩ := bcell hb
  have hbw2 : Below w.heap.size w w2 := Below.trans (by repeat (first | exact Below.refl _ _ | assumption | refine Below.drew ?_ | refine bdrewN ?_ _ | refine Below.setCell ?_ (by first | omega | (simp; done) | (simp; omega)) _ | refine Below.alloc ?_ (by first | omega | (simp; done) | (simp; omega)) _)) (hb.mono (by simp; omega))
  have hz2 : w.heap.size + 3 ≤ w2.heap.size := by have := hb.size; simp at this; omega
  have hhw : w.heap.size + 3 ≤ gj := by simp at hg; omega
  have HP2 : Hid (PieceCells w2 g 0 ps) := (hq.out.setOther (by omega) _ _).below hb
  clear hb hg hq
  go_wp2_with fail
  refine bodyPost_ret (v := .agg #[.slice (some ⟨g, 0, none⟩) ps.length ps.length, .slice (some ⟨gj, 0, none⟩) js.length js.length]) (by simp [results, Tryz.results7, go_sem, hc, hc2, hz1]) rfl ⟨g, gj, rfl, ?_, ?_, (by repeat (first | exact Below.refl _ _ | assumption | refine Below.drew ?_ | refine bdrewN ?_ _ | refine Below.setCell ?_ (by first | omega | (simp; done) | (simp; omega)) _ | refine Below.alloc ?_ (by first | omega | (simp; done) | (simp; omega)) _))⟩
  · exact ⟨hp.out.1, hp.out.2.1, Or.inr ⟨g, 0, rfl, ((HP2.out.setOther (by omega) _ _).setOther (by omega) _ _).setOther (by omega) _ _⟩⟩
  · exact ⟨hj.out.1, hj.out.2.1, Or.inr ⟨gj, 0, rfl, (((hq2.out.setOther (by omega) (by omega) _ _).setOther (by omega) (by omega) _ _).setOther (by omega) (by omega) _ _).cells⟩⟩

end Go.Proofs.YtmkdgnmmebldgaaGreat
