import Derived.Test.YtmkdgnmmebldgaaGreatEx10
import Derived.Test.YtmkdgnmmebldgaaGreatEx11
import Derived.ProofKit
import Derived.Deep.Slices
import Derived.Deep.Strs
import Derived.Lib.SmallJoins
import Derived.Test.YtmkdgnmmebldgaaGreatRows
import Derived.WalkKit
import Derived.OpenShut
import Derived.ShutString
import Derived.ChangeOld
import Derived.Below
namespace Go.Proofs.YtmkdgnmmebldgaaGreat
open Go.RowKit Go.Deep Go.ChangeShapes Go.WideShapes

theorem choose_list {α : Type} {p : Nat → α → Prop} : ∀ (n : Nat), (∀ i, i < n → ∃ x, p i x) → ∃ l : List α, l.length = n ∧ ∀ i (hi : i < l.length), p i l[i]
  | 0, _ => ⟨[], rfl, fun i hi => absurd hi (Nat.not_lt_zero i)⟩
  | n + 1, h => by
    obtain ⟨l, hl, hp⟩ := choose_list n (fun i hi => h i (by omega))
    obtain ⟨x, hx⟩ := h n (by omega)
    refine ⟨l ++ [x], by simp [hl], fun i hi => ?_⟩
    by_cases e : i < l.length
    · rw [List.getElem_append_left e]; exact hp i e
    · have : i = n := by simp at hi; omega
      subst this
      simp [hl]
      exact hx

theorem addr_add2 (b o n m : Nat) : (Addr.add ⟨b, o, none⟩ n).add m = ⟨b, o + n + m, none⟩ := by
  unfold Addr.add
  by_cases h1 : n = 0 <;> by_cases h2 : m = 0 <;> simp [h1, h2]

/-- A slice with an element leads to a place that is none of a packed cell's. -/
theorem spot_of {w : World} {a : Addr} {k n : Nat} {cs : List Value} (h : w.cells? 0 (a.add (0 * k)) n = some cs) (hn : 0 < n) : a.spot = none := by
  obtain ⟨_, hlen, hc⟩ := World.cells?_some h
  have k0 := hc 0 hn
  rw [List.getElem?_eq_getElem (by omega)] at k0
  have := World.cell?_spot k0
  simpa [Addr.add] using this

theorem Tryz.cellsLPiece : Tryz.prog.cellsOf 91 = 4 := by kernel_rfl
theorem Tryz.cellsLEnd : Tryz.prog.cellsOf 183 = 2 := by kernel_rfl
theorem Tryz.cellsLJoint : Tryz.prog.cellsOf 95 = 3 := by kernel_rfl
theorem Tryz.cellsStr : Tryz.prog.cellsOf 9 = 1 := by kernel_rfl
theorem Tryz.cellsLEndS : Tryz.prog.cellsOf 93 = 1 := by kernel_rfl

section
variable {H : Type} {enc : TypeId × Value → H} {w : World}

theorem open_pieces {fuel : Nat} {cs : List Value} {y : DataW H × List MemPlace} (h : DataW.trod enc Tryz.prog w 0 (fun _ => true) true fuel 22 cs = some y) :
    ∃ (a : Option Addr) (cap : Nat) (ps : List MPiece), cs = [.slice a ps.length cap] ∧ PiecesAt w a ps := by
  rcases open_slice Tryz.underlying22 h with ⟨hcs, _⟩ | ⟨a, len, cap, m, n, D, Pl, hcs, _, hl, hm, hmm, _, hx⟩
  · exact ⟨none, 0, [], hcs, by simp [maxLen], by simp, Or.inl rfl⟩
  · rw [if_pos rfl] at hmm
    subst hmm
    by_cases hl0 : len = 0
    · subst hl0
      exact ⟨some a, m, [], hcs, by simp [maxLen], by simp, Or.inl rfl⟩
    obtain ⟨cs0, hcs0, _⟩ := hx 0 (by omega)
    have hspot := spot_of hcs0 (by rw [Tryz.cellsLPiece]; omega)
    clear hcs0
    obtain ⟨ab, ao, asp⟩ := a
    simp only at hspot
    subst hspot
    have hi : ∀ i, i < len → ∃ p : MPiece, p.name.size ≤ maxLen ∧ w.cell? ⟨ab, ao + i * 4, none⟩ = some (.string p.name) ∧ w.cell? ⟨ab, ao + i * 4 + 1, none⟩ = some (.int .i64 p.len) ∧
        w.cell? ⟨ab, ao + i * 4 + 2, none⟩ = some (.int .i64 p.speed) ∧ w.cell? ⟨ab, ao + i * 4 + 3, none⟩ = some (.int .i64 p.brake) := by
      intro i hi
      obtain ⟨cs', h1, h2⟩ := hx i (by omega)
      rw [Tryz.cellsLPiece] at h1
      obtain ⟨_, hlen, hc⟩ := World.cells?_some h1
      match cs', hlen with
      | [c0, c1, c2, c3], _ =>
        obtain ⟨y0, y1, y2, y3, n', _, _, t0, t1, t2, t3⟩ := Joins.trod_struct4 Tryz.underlying91 h2
        simp [Tryz.cellsStr, Tryz.cellsInt] at t0 t1 t2 t3
        obtain ⟨s, e0, _, hs⟩ := DataW.trod_string Tryz.underlying9 t0
        obtain ⟨x1, e1, _, _⟩ := DataW.trod_int Tryz.underlying3 t1
        obtain ⟨x2, e2, _, _⟩ := DataW.trod_int Tryz.underlying3 t2
        obtain ⟨x3, e3, _, _⟩ := DataW.trod_int Tryz.underlying3 t3
        simp at e0 e1 e2 e3
        subst e0 e1 e2 e3
        have k0 := hc 0 (by omega)
        have k1 := hc 1 (by omega)
        have k2 := hc 2 (by omega)
        have k3 := hc 3 (by omega)
        rw [addr_add2] at k0 k1 k2 k3
        simp at k0 k1 k2 k3
        exact ⟨⟨s, x1, x2, x3⟩, hs, k0, k1, k2, k3⟩
    obtain ⟨ps, hpl, hp⟩ := choose_list len hi
    subst hpl
    refine ⟨_, m, ps, hcs, by omega, ?_, ?_⟩
    · intro p hp'
      obtain ⟨i, hi', rfl⟩ := List.getElem_of_mem hp'
      exact (hp i hi').1
    · exact Or.inr ⟨ab, ao, rfl, fun i hi' => (hp i hi').2⟩

theorem open_ends {fuel : Nat} {cs : List Value} {y : DataW H × List MemPlace} (h : DataW.trod enc Tryz.prog w 0 (fun _ => true) true fuel 93 cs = some y) :
    ∃ (a : Option Addr) (cap : Nat) (ps : List MEnd), cs = [.slice a ps.length cap] ∧ EndsAt w a ps := by
  rcases open_slice Tryz.underlying93 h with ⟨hcs, _⟩ | ⟨a, len, cap, m, n, D, Pl, hcs, _, hl, hm, hmm, _, hx⟩
  · exact ⟨none, 0, [], hcs, by simp [maxLen], Or.inl rfl⟩
  · rw [if_pos rfl] at hmm
    subst hmm
    by_cases hl0 : len = 0
    · subst hl0
      exact ⟨some a, m, [], hcs, by simp [maxLen], Or.inl rfl⟩
    obtain ⟨cs0, hcs0, _⟩ := hx 0 (by omega)
    have hspot := spot_of hcs0 (by rw [Tryz.cellsLEnd]; omega)
    clear hcs0
    obtain ⟨ab, ao, asp⟩ := a
    simp only at hspot
    subst hspot
    have hi : ∀ i, i < len → ∃ p : MEnd, w.cell? ⟨ab, ao + i * 2, none⟩ = some (.int .i64 p.piece) ∧ w.cell? ⟨ab, ao + i * 2 + 1, none⟩ = some (.int .i64 p.side) := by
      intro i hi
      obtain ⟨cs', h1, h2⟩ := hx i (by omega)
      rw [Tryz.cellsLEnd] at h1
      obtain ⟨_, hlen, hc⟩ := World.cells?_some h1
      match cs', hlen with
      | [c0, c1], _ =>
        obtain ⟨y0, y1, n', _, _, t0, t1⟩ := trod_struct2 Tryz.underlying183 h2
        simp [Tryz.cellsInt] at t0 t1
        obtain ⟨x0, e0, _, _⟩ := DataW.trod_int Tryz.underlying3 t0
        obtain ⟨x1, e1, _, _⟩ := DataW.trod_int Tryz.underlying3 t1
        simp at e0 e1
        subst e0 e1
        have k0 := hc 0 (by omega)
        have k1 := hc 1 (by omega)
        rw [addr_add2] at k0 k1
        simp at k0 k1
        exact ⟨⟨x0, x1⟩, k0, k1⟩
    obtain ⟨ps, hpl, hp⟩ := choose_list len hi
    subst hpl
    refine ⟨_, m, ps, hcs, by omega, ?_⟩
    exact Or.inr ⟨ab, ao, rfl, fun i hi' => hp i hi'⟩

theorem open_joints {fuel : Nat} {cs : List Value} {y : DataW H × List MemPlace} (h : DataW.trod enc Tryz.prog w 0 (fun _ => true) true fuel 23 cs = some y) :
    ∃ (a : Option Addr) (cap : Nat) (ps : List MJoint), cs = [.slice a ps.length cap] ∧ JointsAt w a ps := by
  rcases open_slice Tryz.underlying23 h with ⟨hcs, _⟩ | ⟨a, len, cap, m, n, D, Pl, hcs, _, hl, hm, hmm, _, hx⟩
  · exact ⟨none, 0, [], hcs, by simp [maxLen], by simp, Or.inl rfl⟩
  · rw [if_pos rfl] at hmm
    subst hmm
    by_cases hl0 : len = 0
    · subst hl0
      exact ⟨some a, m, [], hcs, by simp [maxLen], by simp, Or.inl rfl⟩
    obtain ⟨cs0, hcs0, _⟩ := hx 0 (by omega)
    have hspot := spot_of hcs0 (by rw [Tryz.cellsLJoint]; omega)
    clear hcs0
    obtain ⟨ab, ao, asp⟩ := a
    simp only at hspot
    subst hspot
    have hi : ∀ i, i < len → ∃ p : MJoint, p.name.size ≤ maxLen ∧ w.cell? ⟨ab, ao + i * 3, none⟩ = some (.int .i64 p.kind) ∧ w.cell? ⟨ab, ao + i * 3 + 1, none⟩ = some (.string p.name) ∧
        ∃ ea ec, w.cell? ⟨ab, ao + i * 3 + 2, none⟩ = some (.slice ea p.ends.length ec) ∧ EndsAt w ea p.ends := by
      intro i hi
      obtain ⟨cs', h1, h2⟩ := hx i (by omega)
      rw [Tryz.cellsLJoint] at h1
      obtain ⟨_, hlen, hc⟩ := World.cells?_some h1
      match cs', hlen with
      | [c0, c1, c2], _ =>
        obtain ⟨y0, y1, y2, n', _, _, t0, t1, t2⟩ := trod_struct3 Tryz.underlying95 h2
        simp [Tryz.cellsStr, Tryz.cellsInt, Tryz.cellsLEndS] at t0 t1 t2
        obtain ⟨x0, e0, _, _⟩ := DataW.trod_int Tryz.underlying3 t0
        obtain ⟨s, e1, _, hs⟩ := DataW.trod_string Tryz.underlying9 t1
        obtain ⟨ea, ec, es, e2, he⟩ := open_ends t2
        simp at e0 e1 e2
        subst e0 e1 e2
        have k0 := hc 0 (by omega)
        have k1 := hc 1 (by omega)
        have k2 := hc 2 (by omega)
        rw [addr_add2] at k0 k1 k2
        simp at k0 k1 k2
        exact ⟨⟨x0, s, es⟩, hs, k0, k1, ea, ec, k2, he⟩
    obtain ⟨ps, hpl, hp⟩ := choose_list len hi
    subst hpl
    refine ⟨_, m, ps, hcs, by omega, ?_, ?_⟩
    · intro p hp'
      obtain ⟨i, hi', rfl⟩ := List.getElem_of_mem hp'
      exact (hp i hi').1
    · exact Or.inr ⟨ab, ao, rfl, fun i hi' => (hp i hi').2⟩
end

end Go.Proofs.YtmkdgnmmebldgaaGreat

namespace Go.Proofs.YtmkdgnmmebldgaaGreat
open Go.RowKit Go.Deep

theorem Tryz.infoS : (Tryz.prog.info? 56).map (fun i => (i.zero, i.size, i.bytes)) = some (some (.agg #[.string ⟨#[]⟩, .int .i64 0, .int .i64 0, .int .i64 0]), 4, 40) := by kernel_rfl

set_option maxHeartbeats 400000 in
theorem szSignal_any (s : ByteArray) (l sp br left : Int) (w : World) (hs : s.size ≤ maxLen) (h0 : 0 ≤ left) (h1 : left ≤ 1048576) :
    Calls Tryz.prog 19 #[.agg #[.string s, .int .i64 l, .int .i64 sp, .int .i64 br], .int .i64 left] w fun e w' => e = .returned (.int .i64 (if left < s.size then -1 else left - s.size)) ∧ Below w.heap.size w w' := by
  unfold maxLen at hs
  by_cases hl : left < s.size
  · rw [if_pos hl]
    go_enter Tryz.func19, Tryz.ntmps19
    go_wp2
    go_ret
    exact ⟨rfl, (Below.refl _ _).alloc (Nat.le_refl _) _⟩
  · rw [if_neg hl]
    go_enter Tryz.func19, Tryz.ntmps19
    go_wp2
    go_ret
    exact ⟨rfl, (Below.refl _ _).alloc (Nat.le_refl _) _⟩

set_option maxHeartbeats 400000 in
theorem toSignal_any (s : ByteArray) (l sp br : Int) (w : World) :
    Calls Tryz.prog 26 #[.agg #[.string s, .int .i64 l, .int .i64 sp, .int .i64 br]] w fun e w' => e = .returned (.agg #[.string s, .int .i64 l, .int .i64 sp, .int .i64 br]) ∧ Below w.heap.size w w' := by
  go_enter Tryz.func26, Tryz.ntmps26
  go_wp2
  exact bodyPost_ret (v := .agg #[.string s, .int .i64 l, .int .i64 sp, .int .i64 br]) (by simp [results, Tryz.results26, go_sem]) rfl ⟨rfl, (by repeat (first | exact Below.refl _ _ | assumption | refine Below.drew ?_ | refine bdrewN ?_ _ | refine Below.setCell ?_ (by first | omega | (simp; done) | (simp; omega)) _ | refine Below.alloc ?_ (by first | omega | (simp; done) | (simp; omega)) _))⟩

set_option maxHeartbeats 400000 in
theorem eqSignal_any (s : ByteArray) (l sp br : Int) (w : World) :
    Calls Tryz.prog 34 #[.agg #[.string s, .int .i64 l, .int .i64 sp, .int .i64 br], .agg #[.string s, .int .i64 l, .int .i64 sp, .int .i64 br]] w fun e w' => e = .returned (.bool true) ∧ Below w.heap.size w w' := by
  go_enter Tryz.func34, Tryz.ntmps34
  go_wp2
  go_ret
  exact ⟨rfl, (by repeat (first | exact Below.refl _ _ | assumption | refine Below.drew ?_ | refine bdrewN ?_ _ | refine Below.setCell ?_ (by first | omega | (simp; done) | (simp; omega)) _ | refine Below.alloc ?_ (by first | omega | (simp; done) | (simp; omega)) _))⟩

set_option maxHeartbeats 400000 in
theorem szSignalS_walk (b off cap : Nat) (ps : List MPiece) (left : Int) (w : World) (hl : ps.length ≤ maxLen) (hn : Hid (∀ p, p ∈ ps → p.name.size ≤ maxLen)) (hc : Hid (PieceCells w b off ps)) (h0 : 0 ≤ left) (h1 : left ≤ 1048576) :
    Calls Tryz.prog 5 #[.slice (some ⟨b, off, none⟩) ps.length cap, .int .i64 left] w fun e w' => e = .returned (.int .i64 (if left < ps.length then -1 else szP (left - ps.length) ps)) ∧ Below w.heap.size w w' := by
  unfold maxLen at hl


  by_cases hlt : left < ps.length
  · rw [if_pos hlt]
    go_enter Tryz.func5, Tryz.ntmps5
    go_wp2
    go_ret
    exact ⟨rfl, (by repeat (first | exact Below.refl _ _ | assumption | refine Below.drew ?_ | refine bdrewN ?_ _ | refine Below.setCell ?_ (by first | omega | (simp; done) | (simp; omega)) _ | refine Below.alloc ?_ (by first | omega | (simp; done) | (simp; omega)) _))⟩
  · rw [if_neg hlt]
    go_enter Tryz.func5, Tryz.ntmps5
    go_wp2_with fail
    go_loopw [1, 5] (fun l i wr => ∃ (k : Nat) (lf : Int), k ≤ ps.length ∧ i = .int .i64 k ∧ l = .int .i64 lf ∧ 0 ≤ lf ∧ lf ≤ 1048576 ∧ Hid (szP (left - ps.length) ps = szP lf (ps.drop k)) ∧ Below w.heap.size w wr) (fun _ i _ => ps.length - (intOf i).toNat)
    case atStart => exact ⟨0, left - ps.length, Nat.zero_le _, rfl, rfl, by omega, by omega, rfl, (by repeat (first | exact Below.refl _ _ | assumption | refine Below.drew ?_ | refine bdrewN ?_ _ | refine Below.setCell ?_ (by first | omega | (simp; done) | (simp; omega)) _ | refine Below.alloc ?_ (by first | omega | (simp; done) | (simp; omega)) _))⟩
    case round =>
      obtain ⟨k, lf, hk, rfl, rfl, hf0, hf1, HZ, hb⟩ := hrel
      by_cases hk' : k < ps.length
      · obtain ⟨c1, c2, c3, c4⟩ := (hc.out.below hb) k hk'
        have hsz : ps[k].name.size ≤ maxLen := hn.out _ (List.getElem_mem hk')
        have HD : Hid (szP lf (ps.drop k) = if lf < ps[k].name.size then -1 else szP (lf - ps[k].name.size) (ps.drop (k + 1))) := by
          unfold Hid
          rw [List.drop_eq_getElem_cons hk']
          rfl
        by_cases hs : lf < ps[k].name.size
        · have HE : Hid (szP (left - ps.length) ps = -1) := by
            have h := HD.out
            rw [if_pos hs] at h
            exact HZ.out.trans h
          clear HZ HD
          go_wp2_with (go_at_call 19; refine (szSignal_any _ _ _ _ _ _ hsz hf0 hf1).mono ?_; rintro e w1 ⟨rfl, hb1⟩; rw [if_pos hs])
          go_ret
          exact ⟨ret_int HE.out.symm, hb.trans (hb1.mono hb.size)⟩
        · have HE : Hid (szP (left - ps.length) ps = szP (lf - ps[k].name.size) (ps.drop (k + 1))) := by
            have h := HD.out
            rw [if_neg hs] at h
            exact HZ.out.trans h
          clear HZ HD
          go_wp2_with (go_at_call 19; refine (szSignal_any _ _ _ _ _ _ hsz hf0 hf1).mono ?_; rintro e w1 ⟨rfl, hb1⟩; rw [if_neg hs])
          go_roundw
          case rel => exact ⟨k + 1, _, by omega, by go_num, rfl, by omega, by omega, HE, hb.trans (hb1.mono hb.size)⟩
          case measure => simp [intOf]; omega
      · have HE : Hid (szP (left - ps.length) ps = lf) := by
          have h := HZ.out
          rw [List.drop_of_length_le (by omega)] at h
          exact h
        clear HZ
        go_wp2
        go_ret
        exact ⟨ret_int HE.out.symm, hb⟩

set_option maxHeartbeats 400000 in
theorem szSignalS_nil (a : Option Addr) (cap : Nat) (left : Int) (w : World) (h0 : 0 ≤ left) (h1 : left ≤ 1048576) :
    Calls Tryz.prog 5 #[.slice a 0 cap, .int .i64 left] w fun e w' => e = .returned (.int .i64 left) ∧ Below w.heap.size w w' := by
  go_enter Tryz.func5, Tryz.ntmps5
  go_wp2_with fail
  go_loopw [1, 5] (fun l i wr => i = .int .i64 0 ∧ l = .int .i64 left ∧ wr = w) (fun _ _ _ => 0)
  case atStart => exact ⟨rfl, by simp, rfl⟩
  case round =>
    obtain ⟨rfl, rfl, rfl⟩ := hrel
    go_wp2
    go_ret
    exact ⟨rfl, (by repeat (first | exact Below.refl _ _ | assumption | refine Below.drew ?_ | refine bdrewN ?_ _ | refine Below.setCell ?_ (by first | omega | (simp; done) | (simp; omega)) _ | refine Below.alloc ?_ (by first | omega | (simp; done) | (simp; omega)) _))⟩

theorem szSignalS_any (a : Option Addr) (cap : Nat) (ps : List MPiece) (left : Int) (w : World) (hp : PiecesAt w a ps) (h0 : 0 ≤ left) (h1 : left ≤ 1048576) :
    Calls Tryz.prog 5 #[.slice a ps.length cap, .int .i64 left] w fun e w' => e = .returned (.int .i64 (if left < ps.length then -1 else szP (left - ps.length) ps)) ∧ Below w.heap.size w w' := by
  obtain ⟨hl, hn, h⟩ := hp
  rcases h with rfl | ⟨b, off, rfl, hc⟩
  · rw [if_neg (by simp; omega)]
    have := szSignalS_nil a cap left w h0 h1
    simpa [szP] using this
  · exact szSignalS_walk b off cap ps left w hl hn hc h0 h1

set_option maxHeartbeats 1000000 in
theorem toSignalS_walk (a : Option Addr) (cap : Nat) (ps : List MPiece) (w : World) (hp : Hid (PiecesAt w a ps)) (hl : ps.length ≤ 1048576) :
    Calls Tryz.prog 8 #[.slice a ps.length cap] w fun e w' => ∃ g, e = .returned (.slice (some ⟨g, 0, none⟩) ps.length ps.length) ∧ Hid (PieceCells w' g 0 ps) ∧ Below w.heap.size w w' ∧ w.heap.size ≤ g := by
  obtain ⟨w1, hm, hrow, hb1, hz1⟩ := make_structs (P := Tryz.prog) w 36 56 _ _ _ Tryz.underlying36 Tryz.infoS (by omega) ps.length hl
  have HROW : Hid (∃ f, w1.rowIs w.heap.size 56 (ps.length * 4) f) := hrow
  clear hrow
  go_enter Tryz.func8, Tryz.ntmps8
  go_wp2_with fail
  go_loopw [4] (fun i wr => ∃ (k : Nat) (f : Nat → Value), k ≤ ps.length ∧ i = .int .i64 k ∧ Hid (wr.rowIs w.heap.size 56 (ps.length * 4) f) ∧ Hid (PieceRow ps k f) ∧ Below w.heap.size w wr ∧ w.heap.size < wr.heap.size) (fun i _ => ps.length - (intOf i).toNat)
  case atStart =>
    obtain ⟨f, hf⟩ := HROW.out
    exact ⟨0, f, Nat.zero_le _, rfl, hf, (fun i _ h => absurd h (Nat.not_lt_zero i)), hb1, by omega⟩
  case round =>
    obtain ⟨k, f, hk, rfl, hrow, hpr, hb, hz⟩ := hrel
    clear hm HROW hb1 hz1
    by_cases hk' : k < ps.length
    · obtain ⟨b, off, rfl, hpc⟩ := hp.out.2.2.resolve_left (fun h => by rw [h] at hk'; exact absurd hk' (Nat.not_lt_zero _))
      obtain ⟨c1, c2, c3, c4⟩ := (hpc.below hb) k hk'
      clear hpc
      have HNX := hpr.out.next hk'
      have HNX' : Hid (PieceRow ps (k + 1) _) := HNX
      clear HNX hpr
      go_wp2_with fail
      refine (toSignal_any _ _ _ _ _).mono ?_
      rintro e w2 ⟨rfl, hb2⟩
      have hr2 : w2.rowIs w.heap.size 56 (ps.length * 4) f := hrow.out.of_block (hb2.block _ hz)
      have d0 := hr2.cell (i := k * 4) (by omega)
      have d1 := hr2.cell (i := k * 4 + 1) (by omega)
      have d2 := hr2.cell (i := k * 4 + 2) (by omega)
      have d3 := hr2.cell (i := k * 4 + 3) (by omega)
      have e0 := hr2.frozen (k * 4)
      have e1 := hr2.frozen (k * 4 + 1)
      have e2 := hr2.frozen (k * 4 + 2)
      have e3 := hr2.frozen (k * 4 + 3)
      have HR2 : Hid (w2.rowIs w.heap.size 56 (ps.length * 4) f) := hr2
      clear hr2 hrow
      have hb3 : Below w.heap.size w w2 := hb.trans (hb2.mono hb.size)
      have hz2 : w.heap.size < w2.heap.size := Nat.lt_of_lt_of_le hz hb2.size
      clear hb hb2 hz c1 c2 c3 c4
      go_wp2_with fail
      go_roundw
      case rel =>
        refine ⟨k + 1, _, by omega, by go_num, ((((HR2.out.set (k * 4) _).set (k * 4 + 1) _).set (k * 4 + 2) _).set (k * 4 + 3) _), HNX', (by repeat (first | exact Below.refl _ _ | assumption | refine Below.drew ?_ | refine bdrewN ?_ _ | refine Below.setCell ?_ (by first | omega | (simp; done) | (simp; omega)) _ | refine Below.alloc ?_ (by first | omega | (simp; done) | (simp; omega)) _)), by simpa using hz2⟩
      case measure => simp [intOf]; omega
    · have hkk : k = ps.length := by omega
      have HC : Hid (PieceCells wr w.heap.size 0 ps) := pieceCells_of_row hrow.out (hkk ▸ hpr.out)
      clear hrow hpr hkk
      go_wp2
      go_ret
      exact ⟨_, rfl, HC, hb, Nat.le_refl _⟩

set_option maxHeartbeats 1000000 in
theorem eqSignalS_walk (a b : Option Addr) (ac bc : Nat) (ps : List MPiece) (w : World) (ha : Hid (PiecesAt w a ps)) (hb : Hid (PiecesAt w b ps)) :
    Calls Tryz.prog 12 #[.slice a ps.length ac, .slice b ps.length bc] w fun e w' => e = .returned (.bool true) ∧ Below w.heap.size w w' := by
  have hl := ha.out.1
  unfold maxLen at hl
  go_enter Tryz.func12, Tryz.ntmps12
  go_wp2_with fail
  go_loopw [5] (fun i wr => ∃ (k : Nat), k ≤ ps.length ∧ i = .int .i64 k ∧ Below w.heap.size w wr) (fun i _ => ps.length - (intOf i).toNat)
  case atStart => exact ⟨0, Nat.zero_le _, rfl, (by repeat (first | exact Below.refl _ _ | assumption | refine Below.drew ?_ | refine bdrewN ?_ _ | refine Below.setCell ?_ (by first | omega | (simp; done) | (simp; omega)) _ | refine Below.alloc ?_ (by first | omega | (simp; done) | (simp; omega)) _))⟩
  case round =>
    obtain ⟨k, hk, rfl, hbw⟩ := hrel
    by_cases hk' : k < ps.length
    · obtain ⟨b1, off1, rfl, hpc1⟩ := ha.out.2.2.resolve_left (fun h => by rw [h] at hk'; exact absurd hk' (Nat.not_lt_zero _))
      obtain ⟨b2, off2, rfl, hpc2⟩ := hb.out.2.2.resolve_left (fun h => by rw [h] at hk'; exact absurd hk' (Nat.not_lt_zero _))
      obtain ⟨c1, c2, c3, c4⟩ := (hpc1.below hbw) k hk'
      obtain ⟨d1, d2, d3, d4⟩ := (hpc2.below hbw) k hk'
      clear hpc1 hpc2
      go_wp2_with fail
      go_region_with (go_at_call 34; refine (eqSignal_any _ _ _ _ _).mono ?_; rintro e w2 ⟨rfl, hb2⟩)
      all_goals
        go_wp2_with fail
        go_roundw
        case rel => exact ⟨k + 1, by omega, by go_num, hbw.drew.trans (hb2.mono hbw.size)⟩
        case measure => simp [intOf]; omega
    · go_wp2
      go_ret
      exact ⟨rfl, hbw⟩

end Go.Proofs.YtmkdgnmmebldgaaGreat

namespace Go.Proofs.YtmkdgnmmebldgaaGreat
open Go.ChangeShapes Go.WideShapes Go.ChangeAt Go.RowKit Go.Deep

theorem Tryz.cellsLSignal : Tryz.prog.cellsOf 49 = 4 := by kernel_rfl
theorem ownSig : ownKnob Tryz.prog.godebug = none := by kernel_rfl
theorem cellsLNetSig : Tryz.prog.cellsOf 25 = 2 := by kernel_rfl

section
variable {H : Type} {enc : TypeId × Value → H} {w : World}

theorem open_signals {fuel : Nat} {cs : List Value} {y : DataW H × List MemPlace} (h : DataW.trod enc Tryz.prog w 0 (fun _ => true) true fuel 26 cs = some y) :
    ∃ (a : Option Addr) (cap : Nat) (ps : List MPiece), cs = [.slice a ps.length cap] ∧ PiecesAt w a ps := by
  rcases open_slice Tryz.underlying26 h with ⟨hcs, _⟩ | ⟨a, len, cap, m, n, D, Pl, hcs, _, hl, hm, hmm, _, hx⟩
  · exact ⟨none, 0, [], hcs, by simp [maxLen], by simp, Or.inl rfl⟩
  · rw [if_pos rfl] at hmm
    subst hmm
    by_cases hl0 : len = 0
    · subst hl0
      exact ⟨some a, m, [], hcs, by simp [maxLen], by simp, Or.inl rfl⟩
    obtain ⟨cs0, hcs0, _⟩ := hx 0 (by omega)
    have hspot := spot_of hcs0 (by rw [Tryz.cellsLSignal]; omega)
    clear hcs0
    obtain ⟨ab, ao, asp⟩ := a
    simp only at hspot
    subst hspot
    have hi : ∀ i, i < len → ∃ p : MPiece, p.name.size ≤ maxLen ∧ w.cell? ⟨ab, ao + i * 4, none⟩ = some (.string p.name) ∧ w.cell? ⟨ab, ao + i * 4 + 1, none⟩ = some (.int .i64 p.len) ∧
        w.cell? ⟨ab, ao + i * 4 + 2, none⟩ = some (.int .i64 p.speed) ∧ w.cell? ⟨ab, ao + i * 4 + 3, none⟩ = some (.int .i64 p.brake) := by
      intro i hi
      obtain ⟨cs', h1, h2⟩ := hx i (by omega)
      rw [Tryz.cellsLSignal] at h1
      obtain ⟨_, hlen, hc⟩ := World.cells?_some h1
      match cs', hlen with
      | [c0, c1, c2, c3], _ =>
        obtain ⟨y0, y1, y2, y3, n', _, _, t0, t1, t2, t3⟩ := Joins.trod_struct4 Tryz.underlying49 h2
        simp [Tryz.cellsStr, Tryz.cellsInt] at t0 t1 t2 t3
        obtain ⟨s, e0, _, hs⟩ := DataW.trod_string Tryz.underlying9 t0
        obtain ⟨x1, e1, _, _⟩ := DataW.trod_int Tryz.underlying3 t1
        obtain ⟨x2, e2, _, _⟩ := DataW.trod_int Tryz.underlying3 t2
        obtain ⟨x3, e3, _, _⟩ := DataW.trod_int Tryz.underlying3 t3
        simp at e0 e1 e2 e3
        subst e0 e1 e2 e3
        have k0 := hc 0 (by omega)
        have k1 := hc 1 (by omega)
        have k2 := hc 2 (by omega)
        have k3 := hc 3 (by omega)
        rw [addr_add2] at k0 k1 k2 k3
        simp at k0 k1 k2 k3
        exact ⟨⟨s, x1, x2, x3⟩, hs, k0, k1, k2, k3⟩
    obtain ⟨ps, hpl, hp⟩ := choose_list len hi
    subst hpl
    refine ⟨_, m, ps, hcs, by omega, ?_, ?_⟩
    · intro p hp'
      obtain ⟨i, hi', rfl⟩ := List.getElem_of_mem hp'
      exact (hp i hi').1
    · exact Or.inr ⟨ab, ao, rfl, fun i hi' => (hp i hi').2⟩
end

end Go.Proofs.YtmkdgnmmebldgaaGreat

namespace Go.Proofs.YtmkdgnmmebldgaaGreat
open Go.RowKit Go.Deep

/-! Lists of numbers, parts, flanks and routes in memory. -/

structure MPart where
  piece : Int
  lo : Int
  hi : Int
structure MFlank where
  place : Int
  kind : Int
  of : Int
  lie : Int

/-- Off the set S nothing that lay has turned. -/
structure Only (S : Nat → Prop) (w w' : World) : Prop where
  os : w'.os = w.os
  tape : w'.tape = w.tape
  output : w'.output = w.output
  size : w.heap.size ≤ w'.heap.size
  block : ∀ k, k < w.heap.size → ¬ S k → w'.heap[k]? = w.heap[k]?

theorem Only.refl (S : Nat → Prop) (w : World) : Only S w w := ⟨rfl, rfl, rfl, Nat.le_refl _, fun _ _ _ => rfl⟩
theorem Only.trans {S : Nat → Prop} {a b c : World} (h : Only S a b) (k : Only S b c) : Only S a c :=
  ⟨k.os.trans h.os, k.tape.trans h.tape, k.output.trans h.output, Nat.le_trans h.size k.size, fun i hi hs => (k.block i (Nat.lt_of_lt_of_le hi h.size) hs).trans (h.block i hi hs)⟩
theorem Only.mono {S S' : Nat → Prop} {w w' : World} (h : Only S w w') (hs : ∀ k, S k → S' k) : Only S' w w' := ⟨h.os, h.tape, h.output, h.size, fun k hk hn => h.block k hk (fun e => hn (hs k e))⟩
theorem Only.of_below {S : Nat → Prop} {w w' : World} (h : Below w.heap.size w w') : Only S w w' := ⟨h.os, h.tape, h.output, h.size, fun k hk _ => h.block k hk⟩
theorem Only.below {S : Nat → Prop} {B : Nat} {w w' : World} (h : Only S w w') (hB : B ≤ w.heap.size) (hs : ∀ k, k < B → ¬ S k) : Below B w w' := ⟨h.os, h.tape, h.output, h.size, fun k hk => h.block k (Nat.lt_of_lt_of_le hk hB) (hs k hk)⟩
theorem Only.of_grown {S : Nat → Prop} {w w' : World} {row : Option Nat} (h : w.grownBy w' row) (hs : ∀ k, row = some k → S k) : Only S w w' := ⟨h.os, h.tape, h.output, h.size, fun k hk hn => h.block k hk (fun e => hn (hs k e.symm))⟩
theorem Only.alloc {S : Nat → Prop} {a w : World} (h : Only S a w) (o : Obj) : Only S a (w.alloc o) :=
  h.trans ⟨rfl, rfl, rfl, by simp, fun k hk _ => Below.heap_alloc _ _ _ hk⟩
theorem Only.drew {S : Nat → Prop} {a w : World} (h : Only S a w) : Only S a w.drew := ⟨h.os, h.tape, h.output, h.size, h.block⟩
theorem Only.setCell {S : Nat → Prop} {a w : World} (h : Only S a w) {p : Addr} (hp : S p.block ∨ a.heap.size ≤ p.block) (u : Value) : Only S a (w.setCell p u) :=
  ⟨h.os, h.tape, h.output, by have := h.size; simpa [World.setCell] using this, fun k hk hn => (Below.heap_setCell _ _ _ _ (by rintro rfl; rcases hp with hp | hp; exact hn hp; omega)).trans (h.block k hk hn)⟩
theorem Only.cell {S : Nat → Prop} {w w' : World} (h : Only S w w') {p : Addr} {v : Value} (hc : w.cell? p = some v) (hs : ¬ S p.block) : w'.cell? p = some v :=
  (World.cell?_of_block (w := w) (h.block p.block (cellLt hc) hs)).trans hc

/-- The cells of numbers. -/
def NumCells (w : World) (b off : Nat) (es : List Int) : Prop := ∀ i (h : i < es.length), w.cell? ⟨b, off + i, none⟩ = some (.int .i64 es[i])

theorem NumCells.below {w w' : World} {b off : Nat} {es : List Int} (h : NumCells w b off es) (hb : Below w.heap.size w w') : NumCells w' b off es := by
  intro i hi
  have h0 := h i hi
  exact cell_later hb h0

def NumsAt (w : World) (a : Option Addr) (es : List Int) : Prop := es.length ≤ maxLen ∧ (es = [] ∨ ∃ b off, a = some ⟨b, off, none⟩ ∧ NumCells w b off es)

theorem NumsAt.below {w w' : World} {a : Option Addr} {es : List Int} (h : NumsAt w a es) (hb : Below w.heap.size w w') : NumsAt w' a es := by
  obtain ⟨h1, h3⟩ := h
  refine ⟨h1, ?_⟩
  rcases h3 with h3 | ⟨b, off, h3, h4⟩
  · exact Or.inl h3
  · exact Or.inr ⟨b, off, h3, h4.below hb⟩

/-- The cells of parts. -/
def PartCells (w : World) (b off : Nat) (es : List MPart) : Prop := ∀ i (h : i < es.length), w.cell? ⟨b, off + i * 3, none⟩ = some (.int .i64 es[i].piece) ∧ w.cell? ⟨b, off + i * 3 + 1, none⟩ = some (.int .i64 es[i].lo) ∧ w.cell? ⟨b, off + i * 3 + 2, none⟩ = some (.int .i64 es[i].hi)

theorem PartCells.below {w w' : World} {b off : Nat} {es : List MPart} (h : PartCells w b off es) (hb : Below w.heap.size w w') : PartCells w' b off es := by
  intro i hi
  obtain ⟨h0, h1, h2⟩ := h i hi
  exact ⟨cell_later hb h0, cell_later hb h1, cell_later hb h2⟩

def PartsAt (w : World) (a : Option Addr) (es : List MPart) : Prop := es.length ≤ maxLen ∧ (es = [] ∨ ∃ b off, a = some ⟨b, off, none⟩ ∧ PartCells w b off es)

theorem PartsAt.below {w w' : World} {a : Option Addr} {es : List MPart} (h : PartsAt w a es) (hb : Below w.heap.size w w') : PartsAt w' a es := by
  obtain ⟨h1, h3⟩ := h
  refine ⟨h1, ?_⟩
  rcases h3 with h3 | ⟨b, off, h3, h4⟩
  · exact Or.inl h3
  · exact Or.inr ⟨b, off, h3, h4.below hb⟩

/-- The cells of flanks. -/
def FlankCells (w : World) (b off : Nat) (es : List MFlank) : Prop := ∀ i (h : i < es.length), w.cell? ⟨b, off + i * 4, none⟩ = some (.int .i64 es[i].place) ∧ w.cell? ⟨b, off + i * 4 + 1, none⟩ = some (.int .i64 es[i].kind) ∧ w.cell? ⟨b, off + i * 4 + 2, none⟩ = some (.int .i64 es[i].of) ∧ w.cell? ⟨b, off + i * 4 + 3, none⟩ = some (.int .i64 es[i].lie)

theorem FlankCells.below {w w' : World} {b off : Nat} {es : List MFlank} (h : FlankCells w b off es) (hb : Below w.heap.size w w') : FlankCells w' b off es := by
  intro i hi
  obtain ⟨h0, h1, h2, h3⟩ := h i hi
  exact ⟨cell_later hb h0, cell_later hb h1, cell_later hb h2, cell_later hb h3⟩

def FlanksAt (w : World) (a : Option Addr) (es : List MFlank) : Prop := es.length ≤ maxLen ∧ (es = [] ∨ ∃ b off, a = some ⟨b, off, none⟩ ∧ FlankCells w b off es)

theorem FlanksAt.below {w w' : World} {a : Option Addr} {es : List MFlank} (h : FlanksAt w a es) (hb : Below w.heap.size w w') : FlanksAt w' a es := by
  obtain ⟨h1, h3⟩ := h
  refine ⟨h1, ?_⟩
  rcases h3 with h3 | ⟨b, off, h3, h4⟩
  · exact Or.inl h3
  · exact Or.inr ⟨b, off, h3, h4.below hb⟩

/-- A list of one kind reads the same while its block lies as it lay. -/
theorem EndsAt.kept {w w' : World} {a : Option Addr} {es : List MEnd} (h : EndsAt w a es) (hb : es = [] ∨ ∀ b off, a = some ⟨b, off, none⟩ → w'.heap[b]? = w.heap[b]?) : EndsAt w' a es := by
  obtain ⟨h1, h3⟩ := h
  refine ⟨h1, ?_⟩
  rcases h3 with h3 | ⟨b, off, h3, h4⟩
  · exact Or.inl h3
  · rcases hb with hb | hb
    · exact Or.inl hb
    · have e := hb b off h3
      exact Or.inr ⟨b, off, h3, fun i hi => by obtain ⟨c1, c2⟩ := h4 i hi; exact ⟨(World.cell?_of_block (w := w) e).trans c1, (World.cell?_of_block (w := w) e).trans c2⟩⟩
theorem NumsAt.kept {w w' : World} {a : Option Addr} {es : List Int} (h : NumsAt w a es) (hb : es = [] ∨ ∀ b off, a = some ⟨b, off, none⟩ → w'.heap[b]? = w.heap[b]?) : NumsAt w' a es := by
  obtain ⟨h1, h3⟩ := h
  refine ⟨h1, ?_⟩
  rcases h3 with h3 | ⟨b, off, h3, h4⟩
  · exact Or.inl h3
  · rcases hb with hb | hb
    · exact Or.inl hb
    · have e := hb b off h3
      exact Or.inr ⟨b, off, h3, fun i hi => (World.cell?_of_block (w := w) e).trans (h4 i hi)⟩
theorem PartsAt.kept {w w' : World} {a : Option Addr} {es : List MPart} (h : PartsAt w a es) (hb : es = [] ∨ ∀ b off, a = some ⟨b, off, none⟩ → w'.heap[b]? = w.heap[b]?) : PartsAt w' a es := by
  obtain ⟨h1, h3⟩ := h
  refine ⟨h1, ?_⟩
  rcases h3 with h3 | ⟨b, off, h3, h4⟩
  · exact Or.inl h3
  · rcases hb with hb | hb
    · exact Or.inl hb
    · have e := hb b off h3
      exact Or.inr ⟨b, off, h3, fun i hi => by obtain ⟨c0, c1, c2⟩ := h4 i hi; exact ⟨(World.cell?_of_block (w := w) e).trans c0, (World.cell?_of_block (w := w) e).trans c1, (World.cell?_of_block (w := w) e).trans c2⟩⟩
theorem FlanksAt.kept {w w' : World} {a : Option Addr} {es : List MFlank} (h : FlanksAt w a es) (hb : es = [] ∨ ∀ b off, a = some ⟨b, off, none⟩ → w'.heap[b]? = w.heap[b]?) : FlanksAt w' a es := by
  obtain ⟨h1, h3⟩ := h
  refine ⟨h1, ?_⟩
  rcases h3 with h3 | ⟨b, off, h3, h4⟩
  · exact Or.inl h3
  · rcases hb with hb | hb
    · exact Or.inl hb
    · have e := hb b off h3
      exact Or.inr ⟨b, off, h3, fun i hi => by obtain ⟨c0, c1, c2, c3⟩ := h4 i hi; exact ⟨(World.cell?_of_block (w := w) e).trans c0, (World.cell?_of_block (w := w) e).trans c1, (World.cell?_of_block (w := w) e).trans c2, (World.cell?_of_block (w := w) e).trans c3⟩⟩

structure MRoute where
  start : Int
  stop : Int
  steps : List MEnd
  lies : List MEnd
  crosses : List Int
  parts : List MPart
  over : List MPart
  flanks : List MFlank

/-- The lists of a route, by where each one begins. -/
structure RAddr where
  a0 : Option Addr
  c0 : Nat
  a1 : Option Addr
  c1 : Nat
  a2 : Option Addr
  c2 : Nat
  a3 : Option Addr
  c3 : Nat
  a4 : Option Addr
  c4 : Nat
  a5 : Option Addr
  c5 : Nat

/-- The lists of a route lie there. -/
structure RListsAt (w : World) (d : RAddr) (r : MRoute) : Prop where
  steps : EndsAt w d.a0 r.steps
  lies : EndsAt w d.a1 r.lies
  crosses : NumsAt w d.a2 r.crosses
  parts : PartsAt w d.a3 r.parts
  over : PartsAt w d.a4 r.over
  flanks : FlanksAt w d.a5 r.flanks
  nil1 : d.a1 = none → d.c1 = 0

theorem RListsAt.below {w w' : World} {d : RAddr} {r : MRoute} (h : RListsAt w d r) (hb : Below w.heap.size w w') : RListsAt w' d r :=
  ⟨h.steps.below hb, h.lies.below hb, h.crosses.below hb, h.parts.below hb, h.over.below hb, h.flanks.below hb, h.nil1⟩

/-- A route as a value. -/
def routeV (d : RAddr) (r : MRoute) : Value :=
  .agg #[.int .i64 r.start, .int .i64 r.stop, .slice d.a0 r.steps.length d.c0, .slice d.a1 r.lies.length d.c1, .slice d.a2 r.crosses.length d.c2, .slice d.a3 r.parts.length d.c3, .slice d.a4 r.over.length d.c4, .slice d.a5 r.flanks.length d.c5]

/-- The eight cells of a route. -/
structure RouteCell (w : World) (b o : Nat) (d : RAddr) (r : MRoute) : Prop where
  k0 : w.cell? ⟨b, o, none⟩ = some (.int .i64 r.start)
  k1 : w.cell? ⟨b, o + 1, none⟩ = some (.int .i64 r.stop)
  k2 : w.cell? ⟨b, o + 2, none⟩ = some (.slice d.a0 r.steps.length d.c0)
  k3 : w.cell? ⟨b, o + 3, none⟩ = some (.slice d.a1 r.lies.length d.c1)
  k4 : w.cell? ⟨b, o + 4, none⟩ = some (.slice d.a2 r.crosses.length d.c2)
  k5 : w.cell? ⟨b, o + 5, none⟩ = some (.slice d.a3 r.parts.length d.c3)
  k6 : w.cell? ⟨b, o + 6, none⟩ = some (.slice d.a4 r.over.length d.c4)
  k7 : w.cell? ⟨b, o + 7, none⟩ = some (.slice d.a5 r.flanks.length d.c5)

theorem RouteCell.kept {w w' : World} {b o : Nat} {d : RAddr} {r : MRoute} (h : RouteCell w b o d r) (e : w'.heap[b]? = w.heap[b]?) : RouteCell w' b o d r :=
  ⟨(World.cell?_of_block (w := w) e).trans h.k0, (World.cell?_of_block (w := w) e).trans h.k1, (World.cell?_of_block (w := w) e).trans h.k2, (World.cell?_of_block (w := w) e).trans h.k3,
   (World.cell?_of_block (w := w) e).trans h.k4, (World.cell?_of_block (w := w) e).trans h.k5, (World.cell?_of_block (w := w) e).trans h.k6, (World.cell?_of_block (w := w) e).trans h.k7⟩

theorem RouteCell.below {w w' : World} {b o : Nat} {d : RAddr} {r : MRoute} (h : RouteCell w b o d r) (hb : Below w.heap.size w w') : RouteCell w' b o d r :=
  h.kept (hb.block b (cellLt h.k0))

/-- The cells of routes. -/
def RouteCells (w : World) (b off : Nat) (rs : List MRoute) : Prop := ∀ i (h : i < rs.length), ∃ d, RouteCell w b (off + i * 8) d rs[i] ∧ RListsAt w d rs[i]

theorem RouteCells.below {w w' : World} {b off : Nat} {rs : List MRoute} (h : RouteCells w b off rs) (hb : Below w.heap.size w w') : RouteCells w' b off rs := by
  intro i hi
  obtain ⟨d, h1, h2⟩ := h i hi
  exact ⟨d, h1.below hb, h2.below hb⟩

def RoutesAt (w : World) (a : Option Addr) (rs : List MRoute) : Prop := rs.length ≤ maxLen ∧ (rs = [] ∨ ∃ b off, a = some ⟨b, off, none⟩ ∧ RouteCells w b off rs)

theorem RoutesAt.below {w w' : World} {a : Option Addr} {rs : List MRoute} (h : RoutesAt w a rs) (hb : Below w.heap.size w w') : RoutesAt w' a rs := by
  obtain ⟨h1, h3⟩ := h
  refine ⟨h1, ?_⟩
  rcases h3 with h3 | ⟨b, off, h3, h4⟩
  · exact Or.inl h3
  · exact Or.inr ⟨b, off, h3, h4.below hb⟩

end Go.Proofs.YtmkdgnmmebldgaaGreat
