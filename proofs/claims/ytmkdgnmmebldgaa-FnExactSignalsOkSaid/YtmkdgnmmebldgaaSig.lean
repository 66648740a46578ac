import Derived.Test.YtmkdgnmmebldgaaLawNet
namespace Go.Proofs.Ytmkdgnmmebldgaa
open Go.RowKit Go.Deep

theorem Try.infoS : (Try.prog.info? 53).map (fun i => (i.zero, i.size, i.bytes)) = some (some (.agg #[.string ⟨#[]⟩, .int .i64 0, .int .i64 0, .int .i64 0]), 4, 40) := by kernel_rfl

set_option maxHeartbeats 400000 in
theorem szSignal_any (s : ByteArray) (l sp br left : Int) (w : World) (hs : s.size ≤ maxLen) (h0 : 0 ≤ left) (h1 : left ≤ 1048576) :
    Calls Try.prog 70 #[.agg #[.string s, .int .i64 l, .int .i64 sp, .int .i64 br], .int .i64 left] w fun e w' => e = .returned (.int .i64 (if left < s.size then -1 else left - s.size)) ∧ Below w.heap.size w w' := by
  unfold maxLen at hs
  by_cases hl : left < s.size
  · rw [if_pos hl]
    go_enter Try.func70, Try.ntmps70
    go_wp2
    go_ret
    exact ⟨rfl, (Below.refl _ _).alloc (Nat.le_refl _) _⟩
  · rw [if_neg hl]
    go_enter Try.func70, Try.ntmps70
    go_wp2
    go_ret
    exact ⟨rfl, (Below.refl _ _).alloc (Nat.le_refl _) _⟩

set_option maxHeartbeats 400000 in
theorem toSignal_any (s : ByteArray) (l sp br : Int) (w : World) :
    Calls Try.prog 73 #[.agg #[.string s, .int .i64 l, .int .i64 sp, .int .i64 br]] w fun e w' => e = .returned (.agg #[.string s, .int .i64 l, .int .i64 sp, .int .i64 br]) ∧ Below w.heap.size w w' := by
  go_enter Try.func73, Try.ntmps73
  go_wp2
  exact bodyPost_ret (v := .agg #[.string s, .int .i64 l, .int .i64 sp, .int .i64 br]) (by simp [results, Try.results73, go_sem]) rfl ⟨rfl, (by repeat (first | exact Below.refl _ _ | assumption | refine Below.drew ?_ | refine bdrewN ?_ _ | refine Below.setCell ?_ (by first | omega | (simp; done) | (simp; omega)) _ | refine Below.alloc ?_ (by first | omega | (simp; done) | (simp; omega)) _))⟩

set_option maxHeartbeats 400000 in
theorem eqSignal_any (s : ByteArray) (l sp br : Int) (w : World) :
    Calls Try.prog 76 #[.agg #[.string s, .int .i64 l, .int .i64 sp, .int .i64 br], .agg #[.string s, .int .i64 l, .int .i64 sp, .int .i64 br]] w fun e w' => e = .returned (.bool true) ∧ Below w.heap.size w w' := by
  go_enter Try.func76, Try.ntmps76
  go_wp2
  go_ret
  exact ⟨rfl, (by repeat (first | exact Below.refl _ _ | assumption | refine Below.drew ?_ | refine bdrewN ?_ _ | refine Below.setCell ?_ (by first | omega | (simp; done) | (simp; omega)) _ | refine Below.alloc ?_ (by first | omega | (simp; done) | (simp; omega)) _))⟩

set_option maxHeartbeats 400000 in
theorem szSignalS_walk (b off cap : Nat) (ps : List MPiece) (left : Int) (w : World) (hl : ps.length ≤ maxLen) (hn : Hid (∀ p, p ∈ ps → p.name.size ≤ maxLen)) (hc : Hid (PieceCells w b off ps)) (h0 : 0 ≤ left) (h1 : left ≤ 1048576) :
    Calls Try.prog 26 #[.slice (some ⟨b, off, none⟩) ps.length cap, .int .i64 left] w fun e w' => e = .returned (.int .i64 (if left < ps.length then -1 else szP (left - ps.length) ps)) ∧ Below w.heap.size w w' := by
  unfold maxLen at hl


  by_cases hlt : left < ps.length
  · rw [if_pos hlt]
    go_enter Try.func26, Try.ntmps26
    go_wp2
    go_ret
    exact ⟨rfl, (by repeat (first | exact Below.refl _ _ | assumption | refine Below.drew ?_ | refine bdrewN ?_ _ | refine Below.setCell ?_ (by first | omega | (simp; done) | (simp; omega)) _ | refine Below.alloc ?_ (by first | omega | (simp; done) | (simp; omega)) _))⟩
  · rw [if_neg hlt]
    go_enter Try.func26, Try.ntmps26
    go_wp2_with fail
    go_loopw [1, 5] (fun l i wr => ∃ (k : Nat) (lf : Int), k ≤ ps.length ∧ i = .int .i64 k ∧ l = .int .i64 lf ∧ 0 ≤ lf ∧ lf ≤ 1048576 ∧ Hid (szP (left - ps.length) ps = szP lf (ps.drop k)) ∧ Below w.heap.size w wr) (fun _ i _ => ps.length - (intOf i).toNat)
    case atStart => exact ⟨0, left - ps.length, Nat.zero_le _, rfl, rfl, by omega, by omega, rfl, (by repeat (first | exact Below.refl _ _ | assumption | refine Below.drew ?_ | refine bdrewN ?_ _ | refine Below.setCell ?_ (by first | omega | (simp; done) | (simp; omega)) _ | refine Below.alloc ?_ (by first | omega | (simp; done) | (simp; omega)) _))⟩
    case round =>
      obtain ⟨k, lf, hk, rfl, rfl, hf0, hf1, HZ, hb⟩ := hrel
      by_cases hk' : k < ps.length
      · obtain ⟨c1, c2, c3, c4⟩ := (hc.out.below hb) k hk'
        have hsz : ps[k].name.size ≤ maxLen := hn.out _ (List.getElem_mem hk')
        have HD : Hid (szP lf (ps.drop k) = if lf < ps[k].name.size then -1 else szP (lf - ps[k].name.size) (ps.drop (k + 1))) := by
          unfold Hid
          rw [List.drop_eq_getElem_cons hk']
          rfl
        by_cases hs : lf < ps[k].name.size
        · have HE : Hid (szP (left - ps.length) ps = -1) := by
            have h := HD.out
            rw [if_pos hs] at h
            exact HZ.out.trans h
          clear HZ HD
          go_wp2_with (go_at_call 70; refine (szSignal_any _ _ _ _ _ _ hsz hf0 hf1).mono ?_; rintro e w1 ⟨rfl, hb1⟩; rw [if_pos hs])
          go_ret
          exact ⟨ret_int HE.out.symm, hb.trans (hb1.mono hb.size)⟩
        · have HE : Hid (szP (left - ps.length) ps = szP (lf - ps[k].name.size) (ps.drop (k + 1))) := by
            have h := HD.out
            rw [if_neg hs] at h
            exact HZ.out.trans h
          clear HZ HD
          go_wp2_with (go_at_call 70; refine (szSignal_any _ _ _ _ _ _ hsz hf0 hf1).mono ?_; rintro e w1 ⟨rfl, hb1⟩; rw [if_neg hs])
          go_roundw
          case rel => exact ⟨k + 1, _, by omega, by go_num, rfl, by omega, by omega, HE, hb.trans (hb1.mono hb.size)⟩
          case measure => simp [intOf]; omega
      · have HE : Hid (szP (left - ps.length) ps = lf) := by
          have h := HZ.out
          rw [List.drop_of_length_le (by omega)] at h
          exact h
        clear HZ
        go_wp2
        go_ret
        exact ⟨ret_int HE.out.symm, hb⟩

set_option maxHeartbeats 400000 in
theorem szSignalS_nil (a : Option Addr) (cap : Nat) (left : Int) (w : World) (h0 : 0 ≤ left) (h1 : left ≤ 1048576) :
    Calls Try.prog 26 #[.slice a 0 cap, .int .i64 left] w fun e w' => e = .returned (.int .i64 left) ∧ Below w.heap.size w w' := by
  go_enter Try.func26, Try.ntmps26
  go_wp2_with fail
  go_loopw [1, 5] (fun l i wr => i = .int .i64 0 ∧ l = .int .i64 left ∧ wr = w) (fun _ _ _ => 0)
  case atStart => exact ⟨rfl, by simp, rfl⟩
  case round =>
    obtain ⟨rfl, rfl, rfl⟩ := hrel
    go_wp2
    go_ret
    exact ⟨rfl, (by repeat (first | exact Below.refl _ _ | assumption | refine Below.drew ?_ | refine bdrewN ?_ _ | refine Below.setCell ?_ (by first | omega | (simp; done) | (simp; omega)) _ | refine Below.alloc ?_ (by first | omega | (simp; done) | (simp; omega)) _))⟩

theorem szSignalS_any (a : Option Addr) (cap : Nat) (ps : List MPiece) (left : Int) (w : World) (hp : PiecesAt w a ps) (h0 : 0 ≤ left) (h1 : left ≤ 1048576) :
    Calls Try.prog 26 #[.slice a ps.length cap, .int .i64 left] w fun e w' => e = .returned (.int .i64 (if left < ps.length then -1 else szP (left - ps.length) ps)) ∧ Below w.heap.size w w' := by
  obtain ⟨hl, hn, h⟩ := hp
  rcases h with rfl | ⟨b, off, rfl, hc⟩
  · rw [if_neg (by simp; omega)]
    have := szSignalS_nil a cap left w h0 h1
    simpa [szP] using this
  · exact szSignalS_walk b off cap ps left w hl hn hc h0 h1

set_option maxHeartbeats 1000000 in
theorem toSignalS_walk (a : Option Addr) (cap : Nat) (ps : List MPiece) (w : World) (hp : Hid (PiecesAt w a ps)) (hl : ps.length ≤ 1048576) :
    Calls Try.prog 28 #[.slice a ps.length cap] w fun e w' => ∃ g, e = .returned (.slice (some ⟨g, 0, none⟩) ps.length ps.length) ∧ Hid (PieceCells w' g 0 ps) ∧ Below w.heap.size w w' ∧ w.heap.size ≤ g := by
  obtain ⟨w1, hm, hrow, hb1, hz1⟩ := make_structs (P := Try.prog) w 27 53 _ _ _ Try.underlying27 Try.infoS (by omega) ps.length hl
  have HROW : Hid (∃ f, w1.rowIs w.heap.size 53 (ps.length * 4) f) := hrow
  clear hrow
  go_enter Try.func28, Try.ntmps28
  go_wp2_with fail
  go_loopw [4] (fun i wr => ∃ (k : Nat) (f : Nat → Value), k ≤ ps.length ∧ i = .int .i64 k ∧ Hid (wr.rowIs w.heap.size 53 (ps.length * 4) f) ∧ Hid (PieceRow ps k f) ∧ Below w.heap.size w wr ∧ w.heap.size < wr.heap.size) (fun i _ => ps.length - (intOf i).toNat)
  case atStart =>
    obtain ⟨f, hf⟩ := HROW.out
    exact ⟨0, f, Nat.zero_le _, rfl, hf, (fun i _ h => absurd h (Nat.not_lt_zero i)), hb1, by omega⟩
  case round =>
    obtain ⟨k, f, hk, rfl, hrow, hpr, hb, hz⟩ := hrel
    clear hm HROW hb1 hz1
    by_cases hk' : k < ps.length
    · obtain ⟨b, off, rfl, hpc⟩ := hp.out.2.2.resolve_left (fun h => by rw [h] at hk'; exact absurd hk' (Nat.not_lt_zero _))
      obtain ⟨c1, c2, c3, c4⟩ := (hpc.below hb) k hk'
      clear hpc
      have HNX := hpr.out.next hk'
      have HNX' : Hid (PieceRow ps (k + 1) _) := HNX
      clear HNX hpr
      go_wp2_with fail
      refine (toSignal_any _ _ _ _ _).mono ?_
      rintro e w2 ⟨rfl, hb2⟩
      have hr2 : w2.rowIs w.heap.size 53 (ps.length * 4) f := hrow.out.of_block (hb2.block _ hz)
      have d0 := hr2.cell (i := k * 4) (by omega)
      have d1 := hr2.cell (i := k * 4 + 1) (by omega)
      have d2 := hr2.cell (i := k * 4 + 2) (by omega)
      have d3 := hr2.cell (i := k * 4 + 3) (by omega)
      have e0 := hr2.frozen (k * 4)
      have e1 := hr2.frozen (k * 4 + 1)
      have e2 := hr2.frozen (k * 4 + 2)
      have e3 := hr2.frozen (k * 4 + 3)
      have HR2 : Hid (w2.rowIs w.heap.size 53 (ps.length * 4) f) := hr2
      clear hr2 hrow
      have hb3 : Below w.heap.size w w2 := hb.trans (hb2.mono hb.size)
      have hz2 : w.heap.size < w2.heap.size := Nat.lt_of_lt_of_le hz hb2.size
      clear hb hb2 hz c1 c2 c3 c4
      go_wp2_with fail
      go_roundw
      case rel =>
        refine ⟨k + 1, _, by omega, by go_num, ((((HR2.out.set (k * 4) _).set (k * 4 + 1) _).set (k * 4 + 2) _).set (k * 4 + 3) _), HNX', (by repeat (first | exact Below.refl _ _ | assumption | refine Below.drew ?_ | refine bdrewN ?_ _ | refine Below.setCell ?_ (by first | omega | (simp; done) | (simp; omega)) _ | refine Below.alloc ?_ (by first | omega | (simp; done) | (simp; omega)) _)), by simpa using hz2⟩
      case measure => simp [intOf]; omega
    · have hkk : k = ps.length := by omega
      have HC : Hid (PieceCells wr w.heap.size 0 ps) := pieceCells_of_row hrow.out (hkk ▸ hpr.out)
      clear hrow hpr hkk
      go_wp2
      go_ret
      exact ⟨_, rfl, HC, hb, Nat.le_refl _⟩

set_option maxHeartbeats 1000000 in
theorem eqSignalS_walk (a b : Option Addr) (ac bc : Nat) (ps : List MPiece) (w : World) (ha : Hid (PiecesAt w a ps)) (hb : Hid (PiecesAt w b ps)) :
    Calls Try.prog 30 #[.slice a ps.length ac, .slice b ps.length bc] w fun e w' => e = .returned (.bool true) ∧ Below w.heap.size w w' := by
  have hl := ha.out.1
  unfold maxLen at hl
  go_enter Try.func30, Try.ntmps30
  go_wp2_with fail
  go_loopw [5] (fun i wr => ∃ (k : Nat), k ≤ ps.length ∧ i = .int .i64 k ∧ Below w.heap.size w wr) (fun i _ => ps.length - (intOf i).toNat)
  case atStart => exact ⟨0, Nat.zero_le _, rfl, (by repeat (first | exact Below.refl _ _ | assumption | refine Below.drew ?_ | refine bdrewN ?_ _ | refine Below.setCell ?_ (by first | omega | (simp; done) | (simp; omega)) _ | refine Below.alloc ?_ (by first | omega | (simp; done) | (simp; omega)) _))⟩
  case round =>
    obtain ⟨k, hk, rfl, hbw⟩ := hrel
    by_cases hk' : k < ps.length
    · obtain ⟨b1, off1, rfl, hpc1⟩ := ha.out.2.2.resolve_left (fun h => by rw [h] at hk'; exact absurd hk' (Nat.not_lt_zero _))
      obtain ⟨b2, off2, rfl, hpc2⟩ := hb.out.2.2.resolve_left (fun h => by rw [h] at hk'; exact absurd hk' (Nat.not_lt_zero _))
      obtain ⟨c1, c2, c3, c4⟩ := (hpc1.below hbw) k hk'
      obtain ⟨d1, d2, d3, d4⟩ := (hpc2.below hbw) k hk'
      clear hpc1 hpc2
      go_wp2_with fail
      go_region_with (go_at_call 76; refine (eqSignal_any _ _ _ _ _).mono ?_; rintro e w2 ⟨rfl, hb2⟩)
      all_goals
        go_wp2_with fail
        go_roundw
        case rel => exact ⟨k + 1, by omega, by go_num, hbw.drew.trans (hb2.mono hbw.size)⟩
        case measure => simp [intOf]; omega
    · go_wp2
      go_ret
      exact ⟨rfl, hbw⟩

end Go.Proofs.Ytmkdgnmmebldgaa
