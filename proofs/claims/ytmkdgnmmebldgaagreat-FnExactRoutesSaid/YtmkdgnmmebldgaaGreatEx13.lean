import Derived.Test.YtmkdgnmmebldgaaGreatEx12
import Derived.Test.YtmkdgnmmebldgaaGreatEx11
namespace Go.Proofs.YtmkdgnmmebldgaaGreat
open Go.RowKit Go.Deep

set_option maxHeartbeats 400000 in
theorem eqStep_any (x0 x1 : Int) (w : World) :
    Calls Tryz.prog 94 #[.agg #[.int .i64 x0, .int .i64 x1], .agg #[.int .i64 x0, .int .i64 x1]] w fun e w' => e = .returned (.bool true) ∧ Below w.heap.size w w' := by
  go_enter Tryz.func94, Tryz.ntmps94
  go_wp2
  go_ret
  exact ⟨rfl, (by repeat (first | exact Below.refl _ _ | assumption | refine Below.drew ?_ | refine bdrewN ?_ _ | refine Below.setCell ?_ (by first | omega | (simp; done) | (simp; omega)) _ | refine Below.alloc ?_ (by first | omega | (simp; done) | (simp; omega)) _))⟩

set_option maxHeartbeats 400000 in
theorem eqLie_any (x0 x1 : Int) (w : World) :
    Calls Tryz.prog 95 #[.agg #[.int .i64 x0, .int .i64 x1], .agg #[.int .i64 x0, .int .i64 x1]] w fun e w' => e = .returned (.bool true) ∧ Below w.heap.size w w' := by
  go_enter Tryz.func95, Tryz.ntmps95
  go_wp2
  go_ret
  exact ⟨rfl, (by repeat (first | exact Below.refl _ _ | assumption | refine Below.drew ?_ | refine bdrewN ?_ _ | refine Below.setCell ?_ (by first | omega | (simp; done) | (simp; omega)) _ | refine Below.alloc ?_ (by first | omega | (simp; done) | (simp; omega)) _))⟩

set_option maxHeartbeats 400000 in
theorem eqPart_any (x0 x1 x2 : Int) (w : World) :
    Calls Tryz.prog 96 #[.agg #[.int .i64 x0, .int .i64 x1, .int .i64 x2], .agg #[.int .i64 x0, .int .i64 x1, .int .i64 x2]] w fun e w' => e = .returned (.bool true) ∧ Below w.heap.size w w' := by
  go_enter Tryz.func96, Tryz.ntmps96
  go_wp2
  go_ret
  exact ⟨rfl, (by repeat (first | exact Below.refl _ _ | assumption | refine Below.drew ?_ | refine bdrewN ?_ _ | refine Below.setCell ?_ (by first | omega | (simp; done) | (simp; omega)) _ | refine Below.alloc ?_ (by first | omega | (simp; done) | (simp; omega)) _))⟩

set_option maxHeartbeats 400000 in
theorem eqFlank_any (x0 x1 x2 x3 : Int) (w : World) :
    Calls Tryz.prog 97 #[.agg #[.int .i64 x0, .int .i64 x1, .int .i64 x2, .int .i64 x3], .agg #[.int .i64 x0, .int .i64 x1, .int .i64 x2, .int .i64 x3]] w fun e w' => e = .returned (.bool true) ∧ Below w.heap.size w w' := by
  go_enter Tryz.func97, Tryz.ntmps97
  go_wp2
  go_ret
  exact ⟨rfl, (by repeat (first | exact Below.refl _ _ | assumption | refine Below.drew ?_ | refine bdrewN ?_ _ | refine Below.setCell ?_ (by first | omega | (simp; done) | (simp; omega)) _ | refine Below.alloc ?_ (by first | omega | (simp; done) | (simp; omega)) _))⟩

set_option maxHeartbeats 1000000 in
theorem eqStepS_walk (a b : Option Addr) (ac bc : Nat) (ps : List MEnd) (w : World) (ha : Hid (EndsAt w a ps)) (hb : Hid (EndsAt w b ps)) :
    Calls Tryz.prog 69 #[.slice a ps.length ac, .slice b ps.length bc] w fun e w' => e = .returned (.bool true) ∧ Below w.heap.size w w' := by
  have hl := ha.out.1
  unfold maxLen at hl
  go_enter Tryz.func69, Tryz.ntmps69
  go_wp2_with fail
  go_loopw [5] (fun i wr => ∃ (k : Nat), k ≤ ps.length ∧ i = .int .i64 k ∧ Below w.heap.size w wr) (fun i _ => ps.length - (intOf i).toNat)
  case atStart => exact ⟨0, Nat.zero_le _, rfl, (by repeat (first | exact Below.refl _ _ | assumption | refine Below.drew ?_ | refine bdrewN ?_ _ | refine Below.setCell ?_ (by first | omega | (simp; done) | (simp; omega)) _ | refine Below.alloc ?_ (by first | omega | (simp; done) | (simp; omega)) _))⟩
  case round =>
    obtain ⟨k, hk, rfl, hbw⟩ := hrel
    by_cases hk' : k < ps.length
    · obtain ⟨b1, off1, rfl, hpc1⟩ := ha.out.2.resolve_left (fun h => by rw [h] at hk'; exact absurd hk' (Nat.not_lt_zero _))
      obtain ⟨b2, off2, rfl, hpc2⟩ := hb.out.2.resolve_left (fun h => by rw [h] at hk'; exact absurd hk' (Nat.not_lt_zero _))
      obtain ⟨c0, c1⟩ := (hpc1.below hbw) k hk'
      obtain ⟨d0, d1⟩ := (hpc2.below hbw) k hk'
      clear hpc1 hpc2
      go_wp2_with fail
      go_region_with (go_at_call 94; refine (eqStep_any _ _ _).mono ?_; rintro e w2 ⟨rfl, hb2⟩)
      all_goals
        go_wp2_with fail
        go_roundw
        case rel => exact ⟨k + 1, by omega, by go_num, hbw.drew.trans (hb2.mono hbw.size)⟩
        case measure => simp [intOf]; omega
    · go_wp2
      go_ret
      exact ⟨rfl, hbw⟩

set_option maxHeartbeats 1000000 in
theorem eqLieS_walk (a b : Option Addr) (ac bc : Nat) (ps : List MEnd) (w : World) (ha : Hid (EndsAt w a ps)) (hb : Hid (EndsAt w b ps)) :
    Calls Tryz.prog 70 #[.slice a ps.length ac, .slice b ps.length bc] w fun e w' => e = .returned (.bool true) ∧ Below w.heap.size w w' := by
  have hl := ha.out.1
  unfold maxLen at hl
  go_enter Tryz.func70, Tryz.ntmps70
  go_wp2_with fail
  go_loopw [5] (fun i wr => ∃ (k : Nat), k ≤ ps.length ∧ i = .int .i64 k ∧ Below w.heap.size w wr) (fun i _ => ps.length - (intOf i).toNat)
  case atStart => exact ⟨0, Nat.zero_le _, rfl, (by repeat (first | exact Below.refl _ _ | assumption | refine Below.drew ?_ | refine bdrewN ?_ _ | refine Below.setCell ?_ (by first | omega | (simp; done) | (simp; omega)) _ | refine Below.alloc ?_ (by first | omega | (simp; done) | (simp; omega)) _))⟩
  case round =>
    obtain ⟨k, hk, rfl, hbw⟩ := hrel
    by_cases hk' : k < ps.length
    · obtain ⟨b1, off1, rfl, hpc1⟩ := ha.out.2.resolve_left (fun h => by rw [h] at hk'; exact absurd hk' (Nat.not_lt_zero _))
      obtain ⟨b2, off2, rfl, hpc2⟩ := hb.out.2.resolve_left (fun h => by rw [h] at hk'; exact absurd hk' (Nat.not_lt_zero _))
      obtain ⟨c0, c1⟩ := (hpc1.below hbw) k hk'
      obtain ⟨d0, d1⟩ := (hpc2.below hbw) k hk'
      clear hpc1 hpc2
      go_wp2_with fail
      go_region_with (go_at_call 95; refine (eqLie_any _ _ _).mono ?_; rintro e w2 ⟨rfl, hb2⟩)
      all_goals
        go_wp2_with fail
        go_roundw
        case rel => exact ⟨k + 1, by omega, by go_num, hbw.drew.trans (hb2.mono hbw.size)⟩
        case measure => simp [intOf]; omega
    · go_wp2
      go_ret
      exact ⟨rfl, hbw⟩

set_option maxHeartbeats 1000000 in
theorem eqIntS_walk (a b : Option Addr) (ac bc : Nat) (ps : List Int) (w : World) (ha : Hid (NumsAt w a ps)) (hb : Hid (NumsAt w b ps)) :
    Calls Tryz.prog 71 #[.slice a ps.length ac, .slice b ps.length bc] w fun e w' => e = .returned (.bool true) ∧ Below w.heap.size w w' := by
  have hl := ha.out.1
  unfold maxLen at hl
  go_enter Tryz.func71, Tryz.ntmps71
  go_wp2_with fail
  go_loopw [5] (fun i wr => ∃ (k : Nat), k ≤ ps.length ∧ i = .int .i64 k ∧ Below w.heap.size w wr) (fun i _ => ps.length - (intOf i).toNat)
  case atStart => exact ⟨0, Nat.zero_le _, rfl, (by repeat (first | exact Below.refl _ _ | assumption | refine Below.drew ?_ | refine bdrewN ?_ _ | refine Below.setCell ?_ (by first | omega | (simp; done) | (simp; omega)) _ | refine Below.alloc ?_ (by first | omega | (simp; done) | (simp; omega)) _))⟩
  case round =>
    obtain ⟨k, hk, rfl, hbw⟩ := hrel
    by_cases hk' : k < ps.length
    · obtain ⟨b1, off1, rfl, hpc1⟩ := ha.out.2.resolve_left (fun h => by rw [h] at hk'; exact absurd hk' (Nat.not_lt_zero _))
      obtain ⟨b2, off2, rfl, hpc2⟩ := hb.out.2.resolve_left (fun h => by rw [h] at hk'; exact absurd hk' (Nat.not_lt_zero _))
      have c0 := (hpc1.below hbw) k hk'
      have d0 := (hpc2.below hbw) k hk'
      clear hpc1 hpc2
      go_wp2_with fail
      go_quiet (fail)
      go_wp2_with fail
      go_roundw
      case rel => exact ⟨k + 1, by omega, by go_num, (by repeat (first | exact Below.refl _ _ | assumption | refine Below.drew ?_ | refine bdrewN ?_ _ | refine Below.setCell ?_ (by first | omega | (simp; done) | (simp; omega)) _ | refine Below.alloc ?_ (by first | omega | (simp; done) | (simp; omega)) _))⟩
      case measure => simp [intOf]; omega
    · go_wp2
      go_ret
      exact ⟨rfl, hbw⟩

set_option maxHeartbeats 1000000 in
theorem eqPartS_walk (a b : Option Addr) (ac bc : Nat) (ps : List MPart) (w : World) (ha : Hid (PartsAt w a ps)) (hb : Hid (PartsAt w b ps)) :
    Calls Tryz.prog 72 #[.slice a ps.length ac, .slice b ps.length bc] w fun e w' => e = .returned (.bool true) ∧ Below w.heap.size w w' := by
  have hl := ha.out.1
  unfold maxLen at hl
  go_enter Tryz.func72, Tryz.ntmps72
  go_wp2_with fail
  go_loopw [5] (fun i wr => ∃ (k : Nat), k ≤ ps.length ∧ i = .int .i64 k ∧ Below w.heap.size w wr) (fun i _ => ps.length - (intOf i).toNat)
  case atStart => exact ⟨0, Nat.zero_le _, rfl, (by repeat (first | exact Below.refl _ _ | assumption | refine Below.drew ?_ | refine bdrewN ?_ _ | refine Below.setCell ?_ (by first | omega | (simp; done) | (simp; omega)) _ | refine Below.alloc ?_ (by first | omega | (simp; done) | (simp; omega)) _))⟩
  case round =>
    obtain ⟨k, hk, rfl, hbw⟩ := hrel
    by_cases hk' : k < ps.length
    · obtain ⟨b1, off1, rfl, hpc1⟩ := ha.out.2.resolve_left (fun h => by rw [h] at hk'; exact absurd hk' (Nat.not_lt_zero _))
      obtain ⟨b2, off2, rfl, hpc2⟩ := hb.out.2.resolve_left (fun h => by rw [h] at hk'; exact absurd hk' (Nat.not_lt_zero _))
      obtain ⟨c0, c1, c2⟩ := (hpc1.below hbw) k hk'
      obtain ⟨d0, d1, d2⟩ := (hpc2.below hbw) k hk'
      clear hpc1 hpc2
      go_wp2_with fail
      go_region_with (go_at_call 96; refine (eqPart_any _ _ _ _).mono ?_; rintro e w2 ⟨rfl, hb2⟩)
      all_goals
        go_wp2_with fail
        go_roundw
        case rel => exact ⟨k + 1, by omega, by go_num, hbw.drew.trans (hb2.mono hbw.size)⟩
        case measure => simp [intOf]; omega
    · go_wp2
      go_ret
      exact ⟨rfl, hbw⟩

set_option maxHeartbeats 1000000 in
theorem eqFlankS_walk (a b : Option Addr) (ac bc : Nat) (ps : List MFlank) (w : World) (ha : Hid (FlanksAt w a ps)) (hb : Hid (FlanksAt w b ps)) :
    Calls Tryz.prog 73 #[.slice a ps.length ac, .slice b ps.length bc] w fun e w' => e = .returned (.bool true) ∧ Below w.heap.size w w' := by
  have hl := ha.out.1
  unfold maxLen at hl
  go_enter Tryz.func73, Tryz.ntmps73
  go_wp2_with fail
  go_loopw [5] (fun i wr => ∃ (k : Nat), k ≤ ps.length ∧ i = .int .i64 k ∧ Below w.heap.size w wr) (fun i _ => ps.length - (intOf i).toNat)
  case atStart => exact ⟨0, Nat.zero_le _, rfl, (by repeat (first | exact Below.refl _ _ | assumption | refine Below.drew ?_ | refine bdrewN ?_ _ | refine Below.setCell ?_ (by first | omega | (simp; done) | (simp; omega)) _ | refine Below.alloc ?_ (by first | omega | (simp; done) | (simp; omega)) _))⟩
  case round =>
    obtain ⟨k, hk, rfl, hbw⟩ := hrel
    by_cases hk' : k < ps.length
    · obtain ⟨b1, off1, rfl, hpc1⟩ := ha.out.2.resolve_left (fun h => by rw [h] at hk'; exact absurd hk' (Nat.not_lt_zero _))
      obtain ⟨b2, off2, rfl, hpc2⟩ := hb.out.2.resolve_left (fun h => by rw [h] at hk'; exact absurd hk' (Nat.not_lt_zero _))
      obtain ⟨c0, c1, c2, c3⟩ := (hpc1.below hbw) k hk'
      obtain ⟨d0, d1, d2, d3⟩ := (hpc2.below hbw) k hk'
      clear hpc1 hpc2
      go_wp2_with fail
      go_region_with (go_at_call 97; refine (eqFlank_any _ _ _ _ _).mono ?_; rintro e w2 ⟨rfl, hb2⟩)
      all_goals
        go_wp2_with fail
        go_roundw
        case rel => exact ⟨k + 1, by omega, by go_num, hbw.drew.trans (hb2.mono hbw.size)⟩
        case measure => simp [intOf]; omega
    · go_wp2
      go_ret
      exact ⟨rfl, hbw⟩

set_option maxHeartbeats 2000000 in
theorem eqRoute_any (d d' : RAddr) (r : MRoute) (w : World) (ha : Hid (RListsAt w d r)) (hb : Hid (RListsAt w d' r)) :
    Calls Tryz.prog 31 #[routeV d r, routeV d' r] w fun e w' => e = .returned (.bool true) ∧ Below w.heap.size w w' := by
  unfold routeV
  go_enter Tryz.func31, Tryz.ntmps31
  go_wp2_with fail
  generalize hW : (w.alloc _).alloc _ = W
  have x0 : W.cell? ⟨w.heap.size, 0, none⟩ = some (.int .i64 r.start) := by rw [← hW]; simp [go_sem]
  have x1 : W.cell? ⟨w.heap.size, 1, none⟩ = some (.int .i64 r.stop) := by rw [← hW]; simp [go_sem]
  have x2 : W.cell? ⟨w.heap.size, 2, none⟩ = some (.slice d.a0 r.steps.length d.c0) := by rw [← hW]; simp [go_sem]
  have x3 : W.cell? ⟨w.heap.size, 3, none⟩ = some (.slice d.a1 r.lies.length d.c1) := by rw [← hW]; simp [go_sem]
  have x4 : W.cell? ⟨w.heap.size, 4, none⟩ = some (.slice d.a2 r.crosses.length d.c2) := by rw [← hW]; simp [go_sem]
  have x5 : W.cell? ⟨w.heap.size, 5, none⟩ = some (.slice d.a3 r.parts.length d.c3) := by rw [← hW]; simp [go_sem]
  have x6 : W.cell? ⟨w.heap.size, 6, none⟩ = some (.slice d.a4 r.over.length d.c4) := by rw [← hW]; simp [go_sem]
  have x7 : W.cell? ⟨w.heap.size, 7, none⟩ = some (.slice d.a5 r.flanks.length d.c5) := by rw [← hW]; simp [go_sem]
  have y0 : W.cell? ⟨w.heap.size + 1, 0, none⟩ = some (.int .i64 r.start) := by rw [← hW]; simp [go_sem]
  have y1 : W.cell? ⟨w.heap.size + 1, 1, none⟩ = some (.int .i64 r.stop) := by rw [← hW]; simp [go_sem]
  have y2 : W.cell? ⟨w.heap.size + 1, 2, none⟩ = some (.slice d'.a0 r.steps.length d'.c0) := by rw [← hW]; simp [go_sem]
  have y3 : W.cell? ⟨w.heap.size + 1, 3, none⟩ = some (.slice d'.a1 r.lies.length d'.c1) := by rw [← hW]; simp [go_sem]
  have y4 : W.cell? ⟨w.heap.size + 1, 4, none⟩ = some (.slice d'.a2 r.crosses.length d'.c2) := by rw [← hW]; simp [go_sem]
  have y5 : W.cell? ⟨w.heap.size + 1, 5, none⟩ = some (.slice d'.a3 r.parts.length d'.c3) := by rw [← hW]; simp [go_sem]
  have y6 : W.cell? ⟨w.heap.size + 1, 6, none⟩ = some (.slice d'.a4 r.over.length d'.c4) := by rw [← hW]; simp [go_sem]
  have y7 : W.cell? ⟨w.heap.size + 1, 7, none⟩ = some (.slice d'.a5 r.flanks.length d'.c5) := by rw [← hW]; simp [go_sem]
  have hz : w.heap.size + 2 ≤ W.heap.size := by rw [← hW]; simp
  have hbW : Below w.heap.size w W := by rw [← hW]; exact (by repeat (first | exact Below.refl _ _ | assumption | refine Below.drew ?_ | refine bdrewN ?_ _ | refine Below.setCell ?_ (by first | omega | (simp; done) | (simp; omega)) _ | refine Below.alloc ?_ (by first | omega | (simp; done) | (simp; omega)) _))
  have HA := hidP (ha.out.below hbW)
  have HB := hidP (hb.out.below hbW)
  clear hW
  refine (eqStepS_walk _ _ _ _ _ _ (HA.out.steps) (HB.out.steps)).mono ?_
  rintro e w0 ⟨rfl, hb0⟩
  have hB0 : Below W.heap.size W w0 := hb0
  replace x3 := cell_later hb0 x3
  replace x4 := cell_later hb0 x4
  replace x5 := cell_later hb0 x5
  replace x6 := cell_later hb0 x6
  replace x7 := cell_later hb0 x7
  replace y3 := cell_later hb0 y3
  replace y4 := cell_later hb0 y4
  replace y5 := cell_later hb0 y5
  replace y6 := cell_later hb0 y6
  replace y7 := cell_later hb0 y7
  have hz0 : w.heap.size + 2 ≤ w0.heap.size := by have := hB0.size; omega
  clear hb0 x2 y2
  go_wp2_with fail
  refine (eqLieS_walk _ _ _ _ _ _ ((HA.out.below hB0).lies) ((HB.out.below hB0).lies)).mono ?_
  rintro e w1 ⟨rfl, hb1⟩
  have hB1 : Below W.heap.size W w1 := hB0.trans (hb1.mono hB0.size)
  replace x4 := cell_later hb1 x4
  replace x5 := cell_later hb1 x5
  replace x6 := cell_later hb1 x6
  replace x7 := cell_later hb1 x7
  replace y4 := cell_later hb1 y4
  replace y5 := cell_later hb1 y5
  replace y6 := cell_later hb1 y6
  replace y7 := cell_later hb1 y7
  have hz1 : w.heap.size + 2 ≤ w1.heap.size := by have := hB1.size; omega
  clear hb1 hB0 hz0 x3 y3
  go_wp2_with fail
  refine (eqIntS_walk _ _ _ _ _ _ ((HA.out.below hB1).crosses) ((HB.out.below hB1).crosses)).mono ?_
  rintro e w2 ⟨rfl, hb2⟩
  have hB2 : Below W.heap.size W w2 := hB1.trans (hb2.mono hB1.size)
  replace x5 := cell_later hb2 x5
  replace x6 := cell_later hb2 x6
  replace x7 := cell_later hb2 x7
  replace y5 := cell_later hb2 y5
  replace y6 := cell_later hb2 y6
  replace y7 := cell_later hb2 y7
  have hz2 : w.heap.size + 2 ≤ w2.heap.size := by have := hB2.size; omega
  clear hb2 hB1 hz1 x4 y4
  go_wp2_with fail
  refine (eqPartS_walk _ _ _ _ _ _ ((HA.out.below hB2).parts) ((HB.out.below hB2).parts)).mono ?_
  rintro e w3 ⟨rfl, hb3⟩
  have hB3 : Below W.heap.size W w3 := hB2.trans (hb3.mono hB2.size)
  replace x6 := cell_later hb3 x6
  replace x7 := cell_later hb3 x7
  replace y6 := cell_later hb3 y6
  replace y7 := cell_later hb3 y7
  have hz3 : w.heap.size + 2 ≤ w3.heap.size := by have := hB3.size; omega
  clear hb3 hB2 hz2 x5 y5
  go_wp2_with fail
  refine (eqPartS_walk _ _ _ _ _ _ ((HA.out.below hB3).over) ((HB.out.below hB3).over)).mono ?_
  rintro e w4 ⟨rfl, hb4⟩
  have hB4 : Below W.heap.size W w4 := hB3.trans (hb4.mono hB3.size)
  replace x7 := cell_later hb4 x7
  replace y7 := cell_later hb4 y7
  have hz4 : w.heap.size + 2 ≤ w4.heap.size := by have := hB4.size; omega
  clear hb4 hB3 hz3 x6 y6
  go_wp2_with fail
  refine (eqFlankS_walk _ _ _ _ _ _ ((HA.out.below hB4).flanks) ((HB.out.below hB4).flanks)).mono ?_
  rintro e w5 ⟨rfl, hb5⟩
  have hB5 : Below W.heap.size W w5 := hB4.trans (hb5.mono hB4.size)
  have hz5 : w.heap.size + 2 ≤ w5.heap.size := by have := hB5.size; omega
  clear hb5 hB4 hz4 x7 y7
  go_wp2_with fail
  go_ret
  exact ⟨rfl, hbW.trans (hB5.mono hbW.size)⟩

set_option maxHeartbeats 1000000 in
theorem eqRouteS_walk (a b : Option Addr) (ac bc : Nat) (ps : List MRoute) (w : World) (ha : Hid (RoutesAt w a ps)) (hb : Hid (RoutesAt w b ps)) :
    Calls Tryz.prog 10 #[.slice a ps.length ac, .slice b ps.length bc] w fun e w' => e = .returned (.bool true) ∧ Below w.heap.size w w' := by
  have hl := ha.out.1
  unfold maxLen at hl
  go_enter Tryz.func10, Tryz.ntmps10
  go_wp2_with fail
  go_loopw [5] (fun i wr => ∃ (k : Nat), k ≤ ps.length ∧ i = .int .i64 k ∧ Below w.heap.size w wr) (fun i _ => ps.length - (intOf i).toNat)
  case atStart => exact ⟨0, Nat.zero_le _, rfl, (by repeat (first | exact Below.refl _ _ | assumption | refine Below.drew ?_ | refine bdrewN ?_ _ | refine Below.setCell ?_ (by first | omega | (simp; done) | (simp; omega)) _ | refine Below.alloc ?_ (by first | omega | (simp; done) | (simp; omega)) _))⟩
  case round =>
    obtain ⟨k, hk, rfl, hbw⟩ := hrel
    by_cases hk' : k < ps.length
    · obtain ⟨b1, off1, rfl, hpc1⟩ := ha.out.2.resolve_left (fun h => by rw [h] at hk'; exact absurd hk' (Nat.not_lt_zero _))
      obtain ⟨b2, off2, rfl, hpc2⟩ := hb.out.2.resolve_left (fun h => by rw [h] at hk'; exact absurd hk' (Nat.not_lt_zero _))
      obtain ⟨d1, ⟨c0, c1, c2, c3, c4, c5, c6, c7⟩, l1⟩ := (hpc1.below hbw) k hk'
      obtain ⟨d2, ⟨x0, x1, x2, x3, x4, x5, x6, x7⟩, l2⟩ := (hpc2.below hbw) k hk'
      have L1 := hidP l1
      have L2 := hidP l2
      clear hpc1 hpc2 l1 l2
      go_wp2_with fail
      go_region_with (go_at_call 31; refine (eqRoute_any d1 d2 ps[k] _ (L1.out.below (Below.refl _ _).drew) (L2.out.below (Below.refl _ _).drew)).mono ?_; rintro e w2 ⟨rfl, hb2⟩)
      all_goals
        go_wp2_with fail
        go_roundw
        case rel => exact ⟨k + 1, by omega, by go_num, hbw.drew.trans (hb2.mono hbw.size)⟩
        case measure => simp [intOf]; omega
    · go_wp2
      go_ret
      exact ⟨rfl, hbw⟩

end Go.Proofs.YtmkdgnmmebldgaaGreat
