import Derived.Test.YtmkdgnmmebldgabTRoute
namespace Go.Proofs.Ytmkdgnmmebldgab
open Go.RowKit Go.Deep

set_option maxRecDepth 4000 in
set_option maxHeartbeats 2000000 in
theorem szRoute_any (d : RAddr) (r : MRoute) (left : Int) (w : World) (hl : Hid (RListsAt w d r)) (h0 : 0 ≤ left) (h1 : left ≤ 1048576) :
    Calls Try.prog 5 #[routeV d r, .int .i64 left] w fun e w' => ∃ x : Int, e = .returned (.int .i64 x) ∧ x ≤ left ∧ -1 ≤ x ∧ (0 ≤ x → LensR r) ∧ Below w.heap.size w w' := by
  unfold routeV
  have m0 := hl.out.steps.1
  have m1 := hl.out.lies.1
  have m2 := hl.out.crosses.1
  have m3 := hl.out.parts.1
  have m4 := hl.out.over.1
  have m5 := hl.out.flanks.1
  go_enter Try.func5, Try.ntmps5
  go_wp2_with fail
  generalize hW : w.alloc _ = W
  have HA : Hid (RouteCell W w.heap.size 0 d r) := by rw [← hW]; exact routeCell_box _ _ _ _
  have hz : w.heap.size < W.heap.size := by rw [← hW]; simp
  have HB : Hid (Below w.heap.size w W) := by rw [← hW]; exact (by repeat (first | exact Below.refl _ _ | assumption | refine Below.drew ?_ | refine bdrewN ?_ _ | refine Below.setCell ?_ (by first | omega | (simp; done) | (simp; omega)) _ | refine Below.alloc ?_ (by first | omega | (simp; done) | (simp; omega)) _))
  clear hW
  refine (szStepS_any _ _ _ _ _ m0 (by omega) (by omega)).mono ?_
  rintro e w1 ⟨rfl, hb0⟩
  replace HA := hidP (HA.out.below hb0)
  replace HB := hidP (HB.out.trans (hb0.mono HB.out.size))
  have hz0 : w.heap.size < w1.heap.size := Nat.lt_of_lt_of_le hz hb0.size
  clear hb0 hz
  by_cases c0 : left < (r.steps.length : Int)
  · rw [if_pos c0]
    go_wp2_with fail
    go_ret
    exact ⟨-1, rfl, by omega, by omega, fun h => absurd h (by omega), HB.out⟩
  rw [if_neg c0]
  obtain ⟨x0, hx0⟩ : ∃ x, left - (r.steps.length : Int) = x := ⟨_, rfl⟩
  rw [hx0]
  have k0 : 0 ≤ x0 ∧ x0 ≤ left ∧ r.steps.length ≤ 1048576 := by omega
  have HX0 := hidP k0.2.2
  have j0 := k0.1
  have i0 := k0.2.1
  clear hx0 k0 c0 m0
  have t0 : w1.cell? ⟨w.heap.size, 3, none⟩ = some (.slice d.a1 r.lies.length d.c1) := HA.out.k3
  go_wp2_with fail
  clear t0
  refine (szLieS_any _ _ _ _ _ m1 (by omega) (by omega)).mono ?_
  rintro e w2 ⟨rfl, hb1⟩
  replace HA := hidP (HA.out.below hb1)
  replace HB := hidP (HB.out.trans (hb1.mono HB.out.size))
  have hz1 : w.heap.size < w2.heap.size := Nat.lt_of_lt_of_le hz0 hb1.size
  clear hb1 hz0
  by_cases c1 : x0 < (r.lies.length : Int)
  · rw [if_pos c1]
    go_wp2_with fail
    go_ret
    exact ⟨-1, rfl, by omega, by omega, fun h => absurd h (by omega), HB.out⟩
  rw [if_neg c1]
  obtain ⟨x1, hx1⟩ : ∃ x, x0 - (r.lies.length : Int) = x := ⟨_, rfl⟩
  rw [hx1]
  have k1 : 0 ≤ x1 ∧ x1 ≤ left ∧ r.lies.length ≤ 1048576 := by omega
  have HX1 := hidP k1.2.2
  have j1 := k1.1
  have i1 := k1.2.1
  clear hx1 k1 c1 m1
  have t1 : w2.cell? ⟨w.heap.size, 4, none⟩ = some (.slice d.a2 r.crosses.length d.c2) := HA.out.k4
  go_wp2_with fail
  clear t1
  refine (szIntS_any _ _ _ _ _ m2 (by omega) (by omega)).mono ?_
  rintro e w3 ⟨rfl, hb2⟩
  replace HA := hidP (HA.out.below hb2)
  replace HB := hidP (HB.out.trans (hb2.mono HB.out.size))
  have hz2 : w.heap.size < w3.heap.size := Nat.lt_of_lt_of_le hz1 hb2.size
  clear hb2 hz1
  by_cases c2 : x1 < (r.crosses.length : Int)
  · rw [if_pos c2]
    go_wp2_with fail
    go_ret
    exact ⟨-1, rfl, by omega, by omega, fun h => absurd h (by omega), HB.out⟩
  rw [if_neg c2]
  obtain ⟨x2, hx2⟩ : ∃ x, x1 - (r.crosses.length : Int) = x := ⟨_, rfl⟩
  rw [hx2]
  have k2 : 0 ≤ x2 ∧ x2 ≤ left ∧ r.crosses.length ≤ 1048576 := by omega
  have HX2 := hidP k2.2.2
  have j2 := k2.1
  have i2 := k2.2.1
  clear hx2 k2 c2 m2
  have t2 : w3.cell? ⟨w.heap.size, 5, none⟩ = some (.slice d.a3 r.parts.length d.c3) := HA.out.k5
  go_wp2_with fail
  clear t2
  refine (szPartS_any _ _ _ _ _ m3 (by omega) (by omega)).mono ?_
  rintro e w4 ⟨rfl, hb3⟩
  replace HA := hidP (HA.out.below hb3)
  replace HB := hidP (HB.out.trans (hb3.mono HB.out.size))
  have hz3 : w.heap.size < w4.heap.size := Nat.lt_of_lt_of_le hz2 hb3.size
  clear hb3 hz2
  by_cases c3 : x2 < (r.parts.length : Int)
  · rw [if_pos c3]
    go_wp2_with fail
    go_ret
    exact ⟨-1, rfl, by omega, by omega, fun h => absurd h (by omega), HB.out⟩
  rw [if_neg c3]
  obtain ⟨x3, hx3⟩ : ∃ x, x2 - (r.parts.length : Int) = x := ⟨_, rfl⟩
  rw [hx3]
  have k3 : 0 ≤ x3 ∧ x3 ≤ left ∧ r.parts.length ≤ 1048576 := by omega
  have HX3 := hidP k3.2.2
  have j3 := k3.1
  have i3 := k3.2.1
  clear hx3 k3 c3 m3
  have t3 : w4.cell? ⟨w.heap.size, 6, none⟩ = some (.slice d.a4 r.over.length d.c4) := HA.out.k6
  go_wp2_with fail
  clear t3
  refine (szPartS_any _ _ _ _ _ m4 (by omega) (by omega)).mono ?_
  rintro e w5 ⟨rfl, hb4⟩
  replace HA := hidP (HA.out.below hb4)
  replace HB := hidP (HB.out.trans (hb4.mono HB.out.size))
  have hz4 : w.heap.size < w5.heap.size := Nat.lt_of_lt_of_le hz3 hb4.size
  clear hb4 hz3
  by_cases c4 : x3 < (r.over.length : Int)
  · rw [if_pos c4]
    go_wp2_with fail
    go_ret
    exact ⟨-1, rfl, by omega, by omega, fun h => absurd h (by omega), HB.out⟩
  rw [if_neg c4]
  obtain ⟨x4, hx4⟩ : ∃ x, x3 - (r.over.length : Int) = x := ⟨_, rfl⟩
  rw [hx4]
  have k4 : 0 ≤ x4 ∧ x4 ≤ left ∧ r.over.length ≤ 1048576 := by omega
  have HX4 := hidP k4.2.2
  have j4 := k4.1
  have i4 := k4.2.1
  clear hx4 k4 c4 m4
  have t4 : w5.cell? ⟨w.heap.size, 7, none⟩ = some (.slice d.a5 r.flanks.length d.c5) := HA.out.k7
  go_wp2_with fail
  clear t4
  refine (szFlankS_any _ _ _ _ _ m5 (by omega) (by omega)).mono ?_
  rintro e w6 ⟨rfl, hb5⟩
  replace HA := hidP (HA.out.below hb5)
  replace HB := hidP (HB.out.trans (hb5.mono HB.out.size))
  have hz5 : w.heap.size < w6.heap.size := Nat.lt_of_lt_of_le hz4 hb5.size
  clear hb5 hz4
  by_cases c5 : x4 < (r.flanks.length : Int)
  · rw [if_pos c5]
    go_wp2_with fail
    go_ret
    exact ⟨-1, rfl, by omega, by omega, fun h => absurd h (by omega), HB.out⟩
  rw [if_neg c5]
  obtain ⟨x5, hx5⟩ : ∃ x, x4 - (r.flanks.length : Int) = x := ⟨_, rfl⟩
  rw [hx5]
  have k5 : 0 ≤ x5 ∧ x5 ≤ left ∧ r.flanks.length ≤ 1048576 := by omega
  have HX5 := hidP k5.2.2
  have j5 := k5.1
  have i5 := k5.2.1
  clear hx5 k5 c5 m5
  go_wp2_with fail
  go_ret
  exact ⟨_, rfl, i5, by omega, fun _ => ⟨HX0.out, HX1.out, HX2.out, HX3.out, HX4.out, HX5.out⟩, HB.out⟩

/-- What is written of a route that lies in rows of its own. -/
def BlkR (g : Nat → Nat) (b : Nat) : Prop := b = g 0 ∨ b = g 1 ∨ b = g 2 ∨ b = g 3 ∨ b = g 4 ∨ b = g 5

end Go.Proofs.Ytmkdgnmmebldgab
