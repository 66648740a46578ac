import Derived.Test.YtmkdgnmmebldgaaTRoute
namespace Go.Proofs.Ytmkdgnmmebldgaa
open Go.RowKit Go.Deep

set_option maxRecDepth 4000 in
set_option maxHeartbeats 2000000 in
theorem szRoute_any (d : RAddr) (r : MRoute) (left : Int) (w : World) (hl : Hid (RListsAt w d r)) (h0 : 0 ≤ left) (h1 : left ≤ 1048576) :
    Calls Try.prog 31 #[routeV d r, .int .i64 left] w fun e w' => ∃ x : Int, e = .returned (.int .i64 x) ∧ x ≤ left ∧ -1 ≤ x ∧ (0 ≤ x → LensR r) ∧ Below w.heap.size w w' := by
  unfold routeV
  have m0 := hl.out.steps.1
  have m1 := hl.out.lies.1
  have m2 := hl.out.crosses.1
  have m3 := hl.out.parts.1
  have m4 := hl.out.over.1
  have m5 := hl.out.flanks.1
  go_enter Try.func31, Try.ntmps31
  go_wp2_with fail
  generalize hW : w.alloc _ = W
  have HA : Hid (RouteCell W w.heap.size 0 d r) := by rw [← hW]; exact routeCell_box _ _ _ _
  have hz : w.heap.size < W.heap.size := by rw [← hW]; simp
  have HB : Hid (Below w.heap.size w W) := by rw [← hW]; exact (by repeat (first | exact Below.refl _ _ | assumption | refine Below.drew ?_ | refine bdrewN ?_ _ | refine Below.setCell ?_ (by first | omega | (simp; done) | (simp; omega)) _ | refine Below.alloc ?_ (by first | omega | (simp; done) | (simp; omega)) _))
  clear hW
  refine (szStepS_any _ _ _ _ _ m0 (by omega) (by omega)).mono ?_
  rintro e w1 ⟨rfl, hb0⟩
  replace HA := hidP (HA.out.below hb0)
  replace HB := hidP (HB.out.trans (hb0.mono HB.out.size))
  have hz0 : w.heap.size < w1.heap.size := Nat.lt_of_lt_of_le hz hb0.size
  clear hb0 hz
  by_cases c0 : left < (r.steps.length : Int)
  · rw [if_pos c0]
    go_wp2_with fail
    go_ret
    exact ⟨-1, rfl, by omega, by omega, fun h => absurd h (by omega), HB.out⟩
  rw [if_neg c0]
  obtain ⟨x0, hx0⟩ : ∃ x, left - (r.steps.length : Int) = x := ⟨_, rfl⟩
  rw [hx0]
  have k0 : 0 ≤ x0 ∧ x0 ≤ left ∧ r.steps.length ≤ 1048576 := by omega
  have HX0 := hidP k0.2.2
  have j0 := k0.1
  have i0 := k0.2.1
  clear hx0 k0 c0 m0
  have t0 : w1.cell? ⟨w.heap.size, 3, none⟩ = some (.slice d.a1 r.lies.length d.c1) := HA.out.k3
  go_wp2_with fail
  clear t0
  refine (szLieS_any _ _ _ _ _ m1 (by omega) (by omega)).mono ?_
  rintro e w2 ⟨rfl, hb1⟩
  replace HA := hidP (HA.out.below hb1)
  replace HB := hidP (HB.out.trans (hb1.mono HB.out.size))
  have hz1 : w.heap.size < w2.heap.size := Nat.lt_of_lt_of_le hz0 hb1.size
  clear hb1 hz0
  by_cases c1 : x0 < (r.lies.length : Int)
  · rw [if_pos c1]
    go_wp2_with fail
    go_ret
    exact ⟨-1, rfl, by omega, by omega, fun h => absurd h (by omega), HB.out⟩
  rw [if_neg c1]
  obtain ⟨x1, hx1⟩ : ∃ x, x0 - (r.lies.length : Int) = x := ⟨_, rfl⟩
  rw [hx1]
  have k1 : 0 ≤ x1 ∧ x1 ≤ left ∧ r.lies.length ≤ 1048576 := by omega
  have HX1 := hidP k1.2.2
  have j1 := k1.1
  have i1 := k1.2.1
  clear hx1 k1 c1 m1
  have t1 : w2.cell? ⟨w.heap.size, 4, none⟩ = some (.slice d.a2 r.crosses.length d.c2) := HA.out.k4
  go_wp2_with fail
  clear t1
  refine (szIntS_any _ _ _ _ _ m2 (by omega) (by omega)).mono ?_
  rintro e w3 ⟨rfl, hb2⟩
  replace HA := hidP (HA.out.below hb2)
  replace HB := hidP (HB.out.trans (hb2.mono HB.out.size))
  have hz2 : w.heap.size < w3.heap.size := Nat.lt_of_lt_of_le hz1 hb2.size
  clear hb2 hz1
  by_cases c2 : x1 < (r.crosses.length : Int)
  · rw [if_pos c2]
    go_wp2_with fail
    go_ret
    exact ⟨-1, rfl, by omega, by omega, fun h => absurd h (by omega), HB.out⟩
  rw [if_neg c2]
  obtain ⟨x2, hx2⟩ : ∃ x, x1 - (r.crosses.length : Int) = x := ⟨_, rfl⟩
  rw [hx2]
  have k2 : 0 ≤ x2 ∧ x2 ≤ left ∧ r.crosses.length ≤ 1048576 := by omega
  have HX2 := hidP k2.2.2
  have j2 := k2.1
  have i2 := k2.2.1
  clear hx2 k2 c2 m2
  have t2 : w3.cell? ⟨w.heap.size, 5, none⟩ = some (.slice d.a3 r.parts.length d.c3) := HA.out.k5
  go_wp2_with fail
  clear t2
  refine (szPartS_any _ _ _ _ _ m3 (by omega) (by omega)).mono ?_
  rintro e w4 ⟨rfl, hb3⟩
  replace HA := hidP (HA.out.below hb3)
  replace HB := hidP (HB.out.trans (hb3.mono HB.out.size))
  have hz3 : w.heap.size < w4.heap.size := Nat.lt_of_lt_of_le hz2 hb3.size
  clear hb3 hz2
  by_cases c3 : x2 < (r.parts.length : Int)
  · rw [if_pos c3]
    go_wp2_with fail
    go_ret
    exact ⟨-1, rfl, by omega, by omega, fun h => absurd h (by omega), HB.out⟩
  rw [if_neg c3]
  obtain ⟨x3, hx3⟩ : ∃ x, x2 - (r.parts.length : Int) = x := ⟨_, rfl⟩
  rw [hx3]
  have k3 : 0 ≤ x3 ∧ x3 ≤ left ∧ r.parts.length ≤ 1048576 := by omega
  have HX3 := hidP k3.2.2
  have j3 := k3.1
  have i3 := k3.2.1
  clear hx3 k3 c3 m3
  have t3 : w4.cell? ⟨w.heap.size, 6, none⟩ = some (.slice d.a4 r.over.length d.c4) := HA.out.k6
  go_wp2_with fail
  clear t3
  refine (szPartS_any _ _ _ _ _ m4 (by omega) (by omega)).mono ?_
  rintro e w5 ⟨rfl, hb4⟩
  replace HA := hidP (HA.out.below hb4)
  replace HB := hidP (HB.out.trans (hb4.mono HB.out.size))
  have hz4 : w.heap.size < w5.heap.size := Nat.lt_of_lt_of_le hz3 hb4.size
  clear hb4 hz3
  by_cases c4 : x3 < (r.over.length : Int)
  · rw [if_pos c4]
    go_wp2_with fail
    go_ret
    exact ⟨-1, rfl, by omega, by omega, fun h => absurd h (by omega), HB.out⟩
  rw [if_neg c4]
  obtain ⟨x4, hx4⟩ : ∃ x, x3 - (r.over.length : Int) = x := ⟨_, rfl⟩
  rw [hx4]
  have k4 : 0 ≤ x4 ∧ x4 ≤ left ∧ r.over.length ≤ 1048576 := by omega
  have HX4 := hidP k4.2.2
  have j4 := k4.1
  have i4 := k4.2.1
  clear hx4 k4 c4 m4
  have t4 : w5.cell? ⟨w.heap.size, 7, none⟩ = some (.slice d.a5 r.flanks.length d.c5) := HA.out.k7
  go_wp2_with fail
  clear t4
  refine (szFlankS_any _ _ _ _ _ m5 (by omega) (by omega)).mono ?_
  rintro e w6 ⟨rfl, hb5⟩
  replace HA := hidP (HA.out.below hb5)
  replace HB := hidP (HB.out.trans (hb5.mono HB.out.size))
  have hz5 : w.heap.size < w6.heap.size := Nat.lt_of_lt_of_le hz4 hb5.size
  clear hb5 hz4
  by_cases c5 : x4 < (r.flanks.length : Int)
  · rw [if_pos c5]
    go_wp2_with fail
    go_ret
    exact ⟨-1, rfl, by omega, by omega, fun h => absurd h (by omega), HB.out⟩
  rw [if_neg c5]
  obtain ⟨x5, hx5⟩ : ∃ x, x4 - (r.flanks.length : Int) = x := ⟨_, rfl⟩
  rw [hx5]
  have k5 : 0 ≤ x5 ∧ x5 ≤ left ∧ r.flanks.length ≤ 1048576 := by omega
  have HX5 := hidP k5.2.2
  have j5 := k5.1
  have i5 := k5.2.1
  clear hx5 k5 c5 m5
  go_wp2_with fail
  go_ret
  exact ⟨_, rfl, i5, by omega, fun _ => ⟨HX0.out, HX1.out, HX2.out, HX3.out, HX4.out, HX5.out⟩, HB.out⟩

/-- What is written of a route that lies in rows of its own. -/
def BlkR (g : Nat → Nat) (b : Nat) : Prop := b = g 0 ∨ b = g 1 ∨ b = g 2 ∨ b = g 3 ∨ b = g 4 ∨ b = g 5

set_option maxRecDepth 4000 in
set_option maxHeartbeats 2000000 in
theorem markRoute_any (g : Nat → Nat) (r : MRoute) (k : Int) (lo' : Nat) (w : World) (hr : Hid (RRow w lo' g r)) (hn : Hid (LensR r)) (hk : 0 ≤ k) (hkb : k ≤ 1000000000) :
    Calls Try.prog 35 #[routeV (dOf g r) r, .int .i64 k] w fun e w' => (∃ x : Int, e = .returned (.int .i64 x) ∧ 0 ≤ x) ∧ Only (BlkR g) w w' := by
  have u1 := hr.out.l1
  have u2 := hr.out.l2
  have u3 := hr.out.l3
  have u4 := hr.out.l4
  have u5 := hr.out.l5
  have u6 := hr.out.lt
  have n0 := hn.out.steps
  have n1 := hn.out.lies
  have n2 := hn.out.crosses
  have n3 := hn.out.parts
  have n4 := hn.out.over
  have n5 := hn.out.flanks
  unfold routeV dOf
  go_enter Try.func35, Try.ntmps35
  go_wp2_with fail
  generalize hW : w.alloc _ = W
  have x0 : W.cell? ⟨w.heap.size, 2, none⟩ = some (.slice (some ⟨g 0, 0, none⟩) r.steps.length r.steps.length) := by rw [← hW]; simp [go_sem]
  have x1 : W.cell? ⟨w.heap.size, 3, none⟩ = some (.slice (some ⟨g 1, 0, none⟩) r.lies.length r.lies.length) := by rw [← hW]; simp [go_sem]
  have x2 : W.cell? ⟨w.heap.size, 4, none⟩ = some (.slice (some ⟨g 2, 0, none⟩) r.crosses.length r.crosses.length) := by rw [← hW]; simp [go_sem]
  have x3 : W.cell? ⟨w.heap.size, 5, none⟩ = some (.slice (some ⟨g 3, 0, none⟩) r.parts.length r.parts.length) := by rw [← hW]; simp [go_sem]
  have x4 : W.cell? ⟨w.heap.size, 6, none⟩ = some (.slice (some ⟨g 4, 0, none⟩) r.over.length r.over.length) := by rw [← hW]; simp [go_sem]
  have x5 : W.cell? ⟨w.heap.size, 7, none⟩ = some (.slice (some ⟨g 5, 0, none⟩) r.flanks.length r.flanks.length) := by rw [← hW]; simp [go_sem]
  have HO : Hid (Only (BlkR g) w W) := by rw [← hW]; exact (Only.refl _ _).alloc _
  have HR : Hid (RRow W lo' g r) := by rw [← hW]; exact hr.out.below (by repeat (first | exact Below.refl _ _ | assumption | refine Below.drew ?_ | refine bdrewN ?_ _ | refine Below.setCell ?_ (by first | omega | (simp; done) | (simp; omega)) _ | refine Below.alloc ?_ (by first | omega | (simp; done) | (simp; omega)) _))
  have hz : w.heap.size < W.heap.size := by rw [← hW]; simp
  clear hW hr
  refine (markStepS_any _ _ _ _ _ (HR.out.r0.own (flatE_len _)) (by omega) (by omega)).mono ?_
  rintro e w1 ⟨rfl, _, ho0, hO0⟩
  have hS0 : ∀ b, BlkOf (some ⟨g 0, 0, none⟩) r.steps.length b → b = g 0 := by rintro b ⟨_, _, _, h⟩; cases h; rfl
  replace HO := hidP (HO.out.trans (hO0.mono (fun b hb => Or.inl (hS0 b hb))))
  replace x1 := hO0.cell x1 (fun h => by have := hS0 _ h; simp only [] at this; omega)
  replace x2 := hO0.cell x2 (fun h => by have := hS0 _ h; simp only [] at this; omega)
  replace x3 := hO0.cell x3 (fun h => by have := hS0 _ h; simp only [] at this; omega)
  replace x4 := hO0.cell x4 (fun h => by have := hS0 _ h; simp only [] at this; omega)
  replace x5 := hO0.cell x5 (fun h => by have := hS0 _ h; simp only [] at this; omega)
  have R10 := (HR.out.r1).kept (hO0.block (g 1) (by have := HR.out.r1.lt; exact this) (fun h => by have := hS0 _ h; omega))
  have RR1 := hidP R10
  clear R10
  have R20 := (HR.out.r2).kept (hO0.block (g 2) (by have := HR.out.r2.lt; exact this) (fun h => by have := hS0 _ h; omega))
  have RR2 := hidP R20
  clear R20
  have R30 := (HR.out.r3).kept (hO0.block (g 3) (by have := HR.out.r3.lt; exact this) (fun h => by have := hS0 _ h; omega))
  have RR3 := hidP R30
  clear R30
  have R40 := (HR.out.r4).kept (hO0.block (g 4) (by have := HR.out.r4.lt; exact this) (fun h => by have := hS0 _ h; omega))
  have RR4 := hidP R40
  clear R40
  have R50 := (HR.out.r5).kept (hO0.block (g 5) (by have := HR.out.r5.lt; exact this) (fun h => by have := hS0 _ h; omega))
  have RR5 := hidP R50
  clear R50
  have hz0 : w.heap.size < w1.heap.size := Nat.lt_of_lt_of_le hz hO0.size
  clear hO0 ho0 hS0 hz HR x0
  obtain ⟨K0, hK0⟩ : ∃ x : Int, k + (r.steps.length : Int) * 2 = x := ⟨_, rfl⟩
  rw [hK0]
  have b0 : 0 ≤ K0 ∧ K0 ≤ 1000000000 + 5000000 := by omega
  obtain ⟨b0a, b0b⟩ := b0
  clear hK0
  go_wp2_with fail
  refine (markLieS_any _ _ _ _ _ (RR1.out.own (flatE_len _)) (by omega) (by omega)).mono ?_
  rintro e w2 ⟨rfl, _, ho1, hO1⟩
  have hS1 : ∀ b, BlkOf (some ⟨g 1, 0, none⟩) r.lies.length b → b = g 1 := by rintro b ⟨_, _, _, h⟩; cases h; rfl
  replace HO := hidP (HO.out.trans (hO1.mono (fun b hb => Or.inr (Or.inl (hS1 b hb)))))
  replace x2 := hO1.cell x2 (fun h => by have := hS1 _ h; simp only [] at this; omega)
  replace x3 := hO1.cell x3 (fun h => by have := hS1 _ h; simp only [] at this; omega)
  replace x4 := hO1.cell x4 (fun h => by have := hS1 _ h; simp only [] at this; omega)
  replace x5 := hO1.cell x5 (fun h => by have := hS1 _ h; simp only [] at this; omega)
  have R21 := (RR2.out).kept (hO1.block (g 2) RR2.out.lt (fun h => by have := hS1 _ h; omega))
  replace RR2 := hidP R21
  clear R21
  have R31 := (RR3.out).kept (hO1.block (g 3) RR3.out.lt (fun h => by have := hS1 _ h; omega))
  replace RR3 := hidP R31
  clear R31
  have R41 := (RR4.out).kept (hO1.block (g 4) RR4.out.lt (fun h => by have := hS1 _ h; omega))
  replace RR4 := hidP R41
  clear R41
  have R51 := (RR5.out).kept (hO1.block (g 5) RR5.out.lt (fun h => by have := hS1 _ h; omega))
  replace RR5 := hidP R51
  clear R51
  have hz1 : w.heap.size < w2.heap.size := Nat.lt_of_lt_of_le hz0 hO1.size
  clear hO1 ho1 hS1 hz0 x1
  obtain ⟨K1, hK1⟩ : ∃ x : Int, K0 + (r.lies.length : Int) * 2 = x := ⟨_, rfl⟩
  rw [hK1]
  have b1 : 0 ≤ K1 ∧ K1 ≤ 1000000000 + 10000000 := by omega
  obtain ⟨b1a, b1b⟩ := b1
  clear hK1
  go_wp2_with fail
  refine (markIntS_any _ _ _ _ _ (RR2.out.own (flatN_len _)) (by omega) (by omega)).mono ?_
  rintro e w3 ⟨rfl, _, ho2, hO2⟩
  have hS2 : ∀ b, BlkOf (some ⟨g 2, 0, none⟩) r.crosses.length b → b = g 2 := by rintro b ⟨_, _, _, h⟩; cases h; rfl
  replace HO := hidP (HO.out.trans (hO2.mono (fun b hb => Or.inr (Or.inr (Or.inl (hS2 b hb))))))
  replace x3 := hO2.cell x3 (fun h => by have := hS2 _ h; simp only [] at this; omega)
  replace x4 := hO2.cell x4 (fun h => by have := hS2 _ h; simp only [] at this; omega)
  replace x5 := hO2.cell x5 (fun h => by have := hS2 _ h; simp only [] at this; omega)
  have R32 := (RR3.out).kept (hO2.block (g 3) RR3.out.lt (fun h => by have := hS2 _ h; omega))
  replace RR3 := hidP R32
  clear R32
  have R42 := (RR4.out).kept (hO2.block (g 4) RR4.out.lt (fun h => by have := hS2 _ h; omega))
  replace RR4 := hidP R42
  clear R42
  have R52 := (RR5.out).kept (hO2.block (g 5) RR5.out.lt (fun h => by have := hS2 _ h; omega))
  replace RR5 := hidP R52
  clear R52
  have hz2 : w.heap.size < w3.heap.size := Nat.lt_of_lt_of_le hz1 hO2.size
  clear hO2 ho2 hS2 hz1 x2
  obtain ⟨K2, hK2⟩ : ∃ x : Int, K1 + (r.crosses.length : Int) = x := ⟨_, rfl⟩
  rw [hK2]
  have b2 : 0 ≤ K2 ∧ K2 ≤ 1000000000 + 15000000 := by omega
  obtain ⟨b2a, b2b⟩ := b2
  clear hK2
  go_wp2_with fail
  refine (markPartS_any _ _ _ _ _ (RR3.out.own (flatP_len _)) (by omega) (by omega)).mono ?_
  rintro e w4 ⟨rfl, _, ho3, hO3⟩
  have hS3 : ∀ b, BlkOf (some ⟨g 3, 0, none⟩) r.parts.length b → b = g 3 := by rintro b ⟨_, _, _, h⟩; cases h; rfl
  replace HO := hidP (HO.out.trans (hO3.mono (fun b hb => Or.inr (Or.inr (Or.inr (Or.inl (hS3 b hb)))))))
  replace x4 := hO3.cell x4 (fun h => by have := hS3 _ h; simp only [] at this; omega)
  replace x5 := hO3.cell x5 (fun h => by have := hS3 _ h; simp only [] at this; omega)
  have R43 := (RR4.out).kept (hO3.block (g 4) RR4.out.lt (fun h => by have := hS3 _ h; omega))
  replace RR4 := hidP R43
  clear R43
  have R53 := (RR5.out).kept (hO3.block (g 5) RR5.out.lt (fun h => by have := hS3 _ h; omega))
  replace RR5 := hidP R53
  clear R53
  have hz3 : w.heap.size < w4.heap.size := Nat.lt_of_lt_of_le hz2 hO3.size
  clear hO3 ho3 hS3 hz2 x3
  obtain ⟨K3, hK3⟩ : ∃ x : Int, K2 + (r.parts.length : Int) * 3 = x := ⟨_, rfl⟩
  rw [hK3]
  have b3 : 0 ≤ K3 ∧ K3 ≤ 1000000000 + 20000000 := by omega
  obtain ⟨b3a, b3b⟩ := b3
  clear hK3
  go_wp2_with fail
  refine (markPartS_any _ _ _ _ _ (RR4.out.own (flatP_len _)) (by omega) (by omega)).mono ?_
  rintro e w5 ⟨rfl, _, ho4, hO4⟩
  have hS4 : ∀ b, BlkOf (some ⟨g 4, 0, none⟩) r.over.length b → b = g 4 := by rintro b ⟨_, _, _, h⟩; cases h; rfl
  replace HO := hidP (HO.out.trans (hO4.mono (fun b hb => Or.inr (Or.inr (Or.inr (Or.inr (Or.inl (hS4 b hb))))))))
  replace x5 := hO4.cell x5 (fun h => by have := hS4 _ h; simp only [] at this; omega)
  have R54 := (RR5.out).kept (hO4.block (g 5) RR5.out.lt (fun h => by have := hS4 _ h; omega))
  replace RR5 := hidP R54
  clear R54
  have hz4 : w.heap.size < w5.heap.size := Nat.lt_of_lt_of_le hz3 hO4.size
  clear hO4 ho4 hS4 hz3 x4
  obtain ⟨K4, hK4⟩ : ∃ x : Int, K3 + (r.over.length : Int) * 3 = x := ⟨_, rfl⟩
  rw [hK4]
  have b4 : 0 ≤ K4 ∧ K4 ≤ 1000000000 + 25000000 := by omega
  obtain ⟨b4a, b4b⟩ := b4
  clear hK4
  go_wp2_with fail
  refine (markFlankS_any _ _ _ _ _ (RR5.out.own (flatF_len _)) (by omega) (by omega)).mono ?_
  rintro e w6 ⟨rfl, _, ho5, hO5⟩
  have hS5 : ∀ b, BlkOf (some ⟨g 5, 0, none⟩) r.flanks.length b → b = g 5 := by rintro b ⟨_, _, _, h⟩; cases h; rfl
  replace HO := hidP (HO.out.trans (hO5.mono (fun b hb => Or.inr (Or.inr (Or.inr (Or.inr (Or.inr ((hS5 b hb)))))))))
  have hz5 : w.heap.size < w6.heap.size := Nat.lt_of_lt_of_le hz4 hO5.size
  clear hO5 ho5 hS5 hz4 x5
  obtain ⟨K5, hK5⟩ : ∃ x : Int, K4 + (r.flanks.length : Int) * 4 = x := ⟨_, rfl⟩
  rw [hK5]
  have b5 : 0 ≤ K5 ∧ K5 ≤ 1000000000 + 30000000 := by omega
  obtain ⟨b5a, b5b⟩ := b5
  clear hK5
  go_wp2_with fail
  go_ret
  exact ⟨⟨_, rfl, b5a⟩, HO.out⟩

end Go.Proofs.Ytmkdgnmmebldgaa
