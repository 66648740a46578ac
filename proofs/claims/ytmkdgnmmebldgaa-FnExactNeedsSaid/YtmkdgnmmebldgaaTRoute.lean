import Derived.Test.YtmkdgnmmebldgaaTTo
import Derived.Test.YtmkdgnmmebldgaaTExcl
namespace Go.Proofs.Ytmkdgnmmebldgaa
open Go.RowKit Go.Deep

structure LensR (r : MRoute) : Prop where
  steps : r.steps.length ≤ 1048576
  lies : r.lies.length ≤ 1048576
  crosses : r.crosses.length ≤ 1048576
  parts : r.parts.length ≤ 1048576
  over : r.over.length ≤ 1048576
  flanks : r.flanks.length ≤ 1048576

/-- The lists of a route, each in a row of its own, one behind the other. -/
structure RRow (w : World) (lo : Nat) (g : Nat → Nat) (r : MRoute) : Prop where
  r0 : LRow w 51 (g 0) (flatE r.steps)
  r1 : LRow w 48 (g 1) (flatE r.lies)
  r2 : LRow w 3 (g 2) (flatN r.crosses)
  r3 : LRow w 44 (g 3) (flatP r.parts)
  r4 : LRow w 44 (g 4) (flatP r.over)
  r5 : LRow w 57 (g 5) (flatF r.flanks)
  l0 : lo ≤ g 0
  l1 : g 0 < g 1
  l2 : g 1 < g 2
  l3 : g 2 < g 3
  l4 : g 3 < g 4
  l5 : g 4 < g 5

def dOf (g : Nat → Nat) (r : MRoute) : RAddr := ⟨some ⟨g 0, 0, none⟩, r.steps.length, some ⟨g 1, 0, none⟩, r.lies.length, some ⟨g 2, 0, none⟩, r.crosses.length, some ⟨g 3, 0, none⟩, r.parts.length, some ⟨g 4, 0, none⟩, r.over.length, some ⟨g 5, 0, none⟩, r.flanks.length⟩

theorem RRow.kept {w w' : World} {lo : Nat} {g : Nat → Nat} {r : MRoute} (h : RRow w lo g r) (e : ∀ b, g 0 ≤ b → b ≤ g 5 → w'.heap[b]? = w.heap[b]?) : RRow w' lo g r := by
  have h1 := h.l1
  have h2 := h.l2
  have h3 := h.l3
  have h4 := h.l4
  have h5 := h.l5
  exact ⟨h.r0.kept (e _ (by omega) (by omega)), h.r1.kept (e _ (by omega) (by omega)), h.r2.kept (e _ (by omega) (by omega)), h.r3.kept (e _ (by omega) (by omega)), h.r4.kept (e _ (by omega) (by omega)), h.r5.kept (e _ (by omega) (by omega)), h.l0, h1, h2, h3, h4, h5⟩
theorem RRow.lt {w : World} {lo : Nat} {g : Nat → Nat} {r : MRoute} (h : RRow w lo g r) : g 5 < w.heap.size := h.r5.lt
theorem RRow.below {w w' : World} {lo : Nat} {g : Nat → Nat} {r : MRoute} (h : RRow w lo g r) (hb : Below w.heap.size w w') : RRow w' lo g r := h.kept (fun b _ hb' => hb.block b (Nat.lt_of_le_of_lt hb' h.lt))
theorem RRow.lists {w : World} {lo : Nat} {g : Nat → Nat} {r : MRoute} (h : RRow w lo g r) (hl : LensR r) : RListsAt w (dOf g r) r := by
  have hm : ∀ n : Nat, n ≤ 1048576 → n ≤ maxLen := by intro n hn; unfold maxLen; omega
  exact ⟨⟨hm _ hl.steps, Or.inr ⟨g 0, 0, rfl, endCells_of h.r0.cell⟩⟩, ⟨hm _ hl.lies, Or.inr ⟨g 1, 0, rfl, endCells_of h.r1.cell⟩⟩, ⟨hm _ hl.crosses, Or.inr ⟨g 2, 0, rfl, numCells_of h.r2.cell⟩⟩, ⟨hm _ hl.parts, Or.inr ⟨g 3, 0, rfl, partCells_of h.r3.cell⟩⟩, ⟨hm _ hl.over, Or.inr ⟨g 4, 0, rfl, partCells_of h.r4.cell⟩⟩, ⟨hm _ hl.flanks, Or.inr ⟨g 5, 0, rfl, flankCells_of h.r5.cell⟩⟩, (fun e => by cases e)⟩

theorem row_of_alloc (w : World) (c : Array Value) (T : Nat) : (w.alloc (.cells c T)).rowIs w.heap.size T c.size (fun j => c.getD j (.bool false)) :=
  World.rowIs_alloc w c T _ (by intro k hk; simp [Array.getD, hk])

set_option maxRecDepth 4000 in
set_option maxHeartbeats 2000000 in
theorem toRoute_row (d : RAddr) (r : MRoute) (w : World) (hl : Hid (RListsAt w d r)) (hn : Hid (LensR r)) :
    Calls Try.prog 32 #[routeV d r] w fun e w' => ∃ g, e = .returned (routeV (dOf g r) r) ∧ Hid (RRow w' w.heap.size g r) ∧ Below w.heap.size w w' := by
  unfold routeV
  go_enter Try.func32, Try.ntmps32
  go_wp2_with fail
  generalize hW : ((w.alloc _).alloc _).alloc _ = W
  have HA : Hid (RouteCell W w.heap.size 0 d r) := by rw [← hW]; exact ((routeCell_box w d r _).below ((Below.refl _ _).alloc (Nat.le_refl _) _)).below ((Below.refl _ _).alloc (Nat.le_refl _) _)
  have HY : Hid (∃ f, W.rowIs (w.heap.size + 1 + 1) 42 8 f ∧ f 0 = .int .i64 r.start ∧ f 1 = .int .i64 r.stop) := by
    rw [← hW]
    have h := row_of_alloc ((w.alloc (.cells #[.int .i64 r.start, .int .i64 r.stop, .slice d.a0 r.steps.length d.c0, .slice d.a1 r.lies.length d.c1, .slice d.a2 r.crosses.length d.c2, .slice d.a3 r.parts.length d.c3, .slice d.a4 r.over.length d.c4, .slice d.a5 r.flanks.length d.c5] 83)).alloc (.cells #[.int .i64 0, .int .i64 0, .slice none 0 0, .slice none 0 0, .slice none 0 0, .slice none 0 0, .slice none 0 0, .slice none 0 0] 42)) #[.int .i64 r.start, .int .i64 r.stop, .slice none 0 0, .slice none 0 0, .slice none 0 0, .slice none 0 0, .slice none 0 0, .slice none 0 0] 42
    simp only [World.size_alloc] at h
    exact ⟨_, h, rfl, rfl⟩
  have HZ : Hid (∃ f, W.rowIs (w.heap.size + 1) 42 8 f) := by
    rw [← hW]
    have h := (row_of_alloc (w.alloc (.cells #[.int .i64 r.start, .int .i64 r.stop, .slice d.a0 r.steps.length d.c0, .slice d.a1 r.lies.length d.c1, .slice d.a2 r.crosses.length d.c2, .slice d.a3 r.parts.length d.c3, .slice d.a4 r.over.length d.c4, .slice d.a5 r.flanks.length d.c5] 83)) #[.int .i64 0, .int .i64 0, .slice none 0 0, .slice none 0 0, .slice none 0 0, .slice none 0 0, .slice none 0 0, .slice none 0 0] 42).alloc (.cells #[.int .i64 r.start, .int .i64 r.stop, .slice none 0 0, .slice none 0 0, .slice none 0 0, .slice none 0 0, .slice none 0 0, .slice none 0 0] 42)
    simp only [World.size_alloc] at h
    exact ⟨_, h⟩
  have hz : w.heap.size + 3 ≤ W.heap.size := by rw [← hW]; simp
  have hbW : Below w.heap.size w W := by rw [← hW]; exact (by repeat (first | exact Below.refl _ _ | assumption | refine Below.drew ?_ | refine bdrewN ?_ _ | refine Below.setCell ?_ (by first | omega | (simp; done) | (simp; omega)) _ | refine Below.alloc ?_ (by first | omega | (simp; done) | (simp; omega)) _))
  have HB : Hid (Below w.heap.size w W) := hbW
  clear hW hbW
  obtain ⟨fy, hy0, hy1, hy2⟩ := HY.out
  have HY0 := hidP hy0
  have HF := hidP (And.intro hy1 hy2)
  clear HY hy0 hy1 hy2
  refine (toStepS_row _ _ _ _ (hl.out.below HB.out).steps hn.out.steps).mono ?_
  rintro e w1 ⟨g0, rfl, hq0, hb0, hg0⟩
  have hs0 := hb0.size
  have hl0 := hq0.out.lt
  replace HA := hidP (HA.out.below hb0)
  replace HY0 := hidP (HY0.out.of_block (hb0.block _ HY0.out.lt))
  replace HZ : Hid (∃ f, w1.rowIs (w.heap.size + 1) 42 8 f) := by obtain ⟨f, h⟩ := HZ.out; exact ⟨f, h.of_block (hb0.block _ h.lt)⟩
  replace HB := hidP (HB.out.trans (hb0.mono HB.out.size))
  have y := HY0.out.cell (i := 2) (by omega)
  have fz := HY0.out.frozen 2
  have z2 : w.heap.size + 1 + 1 < w1.heap.size := by omega
  have z0 : w.heap.size < w1.heap.size := by omega
  have x : w1.cell? ⟨w.heap.size, 3, none⟩ = some (.slice d.a1 r.lies.length d.c1) := HA.out.k3
  clear hb0
  go_wp2_with fail
  clear x y fz
  generalize hW0 : w1.setCell _ _ = W0
  have hv0 : W0.heap.size = w1.heap.size := by rw [← hW0]; simp
  replace HA : Hid (RouteCell W0 w.heap.size 0 d r) := by rw [← hW0]; exact HA.out.kept (Below.heap_setCell _ _ _ _ (by simp only [ne_eq]; omega))
  replace HY0 := HY0.out.set 2 (.slice (some ⟨g0, 0, none⟩) r.steps.length r.steps.length)
  rw [hW0] at HY0
  replace HY0 := hidP HY0
  replace HZ : Hid (∃ f, W0.rowIs (w.heap.size + 1) 42 8 f) := by obtain ⟨f, h⟩ := HZ.out; rw [← hW0]; exact ⟨f, h.setOther (by simp only [ne_eq]; omega) _⟩
  replace HB : Hid (Below w.heap.size w W0) := by rw [← hW0]; exact HB.out.setCell (by simp; omega) _
  replace hq0 : Hid (LRow W0 51 g0 (flatE r.steps)) := by rw [← hW0]; exact hq0.out.set (by omega) _ _
  clear hW0 z2 z0
  refine (toLieS_row _ _ _ _ (hl.out.below HB.out).lies hn.out.lies).mono ?_
  rintro e w2 ⟨g1, rfl, hq1, hb1, hg1⟩
  have hs1 := hb1.size
  have hl1 := hq1.out.lt
  replace HA := hidP (HA.out.below hb1)
  replace HY0 := hidP (HY0.out.of_block (hb1.block _ HY0.out.lt))
  replace HZ : Hid (∃ f, w2.rowIs (w.heap.size + 1) 42 8 f) := by obtain ⟨f, h⟩ := HZ.out; exact ⟨f, h.of_block (hb1.block _ h.lt)⟩
  replace HB := hidP (HB.out.trans (hb1.mono HB.out.size))
  replace hq0 := hidP (hq0.out.below hb1)
  have y := HY0.out.cell (i := 3) (by omega)
  have fz := HY0.out.frozen 3
  have z2 : w.heap.size + 1 + 1 < w2.heap.size := by omega
  have z0 : w.heap.size < w2.heap.size := by omega
  have x : w2.cell? ⟨w.heap.size, 4, none⟩ = some (.slice d.a2 r.crosses.length d.c2) := HA.out.k4
  clear hb1
  go_wp2_with fail
  clear x y fz
  generalize hW1 : w2.setCell _ _ = W1
  have hv1 : W1.heap.size = w2.heap.size := by rw [← hW1]; simp
  replace HA : Hid (RouteCell W1 w.heap.size 0 d r) := by rw [← hW1]; exact HA.out.kept (Below.heap_setCell _ _ _ _ (by simp only [ne_eq]; omega))
  replace HY0 := HY0.out.set 3 (.slice (some ⟨g1, 0, none⟩) r.lies.length r.lies.length)
  rw [hW1] at HY0
  replace HY0 := hidP HY0
  replace HZ : Hid (∃ f, W1.rowIs (w.heap.size + 1) 42 8 f) := by obtain ⟨f, h⟩ := HZ.out; rw [← hW1]; exact ⟨f, h.setOther (by simp only [ne_eq]; omega) _⟩
  replace HB : Hid (Below w.heap.size w W1) := by rw [← hW1]; exact HB.out.setCell (by simp; omega) _
  replace hq0 : Hid (LRow W1 51 g0 (flatE r.steps)) := by rw [← hW1]; exact hq0.out.set (by omega) _ _
  replace hq1 : Hid (LRow W1 48 g1 (flatE r.lies)) := by rw [← hW1]; exact hq1.out.set (by omega) _ _
  clear hW1 z2 z0
  refine (toIntS_row _ _ _ _ (hl.out.below HB.out).crosses hn.out.crosses).mono ?_
  rintro e w3 ⟨g2, rfl, hq2, hb2, hg2⟩
  have hs2 := hb2.size
  have hl2 := hq2.out.lt
  replace HA := hidP (HA.out.below hb2)
  replace HY0 := hidP (HY0.out.of_block (hb2.block _ HY0.out.lt))
  replace HZ : Hid (∃ f, w3.rowIs (w.heap.size + 1) 42 8 f) := by obtain ⟨f, h⟩ := HZ.out; exact ⟨f, h.of_block (hb2.block _ h.lt)⟩
  replace HB := hidP (HB.out.trans (hb2.mono HB.out.size))
  replace hq0 := hidP (hq0.out.below hb2)
  replace hq1 := hidP (hq1.out.below hb2)
  have y := HY0.out.cell (i := 4) (by omega)
  have fz := HY0.out.frozen 4
  have z2 : w.heap.size + 1 + 1 < w3.heap.size := by omega
  have z0 : w.heap.size < w3.heap.size := by omega
  have x : w3.cell? ⟨w.heap.size, 5, none⟩ = some (.slice d.a3 r.parts.length d.c3) := HA.out.k5
  clear hb2
  go_wp2_with fail
  clear x y fz
  generalize hW2 : w3.setCell _ _ = W2
  have hv2 : W2.heap.size = w3.heap.size := by rw [← hW2]; simp
  replace HA : Hid (RouteCell W2 w.heap.size 0 d r) := by rw [← hW2]; exact HA.out.kept (Below.heap_setCell _ _ _ _ (by simp only [ne_eq]; omega))
  replace HY0 := HY0.out.set 4 (.slice (some ⟨g2, 0, none⟩) r.crosses.length r.crosses.length)
  rw [hW2] at HY0
  replace HY0 := hidP HY0
  replace HZ : Hid (∃ f, W2.rowIs (w.heap.size + 1) 42 8 f) := by obtain ⟨f, h⟩ := HZ.out; rw [← hW2]; exact ⟨f, h.setOther (by simp only [ne_eq]; omega) _⟩
  replace HB : Hid (Below w.heap.size w W2) := by rw [← hW2]; exact HB.out.setCell (by simp; omega) _
  replace hq0 : Hid (LRow W2 51 g0 (flatE r.steps)) := by rw [← hW2]; exact hq0.out.set (by omega) _ _
  replace hq1 : Hid (LRow W2 48 g1 (flatE r.lies)) := by rw [← hW2]; exact hq1.out.set (by omega) _ _
  replace hq2 : Hid (LRow W2 3 g2 (flatN r.crosses)) := by rw [← hW2]; exact hq2.out.set (by omega) _ _
  clear hW2 z2 z0
  refine (toPartS_row _ _ _ _ (hl.out.below HB.out).parts hn.out.parts).mono ?_
  rintro e w4 ⟨g3, rfl, hq3, hb3, hg3⟩
  have hs3 := hb3.size
  have hl3 := hq3.out.lt
  replace HA := hidP (HA.out.below hb3)
  replace HY0 := hidP (HY0.out.of_block (hb3.block _ HY0.out.lt))
  replace HZ : Hid (∃ f, w4.rowIs (w.heap.size + 1) 42 8 f) := by obtain ⟨f, h⟩ := HZ.out; exact ⟨f, h.of_block (hb3.block _ h.lt)⟩
  replace HB := hidP (HB.out.trans (hb3.mono HB.out.size))
  replace hq0 := hidP (hq0.out.below hb3)
  replace hq1 := hidP (hq1.out.below hb3)
  replace hq2 := hidP (hq2.out.below hb3)
  have y := HY0.out.cell (i := 5) (by omega)
  have fz := HY0.out.frozen 5
  have z2 : w.heap.size + 1 + 1 < w4.heap.size := by omega
  have z0 : w.heap.size < w4.heap.size := by omega
  have x : w4.cell? ⟨w.heap.size, 6, none⟩ = some (.slice d.a4 r.over.length d.c4) := HA.out.k6
  clear hb3
  go_wp2_with fail
  clear x y fz
  generalize hW3 : w4.setCell _ _ = W3
  have hv3 : W3.heap.size = w4.heap.size := by rw [← hW3]; simp
  replace HA : Hid (RouteCell W3 w.heap.size 0 d r) := by rw [← hW3]; exact HA.out.kept (Below.heap_setCell _ _ _ _ (by simp only [ne_eq]; omega))
  replace HY0 := HY0.out.set 5 (.slice (some ⟨g3, 0, none⟩) r.parts.length r.parts.length)
  rw [hW3] at HY0
  replace HY0 := hidP HY0
  replace HZ : Hid (∃ f, W3.rowIs (w.heap.size + 1) 42 8 f) := by obtain ⟨f, h⟩ := HZ.out; rw [← hW3]; exact ⟨f, h.setOther (by simp only [ne_eq]; omega) _⟩
  replace HB : Hid (Below w.heap.size w W3) := by rw [← hW3]; exact HB.out.setCell (by simp; omega) _
  replace hq0 : Hid (LRow W3 51 g0 (flatE r.steps)) := by rw [← hW3]; exact hq0.out.set (by omega) _ _
  replace hq1 : Hid (LRow W3 48 g1 (flatE r.lies)) := by rw [← hW3]; exact hq1.out.set (by omega) _ _
  replace hq2 : Hid (LRow W3 3 g2 (flatN r.crosses)) := by rw [← hW3]; exact hq2.out.set (by omega) _ _
  replace hq3 : Hid (LRow W3 44 g3 (flatP r.parts)) := by rw [← hW3]; exact hq3.out.set (by omega) _ _
  clear hW3 z2 z0
  refine (toPartS_row _ _ _ _ (hl.out.below HB.out).over hn.out.over).mono ?_
  rintro e w5 ⟨g4, rfl, hq4, hb4, hg4⟩
  have hs4 := hb4.size
  have hl4 := hq4.out.lt
  replace HA := hidP (HA.out.below hb4)
  replace HY0 := hidP (HY0.out.of_block (hb4.block _ HY0.out.lt))
  replace HZ : Hid (∃ f, w5.rowIs (w.heap.size + 1) 42 8 f) := by obtain ⟨f, h⟩ := HZ.out; exact ⟨f, h.of_block (hb4.block _ h.lt)⟩
  replace HB := hidP (HB.out.trans (hb4.mono HB.out.size))
  replace hq0 := hidP (hq0.out.below hb4)
  replace hq1 := hidP (hq1.out.below hb4)
  replace hq2 := hidP (hq2.out.below hb4)
  replace hq3 := hidP (hq3.out.below hb4)
  have y := HY0.out.cell (i := 6) (by omega)
  have fz := HY0.out.frozen 6
  have z2 : w.heap.size + 1 + 1 < w5.heap.size := by omega
  have z0 : w.heap.size < w5.heap.size := by omega
  have x : w5.cell? ⟨w.heap.size, 7, none⟩ = some (.slice d.a5 r.flanks.length d.c5) := HA.out.k7
  clear hb4
  go_wp2_with fail
  clear x y fz
  generalize hW4 : w5.setCell _ _ = W4
  have hv4 : W4.heap.size = w5.heap.size := by rw [← hW4]; simp
  replace HA : Hid (RouteCell W4 w.heap.size 0 d r) := by rw [← hW4]; exact HA.out.kept (Below.heap_setCell _ _ _ _ (by simp only [ne_eq]; omega))
  replace HY0 := HY0.out.set 6 (.slice (some ⟨g4, 0, none⟩) r.over.length r.over.length)
  rw [hW4] at HY0
  replace HY0 := hidP HY0
  replace HZ : Hid (∃ f, W4.rowIs (w.heap.size + 1) 42 8 f) := by obtain ⟨f, h⟩ := HZ.out; rw [← hW4]; exact ⟨f, h.setOther (by simp only [ne_eq]; omega) _⟩
  replace HB : Hid (Below w.heap.size w W4) := by rw [← hW4]; exact HB.out.setCell (by simp; omega) _
  replace hq0 : Hid (LRow W4 51 g0 (flatE r.steps)) := by rw [← hW4]; exact hq0.out.set (by omega) _ _
  replace hq1 : Hid (LRow W4 48 g1 (flatE r.lies)) := by rw [← hW4]; exact hq1.out.set (by omega) _ _
  replace hq2 : Hid (LRow W4 3 g2 (flatN r.crosses)) := by rw [← hW4]; exact hq2.out.set (by omega) _ _
  replace hq3 : Hid (LRow W4 44 g3 (flatP r.parts)) := by rw [← hW4]; exact hq3.out.set (by omega) _ _
  replace hq4 : Hid (LRow W4 44 g4 (flatP r.over)) := by rw [← hW4]; exact hq4.out.set (by omega) _ _
  clear hW4 z2 z0
  refine (toFlankS_row _ _ _ _ (hl.out.below HB.out).flanks hn.out.flanks).mono ?_
  rintro e w6 ⟨g5, rfl, hq5, hb5, hg5⟩
  have hs5 := hb5.size
  have hl5 := hq5.out.lt
  replace HA := hidP (HA.out.below hb5)
  replace HY0 := hidP (HY0.out.of_block (hb5.block _ HY0.out.lt))
  replace HZ : Hid (∃ f, w6.rowIs (w.heap.size + 1) 42 8 f) := by obtain ⟨f, h⟩ := HZ.out; exact ⟨f, h.of_block (hb5.block _ h.lt)⟩
  replace HB := hidP (HB.out.trans (hb5.mono HB.out.size))
  replace hq0 := hidP (hq0.out.below hb5)
  replace hq1 := hidP (hq1.out.below hb5)
  replace hq2 := hidP (hq2.out.below hb5)
  replace hq3 := hidP (hq3.out.below hb5)
  replace hq4 := hidP (hq4.out.below hb5)
  have y := HY0.out.cell (i := 7) (by omega)
  have fz := HY0.out.frozen 7
  have z2 : w.heap.size + 1 + 1 < w6.heap.size := by omega
  have z0 : w.heap.size < w6.heap.size := by omega
  obtain ⟨fz8, HZ8⟩ := HZ.out
  have y0 : w6.cell? ⟨w.heap.size + 1 + 1, 0, none⟩ = some (.int .i64 r.start) := (HY0.out.cell (i := 0) (by omega)).trans (by simp [HF.out.1])
  have y1 : w6.cell? ⟨w.heap.size + 1 + 1, 1, none⟩ = some (.int .i64 r.stop) := (HY0.out.cell (i := 1) (by omega)).trans (by simp [HF.out.2])
  have y2 : w6.cell? ⟨w.heap.size + 1 + 1, 2, none⟩ = some (.slice (some ⟨g0, 0, none⟩) r.steps.length r.steps.length) := (HY0.out.cell (i := 2) (by omega)).trans (by simp)
  have y3 : w6.cell? ⟨w.heap.size + 1 + 1, 3, none⟩ = some (.slice (some ⟨g1, 0, none⟩) r.lies.length r.lies.length) := (HY0.out.cell (i := 3) (by omega)).trans (by simp)
  have y4 : w6.cell? ⟨w.heap.size + 1 + 1, 4, none⟩ = some (.slice (some ⟨g2, 0, none⟩) r.crosses.length r.crosses.length) := (HY0.out.cell (i := 4) (by omega)).trans (by simp)
  have y5 : w6.cell? ⟨w.heap.size + 1 + 1, 5, none⟩ = some (.slice (some ⟨g3, 0, none⟩) r.parts.length r.parts.length) := (HY0.out.cell (i := 5) (by omega)).trans (by simp)
  have y6 : w6.cell? ⟨w.heap.size + 1 + 1, 6, none⟩ = some (.slice (some ⟨g4, 0, none⟩) r.over.length r.over.length) := (HY0.out.cell (i := 6) (by omega)).trans (by simp)
  have q0 := HZ8.cell (i := 0) (by omega)
  have r0 := HZ8.frozen 0
  have q1 := HZ8.cell (i := 1) (by omega)
  have r1 := HZ8.frozen 1
  have q2 := HZ8.cell (i := 2) (by omega)
  have r2 := HZ8.frozen 2
  have q3 := HZ8.cell (i := 3) (by omega)
  have r3 := HZ8.frozen 3
  have q4 := HZ8.cell (i := 4) (by omega)
  have r4 := HZ8.frozen 4
  have q5 := HZ8.cell (i := 5) (by omega)
  have r5 := HZ8.frozen 5
  have q6 := HZ8.cell (i := 6) (by omega)
  have r6 := HZ8.frozen 6
  have q7 := HZ8.cell (i := 7) (by omega)
  have r7 := HZ8.frozen 7
  have z1 : w.heap.size + 1 < w6.heap.size := by omega
  clear hb5 HZ8
  go_wp2_with fail
  refine bodyPost_ret (v := .agg #[.int .i64 r.start, .int .i64 r.stop, .slice (some ⟨g0, 0, none⟩) r.steps.length r.steps.length, .slice (some ⟨g1, 0, none⟩) r.lies.length r.lies.length, .slice (some ⟨g2, 0, none⟩) r.crosses.length r.crosses.length, .slice (some ⟨g3, 0, none⟩) r.parts.length r.parts.length, .slice (some ⟨g4, 0, none⟩) r.over.length r.over.length, .slice (some ⟨g5, 0, none⟩) r.flanks.length r.flanks.length]) (by simp [results, Try.results32, go_sem, q0, q1, q2, q3, q4, q5, q6, q7]) rfl ⟨fun q => if q = 0 then g0 else if q = 1 then g1 else if q = 2 then g2 else if q = 3 then g3 else if q = 4 then g4 else g5, rfl, ?_, ?_⟩
  · refine ⟨?_, ?_, ?_, ?_, ?_, ?_, ?_, ?_, ?_, ?_, ?_, ?_⟩
    · show LRow _ _ g0 _
      exact (((((((((hq0.out.set (by omega) _ _).set (by omega) _ _).set (by omega) _ _).set (by omega) _ _).set (by omega) _ _).set (by omega) _ _).set (by omega) _ _).set (by omega) _ _).set (by omega) _ _)
    · show LRow _ _ g1 _
      exact (((((((((hq1.out.set (by omega) _ _).set (by omega) _ _).set (by omega) _ _).set (by omega) _ _).set (by omega) _ _).set (by omega) _ _).set (by omega) _ _).set (by omega) _ _).set (by omega) _ _)
    · show LRow _ _ g2 _
      exact (((((((((hq2.out.set (by omega) _ _).set (by omega) _ _).set (by omega) _ _).set (by omega) _ _).set (by omega) _ _).set (by omega) _ _).set (by omega) _ _).set (by omega) _ _).set (by omega) _ _)
    · show LRow _ _ g3 _
      exact (((((((((hq3.out.set (by omega) _ _).set (by omega) _ _).set (by omega) _ _).set (by omega) _ _).set (by omega) _ _).set (by omega) _ _).set (by omega) _ _).set (by omega) _ _).set (by omega) _ _)
    · show LRow _ _ g4 _
      exact (((((((((hq4.out.set (by omega) _ _).set (by omega) _ _).set (by omega) _ _).set (by omega) _ _).set (by omega) _ _).set (by omega) _ _).set (by omega) _ _).set (by omega) _ _).set (by omega) _ _)
    · show LRow _ _ g5 _
      exact (((((((((hq5.out.set (by omega) _ _).set (by omega) _ _).set (by omega) _ _).set (by omega) _ _).set (by omega) _ _).set (by omega) _ _).set (by omega) _ _).set (by omega) _ _).set (by omega) _ _)
    · show w.heap.size ≤ g0; omega
    · show g0 < g1; omega
    · show g1 < g2; omega
    · show g2 < g3; omega
    · show g3 < g4; omega
    · show g4 < g5; omega
  · exact (((((((((HB.out.setCell (by simp only []; omega) _).setCell (by simp only []; omega) _).setCell (by simp only []; omega) _).setCell (by simp only []; omega) _).setCell (by simp only []; omega) _).setCell (by simp only []; omega) _).setCell (by simp only []; omega) _).setCell (by simp only []; omega) _).setCell (by simp only []; omega) _)

end Go.Proofs.Ytmkdgnmmebldgaa
