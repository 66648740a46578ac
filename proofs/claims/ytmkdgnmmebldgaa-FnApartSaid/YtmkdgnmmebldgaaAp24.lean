import Derived.Test.YtmkdgnmmebldgaaAp3
import Derived.Test.YtmkdgnmmebldgaaAp4
import Derived.Laws.ShiftsVarLaws
import Derived.Deep.RegionHeld3
namespace Go.Proofs.Ytmkdgnmmebldgaa
open Go.RowKit Go.Deep

structure LensR (r : MRoute) : Prop where
  steps : r.steps.length ≤ 1048576
  lies : r.lies.length ≤ 1048576
  crosses : r.crosses.length ≤ 1048576
  parts : r.parts.length ≤ 1048576
  over : r.over.length ≤ 1048576
  flanks : r.flanks.length ≤ 1048576

/-- The lists of a route, each in a row of its own, one behind the other. -/
structure RRow (w : World) (lo : Nat) (g : Nat → Nat) (r : MRoute) : Prop where
  r0 : LRow w 51 (g 0) (flatE r.steps)
  r1 : LRow w 48 (g 1) (flatE r.lies)
  r2 : LRow w 3 (g 2) (flatN r.crosses)
  r3 : LRow w 44 (g 3) (flatP r.parts)
  r4 : LRow w 44 (g 4) (flatP r.over)
  r5 : LRow w 57 (g 5) (flatF r.flanks)
  l0 : lo ≤ g 0
  l1 : g 0 < g 1
  l2 : g 1 < g 2
  l3 : g 2 < g 3
  l4 : g 3 < g 4
  l5 : g 4 < g 5

def dOf (g : Nat → Nat) (r : MRoute) : RAddr := ⟨some ⟨g 0, 0, none⟩, r.steps.length, some ⟨g 1, 0, none⟩, r.lies.length, some ⟨g 2, 0, none⟩, r.crosses.length, some ⟨g 3, 0, none⟩, r.parts.length, some ⟨g 4, 0, none⟩, r.over.length, some ⟨g 5, 0, none⟩, r.flanks.length⟩

theorem RRow.kept {w w' : World} {lo : Nat} {g : Nat → Nat} {r : MRoute} (h : RRow w lo g r) (e : ∀ b, g 0 ≤ b → b ≤ g 5 → w'.heap[b]? = w.heap[b]?) : RRow w' lo g r := by
  have h1 := h.l1
  have h2 := h.l2
  have h3 := h.l3
  have h4 := h.l4
  have h5 := h.l5
  exact ⟨h.r0.kept (e _ (by omega) (by omega)), h.r1.kept (e _ (by omega) (by omega)), h.r2.kept (e _ (by omega) (by omega)), h.r3.kept (e _ (by omega) (by omega)), h.r4.kept (e _ (by omega) (by omega)), h.r5.kept (e _ (by omega) (by omega)), h.l0, h1, h2, h3, h4, h5⟩
theorem RRow.lt {w : World} {lo : Nat} {g : Nat → Nat} {r : MRoute} (h : RRow w lo g r) : g 5 < w.heap.size := h.r5.lt
theorem RRow.below {w w' : World} {lo : Nat} {g : Nat → Nat} {r : MRoute} (h : RRow w lo g r) (hb : Below w.heap.size w w') : RRow w' lo g r := h.kept (fun b _ hb' => hb.block b (Nat.lt_of_le_of_lt hb' h.lt))
theorem RRow.lists {w : World} {lo : Nat} {g : Nat → Nat} {r : MRoute} (h : RRow w lo g r) (hl : LensR r) : RListsAt w (dOf g r) r := by
  have hm : ∀ n : Nat, n ≤ 1048576 → n ≤ maxLen := by intro n hn; unfold maxLen; omega
  exact ⟨⟨hm _ hl.steps, Or.inr ⟨g 0, 0, rfl, endCells_of h.r0.cell⟩⟩, ⟨hm _ hl.lies, Or.inr ⟨g 1, 0, rfl, endCells_of h.r1.cell⟩⟩, ⟨hm _ hl.crosses, Or.inr ⟨g 2, 0, rfl, numCells_of h.r2.cell⟩⟩, ⟨hm _ hl.parts, Or.inr ⟨g 3, 0, rfl, partCells_of h.r3.cell⟩⟩, ⟨hm _ hl.over, Or.inr ⟨g 4, 0, rfl, partCells_of h.r4.cell⟩⟩, ⟨hm _ hl.flanks, Or.inr ⟨g 5, 0, rfl, flankCells_of h.r5.cell⟩⟩, (fun e => by cases e)⟩

theorem row_of_alloc (w : World) (c : Array Value) (T : Nat) : (w.alloc (.cells c T)).rowIs w.heap.size T c.size (fun j => c.getD j (.bool false)) :=
  World.rowIs_alloc w c T _ (by intro k hk; simp [Array.getD, hk])

set_option maxRecDepth 4000 in
set_option maxHeartbeats 2000000 in
theorem toRoute_row (d : RAddr) (r : MRoute) (w : World) (hl : Hid (RListsAt w d r)) (hn : Hid (LensR r)) :
    Calls Try.prog 32 #[routeV d r] w fun e w' => ∃ g, e = .returned (routeV (dOf g r) r) ∧ Hid (RRow w' w.heap.size g r) ∧ Below w.heap.size w w' := by
  unfold routeV
  go_enter Try.func32, Try.ntmps32
  go_wp2_with fail
  generalize hW : ((w.alloc _).alloc _).alloc _ = W
  have HA : Hid (RouteCell W w.heap.size 0 d r) := by rw [← hW]; exact ((routeCell_box w d r _).below ((Below.refl _ _).alloc (Nat.le_refl _) _)).below ((Below.refl _ _).alloc (Nat.le_refl _) _)
  have HY : Hid (∃ f, W.rowIs (w.heap.size + 1 + 1) 42 8 f ∧ f 0 = .int .i64 r.start ∧ f 1 = .int .i64 r.stop) := by
    rw [← hW]
    have h := row_of_alloc ((w.alloc (.cells #[.int .i64 r.start, .int .i64 r.stop, .slice d.a0 r.steps.length d.c0, .slice d.a1 r.lies.length d.c1, .slice d.a2 r.crosses.length d.c2, .slice d.a3 r.parts.length d.c3, .slice d.a4 r.over.length d.c4, .slice d.a5 r.flanks.length d.c5] 83)).alloc (.cells #[.int .i64 0, .int .i64 0, .slice none 0 0, .slice none 0 0, .slice none 0 0, .slice none 0 0, .slice none 0 0, .slice none 0 0] 42)) #[.int .i64 r.start, .int .i64 r.stop, .slice none 0 0, .slice none 0 0, .slice none 0 0, .slice none 0 0, .slice none 0 0, .slice none 0 0] 42
    simp only [World.size_alloc] at h
    exact ⟨_, h, rfl, rfl⟩
  have HZ : Hid (∃ f, W.rowIs (w.heap.size + 1) 42 8 f) := by
    rw [← hW]
    have h := (row_of_alloc (w.alloc (.cells #[.int .i64 r.start, .int .i64 r.stop, .slice d.a0 r.steps.length d.c0, .slice d.a1 r.lies.length d.c1, .slice d.a2 r.crosses.length d.c2, .slice d.a3 r.parts.length d.c3, .slice d.a4 r.over.length d.c4, .slice d.a5 r.flanks.length d.c5] 83)) #[.int .i64 0, .int .i64 0, .slice none 0 0, .slice none 0 0, .slice none 0 0, .slice none 0 0, .slice none 0 0, .slice none 0 0] 42).alloc (.cells #[.int .i64 r.start, .int .i64 r.stop, .slice none 0 0, .slice none 0 0, .slice none 0 0, .slice none 0 0, .slice none 0 0, .slice none 0 0] 42)
    simp only [World.size_alloc] at h
    exact ⟨_, h⟩
  have hz : w.heap.size + 3 ≤ W.heap.size := by rw [← hW]; simp
  have hbW : Below w.heap.size w W := by rw [← hW]; exact (by repeat (first | exact Below.refl _ _ | assumption | refine Below.drew ?_ | refine bdrewN ?_ _ | refine Below.setCell ?_ (by first | omega | (simp; done) | (simp; omega)) _ | refine Below.alloc ?_ (by first | omega | (simp; done) | (simp; omega)) _))
  have HB : Hid (Below w.heap.size w W) := hbW
  clear hW hbW
  obtain ⟨fy, hy0, hy1, hy2⟩ := HY.out
  have HY0 := hidP hy0
  have HF := hidP (And.intro hy1 hy2)
  clear HY hy0 hy1 hy2
  refine (toStepS_row _ _ _ _ (hl.out.below HB.out).steps hn.out.steps).mono ?_
  rintro e w1 ⟨g0, rfl, hq0, hb0, hg0⟩
  have hs0 := hb0.size
  have hl0 := hq0.out.lt
  replace HA := hidP (HA.out.below hb0)
  replace HY0 := hidP (HY0.out.of_block (hb0.block _ HY0.out.lt))
  replace HZ : Hid (∃ f, w1.rowIs (w.heap.size + 1) 42 8 f) := by obtain ⟨f, h⟩ := HZ.out; exact ⟨f, h.of_block (hb0.block _ h.lt)⟩
  replace HB := hidP (HB.out.trans (hb0.mono HB.out.size))
  have y := HY0.out.cell (i := 2) (by omega)
  have fz := HY0.out.frozen 2
  have z2 : w.heap.size + 1 + 1 < w1.heap.size := by omega
  have z0 : w.heap.size < w1.heap.size := by omega
  have x : w1.cell? ⟨w.heap.size, 3, none⟩ = some (.slice d.a1 r.lies.length d.c1) := HA.out.k3
  clear hb0
  go_wp2_with fail
  clear x y fz
  generalize hW0 : w1.setCell _ _ = W0
  have hv0 : W0.heap.size = w1.heap.size := by rw [← hW0]; simp
  replace HA : Hid (RouteCell W0 w.heap.size 0 d r) := by rw [← hW0]; exact HA.out.kept (Below.heap_setCell _ _ _ _ (by simp only [ne_eq]; omega))
  replace HY0 := HY0.out.set 2 (.slice (some ⟨g0, 0, none⟩) r.steps.length r.steps.length)
  rw [hW0] at HY0
  replace HY0 := hidP HY0
  replace HZ : Hid (∃ f, W0.rowIs (w.heap.size + 1) 42 8 f) := by obtain ⟨f, h⟩ := HZ.out; rw [← hW0]; exact ⟨f, h.setOther (by simp only [ne_eq]; omega) _⟩
  replace HB : Hid (Below w.heap.size w W0) := by rw [← hW0]; exact HB.out.setCell (by simp; omega) _
  replace hq0 : Hid (LRow W0 51 g0 (flatE r.steps)) := by rw [← hW0]; exact hq0.out.set (by omega) _ _
  clear hW0 z2 z0
  refine (toLieS_row _ _ _ _ (hl.out.below HB.out).lies hn.out.lies).mono ?_
  rintro e w2 ⟨g1, rfl, hq1, hb1, hg1⟩
  have hs1 := hb1.size
  have hl1 := hq1.out.lt
  replace HA := hidP (HA.out.below hb1)
  replace HY0 := hidP (HY0.out.of_block (hb1.block _ HY0.out.lt))
  replace HZ : Hid (∃ f, w2.rowIs (w.heap.size + 1) 42 8 f) := by obtain ⟨f, h⟩ := HZ.out; exact ⟨f, h.of_block (hb1.block _ h.lt)⟩
  replace HB := hidP (HB.out.trans (hb1.mono HB.out.size))
  replace hq0 := hidP (hq0.out.below hb1)
  have y := HY0.out.cell (i := 3) (by omega)
  have fz := HY0.out.frozen 3
  have z2 : w.heap.size + 1 + 1 < w2.heap.size := by omega
  have z0 : w.heap.size < w2.heap.size := by omega
  have x : w2.cell? ⟨w.heap.size, 4, none⟩ = some (.slice d.a2 r.crosses.length d.c2) := HA.out.k4
  clear hb1
  go_wp2_with fail
  clear x y fz
  generalize hW1 : w2.setCell _ _ = W1
  have hv1 : W1.heap.size = w2.heap.size := by rw [← hW1]; simp
  replace HA : Hid (RouteCell W1 w.heap.size 0 d r) := by rw [← hW1]; exact HA.out.kept (Below.heap_setCell _ _ _ _ (by simp only [ne_eq]; omega))
  replace HY0 := HY0.out.set 3 (.slice (some ⟨g1, 0, none⟩) r.lies.length r.lies.length)
  rw [hW1] at HY0
  replace HY0 := hidP HY0
  replace HZ : Hid (∃ f, W1.rowIs (w.heap.size + 1) 42 8 f) := by obtain ⟨f, h⟩ := HZ.out; rw [← hW1]; exact ⟨f, h.setOther (by simp only [ne_eq]; omega) _⟩
  replace HB : Hid (Below w.heap.size w W1) := by rw [← hW1]; exact HB.out.setCell (by simp; omega) _
  replace hq0 : Hid (LRow W1 51 g0 (flatE r.steps)) := by rw [← hW1]; exact hq0.out.set (by omega) _ _
  replace hq1 : Hid (LRow W1 48 g1 (flatE r.lies)) := by rw [← hW1]; exact hq1.out.set (by omega) _ _
  clear hW1 z2 z0
  refine (toIntS_row _ _ _ _ (hl.out.below HB.out).crosses hn.out.crosses).mono ?_
  rintro e w3 ⟨g2, rfl, hq2, hb2, hg2⟩
  have hs2 := hb2.size
  have hl2 := hq2.out.lt
  replace HA := hidP (HA.out.below hb2)
  replace HY0 := hidP (HY0.out.of_block (hb2.block _ HY0.out.lt))
  replace HZ : Hid (∃ f, w3.rowIs (w.heap.size + 1) 42 8 f) := by obtain ⟨f, h⟩ := HZ.out; exact ⟨f, h.of_block (hb2.block _ h.lt)⟩
  replace HB := hidP (HB.out.trans (hb2.mono HB.out.size))
  replace hq0 := hidP (hq0.out.below hb2)
  replace hq1 := hidP (hq1.out.below hb2)
  have y := HY0.out.cell (i := 4) (by omega)
  have fz := HY0.out.frozen 4
  have z2 : w.heap.size + 1 + 1 < w3.heap.size := by omega
  have z0 : w.heap.size < w3.heap.size := by omega
  have x : w3.cell? ⟨w.heap.size, 5, none⟩ = some (.slice d.a3 r.parts.length d.c3) := HA.out.k5
  clear hb2
  go_wp2_with fail
  clear x y fz
  generalize hW2 : w3.setCell _ _ = W2
  have hv2 : W2.heap.size = w3.heap.size := by rw [← hW2]; simp
  replace HA : Hid (RouteCell W2 w.heap.size 0 d r) := by rw [← hW2]; exact HA.out.kept (Below.heap_setCell _ _ _ _ (by simp only [ne_eq]; omega))
  replace HY0 := HY0.out.set 4 (.slice (some ⟨g2, 0, none⟩) r.crosses.length r.crosses.length)
  rw [hW2] at HY0
  replace HY0 := hidP HY0
  replace HZ : Hid (∃ f, W2.rowIs (w.heap.size + 1) 42 8 f) := by obtain ⟨f, h⟩ := HZ.out; rw [← hW2]; exact ⟨f, h.setOther (by simp only [ne_eq]; omega) _⟩
  replace HB : Hid (Below w.heap.size w W2) := by rw [← hW2]; exact HB.out.setCell (by simp; omega) _
  replace hq0 : Hid (LRow W2 51 g0 (flatE r.steps)) := by rw [← hW2]; exact hq0.out.set (by omega) _ _
  replace hq1 : Hid (LRow W2 48 g1 (flatE r.lies)) := by rw [← hW2]; exact hq1.out.set (by omega) _ _
  replace hq2 : Hid (LRow W2 3 g2 (flatN r.crosses)) := by rw [← hW2]; exact hq2.out.set (by omega) _ _
  clear hW2 z2 z0
  refine (toPartS_row _ _ _ _ (hl.out.below HB.out).parts hn.out.parts).mono ?_
  rintro e w4 ⟨g3, rfl, hq3, hb3, hg3⟩
  have hs3 := hb3.size
  have hl3 := hq3.out.lt
  replace HA := hidP (HA.out.below hb3)
  replace HY0 := hidP (HY0.out.of_block (hb3.block _ HY0.out.lt))
  replace HZ : Hid (∃ f, w4.rowIs (w.heap.size + 1) 42 8 f) := by obtain ⟨f, h⟩ := HZ.out; exact ⟨f, h.of_block (hb3.block _ h.lt)⟩
  replace HB := hidP (HB.out.trans (hb3.mono HB.out.size))
  replace hq0 := hidP (hq0.out.below hb3)
  replace hq1 := hidP (hq1.out.below hb3)
  replace hq2 := hidP (hq2.out.below hb3)
  have y := HY0.out.cell (i := 5) (by omega)
  have fz := HY0.out.frozen 5
  have z2 : w.heap.size + 1 + 1 < w4.heap.size := by omega
  have z0 : w.heap.size < w4.heap.size := by omega
  have x : w4.cell? ⟨w.heap.size, 6, none⟩ = some (.slice d.a4 r.over.length d.c4) := HA.out.k6
  clear hb3
  go_wp2_with fail
  clear x y fz
  generalize hW3 : w4.setCell _ _ = W3
  have hv3 : W3.heap.size = w4.heap.size := by rw [← hW3]; simp
  replace HA : Hid (RouteCell W3 w.heap.size 0 d r) := by rw [← hW3]; exact HA.out.kept (Below.heap_setCell _ _ _ _ (by simp only [ne_eq]; omega))
  replace HY0 := HY0.out.set 5 (.slice (some ⟨g3, 0, none⟩) r.parts.length r.parts.length)
  rw [hW3] at HY0
  replace HY0 := hidP HY0
  replace HZ : Hid (∃ f, W3.rowIs (w.heap.size + 1) 42 8 f) := by obtain ⟨f, h⟩ := HZ.out; rw [← hW3]; exact ⟨f, h.setOther (by simp only [ne_eq]; omega) _⟩
  replace HB : Hid (Below w.heap.size w W3) := by rw [← hW3]; exact HB.out.setCell (by simp; omega) _
  replace hq0 : Hid (LRow W3 51 g0 (flatE r.steps)) := by rw [← hW3]; exact hq0.out.set (by omega) _ _
  replace hq1 : Hid (LRow W3 48 g1 (flatE r.lies)) := by rw [← hW3]; exact hq1.out.set (by omega) _ _
  replace hq2 : Hid (LRow W3 3 g2 (flatN r.crosses)) := by rw [← hW3]; exact hq2.out.set (by omega) _ _
  replace hq3 : Hid (LRow W3 44 g3 (flatP r.parts)) := by rw [← hW3]; exact hq3.out.set (by omega) _ _
  clear hW3 z2 z0
  refine (toPartS_row _ _ _ _ (hl.out.below HB.out).over hn.out.over).mono ?_
  rintro e w5 ⟨g4, rfl, hq4, hb4, hg4⟩
  have hs4 := hb4.size
  have hl4 := hq4.out.lt
  replace HA := hidP (HA.out.below hb4)
  replace HY0 := hidP (HY0.out.of_block (hb4.block _ HY0.out.lt))
  replace HZ : Hid (∃ f, w5.rowIs (w.heap.size + 1) 42 8 f) := by obtain ⟨f, h⟩ := HZ.out; exact ⟨f, h.of_block (hb4.block _ h.lt)⟩
  replace HB := hidP (HB.out.trans (hb4.mono HB.out.size))
  replace hq0 := hidP (hq0.out.below hb4)
  replace hq1 := hidP (hq1.out.below hb4)
  replace hq2 := hidP (hq2.out.below hb4)
  replace hq3 := hidP (hq3.out.below hb4)
  have y := HY0.out.cell (i := 6) (by omega)
  have fz := HY0.out.frozen 6
  have z2 : w.heap.size + 1 + 1 < w5.heap.size := by omega
  have z0 : w.heap.size < w5.heap.size := by omega
  have x : w5.cell? ⟨w.heap.size, 7, none⟩ = some (.slice d.a5 r.flanks.length d.c5) := HA.out.k7
  clear hb4
  go_wp2_with fail
  clear x y fz
  generalize hW4 : w5.setCell _ _ = W4
  have hv4 : W4.heap.size = w5.heap.size := by rw [← hW4]; simp
  replace HA : Hid (RouteCell W4 w.heap.size 0 d r) := by rw [← hW4]; exact HA.out.kept (Below.heap_setCell _ _ _ _ (by simp only [ne_eq]; omega))
  replace HY0 := HY0.out.set 6 (.slice (some ⟨g4, 0, none⟩) r.over.length r.over.length)
  rw [hW4] at HY0
  replace HY0 := hidP HY0
  replace HZ : Hid (∃ f, W4.rowIs (w.heap.size + 1) 42 8 f) := by obtain ⟨f, h⟩ := HZ.out; rw [← hW4]; exact ⟨f, h.setOther (by simp only [ne_eq]; omega) _⟩
  replace HB : Hid (Below w.heap.size w W4) := by rw [← hW4]; exact HB.out.setCell (by simp; omega) _
  replace hq0 : Hid (LRow W4 51 g0 (flatE r.steps)) := by rw [← hW4]; exact hq0.out.set (by omega) _ _
  replace hq1 : Hid (LRow W4 48 g1 (flatE r.lies)) := by rw [← hW4]; exact hq1.out.set (by omega) _ _
  replace hq2 : Hid (LRow W4 3 g2 (flatN r.crosses)) := by rw [← hW4]; exact hq2.out.set (by omega) _ _
  replace hq3 : Hid (LRow W4 44 g3 (flatP r.parts)) := by rw [← hW4]; exact hq3.out.set (by omega) _ _
  replace hq4 : Hid (LRow W4 44 g4 (flatP r.over)) := by rw [← hW4]; exact hq4.out.set (by omega) _ _
  clear hW4 z2 z0
  refine (toFlankS_row _ _ _ _ (hl.out.below HB.out).flanks hn.out.flanks).mono ?_
  rintro e w6 ⟨g5, rfl, hq5, hb5, hg5⟩
  have hs5 := hb5.size
  have hl5 := hq5.out.lt
  replace HA := hidP (HA.out.below hb5)
  replace HY0 := hidP (HY0.out.of_block (hb5.block _ HY0.out.lt))
  replace HZ : Hid (∃ f, w6.rowIs (w.heap.size + 1) 42 8 f) := by obtain ⟨f, h⟩ := HZ.out; exact ⟨f, h.of_block (hb5.block _ h.lt)⟩
  replace HB := hidP (HB.out.trans (hb5.mono HB.out.size))
  replace hq0 := hidP (hq0.out.below hb5)
  replace hq1 := hidP (hq1.out.below hb5)
  replace hq2 := hidP (hq2.out.below hb5)
  replace hq3 := hidP (hq3.out.below hb5)
  replace hq4 := hidP (hq4.out.below hb5)
  have y := HY0.out.cell (i := 7) (by omega)
  have fz := HY0.out.frozen 7
  have z2 : w.heap.size + 1 + 1 < w6.heap.size := by omega
  have z0 : w.heap.size < w6.heap.size := by omega
  obtain ⟨fz8, HZ8⟩ := HZ.out
  have y0 : w6.cell? ⟨w.heap.size + 1 + 1, 0, none⟩ = some (.int .i64 r.start) := (HY0.out.cell (i := 0) (by omega)).trans (by simp [HF.out.1])
  have y1 : w6.cell? ⟨w.heap.size + 1 + 1, 1, none⟩ = some (.int .i64 r.stop) := (HY0.out.cell (i := 1) (by omega)).trans (by simp [HF.out.2])
  have y2 : w6.cell? ⟨w.heap.size + 1 + 1, 2, none⟩ = some (.slice (some ⟨g0, 0, none⟩) r.steps.length r.steps.length) := (HY0.out.cell (i := 2) (by omega)).trans (by simp)
  have y3 : w6.cell? ⟨w.heap.size + 1 + 1, 3, none⟩ = some (.slice (some ⟨g1, 0, none⟩) r.lies.length r.lies.length) := (HY0.out.cell (i := 3) (by omega)).trans (by simp)
  have y4 : w6.cell? ⟨w.heap.size + 1 + 1, 4, none⟩ = some (.slice (some ⟨g2, 0, none⟩) r.crosses.length r.crosses.length) := (HY0.out.cell (i := 4) (by omega)).trans (by simp)
  have y5 : w6.cell? ⟨w.heap.size + 1 + 1, 5, none⟩ = some (.slice (some ⟨g3, 0, none⟩) r.parts.length r.parts.length) := (HY0.out.cell (i := 5) (by omega)).trans (by simp)
  have y6 : w6.cell? ⟨w.heap.size + 1 + 1, 6, none⟩ = some (.slice (some ⟨g4, 0, none⟩) r.over.length r.over.length) := (HY0.out.cell (i := 6) (by omega)).trans (by simp)
  have q0 := HZ8.cell (i := 0) (by omega)
  have r0 := HZ8.frozen 0
  have q1 := HZ8.cell (i := 1) (by omega)
  have r1 := HZ8.frozen 1
  have q2 := HZ8.cell (i := 2) (by omega)
  have r2 := HZ8.frozen 2
  have q3 := HZ8.cell (i := 3) (by omega)
  have r3 := HZ8.frozen 3
  have q4 := HZ8.cell (i := 4) (by omega)
  have r4 := HZ8.frozen 4
  have q5 := HZ8.cell (i := 5) (by omega)
  have r5 := HZ8.frozen 5
  have q6 := HZ8.cell (i := 6) (by omega)
  have r6 := HZ8.frozen 6
  have q7 := HZ8.cell (i := 7) (by omega)
  have r7 := HZ8.frozen 7
  have z1 : w.heap.size + 1 < w6.heap.size := by omega
  clear hb5 HZ8
  go_wp2_with fail
  refine bodyPost_ret (v := .agg #[.int .i64 r.start, .int .i64 r.stop, .slice (some ⟨g0, 0, none⟩) r.steps.length r.steps.length, .slice (some ⟨g1, 0, none⟩) r.lies.length r.lies.length, .slice (some ⟨g2, 0, none⟩) r.crosses.length r.crosses.length, .slice (some ⟨g3, 0, none⟩) r.parts.length r.parts.length, .slice (some ⟨g4, 0, none⟩) r.over.length r.over.length, .slice (some ⟨g5, 0, none⟩) r.flanks.length r.flanks.length]) (by simp [results, Try.results32, go_sem, q0, q1, q2, q3, q4, q5, q6, q7]) rfl ⟨fun q => if q = 0 then g0 else if q = 1 then g1 else if q = 2 then g2 else if q = 3 then g3 else if q = 4 then g4 else g5, rfl, ?_, ?_⟩
  · refine ⟨?_, ?_, ?_, ?_, ?_, ?_, ?_, ?_, ?_, ?_, ?_, ?_⟩
    · show LRow _ _ g0 _
      exact (((((((((hq0.out.set (by omega) _ _).set (by omega) _ _).set (by omega) _ _).set (by omega) _ _).set (by omega) _ _).set (by omega) _ _).set (by omega) _ _).set (by omega) _ _).set (by omega) _ _)
    · show LRow _ _ g1 _
      exact (((((((((hq1.out.set (by omega) _ _).set (by omega) _ _).set (by omega) _ _).set (by omega) _ _).set (by omega) _ _).set (by omega) _ _).set (by omega) _ _).set (by omega) _ _).set (by omega) _ _)
    · show LRow _ _ g2 _
      exact (((((((((hq2.out.set (by omega) _ _).set (by omega) _ _).set (by omega) _ _).set (by omega) _ _).set (by omega) _ _).set (by omega) _ _).set (by omega) _ _).set (by omega) _ _).set (by omega) _ _)
    · show LRow _ _ g3 _
      exact (((((((((hq3.out.set (by omega) _ _).set (by omega) _ _).set (by omega) _ _).set (by omega) _ _).set (by omega) _ _).set (by omega) _ _).set (by omega) _ _).set (by omega) _ _).set (by omega) _ _)
    · show LRow _ _ g4 _
      exact (((((((((hq4.out.set (by omega) _ _).set (by omega) _ _).set (by omega) _ _).set (by omega) _ _).set (by omega) _ _).set (by omega) _ _).set (by omega) _ _).set (by omega) _ _).set (by omega) _ _)
    · show LRow _ _ g5 _
      exact (((((((((hq5.out.set (by omega) _ _).set (by omega) _ _).set (by omega) _ _).set (by omega) _ _).set (by omega) _ _).set (by omega) _ _).set (by omega) _ _).set (by omega) _ _).set (by omega) _ _)
    · show w.heap.size ≤ g0; omega
    · show g0 < g1; omega
    · show g1 < g2; omega
    · show g2 < g3; omega
    · show g3 < g4; omega
    · show g4 < g5; omega
  · exact (((((((((HB.out.setCell (by simp only []; omega) _).setCell (by simp only []; omega) _).setCell (by simp only []; omega) _).setCell (by simp only []; omega) _).setCell (by simp only []; omega) _).setCell (by simp only []; omega) _).setCell (by simp only []; omega) _).setCell (by simp only []; omega) _).setCell (by simp only []; omega) _)

end Go.Proofs.Ytmkdgnmmebldgaa

namespace Go.Proofs.Ytmkdgnmmebldgaa
open Go.RowKit Go.Deep

def setV (s : MSet) : Value := .agg #[.int .u64 s.a, .int .u64 s.b]

theorem wrap_rem (n : Int) : (IntKind.u64.wrap n).tmod 128 = (bitN n : Nat) := by
  rw [IntKind.wrap_u64, tmod_of_emod]
  unfold bitN
  omega
theorem cast_pow (k : Nat) : (2 : Int) ^ k = ((2 ^ k : Nat) : Int) := by rw [Int.natCast_pow]; rfl
theorem wrap_pow (k : Nat) (h : k < 64) : IntKind.u64.wrap (2 ^ k) = ((2 ^ k : Nat) : Int) := by
  have hp := pow64 h
  rw [IntKind.wrap_u64, cast_pow]
  generalize 2 ^ k = p at hp ⊢
  omega
theorem or_pow {a k : Nat} (ha : a < 18446744073709551616) (hk : k < 64) : bits .or .u64 (a : Int) (2 ^ k) = ((a ||| 2 ^ k : Nat) : Int) := by
  rw [cast_pow]
  exact u64_or_nat a (2 ^ k) ha (pow64 hk)
theorem ret_set {a b a' b' : Int} (h1 : a = a') (h2 : b = b') : Ending.returned (.agg #[.int .u64 a, .int .u64 b]) = .returned (.agg #[.int .u64 a', .int .u64 b']) := by rw [h1, h2]

set_option maxHeartbeats 2000000 in
theorem with_any (s : MSet) (n : Int) (hs : s.Ok) (w : World) :
    Calls Try.prog 151 #[setV s, .int .i64 n] w fun e w' => e = .returned (setV (withF s n)) ∧ Below w.heap.size w w' := by
  unfold setV
  have h0 := wrap_rem n
  have hlt := bitN_lt n
  have HW : Hid (withF s n = if bitN n < 64 then ⟨s.a ||| 2 ^ (bitN n % 64), s.b⟩ else ⟨s.a, s.b ||| 2 ^ (bitN n % 64)⟩) := rfl
  generalize bitN n = c at h0 hlt HW
  have hk : c % 64 < 64 := Nat.mod_lt _ (by omega)
  by_cases hc : c < 64
  · have h1 : (c : Int) / 64 = 0 := by omega
    have h2 : c / 64 = 0 := by omega
    have h3 := wrap_pow (c % 64) hk
    have HA : Hid (bits .or .u64 (s.a : Int) (2 ^ (c % 64)) = ((withF s n).a : Nat)) := by unfold Hid; rw [HW.out, if_pos hc]; exact or_pow hs.1 hk
    have HB : Hid (((s.b : Nat) : Int) = ((withF s n).b : Nat)) := by unfold Hid; rw [HW.out, if_pos hc]
    go_enter Try.func151, Try.ntmps151
    go_wp2_with fail
    exact bodyPost_ret (v := .agg #[.int .u64 (bits .or .u64 (s.a : Int) (2 ^ (c % 64))), .int .u64 s.b]) (by simp [results, Try.results151, go_sem]) rfl ⟨ret_set HA.out HB.out, (by repeat (first | exact Below.refl _ _ | assumption | refine Below.drew ?_ | refine bdrewN ?_ _ | refine Below.setCell ?_ (by first | omega | (simp; done) | (simp; omega)) _ | refine Below.alloc ?_ (by first | omega | (simp; done) | (simp; omega)) _))⟩
  · have h1 : (c : Int) / 64 = 1 := by omega
    have h2 : c / 64 = 1 := by omega
    have h3 := wrap_pow (c % 64) hk
    have HA : Hid (((s.a : Nat) : Int) = ((withF s n).a : Nat)) := by unfold Hid; rw [HW.out, if_neg hc]
    have HB : Hid (bits .or .u64 (s.b : Int) (2 ^ (c % 64)) = ((withF s n).b : Nat)) := by unfold Hid; rw [HW.out, if_neg hc]; exact or_pow hs.2 hk
    go_enter Try.func151, Try.ntmps151
    go_wp2_with fail
    exact bodyPost_ret (v := .agg #[.int .u64 s.a, .int .u64 (bits .or .u64 (s.b : Int) (2 ^ (c % 64)))]) (by simp [results, Try.results151, go_sem]) rfl ⟨ret_set HA.out HB.out, (by repeat (first | exact Below.refl _ _ | assumption | refine Below.drew ?_ | refine bdrewN ?_ _ | refine Below.setCell ?_ (by first | omega | (simp; done) | (simp; omega)) _ | refine Below.alloc ?_ (by first | omega | (simp; done) | (simp; omega)) _))⟩

theorem and_nat {a b : Nat} (ha : a < 18446744073709551616) (hb : b < 18446744073709551616) : (bits .and .u64 (a : Int) (b : Int) != 0) = (a &&& b != 0) := by
  rw [u64_and_nat a b ha hb, Bool.eq_iff_iff]
  simp only [bne_iff_ne, ne_eq]
  omega

theorem index_set0 (a b : Int) (w : World) : (Instr.index 108 (.agg #[.int .u64 a, .int .u64 b]) (.int .i64 0)).run Try.prog w = .ok (.int .u64 a) w := by kernel_rfl
theorem index_set1 (a b : Int) (w : World) : (Instr.index 108 (.agg #[.int .u64 a, .int .u64 b]) (.int .i64 1)).run Try.prog w = .ok (.int .u64 b) w := by kernel_rfl

set_option maxRecDepth 10000 in
set_option maxHeartbeats 2000000 in
theorem meets_any (s t : MSet) (hs : s.Ok) (ht : t.Ok) (w : World) :
    Calls Try.prog 152 #[setV s, setV t] w fun e w' => e = .returned (.bool (meetsF s t)) ∧ Below w.heap.size w w' := by
  unfold setV
  have hi0 := index_set0 s.a s.b
  have hi1 := index_set1 s.a s.b
  have HA := hidP (and_nat hs.1 ht.1)
  have HB := hidP (and_nat hs.2 ht.2)
  go_enter Try.func152, Try.ntmps152
  go_wp2_with fail
  generalize hW : (w.alloc _).alloc _ = W
  have y0 : W.cell? ⟨w.heap.size + 1, 0, none⟩ = some (.int .u64 t.a) := by rw [← hW]; simp [go_sem]
  have y1 : W.cell? ⟨w.heap.size + 1, 1, none⟩ = some (.int .u64 t.b) := by rw [← hW]; simp [go_sem]
  have hz : w.heap.size + 1 < W.heap.size := cellLt y0
  have hbW : Below w.heap.size w W := by rw [← hW]; exact (by repeat (first | exact Below.refl _ _ | assumption | refine Below.drew ?_ | refine bdrewN ?_ _ | refine Below.setCell ?_ (by first | omega | (simp; done) | (simp; omega)) _ | refine Below.alloc ?_ (by first | omega | (simp; done) | (simp; omega)) _))
  clear hW
  go_loopw [8] (fun i wr => ∃ (k : Nat), k ≤ 2 ∧ i = .int .i64 k ∧ Hid (1 ≤ k → (s.a &&& t.a != 0) = false) ∧ Hid (2 ≤ k → (s.b &&& t.b != 0) = false) ∧ Below W.heap.size W wr) (fun i _ => 2 - (intOf i).toNat)
  case atStart => exact ⟨0, by omega, rfl, (fun h => absurd h (by omega)), (fun h => absurd h (by omega)), Below.refl _ _⟩
  case round =>
    obtain ⟨k, hk, rfl, H1, H2, hb⟩ := hrel
    have z0 := cell_later hb y0
    have z1 := cell_later hb y1
    have hzr := cellLt z0
    have hbF := hbW.trans (hb.mono hbW.size)
    have hk3 : k = 0 ∨ k = 1 ∨ k = 2 := by omega
    rcases hk3 with rfl | rfl | rfl
    · cases hA : (s.a &&& t.a != 0)
      · have hX : (bits .and .u64 (s.a : Int) (t.a : Int) != 0) = false := by rw [HA.out, hA]
        have H1' : Hid (1 ≤ 0 + 1 → (s.a &&& t.a != 0) = false) := fun _ => hA
        clear hA
        go_wp2_with fail
        go_roundw
        case rel => exact ⟨0 + 1, by omega, by go_num, (by first | exact H1' | exact fun _ => trivial), (fun h => absurd h (by omega)), hb⟩
        case measure => simp [intOf]
      · have hX : (bits .and .u64 (s.a : Int) (t.a : Int) != 0) = true := by rw [HA.out, hA]
        have HM : Hid (meetsF s t = true) := by unfold Hid meetsF; rw [hA]; rfl
        clear hA
        go_wp2_with fail
        go_ret
        exact ⟨ret_bool HM.out.symm, hbF⟩
    · cases hB : (s.b &&& t.b != 0)
      · have hX : (bits .and .u64 (s.b : Int) (t.b : Int) != 0) = false := by rw [HB.out, hB]
        have H2' : Hid (2 ≤ 1 + 1 → (s.b &&& t.b != 0) = false) := fun _ => hB
        have H1' : Hid (1 ≤ 1 + 1 → (s.a &&& t.a != 0) = false) := fun _ => H1.out (by omega)
        clear hB
        go_wp2_with fail
        go_roundw
        case rel => exact ⟨1 + 1, by omega, by go_num, H1', (by first | exact H2' | exact fun _ => trivial), hb⟩
        case measure => simp [intOf]
      · have hX : (bits .and .u64 (s.b : Int) (t.b : Int) != 0) = true := by rw [HB.out, hB]
        have HM : Hid (meetsF s t = true) := by unfold Hid meetsF; rw [hB]; simp
        clear hB
        go_wp2_with fail
        go_ret
        exact ⟨ret_bool HM.out.symm, hbF⟩
    · have HM : Hid (meetsF s t = false) := by unfold Hid meetsF; rw [H1.out (by omega), H2.out (by omega)]; rfl
      go_wp2_with fail
      go_ret
      exact ⟨ret_bool HM.out.symm, hbF⟩

/-! The small functions that are handed in. -/

def prtV (p : MPart) : Value := .agg #[.int .i64 p.piece, .int .i64 p.lo, .int .i64 p.hi]
def lieV (p : MEnd) : Value := .agg #[.int .i64 p.piece, .int .i64 p.side]

theorem partKey_any (p : MPart) (w : World) : Calls Try.prog 110 #[prtV p] w fun e w' => e = .returned (.int .i64 p.piece) ∧ Below w.heap.size w w' := by
  unfold prtV
  go_enter Try.func110, Try.ntmps110
  go_wp2_with fail
  go_ret
  exact ⟨rfl, (by repeat (first | exact Below.refl _ _ | assumption | refine Below.drew ?_ | refine bdrewN ?_ _ | refine Below.setCell ?_ (by first | omega | (simp; done) | (simp; omega)) _ | refine Below.alloc ?_ (by first | omega | (simp; done) | (simp; omega)) _))⟩
theorem lieKey_any (p : MEnd) (w : World) : Calls Try.prog 114 #[lieV p] w fun e w' => e = .returned (.int .i64 p.piece) ∧ Below w.heap.size w w' := by
  unfold lieV
  go_enter Try.func114, Try.ntmps114
  go_wp2_with fail
  go_ret
  exact ⟨rfl, (by repeat (first | exact Below.refl _ _ | assumption | refine Below.drew ?_ | refine bdrewN ?_ _ | refine Below.setCell ?_ (by first | omega | (simp; done) | (simp; omega)) _ | refine Below.alloc ?_ (by first | omega | (simp; done) | (simp; omega)) _))⟩
theorem ownKey_any (n : Int) (w : World) : Calls Try.prog 112 #[.int .i64 n] w fun e w' => e = .returned (.int .i64 n) ∧ Below w.heap.size w w' := by
  go_enter Try.func112, Try.ntmps112
  go_wp2_with fail
  go_ret
  exact ⟨rfl, (by repeat (first | exact Below.refl _ _ | assumption | refine Below.drew ?_ | refine bdrewN ?_ _ | refine Below.setCell ?_ (by first | omega | (simp; done) | (simp; omega)) _ | refine Below.alloc ?_ (by first | omega | (simp; done) | (simp; omega)) _))⟩
theorem sameNumber_any (n m : Int) (w : World) : Calls Try.prog 118 #[.int .i64 n, .int .i64 m] w fun e w' => e = .returned (.bool (n == m)) ∧ Below w.heap.size w w' := by
  go_enter Try.func118, Try.ntmps118
  go_wp2_with fail
  go_ret
  exact ⟨rfl, (by repeat (first | exact Below.refl _ _ | assumption | refine Below.drew ?_ | refine bdrewN ?_ _ | refine Below.setCell ?_ (by first | omega | (simp; done) | (simp; omega)) _ | refine Below.alloc ?_ (by first | omega | (simp; done) | (simp; omega)) _))⟩
theorem contradicts_any (x y : MEnd) (w : World) : Calls Try.prog 120 #[lieV x, lieV y] w fun e w' => e = .returned (.bool (x.piece == y.piece && x.side != y.side)) ∧ Below w.heap.size w w' := by
  unfold lieV
  go_enter Try.func120, Try.ntmps120
  cases t1 : (x.piece == y.piece) <;> cases t2 : (x.side != y.side)
  all_goals
    go_wp2_with fail
    go_ret
    exact ⟨rfl, (by repeat (first | exact Below.refl _ _ | assumption | refine Below.drew ?_ | refine bdrewN ?_ _ | refine Below.setCell ?_ (by first | omega | (simp; done) | (simp; omega)) _ | refine Below.alloc ?_ (by first | omega | (simp; done) | (simp; omega)) _))⟩
theorem touches_any (x y : MPart) (w : World) : Calls Try.prog 116 #[prtV x, prtV y] w fun e w' => e = .returned (.bool (touchP x y)) ∧ Below w.heap.size w w' := by
  unfold prtV touchP
  go_enter Try.func116, Try.ntmps116
  cases t1 : (x.piece == y.piece) <;> cases t2 : decide (x.lo ≤ y.hi) <;> cases t3 : decide (y.lo ≤ x.hi)
  all_goals
    go_wp2_with fail
    go_ret
    exact ⟨rfl, (by repeat (first | exact Below.refl _ _ | assumption | refine Below.drew ?_ | refine bdrewN ?_ _ | refine Below.setCell ?_ (by first | omega | (simp; done) | (simp; omega)) _ | refine Below.alloc ?_ (by first | omega | (simp; done) | (simp; omega)) _))⟩

end Go.Proofs.Ytmkdgnmmebldgaa

namespace Go.Proofs.Ytmkdgnmmebldgaa
open Go.RowKit Go.Deep

def fnV (f : FuncId) : Value := .func (.func f) #[] #[]
def keyedV (a : Option Addr) (n c : Nat) (s : MSet) : Value := .agg #[.slice a n c, .int .u64 s.a, .int .u64 s.b]
theorem keys_take {α : Type} (key : α → Int) (xs : List α) (k : Nat) (hk : k < xs.length) : keysF ((xs.take (k + 1)).map key) = withF (keysF ((xs.take k).map key)) (key xs[k]) := by
  rw [List.take_succ_eq_append_getElem hk, List.map_append, List.map_cons, List.map_nil, keys_snoc]

/-- The box of a list with its keys. -/
def KBox (w : World) (B : Nat) (T : TypeId) (a : Option Addr) (n c : Nat) (s : MSet) : Prop := ∃ f, w.rowIs B T 3 f ∧ f 0 = .slice a n c ∧ f 1 = .int .u64 s.a ∧ f 2 = .int .u64 s.b
theorem KBox.kept {w w' : World} {B : Nat} {T : TypeId} {a : Option Addr} {n c : Nat} {s : MSet} (h : KBox w B T a n c s) (e : w'.heap[B]? = w.heap[B]?) : KBox w' B T a n c s := by
  obtain ⟨f, h1, h2⟩ := h
  exact ⟨f, h1.of_block e, h2⟩
theorem KBox.c0 {w : World} {B : Nat} {T : TypeId} {a : Option Addr} {n c : Nat} {s : MSet} (h : KBox w B T a n c s) : w.cell? ⟨B, 0, none⟩ = some (.slice a n c) := by
  obtain ⟨f, h1, h2, h3, h4⟩ := h
  rw [h1.cell (by omega), h2]
theorem KBox.c1 {w : World} {B : Nat} {T : TypeId} {a : Option Addr} {n c : Nat} {s : MSet} (h : KBox w B T a n c s) : w.cell? ⟨B, 1, none⟩ = some (.int .u64 s.a) := by
  obtain ⟨f, h1, h2, h3, h4⟩ := h
  rw [h1.cell (by omega), h3]
theorem KBox.c2 {w : World} {B : Nat} {T : TypeId} {a : Option Addr} {n c : Nat} {s : MSet} (h : KBox w B T a n c s) : w.cell? ⟨B, 2, none⟩ = some (.int .u64 s.b) := by
  obtain ⟨f, h1, h2, h3, h4⟩ := h
  rw [h1.cell (by omega), h4]
theorem KBox.lt {w : World} {B : Nat} {T : TypeId} {a : Option Addr} {n c : Nat} {s : MSet} (h : KBox w B T a n c s) : B < w.heap.size := cellLt h.c0
theorem KBox.below {w w' : World} {B : Nat} {T : TypeId} {a : Option Addr} {n c : Nat} {s : MSet} (h : KBox w B T a n c s) (hb : Below w.heap.size w w') : KBox w' B T a n c s := h.kept (hb.block B h.lt)
theorem KBox.frozen {w : World} {B : Nat} {T : TypeId} {a : Option Addr} {n c : Nat} {s : MSet} (h : KBox w B T a n c s) (i : Nat) : w.frozen? ⟨B, i, none⟩ = false := by
  obtain ⟨f, h1, _⟩ := h
  exact h1.frozen i
theorem KBox.setS {w : World} {B : Nat} {T : TypeId} {a : Option Addr} {n c : Nat} {s : MSet} (h : KBox w B T a n c s) (s' : MSet) : KBox ((w.setCell ⟨B, 1, none⟩ (.int .u64 s'.a)).setCell ⟨B, 2, none⟩ (.int .u64 s'.b)) B T a n c s' := by
  obtain ⟨f, h1, h2, h3, h4⟩ := h
  exact ⟨_, (h1.set 1 _).set 2 _, by simpa using h2, by simp, by simp⟩
theorem KBox.made (w : World) (T : TypeId) (a : Option Addr) (n c : Nat) (s : MSet) : KBox (w.alloc (.cells #[.slice a n c, .int .u64 s.a, .int .u64 s.b] T)) w.heap.size T a n c s :=
  ⟨_, row_of_alloc w #[.slice a n c, .int .u64 s.a, .int .u64 s.b] T, rfl, rfl, rfl⟩

set_option maxRecDepth 8000 in
set_option maxHeartbeats 4000000 in
theorem keyedByP_any (a : Option Addr) (c : Nat) (xs : List MPart) (w : World) (ha : Hid (PartsAt w a xs)) :
    Calls Try.prog 109 #[.slice a xs.length c, fnV 110] w fun e w' => e = .returned (keyedV a xs.length c (keysF (xs.map MPart.piece))) ∧ Below w.heap.size w w' := by
  have hl := ha.out.1
  unfold maxLen at hl
  unfold keyedV fnV
  go_enter Try.func109, Try.ntmps109
  go_wp2_with fail
  generalize hW : (w.alloc _).alloc _ = W
  have HQ0 : Hid (KBox W w.heap.size 110 none 0 0 emptyF) := by rw [← hW]; exact (KBox.made w _ none 0 0 emptyF).below (by repeat (first | exact Below.refl _ _ | assumption | refine Below.drew ?_ | refine bdrewN ?_ _ | refine Below.setCell ?_ (by first | omega | (simp; done) | (simp; omega)) _ | refine Below.alloc ?_ (by first | omega | (simp; done) | (simp; omega)) _))
  have HK0 : Hid (KBox W (w.heap.size + 1) 110 a xs.length c (keysF ((xs.take 0).map MPart.piece))) := by rw [← hW]; have h := KBox.made (w.alloc (Obj.cells #[Value.slice none 0 0, Value.int IntKind.u64 0, Value.int IntKind.u64 0] 110)) 110 a xs.length c emptyF; rw [show (w.alloc (Obj.cells #[Value.slice none 0 0, Value.int IntKind.u64 0, Value.int IntKind.u64 0] 110)).heap.size = w.heap.size + 1 by simp] at h; exact h
  have hbW : Below w.heap.size w W := by rw [← hW]; exact (by repeat (first | exact Below.refl _ _ | assumption | refine Below.drew ?_ | refine bdrewN ?_ _ | refine Below.setCell ?_ (by first | omega | (simp; done) | (simp; omega)) _ | refine Below.alloc ?_ (by first | omega | (simp; done) | (simp; omega)) _))
  clear hW
  go_loopw [12] (fun i wr => ∃ (k : Nat), k ≤ xs.length ∧ i = .int .i64 k ∧ Hid (KBox wr w.heap.size 110 none 0 0 emptyF) ∧ Hid (KBox wr (w.heap.size + 1) 110 a xs.length c (keysF ((xs.take k).map MPart.piece))) ∧ Below w.heap.size w wr) (fun i _ => xs.length - (intOf i).toNat)
  case atStart => exact ⟨0, Nat.zero_le _, rfl, HQ0, HK0, hbW⟩
  case round =>
    clear HQ0 HK0 hbW
    obtain ⟨k, hk, rfl, HQ, HK, hb⟩ := hrel
    have hbs := hb.size
    by_cases hk' : k < xs.length
    · obtain ⟨b1, off1, rfl, hpc⟩ := ha.out.2.resolve_left (fun h => by rw [h] at hk'; exact absurd hk' (Nat.not_lt_zero _))
      obtain ⟨c0, c1, c2⟩ := (hpc.below hb) k hk'
      have HS := hidP (keys_take MPart.piece xs k hk')
      have HOk := hidP (keysF_ok ((xs.take k).map MPart.piece))
      generalize keysF ((xs.take k).map MPart.piece) = s at HK HS HOk
      have kc0 := HK.out.c0
      have kc1 := HK.out.c1
      have kc2 := HK.out.c2
      have hzk := HK.out.lt
      have hzk' : w.heap.size < wr.heap.size := by omega
      clear hpc
      go_wp2_with fail
      generalize hW2 : wr.alloc _ = W2
      have hbw2 : Below wr.heap.size wr W2 := by rw [← hW2]; exact (by repeat (first | exact Below.refl _ _ | assumption | refine Below.drew ?_ | refine bdrewN ?_ _ | refine Below.setCell ?_ (by first | omega | (simp; done) | (simp; omega)) _ | refine Below.alloc ?_ (by first | omega | (simp; done) | (simp; omega)) _))
      have i0 : W2.cell? ⟨wr.heap.size, 0, none⟩ = some (.int .i64 xs[k].piece) := by rw [← hW2]; simp [go_sem]
      have i1 : W2.cell? ⟨wr.heap.size, 1, none⟩ = some (.int .i64 xs[k].lo) := by rw [← hW2]; simp [go_sem]
      have i2 : W2.cell? ⟨wr.heap.size, 2, none⟩ = some (.int .i64 xs[k].hi) := by rw [← hW2]; simp [go_sem]
      have hzw2 : wr.heap.size < W2.heap.size := cellLt i0
      clear hW2 c0 c1 c2
      replace kc0 := cell_later hbw2 kc0
      replace kc1 := cell_later hbw2 kc1
      replace kc2 := cell_later hbw2 kc2
      have HK2 := hidP (HK.out.below hbw2)
      have HQ2 := hidP (HQ.out.below hbw2)
      replace hzk := Nat.lt_of_lt_of_le hzk hbw2.size
      have hb2w := hb.trans (hbw2.mono hb.size)
      clear HK HQ hbw2 hb hbs hzk'
      go_region_with (first
        | (go_at_call 110; refine (partKey_any xs[k] _).mono ?_; rintro e w2 ⟨rfl, hb2⟩; have hbD : Below W2.heap.size W2 w2 := (Below.refl _ _).drew.trans hb2; have kc1' := cell_later hbD kc1; have kc2' := cell_later hbD kc2; have kc0' := cell_later hbD kc0; have hzk2 := Nat.lt_of_lt_of_le hzk hbD.size)
        | (go_at_call 151; refine (with_any s _ HOk.out _).mono ?_; rintro e w3 ⟨rfl, hb3⟩; unfold setV; have hbE := hbD.trans (hb3.mono hbD.size); have HK3 := hidP (HK2.out.below hbE); have HQ3 := hidP (HQ2.out.below hbE); have kc1'' := HK3.out.c1; have kc2'' := HK3.out.c2; have kf1 := HK3.out.frozen 1; have kf2 := HK3.out.frozen 2; have hzk3 := HK3.out.lt))
      all_goals
        have hb4 := hb2w.trans (hbE.mono hb2w.size)
        have hbs4 := hb4.size
        have HK4 := hidP (HK3.out.setS (withF s xs[k].piece))
        clear hb2 hb3
        go_wp2_with fail
        go_roundw
        case rel => exact ⟨k + 1, by omega, by go_num, HQ3.out.kept (by rw [Below.heap_setCell _ _ _ _ (by simp), Below.heap_setCell _ _ _ _ (by simp)]), by rw [HS.out]; exact HK4, (by repeat (first | exact Below.refl _ _ | assumption | refine Below.drew ?_ | refine bdrewN ?_ _ | refine Below.setCell ?_ (by first | omega | (simp; done) | (simp; omega)) _ | refine Below.alloc ?_ (by first | omega | (simp; done) | (simp; omega)) _))⟩
        case measure => simp [intOf]; omega
    · have HT : Hid (xs.take k = xs) := List.take_of_length_le (by omega)
      rw [HT.out] at HK
      have kc0 := HK.out.c0
      have kc1 := HK.out.c1
      have kc2 := HK.out.c2
      have hzk := HK.out.lt
      have q0 := HQ.out.c0
      have q1 := HQ.out.c1
      have q2 := HQ.out.c2
      have qf0 := HQ.out.frozen 0
      have qf1 := HQ.out.frozen 1
      have qf2 := HQ.out.frozen 2
      have hzk' : w.heap.size < wr.heap.size := by omega
      clear HT HQ HK
      go_wp2_with fail
      exact bodyPost_ret (v := .agg #[.slice a xs.length c, .int .u64 (keysF (xs.map MPart.piece)).a, .int .u64 (keysF (xs.map MPart.piece)).b]) (by simp [results, Try.results109, go_sem, q0, q1, q2]) rfl ⟨rfl, (by repeat (first | exact Below.refl _ _ | assumption | refine Below.drew ?_ | refine bdrewN ?_ _ | refine Below.setCell ?_ (by first | omega | (simp; done) | (simp; omega)) _ | refine Below.alloc ?_ (by first | omega | (simp; done) | (simp; omega)) _))⟩

set_option maxRecDepth 8000 in
set_option maxHeartbeats 4000000 in
theorem keyedByN_any (a : Option Addr) (c : Nat) (xs : List Int) (w : World) (ha : Hid (NumsAt w a xs)) :
    Calls Try.prog 111 #[.slice a xs.length c, fnV 112] w fun e w' => e = .returned (keyedV a xs.length c (keysF (xs.map id))) ∧ Below w.heap.size w w' := by
  have hl := ha.out.1
  unfold maxLen at hl
  unfold keyedV fnV
  go_enter Try.func111, Try.ntmps111
  go_wp2_with fail
  generalize hW : (w.alloc _).alloc _ = W
  have HQ0 : Hid (KBox W w.heap.size 112 none 0 0 emptyF) := by rw [← hW]; exact (KBox.made w _ none 0 0 emptyF).below (by repeat (first | exact Below.refl _ _ | assumption | refine Below.drew ?_ | refine bdrewN ?_ _ | refine Below.setCell ?_ (by first | omega | (simp; done) | (simp; omega)) _ | refine Below.alloc ?_ (by first | omega | (simp; done) | (simp; omega)) _))
  have HK0 : Hid (KBox W (w.heap.size + 1) 112 a xs.length c (keysF ((xs.take 0).map id))) := by rw [← hW]; have h := KBox.made (w.alloc (Obj.cells #[Value.slice none 0 0, Value.int IntKind.u64 0, Value.int IntKind.u64 0] 112)) 112 a xs.length c emptyF; rw [show (w.alloc (Obj.cells #[Value.slice none 0 0, Value.int IntKind.u64 0, Value.int IntKind.u64 0] 112)).heap.size = w.heap.size + 1 by simp] at h; exact h
  have hbW : Below w.heap.size w W := by rw [← hW]; exact (by repeat (first | exact Below.refl _ _ | assumption | refine Below.drew ?_ | refine bdrewN ?_ _ | refine Below.setCell ?_ (by first | omega | (simp; done) | (simp; omega)) _ | refine Below.alloc ?_ (by first | omega | (simp; done) | (simp; omega)) _))
  clear hW
  go_loopw [12] (fun i wr => ∃ (k : Nat), k ≤ xs.length ∧ i = .int .i64 k ∧ Hid (KBox wr w.heap.size 112 none 0 0 emptyF) ∧ Hid (KBox wr (w.heap.size + 1) 112 a xs.length c (keysF ((xs.take k).map id))) ∧ Below w.heap.size w wr) (fun i _ => xs.length - (intOf i).toNat)
  case atStart => exact ⟨0, Nat.zero_le _, rfl, HQ0, HK0, hbW⟩
  case round =>
    clear HQ0 HK0 hbW
    obtain ⟨k, hk, rfl, HQ, HK, hb⟩ := hrel
    have hbs := hb.size
    by_cases hk' : k < xs.length
    · obtain ⟨b1, off1, rfl, hpc⟩ := ha.out.2.resolve_left (fun h => by rw [h] at hk'; exact absurd hk' (Nat.not_lt_zero _))
      have c0 := (hpc.below hb) k hk'
      have HS := hidP (keys_take id xs k hk')
      have HOk := hidP (keysF_ok ((xs.take k).map id))
      generalize keysF ((xs.take k).map id) = s at HK HS HOk
      have kc0 := HK.out.c0
      have kc1 := HK.out.c1
      have kc2 := HK.out.c2
      have hzk := HK.out.lt
      have hzk' : w.heap.size < wr.heap.size := by omega
      clear hpc
      go_wp2_with fail
      generalize hW2 : wr = W2 at *
      have HK2 := HK
      have HQ2 := HQ
      have hb2w := hb
      clear HK HQ hb hbs hzk'
      go_region_with (first
        | (go_at_call 112; refine (ownKey_any _ _).mono ?_; rintro e w2 ⟨rfl, hb2⟩; have hbD : Below W2.heap.size W2 w2 := (Below.refl _ _).drew.trans hb2; have kc1' := cell_later hbD kc1; have kc2' := cell_later hbD kc2; have kc0' := cell_later hbD kc0; have hzk2 := Nat.lt_of_lt_of_le hzk hbD.size)
        | (go_at_call 151; refine (with_any s _ HOk.out _).mono ?_; rintro e w3 ⟨rfl, hb3⟩; unfold setV; have hbE := hbD.trans (hb3.mono hbD.size); have HK3 := hidP (HK2.out.below hbE); have HQ3 := hidP (HQ2.out.below hbE); have kc1'' := HK3.out.c1; have kc2'' := HK3.out.c2; have kf1 := HK3.out.frozen 1; have kf2 := HK3.out.frozen 2; have hzk3 := HK3.out.lt))
      all_goals
        have hb4 := hb2w.trans (hbE.mono hb2w.size)
        have hbs4 := hb4.size
        have HK4 := hidP (HK3.out.setS (withF s xs[k]))
        clear hb2 hb3
        go_wp2_with fail
        go_roundw
        case rel => exact ⟨k + 1, by omega, by go_num, HQ3.out.kept (by rw [Below.heap_setCell _ _ _ _ (by simp), Below.heap_setCell _ _ _ _ (by simp)]), by rw [HS.out]; exact HK4, (by repeat (first | exact Below.refl _ _ | assumption | refine Below.drew ?_ | refine bdrewN ?_ _ | refine Below.setCell ?_ (by first | omega | (simp; done) | (simp; omega)) _ | refine Below.alloc ?_ (by first | omega | (simp; done) | (simp; omega)) _))⟩
        case measure => simp [intOf]; omega
    · have HT : Hid (xs.take k = xs) := List.take_of_length_le (by omega)
      rw [HT.out] at HK
      have kc0 := HK.out.c0
      have kc1 := HK.out.c1
      have kc2 := HK.out.c2
      have hzk := HK.out.lt
      have q0 := HQ.out.c0
      have q1 := HQ.out.c1
      have q2 := HQ.out.c2
      have qf0 := HQ.out.frozen 0
      have qf1 := HQ.out.frozen 1
      have qf2 := HQ.out.frozen 2
      have hzk' : w.heap.size < wr.heap.size := by omega
      clear HT HQ HK
      go_wp2_with fail
      exact bodyPost_ret (v := .agg #[.slice a xs.length c, .int .u64 (keysF (xs.map id)).a, .int .u64 (keysF (xs.map id)).b]) (by simp [results, Try.results111, go_sem, q0, q1, q2]) rfl ⟨rfl, (by repeat (first | exact Below.refl _ _ | assumption | refine Below.drew ?_ | refine bdrewN ?_ _ | refine Below.setCell ?_ (by first | omega | (simp; done) | (simp; omega)) _ | refine Below.alloc ?_ (by first | omega | (simp; done) | (simp; omega)) _))⟩

set_option maxRecDepth 8000 in
set_option maxHeartbeats 4000000 in
theorem keyedByL_any (a : Option Addr) (c : Nat) (xs : List MEnd) (w : World) (ha : Hid (EndsAt w a xs)) :
    Calls Try.prog 113 #[.slice a xs.length c, fnV 114] w fun e w' => e = .returned (keyedV a xs.length c (keysF (xs.map MEnd.piece))) ∧ Below w.heap.size w w' := by
  have hl := ha.out.1
  unfold maxLen at hl
  unfold keyedV fnV
  go_enter Try.func113, Try.ntmps113
  go_wp2_with fail
  generalize hW : (w.alloc _).alloc _ = W
  have HQ0 : Hid (KBox W w.heap.size 114 none 0 0 emptyF) := by rw [← hW]; exact (KBox.made w _ none 0 0 emptyF).below (by repeat (first | exact Below.refl _ _ | assumption | refine Below.drew ?_ | refine bdrewN ?_ _ | refine Below.setCell ?_ (by first | omega | (simp; done) | (simp; omega)) _ | refine Below.alloc ?_ (by first | omega | (simp; done) | (simp; omega)) _))
  have HK0 : Hid (KBox W (w.heap.size + 1) 114 a xs.length c (keysF ((xs.take 0).map MEnd.piece))) := by rw [← hW]; have h := KBox.made (w.alloc (Obj.cells #[Value.slice none 0 0, Value.int IntKind.u64 0, Value.int IntKind.u64 0] 114)) 114 a xs.length c emptyF; rw [show (w.alloc (Obj.cells #[Value.slice none 0 0, Value.int IntKind.u64 0, Value.int IntKind.u64 0] 114)).heap.size = w.heap.size + 1 by simp] at h; exact h
  have hbW : Below w.heap.size w W := by rw [← hW]; exact (by repeat (first | exact Below.refl _ _ | assumption | refine Below.drew ?_ | refine bdrewN ?_ _ | refine Below.setCell ?_ (by first | omega | (simp; done) | (simp; omega)) _ | refine Below.alloc ?_ (by first | omega | (simp; done) | (simp; omega)) _))
  clear hW
  go_loopw [12] (fun i wr => ∃ (k : Nat), k ≤ xs.length ∧ i = .int .i64 k ∧ Hid (KBox wr w.heap.size 114 none 0 0 emptyF) ∧ Hid (KBox wr (w.heap.size + 1) 114 a xs.length c (keysF ((xs.take k).map MEnd.piece))) ∧ Below w.heap.size w wr) (fun i _ => xs.length - (intOf i).toNat)
  case atStart => exact ⟨0, Nat.zero_le _, rfl, HQ0, HK0, hbW⟩
  case round =>
    clear HQ0 HK0 hbW
    obtain ⟨k, hk, rfl, HQ, HK, hb⟩ := hrel
    have hbs := hb.size
    by_cases hk' : k < xs.length
    · obtain ⟨b1, off1, rfl, hpc⟩ := ha.out.2.resolve_left (fun h => by rw [h] at hk'; exact absurd hk' (Nat.not_lt_zero _))
      obtain ⟨c0, c1⟩ := (hpc.below hb) k hk'
      have HS := hidP (keys_take MEnd.piece xs k hk')
      have HOk := hidP (keysF_ok ((xs.take k).map MEnd.piece))
      generalize keysF ((xs.take k).map MEnd.piece) = s at HK HS HOk
      have kc0 := HK.out.c0
      have kc1 := HK.out.c1
      have kc2 := HK.out.c2
      have hzk := HK.out.lt
      have hzk' : w.heap.size < wr.heap.size := by omega
      clear hpc
      go_wp2_with fail
      generalize hW2 : wr.alloc _ = W2
      have hbw2 : Below wr.heap.size wr W2 := by rw [← hW2]; exact (by repeat (first | exact Below.refl _ _ | assumption | refine Below.drew ?_ | refine bdrewN ?_ _ | refine Below.setCell ?_ (by first | omega | (simp; done) | (simp; omega)) _ | refine Below.alloc ?_ (by first | omega | (simp; done) | (simp; omega)) _))
      have i0 : W2.cell? ⟨wr.heap.size, 0, none⟩ = some (.int .i64 xs[k].piece) := by rw [← hW2]; simp [go_sem]
      have i1 : W2.cell? ⟨wr.heap.size, 1, none⟩ = some (.int .i64 xs[k].side) := by rw [← hW2]; simp [go_sem]
      have hzw2 : wr.heap.size < W2.heap.size := cellLt i0
      clear hW2 c0 c1
      replace kc0 := cell_later hbw2 kc0
      replace kc1 := cell_later hbw2 kc1
      replace kc2 := cell_later hbw2 kc2
      have HK2 := hidP (HK.out.below hbw2)
      have HQ2 := hidP (HQ.out.below hbw2)
      replace hzk := Nat.lt_of_lt_of_le hzk hbw2.size
      have hb2w := hb.trans (hbw2.mono hb.size)
      clear HK HQ hbw2 hb hbs hzk'
      go_region_with (first
        | (go_at_call 114; refine (lieKey_any xs[k] _).mono ?_; rintro e w2 ⟨rfl, hb2⟩; have hbD : Below W2.heap.size W2 w2 := (Below.refl _ _).drew.trans hb2; have kc1' := cell_later hbD kc1; have kc2' := cell_later hbD kc2; have kc0' := cell_later hbD kc0; have hzk2 := Nat.lt_of_lt_of_le hzk hbD.size)
        | (go_at_call 151; refine (with_any s _ HOk.out _).mono ?_; rintro e w3 ⟨rfl, hb3⟩; unfold setV; have hbE := hbD.trans (hb3.mono hbD.size); have HK3 := hidP (HK2.out.below hbE); have HQ3 := hidP (HQ2.out.below hbE); have kc1'' := HK3.out.c1; have kc2'' := HK3.out.c2; have kf1 := HK3.out.frozen 1; have kf2 := HK3.out.frozen 2; have hzk3 := HK3.out.lt))
      all_goals
        have hb4 := hb2w.trans (hbE.mono hb2w.size)
        have hbs4 := hb4.size
        have HK4 := hidP (HK3.out.setS (withF s xs[k].piece))
        clear hb2 hb3
        go_wp2_with fail
        go_roundw
        case rel => exact ⟨k + 1, by omega, by go_num, HQ3.out.kept (by rw [Below.heap_setCell _ _ _ _ (by simp), Below.heap_setCell _ _ _ _ (by simp)]), by rw [HS.out]; exact HK4, (by repeat (first | exact Below.refl _ _ | assumption | refine Below.drew ?_ | refine bdrewN ?_ _ | refine Below.setCell ?_ (by first | omega | (simp; done) | (simp; omega)) _ | refine Below.alloc ?_ (by first | omega | (simp; done) | (simp; omega)) _))⟩
        case measure => simp [intOf]; omega
    · have HT : Hid (xs.take k = xs) := List.take_of_length_le (by omega)
      rw [HT.out] at HK
      have kc0 := HK.out.c0
      have kc1 := HK.out.c1
      have kc2 := HK.out.c2
      have hzk := HK.out.lt
      have q0 := HQ.out.c0
      have q1 := HQ.out.c1
      have q2 := HQ.out.c2
      have qf0 := HQ.out.frozen 0
      have qf1 := HQ.out.frozen 1
      have qf2 := HQ.out.frozen 2
      have hzk' : w.heap.size < wr.heap.size := by omega
      clear HT HQ HK
      go_wp2_with fail
      exact bodyPost_ret (v := .agg #[.slice a xs.length c, .int .u64 (keysF (xs.map MEnd.piece)).a, .int .u64 (keysF (xs.map MEnd.piece)).b]) (by simp [results, Try.results113, go_sem, q0, q1, q2]) rfl ⟨rfl, (by repeat (first | exact Below.refl _ _ | assumption | refine Below.drew ?_ | refine bdrewN ?_ _ | refine Below.setCell ?_ (by first | omega | (simp; done) | (simp; omega)) _ | refine Below.alloc ?_ (by first | omega | (simp; done) | (simp; omega)) _))⟩

end Go.Proofs.Ytmkdgnmmebldgaa
