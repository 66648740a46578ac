import Derived.Test.YtmkdgnmmebldgabSClaimOf
namespace Go.Proofs.Ytmkdgnmmebldgab
open Go.RowKit Go.Deep

set_option maxRecDepth 8000 in
set_option maxHeartbeats 4000000 in
theorem implExclude_any (d d' : RAddr) (a b : MRoute) (w : World) (ha : Hid (RListsAt w d a)) (hb : Hid (RListsAt w d' b)) (hsa : Hid (ShortN a)) (hsb : Hid (ShortN b)) (hwa : Hid (WfR a)) (hwb : Hid (WfR b)) :
    Calls Try.prog 8 #[routeV d a, routeV d' b] w fun e w' => e = .returned (.int .i64 (exclF a b)) ∧ Below w.heap.size w w' := by
  unfold routeV
  go_enter Try.func8, Try.ntmps8
  go_wp2_with fail
  generalize hW : (w.alloc _).alloc _ = W
  have HA : Hid (RouteCell W w.heap.size 0 d a) := by rw [← hW]; exact (routeCell_box w d a _).below (by repeat (first | exact Below.refl _ _ | assumption | refine Below.drew ?_ | refine bdrewN ?_ _ | refine Below.setCell ?_ (by first | omega | (simp; done) | (simp; omega)) _ | refine Below.alloc ?_ (by first | omega | (simp; done) | (simp; omega)) _))
  have HB : Hid (RouteCell W (w.heap.size + 1) 0 d' b) := by rw [← hW]; exact routeCell_box2 _ _ _ _ _
  have hbW : Below w.heap.size w W := by rw [← hW]; exact (by repeat (first | exact Below.refl _ _ | assumption | refine Below.drew ?_ | refine bdrewN ?_ _ | refine Below.setCell ?_ (by first | omega | (simp; done) | (simp; omega)) _ | refine Below.alloc ?_ (by first | omega | (simp; done) | (simp; omega)) _))
  have hz : w.heap.size + 1 < W.heap.size := by rw [← hW]; simp
  have hz' : w.heap.size < W.heap.size := by omega
  have LA := hidP (ha.out.below hbW)
  have LB := hidP (hb.out.below hbW)
  clear hW ha hb
  have a0 : W.cell? ⟨w.heap.size, 0, none⟩ = some (.int .i64 a.start) := HA.out.k0
  have a1 : W.cell? ⟨w.heap.size, 1, none⟩ = some (.int .i64 a.stop) := HA.out.k1
  have a2 : W.cell? ⟨w.heap.size, 2, none⟩ = some (.slice d.a0 a.steps.length d.c0) := HA.out.k2
  have a3 : W.cell? ⟨w.heap.size, 3, none⟩ = some (.slice d.a1 a.lies.length d.c1) := HA.out.k3
  have a4 : W.cell? ⟨w.heap.size, 4, none⟩ = some (.slice d.a2 a.crosses.length d.c2) := HA.out.k4
  have a5 : W.cell? ⟨w.heap.size, 5, none⟩ = some (.slice d.a3 a.parts.length d.c3) := HA.out.k5
  have a6 : W.cell? ⟨w.heap.size, 6, none⟩ = some (.slice d.a4 a.over.length d.c4) := HA.out.k6
  have a7 : W.cell? ⟨w.heap.size, 7, none⟩ = some (.slice d.a5 a.flanks.length d.c5) := HA.out.k7
  have b0 : W.cell? ⟨w.heap.size + 1, 0, none⟩ = some (.int .i64 b.start) := HB.out.k0
  have b1 : W.cell? ⟨w.heap.size + 1, 1, none⟩ = some (.int .i64 b.stop) := HB.out.k1
  have b2 : W.cell? ⟨w.heap.size + 1, 2, none⟩ = some (.slice d'.a0 b.steps.length d'.c0) := HB.out.k2
  have b3 : W.cell? ⟨w.heap.size + 1, 3, none⟩ = some (.slice d'.a1 b.lies.length d'.c1) := HB.out.k3
  have b4 : W.cell? ⟨w.heap.size + 1, 4, none⟩ = some (.slice d'.a2 b.crosses.length d'.c2) := HB.out.k4
  have b5 : W.cell? ⟨w.heap.size + 1, 5, none⟩ = some (.slice d'.a3 b.parts.length d'.c3) := HB.out.k5
  have b6 : W.cell? ⟨w.heap.size + 1, 6, none⟩ = some (.slice d'.a4 b.over.length d'.c4) := HB.out.k6
  have b7 : W.cell? ⟨w.heap.size + 1, 7, none⟩ = some (.slice d'.a5 b.flanks.length d'.c5) := HB.out.k7
  clear HA HB
  go_region_held3 (fun w' => w'.cell? ⟨w.heap.size, 0, none⟩ = some (.int .i64 a.start) ∧ w'.cell? ⟨w.heap.size, 1, none⟩ = some (.int .i64 a.stop) ∧ w'.cell? ⟨w.heap.size, 2, none⟩ = some (.slice d.a0 a.steps.length d.c0) ∧ w'.cell? ⟨w.heap.size, 3, none⟩ = some (.slice d.a1 a.lies.length d.c1) ∧ w'.cell? ⟨w.heap.size, 4, none⟩ = some (.slice d.a2 a.crosses.length d.c2) ∧ w'.cell? ⟨w.heap.size, 5, none⟩ = some (.slice d.a3 a.parts.length d.c3) ∧ w'.cell? ⟨w.heap.size, 6, none⟩ = some (.slice d.a4 a.over.length d.c4) ∧ w'.cell? ⟨w.heap.size, 7, none⟩ = some (.slice d.a5 a.flanks.length d.c5) ∧ w'.cell? ⟨w.heap.size + 1, 0, none⟩ = some (.int .i64 b.start) ∧ w'.cell? ⟨w.heap.size + 1, 1, none⟩ = some (.int .i64 b.stop) ∧ w'.cell? ⟨w.heap.size + 1, 2, none⟩ = some (.slice d'.a0 b.steps.length d'.c0) ∧ w'.cell? ⟨w.heap.size + 1, 3, none⟩ = some (.slice d'.a1 b.lies.length d'.c1) ∧ w'.cell? ⟨w.heap.size + 1, 4, none⟩ = some (.slice d'.a2 b.crosses.length d'.c2) ∧ w'.cell? ⟨w.heap.size + 1, 5, none⟩ = some (.slice d'.a3 b.parts.length d'.c3) ∧ w'.cell? ⟨w.heap.size + 1, 6, none⟩ = some (.slice d'.a4 b.over.length d'.c4) ∧ w'.cell? ⟨w.heap.size + 1, 7, none⟩ = some (.slice d'.a5 b.flanks.length d'.c5)) (first | go_keep | (refine ⟨?_, ?_, ?_, ?_, ?_, ?_, ?_, ?_, ?_, ?_, ?_, ?_, ?_, ?_, ?_, ?_⟩ <;> assumption))
    (first
      | (go_at_call_of 31 (a.start); refine (claimOf_any d a W.drew (LA.out.below (Below.refl _ _).drew) hsa hwa).mono ?_; rintro e w1 ⟨da, rfl, hc1', _, hb1'⟩; have hc1 := hidP (hc1'.out.at hb1'); clear hc1'; have hb1 : Below W.heap.size W w1 := (Below.refl _ _).drew.trans hb1'; replace a0 := cell_later hb1 a0; replace a1 := cell_later hb1 a1; replace a2 := cell_later hb1 a2; replace a3 := cell_later hb1 a3; replace a4 := cell_later hb1 a4; replace a5 := cell_later hb1 a5; replace a6 := cell_later hb1 a6; replace a7 := cell_later hb1 a7; replace b0 := cell_later hb1 b0; replace b1 := cell_later hb1 b1; replace b2 := cell_later hb1 b2; replace b3 := cell_later hb1 b3; replace b4 := cell_later hb1 b4; replace b5 := cell_later hb1 b5; replace b6 := cell_later hb1 b6; replace b7 := cell_later hb1 b7; clear hb1'; unfold claimV)
      | (go_at_call_of 31 (b.start); refine (claimOf_any d' b w1 (LB.out.below hb1) hsb hwb).mono ?_; rintro e w2 ⟨db, rfl, hc2', _, hb2'⟩; have hc2 := hidP (hc2'.out.at hb2'); clear hc2'; have hb2 := hb1.trans (hb2'.mono hb1.size); have hc1' := hidP (hc1.out.below hb2'); replace a0 := cell_later hb2' a0; replace a1 := cell_later hb2' a1; replace a2 := cell_later hb2' a2; replace a3 := cell_later hb2' a3; replace a4 := cell_later hb2' a4; replace a5 := cell_later hb2' a5; replace a6 := cell_later hb2' a6; replace a7 := cell_later hb2' a7; replace b0 := cell_later hb2' b0; replace b1 := cell_later hb2' b1; replace b2 := cell_later hb2' b2; replace b3 := cell_later hb2' b3; replace b4 := cell_later hb2' b4; replace b5 := cell_later hb2' b5; replace b6 := cell_later hb2' b6; replace b7 := cell_later hb2' b7; clear hb2'; unfold claimV)
      | (go_at_call 32; refine (against_any da db (claimF a) (claimF b) w2 hc1' hc2).mono ?_; rintro e w3 ⟨rfl, hb3'⟩; have hb3 := hb2.trans (hb3'.mono hb2.size); replace a0 := cell_later hb3' a0; replace a1 := cell_later hb3' a1; replace a2 := cell_later hb3' a2; replace a3 := cell_later hb3' a3; replace a4 := cell_later hb3' a4; replace a5 := cell_later hb3' a5; replace a6 := cell_later hb3' a6; replace a7 := cell_later hb3' a7; replace b0 := cell_later hb3' b0; replace b1 := cell_later hb3' b1; replace b2 := cell_later hb3' b2; replace b3 := cell_later hb3' b3; replace b4 := cell_later hb3' b4; replace b5 := cell_later hb3' b5; replace b6 := cell_later hb3' b6; replace b7 := cell_later hb3' b7; clear hb3'))
  all_goals
    clear a0 a1 a2 a3 a4 a5 a6 a7 b0 b1 b2 b3 b4 b5 b6 b7
    have HX := hidP (exclC_eq a b)
    go_wp2_with fail
    go_ret
    exact ⟨ret_int HX.out, hbW.trans (hb3.mono hbW.size)⟩

end Go.Proofs.Ytmkdgnmmebldgab
