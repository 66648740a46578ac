import Derived.Test.YtmkdgnmmebldgabSExcl
import Derived.Test.YtmkdgnmmebldgabLNeeds
namespace Go.Proofs.Ytmkdgnmmebldgab
open Go.RowKit Go.Deep

theorem LensR.short {r : MRoute} (h : LensR r) : ShortN r := ⟨h.lies, h.flanks⟩

set_option maxRecDepth 8000 in
set_option maxHeartbeats 8000000 in
theorem lawExclude_any (da db : RAddr) (a b : MRoute) (w : World) (hla : Hid (RListsAt w da a)) (hlb : Hid (RListsAt w db b)) (hwa : Hid (WfR a)) (hwb : Hid (WfR b)) :
    Calls Try.prog 3 #[routeV da a, routeV db b] w fun e w' => e = .returned (.bool true) ∧ Below w.heap.size w w' := by
  unfold routeV
  go_enter Try.func3, Try.ntmps3
  go_wp2_with fail
  generalize hW : (w.alloc _).alloc _ = W
  have HA : Hid (RouteCell W w.heap.size 0 da a) := by rw [← hW]; exact (routeCell_box w da a _).below (by repeat (first | exact Below.refl _ _ | assumption | refine Below.drew ?_ | refine bdrewN ?_ _ | refine Below.setCell ?_ (by first | omega | (simp; done) | (simp; omega)) _ | refine Below.alloc ?_ (by first | omega | (simp; done) | (simp; omega)) _))
  have HB : Hid (RouteCell W (w.heap.size + 1) 0 db b) := by rw [← hW]; exact routeCell_box2 _ _ _ _ _
  have hzA : w.heap.size + 1 < W.heap.size := by rw [← hW]; simp
  have hbW : Below w.heap.size w W := by rw [← hW]; exact (by repeat (first | exact Below.refl _ _ | assumption | refine Below.drew ?_ | refine bdrewN ?_ _ | refine Below.setCell ?_ (by first | omega | (simp; done) | (simp; omega)) _ | refine Below.alloc ?_ (by first | omega | (simp; done) | (simp; omega)) _))
  have LA := hidP (hla.out.below hbW)
  have LB := hidP (hlb.out.below hbW)
  clear hW hla hlb
  refine (szRoute_any da a _ _ LA (by omega) (by omega)).mono ?_
  rintro e w1 ⟨s, rfl, hs1, _, hs, hb1⟩
  have HS := hidP hs
  have H1 := hidP hb1
  by_cases hs0 : s < 0
  · clear hs hb1
    go_wp2_with fail
    go_ret
    exact ⟨rfl, hbW.trans (H1.out.mono hbW.size)⟩
  have NA : Hid (LensR a) := HS.out (by omega)
  have hz1 : w.heap.size + 1 < w1.heap.size := Nat.lt_of_lt_of_le hzA hb1.size
  clear hs hb1 HS
  have b0 : w1.cell? ⟨(w.heap.size + 1), 0, none⟩ = some (.int .i64 b.start) := (HB.out.below H1.out).k0
  have b1 : w1.cell? ⟨(w.heap.size + 1), 1, none⟩ = some (.int .i64 b.stop) := (HB.out.below H1.out).k1
  have b2 : w1.cell? ⟨(w.heap.size + 1), 2, none⟩ = some (.slice db.a0 b.steps.length db.c0) := (HB.out.below H1.out).k2
  have b3 : w1.cell? ⟨(w.heap.size + 1), 3, none⟩ = some (.slice db.a1 b.lies.length db.c1) := (HB.out.below H1.out).k3
  have b4 : w1.cell? ⟨(w.heap.size + 1), 4, none⟩ = some (.slice db.a2 b.crosses.length db.c2) := (HB.out.below H1.out).k4
  have b5 : w1.cell? ⟨(w.heap.size + 1), 5, none⟩ = some (.slice db.a3 b.parts.length db.c3) := (HB.out.below H1.out).k5
  have b6 : w1.cell? ⟨(w.heap.size + 1), 6, none⟩ = some (.slice db.a4 b.over.length db.c4) := (HB.out.below H1.out).k6
  have b7 : w1.cell? ⟨(w.heap.size + 1), 7, none⟩ = some (.slice db.a5 b.flanks.length db.c5) := (HB.out.below H1.out).k7
  go_wp2_with fail
  clear b0 b1 b2 b3 b4 b5 b6 b7
  refine (szRoute_any db b _ _ (LB.out.below H1.out) (by omega) (by omega)).mono ?_
  rintro e w2 ⟨s2, rfl, _, _, hs, hb2⟩
  have HS := hidP hs
  have H2 := hidP (H1.out.trans (hb2.mono H1.out.size))
  by_cases hs2 : s2 < 0
  · clear hs hb2
    go_wp2_with fail
    go_ret
    exact ⟨rfl, hbW.trans (H2.out.mono hbW.size)⟩
  have NB : Hid (LensR b) := HS.out (by omega)
  have hz2 : w.heap.size + 1 < w2.heap.size := Nat.lt_of_lt_of_le hzA H2.out.size
  have hz2' : w.heap.size < w2.heap.size := by omega
  clear hs hb2 HS hz1
  have a0 : w2.cell? ⟨w.heap.size, 0, none⟩ = some (.int .i64 a.start) := (HA.out.below H2.out).k0
  have a1 : w2.cell? ⟨w.heap.size, 1, none⟩ = some (.int .i64 a.stop) := (HA.out.below H2.out).k1
  have a2 : w2.cell? ⟨w.heap.size, 2, none⟩ = some (.slice da.a0 a.steps.length da.c0) := (HA.out.below H2.out).k2
  have a3 : w2.cell? ⟨w.heap.size, 3, none⟩ = some (.slice da.a1 a.lies.length da.c1) := (HA.out.below H2.out).k3
  have a4 : w2.cell? ⟨w.heap.size, 4, none⟩ = some (.slice da.a2 a.crosses.length da.c2) := (HA.out.below H2.out).k4
  have a5 : w2.cell? ⟨w.heap.size, 5, none⟩ = some (.slice da.a3 a.parts.length da.c3) := (HA.out.below H2.out).k5
  have a6 : w2.cell? ⟨w.heap.size, 6, none⟩ = some (.slice da.a4 a.over.length da.c4) := (HA.out.below H2.out).k6
  have a7 : w2.cell? ⟨w.heap.size, 7, none⟩ = some (.slice da.a5 a.flanks.length da.c5) := (HA.out.below H2.out).k7
  have b0 : w2.cell? ⟨(w.heap.size + 1), 0, none⟩ = some (.int .i64 b.start) := (HB.out.below H2.out).k0
  have b1 : w2.cell? ⟨(w.heap.size + 1), 1, none⟩ = some (.int .i64 b.stop) := (HB.out.below H2.out).k1
  have b2 : w2.cell? ⟨(w.heap.size + 1), 2, none⟩ = some (.slice db.a0 b.steps.length db.c0) := (HB.out.below H2.out).k2
  have b3 : w2.cell? ⟨(w.heap.size + 1), 3, none⟩ = some (.slice db.a1 b.lies.length db.c1) := (HB.out.below H2.out).k3
  have b4 : w2.cell? ⟨(w.heap.size + 1), 4, none⟩ = some (.slice db.a2 b.crosses.length db.c2) := (HB.out.below H2.out).k4
  have b5 : w2.cell? ⟨(w.heap.size + 1), 5, none⟩ = some (.slice db.a3 b.parts.length db.c3) := (HB.out.below H2.out).k5
  have b6 : w2.cell? ⟨(w.heap.size + 1), 6, none⟩ = some (.slice db.a4 b.over.length db.c4) := (HB.out.below H2.out).k6
  have b7 : w2.cell? ⟨(w.heap.size + 1), 7, none⟩ = some (.slice db.a5 b.flanks.length db.c5) := (HB.out.below H2.out).k7
  go_wp2_with fail
  go_region_held3 (fun w' => w'.cell? ⟨w.heap.size, 0, none⟩ = some (.int .i64 a.start) ∧ w'.cell? ⟨w.heap.size, 1, none⟩ = some (.int .i64 a.stop) ∧ w'.cell? ⟨w.heap.size, 2, none⟩ = some (.slice da.a0 a.steps.length da.c0) ∧ w'.cell? ⟨w.heap.size, 3, none⟩ = some (.slice da.a1 a.lies.length da.c1) ∧ w'.cell? ⟨w.heap.size, 4, none⟩ = some (.slice da.a2 a.crosses.length da.c2) ∧ w'.cell? ⟨w.heap.size, 5, none⟩ = some (.slice da.a3 a.parts.length da.c3) ∧ w'.cell? ⟨w.heap.size, 6, none⟩ = some (.slice da.a4 a.over.length da.c4) ∧ w'.cell? ⟨w.heap.size, 7, none⟩ = some (.slice da.a5 a.flanks.length da.c5) ∧ w'.cell? ⟨w.heap.size + 1, 0, none⟩ = some (.int .i64 b.start) ∧ w'.cell? ⟨w.heap.size + 1, 1, none⟩ = some (.int .i64 b.stop) ∧ w'.cell? ⟨w.heap.size + 1, 2, none⟩ = some (.slice db.a0 b.steps.length db.c0) ∧ w'.cell? ⟨w.heap.size + 1, 3, none⟩ = some (.slice db.a1 b.lies.length db.c1) ∧ w'.cell? ⟨w.heap.size + 1, 4, none⟩ = some (.slice db.a2 b.crosses.length db.c2) ∧ w'.cell? ⟨w.heap.size + 1, 5, none⟩ = some (.slice db.a3 b.parts.length db.c3) ∧ w'.cell? ⟨w.heap.size + 1, 6, none⟩ = some (.slice db.a4 b.over.length db.c4) ∧ w'.cell? ⟨w.heap.size + 1, 7, none⟩ = some (.slice db.a5 b.flanks.length db.c5)) (first | go_keep | (refine ⟨?_, ?_, ?_, ?_, ?_, ?_, ?_, ?_, ?_, ?_, ?_, ?_, ?_, ?_, ?_, ?_⟩ <;> assumption))
    (first
      | (go_at_call_of 7 (a.start); refine (toRoute_row da a w2.drew (LA.out.below H2.out.drew) NA).mono ?_; rintro e w3 ⟨g3, rfl, hr3, hb3⟩; have hb23 : Below w2.heap.size w2 w3 := (Below.refl _ _).drew.trans hb3; replace a0 := cell_later hb23 a0; replace a1 := cell_later hb23 a1; replace a2 := cell_later hb23 a2; replace a3 := cell_later hb23 a3; replace a4 := cell_later hb23 a4; replace a5 := cell_later hb23 a5; replace a6 := cell_later hb23 a6; replace a7 := cell_later hb23 a7; replace b0 := cell_later hb23 b0; replace b1 := cell_later hb23 b1; replace b2 := cell_later hb23 b2; replace b3 := cell_later hb23 b3; replace b4 := cell_later hb23 b4; replace b5 := cell_later hb23 b5; replace b6 := cell_later hb23 b6; replace b7 := cell_later hb23 b7; have H3 := hidP (H2.out.trans (hb23.mono H2.out.size)); clear hb3 hb23)
      | (go_at_call_of 7 (b.start); refine (toRoute_row db b w3 (LB.out.below H3.out) NB).mono ?_; rintro e w4 ⟨g4, rfl, hr4, hb4⟩; replace a0 := cell_later hb4 a0; replace a1 := cell_later hb4 a1; replace a2 := cell_later hb4 a2; replace a3 := cell_later hb4 a3; replace a4 := cell_later hb4 a4; replace a5 := cell_later hb4 a5; replace a6 := cell_later hb4 a6; replace a7 := cell_later hb4 a7; replace b0 := cell_later hb4 b0; replace b1 := cell_later hb4 b1; replace b2 := cell_later hb4 b2; replace b3 := cell_later hb4 b3; replace b4 := cell_later hb4 b4; replace b5 := cell_later hb4 b5; replace b6 := cell_later hb4 b6; replace b7 := cell_later hb4 b7; have H4 := hidP (H3.out.trans (hb4.mono H3.out.size)); have hr34 := hidP (hr3.out.below hb4); clear hb4)
      | (go_at_call 6; refine (specExclude_any (dOf g3 a) (dOf g4 b) a b w4 (hr34.out.lists NA.out) (hr4.out.lists NB.out) NA.out.short NB.out.short).mono ?_; rintro e w5 ⟨rfl, hb5⟩; replace a0 := cell_later hb5 a0; replace a1 := cell_later hb5 a1; replace a2 := cell_later hb5 a2; replace a3 := cell_later hb5 a3; replace a4 := cell_later hb5 a4; replace a5 := cell_later hb5 a5; replace a6 := cell_later hb5 a6; replace a7 := cell_later hb5 a7; replace b0 := cell_later hb5 b0; replace b1 := cell_later hb5 b1; replace b2 := cell_later hb5 b2; replace b3 := cell_later hb5 b3; replace b4 := cell_later hb5 b4; replace b5 := cell_later hb5 b5; replace b6 := cell_later hb5 b6; replace b7 := cell_later hb5 b7; have H5 := hidP (H4.out.trans (hb5.mono H4.out.size)); clear hb5))
  all_goals
    have hz5 : w.heap.size + 1 < w5.heap.size := Nat.lt_of_lt_of_le hzA H5.out.size
    have hz5' : w.heap.size < w5.heap.size := by omega
    clear hr3 hr4 hr34 H3 H4 hz2 hz2'
    obtain ⟨x, hx⟩ : ∃ x, exclF a b = x := ⟨_, rfl⟩
    rw [hx]
    have HX := hidP hx
    clear hx
    go_wp2_with fail
    clear a0 a1 a2 a3 a4 a5 a6 a7 b0 b1 b2 b3 b4 b5 b6 b7
    refine (toRoute_row da a _ (LA.out.below H5.out) NA).mono ?_
    rintro e w6 ⟨g6, rfl, hr6, hb6⟩
    have H6 := hidP (H5.out.trans (hb6.mono H5.out.size))
    clear hb6 hz5 hz5'
    unfold routeV dOf
    have hz6 : w.heap.size + 1 < w6.heap.size := Nat.lt_of_lt_of_le hzA H6.out.size
    have b0 : w6.cell? ⟨(w.heap.size + 1), 0, none⟩ = some (.int .i64 b.start) := (HB.out.below H6.out).k0
    have b1 : w6.cell? ⟨(w.heap.size + 1), 1, none⟩ = some (.int .i64 b.stop) := (HB.out.below H6.out).k1
    have b2 : w6.cell? ⟨(w.heap.size + 1), 2, none⟩ = some (.slice db.a0 b.steps.length db.c0) := (HB.out.below H6.out).k2
    have b3 : w6.cell? ⟨(w.heap.size + 1), 3, none⟩ = some (.slice db.a1 b.lies.length db.c1) := (HB.out.below H6.out).k3
    have b4 : w6.cell? ⟨(w.heap.size + 1), 4, none⟩ = some (.slice db.a2 b.crosses.length db.c2) := (HB.out.below H6.out).k4
    have b5 : w6.cell? ⟨(w.heap.size + 1), 5, none⟩ = some (.slice db.a3 b.parts.length db.c3) := (HB.out.below H6.out).k5
    have b6 : w6.cell? ⟨(w.heap.size + 1), 6, none⟩ = some (.slice db.a4 b.over.length db.c4) := (HB.out.below H6.out).k6
    have b7 : w6.cell? ⟨(w.heap.size + 1), 7, none⟩ = some (.slice db.a5 b.flanks.length db.c5) := (HB.out.below H6.out).k7
    go_wp2_with fail
    clear b0 b1 b2 b3 b4 b5 b6 b7
    generalize hW7 : w6.alloc _ = W7
    have HX7 : Hid (RouteCell W7 w6.heap.size 0 (dOf g6 a) a) := by rw [← hW7]; exact routeCell_box _ (dOf g6 a) _ _
    have hb67 : Below w6.heap.size w6 W7 := by rw [← hW7]; exact (by repeat (first | exact Below.refl _ _ | assumption | refine Below.drew ?_ | refine bdrewN ?_ _ | refine Below.setCell ?_ (by first | omega | (simp; done) | (simp; omega)) _ | refine Below.alloc ?_ (by first | omega | (simp; done) | (simp; omega)) _))
    have HR7 := hidP (hr6.out.below hb67)
    have H7 := hidP (H6.out.trans (hb67.mono H6.out.size))
    have hz7 : w6.heap.size < W7.heap.size := by rw [← hW7]; simp
    clear hW7 hr6 hb67
    refine (toRoute_row db b _ (LB.out.below H7.out) NB).mono ?_
    rintro e w8 ⟨g8, rfl, hr8, hb8⟩
    have H8 := hidP (H7.out.trans (hb8.mono H7.out.size))
    have HX8 := hidP (HX7.out.below hb8)
    have HR8 := hidP (HR7.out.below hb8)
    have hz8 : w6.heap.size < w8.heap.size := Nat.lt_of_lt_of_le hz7 hb8.size
    clear hb8 HX7 HR7
    unfold routeV dOf
    have a0 : w8.cell? ⟨w6.heap.size, 0, none⟩ = some (.int .i64 a.start) := HX8.out.k0
    have a1 : w8.cell? ⟨w6.heap.size, 1, none⟩ = some (.int .i64 a.stop) := HX8.out.k1
    have a2 : w8.cell? ⟨w6.heap.size, 2, none⟩ = some (.slice (dOf g6 a).a0 a.steps.length (dOf g6 a).c0) := HX8.out.k2
    have a3 : w8.cell? ⟨w6.heap.size, 3, none⟩ = some (.slice (dOf g6 a).a1 a.lies.length (dOf g6 a).c1) := HX8.out.k3
    have a4 : w8.cell? ⟨w6.heap.size, 4, none⟩ = some (.slice (dOf g6 a).a2 a.crosses.length (dOf g6 a).c2) := HX8.out.k4
    have a5 : w8.cell? ⟨w6.heap.size, 5, none⟩ = some (.slice (dOf g6 a).a3 a.parts.length (dOf g6 a).c3) := HX8.out.k5
    have a6 : w8.cell? ⟨w6.heap.size, 6, none⟩ = some (.slice (dOf g6 a).a4 a.over.length (dOf g6 a).c4) := HX8.out.k6
    have a7 : w8.cell? ⟨w6.heap.size, 7, none⟩ = some (.slice (dOf g6 a).a5 a.flanks.length (dOf g6 a).c5) := HX8.out.k7
    simp only [dOf] at a2 a3 a4 a5 a6 a7
    go_wp2_with fail
    clear a0 a1 a2 a3 a4 a5 a6 a7
    generalize hW9 : w8.alloc _ = W9
    have HY9 : Hid (RouteCell W9 w8.heap.size 0 (dOf g8 b) b) := by rw [← hW9]; exact routeCell_box _ (dOf g8 b) _ _
    have hb89 : Below w8.heap.size w8 W9 := by rw [← hW9]; exact (by repeat (first | exact Below.refl _ _ | assumption | refine Below.drew ?_ | refine bdrewN ?_ _ | refine Below.setCell ?_ (by first | omega | (simp; done) | (simp; omega)) _ | refine Below.alloc ?_ (by first | omega | (simp; done) | (simp; omega)) _))
    have HS9 := hidP (hr8.out.below hb89)
    have HR9 := hidP (HR8.out.below hb89)
    have HX9 := hidP (HX8.out.below hb89)
    have H9 := hidP (H8.out.trans (hb89.mono H8.out.size))
    have hz9 : w8.heap.size < W9.heap.size := by rw [← hW9]; simp
    clear hW9 hr8 hb89 HX8 HR8
    refine (implExclude_any (dOf g6 a) (dOf g8 b) a b _ (HR9.out.lists NA.out) (HS9.out.lists NB.out) NA.out.short NB.out.short hwa hwb).mono ?_
    rintro e w10 ⟨rfl, hb10⟩
    rw [HX.out]
    have H10 := hidP (H9.out.trans (hb10.mono H9.out.size))
    have HX10 := hidP (HX9.out.below hb10)
    have HY10 := hidP (HY9.out.below hb10)
    have HR10 := hidP (HR9.out.below hb10)
    have HS10 := hidP (HS9.out.below hb10)
    have hz10 := hb10.size
    have hz10a : w6.heap.size < w10.heap.size := by omega
    have hz10b : w8.heap.size < w10.heap.size := by omega
    have hz10c : w.heap.size < w10.heap.size := by have := H10.out.size; omega
    clear hb10 HX9 HY9 HR9 HS9
    have a0 : w10.cell? ⟨w6.heap.size, 0, none⟩ = some (.int .i64 a.start) := HX10.out.k0
    have a1 : w10.cell? ⟨w6.heap.size, 1, none⟩ = some (.int .i64 a.stop) := HX10.out.k1
    have a2 : w10.cell? ⟨w6.heap.size, 2, none⟩ = some (.slice (dOf g6 a).a0 a.steps.length (dOf g6 a).c0) := HX10.out.k2
    have a3 : w10.cell? ⟨w6.heap.size, 3, none⟩ = some (.slice (dOf g6 a).a1 a.lies.length (dOf g6 a).c1) := HX10.out.k3
    have a4 : w10.cell? ⟨w6.heap.size, 4, none⟩ = some (.slice (dOf g6 a).a2 a.crosses.length (dOf g6 a).c2) := HX10.out.k4
    have a5 : w10.cell? ⟨w6.heap.size, 5, none⟩ = some (.slice (dOf g6 a).a3 a.parts.length (dOf g6 a).c3) := HX10.out.k5
    have a6 : w10.cell? ⟨w6.heap.size, 6, none⟩ = some (.slice (dOf g6 a).a4 a.over.length (dOf g6 a).c4) := HX10.out.k6
    have a7 : w10.cell? ⟨w6.heap.size, 7, none⟩ = some (.slice (dOf g6 a).a5 a.flanks.length (dOf g6 a).c5) := HX10.out.k7
    have c0 : w10.cell? ⟨w.heap.size, 0, none⟩ = some (.int .i64 a.start) := (HA.out.below H10.out).k0
    have c1 : w10.cell? ⟨w.heap.size, 1, none⟩ = some (.int .i64 a.stop) := (HA.out.below H10.out).k1
    have c2 : w10.cell? ⟨w.heap.size, 2, none⟩ = some (.slice da.a0 a.steps.length da.c0) := (HA.out.below H10.out).k2
    have c3 : w10.cell? ⟨w.heap.size, 3, none⟩ = some (.slice da.a1 a.lies.length da.c1) := (HA.out.below H10.out).k3
    have c4 : w10.cell? ⟨w.heap.size, 4, none⟩ = some (.slice da.a2 a.crosses.length da.c2) := (HA.out.below H10.out).k4
    have c5 : w10.cell? ⟨w.heap.size, 5, none⟩ = some (.slice da.a3 a.parts.length da.c3) := (HA.out.below H10.out).k5
    have c6 : w10.cell? ⟨w.heap.size, 6, none⟩ = some (.slice da.a4 a.over.length da.c4) := (HA.out.below H10.out).k6
    have c7 : w10.cell? ⟨w.heap.size, 7, none⟩ = some (.slice da.a5 a.flanks.length da.c5) := (HA.out.below H10.out).k7
    simp only [dOf] at a2 a3 a4 a5 a6 a7
    go_wp2_with fail
    go_region_with (first
      | (go_at_call 7; refine (toRoute_row da a _ ((LA.out.below H10.out).below (Below.refl _ _).drew) NA).mono ?_; rintro e w11 ⟨g11, rfl, hr11, hb11⟩; have z0 := cell_later ((Below.refl _ _).drew.trans hb11) a0; have z1 := cell_later ((Below.refl _ _).drew.trans hb11) a1; have z2 := cell_later ((Below.refl _ _).drew.trans hb11) a2; have z3 := cell_later ((Below.refl _ _).drew.trans hb11) a3; have z4 := cell_later ((Below.refl _ _).drew.trans hb11) a4; have z5 := cell_later ((Below.refl _ _).drew.trans hb11) a5; have z6 := cell_later ((Below.refl _ _).drew.trans hb11) a6; have z7 := cell_later ((Below.refl _ _).drew.trans hb11) a7)
      | (go_at_call 9; refine (eqRoute_any (dOf g6 a) (dOf g11 a) a _ (((HR10.out.lists NA.out).below ((Below.refl _ _).drew.trans hb11))) (hr11.out.lists NA.out)).mono ?_; rintro e w12 ⟨rfl, hb12⟩))
    all_goals
      have hbC : Below w10.heap.size w10 w12 := ((Below.refl _ _).drew.trans hb11).trans (hb12.mono hb11.size)
      have H12 := hidP (H10.out.trans (hbC.mono H10.out.size))
      have HY12 := hidP (HY10.out.below hbC)
      have HS12 := hidP (HS10.out.below hbC)
      have hz12 := hbC.size
      have hz12b : w8.heap.size < w12.heap.size := by omega
      have hz12c : w.heap.size + 1 < w12.heap.size := by have := H12.out.size; omega
      clear hb11 hb12 hbC hr11
      clear a0 a1 a2 a3 a4 a5 a6 a7 c0 c1 c2 c3 c4 c5 c6 c7
      try clear z0 z1 z2 z3 z4 z5 z6 z7
      have a0 : w12.cell? ⟨w8.heap.size, 0, none⟩ = some (.int .i64 b.start) := HY12.out.k0
      have a1 : w12.cell? ⟨w8.heap.size, 1, none⟩ = some (.int .i64 b.stop) := HY12.out.k1
      have a2 : w12.cell? ⟨w8.heap.size, 2, none⟩ = some (.slice (dOf g8 b).a0 b.steps.length (dOf g8 b).c0) := HY12.out.k2
      have a3 : w12.cell? ⟨w8.heap.size, 3, none⟩ = some (.slice (dOf g8 b).a1 b.lies.length (dOf g8 b).c1) := HY12.out.k3
      have a4 : w12.cell? ⟨w8.heap.size, 4, none⟩ = some (.slice (dOf g8 b).a2 b.crosses.length (dOf g8 b).c2) := HY12.out.k4
      have a5 : w12.cell? ⟨w8.heap.size, 5, none⟩ = some (.slice (dOf g8 b).a3 b.parts.length (dOf g8 b).c3) := HY12.out.k5
      have a6 : w12.cell? ⟨w8.heap.size, 6, none⟩ = some (.slice (dOf g8 b).a4 b.over.length (dOf g8 b).c4) := HY12.out.k6
      have a7 : w12.cell? ⟨w8.heap.size, 7, none⟩ = some (.slice (dOf g8 b).a5 b.flanks.length (dOf g8 b).c5) := HY12.out.k7
      have c0 : w12.cell? ⟨(w.heap.size + 1), 0, none⟩ = some (.int .i64 b.start) := (HB.out.below H12.out).k0
      have c1 : w12.cell? ⟨(w.heap.size + 1), 1, none⟩ = some (.int .i64 b.stop) := (HB.out.below H12.out).k1
      have c2 : w12.cell? ⟨(w.heap.size + 1), 2, none⟩ = some (.slice db.a0 b.steps.length db.c0) := (HB.out.below H12.out).k2
      have c3 : w12.cell? ⟨(w.heap.size + 1), 3, none⟩ = some (.slice db.a1 b.lies.length db.c1) := (HB.out.below H12.out).k3
      have c4 : w12.cell? ⟨(w.heap.size + 1), 4, none⟩ = some (.slice db.a2 b.crosses.length db.c2) := (HB.out.below H12.out).k4
      have c5 : w12.cell? ⟨(w.heap.size + 1), 5, none⟩ = some (.slice db.a3 b.parts.length db.c3) := (HB.out.below H12.out).k5
      have c6 : w12.cell? ⟨(w.heap.size + 1), 6, none⟩ = some (.slice db.a4 b.over.length db.c4) := (HB.out.below H12.out).k6
      have c7 : w12.cell? ⟨(w.heap.size + 1), 7, none⟩ = some (.slice db.a5 b.flanks.length db.c5) := (HB.out.below H12.out).k7
      simp only [dOf] at a2 a3 a4 a5 a6 a7
      go_wp2_with fail
      go_region_with (first
        | (go_at_call 7; refine (toRoute_row db b _ ((LB.out.below H12.out).below (Below.refl _ _).drew) NB).mono ?_; rintro e w13 ⟨g13, rfl, hr13, hb13⟩; have z0 := cell_later ((Below.refl _ _).drew.trans hb13) a0; have z1 := cell_later ((Below.refl _ _).drew.trans hb13) a1; have z2 := cell_later ((Below.refl _ _).drew.trans hb13) a2; have z3 := cell_later ((Below.refl _ _).drew.trans hb13) a3; have z4 := cell_later ((Below.refl _ _).drew.trans hb13) a4; have z5 := cell_later ((Below.refl _ _).drew.trans hb13) a5; have z6 := cell_later ((Below.refl _ _).drew.trans hb13) a6; have z7 := cell_later ((Below.refl _ _).drew.trans hb13) a7)
        | (go_at_call 9; refine (eqRoute_any (dOf g8 b) (dOf g13 b) b _ (((HS12.out.lists NB.out).below ((Below.refl _ _).drew.trans hb13))) (hr13.out.lists NB.out)).mono ?_; rintro e w14 ⟨rfl, hb14⟩))
      all_goals
        have hbD : Below w12.heap.size w12 w14 := ((Below.refl _ _).drew.trans hb13).trans (hb14.mono hb13.size)
        have H14 := hidP (H12.out.trans (hbD.mono H12.out.size))
        clear hb13 hb14 hbD hr13
        go_wp2_with fail
        go_ret
        exact ⟨rfl, hbW.trans (H14.out.mono hbW.size)⟩

end Go.Proofs.Ytmkdgnmmebldgab
