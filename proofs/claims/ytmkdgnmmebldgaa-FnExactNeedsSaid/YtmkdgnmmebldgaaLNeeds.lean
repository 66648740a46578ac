import Derived.Test.YtmkdgnmmebldgaaSNeeds
import Derived.Test.YtmkdgnmmebldgaaTRoute2
namespace Go.Proofs.Ytmkdgnmmebldgaa
open Go.RowKit Go.Deep

theorem own_of_owns {w : World} {B T K n : Nat} {x : Option Addr} {y : Nat} {xs : List Value} (h : w.ownsRow B T K (.slice x n y) n xs) : OwnA w T K x n := by
  rcases h.2 with ⟨_, h0⟩ | ⟨g, cap, cur, h1, _, h3, h4, _, h6, _⟩
  · exact Or.inl h0
  · cases h1
    exact Or.inr ⟨g, cur.size, fun j => cur.getD j (.bool false), rfl, ⟨cur, h3, rfl, fun i hi => by simp [Array.getD, hi]⟩, by rw [h6]; exact Nat.mul_le_mul_right _ h4⟩
theorem blk_of_owns {w : World} {B T K n b : Nat} {x : Option Addr} {y : Nat} {xs : List Value} (h : w.ownsRow B T K (.slice x n y) n xs) (hb : BlkOf x n b) : B ≤ b ∧ b < w.heap.size := by
  obtain ⟨_, o, s, rfl⟩ := hb
  exact h.lt b rfl
theorem owns_only {S : Nat → Prop} {w w' : World} {B e s n : Nat} {v : Value} {xs : List Value} (h : w.ownsRow B e s v n xs) (hO : Only S w w') (hS : ∀ b, v.ownBlock = some b → ¬ S b) : w'.ownsRow B e s v n xs := by
  refine ⟨h.1, ?_⟩
  rcases h.2 with h2 | ⟨g, cap, cur, h1, h2, h3, h4⟩
  · exact Or.inl h2
  · refine Or.inr ⟨g, cap, cur, h1, h2, (hO.block g (Array.getElem?_eq_some_iff.1 h3).1 (hS g (by rw [h1]; rfl))).trans h3, h4⟩

theorem blkR_in {w : World} {lo : Nat} {g : Nat → Nat} {r : MRoute} (h : RRow w lo g r) {b : Nat} (hb : BlkR g b) : lo ≤ b ∧ b < w.heap.size := by
  have h0 := h.l0
  have h1 := h.l1
  have h2 := h.l2
  have h3 := h.l3
  have h4 := h.l4
  have h5 := h.l5
  have h6 := h.lt
  unfold BlkR at hb
  omega

set_option maxRecDepth 8000 in
set_option maxHeartbeats 4000000 in
theorem lawNeeds_any (d : RAddr) (r : MRoute) (w : World) (hl : Hid (RListsAt w d r)) (hwf : Hid (WfR r)) :
    Calls Try.prog 8 #[routeV d r] w fun e w' => e = .returned (.bool true) ∧ Below w.heap.size w w' := by
  unfold routeV
  go_enter Try.func8, Try.ntmps8
  go_wp2_with fail
  generalize hW : w.alloc _ = W
  have HA : Hid (RouteCell W w.heap.size 0 d r) := by rw [← hW]; exact routeCell_box _ _ _ _
  have hzA : w.heap.size < W.heap.size := by rw [← hW]; simp
  have hbW : Below w.heap.size w W := by rw [← hW]; exact (by repeat (first | exact Below.refl _ _ | assumption | refine Below.drew ?_ | refine bdrewN ?_ _ | refine Below.setCell ?_ (by first | omega | (simp; done) | (simp; omega)) _ | refine Below.alloc ?_ (by first | omega | (simp; done) | (simp; omega)) _))
  have HL := hidP (hl.out.below hbW)
  clear hW hl
  refine (szRoute_any d r _ _ HL (by omega) (by omega)).mono ?_
  rintro e w1 ⟨s, rfl, _, _, hs, hb1⟩
  have HS := hidP hs
  have HB1 := hidP hb1
  by_cases hs0 : s < 0
  · clear hs hb1
    go_wp2_with fail
    go_ret
    exact ⟨rfl, hbW.trans (HB1.out.mono hbW.size)⟩
  have HN : Hid (LensR r) := HS.out (by omega)
  have hz1 : w.heap.size < w1.heap.size := Nat.lt_of_lt_of_le hzA hb1.size
  clear hs hb1 HS
  have a0 : w1.cell? ⟨w.heap.size, 0, none⟩ = some (.int .i64 r.start) := (HA.out.below HB1.out).k0
  have a1 : w1.cell? ⟨w.heap.size, 1, none⟩ = some (.int .i64 r.stop) := (HA.out.below HB1.out).k1
  have a2 : w1.cell? ⟨w.heap.size, 2, none⟩ = some (.slice d.a0 r.steps.length d.c0) := (HA.out.below HB1.out).k2
  have a3 : w1.cell? ⟨w.heap.size, 3, none⟩ = some (.slice d.a1 r.lies.length d.c1) := (HA.out.below HB1.out).k3
  have a4 : w1.cell? ⟨w.heap.size, 4, none⟩ = some (.slice d.a2 r.crosses.length d.c2) := (HA.out.below HB1.out).k4
  have a5 : w1.cell? ⟨w.heap.size, 5, none⟩ = some (.slice d.a3 r.parts.length d.c3) := (HA.out.below HB1.out).k5
  have a6 : w1.cell? ⟨w.heap.size, 6, none⟩ = some (.slice d.a4 r.over.length d.c4) := (HA.out.below HB1.out).k6
  have a7 : w1.cell? ⟨w.heap.size, 7, none⟩ = some (.slice d.a5 r.flanks.length d.c5) := (HA.out.below HB1.out).k7
  go_wp2_with fail
  clear a0 a1 a2 a3 a4 a5 a6 a7
  refine (toRoute_row d r _ (HL.out.below HB1.out) HN).mono ?_
  rintro e w2 ⟨g2, rfl, hr2, hb2⟩
  have HB2 := hidP (HB1.out.trans (hb2.mono HB1.out.size))
  clear hb2
  go_wp2_with fail
  refine (specNeeds_any (dOf g2 r) r _ (hr2.out.lists HN.out).lies (hr2.out.lists HN.out).flanks HN.out.lies HN.out.flanks).mono ?_
  rintro e w3 ⟨x0, y0, rfl, ho3, hb3⟩
  have HO3 := hidP ho3
  have HK3 : Hid (∀ n y b, (Value.slice x0 n y).ownBlock = some b → b < w3.heap.size) := fun n y b h => (ho3.lt b (by cases x0 <;> exact h)).2
  have HB3 := hidP (HB2.out.trans (hb3.mono HB2.out.size))
  have hz3 : w.heap.size < w3.heap.size := Nat.lt_of_lt_of_le hzA HB3.out.size
  clear ho3 hb3 hr2 hz1
  have a0 : w3.cell? ⟨w.heap.size, 0, none⟩ = some (.int .i64 r.start) := (HA.out.below HB3.out).k0
  have a1 : w3.cell? ⟨w.heap.size, 1, none⟩ = some (.int .i64 r.stop) := (HA.out.below HB3.out).k1
  have a2 : w3.cell? ⟨w.heap.size, 2, none⟩ = some (.slice d.a0 r.steps.length d.c0) := (HA.out.below HB3.out).k2
  have a3 : w3.cell? ⟨w.heap.size, 3, none⟩ = some (.slice d.a1 r.lies.length d.c1) := (HA.out.below HB3.out).k3
  have a4 : w3.cell? ⟨w.heap.size, 4, none⟩ = some (.slice d.a2 r.crosses.length d.c2) := (HA.out.below HB3.out).k4
  have a5 : w3.cell? ⟨w.heap.size, 5, none⟩ = some (.slice d.a3 r.parts.length d.c3) := (HA.out.below HB3.out).k5
  have a6 : w3.cell? ⟨w.heap.size, 6, none⟩ = some (.slice d.a4 r.over.length d.c4) := (HA.out.below HB3.out).k6
  have a7 : w3.cell? ⟨w.heap.size, 7, none⟩ = some (.slice d.a5 r.flanks.length d.c5) := (HA.out.below HB3.out).k7
  go_wp2_with fail
  clear a0 a1 a2 a3 a4 a5 a6 a7
  refine (toRoute_row d r _ (HL.out.below HB3.out) HN).mono ?_
  rintro e w4 ⟨g4, rfl, hr4, hb4⟩
  have HB4 := hidP (HB3.out.trans (hb4.mono HB3.out.size))
  have hz34 := hb4.size
  have HO4 := hidP (owns_below HO3.out hb4)
  clear hb4 hz3
  unfold routeV dOf
  go_wp2_with fail
  generalize hW5 : w4.alloc _ = W5
  have HX : Hid (RouteCell W5 w4.heap.size 0 (dOf g4 r) r) := by rw [← hW5]; exact routeCell_box _ (dOf g4 r) _ _
  have HR5 : Hid (RRow W5 w3.heap.size g4 r) := by rw [← hW5]; exact hr4.out.below (by repeat (first | exact Below.refl _ _ | assumption | refine Below.drew ?_ | refine bdrewN ?_ _ | refine Below.setCell ?_ (by first | omega | (simp; done) | (simp; omega)) _ | refine Below.alloc ?_ (by first | omega | (simp; done) | (simp; omega)) _))
  have hb45 : Below w4.heap.size w4 W5 := by rw [← hW5]; exact (by repeat (first | exact Below.refl _ _ | assumption | refine Below.drew ?_ | refine bdrewN ?_ _ | refine Below.setCell ?_ (by first | omega | (simp; done) | (simp; omega)) _ | refine Below.alloc ?_ (by first | omega | (simp; done) | (simp; omega)) _))
  have HB5 := hidP (HB4.out.trans (hb45.mono HB4.out.size))
  have HO5 := hidP (owns_below HO4.out hb45)
  have hz5 : w4.heap.size < W5.heap.size := by rw [← hW5]; simp
  have hr4lt := hr4.out.lt
  clear hW5 hr4 hb45
  refine (implNeeds_any (dOf g4 r) r _ (HR5.out.lists HN.out).lies (HR5.out.lists HN.out).flanks HN.out.lies HN.out.flanks hwf (fun e => by simp [dOf] at e)).mono ?_
  rintro e w6 ⟨x1, y1, rfl, ho6, hb6⟩
  have HV6 := hidP ho6
  have HB6 := hidP (HB5.out.trans (hb6.mono HB5.out.size))
  have HO6 := hidP (owns_below HO5.out hb6)
  have HX6 := hidP (HX.out.below hb6)
  have HR6 := hidP (HR5.out.below hb6)
  have hz56 := hb6.size
  clear ho6 hb6 HO3 HO4 HO5 HX HR5
  obtain ⟨nn, hnn⟩ : ∃ nn, needsF r.lies r.flanks = nn := ⟨_, rfl⟩
  rw [hnn] at HV6 HO6 ⊢
  have HNE := hidP hnn
  have HNN : Hid (nn.length ≤ 2097152) := by have h1 := needs_len r.flanks r.lies; have h2 := HN.out.lies; have h3 := HN.out.flanks; unfold Hid; rw [← hnn]; unfold needsF; omega
  clear hnn
  have hnl := HNN.out
  have hnm : nn.length ≤ maxLen := by unfold maxLen; omega
  obtain ⟨xa, ya, hxy, hE0, _, _⟩ := ownE HO6.out hnm
  cases hxy
  obtain ⟨xb, yb, hxy, hE1, _, _⟩ := ownE HV6.out hnm
  cases hxy
  go_wp2_with fail
  refine (eqLieS_walk _ _ _ _ _ _ hE1 hE0).mono ?_
  rintro e w7 ⟨rfl, hb7⟩
  have HB7 := hidP (HB6.out.trans (hb7.mono HB6.out.size))
  have HO7 := hidP (owns_below HO6.out hb7)
  have HV7 := hidP (owns_below HV6.out hb7)
  have HX7 := hidP (HX6.out.below hb7)
  have HR7 := hidP (HR6.out.below hb7)
  have hz67 := hb7.size
  have hz7A : w.heap.size < w7.heap.size := Nat.lt_of_lt_of_le hzA HB7.out.size
  have hz7X : w4.heap.size < w7.heap.size := by omega
  clear hE0 hE1 hb7 HO6 HV6 HX6 HR6
  have a0 : w7.cell? ⟨w.heap.size, 0, none⟩ = some (.int .i64 r.start) := (HA.out.below HB7.out).k0
  have a1 : w7.cell? ⟨w.heap.size, 1, none⟩ = some (.int .i64 r.stop) := (HA.out.below HB7.out).k1
  have a2 : w7.cell? ⟨w.heap.size, 2, none⟩ = some (.slice d.a0 r.steps.length d.c0) := (HA.out.below HB7.out).k2
  have a3 : w7.cell? ⟨w.heap.size, 3, none⟩ = some (.slice d.a1 r.lies.length d.c1) := (HA.out.below HB7.out).k3
  have a4 : w7.cell? ⟨w.heap.size, 4, none⟩ = some (.slice d.a2 r.crosses.length d.c2) := (HA.out.below HB7.out).k4
  have a5 : w7.cell? ⟨w.heap.size, 5, none⟩ = some (.slice d.a3 r.parts.length d.c3) := (HA.out.below HB7.out).k5
  have a6 : w7.cell? ⟨w.heap.size, 6, none⟩ = some (.slice d.a4 r.over.length d.c4) := (HA.out.below HB7.out).k6
  have a7 : w7.cell? ⟨w.heap.size, 7, none⟩ = some (.slice d.a5 r.flanks.length d.c5) := (HA.out.below HB7.out).k7
  have b0 : w7.cell? ⟨w4.heap.size, 0, none⟩ = some (.int .i64 r.start) := HX7.out.k0
  have b1 : w7.cell? ⟨w4.heap.size, 1, none⟩ = some (.int .i64 r.stop) := HX7.out.k1
  have b2 : w7.cell? ⟨w4.heap.size, 2, none⟩ = some (.slice (dOf g4 r).a0 r.steps.length (dOf g4 r).c0) := HX7.out.k2
  have b3 : w7.cell? ⟨w4.heap.size, 3, none⟩ = some (.slice (dOf g4 r).a1 r.lies.length (dOf g4 r).c1) := HX7.out.k3
  have b4 : w7.cell? ⟨w4.heap.size, 4, none⟩ = some (.slice (dOf g4 r).a2 r.crosses.length (dOf g4 r).c2) := HX7.out.k4
  have b5 : w7.cell? ⟨w4.heap.size, 5, none⟩ = some (.slice (dOf g4 r).a3 r.parts.length (dOf g4 r).c3) := HX7.out.k5
  have b6 : w7.cell? ⟨w4.heap.size, 6, none⟩ = some (.slice (dOf g4 r).a4 r.over.length (dOf g4 r).c4) := HX7.out.k6
  have b7 : w7.cell? ⟨w4.heap.size, 7, none⟩ = some (.slice (dOf g4 r).a5 r.flanks.length (dOf g4 r).c5) := HX7.out.k7
  simp only [dOf] at b2 b3 b4 b5 b6 b7
  go_wp2_with fail
  go_region_with (first
    | (go_at_call 32; refine (toRoute_row d r _ ((HL.out.below HB7.out).below (Below.refl _ _).drew) HN).mono ?_; rintro e w8 ⟨g8, rfl, hr8, hb8⟩; have c0 := cell_later ((Below.refl _ _).drew.trans hb8) b0; have c1 := cell_later ((Below.refl _ _).drew.trans hb8) b1; have c2 := cell_later ((Below.refl _ _).drew.trans hb8) b2; have c3 := cell_later ((Below.refl _ _).drew.trans hb8) b3; have c4 := cell_later ((Below.refl _ _).drew.trans hb8) b4; have c5 := cell_later ((Below.refl _ _).drew.trans hb8) b5; have c6 := cell_later ((Below.refl _ _).drew.trans hb8) b6; have c7 := cell_later ((Below.refl _ _).drew.trans hb8) b7)
    | (go_at_call 34; refine (eqRoute_any (dOf g4 r) (dOf g8 r) r _ (((HR7.out.lists HN.out).below ((Below.refl _ _).drew.trans hb8))) (hr8.out.lists HN.out)).mono ?_; rintro e w9 ⟨rfl, hb9⟩))
  all_goals
    have hb79 : Below w7.heap.size w7 w9 := ((Below.refl _ _).drew.trans hb8).trans (hb9.mono hb8.size)
    have HB9 := hidP (HB7.out.trans (hb79.mono HB7.out.size))
    have HO9 := hidP (owns_below HO7.out hb79)
    have HV9 := hidP (owns_below HV7.out hb79)
    have HX9 := hidP (HX7.out.below hb79)
    have HR9 := hidP (HR7.out.below hb79)
    have hz9 := hb79.size
    have hz9X : w4.heap.size < w9.heap.size := by omega
    clear hb8 hb9 hb79 hr8 HO7 HV7 HX7 HR7
    clear a0 a1 a2 a3 a4 a5 a6 a7
    clear b0 b1 b2 b3 b4 b5 b6 b7
    try clear c0 c1 c2 c3 c4 c5 c6 c7
    have b0 : w9.cell? ⟨w4.heap.size, 0, none⟩ = some (.int .i64 r.start) := HX9.out.k0
    have b1 : w9.cell? ⟨w4.heap.size, 1, none⟩ = some (.int .i64 r.stop) := HX9.out.k1
    have b2 : w9.cell? ⟨w4.heap.size, 2, none⟩ = some (.slice (dOf g4 r).a0 r.steps.length (dOf g4 r).c0) := HX9.out.k2
    have b3 : w9.cell? ⟨w4.heap.size, 3, none⟩ = some (.slice (dOf g4 r).a1 r.lies.length (dOf g4 r).c1) := HX9.out.k3
    have b4 : w9.cell? ⟨w4.heap.size, 4, none⟩ = some (.slice (dOf g4 r).a2 r.crosses.length (dOf g4 r).c2) := HX9.out.k4
    have b5 : w9.cell? ⟨w4.heap.size, 5, none⟩ = some (.slice (dOf g4 r).a3 r.parts.length (dOf g4 r).c3) := HX9.out.k5
    have b6 : w9.cell? ⟨w4.heap.size, 6, none⟩ = some (.slice (dOf g4 r).a4 r.over.length (dOf g4 r).c4) := HX9.out.k6
    have b7 : w9.cell? ⟨w4.heap.size, 7, none⟩ = some (.slice (dOf g4 r).a5 r.flanks.length (dOf g4 r).c5) := HX9.out.k7
    simp only [dOf] at b2 b3 b4 b5 b6 b7
    go_wp2_with fail
    clear b0 b1 b2 b3 b4 b5 b6 b7
    refine (markRoute_any g4 r _ _ _ HR9 HN (by omega) (by omega)).mono ?_
    rintro e w10 ⟨⟨k, rfl, hk0⟩, hO10⟩
    have hblk : ∀ b, BlkR g4 b → w3.heap.size ≤ b ∧ b < w4.heap.size := fun b hb => ⟨(blkR_in HR9.out hb).1, by have h0 := HR9.out.l1; have h1 := HR9.out.l2; have h2 := HR9.out.l3; have h3 := HR9.out.l4; have h4 := HR9.out.l5; unfold BlkR at hb; omega⟩
    have HBLK := hidP hblk
    clear hblk
    have HO10 := hidP (owns_only HO9.out hO10 (fun b hb hS => by have h1 := HK3.out _ _ _ hb; have h2 := (HBLK.out b hS).1; omega))
    have HV10 := hidP (owns_only HV9.out hO10 (fun b hb hS => by have h1 := (HV9.out.lt b hb).1; have h2 := (HBLK.out b hS).2; omega))
    have HB10 : Hid (Below W.heap.size W w10) := HB9.out.trans (hO10.below HB9.out.size (fun b hb hS => by have h1 := (HBLK.out b hS).1; have h2 := HB3.out.size; omega))
    have hz10 := hO10.size
    clear hO10 HO9 HV9 HX9 HR9
    obtain ⟨xc, yc, hxy, hE0, _, _⟩ := ownE HO10.out hnm
    cases hxy
    obtain ⟨xd, yd, hxy, hE1, _, _⟩ := ownE HV10.out hnm
    cases hxy
    go_wp2_with fail
    refine (eqLieS_walk _ _ _ _ _ _ hE1 hE0).mono ?_
    rintro e w11 ⟨rfl, hb11⟩
    have HO11 := hidP (owns_below HO10.out hb11)
    have HV11 := hidP (owns_below HV10.out hb11)
    have HB11 := hidP (HB10.out.trans (hb11.mono HB10.out.size))
    have hz11 := hb11.size
    clear hb11 hE0 hE1 HO10 HV10
    go_wp2_with fail
    refine (markLieS_any _ _ _ _ _ (own_of_owns HV11.out) (by omega) (by omega)).mono ?_
    rintro e w12 ⟨rfl, hm12, ho12, hO12⟩
    have HM12 := hidP hm12
    have HOA12 := hidP ho12
    have HO12 := hidP (owns_only HO11.out hO12 (fun b hb hS => by have h1 := HK3.out _ _ _ hb; have h2 := (blk_of_owns HV11.out hS).1; omega))
    have HB12 : Hid (Below W.heap.size W w12) := HB11.out.trans (hO12.below HB11.out.size (fun b hb hS => by have h2 := (blk_of_owns HV11.out hS).1; have h3 := HB5.out.size; omega))
    have hz12 := hO12.size
    clear hm12 ho12 hO12 HO11 HV11
    go_wp2_with fail
    refine (heldLieS_any _ _ _ _ _ HM12.out (by omega) (by omega)).mono ?_
    rintro e w13 ⟨rfl, hb13⟩
    have HM13 := hidP (HM12.out.kept (fun b hb => hb13.block b (HOA12.out.lt hb)))
    have HOA13 := hidP (HOA12.out.kept (fun b hb => hb13.block b (HOA12.out.lt hb)))
    have HO13 := hidP (owns_below HO12.out hb13)
    have HB13 := hidP (HB12.out.trans (hb13.mono HB12.out.size))
    have hz13 : w.heap.size < w13.heap.size := Nat.lt_of_lt_of_le hzA HB13.out.size
    clear hb13 HM12 HOA12 HO12
    have a0 : w13.cell? ⟨w.heap.size, 0, none⟩ = some (.int .i64 r.start) := (HA.out.below HB13.out).k0
    have a1 : w13.cell? ⟨w.heap.size, 1, none⟩ = some (.int .i64 r.stop) := (HA.out.below HB13.out).k1
    have a2 : w13.cell? ⟨w.heap.size, 2, none⟩ = some (.slice d.a0 r.steps.length d.c0) := (HA.out.below HB13.out).k2
    have a3 : w13.cell? ⟨w.heap.size, 3, none⟩ = some (.slice d.a1 r.lies.length d.c1) := (HA.out.below HB13.out).k3
    have a4 : w13.cell? ⟨w.heap.size, 4, none⟩ = some (.slice d.a2 r.crosses.length d.c2) := (HA.out.below HB13.out).k4
    have a5 : w13.cell? ⟨w.heap.size, 5, none⟩ = some (.slice d.a3 r.parts.length d.c3) := (HA.out.below HB13.out).k5
    have a6 : w13.cell? ⟨w.heap.size, 6, none⟩ = some (.slice d.a4 r.over.length d.c4) := (HA.out.below HB13.out).k6
    have a7 : w13.cell? ⟨w.heap.size, 7, none⟩ = some (.slice d.a5 r.flanks.length d.c5) := (HA.out.below HB13.out).k7
    go_wp2_with fail
    clear a0 a1 a2 a3 a4 a5 a6 a7
    refine (toRoute_row d r _ (HL.out.below HB13.out) HN).mono ?_
    rintro e w14 ⟨g14, rfl, hr14, hb14⟩
    have HM14 := hidP (HM13.out.kept (fun b hb => hb14.block b (HOA13.out.lt hb)))
    have HOA14 := hidP (HOA13.out.kept (fun b hb => hb14.block b (HOA13.out.lt hb)))
    have HO14 := hidP (owns_below HO13.out hb14)
    have HB14 := hidP (HB13.out.trans (hb14.mono HB13.out.size))
    clear hb14 HM13 HOA13 HO13
    go_wp2_with fail
    refine (implNeeds_any (dOf g14 r) r _ (hr14.out.lists HN.out).lies (hr14.out.lists HN.out).flanks HN.out.lies HN.out.flanks hwf (fun e => by simp [dOf] at e)).mono ?_
    rintro e w15 ⟨x2, y2, rfl, ho15, hb15⟩
    rw [HNE.out] at ho15 ⊢
    have HM15 := hidP (HM14.out.kept (fun b hb => hb15.block b (HOA14.out.lt hb)))
    have HOA15 := hidP (HOA14.out.kept (fun b hb => hb15.block b (HOA14.out.lt hb)))
    have HO15 := hidP (owns_below HO14.out hb15)
    have HB15 := hidP (HB14.out.trans (hb15.mono HB14.out.size))
    have HV15 := hidP ho15
    clear hb15 ho15 hr14 HM14 HOA14 HO14
    obtain ⟨xe, ye, hxy, hE0, _, _⟩ := ownE HO15.out hnm
    cases hxy
    obtain ⟨xf, yf, hxy, hE1, _, _⟩ := ownE HV15.out hnm
    cases hxy
    go_wp2_with fail
    refine (eqLieS_walk _ _ _ _ _ _ hE1 hE0).mono ?_
    rintro e w16 ⟨rfl, hb16⟩
    have HM16 := hidP (HM15.out.kept (fun b hb => hb16.block b (HOA15.out.lt hb)))
    have HB16 := hidP (HB15.out.trans (hb16.mono HB15.out.size))
    clear hb16 HM15 HOA15 HO15 HV15 hE0 hE1
    go_wp2_with fail
    refine (heldLieS_any _ _ _ _ _ HM16.out (by omega) (by omega)).mono ?_
    rintro e w17 ⟨rfl, hb17⟩
    have HB17 := hidP (HB16.out.trans (hb17.mono HB16.out.size))
    clear hb17 HM16
    go_wp2_with fail
    go_ret
    exact ⟨rfl, hbW.trans (HB17.out.mono hbW.size)⟩

end Go.Proofs.Ytmkdgnmmebldgaa
