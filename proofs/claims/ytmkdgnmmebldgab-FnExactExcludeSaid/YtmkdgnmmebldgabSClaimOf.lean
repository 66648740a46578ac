import Derived.Test.YtmkdgnmmebldgabSClaim
import Derived.Test.YtmkdgnmmebldgabTRoute
namespace Go.Proofs.Ytmkdgnmmebldgab
open Go.RowKit Go.Deep

theorem row_of_alloc1 {w W : World} {o : Obj} (hW : W = w.alloc o) (c : Array Value) (T : Nat) : (W.alloc (.cells c T)).rowIs (w.heap.size + 1) T c.size (fun j => c.getD j (.bool false)) := by
  have h := row_of_alloc W c T
  rw [show W.heap.size = w.heap.size + 1 by rw [hW]; simp] at h
  exact h

theorem store12 {u : World} {B : Nat} {T : TypeId} {f : Nat → Value} (h : u.rowIs B T 12 f) (v0 v1 v2 v3 v4 v5 v6 v7 v8 v9 v10 v11 : Value) :
    ∃ U, U = ((((((((((((u.setCell ⟨B, 0, none⟩ v0).setCell ⟨B, 1, none⟩ v1).setCell ⟨B, 2, none⟩ v2).setCell ⟨B, 3, none⟩ v3).setCell ⟨B, 4, none⟩ v4).setCell ⟨B, 5, none⟩ v5).setCell ⟨B, 6, none⟩ v6).setCell ⟨B, 7, none⟩ v7).setCell ⟨B, 8, none⟩ v8).setCell ⟨B, 9, none⟩ v9).setCell ⟨B, 10, none⟩ v10).setCell ⟨B, 11, none⟩ v11) ∧ U.cell? ⟨B, 0, none⟩ = some v0 ∧ U.cell? ⟨B, 1, none⟩ = some v1 ∧ U.cell? ⟨B, 2, none⟩ = some v2 ∧ U.cell? ⟨B, 3, none⟩ = some v3 ∧ U.cell? ⟨B, 4, none⟩ = some v4 ∧ U.cell? ⟨B, 5, none⟩ = some v5 ∧ U.cell? ⟨B, 6, none⟩ = some v6 ∧ U.cell? ⟨B, 7, none⟩ = some v7 ∧ U.cell? ⟨B, 8, none⟩ = some v8 ∧ U.cell? ⟨B, 9, none⟩ = some v9 ∧ U.cell? ⟨B, 10, none⟩ = some v10 ∧ U.cell? ⟨B, 11, none⟩ = some v11 ∧ (∀ k, k ≠ B → U.heap[k]? = u.heap[k]?) ∧ (∀ B0 w0, B0 ≤ B → Below B0 w0 u → Below B0 w0 U) := by
  have hr := ((((((((((((h.set 0 v0).set 1 v1).set 2 v2).set 3 v3).set 4 v4).set 5 v5).set 6 v6).set 7 v7).set 8 v8).set 9 v9).set 10 v10).set 11 v11)
  refine ⟨_, rfl, ?_, ?_, ?_, ?_, ?_, ?_, ?_, ?_, ?_, ?_, ?_, ?_, ?_, ?_⟩
  iterate 12 (rw [hr.cell (by omega)]; simp)
  · intro k hk
    iterate 12 rw [Below.heap_setCell _ _ _ _ hk]
  · intro B0 w0 hB hb
    exact ((((((((((((hb.setCell (show B0 ≤ (⟨B, 0, none⟩ : Addr).block from hB) v0).setCell (show B0 ≤ (⟨B, 1, none⟩ : Addr).block from hB) v1).setCell (show B0 ≤ (⟨B, 2, none⟩ : Addr).block from hB) v2).setCell (show B0 ≤ (⟨B, 3, none⟩ : Addr).block from hB) v3).setCell (show B0 ≤ (⟨B, 4, none⟩ : Addr).block from hB) v4).setCell (show B0 ≤ (⟨B, 5, none⟩ : Addr).block from hB) v5).setCell (show B0 ≤ (⟨B, 6, none⟩ : Addr).block from hB) v6).setCell (show B0 ≤ (⟨B, 7, none⟩ : Addr).block from hB) v7).setCell (show B0 ≤ (⟨B, 8, none⟩ : Addr).block from hB) v8).setCell (show B0 ≤ (⟨B, 9, none⟩ : Addr).block from hB) v9).setCell (show B0 ≤ (⟨B, 10, none⟩ : Addr).block from hB) v10).setCell (show B0 ≤ (⟨B, 11, none⟩ : Addr).block from hB) v11)

set_option maxRecDepth 8000 in
set_option maxHeartbeats 4000000 in
theorem claimOf_any (d : RAddr) (r : MRoute) (w : World) (hl : Hid (RListsAt w d r)) (hs : Hid (ShortN r)) (hwf : Hid (WfR r)) :
    Calls Try.prog 31 #[routeV d r] w fun e w' => ∃ dc, e = .returned (claimV dc (claimF r)) ∧ Hid (ClaimOwn w w' dc (claimF r)) ∧ Hid (dc.pa = d.a3 ∧ dc.oa = d.a4 ∧ dc.xa = d.a2) ∧ Below w.heap.size w w' := by
  obtain ⟨a0, c0, a1, c1, a2, c2, a3, c3, a4, c4, a5, c5⟩ := d
  unfold routeV
  dsimp only
  go_enter Try.func31, Try.ntmps31
  go_wp2_with fail
  generalize hW : (w.alloc _).alloc _ = W
  have HA : Hid (RouteCell W w.heap.size 0 ⟨a0, c0, a1, c1, a2, c2, a3, c3, a4, c4, a5, c5⟩ r) := by rw [← hW]; exact (routeCell_box w ⟨a0, c0, a1, c1, a2, c2, a3, c3, a4, c4, a5, c5⟩ r _).below (by repeat (first | exact Below.refl _ _ | assumption | refine Below.drew ?_ | refine bdrewN ?_ _ | refine Below.setCell ?_ (by first | omega | (simp; done) | (simp; omega)) _ | refine Below.alloc ?_ (by first | omega | (simp; done) | (simp; omega)) _))
  have HR : Hid (∃ f, W.rowIs (w.heap.size + 1) 75 12 f) := by rw [← hW]; exact ⟨_, row_of_alloc1 rfl _ _⟩
  have hbW : Below w.heap.size w W := by rw [← hW]; exact (by repeat (first | exact Below.refl _ _ | assumption | refine Below.drew ?_ | refine bdrewN ?_ _ | refine Below.setCell ?_ (by first | omega | (simp; done) | (simp; omega)) _ | refine Below.alloc ?_ (by first | omega | (simp; done) | (simp; omega)) _))
  have hz : w.heap.size + 1 < W.heap.size := by rw [← hW]; simp
  have hz' : w.heap.size < W.heap.size := by omega
  have HL := hidP (hl.out.below hbW)
  have HL0 := hl
  clear hW hl
  obtain ⟨f, hf⟩ := HR.out
  have HF := hidP hf
  clear hf HR
  have z0 : W.cell? ⟨w.heap.size, 0, none⟩ = some (.int .i64 r.start) := HA.out.k0
  have z1 : W.cell? ⟨w.heap.size, 1, none⟩ = some (.int .i64 r.stop) := HA.out.k1
  have z2 : W.cell? ⟨w.heap.size, 2, none⟩ = some (.slice a0 r.steps.length c0) := HA.out.k2
  have z3 : W.cell? ⟨w.heap.size, 3, none⟩ = some (.slice a1 r.lies.length c1) := HA.out.k3
  have z4 : W.cell? ⟨w.heap.size, 4, none⟩ = some (.slice a2 r.crosses.length c2) := HA.out.k4
  have z5 : W.cell? ⟨w.heap.size, 5, none⟩ = some (.slice a3 r.parts.length c3) := HA.out.k5
  have z6 : W.cell? ⟨w.heap.size, 6, none⟩ = some (.slice a4 r.over.length c4) := HA.out.k6
  have z7 : W.cell? ⟨w.heap.size, 7, none⟩ = some (.slice a5 r.flanks.length c5) := HA.out.k7
  clear HA
  go_region_held3 (fun w' => w'.cell? ⟨w.heap.size, 0, none⟩ = some (.int .i64 r.start) ∧ w'.cell? ⟨w.heap.size, 1, none⟩ = some (.int .i64 r.stop) ∧ w'.cell? ⟨w.heap.size, 2, none⟩ = some (.slice a0 r.steps.length c0) ∧ w'.cell? ⟨w.heap.size, 3, none⟩ = some (.slice a1 r.lies.length c1) ∧ w'.cell? ⟨w.heap.size, 4, none⟩ = some (.slice a2 r.crosses.length c2) ∧ w'.cell? ⟨w.heap.size, 5, none⟩ = some (.slice a3 r.parts.length c3) ∧ w'.cell? ⟨w.heap.size, 6, none⟩ = some (.slice a4 r.over.length c4) ∧ w'.cell? ⟨w.heap.size, 7, none⟩ = some (.slice a5 r.flanks.length c5)) (first | go_keep | (refine ⟨?_, ?_, ?_, ?_, ?_, ?_, ?_, ?_⟩ <;> assumption))
    (first
      | (go_at_call_of 49 (r.parts); refine (keyedByP_any a3 c3 r.parts W.drew (HL.out.below (Below.refl _ _).drew).parts).mono ?_; rintro e w1 ⟨rfl, hb1'⟩; unfold keyedV; generalize hsp : keysF (r.parts.map MPart.piece) = sp; have HSP := hidP hsp; have hb1 : Below W.heap.size W w1 := (Below.refl _ _).drew.trans hb1'; replace z0 := cell_later hb1 z0; replace z1 := cell_later hb1 z1; replace z2 := cell_later hb1 z2; replace z3 := cell_later hb1 z3; replace z4 := cell_later hb1 z4; replace z5 := cell_later hb1 z5; replace z6 := cell_later hb1 z6; replace z7 := cell_later hb1 z7; clear hb1' hsp)
      | (go_at_call_of 49 (r.over); refine (keyedByP_any a4 c4 r.over w1 (HL.out.below hb1).over).mono ?_; rintro e w2 ⟨rfl, hb2'⟩; unfold keyedV; generalize hso : keysF (r.over.map MPart.piece) = so; have HSO := hidP hso; have hb2 := hb1.trans (hb2'.mono hb1.size); replace z0 := cell_later hb2' z0; replace z1 := cell_later hb2' z1; replace z2 := cell_later hb2' z2; replace z3 := cell_later hb2' z3; replace z4 := cell_later hb2' z4; replace z5 := cell_later hb2' z5; replace z6 := cell_later hb2' z6; replace z7 := cell_later hb2' z7; clear hb2' hso)
      | (go_at_call 51; refine (keyedByN_any a2 c2 r.crosses w2 (HL.out.below hb2).crosses).mono ?_; rintro e w3 ⟨rfl, hb3'⟩; unfold keyedV; generalize hsx : keysF (r.crosses.map id) = sx; have HSX := hidP hsx; have hb3 := hb2.trans (hb3'.mono hb2.size); replace z0 := cell_later hb3' z0; replace z1 := cell_later hb3' z1; replace z2 := cell_later hb3' z2; replace z3 := cell_later hb3' z3; replace z4 := cell_later hb3' z4; replace z5 := cell_later hb3' z5; replace z6 := cell_later hb3' z6; replace z7 := cell_later hb3' z7; clear hb3' hsx)
      | (go_at_call 54; refine (implNeeds_any ⟨a0, c0, a1, c1, a2, c2, a3, c3, a4, c4, a5, c5⟩ r w3 (HL.out.below hb3).lies (HL.out.below hb3).flanks hs.out.lies hs.out.flanks hwf (HL.out.below hb3).nil1).mono ?_; rintro e w4 ⟨x, y, rfl, ho4, hb4'⟩; generalize hnn : needsF r.lies r.flanks = nn at ho4 ⊢; have HNN := hidP hnn; have hb4 := hb3.trans (hb4'.mono hb3.size); replace z0 := cell_later hb4' z0; replace z1 := cell_later hb4' z1; replace z2 := cell_later hb4' z2; replace z3 := cell_later hb4' z3; replace z4 := cell_later hb4' z4; replace z5 := cell_later hb4' z5; replace z6 := cell_later hb4' z6; replace z7 := cell_later hb4' z7; obtain ⟨xa, ya, hxy, he, _, _⟩ := ownE ho4 (by have h1 := needs_len r.flanks r.lies; have h2 := hs.out.lies; have h3 := hs.out.flanks; rw [← hnn]; unfold needsF maxLen; omega); cases hxy; have HE4 := hidP he; have HXB : Hid (∀ b, (Value.slice x nn.length y).ownBlock = some b → w.heap.size + 1 < b) := (fun b e => by have h1 := (ho4.lt b e).1; have h2 := hb3.size; omega); have HO4 := hidP ho4; have HSh : Hid (nn.length ≤ maxLen) := (by have h1 := needs_len r.flanks r.lies; have h2 := hs.out.lies; have h3 := hs.out.flanks; unfold Hid; rw [← hnn]; unfold needsF maxLen; omega); clear he hb4' ho4 hnn)
      | (go_at_call 53; refine (keyedByL_any x y nn w4 HE4).mono ?_; rintro e w5 ⟨rfl, hb5'⟩; unfold keyedV; generalize hsn : keysF (nn.map MEnd.piece) = sn; have HSN := hidP hsn; have hb5 := hb4.trans (hb5'.mono hb4.size); have HO5 := hidP (owns_below HO4.out hb5'); replace z0 := cell_later hb5' z0; replace z1 := cell_later hb5' z1; replace z2 := cell_later hb5' z2; replace z3 := cell_later hb5' z3; replace z4 := cell_later hb5' z4; replace z5 := cell_later hb5' z5; replace z6 := cell_later hb5' z6; replace z7 := cell_later hb5' z7; have hf5 := HF.out.of_block (hb5.block _ hz); have g0 := hf5.cell (i := 0) (by omega); have fz0 := hf5.frozen 0; have g1 := hf5.cell (i := 1) (by omega); have fz1 := hf5.frozen 1; have g2 := hf5.cell (i := 2) (by omega); have fz2 := hf5.frozen 2; have g3 := hf5.cell (i := 3) (by omega); have fz3 := hf5.frozen 3; have g4 := hf5.cell (i := 4) (by omega); have fz4 := hf5.frozen 4; have g5 := hf5.cell (i := 5) (by omega); have fz5 := hf5.frozen 5; have g6 := hf5.cell (i := 6) (by omega); have fz6 := hf5.frozen 6; have g7 := hf5.cell (i := 7) (by omega); have fz7 := hf5.frozen 7; have g8 := hf5.cell (i := 8) (by omega); have fz8 := hf5.frozen 8; have g9 := hf5.cell (i := 9) (by omega); have fz9 := hf5.frozen 9; have g10 := hf5.cell (i := 10) (by omega); have fz10 := hf5.frozen 10; have g11 := hf5.cell (i := 11) (by omega); have fz11 := hf5.frozen 11; have hz5 : w.heap.size + 1 < w5.heap.size := Nat.lt_of_lt_of_le hz hb5.size; have HF5 := hidP hf5; clear hb5' hf5 hsn))
  all_goals
    clear z0 z1 z2 z3 z4 z5 z6 z7
    have hbF := hbW.trans (hb5.mono hbW.size)
    go_wp2_with fail
    obtain ⟨U, hU, k0, k1, k2, k3, k4, k5, k6, k7, k8, k9, k10, k11, hblk, hbel⟩ := store12 HF5.out (.slice a3 r.parts.length c3) (.int .u64 sp.a) (.int .u64 sp.b) (.slice a4 r.over.length c4) (.int .u64 so.a) (.int .u64 so.b) (.slice a2 r.crosses.length c2) (.int .u64 sx.a) (.int .u64 sx.b) (.slice x nn.length y) (.int .u64 sn.a) (.int .u64 sn.b)
    rw [← hU]
    have hbU := hbel _ _ (Nat.le_succ _) hbF
    clear hU hbel g0 g1 g2 g3 g4 g5 g6 g7 g8 g9 g10 g11
    refine bodyPost_ret (v := claimV ⟨a3, c3, sp, a4, c4, so, a2, c2, sx, x, y, sn⟩ ⟨r.parts, r.over, r.crosses, nn⟩) (by unfold claimV; simp [results, Try.results31, go_sem, k0, k1, k2, k3, k4, k5, k6, k7, k8, k9, k10, k11]) rfl ⟨⟨a3, c3, sp, a4, c4, so, a2, c2, sx, x, y, sn⟩, ?_, ?_, ⟨rfl, rfl, rfl⟩, hbU⟩
    · unfold claimF; rw [HNN.out]
    · unfold claimF
      rw [HNN.out]
      exact ⟨HL0.out.parts, HL0.out.over, HL0.out.crosses, ⟨_, owns_kept HO5.out (fun b e => hblk b (by have h := HXB.out b e; omega))⟩, HSh.out, HSP.out.symm, HSO.out.symm, HSX.out.symm, HSN.out.symm⟩

end Go.Proofs.Ytmkdgnmmebldgab
