import Derived.Test.YtmkdgnmmebldgaaPn24
import Derived.Test.YtmkdgnmmebldgaaPn10
namespace Go.Proofs.Ytmkdgnmmebldgaa
open Go.RowKit Go.Deep
set_option maxRecDepth 20000 in
set_option maxHeartbeats 4000000 in
theorem track_any (C : Nat) (ca : Option Addr) (cc : Nat) (bs : List Int) (at_ : Nat) (w : World) (hc : Hid (Cur w C ca cc bs at_)) (hlow : Hid (LowB C ca bs)) (ha : at_ ≤ 600000000) :
    Calls Try.prog 38 #[.pointer (some ⟨C, 0, none⟩)] w (NetOut C ca cc bs at_ 402 w) := by
  have hCz := hc.out.lt
  go_enter Try.func38, Try.ntmps38
  go_wp2_with fail
  generalize hW : World.alloc w _ = W
  have hbW : Below w.heap.size w W := by rw [← hW]; exact blo
  have R0 : W.cell? ⟨w.heap.size, 0, none⟩ = some (.slice none 0 0) := by rw [← hW]; simp [go_sem]
  have R1 : W.cell? ⟨w.heap.size, 1, none⟩ = some (.slice none 0 0) := by rw [← hW]; simp [go_sem]
  have HRZ : Hid (∀ o, W.frozen? ⟨w.heap.size, o, none⟩ = false) := fun o => by rw [← hW]; simp [go_sem]
  have hzW : w.heap.size < W.heap.size := by rw [← hW]; simp
  have HBW := hidP hbW
  clear hW hbW
  obtain ⟨R, hR⟩ : ∃ R, w.heap.size = R := ⟨_, rfl⟩
  rw [hR] at R0 R1 HRZ hzW ⊢
  have hRC : C < R := by omega
  have HRw : Hid (w.heap.size ≤ R ∧ R ≤ w.heap.size) := by unfold Hid; omega
  clear hR
  refine (pick_any C ca cc bs at_ 2 W (hc.out.below HBW.out) (by omega) (by omega)).mono ?_
  rintro e w1 ⟨x, at1, hx, rfl, hat1, hc1, ho1⟩
  have HC1 := hidP hc1
  have HO1 := hidP ho1
  have hz1 := ho1.size
  clear hc1 ho1
  have HEND : ∀ (e : Ending) (w2 : World), NetOut C ca cc bs at1 400 w1 e w2 → ∃ (xp : Option Addr) (yp : Nat) (xj : Option Addr) (yj np nj : Nat), e = .returned (.agg #[.slice xp np yp, .slice xj nj yj]) ∧ w2.cell? ⟨R, 0, none⟩ = some (.slice none 0 0) ∧ w2.cell? ⟨R, 1, none⟩ = some (.slice none 0 0) ∧ w2.frozen? ⟨R, 0, none⟩ = false ∧ w2.frozen? ⟨R, 1, none⟩ = false ∧
      NetOut C ca cc bs at_ 402 w (.returned (.agg #[.slice xp np yp, .slice xj nj yj])) ((w2.setCell ⟨R, 0, none⟩ (.slice xp np yp)).setCell ⟨R, 1, none⟩ (.slice xj nj yj)) := by
    rintro e w2 ⟨xp, yp, xj, yj, ps, js, at', he, hk, hps, hcur, hat, ho⟩
    have h1 := HO1.out
    have hR2 : w2.heap[R]? = W.heap[R]? := (ho.block R (by omega) (by omega)).trans (h1.block R (by omega) (by omega))
    have hset : ∀ b, b ≠ R → ((w2.setCell ⟨R, 0, none⟩ (.slice xp ps.length yp)).setCell ⟨R, 1, none⟩ (.slice xj js.length yj)).heap[b]? = w2.heap[b]? := fun b hb => (Below.heap_setCell _ _ _ _ hb).trans (Below.heap_setCell _ _ _ _ hb)
    have hw := HRw.out
    have hall : Only (fun k => k = C) w w2 := ((Only.of_below HBW.out).trans h1).trans ho
    refine ⟨xp, yp, xj, yj, ps.length, js.length, he, (World.cell?_of_block (w := W) hR2).trans R0, (World.cell?_of_block (w := W) hR2).trans R1, (World.frozen?_of_block (w := W) hR2).trans (HRZ.out 0), (World.frozen?_of_block (w := W) hR2).trans (HRZ.out 1), xp, yp, xj, yj, ps, js, at', rfl, ?_, hps, hcur.above hlow.out (fun k hk' => hset k (by omega)), by omega, (hall.setCell (p := ⟨R, 0, none⟩) (Or.inr hw.1) _).setCell (p := ⟨R, 1, none⟩) (Or.inr hw.1) _⟩
    intro u hu
    exact hk u (fun b h2 h3 => (hu b (by omega) (by simpa using h3)).trans (hset b (by omega)))
  have HE := hidP HEND
  clear HEND R0 R1
  have hx2 : x = 0 ∨ x = 1 := by omega
  rcases hx2 with rfl | rfl
  · go_wp2_with fail
    refine (station_any C ca cc bs at1 w1 HC1 hlow (by omega)).mono ?_
    rintro e w2 hnet
    obtain ⟨xp, yp, xj, yj, np, nj, rfl, q0, q1, u0, u1, hout⟩ := HE.out e w2 (by
      obtain ⟨a1, a2, a3, a4, a5, a6, a7, h1, h2, h3, h4, h5, h6⟩ := hnet
      exact ⟨a1, a2, a3, a4, a5, a6, a7, h1, h2, h3, h4, by omega, h6⟩)
    have HOUT := hidP hout
    clear hout hnet
    go_wp2_with fail
    exact bodyPost_ret (v := .agg #[.slice xp np yp, .slice xj nj yj]) (by simp [results, Try.results38, go_sem, q0, q1]) rfl HOUT.out
  · go_wp2_with fail
    refine (net_any C ca cc bs at1 w1 HC1 hlow (by omega)).mono ?_
    rintro e w2 hnet
    obtain ⟨xp, yp, xj, yj, np, nj, rfl, q0, q1, u0, u1, hout⟩ := HE.out e w2 hnet
    have HOUT := hidP hout
    clear hout hnet
    go_wp2_with fail
    exact bodyPost_ret (v := .agg #[.slice xp np yp, .slice xj nj yj]) (by simp [results, Try.results38, go_sem, q0, q1]) rfl HOUT.out
end Go.Proofs.Ytmkdgnmmebldgaa
