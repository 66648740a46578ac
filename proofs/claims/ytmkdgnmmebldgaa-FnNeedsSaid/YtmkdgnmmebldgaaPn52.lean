import Derived.Test.YtmkdgnmmebldgaaPn30
import Derived.Test.YtmkdgnmmebldgaaPn32
import Derived.Test.YtmkdgnmmebldgaaPn51
import Derived.Test.YtmkdgnmmebldgaaPn47
import Derived.Test.YtmkdgnmmebldgaaPn27
namespace Go.Proofs.Ytmkdgnmmebldgaa
open Go.RowKit Go.Deep
def AllOut (C : Nat) (ca : Option Addr) (cc : Nat) (bs : List Int) (at_ : Nat) (w : World) (e : Ending) (w' : World) : Prop :=
  ∃ pa pc ja jc sa sc ps js ss at', e = .returned (.tuple #[.agg #[.slice pa (ps : List MPiece).length pc, .slice ja (js : List MJoint).length jc], .slice sa (ss : List MPiece).length sc]) ∧ (∀ u, Only (fun k => k = C) w' u → PiecesAt u pa ps ∧ JointsAt u ja js ∧ PiecesAt u sa ss) ∧ at' ≤ at_ + 200000000 ∧ Cur w' C ca cc bs at' ∧ Only (fun k => k = C) w w'
def KeepX (C R M : Nat) (wz : World) (pa ja sa : Option Addr) (ps : List MPiece) (js : List MJoint) (ss : List MPiece) : Prop :=
  ∀ u : World, (∀ b, b ≠ C → b ≠ R → b ≠ M → b < wz.heap.size → u.heap[b]? = wz.heap[b]?) → PiecesAt u pa ps ∧ JointsAt u ja js ∧ PiecesAt u sa ss
set_option maxRecDepth 20000 in
set_option maxHeartbeats 8000000 in
theorem l5all_any (C : Nat) (ca : Option Addr) (cc : Nat) (bs : List Int) (at_ : Nat) (w : World) (hc : Hid (Cur w C ca cc bs at_)) (hlow : Hid (LowB C ca bs)) (ha : at_ ≤ 100000000) :
    Calls Try.prog 127 #[.pointer (some ⟨C, 0, none⟩)] w (AllOut C ca cc bs at_ w) := by
  have hCz := hc.out.lt
  go_enter Try.func127, Try.ntmps127
  go_wp2_with fail
  generalize hW : World.alloc w _ = W
  have hbW : Below w.heap.size w W := by rw [← hW]; exact blo
  have R0 : W.cell? ⟨w.heap.size, 0, none⟩ = some (.slice none 0 0) := by rw [← hW]; simp [go_sem]
  have R1 : W.cell? ⟨w.heap.size, 1, none⟩ = some (.slice none 0 0) := by rw [← hW]; simp [go_sem]
  have HRZ : Hid (∀ o, W.frozen? ⟨w.heap.size, o, none⟩ = false) := fun o => by rw [← hW]; simp [go_sem]
  have hzW : w.heap.size < W.heap.size := by rw [← hW]; simp
  have HBW := hidP hbW
  obtain ⟨R, hR⟩ : ∃ R, w.heap.size = R := ⟨_, rfl⟩
  have HRw : Hid (w.heap.size = R) := hR
  rw [hR] at R0 R1 HRZ hzW hCz ⊢
  clear hW hbW hR
  refine (track_any C ca cc bs at_ W (hc.out.below HBW.out) hlow (by omega)).mono ?_
  rintro e w1 ⟨pa, pc, ja, jc, ps, js, at1, rfl, hk1, hps, hc1, hat1, ho1⟩
  have HK1 := hidP hk1
  have HPS := hidP hps
  have HC1 := hidP hc1
  have HO1 := hidP ho1
  have hz1 := ho1.size
  clear hk1 hc1 ho1 hps
  go_wp2_with fail
  generalize hW2 : World.alloc w1 _ = W2
  have hb2 : Below w1.heap.size w1 W2 := by rw [← hW2]; exact blo
  have M0 : W2.cell? ⟨w1.heap.size, 0, none⟩ = some (.slice pa ps.length pc) := by rw [← hW2]; simp [go_sem]
  have M1 : W2.cell? ⟨w1.heap.size, 1, none⟩ = some (.slice ja js.length jc) := by rw [← hW2]; simp [go_sem]
  have HMZ : Hid (∀ o, W2.frozen? ⟨w1.heap.size, o, none⟩ = false) := fun o => by rw [← hW2]; simp [go_sem]
  have hz2 : W2.heap.size = w1.heap.size + 1 := by rw [← hW2]; simp
  have HB2 := hidP hb2
  clear hW2 hb2
  obtain ⟨M, hM⟩ : ∃ M, w1.heap.size = M := ⟨_, rfl⟩
  have HMw : Hid (w1.heap.size = M) := hM
  rw [hM] at M0 M1 HMZ hz2 hz1 ⊢
  clear hM
  have hMC : C < M := by omega
  have HKP : Hid (∀ u, Only (fun k => k = C) W2 u → PiecesAt u pa ps ∧ JointsAt u ja js) := fun u hu => HK1.out u (fun b h1 h2 => (hu.block b (by have := HB2.out.size; omega) (by omega)).trans (HB2.out.block b h2))
  refine (signals_any C ca cc bs at1 pa pc ja js.length jc ps W2 (HC1.out.below HB2.out) hlow (by omega) (fun u hu => (HKP.out u hu).1) HPS.out.1 HPS.out.2.1 HPS.out.2.2.1).mono ?_
  rintro e w3 ⟨sa, sc, ss, at3, rfl, hk3, hss, hc3, hat3, ho3⟩
  have HK3 := hidP hk3
  have HSS := hidP hss
  have HC3 := hidP hc3
  have HO3 := hidP ho3
  have hz3 := ho3.size
  clear hk3 hc3 ho3 hss
  go_wp2_with fail
  refine (pick_any C ca cc bs at3 24 w3 HC3 (by omega) (by omega)).mono ?_
  rintro e w4 ⟨x, at4, hx, rfl, hat4, hc4, ho4⟩
  have HC4 := hidP hc4
  have HO4 : Hid (Only (fun k => k = C) W2 w4) := HO3.out.trans ho4
  have hz4 := ho4.size
  have m0 := HO4.out.cell M0 (by show ¬ M = C; omega)
  have m1 := HO4.out.cell M1 (by show ¬ M = C; omega)
  have hMb : w4.heap[M]? = W2.heap[M]? := HO4.out.block M (by omega) (by omega)
  have HM4 : Hid (∀ o, w4.frozen? ⟨M, o, none⟩ = false) := fun o => (World.frozen?_of_block (w := W2) (a := ⟨M, o, none⟩) hMb).trans (HMZ.out o)
  have hRb : w4.heap[R]? = W.heap[R]? := ((HO4.out.block R (by omega) (by omega)).trans (HB2.out.block R (by have := HMw.out; omega))).trans (HO1.out.block R (by omega) (by omega))
  have q0 := (World.cell?_of_block (w := W) (a := ⟨R, 0, none⟩) hRb).trans R0
  have q1 := (World.cell?_of_block (w := W) (a := ⟨R, 1, none⟩) hRb).trans R1
  have HQZ : Hid (∀ o, w4.frozen? ⟨R, o, none⟩ = false) := fun o => (World.frozen?_of_block (w := W) (a := ⟨R, o, none⟩) hRb).trans (HRZ.out o)
  have HK4 : Hid (∀ u, (∀ b, b ≠ C → b ≠ R → b ≠ M → b < W2.heap.size → u.heap[b]? = w4.heap[b]?) → PiecesAt u pa ps ∧ JointsAt u ja js) := fun u hu => HK1.out u (fun b h1 h2 => (hu b (by omega) (by omega) (by have := HMw.out; omega) (by have := HMw.out; omega)).trans ((HO4.out.block b (by have := HMw.out; omega) (by omega)).trans (HB2.out.block b h2)))
  have HS4 : Hid (∀ u, (∀ b, W2.heap.size ≤ b → b < w3.heap.size → u.heap[b]? = w4.heap[b]?) → PiecesAt u sa ss) := fun u hu => HK3.out u (fun b h1 h2 => (hu b h1 h2).trans (ho4.block b h2 (by omega)))
  have HOW : Hid (Only (fun k => k = C) w w4) := by
    have h1 := HO1.out
    have h2 := HB2.out
    have h3 := HO4.out
    have h0 := HBW.out
    exact (((Only.of_below h0).trans h1).trans (Only.of_below h2)).trans h3
  have HR4 : Hid (w4.ownsRow W2.heap.size 53 4 (.slice sa ss.length sc) ss.length (flatPc ss)) := owns_kept2 HSS.out.2.1 (fun b hb => ho4.block b (HSS.out.2.1.lt b hb).2 (by have := (HSS.out.2.1.lt b hb).1; omega))
  have HSN := hidP HSS.out.2.2
  have hsl := HSS.out.1
  have hp100 := HPS.out.2.1
  have hj100 := HPS.out.2.2.2.1
  have HJE : Hid (∀ j ∈ js, j.ends.length ≤ 4) := HPS.out.2.2.2.2
  have hz24 : W2.heap.size ≤ w4.heap.size := by omega
  clear hc4 ho4 M0 M1 R0 R1 hMb hRb HC3 HO3 HK3 HK1 HC1 HO1 HB2 HBW HMZ HRZ HSS HPS HKP
  have HFIN : Hid (∀ (wz wf : World) (pa' : Option Addr) (pc' : Nat) (ja' : Option Addr) (jc' : Nat) (sa' : Option Addr) (sc' : Nat) (ps' : List MPiece) (js' : List MJoint) (ss' : List MPiece) (at' : Nat), KeepX C R M wz pa' ja' sa' ps' js' ss' → Cur wz C ca cc bs at' → at' ≤ at_ + 200000000 → Only (fun k => k = C ∨ w.heap.size ≤ k) w wz → wf.heap.size = wz.heap.size → (∀ b, b ≠ R → b ≠ M → wf.heap[b]? = wz.heap[b]?) → wf.os = wz.os → wf.tape = wz.tape → wf.output = wz.output → AllOut C ca cc bs at_ w (.returned (.tuple #[.agg #[.slice pa' ps'.length pc', .slice ja' js'.length jc'], .slice sa' ss'.length sc'])) wf) := by
    intro wz wf pa' pc' ja' jc' sa' sc' ps' js' ss' at' hk hc hat ho hs hb h1 h2 h3
    have hw := HRw.out
    refine ⟨pa', pc', ja', jc', sa', sc', ps', js', ss', at', rfl, fun u hu => hk u (fun b b1 b2 b3 b4 => (hu.block b (by omega) b1).trans (hb b b2 b3)), hat, hc.above hlow.out (fun k hk => hb k (by omega) (by omega)), ⟨h1.trans ho.os, h2.trans ho.tape, h3.trans ho.output, by have := ho.size; omega, fun b hb' hn => (hb b (by omega) (by omega)).trans (ho.block b hb' (by omega))⟩⟩
  have hx' : x = 0 ∨ x = 1 ∨ 2 ≤ x := by omega
  have hMR : M ≠ R := by omega
  rcases hx' with rfl | rfl | hx2
  · have hnet := HK4.out w4 (fun _ _ _ _ _ => rfl)
    go_wp2_with fail
    refine (spoil_any C ca cc bs at4 pa pc ja jc ps js w4 HC4 hlow (by omega) hnet.1 hnet.2 (by omega) (by omega) HJE).mono ?_
    rintro e w5 ⟨xp, yp, xj, yj, ps', js', at5, rfl, hk5, hat5, hc5, ho5⟩
    have hz5 := ho5.size
    have p0 := ho5.cell m0 (by show ¬ M = C; omega)
    have p1 := ho5.cell m1 (by show ¬ M = C; omega)
    have r0 := ho5.cell q0 (by show ¬ R = C; omega)
    have r1 := ho5.cell q1 (by show ¬ R = C; omega)
    have hMb : w5.heap[M]? = w4.heap[M]? := ho5.block M (by omega) (by omega)
    have hRb : w5.heap[R]? = w4.heap[R]? := ho5.block R (by omega) (by omega)
    have f0 := (World.frozen?_of_block (w := w4) (a := ⟨M, 0, none⟩) hMb).trans (HM4.out 0)
    have f1 := (World.frozen?_of_block (w := w4) (a := ⟨M, 1, none⟩) hMb).trans (HM4.out 1)
    have g0 := (World.frozen?_of_block (w := w4) (a := ⟨R, 0, none⟩) hRb).trans (HQZ.out 0)
    have g1 := (World.frozen?_of_block (w := w4) (a := ⟨R, 1, none⟩) hRb).trans (HQZ.out 1)
    have HKX : Hid (KeepX C R M w5 xp xj sa ps' js' ss) := fun u hu => by
      obtain ⟨a1, a2⟩ := hk5 u (fun b h1 h2 => hu b (by omega) (by omega) (by omega) h2)
      exact ⟨a1, a2, HS4.out u (fun b h1 h2 => (hu b (by omega) (by omega) (by omega) (by omega)).trans (ho5.block b (by omega) (by omega)))⟩
    have HC5 := hidP hc5
    have HO5 : Hid (Only (fun k => k = C ∨ w.heap.size ≤ k) w w5) := (HOW.out.trans ho5).mono (fun k hk => Or.inl hk)
    clear hk5 hc5 ho5 hMb hRb m0 m1 q0 q1
    go_wp2_with fail
    refine bodyPost_ret (v := .tuple #[.agg #[.slice xp ps'.length yp, .slice xj js'.length yj], .slice sa ss.length sc]) (by simp [results, Try.results127, go_sem, r0, r1]) rfl ?_
    exact HFIN.out w5 _ xp yp xj yj sa sc ps' js' ss at5 HKX.out HC5.out (by omega) HO5.out (by simp) (fun b b1 b2 => by rw [Below.heap_setCell _ _ _ _ b1, Below.heap_setCell _ _ _ _ b1, Below.heap_setCell _ _ _ _ b2, Below.heap_setCell _ _ _ _ b2]) rfl rfl rfl
  · go_wp2_with fail
    refine (spoilsignals_any C W2.heap.size ca cc bs at4 pa ps.length pc ja js.length jc sa ss.length sc ss w4 HC4 hlow (by omega) (by omega) hz24 (by omega) HR4 rfl (by omega) HSN).mono ?_
    rintro e w5 ⟨xs, ys, ss', at5, rfl, hk5, hat5, hc5, ho5⟩
    have hz5 := ho5.size
    have p0 := ho5.cell m0 (by show ¬ (M = C ∨ W2.heap.size ≤ M); omega)
    have p1 := ho5.cell m1 (by show ¬ (M = C ∨ W2.heap.size ≤ M); omega)
    have r0 := ho5.cell q0 (by show ¬ (R = C ∨ W2.heap.size ≤ R); omega)
    have r1 := ho5.cell q1 (by show ¬ (R = C ∨ W2.heap.size ≤ R); omega)
    have hRb : w5.heap[R]? = w4.heap[R]? := ho5.block R (by omega) (by omega)
    have g0 := (World.frozen?_of_block (w := w4) (a := ⟨R, 0, none⟩) hRb).trans (HQZ.out 0)
    have g1 := (World.frozen?_of_block (w := w4) (a := ⟨R, 1, none⟩) hRb).trans (HQZ.out 1)
    have HKX : Hid (KeepX C R M w5 pa ja xs ps js ss') := fun u hu => by
      obtain ⟨a1, a2⟩ := HK4.out u (fun b h0 h1 h2 h3 => (hu b h0 h1 h2 (by omega)).trans (ho5.block b (by omega) (by omega)))
      exact ⟨a1, a2, hk5 u (fun b h1 h2 => hu b (by omega) (by omega) (by omega) h2)⟩
    have HC5 := hidP hc5
    have HO5 : Hid (Only (fun k => k = C ∨ w.heap.size ≤ k) w w5) := (HOW.out.mono (fun k hk => Or.inl hk)).trans (ho5.mono (fun k hk => hk.imp id (fun h => by have := HRw.out; omega)))
    clear hk5 hc5 ho5 hRb m0 m1 q0 q1
    go_wp2_with fail
    refine bodyPost_ret (v := .tuple #[.agg #[.slice pa ps.length pc, .slice ja js.length jc], .slice xs ss'.length ys]) (by simp [results, Try.results127, go_sem, r0, r1]) rfl ?_
    exact HFIN.out w5 _ pa pc ja jc xs ys ps js ss' at5 HKX.out HC5.out (by omega) HO5.out (by simp) (fun b b1 b2 => by rw [Below.heap_setCell _ _ _ _ b1, Below.heap_setCell _ _ _ _ b1]) rfl rfl rfl
  · have e0 : ((x : Int) == 0) = false := by rw [beq_eq_false_iff_ne]; omega
    have e1 : ((x : Int) == 1) = false := by rw [beq_eq_false_iff_ne]; omega
    have g0 := HQZ.out 0
    have g1 := HQZ.out 1
    have HKX : Hid (KeepX C R M w4 pa ja sa ps js ss) := fun u hu => by
      obtain ⟨a1, a2⟩ := HK4.out u (fun b h0 h1 h2 h3 => hu b h0 h1 h2 (by omega))
      exact ⟨a1, a2, HS4.out u (fun b h1 h2 => hu b (by omega) (by omega) (by omega) (by omega))⟩
    have HO5 : Hid (Only (fun k => k = C ∨ w.heap.size ≤ k) w w4) := HOW.out.mono (fun k hk => Or.inl hk)
    go_wp2_with fail
    refine bodyPost_ret (v := .tuple #[.agg #[.slice pa ps.length pc, .slice ja js.length jc], .slice sa ss.length sc]) (by simp [results, Try.results127, go_sem, q0, q1]) rfl ?_
    exact HFIN.out w4 _ pa pc ja jc sa sc ps js ss at4 HKX.out HC4.out (by omega) HO5.out (by simp) (fun b b1 b2 => by rw [Below.heap_setCell _ _ _ _ b1, Below.heap_setCell _ _ _ _ b1]) rfl rfl rfl
end Go.Proofs.Ytmkdgnmmebldgaa

namespace Go.Proofs.Ytmkdgnmmebldgaa
open Go.RowKit Go.Deep
set_option maxRecDepth 20000 in
set_option maxHeartbeats 8000000 in
theorem list_any (C : Nat) (ca : Option Addr) (cc : Nat) (bs : List Int) (at_ : Nat) (w : World) (hc : Hid (Cur w C ca cc bs at_)) (hlow : Hid (LowB C ca bs)) (ha : at_ ≤ 1000) :
    Calls Try.prog 54 #[.pointer (some ⟨C, 0, none⟩)] w fun e w' => ∃ a c RS at', e = .returned (.slice a (RS : List MRoute).length c) ∧ RoutesAt w' a RS ∧ RS.length ≤ 300 ∧ (∀ r ∈ RS, Short6 r ∧ WfR r ∧ -1 ≤ r.start ∧ r.start ≤ 100 ∧ -1 ≤ r.stop ∧ r.stop ≤ 100) ∧ at' ≤ 300000000 ∧ Cur w' C ca cc bs at' ∧ Only (fun k => k = C) w w' := by
  have hCz := hc.out.lt
  go_enter Try.func54, Try.ntmps54
  go_wp2_with fail
  refine (l5all_any C ca cc bs at_ w hc hlow (by omega)).mono ?_
  rintro e w1 ⟨pa, pc, ja, jc, sa, sc, ps, js, ss, at1, rfl, hk1, hat1, hc1, ho1⟩
  have HK1 := hidP hk1
  have HC1 := hidP hc1
  have HO1 := hidP ho1
  have hz1 := ho1.size
  clear hk1 hc1 ho1
  go_upto_region 2 with fail
  generalize hW : World.alloc w1 _ = W
  have hbW : Below w1.heap.size w1 W := by rw [← hW]; exact blo
  have m0 : W.cell? ⟨w1.heap.size, 0, none⟩ = some (.slice pa ps.length pc) := by rw [← hW]; simp [go_sem]
  have m1 : W.cell? ⟨w1.heap.size, 1, none⟩ = some (.slice ja js.length jc) := by rw [← hW]; simp [go_sem]
  have HBW := hidP hbW
  obtain ⟨M, hM⟩ : ∃ M, w1.heap.size = M := ⟨_, rfl⟩
  rw [hM] at m0 m1 hz1 ⊢
  have hMC : C < M := by omega
  have hMz := cellLt m0
  dsimp only at hMz
  have HKW : Hid (∀ u, Only (fun k => k = C) W u → PiecesAt u pa ps ∧ JointsAt u ja js ∧ PiecesAt u sa ss) := fun u hu => HK1.out u ((Only.of_below HBW.out).trans hu)
  clear hW hbW hM
  obtain ⟨S, hS⟩ : ∃ S : World → Prop, ∀ u, S u ↔ (u.cell? ⟨M, 0, none⟩ = some (.slice pa ps.length pc) ∧ u.cell? ⟨M, 1, none⟩ = some (.slice ja js.length jc)) := ⟨_, fun _ => Iff.rfl⟩
  have HS0 := hidP hS
  have r0 : ∀ u : Held S, World.cell? u.val ⟨M, 0, none⟩ = some (.slice pa ps.length pc) := fun u => ((hS u.val).1 u.2).1
  have r1 : ∀ u : Held S, World.cell? u.val ⟨M, 1, none⟩ = some (.slice ja js.length jc) := fun u => ((hS u.val).1 u.2).2
  have hS1 : S W.drew := (hS _).2 ⟨m0, m1⟩
  have hne := held_ne hS1
  clear hS
  refine wp_region_tree (fun w' => ∃ u : Held S, w' = u.val) 4 (by kernel_rfl) (by kernel_rfl) (held_some hS1) ?_
  (refine wpT_see 0 (by rfl) (by kernel_rfl) (by kernel_rfl) ?_; intro K hK; go_big_quiet_op; go_big_quiet_on); (refine wpT_see 1 (by rfl) (by kernel_rfl) (by kernel_rfl) ?_; intro K hK; go_big_quiet_op; go_big_quiet_on); (refine wpT_see 2 (by rfl) (by kernel_rfl) (by kernel_rfl) ?_; intro K hK; go_big_quiet_op; go_big_quiet_on)
  refine wpT_loud 3 (by rfl) (by kernel_rfl) (by kernel_rfl) ?_
  intro K hK
  go_wp2_with (go_at_call 128; refine (over_any C ca cc bs at1 _ ((HC1.out.below HBW.out).below ((Below.refl _ _).drew)) (by omega)).mono ?_; rintro e w4 ⟨ov, at4, rfl, ho0, ho1, hat4, hc4, ho4⟩)
  have HO4 : Hid (Only (fun k => k = C) W w4) := ((Only.refl _ _).drew).trans ho4
  have HC4 := hidP hc4
  have hS4 : S w4 := (HS0.out _).2 ⟨HO4.out.cell m0 (by show ¬ M = C; omega), HO4.out.cell m1 (by show ¬ M = C; omega)⟩
  clear hc4 ho4
  refine hK _ _ (held_some hS4) ?_
  clear hK K
  refine wpT_done (by kernel_rfl) ?_
  simp only [List.drop_succ_cons, List.drop_zero]
  clear r0 r1 hne hS1 hS4 HS0
  have hnet := HKW.out w4 HO4.out
  have HN1 := hidP hnet.1
  have HN2 := hidP hnet.2.1
  have HN3 := hidP hnet.2.2
  have HOA : Hid (Only (fun k => k = C) w w4) := (HO1.out.trans (Only.of_below HBW.out)).trans HO4.out
  clear hnet
  go_wp2_with fail
  refine (specRoutes_any pa ja sa pc jc sc ps js ss ov w4 HN1 HN2 HN3).mono ?_
  rintro e w5 ⟨a, c, rfl, hr, _, hb5⟩
  have HR := hidP hr
  have HB5 := hidP hb5
  have HSH := hidP (routes_short ps js ss ov)
  have hn300 := (routesF_ok ps js ss ov).1
  obtain ⟨RS, hRS⟩ : ∃ RS, routesF ps js ss ov = RS := ⟨_, rfl⟩
  rw [hRS] at HR HSH hn300 ⊢
  clear hr hb5 hRS
  go_wp2_with fail
  go_ret
  exact ⟨a, c, RS, at4, rfl, HR.out, hn300, HSH.out, by omega, HC4.out.below HB5.out, HOA.out.trans (Only.of_below HB5.out)⟩
def NeedsOut (w : World) (e : Ending) (w' : World) : Prop :=
  ∃ d r, e = .returned (routeV d r) ∧ EndsAt w' d.a1 r.lies ∧ FlanksAt w' d.a5 r.flanks ∧ r.lies.length ≤ 100000 ∧ r.flanks.length ≤ 100000 ∧ WfR r ∧ (d.a1 = none → d.c1 = 0) ∧ Below w.heap.size w w'
theorem LF.out {w w' : World} {B : Nat} {d : RAddr} {r : MRoute} (h : LF w' B d r) (hb : Below w.heap.size w w') : NeedsOut w (.returned (routeV d r)) w' :=
  ⟨d, r, rfl, (own_listE h.o1).1, (own_listF h.o5).1, h.l1, h.l5, h.wf, fun e => ((own_listE h.o1).2 e).2, hb⟩
set_option maxRecDepth 20000 in
set_option maxHeartbeats 8000000 in
theorem DrawNeeds_any (ca : Option Addr) (cc : Nat) (bs : List Int) (w : World) (hcode : Hid (bs = [] ∨ ∃ b off, ca = some ⟨b, off, none⟩ ∧ ByteCells w b off bs)) (hsm : Hid (∀ x ∈ bs, 0 ≤ x ∧ x < 256)) (hlen : bs.length ≤ 1048576) :
    Calls Try.prog 18 #[.slice ca bs.length cc] w (NeedsOut w) := by
  have hlt : Hid (bs = [] ∨ ∀ b off, ca = some ⟨b, off, none⟩ → b < w.heap.size) := by
    rcases hcode.out with h | ⟨b, off, h1, h2⟩
    · exact Or.inl h
    · by_cases h0 : bs = []
      · exact Or.inl h0
      · refine Or.inr (fun b' off' e => ?_)
        rw [h1] at e
        cases e
        exact cellLt (h2 0 (List.length_pos_iff.2 h0))
  go_enter Try.func18, Try.ntmps18
  go_wp2_with fail
  generalize hW : World.alloc (World.alloc w _) _ = W
  have hbW : Below w.heap.size w W := by rw [← hW]; exact blo
  have HC0 : Hid (Cur W (w.heap.size + 1) ca cc bs 0) := by
    refine ⟨by rw [← hW]; simp [go_sem], by rw [← hW]; simp [go_sem], ⟨0, by rw [← hW]; simp [go_sem]⟩, fun o => by rw [← hW]; simp [go_sem], ?_, hsm.out, hlen, fun o ho => by rw [← hW]; simp [go_sem]; omega⟩
    rcases hcode.out with h | ⟨b, off, h1, h2⟩
    · exact Or.inl h
    · rcases hlt.out with h0 | h0
      · exact Or.inl h0
      · exact Or.inr ⟨b, off, h1, by have := h0 b off h1; omega, fun i hi => cell_later hbW (h2 i hi)⟩
  have HR0 : Hid (RouteCell W w.heap.size 0 ⟨none, 0, none, 0, none, 0, none, 0, none, 0, none, 0⟩ ⟨0, 0, [], [], [], [], [], []⟩) := by rw [← hW]; exact ⟨by simp [go_sem], by simp [go_sem], by simp [go_sem], by simp [go_sem], by simp [go_sem], by simp [go_sem], by simp [go_sem], by simp [go_sem]⟩
  have HRZ : Hid (∀ o, W.frozen? ⟨w.heap.size, o, none⟩ = false) := fun o => by rw [← hW]; simp [go_sem]
  have HRS0 : Hid (∀ o, 8 ≤ o → W.cell? ⟨w.heap.size, o, none⟩ = none) := fun o ho => by rw [← hW]; simp [go_sem]; omega
  have hzW : w.heap.size + 1 < W.heap.size := by rw [← hW]; simp
  have HBW := hidP hbW
  clear hW hbW
  obtain ⟨C, hC⟩ : ∃ C, w.heap.size + 1 = C := ⟨_, rfl⟩
  obtain ⟨R, hR⟩ : ∃ R, w.heap.size = R := ⟨_, rfl⟩
  rw [hC] at HC0 hzW ⊢
  have HRw : Hid (w.heap.size = R) := hR
  rw [hR] at HR0 HRZ HRS0 ⊢
  have hRC : R < C := by omega
  have HL : Hid (LowB C ca bs) := hlt.out.imp id (fun h0 b off h => by have := h0 b off h; omega)
  clear hC hR
  refine (list_any C ca cc bs 0 W HC0 HL (by omega)).mono ?_
  rintro e w1 ⟨a, c, RS, at1, rfl, hr1, hn300, hsh, hat1, hc1, ho1⟩
  have HR1 := hidP hr1
  have HSH := hidP hsh
  have HC1 := hidP hc1
  have HO1 := hidP ho1
  have hz1 := ho1.size
  have hR1 : w1.heap[R]? = W.heap[R]? := ho1.block R (by omega) (by omega)
  have HRR : Hid (RouteCell w1 R 0 ⟨none, 0, none, 0, none, 0, none, 0, none, 0, none, 0⟩ ⟨0, 0, [], [], [], [], [], []⟩) := HR0.out.kept hR1
  have HRZ1 : Hid (∀ o, w1.frozen? ⟨R, o, none⟩ = false) := fun o => (World.frozen?_of_block (w := W) (a := ⟨R, o, none⟩) hR1).trans (HRZ.out o)
  have HRS : Hid (∀ o, 8 ≤ o → w1.cell? ⟨R, o, none⟩ = none) := fun o ho => (World.cell?_of_block (w := W) (a := ⟨R, o, none⟩) hR1).trans (HRS0.out o ho)
  clear hr1 hsh hc1 ho1 hR1 HR0 HRZ HC0
  have HRI : Hid (∀ o v, w1.cell? ⟨R, o, none⟩ = some (.int .i64 v) → o < 2) := fun o v h => by
    by_cases h8 : 8 ≤ o
    · rw [HRS.out o h8] at h; cases h
    · have hk := HRR.out
      have : o = 0 ∨ o = 1 ∨ o = 2 ∨ o = 3 ∨ o = 4 ∨ o = 5 ∨ o = 6 ∨ o = 7 := by omega
      rcases this with rfl | rfl | rfl | rfl | rfl | rfl | rfl | rfl
      · omega
      · omega
      · have h9 := hk.k2; rw [Nat.zero_add] at h9; rw [h9] at h; cases h
      · have h9 := hk.k3; rw [Nat.zero_add] at h9; rw [h9] at h; cases h
      · have h9 := hk.k4; rw [Nat.zero_add] at h9; rw [h9] at h; cases h
      · have h9 := hk.k5; rw [Nat.zero_add] at h9; rw [h9] at h; cases h
      · have h9 := hk.k6; rw [Nat.zero_add] at h9; rw [h9] at h; cases h
      · have h9 := hk.k7; rw [Nat.zero_add] at h9; rw [h9] at h; cases h
  have HBE : Hid (∀ wz wf : World, Only (fun k => k = C ∨ w1.heap.size ≤ k) w1 wz → Only (fun k => k = R ∨ w1.heap.size ≤ k) wz wf → Below w.heap.size w wf) := by
    intro wz wf h1 h2
    have h0 := HBW.out
    have h3 := HO1.out
    have hw := HRw.out
    exact ⟨h2.os.trans (h1.os.trans (h3.os.trans h0.os)), h2.tape.trans (h1.tape.trans (h3.tape.trans h0.tape)), h2.output.trans (h1.output.trans (h3.output.trans h0.output)), by have a1 := h0.size; have a2 := h1.size; have a3 := h2.size; have a4 := h3.size; omega, fun b hb => (h2.block b (by have a1 := h0.size; have a2 := h1.size; have a4 := h3.size; omega) (by have a1 := h0.size; have a4 := h3.size; omega)).trans ((h1.block b (by have a1 := h0.size; have a4 := h3.size; omega) (by have a1 := h0.size; have a4 := h3.size; omega)).trans ((h3.block b (by have a1 := h0.size; omega) (by omega)).trans (h0.block b hb)))⟩
  by_cases hn0 : RS.length = 0
  · have hn0' : ((RS.length : Int) == 0) = true := by simp [hn0]
    clear hn0
    go_wp2_with fail
    refine (bend_any C ca cc bs at1 ⟨none, 0, none, 0, none, 0, none, 0, none, 0, none, 0⟩ ⟨0, 0, [], [], [], [], [], []⟩ w1 HC1 HL (by omega) ⟨⟨Nat.zero_le _, Or.inl rfl⟩, ⟨Nat.zero_le _, Or.inl rfl⟩, ⟨Nat.zero_le _, Or.inl rfl⟩, ⟨Nat.zero_le _, Or.inl rfl⟩, ⟨Nat.zero_le _, Or.inl rfl⟩, ⟨Nat.zero_le _, Or.inl rfl⟩, fun _ => rfl⟩ ⟨⟨Nat.zero_le _, Nat.zero_le _, Nat.zero_le _, Nat.zero_le _⟩, Nat.zero_le _, Nat.zero_le _⟩ ⟨fun i hi => absurd hi (Nat.not_lt_zero _), fun i hi => absurd hi (Nat.not_lt_zero _)⟩).mono ?_
    rintro e w2 ⟨d', r', at2, rfl, hlf, hat2, hc2, ho2⟩
    have HLF := hidP hlf
    have hRb : w2.heap[R]? = w1.heap[R]? := ho2.block R (by omega) (by omega)
    have hr0 := HRR.out.kept hRb
    have l0 := hr0.k0
    have l1 := hr0.k1
    have l2 := hr0.k2
    have l3 := hr0.k3
    have l4 := hr0.k4
    have l5 := hr0.k5
    have l6 := hr0.k6
    have l7 := hr0.k7
    simp only [Nat.zero_add] at l0 l1 l2 l3 l4 l5 l6 l7
    simp only [List.length_nil] at l2 l3 l4 l5 l6 l7
    have g0 := (World.frozen?_of_block (w := w1) (a := ⟨R, 0, none⟩) hRb).trans (HRZ1.out 0)
    have g1 := (World.frozen?_of_block (w := w1) (a := ⟨R, 1, none⟩) hRb).trans (HRZ1.out 1)
    have g2 := (World.frozen?_of_block (w := w1) (a := ⟨R, 2, none⟩) hRb).trans (HRZ1.out 2)
    have g3 := (World.frozen?_of_block (w := w1) (a := ⟨R, 3, none⟩) hRb).trans (HRZ1.out 3)
    have g4 := (World.frozen?_of_block (w := w1) (a := ⟨R, 4, none⟩) hRb).trans (HRZ1.out 4)
    have g5 := (World.frozen?_of_block (w := w1) (a := ⟨R, 5, none⟩) hRb).trans (HRZ1.out 5)
    have g6 := (World.frozen?_of_block (w := w1) (a := ⟨R, 6, none⟩) hRb).trans (HRZ1.out 6)
    have g7 := (World.frozen?_of_block (w := w1) (a := ⟨R, 7, none⟩) hRb).trans (HRZ1.out 7)
    have HO2 : Hid (Only (fun k => k = C ∨ w1.heap.size ≤ k) w1 w2) := ho2.mono (fun k hk => Or.inl hk)
    have hRz := cellLt l0
    dsimp only at hRz
    clear hlf hc2 ho2 hRb hr0
    unfold routeV
    go_wp2_with fail
    refine bodyPost_ret (v := .agg #[.int .i64 r'.start, .int .i64 r'.stop, .slice d'.a0 r'.steps.length d'.c0, .slice d'.a1 r'.lies.length d'.c1, .slice d'.a2 r'.crosses.length d'.c2, .slice d'.a3 r'.parts.length d'.c3, .slice d'.a4 r'.over.length d'.c4, .slice d'.a5 r'.flanks.length d'.c5]) (by simp [results, Try.results18, go_sem, l0, l1, l2, l3, l4, l5, l6, l7]) rfl ?_
    generalize hwf : World.setCell (World.setCell (World.setCell (World.setCell (World.setCell (World.setCell (World.setCell (World.setCell w2 _ _) _ _) _ _) _ _) _ _) _ _) _ _) _ _ = wf
    have hon : Only (fun k => k = R) w2 wf := by
      rw [← hwf]
      exact (((((((Only.setCell (S := fun k => k = R) (Only.refl _ _) (p := ⟨R, 0, none⟩) (Or.inl rfl) _).setCell (p := ⟨R, 1, none⟩) (Or.inl rfl) _).setCell (p := ⟨R, 2, none⟩) (Or.inl rfl) _).setCell (p := ⟨R, 3, none⟩) (Or.inl rfl) _).setCell (p := ⟨R, 4, none⟩) (Or.inl rfl) _).setCell (p := ⟨R, 5, none⟩) (Or.inl rfl) _).setCell (p := ⟨R, 6, none⟩) (Or.inl rfl) _).setCell (p := ⟨R, 7, none⟩) (Or.inl rfl) _
    have hlf2 := HLF.out.keep (w' := wf) (fun b h1 h2 _ => hon.block b h2 (by omega))
    exact hlf2.out (HBE.out w2 wf HO2.out (hon.mono (fun k hk => Or.inl hk)))
  · have hn0' : ((RS.length : Int) == 0) = false := by rw [beq_eq_false_iff_ne]; omega
    have hnn : 0 < RS.length := by omega
    clear hn0
    obtain ⟨b, off, ha, hcells⟩ := HR1.out.2.resolve_left (fun h => by rw [h] at hnn; exact absurd hnn (Nat.not_lt_zero _))
    subst ha
    go_wp2_with fail
    refine (pick_any C ca cc bs at1 RS.length w1 HC1 (by omega) (by omega)).mono ?_
    rintro e w2 ⟨i, at2, hi2, rfl, hat2, hc2, ho2⟩
    have hil : i < RS.length := by omega
    have hii : (i : Int) < RS.length := by omega
    obtain ⟨d, rc, rl⟩ := hcells i hil
    have hfacts := HSH.out RS[i] (List.getElem_mem hil)
    generalize RS[i] = r at rc rl hfacts
    have HFA := hidP hfacts
    have HRL := hidP rl
    have HC2 := hidP hc2
    have HO2 := hidP ho2
    have rc2 := rc.kept (ho2.block b (cellLt rc.k0) (rc.notC HC1.out))
    have k0 := rc2.k0
    have k1 := rc2.k1
    have k2 := rc2.k2
    have k3 := rc2.k3
    have k4 := rc2.k4
    have k5 := rc2.k5
    have k6 := rc2.k6
    have k7 := rc2.k7
    have hbz := cellLt k0
    dsimp only at hbz
    have hz2 := ho2.size
    clear hcells hfacts rl hc2 ho2 rc rc2
    go_wp2_with fail
    generalize hWQ : World.alloc w2 _ = WQ
    have hbQ : Below w2.heap.size w2 WQ := by rw [← hWQ]; exact blo
    have HQ0 : Hid (RouteCell WQ w2.heap.size 0 d r) := by rw [← hWQ]; exact ⟨by simp [go_sem], by simp [go_sem], by simp [go_sem], by simp [go_sem], by simp [go_sem], by simp [go_sem], by simp [go_sem], by simp [go_sem]⟩
    have HQZ : Hid (∀ o, WQ.frozen? ⟨w2.heap.size, o, none⟩ = false) := fun o => by rw [← hWQ]; simp [go_sem]
    have hzQ : w2.heap.size < WQ.heap.size := by rw [← hWQ]; simp
    have HBQ := hidP hbQ
    obtain ⟨Q, hQ⟩ : ∃ Q, w2.heap.size = Q := ⟨_, rfl⟩
    have HQw : Hid (w2.heap.size = Q) := hQ
    rw [hQ] at HQ0 HQZ hzQ hz2 ⊢
    clear hWQ hbQ hQ k0 k1 k2 k3 k4 k5 k6 k7 hbz
    refine (pick_any C ca cc bs at2 3 WQ (HC2.out.below HBQ.out) (by omega) (by omega)).mono ?_
    rintro e w4 ⟨x, at4, hx4, rfl, hat4, hc4, ho4⟩
    have HC4 := hidP hc4
    have HO4 := hidP ho4
    have hz4 := ho4.size
    have hQ4 : w4.heap[Q]? = WQ.heap[Q]? := ho4.block Q (by omega) (by omega)
    have HQ4 : Hid (RouteCell w4 Q 0 d r) := HQ0.out.kept hQ4
    have HQZ4 : Hid (∀ o, w4.frozen? ⟨Q, o, none⟩ = false) := fun o => (World.frozen?_of_block (w := WQ) (a := ⟨Q, o, none⟩) hQ4).trans (HQZ.out o)
    have hRb : w4.heap[R]? = w1.heap[R]? := ((ho4.block R (by omega) (by omega)).trans (HBQ.out.block R (by have := HQw.out; omega))).trans (HO2.out.block R (by omega) (by omega))
    have HRb := hidP hRb
    have HOA : Hid (Only (fun k => k = C ∨ w1.heap.size ≤ k) w1 w4) := ((HO2.out.trans (Only.of_below HBQ.out)).trans ho4).mono (fun k hk => Or.inl hk)
    have hQR : Q ≠ R := by omega
    have q0 := HQ4.out.k0
    have q1 := HQ4.out.k1
    have q2 := HQ4.out.k2
    have q3 := HQ4.out.k3
    have q4 := HQ4.out.k4
    have q5 := HQ4.out.k5
    have q6 := HQ4.out.k6
    have q7 := HQ4.out.k7
    simp only [Nat.zero_add] at q0 q1 q2 q3 q4 q5 q6 q7
    have hQz := cellLt q0
    dsimp only at hQz
    clear hc4 ho4 hQ4 HQ0 HQZ
    by_cases hx0 : x = 0
    · subst hx0
      have HBEND : Hid (∃ cr : List Int, cr.length = r.crosses.length ∧ RListsAt w4 d ⟨r.start, r.stop, r.steps, r.lies, cr, r.parts, r.over, r.flanks⟩) := by
        obtain ⟨cr, e1, l1⟩ := HRL.out.drawn HC1.out HC2.out HO2.out
        obtain ⟨cr2, e2, l2⟩ := (l1.below HBQ.out).drawn (HC2.out.below HBQ.out) HC4.out HO4.out
        exact ⟨cr2, e2.trans e1, l2⟩
      obtain ⟨cr, hcr, hrl⟩ := HBEND.out
      have hbd := bend_any C ca cc bs at4 d ⟨r.start, r.stop, r.steps, r.lies, cr, r.parts, r.over, r.flanks⟩ w4 HC4 HL (by omega) hrl ⟨⟨HFA.out.1.s.s0, HFA.out.1.s.s1, by show cr.length ≤ 1000; rw [hcr]; exact HFA.out.1.s.s2, HFA.out.1.s.s3⟩, HFA.out.1.s4, HFA.out.1.s5⟩ ⟨HFA.out.2.1.lies, HFA.out.2.1.flanks⟩
      unfold routeV at hbd
      simp only [hcr] at hbd
      have HBD := hidP hbd
      clear hbd hrl hcr HBEND
      go_wp2_with fail
      refine HBD.out.mono ?_
      clear HBD
      rintro e w5 ⟨d', r', at5, rfl, hlf, hat5, hc5, ho5⟩
      have HLF := hidP hlf
      have hz5 := ho5.size
      have hQ5 : w5.heap[Q]? = w4.heap[Q]? := ho5.block Q (by omega) (by omega)
      have hqr := HQ4.out.kept hQ5
      have p0 := hqr.k0
      have p1 := hqr.k1
      have p2 := hqr.k2
      have p3 := hqr.k3
      have p4 := hqr.k4
      have p5 := hqr.k5
      have p6 := hqr.k6
      have p7 := hqr.k7
      simp only [Nat.zero_add] at p0 p1 p2 p3 p4 p5 p6 p7
      have z0 := (World.frozen?_of_block (w := w4) (a := ⟨Q, 0, none⟩) hQ5).trans (HQZ4.out 0)
      have z1 := (World.frozen?_of_block (w := w4) (a := ⟨Q, 1, none⟩) hQ5).trans (HQZ4.out 1)
      have z2 := (World.frozen?_of_block (w := w4) (a := ⟨Q, 2, none⟩) hQ5).trans (HQZ4.out 2)
      have z3 := (World.frozen?_of_block (w := w4) (a := ⟨Q, 3, none⟩) hQ5).trans (HQZ4.out 3)
      have z4 := (World.frozen?_of_block (w := w4) (a := ⟨Q, 4, none⟩) hQ5).trans (HQZ4.out 4)
      have z5 := (World.frozen?_of_block (w := w4) (a := ⟨Q, 5, none⟩) hQ5).trans (HQZ4.out 5)
      have z6 := (World.frozen?_of_block (w := w4) (a := ⟨Q, 6, none⟩) hQ5).trans (HQZ4.out 6)
      have z7 := (World.frozen?_of_block (w := w4) (a := ⟨Q, 7, none⟩) hQ5).trans (HQZ4.out 7)
      have hR5 : w5.heap[R]? = w1.heap[R]? := (ho5.block R (by omega) (by omega)).trans HRb.out
      have hr0 := HRR.out.kept hR5
      have l0 := hr0.k0
      have l1 := hr0.k1
      have l2 := hr0.k2
      have l3 := hr0.k3
      have l4 := hr0.k4
      have l5 := hr0.k5
      have l6 := hr0.k6
      have l7 := hr0.k7
      simp only [Nat.zero_add] at l0 l1 l2 l3 l4 l5 l6 l7
      simp only [List.length_nil] at l2 l3 l4 l5 l6 l7
      have g0 := (World.frozen?_of_block (w := w1) (a := ⟨R, 0, none⟩) hR5).trans (HRZ1.out 0)
      have g1 := (World.frozen?_of_block (w := w1) (a := ⟨R, 1, none⟩) hR5).trans (HRZ1.out 1)
      have g2 := (World.frozen?_of_block (w := w1) (a := ⟨R, 2, none⟩) hR5).trans (HRZ1.out 2)
      have g3 := (World.frozen?_of_block (w := w1) (a := ⟨R, 3, none⟩) hR5).trans (HRZ1.out 3)
      have g4 := (World.frozen?_of_block (w := w1) (a := ⟨R, 4, none⟩) hR5).trans (HRZ1.out 4)
      have g5 := (World.frozen?_of_block (w := w1) (a := ⟨R, 5, none⟩) hR5).trans (HRZ1.out 5)
      have g6 := (World.frozen?_of_block (w := w1) (a := ⟨R, 6, none⟩) hR5).trans (HRZ1.out 6)
      have g7 := (World.frozen?_of_block (w := w1) (a := ⟨R, 7, none⟩) hR5).trans (HRZ1.out 7)
      have HO5 : Hid (Only (fun k => k = C ∨ w1.heap.size ≤ k) w1 w5) := HOA.out.trans (ho5.mono (fun k hk => Or.inl hk))
      have hRz := cellLt l0
      have hQz5 := cellLt p0
      dsimp only at hRz hQz5
      clear hlf hc5 ho5 hQ5 hqr hR5 hr0 q0 q1 q2 q3 q4 q5 q6 q7 hRb hQz
      go_wp2_with fail
      refine bodyPost_ret (v := (.agg #[.int .i64 r'.start, .int .i64 r'.stop, .slice d'.a0 r'.steps.length d'.c0, .slice d'.a1 r'.lies.length d'.c1, .slice d'.a2 r'.crosses.length d'.c2, .slice d'.a3 r'.parts.length d'.c3, .slice d'.a4 r'.over.length d'.c4, .slice d'.a5 r'.flanks.length d'.c5])) (by simp [results, Try.results18, go_sem, l0, l1, l2, l3, l4, l5, l6, l7]) rfl ?_
      generalize hwf : World.setCell (World.setCell (World.setCell (World.setCell (World.setCell (World.setCell (World.setCell (World.setCell (World.setCell (World.setCell (World.setCell (World.setCell (World.setCell (World.setCell (World.setCell (World.setCell w5 _ _) _ _) _ _) _ _) _ _) _ _) _ _) _ _) _ _) _ _) _ _) _ _) _ _) _ _) _ _) _ _ = wf
      have hon : Only (fun k => k = Q ∨ k = R) w5 wf := by
        rw [← hwf]
        exact (((((((((((((((Only.setCell (S := fun k => k = Q ∨ k = R) (Only.refl _ _) (p := ⟨Q, 0, none⟩) (Or.inl (Or.inl rfl)) _).setCell (p := ⟨Q, 1, none⟩) (Or.inl (Or.inl rfl)) _).setCell (p := ⟨Q, 2, none⟩) (Or.inl (Or.inl rfl)) _).setCell (p := ⟨Q, 3, none⟩) (Or.inl (Or.inl rfl)) _).setCell (p := ⟨Q, 4, none⟩) (Or.inl (Or.inl rfl)) _).setCell (p := ⟨Q, 5, none⟩) (Or.inl (Or.inl rfl)) _).setCell (p := ⟨Q, 6, none⟩) (Or.inl (Or.inl rfl)) _).setCell (p := ⟨Q, 7, none⟩) (Or.inl (Or.inl rfl)) _).setCell (p := ⟨R, 0, none⟩) (Or.inl (Or.inr rfl)) _).setCell (p := ⟨R, 1, none⟩) (Or.inl (Or.inr rfl)) _).setCell (p := ⟨R, 2, none⟩) (Or.inl (Or.inr rfl)) _).setCell (p := ⟨R, 3, none⟩) (Or.inl (Or.inr rfl)) _).setCell (p := ⟨R, 4, none⟩) (Or.inl (Or.inr rfl)) _).setCell (p := ⟨R, 5, none⟩) (Or.inl (Or.inr rfl)) _).setCell (p := ⟨R, 6, none⟩) (Or.inl (Or.inr rfl)) _).setCell (p := ⟨R, 7, none⟩) (Or.inl (Or.inr rfl)) _
      have hlf2 := HLF.out.keep (w' := wf) (fun b h1 h2 _ => hon.block b h2 (by omega))
      exact hlf2.out (HBE.out w5 wf HO5.out (hon.mono (fun k hk => by rcases hk with hk | hk; exact Or.inr (by omega); exact Or.inl hk)))
    · have hx0' : ((x : Int) == 0) = false := by rw [beq_eq_false_iff_ne]; omega
      have hr0 := HRR.out.kept hRb
      have l0 := hr0.k0
      have l1 := hr0.k1
      have l2 := hr0.k2
      have l3 := hr0.k3
      have l4 := hr0.k4
      have l5 := hr0.k5
      have l6 := hr0.k6
      have l7 := hr0.k7
      simp only [Nat.zero_add] at l0 l1 l2 l3 l4 l5 l6 l7
      simp only [List.length_nil] at l2 l3 l4 l5 l6 l7
      have g0 := (World.frozen?_of_block (w := w1) (a := ⟨R, 0, none⟩) hRb).trans (HRZ1.out 0)
      have g1 := (World.frozen?_of_block (w := w1) (a := ⟨R, 1, none⟩) hRb).trans (HRZ1.out 1)
      have g2 := (World.frozen?_of_block (w := w1) (a := ⟨R, 2, none⟩) hRb).trans (HRZ1.out 2)
      have g3 := (World.frozen?_of_block (w := w1) (a := ⟨R, 3, none⟩) hRb).trans (HRZ1.out 3)
      have g4 := (World.frozen?_of_block (w := w1) (a := ⟨R, 4, none⟩) hRb).trans (HRZ1.out 4)
      have g5 := (World.frozen?_of_block (w := w1) (a := ⟨R, 5, none⟩) hRb).trans (HRZ1.out 5)
      have g6 := (World.frozen?_of_block (w := w1) (a := ⟨R, 6, none⟩) hRb).trans (HRZ1.out 6)
      have g7 := (World.frozen?_of_block (w := w1) (a := ⟨R, 7, none⟩) hRb).trans (HRZ1.out 7)
      have HE4 : Hid (EndsAt w4 d.a1 r.lies) := ((HRL.out.lies.drawn HC1.out HO2.out).below HBQ.out).drawn (HC2.out.below HBQ.out) HO4.out
      have HF4 : Hid (FlanksAt w4 d.a5 r.flanks) := ((HRL.out.flanks.drawn HC1.out HO2.out).below HBQ.out).drawn (HC2.out.below HBQ.out) HO4.out
      have HRI4 : Hid (∀ o v, w4.cell? ⟨R, o, none⟩ = some (.int .i64 v) → o < 2) := fun o v h => HRI.out o v ((World.cell?_of_block (w := w4) (a := ⟨R, o, none⟩) HRb.out.symm).trans h)
      have hRz := cellLt l0
      dsimp only at hRz
      clear hr0 hx0 hRb
      go_wp2_with fail
      refine bodyPost_ret (v := (.agg #[.int .i64 r.start, .int .i64 r.stop, .slice d.a0 r.steps.length d.c0, .slice d.a1 r.lies.length d.c1, .slice d.a2 r.crosses.length d.c2, .slice d.a3 r.parts.length d.c3, .slice d.a4 r.over.length d.c4, .slice d.a5 r.flanks.length d.c5])) (by simp [results, Try.results18, go_sem, l0, l1, l2, l3, l4, l5, l6, l7]) rfl ?_
      generalize hwf : World.setCell (World.setCell (World.setCell (World.setCell (World.setCell (World.setCell (World.setCell (World.setCell w4 _ _) _ _) _ _) _ _) _ _) _ _) _ _) _ _ = wf
      have hon : Only (fun k => k = R) w4 wf := by
        rw [← hwf]
        exact (((((((Only.setCell (S := fun k => k = R) (Only.refl _ _) (p := ⟨R, 0, none⟩) (Or.inl rfl) _).setCell (p := ⟨R, 1, none⟩) (Or.inl rfl) _).setCell (p := ⟨R, 2, none⟩) (Or.inl rfl) _).setCell (p := ⟨R, 3, none⟩) (Or.inl rfl) _).setCell (p := ⟨R, 4, none⟩) (Or.inl rfl) _).setCell (p := ⟨R, 5, none⟩) (Or.inl rfl) _).setCell (p := ⟨R, 6, none⟩) (Or.inl rfl) _).setCell (p := ⟨R, 7, none⟩) (Or.inl rfl) _
      have c0 : wf.cell? ⟨R, 0, none⟩ = some (.int .i64 r.start) := by rw [← hwf]; simp [go_sem, l0]
      have c1 : wf.cell? ⟨R, 1, none⟩ = some (.int .i64 r.stop) := by rw [← hwf]; simp [go_sem, l1]
      obtain ⟨es, hel, hes, hor⟩ := HE4.out.into HRI4.out hon c0 c1
      obtain ⟨fs, fw, f1, f2, f3, f4⟩ := HFA.out
      refine ⟨d, ⟨r.start, r.stop, r.steps, es, r.crosses, r.parts, r.over, r.flanks⟩, ?_, hes, HF4.out.into HRI4.out hon, by show es.length ≤ 100000; rw [hel]; have := fs.s.s1; omega, by have := fs.s5; show r.flanks.length ≤ 100000; omega, ⟨fun k hk => ?_, fw.flanks⟩, HRL.out.nil1, HBE.out w4 wf HOA.out (hon.mono (fun k hk => Or.inl hk))⟩
      · unfold routeV
        simp only [hel]
      · rcases hor with h | h
        · subst h; exact fw.lies k hk
        · subst h
          have : k = 0 := by simpa using hk
          subst this
          exact ⟨wf_nat (by show (-1000000000 : Int) ≤ r.start; omega) (by show r.start ≤ 1000000000; omega), wf_nat (by show (-1000000000 : Int) ≤ r.stop; omega) (by show r.stop ≤ 1000000000; omega)⟩
end Go.Proofs.Ytmkdgnmmebldgaa
