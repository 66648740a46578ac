import Derived.Test.YtmkdgnmmebldgaaPq22
import Derived.Test.YtmkdgnmmebldgaaPq23
import Derived.Test.YtmkdgnmmebldgaaPq15
namespace Go.Proofs.Ytmkdgnmmebldgaa
open Go.RowKit Go.Deep
structure PAddr where
  a0 : Option Addr
  c0 : Nat
  a1 : Option Addr
  c1 : Nat
  a2 : Option Addr
  c2 : Nat
structure PListsAt (w : World) (d : PAddr) (p : MPath) : Prop where
  steps : EndsAt w d.a0 p.steps
  lies : EndsAt w d.a1 p.lies
  crosses : NumsAt w d.a2 p.crosses
  nil0 : d.a0 = none → p.steps.length = 0 ∧ d.c0 = 0
  nil1 : d.a1 = none → p.lies.length = 0 ∧ d.c1 = 0
  nil2 : d.a2 = none → p.crosses.length = 0 ∧ d.c2 = 0
  cap : p.steps.length ≤ d.c0
theorem PListsAt.below {w w' : World} {d : PAddr} {p : MPath} (h : PListsAt w d p) (hb : Below w.heap.size w w') : PListsAt w' d p :=
  ⟨h.steps.below hb, h.lies.below hb, h.crosses.below hb, h.nil0, h.nil1, h.nil2, h.cap⟩
def pathV (d : PAddr) (p : MPath) : Value := .agg #[.int .i64 p.start, .int .i64 p.stop, .bool p.ended, .slice d.a0 p.steps.length d.c0, .slice d.a1 p.lies.length d.c1, .slice d.a2 p.crosses.length d.c2]
set_option maxHeartbeats 1000000 in
theorem lie_any (j a b : Nat) (kd : Value) (w : World) :
    Calls Try.prog 188 #[.agg #[.int .i64 j, .int .i64 a, .int .i64 b, kd]] w fun e w' => e = .returned (endV ⟨j, (max a b : Nat)⟩) ∧ Below w.heap.size w w' := by
  have hm : ((a : Int) < b ∧ ((max a b : Nat) : Int) = b) ∨ ((a : Int) = b ∧ ((max a b : Nat) : Int) = b) ∨ ((b : Int) < a ∧ ((max a b : Nat) : Int) = a) := by omega
  obtain ⟨m, hm0⟩ : ∃ m, ((max a b : Nat) : Int) = m := ⟨_, rfl⟩
  rw [hm0] at hm ⊢
  clear hm0
  rcases hm with ⟨h1, rfl⟩ | ⟨h1, rfl⟩ | ⟨h1, rfl⟩
  · go_enter Try.func188, Try.ntmps188
    go_wp2_with fail
    exact bodyPost_ret (v := .agg #[.int .i64 (j : Int), .int .i64 (b : Int)]) (by simp [results, Try.results188, go_sem]) rfl ⟨rfl, blo⟩
  · rw [h1]
    go_enter Try.func188, Try.ntmps188
    go_wp2_with fail
    exact bodyPost_ret (v := .agg #[.int .i64 (j : Int), .int .i64 (b : Int)]) (by simp [results, Try.results188, go_sem]) rfl ⟨rfl, blo⟩
  · go_enter Try.func188, Try.ntmps188
    go_wp2_with fail
    exact bodyPost_ret (v := .agg #[.int .i64 (j : Int), .int .i64 (a : Int)]) (by simp [results, Try.results188, go_sem]) rfl ⟨rfl, blo⟩
theorem lastS_get {p : MPath} (h : 0 < p.steps.length) : p.steps[p.steps.length - 1]'(by omega) = lastS p := by
  unfold lastS
  rw [List.getLastD_eq_getLast?, List.getLast?_eq_getElem?, List.getElem?_eq_getElem (by omega)]
  rfl
set_option maxHeartbeats 1000000 in
theorem last_any (d : PAddr) (p : MPath) (w : World) (h : Hid (PListsAt w d p)) (h0 : 0 < p.steps.length) :
    Calls Try.prog 171 #[pathV d p] w fun e w' => e = .returned (endV (lastS p)) ∧ Below w.heap.size w w' := by
  have hl := h.out.steps.1
  unfold maxLen at hl
  obtain ⟨b1, off1, ha, hpc⟩ := h.out.steps.2.resolve_left (fun h => by rw [h] at h0; exact absurd h0 (by simp))
  obtain ⟨c0, c1⟩ := hpc (p.steps.length - 1) (by omega)
  rw [lastS_get h0] at c0 c1
  obtain ⟨n, hn⟩ : ∃ n, p.steps.length = n + 1 := ⟨p.steps.length - 1, by omega⟩
  unfold pathV
  rw [ha, hn]
  rw [hn] at c0 c1 hl
  have e : n + 1 - 1 = n := by omega
  rw [e] at c0 c1
  obtain ⟨ls, hls⟩ : ∃ ls, lastS p = ls := ⟨_, rfl⟩
  rw [hls] at c0 c1 ⊢
  have hz := cellLt c0
  dsimp only at hz
  clear hpc e
  go_enter Try.func171, Try.ntmps171
  go_wp2_with fail
  exact bodyPost_ret (v := .agg #[.int .i64 ls.piece, .int .i64 ls.side]) (by simp [results, Try.results171, go_sem]) rfl ⟨rfl, blo⟩
theorem round_all (p : MPath) : (p.steps.take (p.steps.length - 1)).any (fun s => sameS s (lastS p)) = roundB p := by
  unfold roundB
  rw [List.dropLast_eq_take]
set_option maxRecDepth 10000 in
set_option maxHeartbeats 4000000 in
theorem isRound_any (d : PAddr) (p : MPath) (w : World) (h : Hid (PListsAt w d p)) (h0 : 0 < p.steps.length) :
    Calls Try.prog 169 #[pathV d p] w fun e w' => e = .returned (.bool (roundB p)) ∧ Below w.heap.size w w' := by
  have hl := h.out.steps.1
  unfold maxLen at hl
  obtain ⟨b1, off1, ha, hpc⟩ := h.out.steps.2.resolve_left (fun h => by rw [h] at h0; exact absurd h0 (by simp))
  have HPC := hidP hpc
  have HLA : Hid (∀ u : World, Below w.heap.size w u → Calls Try.prog 171 #[.agg #[.int .i64 p.start, .int .i64 p.stop, .bool p.ended, .slice (some ⟨b1, off1, none⟩) p.steps.length d.c0, .slice d.a1 p.lies.length d.c1, .slice d.a2 p.crosses.length d.c2]] u fun e w' => e = .returned (.agg #[.int .i64 (lastS p).piece, .int .i64 (lastS p).side]) ∧ Below u.heap.size u w') := fun u hu => by
    have hh := last_any d p u (h.out.below hu) h0
    unfold pathV at hh
    rw [ha] at hh
    exact hh
  obtain ⟨ls, hls⟩ : ∃ ls, lastS p = ls := ⟨_, rfl⟩
  have HLS := hidP hls
  rw [hls] at HLA
  obtain ⟨n, hn⟩ : ∃ n, p.steps.length = n + 1 := ⟨p.steps.length - 1, by omega⟩
  have HN := hidP hn
  unfold pathV
  rw [ha, hn]
  rw [hn] at HLA hl
  have hcap := h.out.cap
  rw [hn] at hcap
  clear hpc ha hls hn
  go_enter Try.func169, Try.ntmps169
  go_wp2_with fail
  generalize hW : World.alloc w _ = W
  have hbW : Below w.heap.size w W := by rw [← hW]; exact blo
  have x0 : W.cell? ⟨w.heap.size, 0, none⟩ = some (.int .i64 p.start) := by rw [← hW]; simp [go_sem]
  have x1 : W.cell? ⟨w.heap.size, 1, none⟩ = some (.int .i64 p.stop) := by rw [← hW]; simp [go_sem]
  have x2 : W.cell? ⟨w.heap.size, 2, none⟩ = some (.bool p.ended) := by rw [← hW]; simp [go_sem]
  have x3 : W.cell? ⟨w.heap.size, 3, none⟩ = some (.slice (some ⟨b1, off1, none⟩) (n + 1) d.c0) := by rw [← hW]; simp [go_sem]
  have x4 : W.cell? ⟨w.heap.size, 4, none⟩ = some (.slice d.a1 p.lies.length d.c1) := by rw [← hW]; simp [go_sem]
  have x5 : W.cell? ⟨w.heap.size, 5, none⟩ = some (.slice d.a2 p.crosses.length d.c2) := by rw [← hW]; simp [go_sem]
  have HBW := hidP hbW
  have hzW : w.heap.size < W.heap.size := by rw [← hW]; simp
  clear hW hbW
  go_loopw [13] (fun i wr => ∃ k : Nat, k ≤ n ∧ i = .int .i64 k ∧ Hid ((p.steps.take k).any (fun s => sameS s ls) = false) ∧ Below W.heap.size W wr) (fun i _ => n - (intOf i).toNat)
  case atStart => exact ⟨0, Nat.zero_le _, rfl, rfl, Below.refl _ _⟩
  case round =>
    obtain ⟨k, hk, rfl, HQ, hb⟩ := hrel
    have hbs := hb.size
    have hbF := HBW.out.trans (hb.mono HBW.out.size)
    by_cases hk' : k < n
    · have hkl : k < p.steps.length := by rw [HN.out]; omega
      obtain ⟨c0, c1⟩ := (HPC.out.below hbF) k hkl
      have HTK : Hid ((p.steps.take (k + 1)).any (fun s => sameS s ls) = sameS p.steps[k] ls) := by
        unfold Hid
        rw [List.take_succ_eq_append_getElem hkl, List.any_append, HQ.out]
        simp
      have HHIT : Hid (sameS p.steps[k] ls = true → roundB p = true) := fun hs => by
        rw [← round_all, List.any_eq_true]
        refine ⟨p.steps[k], ?_, by rw [HLS.out]; exact hs⟩
        rw [HN.out]
        exact List.mem_take_iff_getElem.2 ⟨k, by simp; omega, rfl⟩
      generalize p.steps[k] = sk at c0 c1 HTK HHIT
      have y0 := cell_later hb x0
      have y1 := cell_later hb x1
      have y2 := cell_later hb x2
      have y3 := cell_later hb x3
      have y4 := cell_later hb x4
      have y5 := cell_later hb x5
      have hki : (k : Int) < n := by omega
      have hzc := cellLt c0
      dsimp only at hzc
      clear HQ
      go_upto_region 4 with fail
      generalize hWa : World.alloc wr _ = Wa
      have hba : Below wr.heap.size wr Wa := by rw [← hWa]; exact (Below.refl _ _).alloc (Nat.le_refl _) _
      have z0 : Wa.cell? ⟨wr.heap.size, 0, none⟩ = some (.int .i64 sk.piece) := by rw [← hWa]; simp [go_sem]
      have z1 : Wa.cell? ⟨wr.heap.size, 1, none⟩ = some (.int .i64 sk.side) := by rw [← hWa]; simp [go_sem]
      have HBa := hidP (hb.trans (hba.mono hbs))
      have HBF := hidP (hbF.trans (hba.mono (by omega)))
      have m0 := Later.cell (cell_later hba y0)
      have m1 := Later.cell (cell_later hba y1)
      have m2 := Later.cell (cell_later hba y2)
      have m3 := Later.cell (cell_later hba y3)
      have m4 := Later.cell (cell_later hba y4)
      have m5 := Later.cell (cell_later hba y5)
      have l0 := Later.cell z0
      have l1 := Later.cell z1
      have hne := later_some Wa
      clear hWa hba y0 y1 y2 y3 y4 y5 z0 z1 c0 c1 hb hbF
      have hcs : (sameS sk ls = false ∧ (sk.piece == ls.piece) = false) ∨ (sameS sk ls = false ∧ (sk.piece == ls.piece) = true ∧ (sk.side == ls.side) = false) ∨ (sameS sk ls = true ∧ (sk.piece == ls.piece) = true ∧ (sk.side == ls.side) = true) := by
        unfold sameS
        cases (sk.piece == ls.piece) <;> cases (sk.side == ls.side) <;> simp
      rcases hcs with ⟨hs, g1⟩ | ⟨hs, g1, g2⟩ | ⟨hs, g1, g2⟩
      · have HT2 : Hid ((p.steps.take (k + 1)).any (fun s => sameS s ls) = false) := HTK.out.trans hs
        clear hs
        refine wp_region_later (by kernel_rfl) (by kernel_rfl) ?_
        iterate 2 (go_big_quiet_step (fail))
        go_big_quiet_step ((rename_i u; exact Later.calls u (HLA.out u.val (HBF.out.trans (u.2.mono HBF.out.size)))))
        iterate 1 (go_big_quiet_step (fail))
        refine wpQuiet_nil ?_
        intro _ hw'
        obtain ⟨u, hw''⟩ := hw'
        subst hw''
        have hbu := u.2
        generalize u.val = w6 at hbu ⊢
        have HB6 := hidP (HBa.out.trans (hbu.mono HBa.out.size))
        clear m0 m1 m2 m3 m4 m5 l0 l1 hne hbu
        go_wp2_with fail
        go_roundw
        case rel => exact ⟨k + 1, by omega, by go_num, HT2, HB6.out⟩
        case measure => simp [intOf]; omega
      · have HT2 : Hid ((p.steps.take (k + 1)).any (fun s => sameS s ls) = false) := HTK.out.trans hs
        clear hs
        refine wp_region_later (by kernel_rfl) (by kernel_rfl) ?_
        iterate 2 (go_big_quiet_step (fail))
        go_big_quiet_step ((rename_i u; exact Later.calls u (HLA.out u.val (HBF.out.trans (u.2.mono HBF.out.size)))))
        iterate 1 (go_big_quiet_step (fail))
        refine wpQuiet_nil ?_
        intro _ hw'
        obtain ⟨u, hw''⟩ := hw'
        subst hw''
        have hbu := u.2
        generalize u.val = w6 at hbu ⊢
        have HB6 := hidP (HBa.out.trans (hbu.mono HBa.out.size))
        clear m0 m1 m2 m3 m4 m5 l0 l1 hne hbu
        go_wp2_with fail
        go_roundw
        case rel => exact ⟨k + 1, by omega, by go_num, HT2, HB6.out⟩
        case measure => simp [intOf]; omega
      · have HT2 : Hid (roundB p = true) := HHIT.out hs
        clear hs
        refine wp_region_later (by kernel_rfl) (by kernel_rfl) ?_
        iterate 2 (go_big_quiet_step (fail))
        go_big_quiet_step ((rename_i u; exact Later.calls u (HLA.out u.val (HBF.out.trans (u.2.mono HBF.out.size)))))
        iterate 1 (go_big_quiet_step (fail))
        refine wpQuiet_nil ?_
        intro _ hw'
        obtain ⟨u, hw''⟩ := hw'
        subst hw''
        have hbu := u.2
        generalize u.val = w6 at hbu ⊢
        have HB6 := hidP (HBF.out.trans (hbu.mono HBF.out.size))
        clear m0 m1 m2 m3 m4 m5 l0 l1 hne hbu
        go_wp2_with fail
        go_ret
        rw [HT2.out]
        exact ⟨rfl, HB6.out⟩
    · have hkn : k = n := by omega
      have HT2 : Hid (roundB p = false) := by
        unfold Hid
        have h := HQ.out
        rw [hkn] at h
        rw [← round_all, HN.out, HLS.out]
        exact h
      have hki : ¬ (k : Int) < n := by omega
      clear HQ hkn
      go_wp2_with fail
      go_ret
      rw [HT2.out]
      exact ⟨rfl, hbF⟩
end Go.Proofs.Ytmkdgnmmebldgaa
