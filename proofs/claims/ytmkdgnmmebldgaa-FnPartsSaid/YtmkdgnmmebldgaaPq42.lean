import Derived.Test.YtmkdgnmmebldgaaPq41
namespace Go.Proofs.Ytmkdgnmmebldgaa
open Go.RowKit Go.Deep Go.Maps
set_option maxRecDepth 100000 in
set_option maxHeartbeats 8000000 in
theorem lookFrom_step (w : World) (M : Nat) (pa ja sa : Option Addr) (pc jc sc : Nat) (ps : List MPiece) (js : List MJoint) (ss : List MPiece) (lies : List MLie) (R : Hid (Right ps js ss)) (KT O M2 : Nat) (hT : Hid (TTrack w KT M pa ja sa pc jc sc ps js ss)) (at_ : Int) (la : Option Addr) (lc bs : Nat) (hL : Hid (EndsAt w la lies)) (n : Nat) (IH : Hid (LookAt w ps js ss lies KT O M2 at_ la lc bs n)) : LookAt w ps js ss lies KT O M2 at_ la lc bs (n + 1) := by
  intro K st e W hB hv hn
  have h := hidP hB
  have HV := hidP hv
  have HN := hidP hn
  have hnp := R.out.np
  have hfew := hB.seen.few
  have hfl := hB.fl
  have hlow := hB.low
  obtain ⟨x, y, h1, h2, h5⟩ := hB.own
  obtain ⟨kl, hkey⟩ := keyEnd hv R.out.np
  have c0 : W.cell? ⟨O, 0, none⟩ = some (.pointer (some ⟨KT, 0, none⟩)) := h1.cell (i := 0) (by omega)
  have c3 : W.cell? ⟨O, 3, none⟩ = some (.map (some M2)) := h1.cell (i := 3) (by omega)
  have hzO := h1.lt
  have HLK : Hid (∀ u : World, Below W.heap.size W u → (Instr.lookup 226 (.map (some M2)) (endV e) false).run Try.prog u = .ok (.int .i64 (if st.1.any (fun x => sameE x e) = true then 1 else 0)) u) := fun u hu => by
    have q := (hB.map.below hu).lookup lawE Try.underlying226 hkey
    rw [seenF_at] at q
    exact q
  have H1 := hidP h1
  have H2 := hidP h2
  have H5 := hidP h5
  have HSU := hidP (lookF_succ js ss lies at_ n st e)
  clear hB hn h1 h2 h5 hv
  unfold endV
  unfold endV at HLK
  go_enter Try.func159, Try.ntmps159
  go_upto_region 1 with fail
  generalize hV : World.alloc W _ = V
  have hbV : Below W.heap.size W V := by rw [← hV]; exact (Below.refl _ _).alloc (Nat.le_refl _) _
  have x0 : V.cell? ⟨W.heap.size, 0, none⟩ = some (.int .i64 e.piece) := by rw [← hV]; simp [go_sem]
  have x1 : V.cell? ⟨W.heap.size, 1, none⟩ = some (.int .i64 e.side) := by rw [← hV]; simp [go_sem]
  have hzV : W.heap.size < V.heap.size := by rw [← hV]; simp
  replace c0 := cell_later hbV c0
  replace c3 := cell_later hbV c3
  have HBV := hidP hbV
  obtain ⟨S, hS⟩ : ∃ S : World → Prop, ∀ u, S u ↔ Below V.heap.size V u := ⟨_, fun _ => Iff.rfl⟩
  have HS0 := hidP hS
  have r1 : ∀ u : Held S, World.cell? u.val ⟨W.heap.size, 0, none⟩ = some (.int .i64 e.piece) := fun u => cell_later ((hS u.val).1 u.2) x0
  have r2 : ∀ u : Held S, World.cell? u.val ⟨W.heap.size, 1, none⟩ = some (.int .i64 e.side) := fun u => cell_later ((hS u.val).1 u.2) x1
  have r3 : ∀ u : Held S, World.cell? u.val ⟨O, 3, none⟩ = some (.map (some M2)) := fun u => cell_later ((hS u.val).1 u.2) c3
  have r4 : ∀ u : Held S, (Instr.lookup 226 (.map (some M2)) (.agg #[.int .i64 e.piece, .int .i64 e.side]) false).run Try.prog u.val = .ok (.int .i64 (if st.1.any (fun x => sameE x e) = true then 1 else 0)) u.val := fun u => HLK.out u.val (HBV.out.trans (((hS u.val).1 u.2).mono HBV.out.size))
  have hS1 : S V.drew := (hS _).2 ((Below.refl _ _).drew)
  have hne := held_ne hS1
  clear hS hV hbV
  by_cases hany : st.1.any (fun x => sameE x e) = true
  · have HANY := hidP hany
    have hif : (if st.1.any (fun x => sameE x e) = true then (1 : Int) else 0) = 1 := if_pos hany
    rw [hif] at r4
    have HRES := hidP (HSU.out.trans (if_pos hany))
    clear hany hif
    refine wp_region_tree (fun w' => ∃ u : Held S, w' = u.val) 6 (by kernel_rfl) (by kernel_rfl) (held_some hS1) ?_
    (refine wpT_see 0 (by rfl) (by kernel_rfl) (by kernel_rfl) ?_; intro K hK; go_big_quiet_op; go_big_quiet_on); (refine wpT_see 1 (by rfl) (by kernel_rfl) (by kernel_rfl) ?_; intro K hK; go_big_quiet_op; go_big_quiet_on); (refine wpT_see 2 (by rfl) (by kernel_rfl) (by kernel_rfl) ?_; intro K hK; go_big_quiet_op; go_big_quiet_on); (refine wpT_see 3 (by rfl) (by kernel_rfl) (by kernel_rfl) ?_; intro K hK; go_big_quiet_op; go_big_quiet_on); (refine wpT_see 4 (by rfl) (by kernel_rfl) (by kernel_rfl) ?_; intro K hK; go_big_quiet_op; go_big_quiet_on); (refine wpT_see 5 (by rfl) (by kernel_rfl) (by kernel_rfl) ?_; intro K hK; go_big_quiet_op; go_big_quiet_on)
    clear r1 r2 r3 r4 hS1 hne
    refine wpT_done (by kernel_rfl) ?_
    go_wp2_with fail
    have hbw : Below W.heap.size W V.drew := HBV.out.trans ((Below.refl _ _).drew.mono HBV.out.size)
    rw [HRES.out]
    exact bodyPost_ret (results_none rfl _ _ _) rfl ⟨⟨_, rfl⟩, Only.of_below hbw, K, h.out.keep hbw, Grow.refl _ _⟩
  · have HANY := hidP hany
    have hif : (if st.1.any (fun x => sameE x e) = true then (1 : Int) else 0) = 0 := if_neg hany
    rw [hif] at r4
    have HRE2 := hidP (HSU.out.trans (if_neg hany))
    have HSN := hidP (h.out.seen.push HV.out hany)
    have hs0 : seenF Classical.propDecidable st.1 (endV e) = 0 := by rw [seenF_at, if_neg hany]
    have hM2 : CMap 139 V.drew.drew M2 st.1.length (seenF Classical.propDecidable st.1) := (h.out.map.below HBV.out).below ((Below.refl _ _).drew.drew)
    have hlk := hM2.lookup lawE Try.underlying226 hkey
    rw [hs0] at hlk
    obtain ⟨v0, cn, w1, w2, hme, hl1, hes, hM3, hg⟩ := hM2.entry lawKE Try.underlying226 (by unfold maxLen; omega) hkey 1 (by decide) (seenF Classical.propDecidable (st.1 ++ [e])) seenF_put (fun k hk => seenF_other hk)
    rw [hs0] at hl1
    have HM3 := hidP hM3
    have HG := hidP hg
    unfold endV at hlk hme hl1
    clear hany hif hs0 hM3 hM2 hg hkey
    refine wp_region_tree (fun w' => ∃ u : Held S, w' = u.val) 6 (by kernel_rfl) (by kernel_rfl) (held_some hS1) ?_
    (refine wpT_see 0 (by rfl) (by kernel_rfl) (by kernel_rfl) ?_; intro K hK; go_big_quiet_op; go_big_quiet_on); (refine wpT_see 1 (by rfl) (by kernel_rfl) (by kernel_rfl) ?_; intro K hK; go_big_quiet_op; go_big_quiet_on); (refine wpT_see 2 (by rfl) (by kernel_rfl) (by kernel_rfl) ?_; intro K hK; go_big_quiet_op; go_big_quiet_on); (refine wpT_see 3 (by rfl) (by kernel_rfl) (by kernel_rfl) ?_; intro K hK; go_big_quiet_op; go_big_quiet_on); (refine wpT_see 4 (by rfl) (by kernel_rfl) (by kernel_rfl) ?_; intro K hK; go_big_quiet_op; go_big_quiet_on); (refine wpT_see 5 (by rfl) (by kernel_rfl) (by kernel_rfl) ?_; intro K hK; go_big_quiet_op; go_big_quiet_on)
    clear r1 r2 r3 r4 hS1 hne
    refine wpT_done (by kernel_rfl) ?_
    go_upto_region 2 with fail
    have HG0 : Hid (Only (fun k => k = M2) V w2) := (Only.of_below ((Below.refl _ _).drew.drew)).trans (Only.of_grown HG.out (fun k hk => by cases hk; rfl))
    go_cut [19] (fun _ wx => wx = w2)
    case first =>
      go_region
      all_goals
        go_wp2_with fail
        go_meet
        rfl
    case rest =>
      subst hcut
      have hKM : K M2 := (H5.out M2).2 (Or.inr (Or.inl rfl))
      have hOW : Only K W wc := (Only.of_below HBV.out).trans (HG0.out.mono (fun k hk => by subst hk; exact hKM))
      have hzW := HBV.out.size
      have hM2l := h.out.map.lt
      have hnO : ¬ O = M2 := by omega
      have hlo := h.out.low_own
      have hbW : Below w.heap.size w wc := h.out.below.trans (hOW.below h.out.below.size (fun k hk e => by have := hlo k e; omega))
      have hrO := H1.out.of_block ((HG0.out.block _ (Nat.lt_of_lt_of_le H1.out.lt hzW) hnO).trans (HBV.out.block _ H1.out.lt))
      have hxl : (st.1 ++ [e]).length = st.1.length + 1 := by simp
      have HLB : Hid (LBase w ps KT O M2 at_ la lies.length lc bs K (st.1 ++ [e], st.2) wc) := by
        refine ⟨hbW, ⟨x, y, hrO, owns_only (owns_below H2.out HBV.out) HG0.out (fun k hk => by omega), H5.out⟩, ?_, hlow, Nat.le_trans h.out.hi hOW.size, HSN.out, by simp only [hxl]; omega⟩
        simp only [hxl]
        exact HM3.out
      have HOW := hidP hOW
      replace c0 := HG0.out.cell c0 (by show ¬ O = M2; exact hnO)
      replace x0 := HG0.out.cell x0 (by show ¬ W.heap.size = M2; omega)
      replace x1 := HG0.out.cell x1 (by show ¬ W.heap.size = M2; omega)
      have hzc := cellLt c0
      have hzx := cellLt x0
      dsimp only at hzc hzx
      have HTB : Hid (∀ u : World, Below wc.heap.size wc u → TTrack u KT M pa ja sa pc jc sc ps js ss) := fun u hu => hT.out.below (hbW.trans (hu.mono hbW.size))
      have hsd : (e.side = 0 ∧ (if e.side = 0 then (-1 : Int) else 1) = -1) ∨ (e.side = 1 ∧ (if e.side = 0 then (-1 : Int) else 1) = 1) := by
        obtain ⟨_, _, _, q⟩ := HV.out
        rcases q with q | q
        · exact Or.inl ⟨q, if_pos q⟩
        · exact Or.inr ⟨q, if_neg (by omega)⟩
      have HGU : Hid (∀ u : World, Below wc.heap.size wc u → Calls Try.prog 175 #[.pointer (some ⟨KT, 0, none⟩), .agg #[.int .i64 e.piece, .int .i64 e.side]] u fun r w' => r = .returned (.int .i64 (guardB ss e.piece (if e.side = 0 then -1 else 1) ss.length)) ∧ Below u.heap.size u w') := fun u hu => guardOf_any KT pa ja sa pc jc sc ps js ss e.piece e.side _ u (HTB.out u hu).net hsd R.out.speeds
      have hsd2 : 0 ≤ e.side ∧ e.side ≤ 1 := by omega
      have HFE : Hid (∀ u : World, Calls Try.prog 155 #[.agg #[.int .i64 e.piece, .int .i64 e.side]] u fun r w' => r = .returned (.agg #[.int .i64 (farE e).piece, .int .i64 (farE e).side]) ∧ Below u.heap.size u w') := fun u => farEnd_any e.piece e.side u hsd2.1 hsd2.2
      have HFO : Hid (∀ u : World, Below wc.heap.size wc u → ∀ kd of_ li : Int, Calls Try.prog 176 #[.pointer (some ⟨O, 0, none⟩), .int .i64 kd, .int .i64 of_, .int .i64 li] u (Looked w ps KT O M2 at_ la lies.length lc bs (st.1 ++ [e], st.2 ++ [⟨at_, kd, of_, li⟩]) K wc)) := fun u hu kd of_ li =>
        (found_any w ps hnp KT O M2 at_ la lies.length lc bs K (st.1 ++ [e], st.2) u (HLB.out.keep hu) (by unfold Hid; simp only [hxl]; omega) kd of_ li).mono (fun _ _ q => q.after hu)
      have HLO : Hid (∀ u : World, Below wc.heap.size wc u → Calls Try.prog 177 #[.pointer (some ⟨O, 0, none⟩), .agg #[.int .i64 (farE e).piece, .int .i64 (farE e).side]] u (Looked w ps KT O M2 at_ la lies.length lc bs (overL js ss lies at_ n (st.1 ++ [e], st.2) (farE e)) K wc)) := fun u hu =>
        (lookOver_any w M pa ja sa pc jc sc ps js ss lies R KT O M2 hT at_ la lc bs hL n IH K (st.1 ++ [e], st.2) (farE e) u (HLB.out.keep hu) (by unfold Hid; simp only [hxl]; omega) (by unfold Hid; have := HN.out; simp only [hxl]; omega) (farE_valid HV.out)).mono (fun _ _ q => q.after hu)
      generalize guardB ss e.piece (if e.side = 0 then -1 else 1) ss.length = gd at HGU HRE2
      generalize overL js ss lies at_ n (st.1 ++ [e], st.2) (farE e) = ov at HLO HRE2
      generalize farE e = fa at HFE HLO
      clear hOW hlk hme hl1 hes hrO hbW hxl hsd hsd2 hKM c3
      obtain ⟨S, hS⟩ : ∃ S : World → Prop, ∀ u, S u ↔ Below wc.heap.size wc u := ⟨_, fun _ => Iff.rfl⟩
      have HS1 := hidP hS
      have r0 : ∀ u : Held S, World.cell? u.val ⟨O, 0, none⟩ = some (.pointer (some ⟨KT, 0, none⟩)) := fun u => cell_later ((hS u.val).1 u.2) c0
      have r1 : ∀ u : Held S, World.cell? u.val ⟨W.heap.size, 0, none⟩ = some (.int .i64 e.piece) := fun u => cell_later ((hS u.val).1 u.2) x0
      have r2 : ∀ u : Held S, World.cell? u.val ⟨W.heap.size, 1, none⟩ = some (.int .i64 e.side) := fun u => cell_later ((hS u.val).1 u.2) x1
      have hS1 : S wc.drew := (hS _).2 ((Below.refl _ _).drew)
      have hne := held_ne hS1
      clear hS
      go_upto_region 3 with fail
      refine wp_region_tree (fun w' => ∃ u : Held S, w' = u.val) 6 (by kernel_rfl) (by kernel_rfl) (held_some hS1) ?_
      (refine wpT_see 0 (by rfl) (by kernel_rfl) (by kernel_rfl) ?_; intro K hK; go_big_quiet_op; go_big_quiet_on); (refine wpT_see 1 (by rfl) (by kernel_rfl) (by kernel_rfl) ?_; intro K hK; go_big_quiet_op; go_big_quiet_on); (refine wpT_see 2 (by rfl) (by kernel_rfl) (by kernel_rfl) ?_; intro K hK; go_big_quiet_op; go_big_quiet_on); (refine wpT_see 3 (by rfl) (by kernel_rfl) (by kernel_rfl) ?_; intro K hK; go_big_quiet_op; go_big_quiet_on); (refine wpT_see 4 (by rfl) (by kernel_rfl) (by kernel_rfl) ?_; intro K hK; go_big_quiet_op; go_big_quiet_on)
      refine wpT_loud 5 (by rfl) (by kernel_rfl) (by kernel_rfl) ?_
      intro KK hK
      go_wp2_with (go_at_call 175; refine (HGU.out _ ((Below.refl _ _).drew)).mono ?_; rintro r u2 ⟨rfl, hb2'⟩)
      have hb2 : Below wc.heap.size wc u2 := (Below.refl _ _).drew.trans hb2'
      refine hK _ _ (held_some ((HS1.out _).2 hb2)) ?_
      clear hK KK hb2' r0 r1 r2 hS1 hne
      replace x0 := cell_later hb2 x0
      replace x1 := cell_later hb2 x1
      have HB2 := hidP hb2
      have hz2 := cellLt x0
      dsimp only at hz2
      clear hb2 c0
      refine wpT_done (by kernel_rfl) ?_
      by_cases hgd : 0 ≤ gd
      · have HRES := hidP (HRE2.out.trans (if_pos hgd))
        go_wp2_with (go_at_call 176; refine (HFO.out _ HB2.out _ _ _).mono ?_; rintro r u3 ⟨⟨v3, rfl⟩, ho3, K3, hl3, hg3⟩)
        rw [HRES.out]
        exact bodyPost_ret (results_none rfl _ _ _) rfl ⟨⟨_, rfl⟩, HOW.out.trans ho3, K3, hl3, hg3.mono HOW.out.size⟩
      · have HRES := hidP (HRE2.out.trans (if_neg hgd))
        go_wp2_with (first | (go_at_call 155; refine (HFE.out _).mono ?_; rintro r u4 ⟨rfl, hb4⟩; have HB4 : Hid (Below wc.heap.size wc u4) := HB2.out.trans (hb4.mono HB2.out.size); clear hb4) | (go_at_call 177; refine (HLO.out _ HB4.out).mono ?_; rintro r u3 ⟨⟨v3, rfl⟩, ho3, K3, hl3, hg3⟩))
        rw [HRES.out]
        exact bodyPost_end (results_none rfl _ _ _) rfl ⟨⟨_, rfl⟩, HOW.out.trans ho3, K3, hl3, hg3.mono HOW.out.size⟩
theorem lookFrom_any (w : World) (M : Nat) (pa ja sa : Option Addr) (pc jc sc : Nat) (ps : List MPiece) (js : List MJoint) (ss : List MPiece) (lies : List MLie) (R : Hid (Right ps js ss)) (KT O M2 : Nat) (hT : Hid (TTrack w KT M pa ja sa pc jc sc ps js ss)) (at_ : Int) (la : Option Addr) (lc bs : Nat) (hL : Hid (EndsAt w la lies)) : ∀ n, LookAt w ps js ss lies KT O M2 at_ la lc bs n
  | 0 => fun K st e W hB hv hn => by
    have := hB.seen.few
    omega
  | n + 1 => lookFrom_step w M pa ja sa pc jc sc ps js ss lies R KT O M2 hT at_ la lc bs hL n (lookFrom_any w M pa ja sa pc jc sc ps js ss lies R KT O M2 hT at_ la lc bs hL n)
end Go.Proofs.Ytmkdgnmmebldgaa
