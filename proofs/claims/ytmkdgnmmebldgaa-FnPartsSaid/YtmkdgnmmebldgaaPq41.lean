import Derived.Test.YtmkdgnmmebldgaaPq40
namespace Go.Proofs.Ytmkdgnmmebldgaa
open Go.RowKit Go.Deep Go.Maps
theorem fold_take {α : Type} (f : α → Nat → α) (L : List Nat) (m t : Nat) (a : α) (ht : L[m]? = some t) : (L.take (m + 1)).foldl f a = f ((L.take m).foldl f a) t := by
  rw [List.take_add_one, ht, Option.toList, List.foldl_append]
  rfl
set_option maxRecDepth 100000 in
set_option maxHeartbeats 8000000 in
theorem lookOver_any (w : World) (M : Nat) (pa ja sa : Option Addr) (pc jc sc : Nat) (ps : List MPiece) (js : List MJoint) (ss : List MPiece) (lies : List MLie) (R : Hid (Right ps js ss)) (KT O M2 : Nat) (hT : Hid (TTrack w KT M pa ja sa pc jc sc ps js ss)) (at_ : Int) (la : Option Addr) (lc bs : Nat) (hL : Hid (EndsAt w la lies)) (n : Nat) (IH : Hid (LookAt w ps js ss lies KT O M2 at_ la lc bs n))
    (K : Nat → Prop) (st : List MEnd × List MFlank) (f : MEnd) (W : World) (h : Hid (LBase w ps KT O M2 at_ la lies.length lc bs K st W)) (hlt : Hid (st.2.length + 1 ≤ st.1.length)) (hn : Hid (2 * ps.length + 2 ≤ n + st.1.length)) (hv : Hid (ValidE ps f)) :
    Calls Try.prog 177 #[.pointer (some ⟨O, 0, none⟩), endV f] W (Looked w ps KT O M2 at_ la lies.length lc bs (overL js ss lies at_ n st f) K W) := by
  have hnp := R.out.np
  obtain ⟨j, k, hspF, hsp⟩ := R.out.spot hv.out
  obtain ⟨hj, hk⟩ : ∃ hj : j < js.length, k < js[j].ends.length := by
    obtain ⟨_, hj, hk, _⟩ := spotF_some hspF
    simp only [Nat.sub_zero] at hj hk
    exact ⟨hj, hk⟩
  have hkd := R.out.kind j hj
  have hke := kindE_at hj
  have HLK : Hid (∀ u : World, Below W.heap.size W u → (Instr.lookup 198 (.map (some M)) (.agg #[.int .i64 f.piece, .int .i64 f.side]) false).run Try.prog u = .ok (spotV j k (kindE js j)) u) := fun u hu => by
    have q := (hT.out.below (h.out.below.trans (hu.mono h.out.below.size))).lookup R.out hv.out
    rw [hsp] at q
    exact q
  have HF : Hid (∀ (u : World), Below W.heap.size W u → ∀ kd of_ li : Int, Calls Try.prog 176 #[.pointer (some ⟨O, 0, none⟩), .int .i64 kd, .int .i64 of_, .int .i64 li] u (Looked w ps KT O M2 at_ la lies.length lc bs (st.1, st.2 ++ [⟨at_, kd, of_, li⟩]) K W)) := fun u hu kd of_ li =>
    (found_any w ps hnp KT O M2 at_ la lies.length lc bs K st u (h.out.keep hu) hlt kd of_ li).mono (fun e w' q => q.after hu)
  have HFS : Hid (∀ (u : World), Below W.heap.size W u → Calls Try.prog 186 #[.pointer (some ⟨O, 0, none⟩), .agg #[.int .i64 (j : Int), .int .i64 (k : Int), .iface (kindT (kindE js j)) (.agg #[])]] u (Looked w ps KT O M2 at_ la lies.length lc bs (st.1, st.2 ++ [if lieF lies j = k then ⟨at_, 4, j, 0⟩ else ⟨at_, 3, j, 3 - k⟩]) K W)) := fun u hu =>
    (foundSwitch_any w ps hnp KT O M2 at_ la lies lc bs hL K st u (h.out.keep hu) hlt j k (kindE js j) (by have := hkd.2; omega)).mono (fun e w' q => q.after hu)
  have HPS : Hid (∀ (u : World), Below W.heap.size W u → Calls Try.prog 170 #[.pointer (some ⟨KT, 0, none⟩), .agg #[.int .i64 f.piece, .int .i64 f.side], .func (.func 187) #[.pointer (some ⟨O, 0, none⟩)] #[]] u fun e w' => (∃ v, e = .returned v) ∧ Only K W w' ∧ ∃ K', LBase w ps KT O M2 at_ la lies.length lc bs K' ((beyondF (kindE js j) k).foldl (fun s t => lookF js ss lies at_ n s (endE js j t)) st) w' ∧ Grow K K' W) := fun u hu => by
    have hLu := h.out.keep hu
    have q := passages_any KT M pa ja sa pc jc sc ps js ss R f 187 (.pointer (some ⟨O, 0, none⟩)) (fun m K u => LBase w ps KT O M2 at_ la lies.length lc bs K (((beyondF (kindE js j) k).take m).foldl (fun s t => lookF js ss lies at_ n s (endE js j t)) st) u) (fun _ => False) K u (hT.out.below hLu.below) hv (fun args u => by kernel_rfl) j k hsp hLu (fun m K2 u2 q => q.lt) (fun m K2 u2 u3 q hb => q.keep hb) (fun m t K2 u2 ht q => by
      have htm := List.mem_of_getElem? ht
      have htl : t < js[j].ends.length := beyond_lt hkd.2.2 hk (by rw [← hke]; exact htm)
      have hg : Grew ps st (((beyondF (kindE js j) k).take m).foldl (fun s t => lookF js ss lies at_ n s (endE js j t)) st) := Grew.fold _ h.out.seen (fun t' ht' s hs => look_grew R.out lies at_ n s _ hs (by
        have htl' : t' < js[j].ends.length := beyond_lt hkd.2.2 hk (by rw [← hke]; exact List.mem_of_mem_take ht')
        rw [endE_at hj htl']
        exact R.out.ends j hj t' htl'))
      have hq := lpass_any w M pa ja sa pc jc sc ps js ss lies R KT O M2 hT at_ la lc bs n IH K2 _ u2 q (by unfold Hid; have h1 := hn.out; have h2 := hg.2.1; omega) j k t (kindE js j) hj htl
      refine hq.mono ?_
      rintro e u3 ⟨b, e1, o1, i1, s1⟩
      refine ⟨b, e1, o1, fun hb => ?_, s1⟩
      obtain ⟨K3, i2, g2⟩ := i1 hb
      refine ⟨K3, ?_, g2⟩
      rw [fold_take _ _ _ _ _ ht]
      exact i2)
    refine q.mono ?_
    rintro e u3 ⟨b, e1, o1, i1, s1⟩
    cases b
    · exact (s1 rfl).elim
    · obtain ⟨K3, i2, g2⟩ := i1 rfl
      rw [List.take_length] at i2
      exact ⟨⟨_, e1⟩, (Only.of_below hu).trans o1, K3, i2, g2.mono hu.size⟩
  have HOL : Hid (overL js ss lies at_ n st f = if kindE js j = 1 then (st.1, st.2 ++ [⟨at_, 1, j, 0⟩]) else if kindE js j = 3 ∧ k ≠ 0 then (st.1, st.2 ++ [if lieF lies j = k then ⟨at_, 4, j, 0⟩ else ⟨at_, 3, j, 3 - k⟩]) else (beyondF (kindE js j) k).foldl (fun s t => lookF js ss lies at_ n s (endE js j t)) st) := by
    unfold Hid overL
    rw [hsp]
  obtain ⟨x, y, h1, _, _⟩ := h.out.own
  have c0 : W.cell? ⟨O, 0, none⟩ = some (.pointer (some ⟨KT, 0, none⟩)) := h1.cell (i := 0) (by omega)
  have c3 := (hT.out.below h.out.below).c3
  have hK := cellLt c3
  dsimp only at hK
  have hzO := h1.lt
  have hk1 : 1 ≤ kindE js j := by rw [hke]; exact hkd.1
  have hk4 : kindE js j ≤ 4 := by rw [hke]; exact hkd.2.1
  generalize overL js ss lies at_ n st f = res at HOL ⊢
  generalize (beyondF (kindE js j) k).foldl (fun s t => lookF js ss lies at_ n s (endE js j t)) st = fo at HPS HOL
  generalize (if lieF lies j = k then (⟨at_, 4, j, 0⟩ : MFlank) else ⟨at_, 3, j, 3 - k⟩) = sw at HFS HOL
  generalize kindE js j = kd at HLK HFS HOL hk1 hk4 hke
  unfold endV
  clear h1 hkd hke hspF hsp hk
  go_enter Try.func177, Try.ntmps177
  go_upto_region 1 with fail
  generalize hV : World.alloc W _ = V
  have hbV : Below W.heap.size W V := by rw [← hV]; exact (Below.refl _ _).alloc (Nat.le_refl _) _
  have x0 : V.cell? ⟨W.heap.size, 0, none⟩ = some (.int .i64 f.piece) := by rw [← hV]; simp [go_sem]
  have x1 : V.cell? ⟨W.heap.size, 1, none⟩ = some (.int .i64 f.side) := by rw [← hV]; simp [go_sem]
  have hzV : W.heap.size < V.heap.size := by rw [← hV]; simp
  replace c0 := cell_later hbV c0
  replace c3 := cell_later hbV c3
  have HBV := hidP hbV
  obtain ⟨S, hS⟩ : ∃ S : World → Prop, ∀ u, S u ↔ Below V.heap.size V u := ⟨_, fun _ => Iff.rfl⟩
  have HS0 := hidP hS
  have r0 : ∀ u : Held S, World.cell? u.val ⟨O, 0, none⟩ = some (.pointer (some ⟨KT, 0, none⟩)) := fun u => cell_later ((hS u.val).1 u.2) c0
  have r1 : ∀ u : Held S, World.cell? u.val ⟨W.heap.size, 0, none⟩ = some (.int .i64 f.piece) := fun u => cell_later ((hS u.val).1 u.2) x0
  have r2 : ∀ u : Held S, World.cell? u.val ⟨W.heap.size, 1, none⟩ = some (.int .i64 f.side) := fun u => cell_later ((hS u.val).1 u.2) x1
  have r3 : ∀ u : Held S, World.cell? u.val ⟨KT, 3, none⟩ = some (.map (some M)) := fun u => cell_later ((hS u.val).1 u.2) c3
  have r4 : ∀ u : Held S, (Instr.lookup 198 (.map (some M)) (.agg #[.int .i64 f.piece, .int .i64 f.side]) false).run Try.prog u.val = .ok (spotV j k kd) u.val := fun u => HLK.out u.val (HBV.out.trans (((hS u.val).1 u.2).mono HBV.out.size))
  have hS1 : S V.drew := (hS _).2 ((Below.refl _ _).drew)
  have hne := held_ne hS1
  clear hS hV hbV
  go_cut [4] (fun v wx => ∃ b, v = .pointer (some ⟨b, 0, none⟩) ∧ V.heap.size ≤ b ∧ wx.cell? ⟨b, 0, none⟩ = some (.int .i64 (j : Int)) ∧ wx.cell? ⟨b, 1, none⟩ = some (.int .i64 (k : Int)) ∧ wx.cell? ⟨b, 2, none⟩ = some (.iface (kindT kd) (.agg #[])) ∧ Below V.heap.size V wx)
  case first =>
    refine wp_region_tree (fun w' => ∃ u : Held S, w' = u.val) 10 (by kernel_rfl) (by kernel_rfl) (held_some hS1) ?_
    (refine wpT_see 0 (by rfl) (by kernel_rfl) (by kernel_rfl) ?_; intro K hK; go_big_quiet_op; go_big_quiet_on); (refine wpT_see 1 (by rfl) (by kernel_rfl) (by kernel_rfl) ?_; intro K hK; go_big_quiet_op; go_big_quiet_on); (refine wpT_see 2 (by rfl) (by kernel_rfl) (by kernel_rfl) ?_; intro K hK; go_big_quiet_op; go_big_quiet_on); (refine wpT_see 3 (by rfl) (by kernel_rfl) (by kernel_rfl) ?_; intro K hK; go_big_quiet_op; go_big_quiet_on); (refine wpT_see 4 (by rfl) (by kernel_rfl) (by kernel_rfl) ?_; intro K hK; go_big_quiet_op; go_big_quiet_on); (refine wpT_see 5 (by rfl) (by kernel_rfl) (by kernel_rfl) ?_; intro K hK; go_big_quiet_op; go_big_quiet_on); (refine wpT_see 6 (by rfl) (by kernel_rfl) (by kernel_rfl) ?_; intro K hK; go_big_quiet_op; go_big_quiet_on); (refine wpT_see 7 (by rfl) (by kernel_rfl) (by kernel_rfl) ?_; intro K hK; go_big_quiet_op; go_big_quiet_on); (refine wpT_see 8 (by rfl) (by kernel_rfl) (by kernel_rfl) ?_; intro K hK; go_big_quiet_op; go_big_quiet_on)
    refine wpT_loud 9 (by rfl) (by kernel_rfl) (by kernel_rfl) ?_
    intro KK hK
    go_wp2_with fail
    have hb3 : Below V.heap.size V (V.alloc (Obj.cells #[Value.int IntKind.i64 0, Value.int IntKind.i64 0, Value.nilIface] 206)).drew := ((Below.refl _ _).alloc (Nat.le_refl _) _).drew
    refine hK _ _ (held_some ((HS0.out _).2 hb3)) ?_
    clear hK KK
    refine wpT_done (by kernel_rfl) ?_
    unfold spotV
    clear r0 r1 r2 r3 r4 hS1 hne hb3
    go_wp2_with fail
    go_meet
    exact ⟨_, rfl, Nat.le_refl _, by simp [go_sem], by simp [go_sem], by simp [go_sem], ((Below.refl _ _).alloc (Nat.le_refl _) _).drew⟩
  case rest =>
    obtain ⟨b, rfl, hb, z0, z1, z2, hbc⟩ := hcut
    clear r0 r1 r2 r3 r4 hS1 hne
    have hzb := cellLt z0
    dsimp only at hzb
    replace c0 := cell_later hbc c0
    replace x0 := cell_later hbc x0
    replace x1 := cell_later hbc x1
    have hzc := hbc.size
    have HBC : Hid (Below W.heap.size W wc) := HBV.out.trans (hbc.mono HBV.out.size)
    clear hbc c3
    have hcs : kd = 1 ∨ (kd ≠ 1 ∧ kd = 3 ∧ k ≠ 0) ∨ (kd ≠ 1 ∧ kd = 3 ∧ k = 0) ∨ (kd ≠ 1 ∧ kd ≠ 3) := by omega
    rcases hcs with hq | ⟨hq1, hq3, hqk⟩ | ⟨hq1, hq3, hqk⟩ | ⟨hq1, hq3⟩
    · have hisB : ∀ w, (Instr.typeAssert (.iface (kindT kd) (.agg #[])) 202 252 true).run Try.prog w = .ok (.tuple #[.agg #[], .bool true]) w := fun w => (isB w _ kd).trans (by rw [decide_eq_true hq])
      have HRES := hidP (HOL.out.trans (if_pos hq))
      clear hq
      go_wp2_with (go_at_call 176; refine (HF.out _ HBC.out _ _ _).mono ?_; rintro e u3 ⟨⟨v3, rfl⟩, ho3, hl3⟩)
      rw [HRES.out]
      exact bodyPost_ret (results_none rfl _ _ _) rfl ⟨⟨_, rfl⟩, ho3, hl3⟩
    · have hisB : ∀ w, (Instr.typeAssert (.iface (kindT kd) (.agg #[])) 202 252 true).run Try.prog w = .ok (.tuple #[.agg #[], .bool false]) w := fun w => (isB w _ kd).trans (by rw [decide_eq_false hq1])
      have hisS : ∀ w, (Instr.typeAssert (.iface (kindT kd) (.agg #[])) 202 254 true).run Try.prog w = .ok (.tuple #[.agg #[], .bool true]) w := fun w => (isS w _ kd hk1 hk4).trans (by rw [decide_eq_true hq3])
      have hkn : ((k : Int) != 0) = true := by simp; omega
      have HRES := hidP (HOL.out.trans ((if_neg hq1).trans (if_pos ⟨hq3, hqk⟩)))
      clear hq1 hq3 hqk
      go_wp2_with (go_at_call 186; refine (HFS.out _ HBC.out).mono ?_; rintro e u3 ⟨⟨v3, rfl⟩, ho3, hl3⟩)
      rw [HRES.out]
      exact bodyPost_ret (results_none rfl _ _ _) rfl ⟨⟨_, rfl⟩, ho3, hl3⟩
    · have hisB : ∀ w, (Instr.typeAssert (.iface (kindT kd) (.agg #[])) 202 252 true).run Try.prog w = .ok (.tuple #[.agg #[], .bool false]) w := fun w => (isB w _ kd).trans (by rw [decide_eq_false hq1])
      have hisS : ∀ w, (Instr.typeAssert (.iface (kindT kd) (.agg #[])) 202 254 true).run Try.prog w = .ok (.tuple #[.agg #[], .bool true]) w := fun w => (isS w _ kd hk1 hk4).trans (by rw [decide_eq_true hq3])
      have hkn : ((k : Int) != 0) = false := by simp; omega
      have HRES := hidP (HOL.out.trans ((if_neg hq1).trans (if_neg (fun q => q.2 hqk))))
      clear hq1 hq3 hqk
      go_upto_region 8 with fail
      obtain ⟨S, hS⟩ : ∃ S : World → Prop, ∀ u, S u ↔ Below wc.heap.size wc u := ⟨_, fun _ => Iff.rfl⟩
      have HS0 := hidP hS
      have r0 : ∀ u : Held S, World.cell? u.val ⟨O, 0, none⟩ = some (.pointer (some ⟨KT, 0, none⟩)) := fun u => cell_later ((hS u.val).1 u.2) c0
      have r1 : ∀ u : Held S, World.cell? u.val ⟨W.heap.size, 0, none⟩ = some (.int .i64 f.piece) := fun u => cell_later ((hS u.val).1 u.2) x0
      have r2 : ∀ u : Held S, World.cell? u.val ⟨W.heap.size, 1, none⟩ = some (.int .i64 f.side) := fun u => cell_later ((hS u.val).1 u.2) x1
      have hS1 : S wc.drew := (hS _).2 ((Below.refl _ _).drew)
      have hne := held_ne hS1
      have hmf : ∀ (fn : Fn) (first cap : Array Value) (w : World), (Instr.makeFunc fn first cap).run Try.prog w = .ok (.func fn first cap) w := fun _ _ _ _ => rfl
      clear hS
      refine wp_region_tree (fun w' => ∃ u : Held S, w' = u.val) 7 (by kernel_rfl) (by kernel_rfl) (held_some hS1) ?_
      (refine wpT_see 0 (by rfl) (by kernel_rfl) (by kernel_rfl) ?_; intro K hK; go_big_quiet_op; go_big_quiet_on); (refine wpT_see 1 (by rfl) (by kernel_rfl) (by kernel_rfl) ?_; intro K hK; go_big_quiet_op; go_big_quiet_on); (refine wpT_see 2 (by rfl) (by kernel_rfl) (by kernel_rfl) ?_; intro K hK; go_big_quiet_op; go_big_quiet_on); (refine wpT_see 3 (by rfl) (by kernel_rfl) (by kernel_rfl) ?_; intro K hK; go_big_quiet_op; go_big_quiet_on); (refine wpT_see 4 (by rfl) (by kernel_rfl) (by kernel_rfl) ?_; intro K hK; go_big_quiet_op; go_big_quiet_on); (refine wpT_see 5 (by rfl) (by kernel_rfl) (by kernel_rfl) ?_; intro K hK; go_big_quiet_op; go_big_quiet_on); (refine wpT_see 6 (by rfl) (by kernel_rfl) (by kernel_rfl) ?_; intro K hK; go_big_quiet_op; go_big_quiet_on)
      clear r0 r1 r2 hS1 hne
      refine wpT_done (by kernel_rfl) ?_
      go_wp2_with (go_at_call 170; refine (HPS.out _ (HBC.out.trans ((Below.refl _ _).drew.mono HBC.out.size))).mono ?_; rintro e u3 ⟨⟨v3, rfl⟩, ho3, hl3⟩)
      rw [HRES.out]
      exact bodyPost_end (results_none rfl _ _ _) rfl ⟨⟨_, rfl⟩, ho3, hl3⟩
    · have hisB : ∀ w, (Instr.typeAssert (.iface (kindT kd) (.agg #[])) 202 252 true).run Try.prog w = .ok (.tuple #[.agg #[], .bool false]) w := fun w => (isB w _ kd).trans (by rw [decide_eq_false hq1])
      have hisS : ∀ w, (Instr.typeAssert (.iface (kindT kd) (.agg #[])) 202 254 true).run Try.prog w = .ok (.tuple #[.agg #[], .bool false]) w := fun w => (isS w _ kd hk1 hk4).trans (by rw [decide_eq_false hq3])
      have HRES := hidP (HOL.out.trans ((if_neg hq1).trans (if_neg (fun q => hq3 q.1))))
      clear hq1 hq3
      go_upto_region 8 with fail
      obtain ⟨S, hS⟩ : ∃ S : World → Prop, ∀ u, S u ↔ Below wc.heap.size wc u := ⟨_, fun _ => Iff.rfl⟩
      have HS0 := hidP hS
      have r0 : ∀ u : Held S, World.cell? u.val ⟨O, 0, none⟩ = some (.pointer (some ⟨KT, 0, none⟩)) := fun u => cell_later ((hS u.val).1 u.2) c0
      have r1 : ∀ u : Held S, World.cell? u.val ⟨W.heap.size, 0, none⟩ = some (.int .i64 f.piece) := fun u => cell_later ((hS u.val).1 u.2) x0
      have r2 : ∀ u : Held S, World.cell? u.val ⟨W.heap.size, 1, none⟩ = some (.int .i64 f.side) := fun u => cell_later ((hS u.val).1 u.2) x1
      have hS1 : S wc.drew := (hS _).2 ((Below.refl _ _).drew)
      have hne := held_ne hS1
      have hmf : ∀ (fn : Fn) (first cap : Array Value) (w : World), (Instr.makeFunc fn first cap).run Try.prog w = .ok (.func fn first cap) w := fun _ _ _ _ => rfl
      clear hS
      refine wp_region_tree (fun w' => ∃ u : Held S, w' = u.val) 7 (by kernel_rfl) (by kernel_rfl) (held_some hS1) ?_
      (refine wpT_see 0 (by rfl) (by kernel_rfl) (by kernel_rfl) ?_; intro K hK; go_big_quiet_op; go_big_quiet_on); (refine wpT_see 1 (by rfl) (by kernel_rfl) (by kernel_rfl) ?_; intro K hK; go_big_quiet_op; go_big_quiet_on); (refine wpT_see 2 (by rfl) (by kernel_rfl) (by kernel_rfl) ?_; intro K hK; go_big_quiet_op; go_big_quiet_on); (refine wpT_see 3 (by rfl) (by kernel_rfl) (by kernel_rfl) ?_; intro K hK; go_big_quiet_op; go_big_quiet_on); (refine wpT_see 4 (by rfl) (by kernel_rfl) (by kernel_rfl) ?_; intro K hK; go_big_quiet_op; go_big_quiet_on); (refine wpT_see 5 (by rfl) (by kernel_rfl) (by kernel_rfl) ?_; intro K hK; go_big_quiet_op; go_big_quiet_on); (refine wpT_see 6 (by rfl) (by kernel_rfl) (by kernel_rfl) ?_; intro K hK; go_big_quiet_op; go_big_quiet_on)
      clear r0 r1 r2 hS1 hne
      refine wpT_done (by kernel_rfl) ?_
      go_wp2_with (go_at_call 170; refine (HPS.out _ (HBC.out.trans ((Below.refl _ _).drew.mono HBC.out.size))).mono ?_; rintro e u3 ⟨⟨v3, rfl⟩, ho3, hl3⟩)
      rw [HRES.out]
      exact bodyPost_end (results_none rfl _ _ _) rfl ⟨⟨_, rfl⟩, ho3, hl3⟩
end Go.Proofs.Ytmkdgnmmebldgaa
