import Derived.Test.YtmkdgnmmebldgaaGreatEx25
import Derived.Test.YtmkdgnmmebldgaaGreatEx21
import Derived.Test.YtmkdgnmmebldgaaGreatEx23
namespace Go.Proofs.YtmkdgnmmebldgaaGreat
open Go.RowKit Go.Deep Go.Maps

theorem Right.speeds {ps : List MPiece} {js : List MJoint} {ss : List MPiece} (R : Right ps js ss) : ∀ k (hk : k < ss.length), 0 ≤ ss[k].speed ∧ ss[k].speed ≤ 10000000 := by
  intro k hk
  obtain ⟨p, hp, _, _, h3, h4⟩ := R.sig k hk
  have := (R.plen p hp).2
  omega

theorem field_spot2 (a b : Int) (n : Nat) (w : World) : (Instr.field 129 (.agg #[.int .i64 a, .int .i64 b, .iface n (.agg #[])]) 2).run Tryz.prog w = .ok (.iface n (.agg #[])) w := by kernel_rfl

set_option maxRecDepth 100000 in
set_option maxHeartbeats 8000000 in
theorem endOf_any (K M : Nat) (pa ja sa : Option Addr) (pc jc sc : Nat) (ps : List MPiece) (js : List MJoint) (ss : List MPiece) (R : Hid (Right ps js ss)) (d : PAddr) (p : MPath) (pos : Int) (w : World) (hT : Hid (TTrack w K M pa ja sa pc jc sc ps js ss)) (h : Hid (PListsAt w d p)) (h0 : 0 < p.steps.length) (hv : Hid (ValidS ps (lastS p))) (hp0 : 0 ≤ pos) (hp1 : pos ≤ 10000000) :
    Calls Tryz.prog 107 #[.pointer (some ⟨K, 0, none⟩), pathV d p, .int .i64 pos] w fun e w' => e = .returned (.tuple #[.int .i64 (stopP js ss p pos).stop, .bool (stopP js ss p pos).ended]) ∧ Below w.heap.size w w' := by
  obtain ⟨ls, hls⟩ : ∃ ls, lastS p = ls := ⟨_, rfl⟩
  rw [hls] at hv
  have HLA : Hid (∀ u : World, Below w.heap.size w u → Calls Tryz.prog 110 #[pathV d p] u fun e w' => e = .returned (endV ls) ∧ Below u.heap.size u w') := fun u hu => by
    rw [← hls]
    exact last_any d p u (h.out.below hu) h0
  have HRD : Hid (∀ u : World, Below w.heap.size w u → Calls Tryz.prog 108 #[pathV d p] u fun e w' => e = .returned (.bool (roundB p)) ∧ Below u.heap.size u w') := fun u hu => isRound_any d p u (h.out.below hu) h0
  obtain ⟨nx, hnx⟩ : ∃ nx, nextB ss ls.piece ls.side pos ss.length = nx := ⟨_, rfl⟩
  have HNS : Hid (∀ u : World, Below w.heap.size w u → Calls Tryz.prog 124 #[.pointer (some ⟨K, 0, none⟩), endV ls, .int .i64 pos] u fun e w' => e = .returned (.int .i64 nx) ∧ Below u.heap.size u w') := fun u hu => by
    obtain ⟨q, hq, h1, h2⟩ := hv.out
    rw [← hnx]
    exact nextSignal_any K pa ja sa pc jc sc ps js ss ls.piece ls.side pos u (hT.out.net.below hu) h2 R.out.speeds hp0 hp1
  obtain ⟨es, hes⟩ : ∃ es, aheadE ls = es := ⟨_, rfl⟩
  have HVE : Hid (ValidE ps es) := by unfold Hid; rw [← hes]; exact aheadE_valid hv.out
  obtain ⟨kd, hkd⟩ : ∃ kd, kindE js (spotE js es).1 = kd := ⟨_, rfl⟩
  have HX : Hid (stopP js ss p pos = if 0 ≤ nx then { p with stop := nx, ended := true } else if kd = 1 ∧ roundB p = false then { p with stop := -1, ended := true } else { p with stop := 0, ended := false }) := by
    unfold Hid stopP
    rw [hls, hnx, hes, hkd]
  have c3 := hT.out.c3
  have hK := cellLt c3
  dsimp only at hK
  have HLK : Hid (∀ u : World, Below w.heap.size w u → (Instr.lookup 121 (.map (some M)) (endV es) false).run Tryz.prog u = .ok (spotV (spotE js es).1 (spotE js es).2 kd) u) := fun u hu => by
    rw [← hkd]
    exact (hT.out.below hu).lookup R.out HVE.out
  generalize (spotE js es).1 = j at HLK
  generalize (spotE js es).2 = k at HLK
  obtain ⟨sp, sw⟩ := ls
  have HAH : Hid (∀ u : World, Calls Tryz.prog 89 #[.agg #[.int .i64 sp, .int .i64 sw]] u fun e w' => e = .returned (endV es) ∧ Below u.heap.size u w') := fun u => by
    have hh := ahead_any sp sw u
    rw [hes] at hh
    exact hh
  generalize hRB : roundB p = rb at HRD HX
  unfold endV at HLA HNS
  dsimp only at HLA HNS
  clear hls hnx hes hkd hRB HVE hv h
  unfold pathV at HLA HRD ⊢
  go_enter Tryz.func107, Tryz.ntmps107
  go_upto_region 1 with fail
  generalize hW : World.alloc w _ = W
  have hbW : Below w.heap.size w W := by rw [← hW]; exact (by repeat (first | exact Below.refl _ _ | assumption | refine Below.drew ?_ | refine bdrewN ?_ _ | refine Below.setCell ?_ (by first | omega | (simp; done) | (simp; omega)) _ | refine Below.alloc ?_ (by first | omega | (simp; done) | (simp; omega)) _))
  have x0 : W.cell? ⟨w.heap.size, 0, none⟩ = some (.int .i64 p.start) := by rw [← hW]; simp [go_sem]
  have x1 : W.cell? ⟨w.heap.size, 1, none⟩ = some (.int .i64 p.stop) := by rw [← hW]; simp [go_sem]
  have x2 : W.cell? ⟨w.heap.size, 2, none⟩ = some (.bool p.ended) := by rw [← hW]; simp [go_sem]
  have x3 : W.cell? ⟨w.heap.size, 3, none⟩ = some (.slice d.a0 p.steps.length d.c0) := by rw [← hW]; simp [go_sem]
  have x4 : W.cell? ⟨w.heap.size, 4, none⟩ = some (.slice d.a1 p.lies.length d.c1) := by rw [← hW]; simp [go_sem]
  have x5 : W.cell? ⟨w.heap.size, 5, none⟩ = some (.slice d.a2 p.crosses.length d.c2) := by rw [← hW]; simp [go_sem]
  have hzW : w.heap.size < W.heap.size := by rw [← hW]; simp
  have HLW := hidP (HLA.out W hbW)
  clear hW HLA
  go_upto_region 2 with (go_at_call 110; refine HLW.out.mono ?_; rintro e w2 ⟨rfl, hb2⟩)
  generalize hV : World.alloc w2 _ = V
  have hbV : Below W.heap.size W V := by rw [← hV]; exact hb2.trans (((Below.refl _ _).alloc (Nat.le_refl _) _).mono hb2.size)
  have z0 : V.cell? ⟨w2.heap.size, 0, none⟩ = some (.int .i64 sp) := by rw [← hV]; simp [go_sem]
  have z1 : V.cell? ⟨w2.heap.size, 1, none⟩ = some (.int .i64 sw) := by rw [← hV]; simp [go_sem]
  have hzz := cellLt z0
  dsimp only at hzz
  replace x0 := cell_later hbV x0
  replace x1 := cell_later hbV x1
  replace x2 := cell_later hbV x2
  replace x3 := cell_later hbV x3
  replace x4 := cell_later hbV x4
  replace x5 := cell_later hbV x5
  replace hbV := hbW.trans (hbV.mono hbW.size)
  have HNV := hidP (HNS.out V hbV)
  generalize w2.heap.size = St at z0 z1 hzz ⊢
  clear hV HNS hb2 hbW HLW w2
  go_upto_region 3 with (go_at_call 124; refine HNV.out.mono ?_; rintro e w3 ⟨rfl, hb3⟩)
  replace z0 := cell_later hb3 z0
  replace z1 := cell_later hb3 z1
  replace x0 := cell_later hb3 x0
  replace x1 := cell_later hb3 x1
  replace x2 := cell_later hb3 x2
  replace x3 := cell_later hb3 x3
  replace x4 := cell_later hb3 x4
  replace x5 := cell_later hb3 x5
  replace hb3 := hbV.trans (hb3.mono hbV.size)
  have y3 := cell_later hb3 c3
  have hzz3 := cellLt z0
  have hzx := cellLt x0
  dsimp only at hzz3 hzx
  have HB3 := hidP hb3
  clear hbV HNV hzz hzW V W
  by_cases hn0 : 0 ≤ nx
  · have HE : Hid (stopP js ss p pos = { p with stop := nx, ended := true }) := by unfold Hid; rw [HX.out, if_pos hn0]
    clear HX
    go_wp2_with fail
    exact bodyPost_ret (v := .tuple #[.int .i64 nx, .bool true]) (by simp [results, Tryz.results107, go_sem]) rfl ⟨by rw [HE.out], HB3.out⟩
  · have HE : Hid (stopP js ss p pos = if kd = 1 ∧ rb = false then { p with stop := -1, ended := true } else { p with stop := 0, ended := false }) := by unfold Hid; rw [HX.out, if_neg hn0]
    clear HX
    go_upto_region 5 with fail
    have hS : ∀ u : World, Below w3.heap.size w3 u → Below w.heap.size w u := fun u hu => HB3.out.trans (hu.mono HB3.out.size)
    obtain ⟨S, hSS⟩ : ∃ S : World → Prop, ∀ u, S u ↔ Below w3.heap.size w3 u := ⟨_, fun _ => Iff.rfl⟩
    have HS0 := hidP hSS
    have r0 : ∀ u : Held S, World.cell? u.val ⟨St, 0, none⟩ = some (.int .i64 sp) := fun u => cell_later ((hSS u.val).1 u.2) z0
    have r1 : ∀ u : Held S, World.cell? u.val ⟨St, 1, none⟩ = some (.int .i64 sw) := fun u => cell_later ((hSS u.val).1 u.2) z1
    have r3 : ∀ u : Held S, World.cell? u.val ⟨K, 3, none⟩ = some (.map (some M)) := fun u => cell_later ((hSS u.val).1 u.2) y3
    have r4 : ∀ u : Held S, (Instr.lookup 121 (.map (some M)) (endV es) false).run Tryz.prog u.val = .ok (.agg #[.int .i64 (j : Int), .int .i64 (k : Int), .iface (kindT kd) (.agg #[])]) u.val := fun u => HLK.out u.val (hS _ ((hSS u.val).1 u.2))
    have r5 : ∀ u : Held S, (Instr.typeAssert (.iface (kindT kd) (.agg #[])) 125 157 true).run Tryz.prog u.val = .ok (.tuple #[.agg #[], .bool (decide (kd = 1))]) u.val := fun u => isB u.val _ kd
    have hS1 : S w3.drew := (hSS _).2 ((Below.refl _ _).drew)
    have hne := held_ne hS1
    generalize hkb : decide (kd = 1) = kb at r5
    have HKB := hidP hkb
    clear hkb
    have r6 : ∀ u : Held S, (Instr.field 129 (.agg #[.int .i64 (j : Int), .int .i64 (k : Int), .iface (kindT kd) (.agg #[])]) 2).run Tryz.prog u.val = .ok (.iface (kindT kd) (.agg #[])) u.val := fun u => field_spot2 _ _ _ u.val
    generalize kindT kd = kt at r4 r5 r6
    clear hSS hS
    go_cut [11] (fun v wx => v = .bool kb ∧ Below w3.heap.size w3 wx)
    case first =>
      refine wp_region_tree (fun w' => ∃ u : Held S, w' = u.val) 14 (by kernel_rfl) (by kernel_rfl) (held_some hS1) ?_
      (refine wpT_see 0 (by rfl) (by kernel_rfl) (by kernel_rfl) ?_; intro K hK; go_big_quiet_op; go_big_quiet_on); (refine wpT_see 1 (by rfl) (by kernel_rfl) (by kernel_rfl) ?_; intro K hK; go_big_quiet_op; go_big_quiet_on); (refine wpT_see 2 (by rfl) (by kernel_rfl) (by kernel_rfl) ?_; intro K hK; go_big_quiet_op; go_big_quiet_on); (refine wpT_see 3 (by rfl) (by kernel_rfl) (by kernel_rfl) ?_; intro K hK; go_big_quiet_op; go_big_quiet_on); (refine wpT_see 4 (by rfl) (by kernel_rfl) (by kernel_rfl) ?_; intro K hK; go_big_quiet_op; go_big_quiet_on)
      refine wpT_loud2 5 12 (by rfl) (by rfl) (by kernel_rfl) (by kernel_rfl) (by kernel_rfl) ?_ ?_
      · intro K hK
        go_wp2_with (go_at_call 89; refine (HAH.out _).mono ?_; rintro e w4 ⟨rfl, hb4'⟩)
        have hb4 : Below w3.heap.size w3 w4 := (Below.refl _ _).drew.trans hb4'
        clear hb4'
        refine hK _ _ (held_some ((HS0.out _).2 hb4)) ?_
        clear hK K
        (refine wpT_see 6 (by rfl) (by kernel_rfl) (by kernel_rfl) ?_; intro K hK; go_big_quiet_op; go_big_quiet_on); (refine wpT_see 7 (by rfl) (by kernel_rfl) (by kernel_rfl) ?_; intro K hK; go_big_quiet_op; go_big_quiet_on); (refine wpT_see 8 (by rfl) (by kernel_rfl) (by kernel_rfl) ?_; intro K hK; go_big_quiet_op; go_big_quiet_on); (refine wpT_see 9 (by rfl) (by kernel_rfl) (by kernel_rfl) ?_; intro K hK; go_big_quiet_op; go_big_quiet_on); (refine wpT_see 10 (by rfl) (by kernel_rfl) (by kernel_rfl) ?_; intro K hK; go_big_quiet_op; go_big_quiet_on); (refine wpT_see 11 (by rfl) (by kernel_rfl) (by kernel_rfl) ?_; intro K hK; go_big_quiet_op; go_big_quiet_on)
        refine wpT_loud 12 (by rfl) (by kernel_rfl) (by kernel_rfl) ?_
        intro K hK
        go_wp2_with fail
        have hb5 : Below w3.heap.size w3 (w4.alloc (Obj.cells #[] 157)) := hb4.trans (((Below.refl _ _).alloc (Nat.le_refl _) _).mono hb4.size)
        refine hK _ _ (held_some ((HS0.out _).2 hb5)) ?_
        clear hK K
        refine wpT_loud 13 (by rfl) (by kernel_rfl) (by kernel_rfl) ?_
        intro K hK
        go_wp2_with fail
        refine hK _ _ (held_some ((HS0.out _).2 hb5)) ?_
        clear hK K
        refine wpT_done (by kernel_rfl) ?_
        clear r0 r1 r3 r4 r5 r6 hS1 hne
        go_wp2_with fail
        go_meet
        exact ⟨rfl, hb5⟩
      · intro K hK
        go_wp2_with fail
        have hb3 : Below w3.heap.size w3 (w3.alloc (Obj.cells #[] 157)).drew := ((Below.refl _ _).alloc (Nat.le_refl _) _).drew
        refine hK _ _ (held_some ((HS0.out _).2 hb3)) ?_
        clear hK K
        refine wpT_loud 5 (by rfl) (by kernel_rfl) (by kernel_rfl) ?_
        intro K hK
        go_wp2_with (go_at_call 89; refine (HAH.out _).mono ?_; rintro e w4 ⟨rfl, hb4'⟩)
        have hb4 : Below w3.heap.size w3 w4 := hb3.trans (hb4'.mono hb3.size)
        clear hb4'
        refine hK _ _ (held_some ((HS0.out _).2 hb4)) ?_
        clear hK K
        (refine wpT_see 6 (by rfl) (by kernel_rfl) (by kernel_rfl) ?_; intro K hK; go_big_quiet_op; go_big_quiet_on); (refine wpT_see 7 (by rfl) (by kernel_rfl) (by kernel_rfl) ?_; intro K hK; go_big_quiet_op; go_big_quiet_on); (refine wpT_see 8 (by rfl) (by kernel_rfl) (by kernel_rfl) ?_; intro K hK; go_big_quiet_op; go_big_quiet_on); (refine wpT_see 9 (by rfl) (by kernel_rfl) (by kernel_rfl) ?_; intro K hK; go_big_quiet_op; go_big_quiet_on); (refine wpT_see 10 (by rfl) (by kernel_rfl) (by kernel_rfl) ?_; intro K hK; go_big_quiet_op; go_big_quiet_on); (refine wpT_see 11 (by rfl) (by kernel_rfl) (by kernel_rfl) ?_; intro K hK; go_big_quiet_op; go_big_quiet_on)
        refine wpT_loud 13 (by rfl) (by kernel_rfl) (by kernel_rfl) ?_
        intro K hK
        go_wp2_with fail
        refine hK _ _ (held_some ((HS0.out _).2 hb4)) ?_
        clear hK K
        refine wpT_done (by kernel_rfl) ?_
        clear r0 r1 r3 r4 r5 r6 hS1 hne
        go_wp2_with fail
        go_meet
        exact ⟨rfl, hb4⟩
    case rest =>
      obtain ⟨rfl, hbc⟩ := hcut
      replace x0 := cell_later hbc x0
      replace x1 := cell_later hbc x1
      replace x2 := cell_later hbc x2
      replace x3 := cell_later hbc x3
      replace x4 := cell_later hbc x4
      replace x5 := cell_later hbc x5
      have HBC := hidP (HB3.out.trans (hbc.mono HB3.out.size))
      have hzc := cellLt x0
      dsimp only at hzc
      have HRC := hidP (HRD.out wc HBC.out)
      clear r0 r1 r3 r4 r5 r6 hS1 hne hbc HB3 HRD z0 z1 y3 HS0
      cases kb with
      | false =>
        have HE2 : Hid (stopP js ss p pos = { p with stop := 0, ended := false }) := by unfold Hid; rw [HE.out, if_neg (fun h => by have := of_decide_eq_false HKB.out; exact this h.1)]
        clear HE
        go_wp2_with fail
        exact bodyPost_ret (v := .tuple #[.int .i64 0, .bool false]) (by simp [results, Tryz.results107, go_sem]) rfl ⟨by rw [HE2.out], HBC.out⟩
      | true =>
        cases rb with
        | true =>
          have HE2 : Hid (stopP js ss p pos = { p with stop := 0, ended := false }) := by unfold Hid; rw [HE.out, if_neg (fun h => by cases h.2)]
          clear HE
          go_wp2_with (go_at_call 108; refine HRC.out.mono ?_; rintro e w5 ⟨rfl, hb5⟩)
          exact bodyPost_ret (v := .tuple #[.int .i64 0, .bool false]) (by simp [results, Tryz.results107, go_sem]) rfl ⟨by rw [HE2.out], HBC.out.trans (hb5.mono HBC.out.size)⟩
        | false =>
          have HE2 : Hid (stopP js ss p pos = { p with stop := -1, ended := true }) := by unfold Hid; rw [HE.out, if_pos ⟨of_decide_eq_true HKB.out, rfl⟩]
          clear HE
          go_wp2_with (go_at_call 108; refine HRC.out.mono ?_; rintro e w5 ⟨rfl, hb5⟩)
          exact bodyPost_ret (v := .tuple #[.int .i64 (-1), .bool true]) (by simp [results, Tryz.results107, go_sem]) rfl ⟨by rw [HE2.out], HBC.out.trans (hb5.mono HBC.out.size)⟩

end Go.Proofs.YtmkdgnmmebldgaaGreat

namespace Go.Proofs.YtmkdgnmmebldgaaGreat
open Go.RowKit Go.Deep

/-- What stands between two looks: as in a look, but for what was seen. -/
structure LD (w0 w : World) (B F Q : Nat) (pa ja sa la : Option Addr) (pc jc sc lc : Nat) (np nj ns : Nat) (lies : List MLie) (xf : Option Addr) (yf : Nat) (fl : List MFlank) : Prop where
  base : Below w0.heap.size w0 w
  bz : B ≤ w.heap.size
  c0 : w.cell? ⟨F, 0, none⟩ = some (.slice pa np pc)
  c1 : w.cell? ⟨F, 1, none⟩ = some (.slice ja nj jc)
  c2 : w.cell? ⟨F, 2, none⟩ = some (.slice sa ns sc)
  q3 : w.cell? ⟨Q, 3, none⟩ = some (.slice la lies.length lc)
  L : EndsAt w la lies
  s6 : ∃ v, w.cell? ⟨F, 6, none⟩ = some v
  z6 : w.frozen? ⟨F, 6, none⟩ = false
  f7 : w.cell? ⟨Q, 7, none⟩ = some (.slice xf fl.length yf)
  z7 : w.frozen? ⟨Q, 7, none⟩ = false
  oF : w.ownsRow B 146 4 (.slice xf fl.length yf) fl.length (flatF fl)

section
variable {w0 w w' : World} {B F Q : Nat} {pa ja sa la : Option Addr} {pc jc sc lc np nj ns : Nat} {ps : List MPiece} {js : List MJoint} {ss : List MPiece} {lies : List MLie} {xf : Option Addr} {yf : Nat} {fl : List MFlank}

theorem LD.below (h : LD w0 w B F Q pa ja sa la pc jc sc lc np nj ns lies xf yf fl) (hb : Below w.heap.size w w') : LD w0 w' B F Q pa ja sa la pc jc sc lc np nj ns lies xf yf fl := by
  obtain ⟨v, hv⟩ := h.s6
  exact ⟨h.base.trans (hb.mono h.base.size), Nat.le_trans h.bz hb.size, cell_later hb h.c0, cell_later hb h.c1, cell_later hb h.c2, cell_later hb h.q3, h.L.below hb, ⟨v, cell_later hb hv⟩, (hb.frozen (p := ⟨F, 6, none⟩) (cellLt hv)).trans h.z6, cell_later hb h.f7, (hb.frozen (p := ⟨Q, 7, none⟩) (cellLt h.f7)).trans h.z7, owns_below h.oF hb⟩
theorem LK.forget {xs : Option Addr} {ys : Nat} {st : List MEnd × List MFlank} (h : LK w0 w B F Q pa ja sa la pc jc sc lc np nj ns lies xs ys xf yf st) : LD w0 w B F Q pa ja sa la pc jc sc lc np nj ns lies xf yf st.2 :=
  ⟨h.base, h.bz, h.c0, h.c1, h.c2, h.q3, h.L, ⟨_, h.s6⟩, h.z6, h.f7, h.z7, h.oF⟩
/-- 'f.seen = nil'. -/
theorem LD.reset (b0 : LB w0 B F Q pa ja sa la ps js ss lies) (h : LD w0 w B F Q pa ja sa la pc jc sc lc np nj ns lies xf yf fl) : LK w0 (w.setCell ⟨F, 6, none⟩ (.slice none 0 0)) B F Q pa ja sa la pc jc sc lc np nj ns lies none 0 xf yf ([], fl) := by
  obtain ⟨v, hv⟩ := h.s6
  have cF : ∀ {o : Nat} {u : Value}, o ≠ 6 → w.cell? ⟨F, o, none⟩ = some u → (w.setCell ⟨F, 6, none⟩ (.slice none 0 0)).cell? ⟨F, o, none⟩ = some u := fun ho hc => by
    rw [World.cell?_setCell_other _ _ _ _ (by first | (simp; done) | (simp; omega))]
    exact hc
  have cQ : ∀ {o : Nat} {u : Value}, w.cell? ⟨Q, o, none⟩ = some u → (w.setCell ⟨F, 6, none⟩ (.slice none 0 0)).cell? ⟨Q, o, none⟩ = some u := fun hc => by
    rw [World.cell?_setCell_other _ _ _ _ (by have := b0.fq; first | (simp; done) | (simp; omega) | (simp_all; done) | (simp_all; omega))]
    exact hc
  refine ⟨h.base.setCell (p := ⟨F, 6, none⟩) b0.f0 _, by simpa using h.bz, cF (by omega) h.c0, cF (by omega) h.c1, cF (by omega) h.c2, cQ h.q3, ?_, World.cell?_setCell_same _ _ _ hv, ?_, cQ h.f7, ?_, World.ownsRow_nil _ _ _ _, ownsRow_setCell_below h.oF b0.f1 _⟩
  · refine h.L.kept ?_
    rcases b0.la with hl | hl
    · exact Or.inl hl
    · refine Or.inr (fun b off e => ?_)
      rw [Below.heap_setCell _ _ _ _ (hl b off e).2.1]
  · rw [World.frozen?_setCell]; exact h.z6
  · rw [World.frozen?_setCell]; exact h.z7
end

/-- What 'done' may turn of the blocks that are there: the finder's and the route's own, a cell of each. -/
structure Between (F Q : Nat) (w w' : World) : Prop where
  only : Only (fun k => k = F ∨ k = Q) w w'
  kF : KeptBut F 6 w w'
  kQ : KeptBut Q 7 w w'
  f : F < w.heap.size
  q : Q < w.heap.size
theorem Between.refl {F Q : Nat} {w : World} (f : F < w.heap.size) (q : Q < w.heap.size) : Between F Q w w := ⟨Only.refl _ _, KeptBut.of_block rfl, KeptBut.of_block rfl, f, q⟩
theorem Between.later {F Q : Nat} {a b c : World} (h : Between F Q a b) (k : Below b.heap.size b c) : Between F Q a c :=
  ⟨h.only.trans (Only.of_below k), h.kF.trans (KeptBut.of_block (k.block F (Nat.lt_of_lt_of_le h.f h.only.size))), h.kQ.trans (KeptBut.of_block (k.block Q (Nat.lt_of_lt_of_le h.q h.only.size))), h.f, h.q⟩
theorem Between.set {F Q : Nat} {a b : World} (h : Between F Q a b) (hfq : F ≠ Q) (v : Value) : Between F Q a (b.setCell ⟨F, 6, none⟩ v) :=
  ⟨h.only.setCell (p := ⟨F, 6, none⟩) (Or.inl (Or.inl rfl)) v, h.kF.trans (fun o ho => ⟨World.cell?_setCell_other _ _ _ _ (by first | (simp; done) | (simp; omega)), World.frozen?_setCell _ _ _ _⟩), h.kQ.trans (KeptBut.of_block (Below.heap_setCell _ _ _ _ (fun e => hfq (by simpa using e.symm)))), h.f, h.q⟩
theorem Between.turn {F Q : Nat} {vs vf : Value} {a b c : World} (h : Between F Q a b) (k : Turn F Q vs vf b c) (h1 : ∀ x, vs.ownBlock = some x → a.heap.size ≤ x) (h2 : ∀ x, vf.ownBlock = some x → a.heap.size ≤ x) : Between F Q a c :=
  ⟨⟨k.only.os.trans h.only.os, k.only.tape.trans h.only.tape, k.only.output.trans h.only.output, Nat.le_trans h.only.size k.size, fun x hx hn => (k.only.block x (Nat.lt_of_lt_of_le hx h.only.size) (fun hs => by
    rcases hs with hs | hs | hs | hs
    · exact hn (Or.inl hs)
    · exact hn (Or.inr hs)
    · have := h1 x hs; omega
    · have := h2 x hs; omega)).trans (h.only.block x hx hn)⟩, h.kF.trans k.kF, h.kQ.trans k.kQ, h.f, h.q⟩

end Go.Proofs.YtmkdgnmmebldgaaGreat
