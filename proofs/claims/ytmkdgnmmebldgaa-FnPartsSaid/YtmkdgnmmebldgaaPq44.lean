import Derived.Test.YtmkdgnmmebldgaaPq43
namespace Go.Proofs.Ytmkdgnmmebldgaa
open Go.RowKit Go.Deep Go.Maps
structure PathOk (ps : List MPiece) (js : List MJoint) (ss : List MPiece) (p : MPath) : Prop where
  s0 : 0 < p.steps.length
  s1 : p.steps.length ≤ 202
  sv : ∀ s ∈ p.steps, ValidS ps s
  start : ∃ i : Nat, i < ss.length ∧ p.start = i
  stop : p.stop = -1 ∨ ∃ i : Nat, i < ss.length ∧ p.stop = i
  lv : ∀ l ∈ p.lies, ∃ (j : Nat) (hj : j < js.length), l.piece = j ∧ js[j].kind = 3 ∧ (l.side = 1 ∨ l.side = 2)
  ll : p.lies.length ≤ 120
  cl : p.crosses.length ≤ 202
theorem RClaims.only {B : Nat} {w w' : World} {d : RAddr} {r : MRoute} (h : RClaims B w d r) {K : Nat → Prop} (hO : Only K w w') (hK : ∀ k, K k → k < B) : RClaims B w' d r :=
  ⟨owns_only h.steps hO hK, owns_only h.lies hO hK, owns_only h.crosses hO hK, owns_only h.parts hO hK, owns_only h.over hO hK, owns_only h.flanks hO hK, h.dis⟩
theorem RClaims.mono {B B' : Nat} {w : World} {d : RAddr} {r : MRoute} (h : RClaims B w d r) (hB : B' ≤ B) : RClaims B' w d r :=
  ⟨owns_mono h.steps hB, owns_mono h.lies hB, owns_mono h.crosses hB, owns_mono h.parts hB, owns_mono h.over hB, owns_mono h.flanks hB, h.dis⟩
def RoutePost (ps : List MPiece) (js : List MJoint) (ss : List MPiece) (over : Int) (p : MPath) (w : World) (e : Ending) (w' : World) : Prop :=
  ∃ d', e = .returned (routeV d' (routeF ps js ss over p)) ∧ RClaims w.heap.size w' d' (routeF ps js ss over p) ∧ Below w.heap.size w w'
set_option maxRecDepth 100000 in
set_option maxHeartbeats 8000000 in
theorem routeOf_any (KT M : Nat) (pa ja sa : Option Addr) (pc jc sc : Nat) (ps : List MPiece) (js : List MJoint) (ss : List MPiece) (R : Hid (Right ps js ss)) (d : PAddr) (p : MPath) (hp : Hid (PathOk ps js ss p)) (over : Int) (ho0 : 0 ≤ over) (ho1 : over ≤ 100000) (w : World) (hT : Hid (TTrack w KT M pa ja sa pc jc sc ps js ss)) (h : Hid (PListsAt w d p)) :
    Calls Try.prog 53 #[.pointer (some ⟨KT, 0, none⟩), pathV d p, .int .i64 over] w (RoutePost ps js ss over p w) := by
  have hs1 := hp.out.s1
  have hl1 := hp.out.ll
  have hc1 := hp.out.cl
  have HPA : Hid (∀ u : World, Below w.heap.size w u → Calls Try.prog 124 #[.pointer (some ⟨KT, 0, none⟩), .agg #[.int .i64 p.start, .int .i64 p.stop, .bool p.ended, .slice d.a0 p.steps.length d.c0, .slice d.a1 p.lies.length d.c1, .slice d.a2 p.crosses.length d.c2]] u fun e w' => ∃ x y, e = .returned (.slice x (partsF ps ss p).length y) ∧ w'.ownsRow u.heap.size 44 3 (.slice x (partsF ps ss p).length y) (partsF ps ss p).length (flatP (partsF ps ss p)) ∧ Below u.heap.size u w') := fun u hu =>
    partsOf_any KT pa ja sa pc jc sc ps js ss d p u (hT.out.below hu).net (h.out.below hu) hp.out.s0 (by omega) hp.out.sv hp.out.start hp.out.stop
  have HOV : Hid (∀ u : World, Below w.heap.size w u → Calls Try.prog 125 #[.pointer (some ⟨KT, 0, none⟩), .int .i64 p.stop, .int .i64 over] u fun e w' => ∃ x y, e = .returned (.slice x (overF ps js ss p.stop over).length y) ∧ w'.ownsRow u.heap.size 44 3 (.slice x (overF ps js ss p.stop over).length y) (overF ps js ss p.stop over).length (flatP (overF ps js ss p.stop over)) ∧ Below u.heap.size u w') := fun u hu =>
    overOf_all KT M pa ja sa pc jc sc ps js ss R p.stop hp.out.stop over ho0 ho1 u (hT.out.below hu)
  have HFL : Hid (∀ u : World, Below w.heap.size w u → Calls Try.prog 126 #[.pointer (some ⟨KT, 0, none⟩), .slice d.a1 p.lies.length d.c1] u fun e w' => ∃ x y, e = .returned (.slice x (flanksF ps js ss p.lies p.lies).length y) ∧ w'.ownsRow u.heap.size 57 4 (.slice x (flanksF ps js ss p.lies p.lies).length y) (flanksF ps js ss p.lies p.lies).length (flatF (flanksF ps js ss p.lies p.lies)) ∧ Below u.heap.size u w') := fun u hu =>
    flanksOf_any KT M pa ja sa pc jc sc ps js ss p.lies R d.a1 d.c1 u (hT.out.below hu) (h.out.lies.below hu) hp.out.lv hl1
  have HRF : Hid (routeF ps js ss over p = ⟨p.start, p.stop, p.steps, p.lies, p.crosses, partsF ps ss p, overF ps js ss p.stop over, flanksF ps js ss p.lies p.lies⟩) := rfl
  generalize partsF ps ss p = PA at HPA HRF
  generalize overF ps js ss p.stop over = OV at HOV HRF
  generalize flanksF ps js ss p.lies p.lies = FL at HFL HRF
  unfold pathV
  go_enter Try.func53, Try.ntmps53
  go_upto_region 1 with fail
  generalize hW : World.alloc (World.alloc w _) _ = W
  have hbW : Below w.heap.size w W := by rw [← hW]; exact blo
  have x0 : W.cell? ⟨w.heap.size, 0, none⟩ = some (.int .i64 p.start) := by rw [← hW]; simp [go_sem]
  have x1 : W.cell? ⟨w.heap.size, 1, none⟩ = some (.int .i64 p.stop) := by rw [← hW]; simp [go_sem]
  have x2 : W.cell? ⟨w.heap.size, 2, none⟩ = some (.bool p.ended) := by rw [← hW]; simp [go_sem]
  have x3 : W.cell? ⟨w.heap.size, 3, none⟩ = some (.slice d.a0 p.steps.length d.c0) := by rw [← hW]; simp [go_sem]
  have x4 : W.cell? ⟨w.heap.size, 4, none⟩ = some (.slice d.a1 p.lies.length d.c1) := by rw [← hW]; simp [go_sem]
  have x5 : W.cell? ⟨w.heap.size, 5, none⟩ = some (.slice d.a2 p.crosses.length d.c2) := by rw [← hW]; simp [go_sem]
  have hzW : W.heap.size = w.heap.size + 1 + 1 := by rw [← hW]; simp
  have HRR : Hid (∃ f, W.rowIs (w.heap.size + 1) 42 8 f) := by
    unfold Hid
    rw [← hW]
    have q := row_of_alloc2 (w.alloc (Obj.cells #[Value.int .i64 p.start, .int .i64 p.stop, .bool p.ended, .slice d.a0 p.steps.length d.c0, .slice d.a1 p.lies.length d.c1, .slice d.a2 p.crosses.length d.c2] 129)) #[.int .i64 0, .int .i64 0, .slice none 0 0, .slice none 0 0, .slice none 0 0, .slice none 0 0, .slice none 0 0, .slice none 0 0] 42
    have e : (w.alloc (Obj.cells #[Value.int .i64 p.start, .int .i64 p.stop, .bool p.ended, .slice d.a0 p.steps.length d.c0, .slice d.a1 p.lies.length d.c1, .slice d.a2 p.crosses.length d.c2] 129)).heap.size = w.heap.size + 1 := by simp
    rw [e] at q
    exact ⟨_, q⟩
  have HBW := hidP hbW
  have HZW := hidP hzW
  have hzx : w.heap.size < W.heap.size := by omega
  obtain ⟨S, hS⟩ : ∃ S : World → Prop, ∀ u, S u ↔ Below W.heap.size W u := ⟨_, fun _ => Iff.rfl⟩
  have HS0 := hidP hS
  have r0 : ∀ u : Held S, World.cell? u.val ⟨w.heap.size, 0, none⟩ = some (.int .i64 p.start) := fun u => cell_later ((hS u.val).1 u.2) x0
  have r1 : ∀ u : Held S, World.cell? u.val ⟨w.heap.size, 1, none⟩ = some (.int .i64 p.stop) := fun u => cell_later ((hS u.val).1 u.2) x1
  have r2 : ∀ u : Held S, World.cell? u.val ⟨w.heap.size, 2, none⟩ = some (.bool p.ended) := fun u => cell_later ((hS u.val).1 u.2) x2
  have r3 : ∀ u : Held S, World.cell? u.val ⟨w.heap.size, 3, none⟩ = some (.slice d.a0 p.steps.length d.c0) := fun u => cell_later ((hS u.val).1 u.2) x3
  have r4 : ∀ u : Held S, World.cell? u.val ⟨w.heap.size, 4, none⟩ = some (.slice d.a1 p.lies.length d.c1) := fun u => cell_later ((hS u.val).1 u.2) x4
  have r5 : ∀ u : Held S, World.cell? u.val ⟨w.heap.size, 5, none⟩ = some (.slice d.a2 p.crosses.length d.c2) := fun u => cell_later ((hS u.val).1 u.2) x5
  have hS1 : S W.drew := (hS _).2 ((Below.refl _ _).drew)
  have hne := held_ne hS1
  clear hS hW hbW hzW x0 x1 x2 x3 x4 x5
  refine wp_region_tree (fun w' => ∃ u : Held S, w' = u.val) 25 (by kernel_rfl) (by kernel_rfl) (held_some hS1) ?_
  (refine wpT_see 0 (by rfl) (by kernel_rfl) (by kernel_rfl) ?_; intro K hK; go_big_quiet_op; go_big_quiet_on); (refine wpT_see 1 (by rfl) (by kernel_rfl) (by kernel_rfl) ?_; intro K hK; go_big_quiet_op; go_big_quiet_on); (refine wpT_see 2 (by rfl) (by kernel_rfl) (by kernel_rfl) ?_; intro K hK; go_big_quiet_op; go_big_quiet_on); (refine wpT_see 3 (by rfl) (by kernel_rfl) (by kernel_rfl) ?_; intro K hK; go_big_quiet_op; go_big_quiet_on); (refine wpT_see 4 (by rfl) (by kernel_rfl) (by kernel_rfl) ?_; intro K hK; go_big_quiet_op; go_big_quiet_on); (refine wpT_see 5 (by rfl) (by kernel_rfl) (by kernel_rfl) ?_; intro K hK; go_big_quiet_op; go_big_quiet_on)
  (refine wpT_see 7 (by rfl) (by kernel_rfl) (by kernel_rfl) ?_; intro K hK; go_big_quiet_op; go_big_quiet_on); (refine wpT_see 8 (by rfl) (by kernel_rfl) (by kernel_rfl) ?_; intro K hK; go_big_quiet_op; go_big_quiet_on)
  (refine wpT_see 10 (by rfl) (by kernel_rfl) (by kernel_rfl) ?_; intro K hK; go_big_quiet_op; go_big_quiet_on); (refine wpT_see 11 (by rfl) (by kernel_rfl) (by kernel_rfl) ?_; intro K hK; go_big_quiet_op; go_big_quiet_on)
  (refine wpT_see 13 (by rfl) (by kernel_rfl) (by kernel_rfl) ?_; intro K hK; go_big_quiet_op; go_big_quiet_on); (refine wpT_see 14 (by rfl) (by kernel_rfl) (by kernel_rfl) ?_; intro K hK; go_big_quiet_op; go_big_quiet_on)
  (refine wpT_see 16 (by rfl) (by kernel_rfl) (by kernel_rfl) ?_; intro K hK; go_big_quiet_op; go_big_quiet_on); (refine wpT_see 17 (by rfl) (by kernel_rfl) (by kernel_rfl) ?_; intro K hK; go_big_quiet_op; go_big_quiet_on); (refine wpT_see 18 (by rfl) (by kernel_rfl) (by kernel_rfl) ?_; intro K hK; go_big_quiet_op; go_big_quiet_on); (refine wpT_see 19 (by rfl) (by kernel_rfl) (by kernel_rfl) ?_; intro K hK; go_big_quiet_op; go_big_quiet_on)
  (refine wpT_see 21 (by rfl) (by kernel_rfl) (by kernel_rfl) ?_; intro K hK; go_big_quiet_op; go_big_quiet_on); (refine wpT_see 22 (by rfl) (by kernel_rfl) (by kernel_rfl) ?_; intro K hK; go_big_quiet_op; go_big_quiet_on); (refine wpT_see 23 (by rfl) (by kernel_rfl) (by kernel_rfl) ?_; intro K hK; go_big_quiet_op; go_big_quiet_on)
  clear r0 r1 r2 r3 r4 r5
  refine wpT_loud 6 (by rfl) (by kernel_rfl) (by kernel_rfl) ?_
  intro KK hK
  show wpList Try.prog _ _ [_] _ _
  refine wpList_copy0 rfl (.tmp 12) 37 rfl 51 _ 2 16 Try.underlying37 Try.infoStep rfl (by decide) d.a0 p.steps.length d.c0 (flatE p.steps) rfl h.out.nil0 (flatE_len _) (newsE ((h.out.steps.below HBW.out).below ((Below.refl _ _).drew))) (flatE_one _) h.out.steps.1 (by omega) ?_
  intro s1x s1y w1 o1 b1
  have hb1 : Below W.heap.size W w1 := (Below.refl _ _).drew.trans b1
  have O1 := hidP o1
  have B1 := hidP hb1
  clear o1 b1 hb1
  go_wp2_with fail
  refine hK _ _ (held_some ((HS0.out _).2 B1.out)) ?_
  clear hK KK
  refine wpT_loud 9 (by rfl) (by kernel_rfl) (by kernel_rfl) ?_
  intro KK hK
  show wpList Try.prog _ _ [_] _ _
  refine wpList_copy0 rfl (.tmp 15) 38 rfl 48 _ 2 16 Try.underlying38 Try.infoLie rfl (by decide) d.a1 p.lies.length d.c1 (flatE p.lies) rfl h.out.nil1 (flatE_len _) (newsE ((h.out.lies.below HBW.out).below B1.out)) (flatE_one _) h.out.lies.1 (by omega) ?_
  intro s2x s2y w2 o2 b2
  have O2 := hidP o2
  have B2 := hidP b2
  have C2 : Hid (Below W.heap.size W w2) := B1.out.trans (b2.mono B1.out.size)
  clear o2 b2
  go_wp2_with fail
  refine hK _ _ (held_some ((HS0.out _).2 C2.out)) ?_
  clear hK KK
  refine wpT_loud 12 (by rfl) (by kernel_rfl) (by kernel_rfl) ?_
  intro KK hK
  show wpList Try.prog _ _ [_] _ _
  refine wpList_copy0 rfl (.tmp 18) 34 rfl 3 _ 1 8 Try.underlying34 Try.infoInt rfl (by decide) d.a2 p.crosses.length d.c2 (flatN p.crosses) rfl h.out.nil2 (flatN_len _) (newsN ((h.out.crosses.below HBW.out).below C2.out)) (flatN_one _) h.out.crosses.1 (by omega) ?_
  intro s3x s3y w3 o3 b3
  have O3 := hidP o3
  have B3 := hidP b3
  have C3 : Hid (Below W.heap.size W w3) := C2.out.trans (b3.mono C2.out.size)
  clear o3 b3
  go_wp2_with fail
  refine hK _ _ (held_some ((HS0.out _).2 C3.out)) ?_
  clear hK KK
  refine wpT_loud 15 (by rfl) (by kernel_rfl) (by kernel_rfl) ?_
  intro KK hK
  go_wp2_with (go_at_call 124; refine (HPA.out _ (HBW.out.trans (C3.out.mono HBW.out.size))).mono ?_; rintro e w4 ⟨s4x, s4y, rfl, o4, b4⟩)
  have O4 := hidP o4
  have B4 := hidP b4
  have C4 : Hid (Below W.heap.size W w4) := C3.out.trans (b4.mono C3.out.size)
  clear o4 b4
  refine hK _ _ (held_some ((HS0.out _).2 C4.out)) ?_
  clear hK KK
  refine wpT_loud 20 (by rfl) (by kernel_rfl) (by kernel_rfl) ?_
  intro KK hK
  go_wp2_with (go_at_call 125; refine (HOV.out _ (HBW.out.trans (C4.out.mono HBW.out.size))).mono ?_; rintro e w5 ⟨s5x, s5y, rfl, o5, b5⟩)
  have O5 := hidP o5
  have B5 := hidP b5
  have C5 : Hid (Below W.heap.size W w5) := C4.out.trans (b5.mono C4.out.size)
  clear o5 b5
  refine hK _ _ (held_some ((HS0.out _).2 C5.out)) ?_
  clear hK KK
  refine wpT_loud 24 (by rfl) (by kernel_rfl) (by kernel_rfl) ?_
  intro KK hK
  go_wp2_with (go_at_call 126; refine (HFL.out _ (HBW.out.trans (C5.out.mono HBW.out.size))).mono ?_; rintro e w6 ⟨s6x, s6y, rfl, o6, b6⟩)
  have O6 := hidP o6
  have B6 := hidP b6
  have C6 : Hid (Below W.heap.size W w6) := C5.out.trans (b6.mono C5.out.size)
  clear o6 b6
  refine hK _ _ (held_some ((HS0.out _).2 C6.out)) ?_
  clear hK KK hS1 hne
  refine wpT_done (by kernel_rfl) ?_
  obtain ⟨f, hf⟩ := HRR.out
  have hr := hf.of_block (C6.out.block _ hf.lt)
  have g0 := hr.cell (i := 0) (by omega)
  have g1 := hr.cell (i := 1) (by omega)
  have g2 := hr.cell (i := 2) (by omega)
  have g3 := hr.cell (i := 3) (by omega)
  have g4 := hr.cell (i := 4) (by omega)
  have g5 := hr.cell (i := 5) (by omega)
  have g6 := hr.cell (i := 6) (by omega)
  have g7 := hr.cell (i := 7) (by omega)
  have f0 := hr.frozen 0
  have f1 := hr.frozen 1
  have f2 := hr.frozen 2
  have f3 := hr.frozen 3
  have f4 := hr.frozen 4
  have f5 := hr.frozen 5
  have f6 := hr.frozen 6
  have f7 := hr.frozen 7
  have hzr := hr.lt
  have HR := hidP hr
  clear hr hf
  go_wp2_with fail
  generalize hZ : World.setCell (World.setCell (World.setCell (World.setCell (World.setCell (World.setCell (World.setCell (World.setCell w6 _ _) _ _) _ _) _ _) _ _) _ _) _ _) _ _ = Z
  have hRZ := (((((((HR.out.set 0 (.int .i64 p.start)).set 1 (.int .i64 p.stop)).set 2 (.slice s1x p.steps.length s1y)).set 3 (.slice s2x p.lies.length s2y)).set 4 (.slice s3x p.crosses.length s3y)).set 5 (.slice s4x PA.length s4y)).set 6 (.slice s5x OV.length s5y)).set 7 (.slice s6x FL.length s6y)
  rw [hZ] at hRZ
  have hOZ : Only (fun k => k = w.heap.size + 1) w6 Z := by
    rw [← hZ]
    exact ((((((((Only.refl (fun k => k = w.heap.size + 1) w6).setCell (p := ⟨w.heap.size + 1, 0, none⟩) (Or.inl rfl) _).setCell (p := ⟨w.heap.size + 1, 1, none⟩) (Or.inl rfl) _).setCell (p := ⟨w.heap.size + 1, 2, none⟩) (Or.inl rfl) _).setCell (p := ⟨w.heap.size + 1, 3, none⟩) (Or.inl rfl) _).setCell (p := ⟨w.heap.size + 1, 4, none⟩) (Or.inl rfl) _).setCell (p := ⟨w.heap.size + 1, 5, none⟩) (Or.inl rfl) _).setCell (p := ⟨w.heap.size + 1, 6, none⟩) (Or.inl rfl) _).setCell (p := ⟨w.heap.size + 1, 7, none⟩) (Or.inl rfl) _
  clear hZ
  have z0 : Z.cell? ⟨w.heap.size + 1, 0, none⟩ = some (.int .i64 p.start) := (hRZ.cell (i := 0) (by omega)).trans (by simp)
  have z1 : Z.cell? ⟨w.heap.size + 1, 1, none⟩ = some (.int .i64 p.stop) := (hRZ.cell (i := 1) (by omega)).trans (by simp)
  have z2 : Z.cell? ⟨w.heap.size + 1, 2, none⟩ = some (.slice s1x p.steps.length s1y) := (hRZ.cell (i := 2) (by omega)).trans (by simp)
  have z3 : Z.cell? ⟨w.heap.size + 1, 3, none⟩ = some (.slice s2x p.lies.length s2y) := (hRZ.cell (i := 3) (by omega)).trans (by simp)
  have z4 : Z.cell? ⟨w.heap.size + 1, 4, none⟩ = some (.slice s3x p.crosses.length s3y) := (hRZ.cell (i := 4) (by omega)).trans (by simp)
  have z5 : Z.cell? ⟨w.heap.size + 1, 5, none⟩ = some (.slice s4x PA.length s4y) := (hRZ.cell (i := 5) (by omega)).trans (by simp)
  have z6 : Z.cell? ⟨w.heap.size + 1, 6, none⟩ = some (.slice s5x OV.length s5y) := (hRZ.cell (i := 6) (by omega)).trans (by simp)
  have z7 : Z.cell? ⟨w.heap.size + 1, 7, none⟩ = some (.slice s6x FL.length s6y) := (hRZ.cell (i := 7) (by omega)).trans (by simp)
  have hzw := HZW.out
  have hcl : RClaims W.drew.heap.size w6 ⟨s1x, s1y, s2x, s2y, s3x, s3y, s4x, s4y, s5x, s5y, s6x, s6y⟩ ⟨p.start, p.stop, p.steps, p.lies, p.crosses, PA, OV, FL⟩ := claims_of O1.out B2.out O2.out B3.out O3.out B4.out O4.out B5.out O5.out B6.out O6.out (Below.refl _ _) B1.out.size
  have hcz : RClaims W.heap.size Z ⟨s1x, s1y, s2x, s2y, s3x, s3y, s4x, s4y, s5x, s5y, s6x, s6y⟩ ⟨p.start, p.stop, p.steps, p.lies, p.crosses, PA, OV, FL⟩ := hcl.only hOZ (fun k hk => by show k < W.heap.size; omega)
  have hbw : Below w.heap.size w w6 := HBW.out.trans (C6.out.mono HBW.out.size)
  refine bodyPost_ret (v := routeV ⟨s1x, s1y, s2x, s2y, s3x, s3y, s4x, s4y, s5x, s5y, s6x, s6y⟩ ⟨p.start, p.stop, p.steps, p.lies, p.crosses, PA, OV, FL⟩) (by simp [routeV, results, Try.results53, go_sem, z0, z1, z2, z3, z4, z5, z6, z7]) rfl ?_
  unfold RoutePost
  rw [HRF.out]
  exact ⟨_, rfl, hcz.mono (by omega), hbw.trans (hOZ.below hbw.size (fun k hk e => by omega))⟩
end Go.Proofs.Ytmkdgnmmebldgaa
