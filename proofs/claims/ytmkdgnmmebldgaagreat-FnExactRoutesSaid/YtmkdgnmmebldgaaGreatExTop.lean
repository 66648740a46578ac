import Derived.Test.YtmkdgnmmebldgaaGreatEx36
import Derived.Test.YtmkdgnmmebldgaaGreatEx40
import Derived.Test.YtmkdgnmmebldgaaGreatEx41
import Derived.Test.YtmkdgnmmebldgaaGreatEx12
namespace Go.Proofs.YtmkdgnmmebldgaaGreat
open Go.RowKit Go.Deep Go.Maps

theorem pieces_row {w : World} {t g : Nat} {ps : List MPiece} {a : Option Addr} {w0 : World} (h : PieceRowAt w t g ps) (h0 : PiecesAt w0 a ps) : PiecesAt w (some ⟨g, 0, none⟩) ps := ⟨h0.1, h0.2.1, Or.inr ⟨g, 0, rfl, h.cells⟩⟩
theorem joints_row {w : World} {g : Nat} {js : List MJoint} {a : Option Addr} {w0 : World} (h : JointRowAt w g js) (h0 : JointsAt w0 a js) (hl : ∀ j, j ∈ js → j.ends.length ≤ 1048576) : JointsAt w (some ⟨g, 0, none⟩) js := ⟨h0.1, h0.2.1, Or.inr ⟨g, 0, rfl, h.cells hl⟩⟩

set_option maxRecDepth 100000 in
set_option maxHeartbeats 8000000 in
theorem lawRoutes_any (pa ja sa : Option Addr) (pc jc sc : Nat) (ps : List MPiece) (js : List MJoint) (ss : List MPiece) (over : Int) (w : World) (hp : Hid (PiecesAt w pa ps)) (hj : Hid (JointsAt w ja js)) (hs : Hid (PiecesAt w sa ss)) :
    Calls Tryz.prog 3 #[.agg #[.slice pa ps.length pc, .slice ja js.length jc], .slice sa ss.length sc, .int .i64 over] w fun e w' => e = .returned (.bool true) ∧ Below w.heap.size w w' := by
  go_enter Tryz.func3, Tryz.ntmps3
  go_upto_region 2 with fail
  generalize hW : World.alloc w _ = W
  have e0 : W.cell? ⟨w.heap.size, 0, none⟩ = some (.slice pa ps.length pc) := by rw [← hW]; simp [go_sem]
  have e1 : W.cell? ⟨w.heap.size, 1, none⟩ = some (.slice ja js.length jc) := by rw [← hW]; simp [go_sem]
  have hzA : w.heap.size < W.heap.size := by rw [← hW]; simp
  have HBW : Hid (Below w.heap.size w W) := by rw [← hW]; exact (Below.refl _ _).alloc (Nat.le_refl _) _
  have HP := hidQ (hp.out.below HBW.out)
  have HJ := hidQ (hj.out.below HBW.out)
  have HS := hidQ (hs.out.below HBW.out)
  have E0 := hidP e0
  have E1 := hidP e1
  clear hW
  have HSZ0 := hidP (szNet_any pa ja pc jc ps js 1048576 W HP HJ (by omega) (by omega))
  go_upto_region 3 with (go_at_call 4; refine HSZ0.out.mono ?_; rintro e w1 ⟨r, rfl, hr1, hr2, hb1⟩; have HSZ := hidQ hr2; have HB1 := hidP hb1; clear hr2 hb1)
  by_cases hr : r < 0
  · go_wp2_with fail
    go_ret
    exact ⟨rfl, HBW.out.trans (HB1.out.mono HBW.out.size)⟩
  obtain ⟨sz1, sz2, sz3⟩ := HSZ.out (by omega)
  have SZ3 := hidQ sz3
  clear sz3 HSZ HSZ0
  have hrs : ∃ r2 : Int, (if r < ss.length then -1 else szP (r - ss.length) ss) = r2 ∧ (0 ≤ r2 → (ss.length : Int) ≤ 1048576) := by
    refine ⟨_, rfl, ?_⟩
    by_cases h : r < ss.length
    · rw [if_pos h]; exact fun h => absurd h (by omega)
    · exact fun _ => by omega
  obtain ⟨r2, hq1, hq2⟩ := hrs
  have HQ2 := hidQ hq2
  have HSG0 := hidP (szSignalS_any sa sc ss r w1 (HS.out.below HB1.out) (by omega) (by omega))
  rw [hq1] at HSG0
  clear hq1 hq2
  go_upto_region 6 with (go_at_call 5; refine HSG0.out.mono ?_; rintro e w1b ⟨rfl, hb1b⟩; have HB1b : Hid (Below W.heap.size W w1b) := HB1.out.trans (hb1b.mono HB1.out.size); clear hb1b)
  by_cases hr3 : r2 < 0
  · go_wp2_with fail
    go_ret
    exact ⟨rfl, HBW.out.trans (HB1b.out.mono HBW.out.size)⟩
  have sz4 : ss.length ≤ 1048576 := by have := HQ2.out (by omega); omega
  clear HQ2 HSG0 HB1
  have HTN : Hid (∀ u : World, Below W.heap.size W u → Calls Tryz.prog 7 #[.agg #[.slice pa ps.length pc, .slice ja js.length jc]] u fun e w' => ∃ g h, e = .returned (.agg #[.slice (some ⟨g, 0, none⟩) ps.length ps.length, .slice (some ⟨h, 0, none⟩) js.length js.length]) ∧ Hid (PieceRowAt w' 108 g ps) ∧ Hid (JointRowAt w' h js) ∧ Below u.heap.size u w' ∧ u.heap.size ≤ g ∧ g < h) := fun u hu => toNet_row pa ja pc jc ps js u (HP.out.below hu) (HJ.out.below hu) sz1 sz2 SZ3
  have HTS : Hid (∀ u : World, Below W.heap.size W u → Calls Tryz.prog 8 #[.slice sa ss.length sc] u fun e w' => ∃ g, e = .returned (.slice (some ⟨g, 0, none⟩) ss.length ss.length) ∧ Hid (PieceRowAt w' 56 g ss) ∧ Below u.heap.size u w' ∧ u.heap.size ≤ g) := fun u hu => toSignalS_row sa sc ss u (HS.out.below hu) sz4
  obtain ⟨rs, hrs⟩ : ∃ rs, routesF ps js ss over = rs := ⟨_, rfl⟩
  have HLN := hidP (routes_len ps js ss over)
  rw [hrs] at HLN
  have HRS := hidP hrs
  clear hrs
  replace e0 := cell_later HB1b.out E0.out
  replace e1 := cell_later HB1b.out E1.out
  have hz1b := cellLt e0
  dsimp only at hz1b
  -- the specification's answer
  go_upto_region 9 with (first
    | (go_at_call 7; refine (HTN.out _ HB1b.out).mono ?_; rintro e w2 ⟨g1, g2, rfl, hpr, hjr, hb2, _, _⟩; have HP2 := hidP (pieces_row hpr.out HP.out); have HJ2 := hidP (joints_row hjr.out HJ.out SZ3.out); have HB2 : Hid (Below W.heap.size W w2) := HB1b.out.trans (hb2.mono HB1b.out.size); replace e0 := cell_later hb2 e0; replace e1 := cell_later hb2 e1; clear hpr hjr hb2)
    | (go_at_call 8; refine (HTS.out _ HB2.out).mono ?_; rintro e w2b ⟨g3, rfl, hsr, hb2b, _⟩; have HS2 := hidP (pieces_row hsr.out HS.out); have HP2b := hidP (HP2.out.below hb2b); have HJ2b := hidP (HJ2.out.below hb2b); have HB2b : Hid (Below W.heap.size W w2b) := HB2.out.trans (hb2b.mono HB2.out.size); replace e0 := cell_later hb2b e0; replace e1 := cell_later hb2b e1; clear hsr hb2b)
    | (go_at_call 6; refine (specRoutes_any _ _ _ _ _ _ ps js ss over w2b HP2b HJ2b HS2).mono ?_; rw [HRS.out]; rintro e w3 ⟨ra, rc, rfl, hra, _, hb3⟩; have HRA := hidP hra; have HB3 : Hid (Below W.heap.size W w3) := HB2b.out.trans (hb3.mono HB2b.out.size); replace e0 := cell_later hb3 e0; replace e1 := cell_later hb3 e1; have hz3 := cellLt e0; dsimp only at hz3; clear hra hb3))
  -- the arguments, and the program's answer
  go_upto_region 10 with (go_at_call 7; refine (HTN.out _ HB3.out).mono ?_; rintro e w5 ⟨g4, g5, rfl, hpr, hjr, hb5, hg4, hg5⟩; have HPR := hidP hpr.out; have HJR := hidP hjr.out; have HB5 := hidP hb5; replace e0 := cell_later hb5 e0; replace e1 := cell_later hb5 e1; have hz5 := hb5.size; have hzg5 := hjr.out.lt; clear hpr hjr hb5)
  generalize hW6 : World.alloc w5 _ = W6
  have hb6 : Below w5.heap.size w5 W6 := by rw [← hW6]; exact (Below.refl _ _).alloc (Nat.le_refl _) _
  have x0 : W6.cell? ⟨w5.heap.size, 0, none⟩ = some (.slice (some ⟨g4, 0, none⟩) ps.length ps.length) := by rw [← hW6]; simp [go_sem]
  have x1 : W6.cell? ⟨w5.heap.size, 1, none⟩ = some (.slice (some ⟨g5, 0, none⟩) js.length js.length) := by rw [← hW6]; simp [go_sem]
  have hz6 : w5.heap.size < W6.heap.size := by rw [← hW6]; simp
  clear hW6
  replace e0 := cell_later hb6 e0
  replace e1 := cell_later hb6 e1
  have HPR6 := hidP (HPR.out.kept (hb6.block _ HPR.out.lt))
  have HJR6 := hidP (HJR.out.below hb6)
  have HJW6 := hidP ((jw_of_row HJR.out rfl).below hb6)
  have H36 : Hid (Below w3.heap.size w3 W6) := HB5.out.trans (hb6.mono hz5)
  have HBW6 : Hid (Below W.heap.size W W6) := HB3.out.trans (H36.out.mono HB3.out.size)
  clear hb6 HPR HJR
  go_upto_region 12 with (first
    | (go_at_call 8; refine (HTS.out _ HBW6.out).mono ?_; rintro e w6 ⟨g6, rfl, hsr, hb6, hg6⟩; have HSR := hidP hsr.out; have HPR7 := hidP (HPR6.out.kept (hb6.block _ HPR6.out.lt)); have HJR7 := hidP (HJR6.out.below hb6); have HJW7 := hidP (HJW6.out.below hb6); have H37 : Hid (Below w3.heap.size w3 w6) := H36.out.trans (hb6.mono H36.out.size); have HBW7 : Hid (Below W.heap.size W w6) := HBW6.out.trans (hb6.mono HBW6.out.size); have HZ67 := hidP hb6.size; replace e0 := cell_later hb6 e0; replace e1 := cell_later hb6 e1; replace x0 := cell_later hb6 x0; replace x1 := cell_later hb6 x1; have hzg6 := hsr.out.lt; have hzx7 := cellLt x0; dsimp only at hzx7; clear hsr hb6)
    | (go_at_call 9; refine (implRoutes_any _ _ _ _ _ _ ps js ss over w6 (pieces_row HPR7.out HP.out) (joints_row HJR7.out HJ.out SZ3.out) (pieces_row HSR.out HS.out)).mono ?_; rintro e w7 ⟨x, y, qs, rfl, hqs, htab, hb7⟩; rw [HRS.out] at hqs; have HQS := hidP hqs; have HTB := hidP htab; have HB7 := hidP hb7; replace e0 := cell_later hb7 e0; replace e1 := cell_later hb7 e1; replace x0 := cell_later hb7 x0; replace x1 := cell_later hb7 x1; clear hqs htab hb7))
  have HQL : Hid (qs.length = rs.length) := by unfold Hid; rw [← HQS.out]; simp
  have HQL3 : Hid (qs.length ≤ 300) := by unfold Hid; rw [HQL.out]; exact HLN.out.1
  have HNL : Hid (∀ q ∈ qs, ∀ j, j < 6 → nR q.2 j ≤ 100001) := fun q hq => HLN.out.2 q.2 (by rw [← HQS.out]; exact List.mem_map.2 ⟨q, hq, rfl⟩)
  have HPR8 := hidP (HPR7.out.kept (HB7.out.block _ HPR7.out.lt))
  have HJR8 := hidP (HJR7.out.below HB7.out)
  have HJW8 := hidP (HJW7.out.below HB7.out)
  have HSR8 := hidP (HSR.out.kept (HB7.out.block _ HSR.out.lt))
  have H38 : Hid (Below w3.heap.size w3 w7) := H37.out.trans (HB7.out.mono H37.out.size)
  have HBW8 : Hid (Below W.heap.size W w7) := HBW7.out.trans (HB7.out.mono HBW7.out.size)
  have hz67 : w6.heap.size ≤ w7.heap.size := HB7.out.size
  clear HPR6 HJR6 HJW6 H36 HBW6 HPR7 HJR7 HJW7 HSR H37 HBW7 HB5
  have HEQ : Hid (∀ u : World, Below w3.heap.size w3 u → ∀ B x y, TabOwn B u x y qs → Calls Tryz.prog 10 #[.slice x qs.length y, .slice ra rs.length rc] u fun e w' => e = .returned (.bool true) ∧ Below u.heap.size u w') := fun u hu B x y ht => by
    have q1 := ht.routes HQL3.out
    rw [HQS.out] at q1
    rw [HQL.out]
    exact eqRouteS_walk x ra y rc rs u q1 (HRA.out.below hu)
  go_upto_region 14 with (go_at_call 10; refine (HEQ.out _ H38.out _ _ _ HTB.out).mono ?_; rintro e w8 ⟨rfl, hb8⟩)
  have HTB8 := hidP (HTB.out.below hb8)
  have HPR9 := hidP (HPR8.out.kept (hb8.block _ HPR8.out.lt))
  have HJR9 := hidP (HJR8.out.below hb8)
  have HJW9 := hidP (HJW8.out.below hb8)
  have HSR9 := hidP (HSR8.out.kept (hb8.block _ HSR8.out.lt))
  have H39 : Hid (Below w3.heap.size w3 w8) := H38.out.trans (hb8.mono H38.out.size)
  have HBW9 : Hid (Below W.heap.size W w8) := HBW8.out.trans (hb8.mono HBW8.out.size)
  have hz78 : w7.heap.size ≤ w8.heap.size := hb8.size
  replace e0 := cell_later hb8 e0
  replace e1 := cell_later hb8 e1
  replace x0 := cell_later hb8 x0
  replace x1 := cell_later hb8 x1
  clear hb8 HPR8 HJR8 HJW8 HSR8 H38 HBW8 HTB
  have hzx8 := cellLt x0
  have hze8 := cellLt e0
  dsimp only at hzx8 hze8
  obtain ⟨S, hS⟩ : ∃ S : World → Prop, ∀ u, S u ↔ Below w8.heap.size w8 u := ⟨_, fun _ => Iff.rfl⟩
  have HS0 := hidP hS
  have r0 : ∀ u : Held S, World.cell? u.val ⟨w.heap.size, 0, none⟩ = some (.slice pa ps.length pc) := fun u => cell_later ((hS u.val).1 u.2) e0
  have r1 : ∀ u : Held S, World.cell? u.val ⟨w.heap.size, 1, none⟩ = some (.slice ja js.length jc) := fun u => cell_later ((hS u.val).1 u.2) e1
  have r2x : ∀ u : Held S, World.cell? u.val ⟨w5.heap.size, 0, none⟩ = some (.slice (some ⟨g4, 0, none⟩) ps.length ps.length) := fun u => cell_later ((hS u.val).1 u.2) x0
  have r3x : ∀ u : Held S, World.cell? u.val ⟨w5.heap.size, 1, none⟩ = some (.slice (some ⟨g5, 0, none⟩) js.length js.length) := fun u => cell_later ((hS u.val).1 u.2) x1
  have hS1 : S w8.drew := (hS _).2 ((Below.refl _ _).drew)
  have hne := held_ne hS1
  clear hS
  refine wp_region_tree (fun w' => ∃ u : Held S, w' = u.val) 3 (by kernel_rfl) (by kernel_rfl) (held_some hS1) ?_
  (refine wpT_see 0 (by rfl) (by kernel_rfl) (by kernel_rfl) ?_; intro K hK; go_big_quiet_op; go_big_quiet_on); (refine wpT_see 1 (by rfl) (by kernel_rfl) (by kernel_rfl) ?_; intro K hK; go_big_quiet_op; go_big_quiet_on)
  refine wpT_loud 2 (by rfl) (by kernel_rfl) (by kernel_rfl) ?_
  intro KK hK
  go_wp2_with (go_at_call 7; refine (HTN.out _ (HBW9.out.trans ((Below.refl _ _).drew.mono HBW9.out.size))).mono ?_; rintro e w9 ⟨g7, g8, rfl, hpr9, hjr9, hb9', _, _⟩)
  have hb9 : Below w8.heap.size w8 w9 := (Below.refl _ _).drew.trans hb9'
  refine hK _ _ (held_some ((HS0.out _).2 hb9)) ?_
  clear hK KK hb9' r0 r1 r2x r3x hS1 hne
  have HQ9 := hidP (eqNet_any (some ⟨g4, 0, none⟩) (some ⟨g5, 0, none⟩) (some ⟨g7, 0, none⟩) (some ⟨g8, 0, none⟩) ps.length js.length ps.length js.length ps js w9 (pieces_row (HPR9.out.kept (hb9.block _ HPR9.out.lt)) HP.out) (joints_row (HJR9.out.below hb9) HJ.out SZ3.out) (pieces_row hpr9.out HP.out) (joints_row hjr9.out HJ.out SZ3.out))
  have HB9 := hidP hb9
  clear hb9 hpr9 hjr9
  refine wpT_done (by kernel_rfl) ?_
  go_upto_region 16 with (go_at_call 11; refine HQ9.out.mono ?_; rintro e w10 ⟨rfl, hb10⟩; have HB10 : Hid (Below w8.heap.size w8 w10) := HB9.out.trans (hb10.mono HB9.out.size); clear hb10)
  have HBW10 : Hid (Below W.heap.size W w10) := HBW9.out.trans (HB10.out.mono HBW9.out.size)
  go_upto_region 19 with (first
    | (go_at_call 8; refine (HTS.out _ HBW10.out).mono ?_; rintro e w11 ⟨g9, rfl, hsr11, hb11, _⟩; have HB11 : Hid (Below w8.heap.size w8 w11) := HB10.out.trans (hb11.mono HB10.out.size); have HQ11 := hidP (eqSignalS_walk (some ⟨g6, 0, none⟩) (some ⟨g9, 0, none⟩) ss.length ss.length ss w11 (pieces_row (HSR9.out.kept (HB11.out.block _ HSR9.out.lt)) HS.out) (pieces_row hsr11.out HS.out)); clear hsr11 hb11)
    | (go_at_call 12; refine HQ11.out.mono ?_; rintro e w12 ⟨rfl, hb12⟩; have HB12 : Hid (Below w8.heap.size w8 w12) := HB11.out.trans (hb12.mono HB11.out.size); clear hb12))
  -- the arguments are written over
  have hz12 := HB12.out.size
  have HTB12 := hidP (HTB8.out.below HB12.out)
  have HJW12 := hidP (HJW9.out.below HB12.out)
  have HPR12 := hidP (HPR9.out.kept (HB12.out.block _ HPR9.out.lt))
  have HSR12 := hidP (HSR9.out.kept (HB12.out.block _ HSR9.out.lt))
  have H312 : Hid (Below w3.heap.size w3 w12) := H39.out.trans (HB12.out.mono H39.out.size)
  have HBW12 : Hid (Below W.heap.size W w12) := HBW9.out.trans (HB12.out.mono HBW9.out.size)
  replace x0 := cell_later HB12.out x0
  replace x1 := cell_later HB12.out x1
  replace e0 := cell_later HB12.out e0
  replace e1 := cell_later HB12.out e1
  have hzx12 := cellLt x0
  dsimp only at hzx12
  have HNN : Hid (∀ p, p < js.length → (fun p => (js[p]?.map (fun j => j.ends.length)).getD 0) p ≤ 1048576) := fun p hp => by
    simp only [List.getElem?_eq_getElem hp, Option.map_some, Option.getD_some]
    exact SZ3.out _ (List.getElem_mem hp)
  have HMN := hidP (markNet_any g4 g5 w5.heap.size ps.length js.length ps.length js.length _ 1 w12 (by obtain ⟨f, hf, _⟩ := HPR12.out; exact ⟨f, hf⟩) HJW12 hg5 hzg5 (by omega) (by omega) (by omega) sz1 sz2 HNN)
  clear HPR9 HJR9 HJW9 HSR9 H39 HBW9 HTB8 HB9 HB10 HB11 HB12 HBW10 HQ9 HQ11
  go_upto_region 20 with (go_at_call 13; refine HMN.out.mono ?_; rintro e w13 ⟨⟨kr, rfl, hkr0, hkr1⟩, ho13⟩; have HO13 := hidP ho13; clear ho13)
  have hz13 := HO13.out.size
  have HZ6 : Hid (w5.heap.size < w6.heap.size ∧ W6.heap.size ≤ w6.heap.size) := ⟨by have := HZ67.out; omega, HZ67.out⟩
  have HTB13 := hidP (HTB12.out.only HO13.out (fun k hk => by have := hk.2; have := HZ6.out; omega))
  have HSR13 := hidP (HSR12.out.kept (HO13.out.block _ HSR12.out.lt (fun q => by have := q.2; omega)))
  have H313 : Hid (Below w3.heap.size w3 w13) := H312.out.trans (HO13.out.below H312.out.size (fun k hk q => by have := q.1; omega))
  have HBW13 : Hid (Below W.heap.size W w13) := HB3.out.trans (H313.out.mono HB3.out.size)
  obtain ⟨f13, hf13, _⟩ := HSR13.out
  have HMS := hidP (markSignalS_walk g6 (ss.length * 4) ss.length ss.length kr f13 w13 hf13 (Nat.le_refl _) hkr0 (by omega))
  clear HTB12 HJW12 HPR12 HSR12 H312 HBW12 HMN HNN HO13 hf13 x0 x1 hzx12 hzx8
  go_upto_region 21 with (go_at_call 14; refine HMS.out.mono ?_; rintro e w14 ⟨rfl, _, hg14⟩; have HG14 := hidP hg14; clear hg14)
  have HO14 : Hid (Only (fun k => k = g6) w13 w14) := Only.of_grown HG14.out (fun k e => by cases e; rfl)
  have HTB14 := hidP (HTB13.out.only HO14.out (fun k hk => by subst hk; exact hzg6))
  have H314 : Hid (Below w3.heap.size w3 w14) := H313.out.trans (HO14.out.below H313.out.size (fun k hk q => by have := HZ6.out; omega))
  have hkk : ¬ kr + (ss.length : Int) * 4 < 0 := by omega
  clear HTB13 HSR13 H313 HBW13 HMS HG14 HO14
  go_upto_region 24 with (go_at_call 10; refine (HEQ.out _ H314.out _ _ _ HTB14.out).mono ?_; rintro e w15 ⟨rfl, hb15⟩; have HTB15 := hidP (HTB14.out.below hb15); have H315 : Hid (Below w3.heap.size w3 w15) := H314.out.trans (hb15.mono H314.out.size); clear hb15)
  -- the answer is written over and read again
  have HMT := hidP (markTab_any HTB15.out HQL3.out HNL.out)
  clear HTB14 H314 hkk
  go_upto_region 25 with (go_at_call 15; refine HMT.out.mono ?_; rintro e w16 ⟨mm, rfl, hm0, hho, ho16⟩; have HHO := hidP hho; have HO16 := hidP ho16; clear hho ho16)
  have H316 : Hid (Below w3.heap.size w3 w16) := H315.out.trans (HO16.out.below H315.out.size (fun k hk q => by have := HZ6.out; have : w6.heap.size ≤ k := q; omega))
  have HBW16 : Hid (Below W.heap.size W w16) := HB3.out.trans (H316.out.mono HB3.out.size)
  have hm00 : ¬ mm < 0 := by omega
  have hmne : (mm != mm) = false := by simp
  replace e0 := cell_later HBW16.out E0.out
  replace e1 := cell_later HBW16.out E1.out
  clear HTB15 H315 HMT HO16 e0 e1
  go_upto_region 31 with (go_at_call 16; refine (HHO.out _ (Below.refl _ _)).mono ?_; rintro e w17 ⟨rfl, hb17⟩; have HB17 := hidP hb17; clear hb17)
  have HBW17 : Hid (Below W.heap.size W w17) := HBW16.out.trans (HB17.out.mono HBW16.out.size)
  have e0 := cell_later HBW17.out E0.out
  have e1 := cell_later HBW17.out E1.out
  have hze17 := cellLt e0
  dsimp only at hze17
  go_upto_region 32 with (first
    | (go_at_call 7; refine (HTN.out _ HBW17.out).mono ?_; rintro e w18 ⟨g10, g11, rfl, hpr18, hjr18, hb18, _, _⟩; have HP18 := hidP (pieces_row hpr18.out HP.out); have HJ18 := hidP (joints_row hjr18.out HJ.out SZ3.out); have HB18 : Hid (Below w16.heap.size w16 w18) := HB17.out.trans (hb18.mono HB17.out.size); have HBW18 : Hid (Below W.heap.size W w18) := HBW17.out.trans (hb18.mono HBW17.out.size); clear hpr18 hjr18 hb18)
    | (go_at_call 8; refine (HTS.out _ HBW18.out).mono ?_; rintro e w19 ⟨g12, rfl, hsr19, hb19, _⟩; have HS19 := hidP (pieces_row hsr19.out HS.out); have HP19 := hidP (HP18.out.below hb19); have HJ19 := hidP (HJ18.out.below hb19); have HB19 : Hid (Below w16.heap.size w16 w19) := HB18.out.trans (hb19.mono HB18.out.size); clear hsr19 hb19)
    | (go_at_call 9; refine (implRoutes_any _ _ _ _ _ _ ps js ss over w19 HP19 HJ19 HS19).mono ?_; rintro e w20 ⟨x2, y2, qs2, rfl, hqs2, htab2, hb20⟩; rw [HRS.out] at hqs2; have HQS2 := hidP hqs2; have HTB20 := hidP htab2; have HB20 : Hid (Below w16.heap.size w16 w20) := HB19.out.trans (hb20.mono HB19.out.size); clear hqs2 htab2 hb20))
  have HQL2 : Hid (qs2.length = rs.length) := by unfold Hid; rw [← HQS2.out]; simp
  have H320 : Hid (Below w3.heap.size w3 w20) := H316.out.trans (HB20.out.mono H316.out.size)
  have HEQ2 : Hid (Calls Tryz.prog 10 #[.slice x2 qs2.length y2, .slice ra rs.length rc] w20 fun e w' => e = .returned (.bool true) ∧ Below w20.heap.size w20 w') := by
    have q1 := HTB20.out.routes (by rw [HQL2.out]; exact HLN.out.1)
    rw [HQS2.out] at q1
    unfold Hid
    rw [HQL2.out]
    exact eqRouteS_walk x2 ra y2 rc rs w20 q1 (HRA.out.below H320.out)
  clear e0 e1 hze17
  go_wp2_with (first
    | (go_at_call 10; refine HEQ2.out.mono ?_; rintro e w21 ⟨rfl, hb21⟩; have HB21 : Hid (Below w16.heap.size w16 w21) := HB20.out.trans (hb21.mono HB20.out.size); clear hb21)
    | (go_at_call 16; refine (HHO.out _ HB21.out).mono ?_; rintro e w22 ⟨rfl, hb22⟩; have HB22 : Hid (Below w16.heap.size w16 w22) := HB21.out.trans (hb22.mono HB21.out.size); clear hb22))
  go_ret
  exact ⟨rfl, HBW.out.trans ((HBW16.out.trans (HB22.out.mono HBW16.out.size)).mono HBW.out.size)⟩

end Go.Proofs.YtmkdgnmmebldgaaGreat

namespace Go.Proofs.YtmkdgnmmebldgaaGreat
open Go.ChangeShapes Go.WideShapes Go.ChangeAt Go.RowKit Go.Deep

set_option maxRecDepth 100000 in
theorem routes_lifted (os : Os) (started : os.Started) (H : Type) (enc : TypeId × Value → H) :
    ReturnsInHanded {} Tryz.checked os 3 .any (Rows.fnExactRoutesSpec.pre6 enc Tryz.prog Tryz.f3 Rows.fnExactRoutesRow.domain false) (Rows.fnExactRoutesSpec.post enc Tryz.prog Tryz.f3 false true false false) := by
  refine returnsInHanded_of_change (C := Tryz.checked) ownSig started (by kernel_rfl) Tryz.func3
    (ChangeSpec.witness6 (enc := enc) (C := Tryz.checked) false ⟨#[], #[.agg #[.slice none 0 0, .slice none 0 0], .slice none 0 0, .int .i64 0], []⟩ 8 (by kernel_rfl) (by kernel_rfl) (by kernel_rfl) (by kernel_rfl)) ?_
  intro W base args ds gs before hval0 hW hcnd _
  have hval : ∀ (j : Nat) t v, Tryz.f3.params[j]? = some t → args[j]? = some v → Value.okWide Tryz.prog W .any base t v := hval0
  have hW' := hW
  obtain ⟨p, q, hA0, hV, rfl, hfz, hnd⟩ := hW
  have hA : DataW.TrodAll enc Tryz.prog W 0 (fun _ => true) true Tryz.f3.params.toList args.toList ds p := hA0
  rw [Tryz.params3] at hA hval
  obtain ⟨v0, vs0, d0, ds0, p0, q0, hargs, rfl, rfl, h0, r0⟩ := trodAll_cons hA
  obtain ⟨v1, vs1, d1, ds1, p1, q1, rfl, rfl, rfl, h1, r1⟩ := trodAll_cons r0
  obtain ⟨v2, vs2, d2, ds2, p2, q2, rfl, rfl, rfl, h2, r2⟩ := trodAll_cons r1
  obtain ⟨rfl, rfl, rfl⟩ := trodAll_nil r2
  obtain rfl : args = #[v0, v1, v2] := by cases args; simp_all
  obtain ⟨rfl, rfl⟩ := trodVars_none hV
  have k0 := h0
  have lt0 : ∀ x ∈ p0, x.block < W.heap.size := by obtain ⟨m, hm⟩ := k0; exact DataW.trod_lt m _ _ _ hm
  have k1 := h1
  have lt1 : ∀ x ∈ p1, x.block < W.heap.size := by obtain ⟨m, hm⟩ := k1; exact DataW.trod_lt m _ _ _ hm
  have k2 := h2
  have lt2 : ∀ x ∈ p2, x.block < W.heap.size := by obtain ⟨m, hm⟩ := k2; exact DataW.trod_lt m _ _ _ hm
  obtain ⟨pa, pc, ps, ja, jc, js, hv0, hpp, hjj⟩ : ∃ (pa : Option Addr) (pc : Nat) (ps : List MPiece) (ja : Option Addr) (jc : Nat) (js : List MJoint), v0 = .agg #[.slice pa ps.length pc, .slice ja js.length jc] ∧ PiecesAt W pa ps ∧ JointsAt W ja js := by
    obtain ⟨c0, c1, y0, y1, m, e0, _, _, t0, t1⟩ := Joins.open_agg2 Tryz.underlying25 (by kernel_rfl) cellsLNetSig (hval 0 25 v0 rfl rfl) h0
    obtain ⟨pa, pc, ps, f0, hpp⟩ := open_pieces t0
    obtain ⟨ja, jc, js, f1, hjj⟩ := open_joints t1
    simp at f0 f1
    subst f0 f1
    exact ⟨pa, pc, ps, ja, jc, js, e0, hpp, hjj⟩
  subst hv0
  obtain ⟨sa, sc, ss, hv1, hss⟩ : ∃ (sa : Option Addr) (sc : Nat) (ss : List MPiece), v1 = .slice sa ss.length sc ∧ PiecesAt W sa ss := by
    obtain ⟨sa, len, sc, rfl⟩ := okWide_slice Tryz.underlying26 (hval 1 26 v1 rfl rfl)
    obtain ⟨fuel, hf⟩ := h1
    obtain ⟨a, cap, ss, e, hss⟩ := open_signals hf
    simp [Value.cells] at e
    obtain ⟨rfl, rfl, rfl⟩ := e
    exact ⟨_, _, ss, rfl, hss⟩
  subst hv1
  obtain ⟨ov, rfl⟩ := okWide_int Tryz.underlying3 (hval 2 3 v2 rfl rfl)
  clear hA0 hval0
  refine (lawRoutes_any pa ja sa pc jc sc ps js ss ov W hpp hjj hss).mono fun e W' ⟨he, bel⟩ => ?_
  subst he
  exact ⟨_, rfl, _, _, _, [], _, [], hW', trodAll_mk1 (shut_bool Tryz.underlying4 _), (trodAll_cons_mk (Below.trod Tryz.laidOutB (by kernel_rfl) (of_decide_eq_true (by kernel_rfl)) k0 bel lt0) (trodAll_cons_mk (Below.trod Tryz.laidOutB (by kernel_rfl) (of_decide_eq_true (by kernel_rfl)) k1 bel lt1) (trodAll_cons_mk (Below.trod Tryz.laidOutB (by kernel_rfl) (of_decide_eq_true (by kernel_rfl)) k2 bel lt2) trodAll_mk0))), rfl, bel.frame _, fun h => by cases h⟩

theorem routes_holds : Rows.FnExactRoutesSaid :=
  OpenClaim.holds_of_wide 3 Tryz.f3 rfl rfl rfl rfl rfl rfl rfl ⟨rfl, rfl, rfl, rfl, rfl⟩ rfl rfl rfl rfl rfl (by kernel_rfl) Tryz.func3 (by kernel_rfl)
    (of_decide_eq_true (by kernel_rfl)) (by unfold Func.isWrapper; first | (rw [if_pos (by decide +kernel)]; kernel_rfl) | (rw [if_neg (by decide +kernel)]; exact ⟨rfl, rfl⟩))
    (fun os started H enc _ => routes_lifted os started H enc)

#print axioms routes_holds

end Go.Proofs.YtmkdgnmmebldgaaGreat
