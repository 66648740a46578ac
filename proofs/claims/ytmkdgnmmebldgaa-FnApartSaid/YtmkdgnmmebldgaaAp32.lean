import Derived.Test.YtmkdgnmmebldgaaAp31
import Derived.Test.YtmkdgnmmebldgaaAp26
import Derived.Deep.DeepCutAuto
namespace Go.Proofs.Ytmkdgnmmebldgaa
open Go.RowKit Go.Deep

/-- What stands behind the drawing: the routes, their table, the second list of bytes. -/
structure Ap (w : World) (bl ol g : Nat) (rs : List MRoute) (ma : Option Addr) (ms : List Int) : Prop where
  cells : RouteCells w bl ol rs
  tab : TabAt w g rs
  more : BytesAt w ma ms
theorem Ap.below {w w' : World} {bl ol g : Nat} {rs : List MRoute} {ma : Option Addr} {ms : List Int} (h : Ap w bl ol g rs ma ms) (hb : Below w.heap.size w w') : Ap w' bl ol g rs ma ms := ⟨h.cells.below hb, h.tab.below hb, h.more.below hb⟩

set_option maxRecDepth 20000 in
set_option maxHeartbeats 8000000 in
theorem lawApart_any (ca ma : Option Addr) (cc mc : Nat) (bs ms : List Int) (w : World) (hb : Hid (BytesAt w ca bs)) (hm : Hid (BytesAt w ma ms)) :
    Calls Try.prog 3 #[.slice ca bs.length cc, .slice ma ms.length mc] w fun e w' => e = .returned (.bool true) ∧ Below w.heap.size w w' := by
  have hl1 := hb.out.len
  have hl2 := hm.out.len
  unfold maxLen at hl1 hl2
  go_enter Try.func3, Try.ntmps3
  by_cases h1 : (1048576 : Int) < bs.length
  · go_wp2_with fail
    go_ret
    exact ⟨rfl, Below.refl _ _⟩
  by_cases h2 : (1048576 : Int) < ms.length
  · go_wp2_with fail
    go_ret
    exact ⟨rfl, Below.refl _ _⟩
  go_wp2_with fail
  refine (Drawn_any ca cc bs w hb.out.lie hb.out.small (by omega)).mono ?_
  rintro e w1 ⟨pa, pc, ja, jc, sa, sc, ps, js, ss, over, rfl, hP, hJ, hS, ho0, ho1, hbd⟩
  have HP := hidP hP
  have HJ := hidP hJ
  have HS := hidP hS
  have HB1 := hidP hbd
  clear hP hJ hS hbd
  go_wp2_with fail
  generalize hW : World.alloc w1 _ = W
  have hbW : Below w1.heap.size w1 W := by rw [← hW]; exact (by repeat (first | exact Below.refl _ _ | assumption | refine Below.drew ?_ | refine bdrewN ?_ _ | refine Below.setCell ?_ (by first | omega | (simp; done) | (simp; omega)) _ | refine Below.alloc ?_ (by first | omega | (simp; done) | (simp; omega)) _))
  have HBW := hidP hbW
  have hwz := HB1.out.size
  clear hW hbW
  refine (specRoutes_any pa ja sa pc jc sc ps js ss over W (HP.out.below HBW.out) (HJ.out.below HBW.out) (HS.out.below HBW.out)).mono ?_
  rintro e w2 ⟨x, c, rfl, hR, hnil, hb2⟩
  obtain ⟨RS, hRS⟩ : ∃ RS, routesF ps js ss over = RS := ⟨_, rfl⟩
  have hok := routesF_ok ps js ss over
  rw [hRS] at hok hR ⊢
  have HOK := hidP hok.2
  have hn300 := hok.1
  have HR := hidP hR
  have HB2 : Hid (Below w.heap.size w w2) := (HB1.out.trans (HBW.out.mono hwz)).trans (hb2.mono (Nat.le_trans hwz HBW.out.size))
  clear hR hb2 hok hRS hnil HP HJ HS HBW HB1
  go_wp2_with fail
  refine (implTable_any x c RS w2 HR (fun r hr => (HOK.out r hr).short) (fun i hi => (HOK.out _ (List.getElem_mem hi)).wf)).mono ?_
  rintro e w3 ⟨tx, ty, cells, rfl, hown, hrows, _, hb3⟩
  by_cases hn0 : RS = []
  · subst hn0
    have e0 : (tableF []).length = 0 := rfl
    rw [e0]
    have HB3 : Hid (Below w.heap.size w w3) := HB2.out.trans (hb3.mono HB2.out.size)
    clear hown hrows hb3
    go_wp2_with fail
    go_loopw [49] (fun i wr => i = .int .i64 0 ∧ wr = w3) (fun _ _ => 0)
    case atStart => exact ⟨rfl, rfl⟩
    case round =>
      obtain ⟨rfl, rfl⟩ := hrel
      go_wp2_with fail
      go_loopw [11] (fun i wq => i = .int .i64 0 ∧ wq = wr) (fun _ _ => 0)
      case atStart => exact ⟨rfl, rfl⟩
      case round =>
        obtain ⟨rfl, rfl⟩ := hrel
        go_wp2_with fail
        go_ret
        exact ⟨rfl, HB3.out⟩
  have hpos : 0 < RS.length := List.length_pos_iff.2 hn0
  obtain ⟨htl, g, htx, htab⟩ := tab_of hn300 hpos hown hrows
  subst htx
  rw [htl]
  obtain ⟨bl, ol, hx, hcells⟩ := (HR.out.below hb3).2.resolve_left hn0
  subst hx
  have HB3 : Hid (Below w.heap.size w w3) := HB2.out.trans (hb3.mono HB2.out.size)
  have HA : Hid (Ap w3 bl ol g RS ma ms) := ⟨hcells, htab, hm.out.below HB3.out⟩
  clear hown hrows hb3 htab hcells HR HB2 htl
  obtain ⟨n, hn⟩ : ∃ n, RS.length = n := ⟨_, rfl⟩
  rw [hn] at hn300 hpos ⊢
  have HN := hidP hn
  clear hn hn0
  go_wp2_with fail
  go_loopw [49] (fun i wr => ∃ k : Nat, k ≤ n ∧ i = .int .i64 k ∧ Below w3.heap.size w3 wr) (fun i _ => n - (intOf i).toNat)
  case atStart => exact ⟨0, Nat.zero_le _, rfl, Below.refl _ _⟩
  case round =>
    obtain ⟨k, hk, rfl, hbr⟩ := hrel
    by_cases hk' : k < n
    · obtain ⟨b, y, t1, t2⟩ := (HA.out.tab.below hbr) k (by rw [HN.out]; exact hk')
      have t3 := t2 k (by rw [HN.out]; exact hk')
      rw [excl_self (HOK.out _ (List.getElem_mem _))] at t3
      rw [HN.out] at t1
      have hz1 := cellLt t1
      have hz2 := cellLt t3
      dsimp only at hz1 hz2
      have hki : (k : Int) < n := by omega
      clear t2
      go_wp2_with fail
      go_roundw
      case rel => exact ⟨k + 1, by omega, by go_num, (by repeat (first | exact Below.refl _ _ | assumption | refine Below.drew ?_ | refine bdrewN ?_ _ | refine Below.setCell ?_ (by first | omega | (simp; done) | (simp; omega)) _ | refine Below.alloc ?_ (by first | omega | (simp; done) | (simp; omega)) _))⟩
      case measure => simp [intOf]; omega
    · have hki : ¬ (k : Int) < n := by omega
      go_wp2_with fail
      clear hk hki hk'
      go_loopw [11] (fun i wq => ∃ m : Nat, m ≤ 12 ∧ i = .int .i64 m ∧ Below w3.heap.size w3 wq) (fun i _ => 12 - (intOf i).toNat)
      case atStart => exact ⟨0, by omega, rfl, hbr⟩
      case round =>
        clear hbr
        obtain ⟨m, hm12, rfl, hbq⟩ := hrel
        by_cases hmm : m < 12
        · have hmi : (m : Int) < 12 := by omega
          have hposi : (0 : Int) < n := by omega
          have HAq := hidP (HA.out.below hbq)
          have HBq := hidP hbq
          clear hbq
          go_wp2_with fail
          refine (wByte_any ma mc ms m wr HAq.out.more (by omega)).mono ?_
          rintro e w4 ⟨x, hx, rfl, hb4⟩
          obtain ⟨a, ha, hal⟩ := rem_nat x hposi
          have HB4 := hidP hb4
          clear hb4
          have hwb := wByte_any ma mc ms (m + 12) w4 (HAq.out.below HB4.out).more (by omega)
          rw [Int.natCast_add] at hwb
          have HWB := hidP hwb
          clear hwb
          go_wp2_with fail
          refine HWB.out.mono ?_
          clear HWB
          rintro e w5 ⟨y, hy, rfl, hb5⟩
          obtain ⟨b, hbb, hbl⟩ := rem_nat y hposi
          have HB5 : Hid (Below w3.heap.size w3 w5) := (HBq.out.trans (HB4.out.mono HBq.out.size)).trans (hb5.mono (Nat.le_trans HBq.out.size HB4.out.size))
          have HA5 := hidP (HA.out.below HB5.out)
          clear hb5 HAq HB4 HBq
          have han : a < RS.length := by rw [HN.out]; omega
          have hbn : b < RS.length := by rw [HN.out]; omega
          obtain ⟨ta, tya, ta1, ta2⟩ := HA5.out.tab a han
          obtain ⟨tb, tyb, tb1, tb2⟩ := HA5.out.tab b hbn
          have tab := ta2 b hbn
          have tba := tb2 a han
          rw [HN.out] at ta1 tb1
          obtain ⟨da, rca, rla⟩ := HA5.out.cells a han
          obtain ⟨db, rcb, rlb⟩ := HA5.out.cells b hbn
          have oka := HOK.out _ (List.getElem_mem han)
          have okb := HOK.out _ (List.getElem_mem hbn)
          generalize RS[a] = A at tab tba rca rla oka
          generalize RS[b] = B at tab tba rcb rlb okb
          have HLA := hidP rla
          have HLB := hidP rlb
          have HKA := hidP oka
          have HKB := hidP okb
          obtain ⟨v, hv⟩ : ∃ v, exclF A B = v := ⟨_, rfl⟩
          obtain ⟨v', hv'⟩ : ∃ v', exclF B A = v' := ⟨_, rfl⟩
          rw [hv] at tab
          rw [hv'] at tba
          have HV := hidP hv
          have hvv : (v = 0 ∧ v' = 0) ∨ ((v == 0) = false ∧ (v' == 0) = false) := by
            by_cases h0 : v = 0
            · exact Or.inl ⟨h0, by rw [← hv']; exact excl_symm0 (hv.trans h0)⟩
            · refine Or.inr ⟨by simpa using h0, ?_⟩
              rw [beq_eq_false_iff_ne]
              intro e
              exact h0 (by rw [← hv]; exact excl_symm0 (hv'.trans e))
          have HE1 : Hid (∀ u : World, Below w5.heap.size w5 u → Calls Try.prog 13 #[.agg #[.int .i64 A.start, .int .i64 A.stop, .slice da.a0 A.steps.length da.c0, .slice da.a1 A.lies.length da.c1, .slice da.a2 A.crosses.length da.c2, .slice da.a3 A.parts.length da.c3, .slice da.a4 A.over.length da.c4, .slice da.a5 A.flanks.length da.c5], .agg #[.int .i64 B.start, .int .i64 B.stop, .slice db.a0 B.steps.length db.c0, .slice db.a1 B.lies.length db.c1, .slice db.a2 B.crosses.length db.c2, .slice db.a3 B.parts.length db.c3, .slice db.a4 B.over.length db.c4, .slice db.a5 B.flanks.length db.c5]] u fun e w' => e = .returned (.int .i64 v) ∧ Below u.heap.size u w') := fun u hu => by
            rw [← HV.out]
            exact implExclude_any da db A B u (HLA.out.below hu) (HLB.out.below hu) HKA.out.short HKB.out.short HKA.out.wf HKB.out.wf
          have HE2 : Hid (∀ u : World, Below w5.heap.size w5 u → Calls Try.prog 14 #[.agg #[.int .i64 A.start, .int .i64 A.stop, .slice da.a0 A.steps.length da.c0, .slice da.a1 A.lies.length da.c1, .slice da.a2 A.crosses.length da.c2, .slice da.a3 A.parts.length da.c3, .slice da.a4 A.over.length da.c4, .slice da.a5 A.flanks.length da.c5], .agg #[.int .i64 B.start, .int .i64 B.stop, .slice db.a0 B.steps.length db.c0, .slice db.a1 B.lies.length db.c1, .slice db.a2 B.crosses.length db.c2, .slice db.a3 B.parts.length db.c3, .slice db.a4 B.over.length db.c4, .slice db.a5 B.flanks.length db.c5]] u fun e w' => e = .returned (.int .i64 v) ∧ Below u.heap.size u w') := fun u hu => by
            rw [← HV.out]
            exact specExclude_any da db A B u (HLA.out.below hu) (HLB.out.below hu) HKA.out.short HKB.out.short
          have hai : (a : Int) < n := hal
          have hbi : (b : Int) < n := hbl
          have HCA := hidP rca
          have HCB := hidP rcb
          clear ta2 tb2 rla rlb oka okb hv hv' rca rcb HA5
          go_upto_region 20 with fail
          have a0 := Later.cell HCA.out.k0
          have a1 := Later.cell HCA.out.k1
          have a2 := Later.cell HCA.out.k2
          have a3 := Later.cell HCA.out.k3
          have a4 := Later.cell HCA.out.k4
          have a5 := Later.cell HCA.out.k5
          have a6 := Later.cell HCA.out.k6
          have a7 := Later.cell HCA.out.k7
          have b0 := Later.cell HCB.out.k0
          have b1 := Later.cell HCB.out.k1
          have b2 := Later.cell HCB.out.k2
          have b3 := Later.cell HCB.out.k3
          have b4 := Later.cell HCB.out.k4
          have b5 := Later.cell HCB.out.k5
          have b6 := Later.cell HCB.out.k6
          have b7 := Later.cell HCB.out.k7
          have m1 := Later.cell ta1
          have m2 := Later.cell tb1
          have m3 := Later.cell tba
          have hne := later_some w5
          rcases hvv with ⟨hv0, hv0'⟩ | ⟨hv1, hv1'⟩
          · subst hv0 hv0'
            refine wp_region_later (by kernel_rfl) (by kernel_rfl) ?_
            iterate 9 (go_big_quiet_step (fail))
            go_big_quiet_step ((rename_i u; exact Later.calls u (HE1.out u.val u.2)))
            iterate 24 (go_big_quiet_step (fail))
            go_big_quiet_step ((rename_i u; exact Later.calls u (HE2.out u.val u.2)))
            iterate 2 (go_big_quiet_step (fail))
            refine wpQuiet_nil ?_
            intro _ hw'
            obtain ⟨u, hw''⟩ := hw'
            subst hw''
            have hbu := u.2
            generalize u.val = w6 at hbu ⊢
            clear a0 a1 a2 a3 a4 a5 a6 a7 b0 b1 b2 b3 b4 b5 b6 b7 m1 m2 m3 hne HE1 HE2
            have HB6 := hidP (HB5.out.trans (hbu.mono HB5.out.size))
            have HZ := hidP (excl_zero HV.out)
            have HCA6 := hidP (HCA.out.below hbu)
            have HCB6 := hidP (HCB.out.below hbu)
            have HLA6 := hidP (HLA.out.below hbu)
            have HLB6 := hidP (HLB.out.below hbu)
            clear hbu HCA HCB HLA HLB ta1 tb1 tab tba
            have k5 := HCA6.out.k5
            obtain ⟨b3, o3, h3a, hpc6⟩ := HLA6.out.parts.2.resolve_left HKA.out.some_
            rw [h3a] at k5
            have HPC := hidP hpc6
            clear h3a hpc6
            have hz5 := cellLt k5
            dsimp only at hz5
            have hpl := HLA6.out.parts.1
            unfold maxLen at hpl
            go_wp2_with fail
            go_loopw [145] (fun i wp => ∃ q : Nat, q ≤ A.parts.length ∧ i = .int .i64 q ∧ Below w6.heap.size w6 wp) (fun i _ => A.parts.length - (intOf i).toNat)
            case atStart => exact ⟨0, Nat.zero_le _, rfl, Below.refl _ _⟩
            case round =>
              obtain ⟨q, hq, rfl, hbp⟩ := hrel
              by_cases hq' : q < A.parts.length
              · obtain ⟨p0, p1, p2⟩ := (HPC.out.below hbp) q hq'
                have hpo := HKA.out.parts _ (List.getElem_mem hq')
                have hin1 := fun at_ h0 h1 => in_none (at_ := at_) HZ.out.1 (List.getElem_mem hq') h0 h1
                have hin2 := fun at_ h0 h1 => in_none (at_ := at_) HZ.out.2.2.2.2 (List.getElem_mem hq') h0 h1
                generalize A.parts[q] = pt at p0 p1 p2 hpo hin1 hin2
                obtain ⟨hlo0, hlohi, hhi⟩ := hpo
                have HI1 := hidP hin1
                have HI2 := hidP hin2
                have HBp := hidP hbp
                have hzp := cellLt p0
                dsimp only at hzp
                have hqi : (q : Int) < A.parts.length := by omega
                have hbps := hbp.size
                clear hin1 hin2 hbp
                go_wp2_with fail
                generalize hWP : World.alloc wr _ = WP
                have P0 : WP.cell? ⟨wr.heap.size, 0, none⟩ = some (.int .i64 pt.piece) := by rw [← hWP]; simp [go_sem]
                have P1 : WP.cell? ⟨wr.heap.size, 1, none⟩ = some (.int .i64 pt.lo) := by rw [← hWP]; simp [go_sem]
                have P2 : WP.cell? ⟨wr.heap.size, 2, none⟩ = some (.int .i64 pt.hi) := by rw [← hWP]; simp [go_sem]
                have hbWP : Below wr.heap.size wr WP := by rw [← hWP]; exact (Below.refl _ _).alloc (Nat.le_refl _) _
                have HBP : Hid (Below w6.heap.size w6 WP) := HBp.out.trans (hbWP.mono hbps)
                obtain ⟨PB, hPB⟩ : ∃ PB, wr.heap.size = PB := ⟨_, rfl⟩
                rw [hPB] at P0 P1 P2 ⊢
                clear hWP hbWP hPB p0 p1 p2
                go_loopw [17] (fun av wi => ∃ at_ : Int, av = .int .i64 at_ ∧ pt.lo ≤ at_ ∧ at_ ≤ 100000000 ∧ Below WP.heap.size WP wi) (fun av _ => (pt.hi + 1 - intOf av).toNat)
                case atStart => exact ⟨pt.lo, rfl, by omega, by omega, Below.refl _ _⟩
                case round =>
                  obtain ⟨at_, rfl, hat0, hat1, hbi⟩ := hrel
                  have q0 := cell_later hbi P0
                  have q1 := cell_later hbi P1
                  have q2 := cell_later hbi P2
                  have hzq := cellLt q0
                  dsimp only at hzq
                  have HBi : Hid (Below w6.heap.size w6 wr) := HBP.out.trans (hbi.mono HBP.out.size)
                  by_cases hat : at_ ≤ pt.hi
                  · have c5 := (HCB6.out.below HBi.out).k5
                    have c6 := (HCB6.out.below HBi.out).k6
                    have HW1 : Hid (∀ u : World, Below wr.heap.size wr u → Calls Try.prog 15 #[.slice db.a3 B.parts.length db.c3, .int .i64 pt.piece, .int .i64 at_] u fun e w' => e = .returned (.bool false) ∧ Below u.heap.size u w') := fun u hu => by
                      rw [← HI1.out at_ hat0 hat]
                      exact wIn_any db.a3 db.c3 B.parts pt.piece at_ u ((HLB6.out.parts.below HBi.out).below hu)
                    have HW2 : Hid (∀ u : World, Below wr.heap.size wr u → Calls Try.prog 15 #[.slice db.a4 B.over.length db.c4, .int .i64 pt.piece, .int .i64 at_] u fun e w' => e = .returned (.bool false) ∧ Below u.heap.size u w') := fun u hu => by
                      rw [← HI2.out at_ hat0 hat]
                      exact wIn_any db.a4 db.c4 B.over pt.piece at_ u ((HLB6.out.over.below HBi.out).below hu)
                    go_upto_region 29 with fail
                    have l5 := Later.cell c5
                    have l6 := Later.cell c6
                    have l0 := Later.cell q0
                    have hne := later_some wr
                    refine wp_region_later (by kernel_rfl) (by kernel_rfl) ?_
                    iterate 8 (go_big_quiet_step (fail))
                    go_big_quiet_step ((rename_i u; exact Later.calls u (HW1.out u.val u.2)))
                    iterate 9 (go_big_quiet_step (fail))
                    go_big_quiet_step ((rename_i u; exact Later.calls u (HW2.out u.val u.2)))
                    iterate 1 (go_big_quiet_step (fail))
                    refine wpQuiet_nil ?_
                    intro _ hw'
                    obtain ⟨u, hw''⟩ := hw'
                    subst hw''
                    have hbu := u.2
                    generalize u.val = w7 at hbu ⊢
                    replace q1 := cell_later hbu q1
                    replace q2 := cell_later hbu q2
                    have hbz := hbu.size
                    have HB7 := hidP (hbi.trans (hbu.mono hbi.size))
                    clear l5 l6 l0 hne HW1 HW2 hbu c5 c6 q0 hbi
                    go_wp2_with fail
                    go_roundw
                    case rel => exact ⟨_, rfl, by omega, by omega, HB7.out⟩
                    case measure => simp only [intOf]; omega
                  · have hat' : ¬ at_ ≤ pt.hi := hat
                    go_wp2_with fail
                    go_roundw
                    case rel => exact ⟨q + 1, by omega, by go_num, HBi.out⟩
                    case measure => simp [intOf]; omega
              · have hqi : ¬ (q : Int) < A.parts.length := by omega
                have HBp := hidP hbp
                obtain ⟨NA, hNA⟩ : ∃ NA, needsF A.lies A.flanks = NA := ⟨_, rfl⟩
                obtain ⟨NB, hNB⟩ : ∃ NB, needsF B.lies B.flanks = NB := ⟨_, rfl⟩
                have HWN : Hid (wantL NA NB = false) := by
                  have h := HZ.out.2.2.1
                  rw [hNA, hNB] at h
                  exact h
                have hlA : NA.length ≤ 2097152 := by
                  rw [← hNA]
                  have h := needs_len A.flanks A.lies
                  have h1 := HKA.out.short.lies
                  have h2 := HKA.out.short.flanks
                  unfold needsF
                  omega
                have hlB : NB.length ≤ 2097152 := by
                  rw [← hNB]
                  have h := needs_len B.flanks B.lies
                  have h1 := HKB.out.short.lies
                  have h2 := HKB.out.short.flanks
                  unfold needsF
                  omega
                have HNA : Hid (∀ u : World, Below w6.heap.size w6 u → Calls Try.prog 16 #[.agg #[.int .i64 A.start, .int .i64 A.stop, .slice da.a0 A.steps.length da.c0, .slice da.a1 A.lies.length da.c1, .slice da.a2 A.crosses.length da.c2, .slice da.a3 A.parts.length da.c3, .slice da.a4 A.over.length da.c4, .slice da.a5 A.flanks.length da.c5]] u fun e w' => ∃ x y, e = .returned (.slice x NA.length y) ∧ EndsAt w' x NA ∧ Below u.heap.size u w') := fun u hu => by
                  rw [← hNA]
                  refine Calls.mono (implNeeds_any da A u (HLA6.out.below hu).lies (HLA6.out.below hu).flanks HKA.out.short.lies HKA.out.short.flanks HKA.out.wf (HLA6.out.below hu).nil1) ?_
                  rintro e w' ⟨x, y, he, hown, hbw⟩
                  obtain ⟨a', cap', e1, hE, _, _⟩ := ownE hown (by rw [hNA]; unfold maxLen; omega)
                  injection e1 with e1 _ _
                  subst e1
                  exact ⟨x, y, he, hE, hbw⟩
                have HNB : Hid (∀ u : World, Below w6.heap.size w6 u → Calls Try.prog 16 #[.agg #[.int .i64 B.start, .int .i64 B.stop, .slice db.a0 B.steps.length db.c0, .slice db.a1 B.lies.length db.c1, .slice db.a2 B.crosses.length db.c2, .slice db.a3 B.parts.length db.c3, .slice db.a4 B.over.length db.c4, .slice db.a5 B.flanks.length db.c5]] u fun e w' => ∃ x y, e = .returned (.slice x NB.length y) ∧ EndsAt w' x NB ∧ Below u.heap.size u w') := fun u hu => by
                  rw [← hNB]
                  refine Calls.mono (implNeeds_any db B u (HLB6.out.below hu).lies (HLB6.out.below hu).flanks HKB.out.short.lies HKB.out.short.flanks HKB.out.wf (HLB6.out.below hu).nil1) ?_
                  rintro e w' ⟨x, y, he, hown, hbw⟩
                  obtain ⟨a', cap', e1, hE, _, _⟩ := ownE hown (by rw [hNB]; unfold maxLen; omega)
                  injection e1 with e1 _ _
                  subst e1
                  exact ⟨x, y, he, hE, hbw⟩
                obtain ⟨a0, a1, a2, a3, a4, a5, a6, a7⟩ := HCA6.out.below hbp
                have hza := cellLt a0
                dsimp only at hza
                clear hNA hNB HZ hbp
                go_wp2_with fail
                refine (HNA.out wr HBp.out).mono ?_
                clear a0 a1 a2 a3 a4 a5 a6 a7
                rintro e w8 ⟨xa, ya, rfl, hEA, hb8⟩
                have HEA := hidP hEA
                have HB8 : Hid (Below w6.heap.size w6 w8) := HBp.out.trans (hb8.mono HBp.out.size)
                clear hEA hb8 HBp HNA
                go_wp2_with fail
                go_loopw [191] (fun i wq => ∃ r : Nat, r ≤ NA.length ∧ i = .int .i64 r ∧ Below w8.heap.size w8 wq) (fun i _ => NA.length - (intOf i).toNat)
                case atStart => exact ⟨0, Nat.zero_le _, rfl, Below.refl _ _⟩
                case round =>
                  obtain ⟨r, hr, rfl, hb9⟩ := hrel
                  by_cases hr' : r < NA.length
                  · obtain ⟨b4, o4, rfl, hec⟩ := HEA.out.2.resolve_left (fun h => by rw [h] at hr'; exact absurd hr' (Nat.not_lt_zero _))
                    obtain ⟨e0, e1⟩ := (hec.below hb9) r hr'
                    have hw1 := fun y hy => want_none HWN.out (List.getElem_mem hr') (y := y) hy
                    generalize NA[r] = la at e0 e1 hw1
                    have HW1 := hidP hw1
                    have hri : (r : Int) < NA.length := by omega
                    have hze := cellLt e0
                    dsimp only at hze
                    have HB9 : Hid (Below w6.heap.size w6 wr) := HB8.out.trans (hb9.mono HB8.out.size)
                    obtain ⟨c0, c1, c2, c3, c4, c5, c6, c7⟩ := HCB6.out.below HB9.out
                    have hzc := cellLt c0
                    dsimp only at hzc
                    have hb9s := hb9.size
                    clear hec hw1
                    go_wp2_with fail
                    generalize hWL : World.alloc wr _ = WL
                    have L0 : WL.cell? ⟨wr.heap.size, 0, none⟩ = some (.int .i64 la.piece) := by rw [← hWL]; simp [go_sem]
                    have L1 : WL.cell? ⟨wr.heap.size, 1, none⟩ = some (.int .i64 la.side) := by rw [← hWL]; simp [go_sem]
                    have hbWL : Below wr.heap.size wr WL := by rw [← hWL]; exact (Below.refl _ _).alloc (Nat.le_refl _) _
                    have HBL : Hid (Below w8.heap.size w8 WL) := hb9.trans (hbWL.mono hb9s)
                    have HBL6 : Hid (Below w6.heap.size w6 WL) := HB9.out.trans (hbWL.mono HB9.out.size)
                    clear hWL hbWL c0 c1 c2 c3 c4 c5 c6 c7 e0 e1 hb9
                    obtain ⟨LB, hLB⟩ : ∃ LB, wr.heap.size = LB := ⟨_, rfl⟩
                    rw [hLB] at L0 L1 ⊢
                    clear hLB
                    refine (HNB.out WL HBL6.out).mono ?_
                    rintro e w10 ⟨xb, yb, rfl, hEB, hb10⟩
                    have HEB := hidP hEB
                    have K0 := cell_later hb10 L0
                    have K1 := cell_later hb10 L1
                    have HB10 : Hid (Below w8.heap.size w8 w10) := HBL.out.trans (hb10.mono HBL.out.size)
                    clear hEB hb10 L0 L1
                    go_wp2_with fail
                    go_loopw [201] (fun i wq => ∃ s : Nat, s ≤ NB.length ∧ i = .int .i64 s ∧ Below w10.heap.size w10 wq) (fun i _ => NB.length - (intOf i).toNat)
                    case atStart => exact ⟨0, Nat.zero_le _, rfl, Below.refl _ _⟩
                    case round =>
                      obtain ⟨s, hs, rfl, hb11⟩ := hrel
                      by_cases hs' : s < NB.length
                      · obtain ⟨b5, o5, rfl, hec⟩ := HEB.out.2.resolve_left (fun h => by rw [h] at hs'; exact absurd hs' (Nat.not_lt_zero _))
                        obtain ⟨f0, f1⟩ := (hec.below hb11) s hs'
                        have hw2 := HW1.out _ (List.getElem_mem hs')
                        generalize NB[s] = lb at f0 f1 hw2
                        have k0 := cell_later hb11 K0
                        have k1 := cell_later hb11 K1
                        have hsi : (s : Int) < NB.length := by omega
                        have hzf := cellLt f0
                        have hzk := cellLt k0
                        dsimp only at hzf hzk
                        have hb11s := hb11.size
                        clear hec
                        have hcs : (la.piece == lb.piece) = false ∨ ((la.piece == lb.piece) = true ∧ (la.side != lb.side) = false) := by
                          revert hw2
                          cases (la.piece == lb.piece) <;> cases (la.side != lb.side) <;> simp
                        clear hw2
                        rcases hcs with g1 | ⟨g1, g2⟩
                        all_goals
                          go_wp2_with fail
                          go_roundw
                          case rel => exact ⟨s + 1, by omega, by go_num, (by repeat (first | exact Below.refl _ _ | assumption | refine Below.drew ?_ | refine bdrewN ?_ _ | refine Below.setCell ?_ (by first | omega | (simp; done) | (simp; omega)) _ | refine Below.alloc ?_ (by first | omega | (simp; done) | (simp; omega)) _))⟩
                          case measure => simp [intOf]; omega
                      · have hsi : ¬ (s : Int) < NB.length := by omega
                        have HB11 : Hid (Below w8.heap.size w8 wr) := HB10.out.trans (hb11.mono HB10.out.size)
                        clear hb11
                        go_wp2_with fail
                        go_roundw
                        case rel => exact ⟨r + 1, by omega, by go_num, HB11.out⟩
                        case measure => simp [intOf]; omega
                  · have hri : ¬ (r : Int) < NA.length := by omega
                    have HBE : Hid (Below w3.heap.size w3 wr) := (HB6.out.trans (HB8.out.mono HB6.out.size)).trans (hb9.mono (Nat.le_trans HB6.out.size HB8.out.size))
                    clear hb9
                    go_wp2_with fail
                    go_roundw
                    case rel => exact ⟨m + 1, by omega, by go_num, HBE.out⟩
                    case measure => simp [intOf]; omega
          · refine wp_region_later (by kernel_rfl) (by kernel_rfl) ?_
            iterate 9 (go_big_quiet_step (fail))
            go_big_quiet_step ((rename_i u; exact Later.calls u (HE1.out u.val u.2)))
            iterate 24 (go_big_quiet_step (fail))
            go_big_quiet_step ((rename_i u; exact Later.calls u (HE2.out u.val u.2)))
            iterate 2 (go_big_quiet_step (fail))
            refine wpQuiet_nil ?_
            intro _ hw'
            obtain ⟨u, hw''⟩ := hw'
            subst hw''
            have hbu := u.2
            generalize u.val = w6 at hbu ⊢
            have HB6 := hidP (HB5.out.trans (hbu.mono HB5.out.size))
            clear a0 a1 a2 a3 a4 a5 a6 a7 b0 b1 b2 b3 b4 b5 b6 b7 m1 m2 m3 hne HE1 HE2 hbu
            have hv2 : (v != 0) = true := by rw [bne, hv1]; rfl
            go_wp2_with fail
            go_roundw
            case rel => exact ⟨m + 1, by omega, by go_num, HB6.out⟩
            case measure => simp [intOf]; omega
        · have hmi : ¬ (m : Int) < 12 := by omega
          go_wp2_with fail
          go_ret
          exact ⟨rfl, HB3.out.trans (hbq.mono HB3.out.size)⟩

end Go.Proofs.Ytmkdgnmmebldgaa
