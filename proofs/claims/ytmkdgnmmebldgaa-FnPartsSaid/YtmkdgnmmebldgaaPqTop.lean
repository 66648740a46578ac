import Derived.Test.YtmkdgnmmebldgaaPq21
import Derived.Test.YtmkdgnmmebldgaaPq49
import Derived.Test.YtmkdgnmmebldgaaPq50
import Derived.Test.YtmkdgnmmebldgaaPq55
import Derived.Deep.DeepCutAuto
import Derived.Test.YtmkdgnmmebldgaaRows
import Derived.WalkKit
import Derived.ProofKit
import Derived.OpenShut
import Derived.ShutString
import Derived.ChangeOld
import Derived.Below
namespace Go.Proofs.Ytmkdgnmmebldgaa
open Go.RowKit Go.Deep
theorem routesF_few (ps : List MPiece) (js : List MJoint) (ss : List MPiece) (over : Int) : (routesF ps js ss over).length ≤ 300 := by
  rw [routesF_paths]
  split
  · rw [List.length_map]; exact pathsF_few ps js ss
  · simp
structure NetIn (w : World) (NB : Nat) (pa sa : Option Addr) (pc : Nat) (ps ss : List MPiece) : Prop where
  c0 : w.cell? ⟨NB, 0, none⟩ = some (.slice pa ps.length pc)
  pieces : PiecesAt w pa ps
  signals : PiecesAt w sa ss
theorem NetIn.below {w w' : World} {NB : Nat} {pa sa : Option Addr} {pc : Nat} {ps ss : List MPiece} (h : NetIn w NB pa sa pc ps ss) (hb : Below w.heap.size w w') : NetIn w' NB pa sa pc ps ss := ⟨cell_later hb h.c0, h.pieces.below hb, h.signals.below hb⟩
theorem RtParts.stopAt {ps ss : List MPiece} {over : Int} {r : MRoute} (h : RtParts ps ss over r) {M : Nat} (hM : r.steps.length = M + 1) : r.stop = -1 ∨ ∃ (b : Nat) (hb : b < ss.length), r.stop = b ∧ (if (r.steps[M]'(by omega)).side = -1 then (r.parts[M]'(by have := h.len; omega)).lo else (r.parts[M]'(by have := h.len; omega)).hi) = ss[b].speed ∧ (r.steps[M]'(by omega)).piece = ss[b].len ∧ (r.steps[M]'(by omega)).side = ss[b].brake := by
  have h1 := h.stop
  have e : r.steps.length - 1 = M := by omega
  simp only [e] at h1
  exact h1
set_option maxRecDepth 20000 in
set_option maxHeartbeats 8000000 in
theorem lawParts_any (ca : Option Addr) (cc : Nat) (bs : List Int) (w : World) (hb : Hid (BytesAt w ca bs)) :
    Calls Try.prog 4 #[.slice ca bs.length cc] w fun e w' => e = .returned (.bool true) ∧ Below w.heap.size w w' := by
  have hl1 := hb.out.len
  unfold maxLen at hl1
  go_enter Try.func4, Try.ntmps4
  by_cases h1 : (1048576 : Int) < bs.length
  · go_wp2_with fail
    go_ret
    exact ⟨rfl, Below.refl _ _⟩
  go_wp2_with fail
  refine (Drawn_any ca cc bs w hb.out.lie hb.out.small (by omega)).mono ?_
  rintro e w1 ⟨pa, pc, ja, jc, sa, sc, ps, js, ss, over, rfl, hP, hJ, hS, ho0, ho1, hbd⟩
  have HP := hidP hP
  have HJ := hidP hJ
  have HS := hidP hS
  have HB1 := hidP hbd
  clear hP hJ hS hbd
  go_wp2_with fail
  generalize hW : World.alloc w1 _ = W
  have hbW : Below w1.heap.size w1 W := by rw [← hW]; exact blo
  have N0 : W.cell? ⟨w1.heap.size, 0, none⟩ = some (.slice pa ps.length pc) := by rw [← hW]; simp [go_sem]
  have N1 : W.cell? ⟨w1.heap.size, 1, none⟩ = some (.slice ja js.length jc) := by rw [← hW]; simp [go_sem]
  obtain ⟨NB, hNB⟩ : ∃ NB, w1.heap.size = NB := ⟨_, rfl⟩
  have HBW := hidP hbW
  have HP1 := hidP (HP.out.below hbW)
  have HJ1 := hidP (HJ.out.below hbW)
  have HS1 := hidP (HS.out.below hbW)
  have HBa := hidP (HB1.out.trans (hbW.mono HB1.out.size))
  rw [hNB] at N0 N1 ⊢
  clear hW hbW HBW HP HJ HS hNB
  refine (implRoutes_any pa ja sa pc jc sc ps js ss over W HP1 HJ1 HS1).mono ?_
  rintro e w2 ⟨x, y, qs, rfl, hq, htab, hb2⟩
  obtain ⟨RS, hRS⟩ : ∃ RS, routesF ps js ss over = RS := ⟨_, rfl⟩
  have hn300 := routesF_few ps js ss over
  rw [hRS] at hn300 hq
  have hql : qs.length = RS.length := by rw [← hq, List.length_map]
  have HR : Hid (RoutesAt w2 x RS) := by
    have h := htab.routes (by omega)
    rw [hq] at h
    exact h
  have HRT : Hid (∀ r ∈ RS, RtParts ps ss over r) := by rw [← hRS]; exact routesF_parts ps js ss over
  rw [hql]
  replace N0 := cell_later hb2 N0
  replace N1 := cell_later hb2 N1
  have hzN := cellLt N0
  dsimp only at hzN
  have HP2 := hidP (HP1.out.below hb2)
  have HJ2 := hidP (HJ1.out.below hb2)
  have HS2 := hidP (HS1.out.below hb2)
  have HB2 := hidP (HBa.out.trans (hb2.mono HBa.out.size))
  have HRS := hidP hRS
  clear hq htab hql hb2 HP1 HJ1 HS1 HBa HB1 hRS
  go_wp2_with fail
  refine (specRoutes_any pa ja sa pc jc sc ps js ss over w2 HP2 HJ2 HS2).mono ?_
  rintro e w3 ⟨x2, c2, rfl, _, _, hb3⟩
  rw [HRS.out]
  obtain ⟨n, hn⟩ : ∃ n, RS.length = n := ⟨_, rfl⟩
  rw [hn] at hn300 ⊢
  have HN := hidP hn
  have HNI : Hid (NetIn w3 NB pa sa pc ps ss) := ⟨cell_later hb3 N0, HP2.out.below hb3, HS2.out.below hb3⟩
  have HR3 := hidP (HR.out.below hb3)
  have HB3 := hidP (HB2.out.trans (hb3.mono HB2.out.size))
  clear hn N0 N1 hzN hb3 HR HP2 HJ2 HS2 HB2
  go_wp2_with fail
  go_loopw [46] (fun i wr => ∃ k : Nat, k ≤ n ∧ i = .int .i64 k ∧ Below w3.heap.size w3 wr) (fun i _ => n - (intOf i).toNat)
  case atStart => exact ⟨0, Nat.zero_le _, rfl, Below.refl _ _⟩
  case round =>
    obtain ⟨k, hk, rfl, hbr⟩ := hrel
    by_cases hk' : k < n
    · have hki : (k : Int) < n := by omega
      obtain ⟨bl, ol, hx, hcells⟩ := (HR3.out.below hbr).2.resolve_left (fun h => by have := HN.out; rw [h] at this; simp at this; omega)
      have hkR : k < RS.length := by rw [HN.out]; exact hk'
      obtain ⟨d, rc, rl⟩ := hcells k hkR
      have hrt := HRT.out RS[k] (List.getElem_mem hkR)
      generalize RS[k] = r at rc rl hrt
      have HRT1 := hidP hrt
      have HL1 := hidP rl
      have HNI1 := hidP (HNI.out.below hbr)
      have HBr := hidP hbr
      have hbrz := hbr.size
      obtain ⟨k0, k1, k2, k3, k4, k5, k6, k7⟩ := rc
      have hzr := cellLt k0
      dsimp only at hzr
      subst hx
      clear hcells hrt rl hbr
      go_upto_region 10 with fail
      generalize hWQ : World.alloc wr _ = WQ
      have hbQ : Below wr.heap.size wr WQ := by rw [← hWQ]; exact blo
      have HRC : Hid (RouteCell WQ wr.heap.size 0 d r) := by
        rw [← hWQ]
        exact ⟨by simp [go_sem], by simp [go_sem], by simp [go_sem], by simp [go_sem], by simp [go_sem], by simp [go_sem], by simp [go_sem], by simp [go_sem]⟩
      have HLQ := hidP (HL1.out.below hbQ)
      have HNQ := hidP (HNI1.out.below hbQ)
      have HBQ := hidP (HBr.out.trans (hbQ.mono hbrz))
      obtain ⟨QB, hQB⟩ : ∃ QB, wr.heap.size = QB := ⟨_, rfl⟩
      rw [hQB] at HRC ⊢
      clear hWQ hbQ hQB k0 k1 k2 k3 k4 k5 k6 k7 hzr HL1 HNI1 HBr hbrz
      obtain ⟨L, hM⟩ : ∃ L, r.steps.length = L := ⟨_, rfl⟩
      have hM0 : 0 < L := by have := HRT1.out.s0; omega
      have hMf : L ≤ 202 := by have := HRT1.out.few; omega
      have hPM : r.parts.length = L := by rw [HRT1.out.len]; exact hM
      obtain ⟨M, hLM⟩ : ∃ M : Nat, (L : Int) - 1 = (M : Int) := ⟨L - 1, by omega⟩
      have HM := hidP hM
      have HPM := hidP hPM
      obtain ⟨b0, o0, ha0, hst⟩ := HLQ.out.steps.2.resolve_left (fun h => by rw [h] at hM; simp at hM; omega)
      obtain ⟨b3, o3, ha3, hpt⟩ := HLQ.out.parts.2.resolve_left (fun h => by rw [h] at hPM; simp at hPM; omega)
      obtain ⟨i, hi, hri, hp0, hat⟩ := HRT1.out.start
      obtain ⟨bp, op, hpa, hpc⟩ := HNQ.out.pieces.2.2.resolve_left (fun h => by obtain ⟨p, hp, _⟩ := HRT1.out.part 0 HRT1.out.s0; rw [h] at hp; simp at hp)
      obtain ⟨bs', os, hsa, hsc⟩ := HNQ.out.signals.2.2.resolve_left (fun h => by rw [h] at hi; simp at hi)
      subst hpa hsa
      have HST := hidP hst
      have HPT := hidP hpt
      have HPC := hidP hpc
      have HSC := hidP hsc
      have HAT := hidP hat
      have Q0 : WQ.cell? ⟨QB, 0, none⟩ = some (.int .i64 i) := by have h := HRC.out.k0; rw [hri] at h; exact h
      have Q2 : WQ.cell? ⟨QB, 2, none⟩ = some (.slice (some ⟨b0, o0, none⟩) L d.c0) := by have h := HRC.out.k2; rw [ha0, hM] at h; exact h
      have Q5 : WQ.cell? ⟨QB, 5, none⟩ = some (.slice (some ⟨b3, o3, none⟩) L d.c3) := by have h := HRC.out.k5; rw [ha3, hPM] at h; exact h
      have S0 : WQ.cell? ⟨b0, o0, none⟩ = some (.int .i64 ss[i].len) := by have h := (hst 0 HRT1.out.s0).1; rw [hp0] at h; simpa using h
      have s1 := (hsc i hi).2.1
      have HQ0 := hidP Q0
      have HQ2 := hidP Q2
      have HQ5 := hidP Q5
      have hii : (i : Int) < ss.length := by omega
      have hl0 : ((L : Int) == 0) = false := by rw [beq_eq_false_iff_ne]; omega
      have hzQ := cellLt Q0
      dsimp only at hzQ
      have hPP : ∃ P, ss[i].len = P := ⟨_, rfl⟩
      obtain ⟨P, hP⟩ := hPP
      rw [hP] at S0 s1
      have HRI := hidP hri
      clear hst hpt hpc hsc hat hp0 ha0 ha3 hM hPM hri
      have hnn : ((L : Int) != (L : Int)) = false := by simp
      have hPP2 : (P != P) = false := by simp
      go_big_quiet (fail)
      go_wp2_with fail
      clear S0 s1 Q0 Q2 Q5 hP hnn hPP2 hl0
      go_loopw [84] (fun c wx => ∃ m : Nat, m ≤ L ∧ c = .int .i64 m ∧ Below WQ.heap.size WQ wx) (fun c _ => L - (intOf c).toNat)
      case atStart => exact ⟨0, Nat.zero_le _, rfl, bdrewN (Below.refl _ _) _⟩
      case round =>
        obtain ⟨m, hm, rfl, hbx⟩ := hrel
        by_cases hm' : m < L
        · as_aux_lemma =>
          have hmi : (m : Int) < L := by omega
          have hpm : m < r.parts.length := by rw [HPM.out]; exact hm'
          have hsm : m < r.steps.length := by rw [HM.out]; exact hm'
          obtain ⟨p, hp, e1, e2, e3, e4, e5, e6, e7⟩ := HRT1.out.part m hsm
          obtain ⟨g0, g1, g2⟩ := HPT.out m hpm
          have f0 := (HST.out m hsm).1
          have f1 := (HST.out m hsm).2
          rw [e2] at g0
          rw [e1] at f0
          rw [HM.out] at e7
          generalize (r.parts[m]'hpm).lo = lo at g1 e3 e4 e7
          generalize (r.parts[m]'hpm).hi = hi at g2 e4 e5 e7
          generalize (r.steps[m]'hsm).side = sd at f1
          have n0 := cell_later hbx HNQ.out.c0
          have pl := cell_later hbx (HPC.out p hp).2.1
          generalize ps[p].len = L' at pl e5 e6 e7
          have q2 := cell_later hbx HQ2.out
          replace g0 := cell_later hbx g0
          replace g1 := cell_later hbx g1
          replace g2 := cell_later hbx g2
          replace f0 := cell_later hbx f0
          replace f1 := cell_later hbx f1
          have HE7 := hidP e7
          have HBX := hidP hbx
          clear e1 e2 e7 hbx hpm hsm
          have hz1 := cellLt q2
          have hz2 := cellLt f0
          have hz3 := cellLt g0
          dsimp only at hz1 hz2 hz3
          go_upto_region 17 with fail
          generalize hW5 : World.alloc (World.alloc wr _) _ = W5
          have hb5 : Below wr.heap.size wr W5 := by rw [← hW5]; exact blo
          have p0 : W5.cell? ⟨wr.heap.size, 0, none⟩ = some (.int .i64 (p : Int)) := by rw [← hW5]; simp [go_sem]
          have p1 : W5.cell? ⟨wr.heap.size, 1, none⟩ = some (.int .i64 lo) := by rw [← hW5]; simp [go_sem]
          have p2 : W5.cell? ⟨wr.heap.size, 2, none⟩ = some (.int .i64 hi) := by rw [← hW5]; simp [go_sem]
          have t0 : W5.cell? ⟨wr.heap.size + 1, 0, none⟩ = some (.int .i64 (p : Int)) := by rw [← hW5]; simp [go_sem]
          have n0' := cell_later hb5 n0
          have pl' := cell_later hb5 pl
          have HB5 : Hid (Below WQ.heap.size WQ W5) := HBX.out.trans (hb5.mono HBX.out.size)
          have hz5 : wr.heap.size + 1 < W5.heap.size := by rw [← hW5]; simp
          obtain ⟨PB, hPB⟩ : ∃ PB, wr.heap.size = PB := ⟨_, rfl⟩
          obtain ⟨SB, hSB⟩ : ∃ SB, PB + 1 = SB := ⟨_, rfl⟩
          rw [hPB] at p0 p1 p2 t0 ⊢
          rw [hSB] at t0 ⊢
          clear hW5 hb5 hz5 hPB hSB n0 pl q2 g0 g1 g2 f0 f1 hz1 hz2 hz3
          have v0 : ((p : Int) != (p : Int)) = false := by simp
          have v1 : decide (lo < 0) = false := by simpa using e3
          have v2 : decide (hi < lo) = false := by simpa using e4
          have v3 : decide (L' < hi) = false := by simpa using e5
          have v4 : (p : Int) < ps.length := by omega
          go_big_quiet (fail)
          go_upto_region 19 with fail
          clear v0 v1 v2 v3
          by_cases hm0 : 0 < m
          · by_cases hmM : m < M
            · have e8 := HE7.out hm0 (by omega)
              have v5 : (L' != L') = false := by simp
              go_big_quiet (fail)
              go_wp2_with fail
              go_roundw
              case rel => exact ⟨m + 1, by omega, by go_num, bdrewN HB5.out _⟩
              case measure => simp [intOf]; omega
            · have hmM' : ¬ m < M := hmM
              go_big_quiet (fail)
              go_wp2_with fail
              go_roundw
              case rel => exact ⟨m + 1, by omega, by go_num, bdrewN HB5.out _⟩
              case measure => simp [intOf]; omega
          · have hm0' : ¬ 0 < m := hm0
            go_big_quiet (fail)
            go_wp2_with fail
            go_roundw
            case rel => exact ⟨m + 1, by omega, by go_num, bdrewN HB5.out _⟩
            case measure => simp [intOf]; omega
        · have hmi : ¬ (m : Int) < L := by omega
          have HBX := hidP hbx
          have q5 := cell_later hbx HQ5.out
          have q2 := cell_later hbx HQ2.out
          have q0 := cell_later hbx HQ0.out
          have h0s : 0 < r.steps.length := HRT1.out.s0
          have h0p : 0 < r.parts.length := by rw [HPM.out]; omega
          have c1 : wr.cell? ⟨b3, o3 + 1, none⟩ = some (.int .i64 (r.parts[0]'h0p).lo) := by have h := cell_later hbx (HPT.out 0 h0p).2.1; simpa using h
          have c2 : wr.cell? ⟨b3, o3 + 2, none⟩ = some (.int .i64 (r.parts[0]'h0p).hi) := by have h := cell_later hbx (HPT.out 0 h0p).2.2; simpa using h
          have d1 : wr.cell? ⟨b0, o0 + 1, none⟩ = some (.int .i64 (r.steps[0]'h0s).side) := by have h := cell_later hbx (HST.out 0 h0s).2; simpa using h
          have s2 := cell_later hbx (HSC.out i hi).2.2.1
          have hat := HAT.out
          generalize (r.parts[0]'h0p).lo = lo at c1 hat
          generalize (r.parts[0]'h0p).hi = hi' at c2 hat
          generalize (r.steps[0]'h0s).side = sd at d1 hat
          generalize ss[i].speed = at0 at s2 hat
          have HAT0 := hidP hat
          have haa : (at0 != at0) = false := by simp
          clear hbx hat h0s h0p
          go_upto_if 156 with fail
          go_cut [13] (fun a wx => a = .int .i64 at0 ∧ wx = wr)
          case first =>
            by_cases hsd : sd = -1
            · have e := HAT0.out
              rw [if_pos hsd] at e
              subst hsd e
              go_wp2_with fail
              go_meet
              exact ⟨rfl, rfl⟩
            · have e := HAT0.out
              rw [if_neg hsd] at e
              subst e
              have hsd' : (sd == -1) = false := by simpa using hsd
              go_wp2_with fail
              go_meet
              exact ⟨rfl, rfl⟩
          case rest =>
            as_aux_lemma =>
            obtain ⟨rfl, hwc⟩ := hcut
            replace hwc := hwc.symm
            subst hwc
            have k1 : WQ.cell? ⟨QB, 1, none⟩ = some (.int .i64 r.stop) := HRC.out.k1
            obtain ⟨T, hT⟩ : ∃ T, r.stop = T := ⟨_, rfl⟩
            rw [hT] at k1
            have HT := hidP hT
            have HK1 := hidP k1
            replace k1 := cell_later HBX.out k1
            clear hT
            go_upto_if 172 with fail
            go_cut [] (fun wx => Below WQ.heap.size WQ wx)
            case first =>
              as_aux_lemma =>
              rcases HRT1.out.stopAt (M := M) (by rw [HM.out]; omega) with hs | ⟨b, hbs, hs, ha2, hp2, hw2⟩
              · have hT1 : T = -1 := by rw [← HT.out]; exact hs
                subst hT1
                go_wp2_with fail
                go_meet
                exact HBX.out
              · have hT1 : T = b := by rw [← HT.out]; exact hs
                subst hT1
                have hMs : M < r.steps.length := by rw [HM.out]; omega
                have hMp : M < r.parts.length := by rw [HPM.out]; omega
                have l1 := cell_later HBX.out (HPT.out M hMp).2.1
                have l2 := cell_later HBX.out (HPT.out M hMp).2.2
                have m1 := cell_later HBX.out (HST.out M hMs).1
                have m2 := cell_later HBX.out (HST.out M hMs).2
                have g1 := cell_later HBX.out (HSC.out b hbs).2.1
                have g2 := cell_later HBX.out (HSC.out b hbs).2.2.1
                have g3 := cell_later HBX.out (HSC.out b hbs).2.2.2
                generalize (r.parts[M]'hMp).lo = lo2 at l1 ha2
                generalize (r.parts[M]'hMp).hi = hi2 at l2 ha2
                rw [hp2] at m1
                rw [hw2] at m2 ha2
                generalize ss[b].len = sp at m1 g1
                generalize ss[b].speed = at2 at ha2 g2
                generalize ss[b].brake = sd2 at m2 ha2 g3
                have HA2 := hidP ha2
                have hbi : (b : Int) < ss.length := by omega
                have hMl : M < L := by omega
                have hMi : (M : Int) < L := by omega
                have v1 : (at2 != at2) = false := by simp
                have v2 : (sp != sp) = false := by simp
                have v3 : (sd2 != sd2) = false := by simp
                clear hp2 hw2 ha2 hs hMs hMp
                go_upto_if 185 with fail
                go_cut [14] (fun a wx => a = .int .i64 at2 ∧ wx = wr)
                case first =>
                  by_cases hsd : sd2 = -1
                  · have e := HA2.out
                    rw [if_pos hsd] at e
                    subst hsd e
                    go_wp2_with fail
                    go_meet
                    exact ⟨rfl, rfl⟩
                  · have e := HA2.out
                    rw [if_neg hsd] at e
                    subst e
                    have hsd' : (sd2 == -1) = false := by simpa using hsd
                    go_wp2_with fail
                    go_meet
                    exact ⟨rfl, rfl⟩
                case rest =>
                  as_aux_lemma =>
                  obtain ⟨rfl, hwc⟩ := hcut
                  replace hwc := hwc.symm
                  subst hwc
                  go_upto_region 31 with fail
                  go_big_quiet (fail)
                  go_wp2_with fail
                  go_meet
                  exact bdrewN HBX.out _
            case rest =>
              as_aux_lemma =>
              have HBY := hidP hcut
              have k6 : WQ.cell? ⟨QB, 6, none⟩ = some (.slice d.a4 r.over.length d.c4) := HRC.out.k6
              obtain ⟨V, hV⟩ : ∃ V, r.over.length = V := ⟨_, rfl⟩
              obtain ⟨A4, hA4⟩ : ∃ A4, d.a4 = A4 := ⟨_, rfl⟩
              rw [hV, hA4] at k6
              have HK6 := hidP k6
              replace k6 := cell_later hcut k6
              have HV := hidP hV
              have HOV := hidP HLQ.out.over
              rw [hA4] at HOV
              have hV0 : V ≤ maxLen := by rw [← hV]; exact HOV.out.1
              unfold maxLen at hV0
              clear hV hA4 hcut k1 q0 q2 q5 c1 c2 d1 s2 haa
              go_wp2_with fail
              go_loopw [15, 233] (fun s c wx => ∃ m : Nat, m ≤ V ∧ s = .int .i64 (lenSum r.over m) ∧ c = .int .i64 m ∧ Below WQ.heap.size WQ wx) (fun _ c _ => V - (intOf c).toNat)
              case atStart => exact ⟨0, Nat.zero_le _, by simp [lenSum], rfl, HBY.out⟩
              case round =>
                obtain ⟨m3, hm3, rfl, rfl, hb3⟩ := hrel
                by_cases hm3' : m3 < V
                · as_aux_lemma =>
                  have hm3i : (m3 : Int) < V := by omega
                  have hmo : m3 < r.over.length := by rw [HV.out]; exact hm3'
                  obtain ⟨b6, o6, ha6, hov⟩ := HOV.out.2.resolve_left (fun h => by rw [h] at hmo; simp at hmo)
                  subst ha6
                  obtain ⟨g0, g1, g2⟩ := hov m3 hmo
                  replace g0 := cell_later hb3 g0
                  replace g1 := cell_later hb3 g1
                  replace g2 := cell_later hb3 g2
                  have hs1 := lenSum_succ hmo
                  have hb0 := HRT1.out.sum m3 (by omega)
                  have hb1 := HRT1.out.sum (m3 + 1) (by omega)
                  generalize (r.over[m3]'hmo).piece = pp at g0
                  generalize (r.over[m3]'hmo).lo = lo3 at g1 hs1
                  generalize (r.over[m3]'hmo).hi = hi3 at g2 hs1
                  have HS1 := hidP hs1
                  generalize lenSum r.over m3 = S at hs1 hb0 HS1
                  rw [hs1] at hb1
                  have hd0 : -200 ≤ hi3 - lo3 := by omega
                  have hd1 : hi3 - lo3 ≤ 200 := by omega
                  have hS0 := hb0.1
                  have hS1 : S ≤ 200 := by omega
                  have hT0 := hb1.1
                  have hT1 : S + (hi3 - lo3) ≤ 200 := by omega
                  have hz3 := cellLt g0
                  dsimp only at hz3
                  clear hov hs1 hb0 hb1 hmo
                  go_wp2_with fail
                  go_roundw
                  case rel => exact ⟨m3 + 1, by omega, by rw [HS1.out], by go_num, hb3.trans (((Below.refl _ _).alloc (Nat.le_refl _) _).mono hb3.size)⟩
                  case measure => simp [intOf]; omega
                · as_aux_lemma =>
                  have hm3i : ¬ (m3 : Int) < V := by omega
                  have hmV : V = m3 := by omega
                  subst hmV
                  have hS := (HRT1.out.sum V (by rw [HV.out]; exact Nat.le_refl _)).2
                  generalize lenSum r.over V = S at hS ⊢
                  have hS' : ¬ over < S := by omega
                  have k1 := cell_later hb3 HK1.out
                  have k6 := cell_later hb3 HK6.out
                  have HO0 : Hid (T < 0 → V = 0) := fun h => by rw [← HV.out, HRT1.out.over0 (by rw [HT.out]; exact h)]; rfl
                  go_upto_region 39 with fail
                  go_cut [258] (fun a wx => a = .bool false ∧ wx = wr)
                  case first =>
                    by_cases hT0 : T < 0
                    · have hV00 := HO0.out hT0
                      subst hV00
                      go_wp2_with fail
                      go_meet
                      exact ⟨rfl, rfl⟩
                    · have hT0' : ¬ T < 0 := hT0
                      go_wp2_with fail
                      go_meet
                      exact ⟨rfl, rfl⟩
                  case rest =>
                    as_aux_lemma =>
                    obtain ⟨rfl, hwc⟩ := hcut
                    replace hwc := hwc.symm
                    subst hwc
                    have k3 : WQ.cell? ⟨QB, 3, none⟩ = some (.slice d.a1 r.lies.length d.c1) := HRC.out.k3
                    have k7 : WQ.cell? ⟨QB, 7, none⟩ = some (.slice d.a5 r.flanks.length d.c5) := HRC.out.k7
                    obtain ⟨G, hG⟩ : ∃ G, r.lies.length = G := ⟨_, rfl⟩
                    obtain ⟨F, hF⟩ : ∃ F, r.flanks.length = F := ⟨_, rfl⟩
                    obtain ⟨A1, hA1⟩ : ∃ A1, d.a1 = A1 := ⟨_, rfl⟩
                    obtain ⟨A5, hA5⟩ : ∃ A5, d.a5 = A5 := ⟨_, rfl⟩
                    rw [hG, hA1] at k3
                    rw [hF, hA5] at k7
                    have HK7 := hidP k7
                    have HLI := hidP HLQ.out.lies
                    rw [hA1] at HLI
                    have HFL := hidP HLQ.out.flanks
                    rw [hA5] at HFL
                    have HG := hidP hG
                    have HF := hidP hF
                    have hG0 : G ≤ maxLen := by rw [← hG]; exact HLI.out.1
                    have hF0 : F ≤ maxLen := by rw [← hF]; exact HFL.out.1
                    unfold maxLen at hG0 hF0
                    replace k3 := cell_later hb3 k3
                    have HB6 := hidP hb3
                    clear hG hF hA1 hA5 k7 k1 k6 hS hS' hm3 hm3i hm3' hb3
                    go_wp2_with fail
                    go_loopw [262] (fun c wx => ∃ m : Nat, m ≤ G ∧ c = .int .i64 m ∧ Below WQ.heap.size WQ wx) (fun c _ => G - (intOf c).toNat)
                    case atStart => exact ⟨0, Nat.zero_le _, rfl, HB6.out⟩
                    case round =>
                      obtain ⟨m4, hm4, rfl, hb4⟩ := hrel
                      by_cases hm4' : m4 < G
                      · as_aux_lemma =>
                        have hm4i : (m4 : Int) < G := by omega
                        have hml : m4 < r.lies.length := by rw [HG.out]; exact hm4'
                        obtain ⟨b1, o1, ha1, hli⟩ := HLI.out.2.resolve_left (fun h => by rw [h] at hml; simp at hml)
                        subst ha1
                        obtain ⟨g0, g1⟩ := hli m4 hml
                        replace g0 := cell_later hb4 g0
                        replace g1 := cell_later hb4 g1
                        have HMT : Hid (r.flanks.any (fun f => f.place == (r.lies[m4]'hml).piece) = true) := by
                          obtain ⟨f, hf, hfp⟩ := HRT1.out.fl _ (List.getElem_mem hml)
                          exact List.any_eq_true.2 ⟨f, hf, by simp [hfp]⟩
                        generalize (r.lies[m4]'hml).piece = lp at g0 HMT
                        generalize (r.lies[m4]'hml).side = ls at g1
                        have k7 := cell_later hb4 HK7.out
                        have hz4 := cellLt g0
                        have hz7 := cellLt k7
                        dsimp only at hz4 hz7
                        have HB4 := hidP hb4
                        clear hli hml hb4 k3
                        go_wp2_with fail
                        generalize hW5 : World.alloc wr _ = W5
                        have hb5 : Below wr.heap.size wr W5 := by rw [← hW5]; exact blo
                        have t0 : W5.cell? ⟨wr.heap.size, 0, none⟩ = some (.int .i64 lp) := by rw [← hW5]; simp [go_sem]
                        have HB5 : Hid (Below WQ.heap.size WQ W5) := HB4.out.trans (hb5.mono HB4.out.size)
                        obtain ⟨LB, hLB⟩ : ∃ LB, wr.heap.size = LB := ⟨_, rfl⟩
                        rw [hLB] at t0 ⊢
                        clear hW5 hb5 hLB hz4 hz7 k7 g0 g1 HB4
                        go_loopw [20, 269] (fun mt c wx => ∃ q : Nat, q ≤ F ∧ mt = .bool ((r.flanks.take q).any (fun f => f.place == lp)) ∧ c = .int .i64 q ∧ Below W5.heap.size W5 wx) (fun _ c _ => F - (intOf c).toNat)
                        case atStart => exact ⟨0, Nat.zero_le _, rfl, rfl, Below.refl _ _⟩
                        case round =>
                          obtain ⟨q, hq, rfl, rfl, hb6⟩ := hrel
                          by_cases hq' : q < F
                          · have hqi : (q : Int) < F := by omega
                            have hqf : q < r.flanks.length := by rw [HF.out]; exact hq'
                            obtain ⟨b7, o7, ha7, hfc⟩ := HFL.out.2.resolve_left (fun h => by rw [h] at hqf; simp at hqf)
                            subst ha7
                            have hb7 := HB5.out.trans (hb6.mono HB5.out.size)
                            obtain ⟨f0, f1, f2, f3⟩ := hfc q hqf
                            replace f0 := cell_later hb7 f0
                            replace f1 := cell_later hb7 f1
                            replace f2 := cell_later hb7 f2
                            replace f3 := cell_later hb7 f3
                            have HANY : Hid ((r.flanks.take (q + 1)).any (fun f => f.place == lp) = ((r.flanks.take q).any (fun f => f.place == lp) || ((r.flanks[q]'hqf).place == lp))) := by
                              unfold Hid
                              rw [List.take_succ_eq_append_getElem hqf, List.any_append]
                              simp
                            have t1 := cell_later hb6 t0
                            have hz7 := cellLt f0
                            have hz8 := cellLt t1
                            dsimp only at hz7 hz8
                            generalize (r.flanks[q]'hqf).place = fp at f0 HANY
                            generalize (r.flanks[q]'hqf).kind = fk at f1
                            generalize (r.flanks[q]'hqf).of = fo at f2
                            generalize (r.flanks[q]'hqf).lie = fl at f3
                            generalize (r.flanks.take q).any (fun f => f.place == lp) = B at HANY ⊢
                            have HB6 := hidP hb6
                            clear hfc hb7 hb6 t0 hqf
                            cases B with
                            | false =>
                              go_wp2_with fail
                              go_roundw
                              case rel => exact ⟨q + 1, by omega, by rw [HANY.out]; rfl, by go_num, HB6.out.trans (((Below.refl _ _).alloc (Nat.le_refl _) _).mono HB6.out.size)⟩
                              case measure => simp [intOf]; omega
                            | true =>
                              go_wp2_with fail
                              go_roundw
                              case rel => exact ⟨q + 1, by omega, by rw [HANY.out]; rfl, by go_num, HB6.out.trans (((Below.refl _ _).alloc (Nat.le_refl _) _).mono HB6.out.size)⟩
                              case measure => simp [intOf]; omega
                          · have hqi : ¬ (q : Int) < F := by omega
                            have hany : (r.flanks.take q).any (fun f => f.place == lp) = true := by
                              rw [List.take_of_length_le (by rw [HF.out]; omega)]
                              exact HMT.out
                            rw [hany]
                            go_wp2_with fail
                            go_roundw
                            case rel => exact ⟨m4 + 1, by omega, by go_num, HB5.out.trans (hb6.mono HB5.out.size)⟩
                            case measure => simp [intOf]; omega
                      · as_aux_lemma =>
                        have hm4i : ¬ (m4 : Int) < G := by omega
                        go_wp2_with fail
                        go_roundw
                        case rel => exact ⟨k + 1, by omega, by go_num, HBQ.out.trans (hb4.mono HBQ.out.size)⟩
                        case measure => simp [intOf]; omega
    · have hki : ¬ (k : Int) < n := by omega
      go_wp2_with fail
      go_ret
      exact ⟨rfl, HB3.out.trans (hbr.mono HB3.out.size)⟩
end Go.Proofs.Ytmkdgnmmebldgaa
namespace Go.Proofs.Ytmkdgnmmebldgaa
open Go.ChangeShapes Go.WideShapes Go.ChangeAt Go.RowKit Go.Deep
set_option maxRecDepth 100000 in
theorem parts_lifted (os : Os) (started : os.Started) (H : Type) (enc : TypeId × Value → H) :
    ReturnsInHanded {} Try.checked os 4 .any (Rows.fnPartsSpec.pre6 enc Try.prog Try.f4 Rows.fnPartsRow.domain false) (Rows.fnPartsSpec.post enc Try.prog Try.f4 false true false false) := by
  refine returnsInHanded_of_change (C := Try.checked) ownDraws started (by kernel_rfl) Try.func4
    (ChangeSpec.witness6 (enc := enc) (C := Try.checked) false ⟨#[], #[.slice none 0 0], []⟩ 8 (by kernel_rfl) (by kernel_rfl) (by kernel_rfl) (by kernel_rfl)) ?_
  intro W base args ds gs before hval0 hW hcnd _
  have hval : ∀ (j : Nat) t v, Try.f4.params[j]? = some t → args[j]? = some v → Value.okWide Try.prog W .any base t v := hval0
  have hW' := hW
  obtain ⟨p, q, hA0, hV, rfl, hfz, hnd⟩ := hW
  have hA : DataW.TrodAll enc Try.prog W 0 (fun _ => true) true Try.f4.params.toList args.toList ds p := hA0
  rw [Try.params4] at hA hval
  obtain ⟨v0, vs0, d0, ds0, p0, q0, hargs, rfl, rfl, h0, r0⟩ := trodAll_cons hA
  obtain ⟨rfl, rfl, rfl⟩ := trodAll_nil r0
  obtain rfl : args = #[v0] := by cases args; simp_all
  obtain ⟨rfl, rfl⟩ := trodVars_none hV
  have k0 := h0
  have lt0 : ∀ x ∈ p0, x.block < W.heap.size := by obtain ⟨m, hm⟩ := k0; exact DataW.trod_lt m _ _ _ hm
  obtain ⟨ca, cc, bs, hv0, hb0⟩ := openBytesV (hval 0 22 v0 rfl rfl) h0
  subst hv0
  clear hA0 hval0
  refine (lawParts_any ca cc bs W hb0).mono fun e W' ⟨he, bel⟩ => ?_
  subst he
  exact ⟨_, rfl, _, _, _, [], _, [], hW', trodAll_mk1 (shut_bool Try.underlying4 _), (trodAll_cons_mk (Below.trod Try.laidOutD (by kernel_rfl) (of_decide_eq_true (by kernel_rfl)) k0 bel lt0) trodAll_mk0), rfl, bel.frame _, fun h => by cases h⟩
theorem parts_holds : Rows.FnPartsSaid :=
  OpenClaim.holds_of_wide 4 Try.f4 rfl rfl rfl rfl rfl rfl rfl ⟨rfl, rfl, rfl, rfl, rfl⟩ rfl rfl rfl rfl rfl (by kernel_rfl) Try.func4 (by kernel_rfl)
    (of_decide_eq_true (by kernel_rfl)) (by unfold Func.isWrapper; first | (rw [if_pos (by decide +kernel)]; kernel_rfl) | (rw [if_neg (by decide +kernel)]; exact ⟨rfl, rfl⟩))
    (fun os started H enc _ => parts_lifted os started H enc)
#print axioms parts_holds
end Go.Proofs.Ytmkdgnmmebldgaa
