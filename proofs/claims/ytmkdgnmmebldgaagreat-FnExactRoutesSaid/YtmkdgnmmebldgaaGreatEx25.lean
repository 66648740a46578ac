import Derived.Test.YtmkdgnmmebldgaaGreatEx24
import Derived.Test.YtmkdgnmmebldgaaGreatEx7
import Derived.Test.YtmkdgnmmebldgaaGreatEx2
namespace Go.Proofs.YtmkdgnmmebldgaaGreat
open Go.RowKit Go.Deep

/-- The first k parts of a path. -/
def partsK (ps : List MPiece) (ss : List MPiece) (p : MPath) (k : Nat) : List MPart := if k < p.steps.length then fullParts ps (sigAt ss p.start) (p.steps.take k) else partsF ps ss p
theorem partsK_zero (ps : List MPiece) (ss : List MPiece) (p : MPath) (h : 0 < p.steps.length) : partsK ps ss p 0 = [] := by
  unfold partsK
  rw [if_pos h]
  rfl
theorem partsK_all (ps : List MPiece) (ss : List MPiece) (p : MPath) : partsK ps ss p p.steps.length = partsF ps ss p := by
  unfold partsK
  rw [if_neg (by omega)]
theorem partsK_len (ps : List MPiece) (ss : List MPiece) (p : MPath) {k : Nat} (h0 : 0 < p.steps.length) (h : k ≤ p.steps.length) : (partsK ps ss p k).length = k := by
  unfold partsK
  split
  · rw [fullParts_len, List.length_take]
    omega
  · unfold partsF
    rw [List.length_append, fullParts_len, List.length_dropLast]
    simp
    omega
theorem partsK_next (ps : List MPiece) (ss : List MPiece) (p : MPath) {k : Nat} (h : k < p.steps.length) : partsK ps ss p (k + 1) = partsK ps ss p k ++ [partI p.steps[k].piece (if k = 0 then sigAt ss p.start else endAt ps (farE (aheadE p.steps[k]))) (if k = p.steps.length - 1 ∧ 0 ≤ p.stop then sigAt ss p.stop else endAt ps (aheadE p.steps[k]))] := by
  by_cases hl : k + 1 < p.steps.length
  · unfold partsK
    rw [if_pos hl, if_pos h, List.take_succ_eq_append_getElem h, fullParts_snoc, if_neg (show ¬ (k = p.steps.length - 1 ∧ 0 ≤ p.stop) from fun e => by omega)]
    have e : (p.steps.take k).length = k := by rw [List.length_take]; omega
    rw [e]
  · have hk : k = p.steps.length - 1 := by omega
    have hlast : p.steps[k] = lastS p := by
      have := lastS_get (p := p) (by omega)
      rw [← this]
      congr 1
    unfold partsK
    rw [if_neg hl, if_pos h]
    unfold partsF
    rw [hlast, List.dropLast_eq_take, ← hk]
    congr 3
    · by_cases h1 : k = 0
      · rw [if_pos (by omega), if_pos h1]
      · rw [if_neg (by omega), if_neg h1]
    · by_cases h1 : 0 ≤ p.stop
      · rw [if_pos h1, if_pos ⟨rfl, h1⟩]
      · rw [if_neg h1, if_neg (fun e => h1 e.2)]

set_option maxRecDepth 20000 in
set_option maxHeartbeats 8000000 in
theorem partsOf_any (K : Nat) (pa ja sa : Option Addr) (pc jc sc : Nat) (ps : List MPiece) (js : List MJoint) (ss : List MPiece) (d : PAddr) (p : MPath) (w : World) (hT : Hid (TNet w K pa ja sa pc jc sc ps js ss)) (h : Hid (PListsAt w d p)) (h0 : 0 < p.steps.length) (h1 : p.steps.length ≤ 1000) (hv : Hid (∀ s ∈ p.steps, ValidS ps s)) (hs : Hid (∃ i : Nat, i < ss.length ∧ p.start = i)) (he : Hid (p.stop = -1 ∨ ∃ i : Nat, i < ss.length ∧ p.stop = i)) :
    Calls Tryz.prog 66 #[.pointer (some ⟨K, 0, none⟩), pathV d p] w fun e w' => ∃ x y, e = .returned (.slice x (partsF ps ss p).length y) ∧ w'.ownsRow w.heap.size 104 3 (.slice x (partsF ps ss p).length y) (partsF ps ss p).length (flatP (partsF ps ss p)) ∧ Below w.heap.size w w' := by
  obtain ⟨b1, off1, ha, hpc⟩ := h.out.steps.2.resolve_left (fun h => by rw [h] at h0; exact absurd h0 (by simp))
  have HPC := hidP hpc
  obtain ⟨n, hn⟩ : ∃ n, p.steps.length = n := ⟨_, rfl⟩
  have HN := hidP hn
  unfold pathV
  rw [ha, hn]
  rw [hn] at h0 h1
  have c2 := hT.out.c2
  have hK := cellLt c2
  dsimp only at hK
  clear hpc ha hn
  go_enter Tryz.func66, Tryz.ntmps66
  go_wp2_with fail
  generalize hW : World.alloc w _ = W
  have hbW : Below w.heap.size w W := by rw [← hW]; exact (by repeat (first | exact Below.refl _ _ | assumption | refine Below.drew ?_ | refine bdrewN ?_ _ | refine Below.setCell ?_ (by first | omega | (simp; done) | (simp; omega)) _ | refine Below.alloc ?_ (by first | omega | (simp; done) | (simp; omega)) _))
  have x0 : W.cell? ⟨w.heap.size, 0, none⟩ = some (.int .i64 p.start) := by rw [← hW]; simp [go_sem]
  have x1 : W.cell? ⟨w.heap.size, 1, none⟩ = some (.int .i64 p.stop) := by rw [← hW]; simp [go_sem]
  have x3 : W.cell? ⟨w.heap.size, 3, none⟩ = some (.slice (some ⟨b1, off1, none⟩) n d.c0) := by rw [← hW]; simp [go_sem]
  have HBW := hidP hbW
  have hzW : w.heap.size < W.heap.size := by rw [← hW]; simp
  clear hW hbW c2
  go_loopw [5, 13] (fun ve i wr => ∃ (k : Nat) (x : Option Addr) (y : Nat), k ≤ n ∧ i = .int .i64 k ∧ ve = .slice x k y ∧ Hid (wr.ownsRow W.heap.size 104 3 (.slice x k y) k (flatP (partsK ps ss p k))) ∧ Below W.heap.size W wr) (fun _ i _ => n - (intOf i).toNat)
  case atStart => exact ⟨0, none, 0, Nat.zero_le _, rfl, rfl, by unfold Hid; rw [partsK_zero _ _ _ (by rw [HN.out]; exact h0)]; exact World.ownsRow_nil _ _ _ _, Below.refl _ _⟩
  case round =>
    obtain ⟨k, x, y, hk, rfl, rfl, HO, hb⟩ := hrel
    have hbs := hb.size
    have hbF := HBW.out.trans (hb.mono HBW.out.size)
    by_cases hk' : k < n
    · have hkl : k < p.steps.length := by rw [HN.out]; exact hk'
      obtain ⟨c0, c1⟩ := (HPC.out.below hbF) k hkl
      obtain ⟨q, hq, hq1, hq2⟩ := hv.out _ (List.getElem_mem hkl)
      have HNX := hidP (partsK_next ps ss p hkl)
      generalize p.steps[k] = sk at c0 c1 hq1 hq2 HNX
      obtain ⟨sp, sw⟩ := sk
      dsimp only at c0 c1 hq1 hq2 HNX
      subst hq1
      have y0 := cell_later hb x0
      have y1 := cell_later hb x1
      have y3 := cell_later hb x3
      have hki : (k : Int) < n := by omega
      have hzc := cellLt c0
      dsimp only at hzc
      have HBF := hidP hbF
      obtain ⟨es, hes⟩ : ∃ es, aheadE ⟨(q : Int), sw⟩ = ⟨(q : Int), es⟩ ∧ 0 ≤ es ∧ es ≤ 1 := by
        unfold aheadE
        split
        · exact ⟨1, rfl, by omega, by omega⟩
        · exact ⟨0, rfl, by omega, by omega⟩
      have HAH : Hid (∀ u : World, Calls Tryz.prog 89 #[.agg #[.int .i64 (q : Int), .int .i64 sw]] u fun e w' => e = .returned (.agg #[.int .i64 (q : Int), .int .i64 es]) ∧ Below u.heap.size u w') := fun u => by
        have hh := ahead_any (q : Int) sw u
        rw [hes.1] at hh
        exact hh
      have HFE : Hid (∀ u : World, Calls Tryz.prog 88 #[.agg #[.int .i64 (q : Int), .int .i64 es]] u fun e w' => e = .returned (.agg #[.int .i64 (q : Int), .int .i64 (1 - es)]) ∧ Below u.heap.size u w') := fun u => farEnd_any (q : Int) es u hes.2.1 hes.2.2
      obtain ⟨A1, hA1⟩ : ∃ A, endAt ps ⟨(q : Int), 1 - es⟩ = A := ⟨_, rfl⟩
      obtain ⟨A2, hA2⟩ : ∃ A, endAt ps ⟨(q : Int), es⟩ = A := ⟨_, rfl⟩
      have HNX2 : Hid (partsK ps ss p (k + 1) = partsK ps ss p k ++ [partI q (if k = 0 then sigAt ss p.start else A1) (if k = n - 1 ∧ 0 ≤ p.stop then sigAt ss p.stop else A2)]) := by
        unfold Hid
        rw [HNX.out, hes.1, HN.out]
        unfold farE
        rw [hA1, hA2]
      go_upto_region 5 with fail
      generalize hWa : World.alloc wr _ = Wa
      have hba : Below wr.heap.size wr Wa := by rw [← hWa]; exact (Below.refl _ _).alloc (Nat.le_refl _) _
      have z0 : Wa.cell? ⟨wr.heap.size, 0, none⟩ = some (.int .i64 (q : Int)) := by rw [← hWa]; simp [go_sem]
      have z1 : Wa.cell? ⟨wr.heap.size, 1, none⟩ = some (.int .i64 sw) := by rw [← hWa]; simp [go_sem]
      have HBa := hidP (hb.trans (hba.mono hbs))
      have HBFa := hidP (hbF.trans (hba.mono (by omega)))
      have HAT1 : Hid (∀ u : World, Below Wa.heap.size Wa u → Calls Tryz.prog 87 #[.pointer (some ⟨K, 0, none⟩), .agg #[.int .i64 (q : Int), .int .i64 (1 - es)]] u fun e w' => e = .returned (.int .i64 A1) ∧ Below u.heap.size u w') := fun u hu => by
        rw [← hA1]
        exact at_any K pa ja sa pc jc sc ps js ss q (1 - es) u ((hT.out.below HBFa.out).below hu) hq
      have HAT2 : Hid (∀ u : World, Below Wa.heap.size Wa u → Calls Tryz.prog 87 #[.pointer (some ⟨K, 0, none⟩), .agg #[.int .i64 (q : Int), .int .i64 es]] u fun e w' => e = .returned (.int .i64 A2) ∧ Below u.heap.size u w') := fun u hu => by
        rw [← hA2]
        exact at_any K pa ja sa pc jc sc ps js ss q es u ((hT.out.below HBFa.out).below hu) hq
      replace y0 := cell_later hba y0
      replace y1 := cell_later hba y1
      replace y3 := cell_later hba y3
      have HOa := hidP (owns_below HO.out hba)
      have l0 := Later.cell z0
      have l1 := Later.cell z1
      have hne := later_some Wa
      have hzz := cellLt z0
      dsimp only at hzz
      clear hWa hba c0 c1 hb hbF HO HNX hes hA1 hA2
      refine wp_region_later (by kernel_rfl) (by kernel_rfl) ?_
      iterate 2 (go_big_quiet_step (fail))
      go_big_quiet_step ((rename_i u; exact Later.calls u (HAH.out u.val)))
      go_big_quiet_step ((rename_i u; exact Later.calls u (HFE.out u.val)))
      go_big_quiet_step ((rename_i u; exact Later.calls u (HAT1.out u.val u.2)))
      iterate 2 (go_big_quiet_step (fail))
      go_big_quiet_step ((rename_i u; exact Later.calls u (HAH.out u.val)))
      go_big_quiet_step ((rename_i u; exact Later.calls u (HAT2.out u.val u.2)))
      iterate 2 (go_big_quiet_step (fail))
      refine wpQuiet_nil ?_
      intro _ hw'
      obtain ⟨u, hw''⟩ := hw'
      subst hw''
      have hbu := u.2
      generalize u.val = w6 at hbu ⊢
      replace y0 := cell_later hbu y0
      replace y1 := cell_later hbu y1
      replace y3 := cell_later hbu y3
      replace z0 := cell_later hbu z0
      have HO6 := hidP (owns_below HOa.out hbu)
      have HB6 := hidP (HBa.out.trans (hbu.mono HBa.out.size))
      have HBF6 := hidP (HBFa.out.trans (hbu.mono HBFa.out.size))
      have hz6 := hbu.size
      clear l0 l1 hne hbu HAH HFE HAT1 HAT2 z1 HOa HBa HBFa
      obtain ⟨i, hi, hpi⟩ := hs.out
      have hT6 := hT.out.below HBF6.out
      obtain ⟨bs, os, hsa, hpcs⟩ := hT6.S.2.2.resolve_left (fun h => by rw [h] at hi; exact absurd hi (Nat.not_lt_zero _))
      obtain ⟨_, _, s2, _⟩ := hpcs i hi
      have k2 := hT6.c2
      rw [hsa] at k2
      have HSI : Hid (sigAt ss p.start = ss[i].speed) := by unfold Hid; rw [hpi]; exact sigAt_at hi
      rw [hpi] at y0
      generalize ss[i].speed = sv at s2 HSI
      have hzs := cellLt s2
      dsimp only at hzs
      have hii : (i : Int) < ss.length := by omega
      have HSA := hidP hsa
      have HPI := hidP hpi
      clear hpcs hT6 hsa hpi
      go_upto_if 28 with fail
      go_cut [8] (fun v wx => v = .int .i64 (if k = 0 then sigAt ss p.start else A1) ∧ Below w6.heap.size w6 wx)
      case first =>
        by_cases hk0 : k = 0
        · have hkb : ((k : Int) == 0) = true := by simp [hk0]
          have HV : Hid ((if k = 0 then sigAt ss p.start else A1) = sv) := by unfold Hid; rw [if_pos hk0]; exact HSI.out
          clear hk0
          go_wp2_with fail
          go_quiet (fail)
          go_wp2_with fail
          go_meet
          exact ⟨by rw [HV.out], (by repeat (first | exact Below.refl _ _ | assumption | refine Below.drew ?_ | refine bdrewN ?_ _ | refine Below.setCell ?_ (by first | omega | (simp; done) | (simp; omega)) _ | refine Below.alloc ?_ (by first | omega | (simp; done) | (simp; omega)) _))⟩
        · have hkb : ((k : Int) == 0) = false := by simp; omega
          have HV : Hid ((if k = 0 then sigAt ss p.start else A1) = A1) := by unfold Hid; rw [if_neg hk0]
          clear hk0
          go_wp2_with fail
          go_meet
          exact ⟨by rw [HV.out], Below.refl _ _⟩
      case rest =>
        obtain ⟨rfl, hbc⟩ := hcut
        generalize (if k = 0 then sigAt ss p.start else A1) = st at HNX2 ⊢
        replace y1 := cell_later hbc y1
        replace y3 := cell_later hbc y3
        replace z0 := cell_later hbc z0
        replace k2 := cell_later hbc k2
        have HO7 := hidP (owns_below HO6.out hbc)
        have HB7 := hidP (HB6.out.trans (hbc.mono HB6.out.size))
        have HBF7 := hidP (HBF6.out.trans (hbc.mono HBF6.out.size))
        have hz7 := hbc.size
        clear hbc HO6 HB6 HBF6 s2 y0 HSI
        obtain ⟨m, hm⟩ : ∃ m, n = m + 1 := ⟨n - 1, by omega⟩
        have HM := hidP hm
        have hmi : (n : Int) - 1 = m := by omega
        have hsv : Hid (0 ≤ p.stop → ∃ (i2 : Nat) (h2 : i2 < ss.length), p.stop = i2 ∧ sigAt ss p.stop = ss[i2].speed) := fun h0' => by
          rcases he.out with h3 | ⟨i2, h3, h4⟩
          · omega
          · exact ⟨i2, h3, h4, by rw [h4]; exact sigAt_at h3⟩
        clear hm
        go_upto_region 8 with fail
        go_cut [48] (fun v wx => v = .bool (decide (k = n - 1 ∧ 0 ≤ p.stop)) ∧ Below wc.heap.size wc wx)
        case first =>
          by_cases hkm : k = m
          · have hkb : ((k : Int) == (m : Int)) = true := by simp [hkm]
            by_cases hst0 : 0 ≤ p.stop
            · have HV : Hid (decide (k = n - 1 ∧ 0 ≤ p.stop) = true) := by
                have := HM.out
                unfold Hid
                simp
                omega
              clear hkm
              go_wp2_with fail
              go_meet
              exact ⟨by rw [HV.out], (by repeat (first | exact Below.refl _ _ | assumption | refine Below.drew ?_ | refine bdrewN ?_ _ | refine Below.setCell ?_ (by first | omega | (simp; done) | (simp; omega)) _ | refine Below.alloc ?_ (by first | omega | (simp; done) | (simp; omega)) _))⟩
            · have HV : Hid (decide (k = n - 1 ∧ 0 ≤ p.stop) = false) := by
                unfold Hid
                simp
                omega
              have hst1 : ¬ 0 ≤ p.stop := hst0
              clear hkm
              go_wp2_with fail
              go_meet
              exact ⟨by rw [HV.out], (by repeat (first | exact Below.refl _ _ | assumption | refine Below.drew ?_ | refine bdrewN ?_ _ | refine Below.setCell ?_ (by first | omega | (simp; done) | (simp; omega)) _ | refine Below.alloc ?_ (by first | omega | (simp; done) | (simp; omega)) _))⟩
          · have hkb : ((k : Int) == (m : Int)) = false := by simp; omega
            have HV : Hid (decide (k = n - 1 ∧ 0 ≤ p.stop) = false) := by
              have := HM.out
              unfold Hid
              simp
              omega
            clear hkm
            go_wp2_with fail
            go_meet
            exact ⟨by rw [HV.out], (by repeat (first | exact Below.refl _ _ | assumption | refine Below.drew ?_ | refine bdrewN ?_ _ | refine Below.setCell ?_ (by first | omega | (simp; done) | (simp; omega)) _ | refine Below.alloc ?_ (by first | omega | (simp; done) | (simp; omega)) _))⟩
        case rest =>
          obtain ⟨rfl, hbc⟩ := hcut
          replace y1 := cell_later hbc y1
          replace z0 := cell_later hbc z0
          replace k2 := cell_later hbc k2
          have HO8 := hidP (owns_below HO7.out hbc)
          have HB8 := hidP (HB7.out.trans (hbc.mono HB7.out.size))
          have HBF8 := hidP (HBF7.out.trans (hbc.mono HBF7.out.size))
          have hz8 := hbc.size
          clear hbc HO7 HB7 HBF7 y3
          generalize hdb : decide (k = n - 1 ∧ 0 ≤ p.stop) = db
          go_upto_if 48 with fail
          go_cut [9] (fun v wx => v = .int .i64 (if k = n - 1 ∧ 0 ≤ p.stop then sigAt ss p.stop else A2) ∧ Below wc.heap.size wc wx)
          case first =>
            cases db with
            | true =>
              have hcc := of_decide_eq_true hdb
              obtain ⟨i2, h2, hp2, hv2⟩ := hsv.out hcc.2
              have HV : Hid ((if k = n - 1 ∧ 0 ≤ p.stop then sigAt ss p.stop else A2) = ss[i2].speed) := by unfold Hid; rw [if_pos hcc]; exact hv2
              have hT8 := hT.out.below HBF8.out
              obtain ⟨bs', os', hsa', hpcs⟩ := hT8.S.2.2.resolve_left (fun h => by rw [h] at h2; exact absurd h2 (Nat.not_lt_zero _))
              obtain ⟨_, _, s2, _⟩ := hpcs i2 h2
              have hee := HSA.out.symm.trans hsa'
              simp at hee
              obtain ⟨rfl, rfl⟩ := hee
              rw [hp2] at y1
              generalize ss[i2].speed = sv2 at s2 HV
              have hzs2 := cellLt s2
              dsimp only at hzs2
              have hii2 : (i2 : Int) < ss.length := by omega
              clear hcc hdb hpcs hT8 hv2 hsa'
              go_wp2_with fail
              go_quiet (fail)
              go_wp2_with fail
              go_meet
              exact ⟨by rw [HV.out], (by repeat (first | exact Below.refl _ _ | assumption | refine Below.drew ?_ | refine bdrewN ?_ _ | refine Below.setCell ?_ (by first | omega | (simp; done) | (simp; omega)) _ | refine Below.alloc ?_ (by first | omega | (simp; done) | (simp; omega)) _))⟩
            | false =>
              have HV : Hid ((if k = n - 1 ∧ 0 ≤ p.stop then sigAt ss p.stop else A2) = A2) := by unfold Hid; rw [if_neg (of_decide_eq_false hdb)]
              clear hdb
              go_wp2_with fail
              go_meet
              exact ⟨by rw [HV.out], Below.refl _ _⟩
          case rest =>
            obtain ⟨rfl, hbc⟩ := hcut
            generalize (if k = n - 1 ∧ 0 ≤ p.stop then sigAt ss p.stop else A2) = sp at HNX2 ⊢
            replace z0 := cell_later hbc z0
            have HO9 := hidP (owns_below HO8.out hbc)
            have HB9 := hidP (HB8.out.trans (hbc.mono HB8.out.size))
            have hz9 := hbc.size
            clear hbc HO8 HB8 HBF8 k2 hdb hsv y1
            obtain ⟨pt, hpt⟩ : ∃ pt, partI (q : Int) st sp = pt := ⟨_, rfl⟩
            have HPO : Hid (∀ u : World, Calls Tryz.prog 90 #[.int .i64 (q : Int), .int .i64 st, .int .i64 sp] u fun e w' => e = .returned (partV pt) ∧ Below u.heap.size u w') := fun u => by rw [← hpt]; exact partOf_any (q : Int) st sp u
            rw [hpt] at HNX2
            clear hpt
            go_wp2_with (first
              | (go_at_call 90; refine (HPO.out _).mono ?_; rintro e w2 ⟨rfl, hb2⟩; have HO10 := hidP (owns_below HO9.out hb2); have hb3 := HB9.out.trans (hb2.mono HB9.out.size); have hz10 := hb2.size; have hz11 := hb3.size; unfold partV; clear hb2 HO9 HB9)
              | (at_builtin; refine wpList_push rfl (.tmp 58) (.tmp 64) 61 rfl W.heap.size 104 _ 3 24 Tryz.underlying61 Tryz.infoPart rfl (by decide) (.slice x k y) k (flatP (partsK ps ss p k)) rfl HO10.out w2.heap.size rfl [.int .i64 pt.piece, .int .i64 pt.lo, .int .i64 pt.hi] rfl rfl (by simp [Value.oneCell']) (by unfold maxLen; omega) (by omega) (by omega) ?_; intro x' y' w3 ho3 hg3; rw [flatP_push, ← HNX2.out] at ho3; have HO3 := hidP ho3; have hb4 := push_below hb3 HO10.out hg3 (by omega); clear ho3 hg3))
            go_roundw
            case rel => exact ⟨k + 1, x', y', by omega, by go_num, rfl, HO3, hb4⟩
            case measure => simp [intOf]; omega
    · obtain rfl : k = n := by omega
      have HNn : Hid ((partsF ps ss p).length = k) := by
        unfold Hid
        rw [← partsK_all, partsK_len _ _ _ (by rw [HN.out]; exact h0) (Nat.le_refl _)]
        exact HN.out
      have HOe : Hid (wr.ownsRow w.heap.size 104 3 (.slice x k y) k (flatP (partsF ps ss p))) := by
        have := owns_base HO.out (show w.heap.size ≤ W.heap.size by omega)
        rw [← HN.out, partsK_all, HN.out] at this
        exact this
      clear HO hb
      have hki : ¬ (k : Int) < k := by omega
      have HBe := hidP hbF
      clear hbF
      go_wp2_with fail
      rw [HNn.out]
      exact bodyPost_ret (v := .slice x k y) (by simp [results, Tryz.results66, go_sem]) rfl ⟨x, y, rfl, HOe.out, HBe.out⟩

end Go.Proofs.YtmkdgnmmebldgaaGreat

namespace Go.Proofs.YtmkdgnmmebldgaaGreat
open Go.RowKit Go.Deep Go.Maps
open Go.ChangeMaps (setBlock heap_setBlock_same)

/-! Where each end stands: the track's map. -/

def spotV (j t : Nat) (k : Int) : Value := .agg #[.int .i64 (j : Int), .int .i64 (t : Int), .iface (kindT k) (.agg #[])]
def zspot : Value := .agg #[.int .i64 0, .int .i64 0, .nilIface]
theorem zeroSp (w : World) : (zeroValue 129).run Tryz.prog w = .ok zspot w := by kernel_rfl
theorem endV_inj {a b : MEnd} (h : endV a = endV b) : a = b := by
  cases a
  cases b
  simpa [endV] using h

/-- Block b is a map from ends to spots that reads as f says. -/
def SMap (w : World) (b n : Nat) (f : Value → Value) : Prop :=
  ∃ D : DataW Value, w.ownsMap Tryz.prog 112 (fun v => some (.held v, [])) b n D ∧ IsMap D ∧ ∀ key kl, keyOf Tryz.prog 112 key = some kl → D.atKey kl (.held zspot) = .held (f key)

theorem SMap.made (w : World) : SMap (w.alloc (.map #[] 0)) w.heap.size 0 (fun _ => zspot) :=
  ⟨.map [], World.ownsMap_made w _ _ _, isMap_empty, fun _ _ _ => rfl⟩
theorem SMap.of_block {w w' : World} {b n : Nat} {f : Value → Value} (h : SMap w b n f) (e : w'.heap[b]? = w.heap[b]?) : SMap w' b n f := by
  obtain ⟨D, ⟨es, clock, hb, r⟩, h2, h3⟩ := h
  exact ⟨D, ⟨es, clock, e.trans hb, r⟩, h2, h3⟩
theorem SMap.lt {w : World} {b n : Nat} {f : Value → Value} (h : SMap w b n f) : b < w.heap.size := by
  obtain ⟨D, h1, _⟩ := h
  exact h1.lt
theorem SMap.below {w w' : World} {b n : Nat} {f : Value → Value} (h : SMap w b n f) (hb : Below w.heap.size w w') : SMap w' b n f := h.of_block (hb.block _ h.lt)

theorem SMap.lookup {w : World} {b n : Nat} {f : Value → Value} (h : SMap w b n f) {key : Value} {kl : Lit} (hkey : keyOf Tryz.prog 112 key = some kl) :
    (Instr.lookup 121 (.map (some b)) key false).run Tryz.prog w = .ok (f key) w := by
  obtain ⟨D, h1, _, h3⟩ := h
  obtain ⟨v, q, hrun, hv⟩ := h1.lookup lawE Tryz.underlying121 (zeroSp w) rfl hkey
  have e := h3 key kl hkey
  simp only [Option.some.injEq, Prod.mk.injEq] at hv
  rw [hrun]
  have e2 := hv.1.trans e
  simp only [DataW.held.injEq] at e2
  rw [e2]

open Classical in
theorem SMap.update {w : World} {b n : Nat} {f : Value → Value} (h : SMap w b n f) (hn : n < maxLen) {key : Value} {kl : Lit} (hkey : keyOf Tryz.prog 112 key = some kl) (v : Value) :
    ∃ w' f', (Instr.mapUpdate 121 (.map (some b)) key v).run Tryz.prog w = .ok () w' ∧ SMap w' b (n + 1) f' ∧ f' key = v ∧ (∀ k, k ≠ key → f' k = f k) ∧ w.grownBy w' (some b) := by
  obtain ⟨D, ho, hm, h3⟩ := h
  obtain ⟨w', hrun, hown, hg⟩ := ho.update lawE Tryz.underlying121 hn hkey (val := v) rfl
  refine ⟨w', fun k => if k = key then v else f k, hrun, ⟨_, hown, hm.put _ _, fun k l hk => ?_⟩, by simp, fun k hk => by simp [hk], hg⟩
  by_cases e : k = key
  · subst e
    have : l = kl := by rw [hk] at hkey; injection hkey
    subst this
    rw [atKey_put_same hm (lawE.key hk)]
    simp
  · have hl : l ≠ kl := by
      intro el
      rw [el] at hk
      exact e (lawE.inj hk hkey)
    rw [atKey_put_other hl, h3 k l hk]
    simp [e]

/-- At most one of a list is such: so two that are such are one. -/
theorem count_one {α : Type} {f : α → Bool} : ∀ {l : List α} {i j : Nat} (hi : i < l.length) (hj : j < l.length), l.countP f ≤ 1 → f l[i] = true → f l[j] = true → i = j
  | [], i, _, hi, _, _, _, _ => absurd hi (Nat.not_lt_zero i)
  | a :: r, 0, 0, _, _, _, _, _ => rfl
  | a :: r, 0, j + 1, _, hj, h, h1, h2 => by
    simp only [List.getElem_cons_zero] at h1
    simp only [List.getElem_cons_succ] at h2
    rw [List.countP_cons, if_pos h1] at h
    have h0 : r.countP f = 0 := by omega
    rw [List.countP_eq_zero] at h0
    exact absurd h2 (h0 _ (List.getElem_mem _))
  | a :: r, i + 1, 0, hi, _, h, h1, h2 => by
    simp only [List.getElem_cons_zero] at h2
    simp only [List.getElem_cons_succ] at h1
    rw [List.countP_cons, if_pos h2] at h
    have h0 : r.countP f = 0 := by omega
    rw [List.countP_eq_zero] at h0
    exact absurd h1 (h0 _ (List.getElem_mem _))
  | a :: r, i + 1, j + 1, hi, hj, h, h1, h2 => by
    simp only [List.getElem_cons_succ] at h1 h2
    rw [List.countP_cons] at h
    have := count_one (l := r) (i := i) (j := j) (by simpa using hi) (by simpa using hj) (by split at h <;> omega) h1 h2
    rw [this]

theorem sameE_refl (e : MEnd) : sameE e e = true := sameE_iff.2 rfl
theorem usesIn_same (l : List MEnd) (e : MEnd) : usesIn l e.piece e.side = l.countP (fun x => sameE x e) := by
  unfold usesIn sameE
  rfl

/-- An end that stands once stands where it is found. -/
theorem spotF_uniq (e : MEnd) : ∀ (js : List MJoint) (n : Nat), usesIn (js.flatMap (·.ends)) e.piece e.side = 1 → ∀ (j k : Nat) (hj : j < js.length) (hk : k < js[j].ends.length), js[j].ends[k] = e → spotF js e n = some (n + j, k)
  | [], _, _, j, _, hj, _, _ => absurd hj (Nat.not_lt_zero j)
  | a :: r, n, h, j, k, hj, hk, he => by
    rw [usesIn_same, List.flatMap_cons, List.countP_append] at h
    simp only [spotF]
    cases hf : a.ends.findIdx? (fun x => sameE x e) with
    | some k0 =>
      obtain ⟨g1, g2, _⟩ := List.findIdx?_eq_some_iff_getElem.1 hf
      have hp : 0 < a.ends.countP (fun x => sameE x e) := List.countP_pos_iff.2 ⟨_, List.getElem_mem g1, g2⟩
      have hr : (r.flatMap (·.ends)).countP (fun x => sameE x e) = 0 := by omega
      cases j with
      | zero =>
        simp only [List.getElem_cons_zero] at hk he
        have := count_one (f := fun x => sameE x e) g1 hk (by omega) g2 (by rw [he]; exact sameE_refl e)
        simp [this]
      | succ j =>
        simp only [List.getElem_cons_succ] at hk he
        rw [List.countP_eq_zero] at hr
        exact absurd (sameE_refl e) (hr e (List.mem_flatMap.2 ⟨_, List.getElem_mem _, by rw [← he]; exact List.getElem_mem hk⟩))
    | none =>
      have hn := List.findIdx?_eq_none_iff.1 hf
      have h0 : a.ends.countP (fun x => sameE x e) = 0 := by
        rw [List.countP_eq_zero]
        intro x hx
        rw [hn x hx]
        simp
      cases j with
      | zero =>
        simp only [List.getElem_cons_zero] at hk he
        have := hn _ (List.getElem_mem hk)
        rw [he, sameE_refl] at this
        simp at this
      | succ j =>
        simp only [List.getElem_cons_succ] at hk he
        have := spotF_uniq e r (n + 1) (by rw [usesIn_same]; omega) j k (by simpa using hj) hk he
        show spotF r e (n + 1) = _
        rw [this]
        congr 2
        omega

theorem Right.uniq {ps : List MPiece} {js : List MJoint} {ss : List MPiece} (R : Right ps js ss) {j k : Nat} (hj : j < js.length) (hk : k < js[j].ends.length) : spotF js js[j].ends[k] 0 = some (j, k) := by
  obtain ⟨p, hp, h1, h2⟩ := R.ends j hj k hk
  have hu : usesIn (js.flatMap (·.ends)) js[j].ends[k].piece js[j].ends[k].side = 1 := by
    rw [h1]
    rcases h2 with h2 | h2 <;> rw [h2]
    · exact (R.uses p hp).1
    · exact (R.uses p hp).2
  have := spotF_uniq _ js 0 hu j k hj hk rfl
  simpa using this

/-- The map holds the ends of the first k joints, and the first m of the next one. -/
def SpotsTo (w : World) (b : Nat) (js : List MJoint) (k m : Nat) : Prop :=
  ∃ (f : Value → Value) (n : Nat), n ≤ 4 * k + m ∧ SMap w b n f ∧ ∀ i q (hi : i < js.length) (hq : q < js[i].ends.length), i < k ∨ (i = k ∧ q < m) → f (endV js[i].ends[q]) = spotV i q js[i].kind
theorem SpotsTo.below {w w' : World} {b : Nat} {js : List MJoint} {k m : Nat} (h : SpotsTo w b js k m) (hb : Below w.heap.size w w') : SpotsTo w' b js k m := by
  obtain ⟨f, n, h1, h2, h3⟩ := h
  exact ⟨f, n, h1, h2.below hb, h3⟩
theorem SpotsTo.lt {w : World} {b : Nat} {js : List MJoint} {k m : Nat} (h : SpotsTo w b js k m) : b < w.heap.size := by
  obtain ⟨f, n, h1, h2, h3⟩ := h
  exact h2.lt
theorem SpotsTo.next {w : World} {b : Nat} {js : List MJoint} {k m : Nat} (h : SpotsTo w b js k m) (hk : k < js.length) (hm : m = js[k].ends.length) (h4 : m ≤ 4) : SpotsTo w b js (k + 1) 0 := by
  obtain ⟨f, n, h1, h2, h3⟩ := h
  refine ⟨f, n, by omega, h2, fun i q hi hq h => h3 i q hi hq ?_⟩
  by_cases e : i = k
  · subst e
    exact Or.inr ⟨rfl, by omega⟩
  · exact Or.inl (by omega)
theorem keyEnd {ps : List MPiece} {e : MEnd} (he : ValidE ps e) (hn : ps.length ≤ 100) : ∃ kl, keyOf Tryz.prog 112 (endV e) = some kl := by
  obtain ⟨p, hp, h1, h2⟩ := he
  unfold endV
  rw [h1]
  exact keyE (wf64 (by omega) (by omega)) (by rcases h2 with h2 | h2 <;> rw [h2] <;> decide)
theorem SpotsTo.put {ps : List MPiece} {js : List MJoint} {ss : List MPiece} (R : Right ps js ss) {w : World} {b k m : Nat} (h : SpotsTo w b js k m) (hk : k < js.length) (hm : m < js[k].ends.length) :
    ∃ w', (Instr.mapUpdate 121 (.map (some b)) (endV js[k].ends[m]) (spotV k m js[k].kind)).run Tryz.prog w = .ok () w' ∧ SpotsTo w' b js k (m + 1) ∧ w.grownBy w' (some b) := by
  obtain ⟨f, n, h1, h2, h3⟩ := h
  obtain ⟨kl, hkey⟩ := keyEnd (R.ends k hk m hm) R.np
  have h4 := (R.kind k hk).2
  have h5 := R.nj
  obtain ⟨w', f', g1, g2, g3, g4, g5⟩ := h2.update (by unfold maxLen; omega) hkey (spotV k m js[k].kind)
  refine ⟨w', g1, ⟨f', n + 1, by omega, g2, fun i q hi hq hh => ?_⟩, g5⟩
  by_cases e : i = k ∧ q = m
  · obtain ⟨rfl, rfl⟩ := e
    exact g3
  · rw [g4 _ (fun e2 => ?_)]
    · exact h3 i q hi hq (by omega)
    · have e3 := endV_inj e2
      have u1 := R.uniq hi hq
      have u2 := R.uniq hk hm
      rw [e3] at u1
      have := u1.symm.trans u2
      simp at this
      exact e this

theorem kindOf_any (k : Int) (h1 : 1 ≤ k) (h4 : k ≤ 4) (w : World) : Calls Tryz.prog 64 #[.int .i64 k] w fun e w' => e = .returned (.tuple #[.iface (kindT k) (.agg #[]), .bool true]) ∧ w' = w := by
  have : k = 1 ∨ k = 2 ∨ k = 3 ∨ k = 4 := by omega
  rcases this with rfl | rfl | rfl | rfl
  · exact kindOf_1 w
  · exact kindOf_2 w
  · exact kindOf_3 w
  · exact kindOf_4 w

/-- A track with its map. -/
structure TTrack (w : World) (K M : Nat) (pa ja sa : Option Addr) (pc jc sc : Nat) (ps : List MPiece) (js : List MJoint) (ss : List MPiece) : Prop where
  net : TNet w K pa ja sa pc jc sc ps js ss
  c3 : w.cell? ⟨K, 3, none⟩ = some (.map (some M))
  sp : SpotsTo w M js js.length 0
theorem TTrack.below {w w' : World} {K M : Nat} {pa ja sa : Option Addr} {pc jc sc : Nat} {ps : List MPiece} {js : List MJoint} {ss : List MPiece} (h : TTrack w K M pa ja sa pc jc sc ps js ss) (hb : Below w.heap.size w w') : TTrack w' K M pa ja sa pc jc sc ps js ss :=
  ⟨h.net.below hb, cell_later hb h.c3, h.sp.below hb⟩
theorem TTrack.lookup {w : World} {K M : Nat} {pa ja sa : Option Addr} {pc jc sc : Nat} {ps : List MPiece} {js : List MJoint} {ss : List MPiece} (h : TTrack w K M pa ja sa pc jc sc ps js ss) (R : Right ps js ss) {e : MEnd} (he : ValidE ps e) :
    (Instr.lookup 121 (.map (some M)) (endV e) false).run Tryz.prog w = .ok (spotV (spotE js e).1 (spotE js e).2 (kindE js (spotE js e).1)) w := by
  obtain ⟨f, n, h1, h2, h3⟩ := h.sp
  obtain ⟨kl, hkey⟩ := keyEnd he R.np
  rw [h2.lookup hkey]
  obtain ⟨j, k, g1, g2⟩ := R.spot he
  rw [g2]
  obtain ⟨_, hj, hk, g3, _⟩ := spotF_some g1
  simp only [Nat.sub_zero] at hj hk g3
  have := h3 j k hj hk (Or.inl hj)
  rw [g3] at this
  rw [this, kindE_at hj]

end Go.Proofs.YtmkdgnmmebldgaaGreat

namespace Go.Proofs.YtmkdgnmmebldgaaGreat
open Go.RowKit Go.Deep Go.Maps

/-- The cells of a track at K. -/
structure KC (w : World) (K M : Nat) (pa ja sa : Option Addr) (pc jc sc pl jl sl : Nat) : Prop where
  c0 : w.cell? ⟨K, 0, none⟩ = some (.slice pa pl pc)
  c1 : w.cell? ⟨K, 1, none⟩ = some (.slice ja jl jc)
  c2 : w.cell? ⟨K, 2, none⟩ = some (.slice sa sl sc)
  c3 : w.cell? ⟨K, 3, none⟩ = some (.map (some M))
theorem KC.below {w w' : World} {K M : Nat} {pa ja sa : Option Addr} {pc jc sc pl jl sl : Nat} (h : KC w K M pa ja sa pc jc sc pl jl sl) (hb : Below w.heap.size w w') : KC w' K M pa ja sa pc jc sc pl jl sl :=
  ⟨cell_later hb h.c0, cell_later hb h.c1, cell_later hb h.c2, cell_later hb h.c3⟩
theorem KC.grown {w w' : World} {K M : Nat} {pa ja sa : Option Addr} {pc jc sc pl jl sl : Nat} (h : KC w K M pa ja sa pc jc sc pl jl sl) (hg : w.grownBy w' (some M)) (hne : K ≠ M) : KC w' K M pa ja sa pc jc sc pl jl sl :=
  ⟨hg.cell h.c0 (by simpa using hne), hg.cell h.c1 (by simpa using hne), hg.cell h.c2 (by simpa using hne), hg.cell h.c3 (by simpa using hne)⟩

/-- There is a track at K. -/
def HasTrack (w : World) (K : Nat) (pa ja sa : Option Addr) (pc jc sc : Nat) (ps : List MPiece) (js : List MJoint) (ss : List MPiece) : Prop := ∃ M, TTrack w K M pa ja sa pc jc sc ps js ss

set_option maxRecDepth 100000 in
set_option maxHeartbeats 8000000 in
theorem trackOf_any (pa ja sa : Option Addr) (pc jc sc : Nat) (ps : List MPiece) (js : List MJoint) (ss : List MPiece) (R : Hid (Right ps js ss)) (w : World) (hp : Hid (PiecesAt w pa ps)) (hj : Hid (JointsAt w ja js)) (hs : Hid (PiecesAt w sa ss)) :
    Calls Tryz.prog 28 #[.agg #[.slice pa ps.length pc, .slice ja js.length jc], .slice sa ss.length sc] w fun e w' => ∃ K, e = .returned (.pointer (some ⟨K, 0, none⟩)) ∧ w.heap.size ≤ K ∧ HasTrack w' K pa ja sa pc jc sc ps js ss ∧ Below w.heap.size w w' := by
  have hmm := @run_makeMap Tryz.prog
  have hjl := R.out.nj
  go_enter Tryz.func28, Tryz.ntmps28
  go_upto_region 2 with fail
  generalize hW : w.alloc (Obj.cells #[Value.slice pa ps.length pc, Value.slice ja js.length jc] 34) = W
  have e1 : W.cell? ⟨w.heap.size, 1, none⟩ = some (.slice ja js.length jc) := by rw [← hW]; simp [go_sem]
  have hz : w.heap.size + 1 = W.heap.size := by rw [← hW]; simp
  have HBW : Hid (Below w.heap.size w W) := by rw [← hW]; exact (by repeat (first | exact Below.refl _ _ | assumption | refine Below.drew ?_ | refine bdrewN ?_ _ | refine Below.setCell ?_ (by first | omega | (simp; done) | (simp; omega)) _ | refine Below.alloc ?_ (by first | omega | (simp; done) | (simp; omega)) _))
  have HM0 : Hid (SpotsTo (W.alloc (.map #[] 0)) (w.heap.size + 1) js 0 0) := by
    refine ⟨fun _ => zspot, 0, Nat.zero_le _, ?_, fun i q hi hq h => by omega⟩
    rw [hz]
    exact SMap.made W
  clear hW
  generalize hV : (W.alloc (Obj.map #[] 0)).alloc _ = V
  have HMV : Hid (SpotsTo V (w.heap.size + 1) js 0 0) := by rw [← hV]; exact HM0.out.below (by repeat (first | exact Below.refl _ _ | assumption | refine Below.drew ?_ | refine bdrewN ?_ _ | refine Below.setCell ?_ (by first | omega | (simp; done) | (simp; omega)) _ | refine Below.alloc ?_ (by first | omega | (simp; done) | (simp; omega)) _))
  have HKV : Hid (KC V (w.heap.size + 1 + 1) (w.heap.size + 1) pa ja sa pc jc sc ps.length js.length ss.length) := by
    unfold Hid
    rw [← hV, hz]
    constructor <;> simp [go_sem]
  have HBV : Hid (Below W.heap.size W V) := by rw [← hV]; exact (by repeat (first | exact Below.refl _ _ | assumption | refine Below.drew ?_ | refine bdrewN ?_ _ | refine Below.setCell ?_ (by first | omega | (simp; done) | (simp; omega)) _ | refine Below.alloc ?_ (by first | omega | (simp; done) | (simp; omega)) _))
  have e1V := cell_later HBV.out e1
  have hzA : w.heap.size + 1 ≤ W.heap.size := Nat.le_of_eq hz
  have hzB : W.heap.size ≤ w.heap.size + 1 := Nat.le_of_eq hz.symm
  have hzV : w.heap.size + 1 + 1 < V.heap.size := by
    rw [← hV]
    simp
    omega
  have hzV0 : w.heap.size < V.heap.size := by omega
  clear hV HM0 hz hmm
  go_wp2_with fail
  go_loopw [20] (fun c wr => ∃ (k : Nat), k ≤ js.length ∧ c = .int .i64 k ∧ Hid (SpotsTo wr (w.heap.size + 1) js k 0) ∧ Hid (KC wr (w.heap.size + 1 + 1) (w.heap.size + 1) pa ja sa pc jc sc ps.length js.length ss.length) ∧ Below W.heap.size W wr) (fun c _ => js.length - (intOf c).toNat)
  case atStart => exact ⟨0, Nat.zero_le _, rfl, HMV, HKV, HBV.out⟩
  case round =>
    clear HMV HKV HBV e1V hzV hzV0
    obtain ⟨k, hk, rfl, HM, HK, hb⟩ := hrel
    have hbs := hb.size
    have hz2 : w.heap.size < wr.heap.size := by omega
    by_cases hk' : k < js.length
    · have hki : (k : Int) < js.length := by omega
      obtain ⟨b1, off1, rfl, hpc⟩ := hj.out.2.2.resolve_left (fun h => by rw [h] at hk'; exact absurd hk' (Nat.not_lt_zero _))
      have hbF := HBW.out.trans (hb.mono HBW.out.size)
      obtain ⟨c1, c2, ea, ec, c3, c4⟩ := hpc k hk'
      have C4 := hidP c4
      replace c1 := cell_later hbF c1
      replace c2 := cell_later hbF c2
      replace c3 := cell_later hbF c3
      have hkd := R.out.kind k hk'
      have hkd1 := hkd.1
      have hkd4 := hkd.2.1
      have hel : js[k].ends.length ≤ 4 := by omega
      have hzc := cellLt c1
      dsimp only at hzc
      clear hpc c4 hbF hkd
      go_upto_region 5 with fail
      generalize hU : World.alloc wr _ = U
      have hbU : Below wr.heap.size wr U := by rw [← hU]; exact (Below.refl _ _).alloc (Nat.le_refl _) _
      have u0 : U.cell? ⟨wr.heap.size, 0, none⟩ = some (.int .i64 js[k].kind) := by rw [← hU]; simp [go_sem]
      have u2 : U.cell? ⟨wr.heap.size, 2, none⟩ = some (.slice ea js[k].ends.length ec) := by rw [← hU]; simp [go_sem]
      have hzU := cellLt u0
      dsimp only at hzU
      have HMU := hidP (HM.out.below hbU)
      have HKU := hidP (HK.out.below hbU)
      have HBU := hidP (hb.trans (hbU.mono hbs))
      clear hU hbU c1 c2 c3 HM HK hb
      have HKO : Hid (∀ u : World, Calls Tryz.prog 64 #[.int .i64 js[k].kind] u fun e w' => e = .returned (.tuple #[.iface (kindT js[k].kind) (.agg #[]), .bool true]) ∧ w' = u) := fun u => kindOf_any js[k].kind hkd1 hkd4 u
      go_wp2_with (go_at_call 64; refine (HKO.out _).mono ?_; rintro e w2 ⟨rfl, rfl⟩)
      go_loopw [35] (fun c wx => ∃ (m : Nat), m ≤ js[k].ends.length ∧ c = .int .i64 m ∧ Hid (SpotsTo wx (w.heap.size + 1) js k m) ∧ Hid (KC wx (w.heap.size + 1 + 1) (w.heap.size + 1) pa (some ⟨b1, off1, none⟩) sa pc jc sc ps.length js.length ss.length) ∧ Below W.heap.size W wx) (fun c _ => js[k].ends.length - (intOf c).toNat)
      case atStart => exact ⟨0, Nat.zero_le _, rfl, HMU, HKU, HBU.out⟩
      case round =>
        clear HMU HKU HBU u0 u2 hzU hbs hz2 hzc HKO
        obtain ⟨m, hm, rfl, HM, HK, hb⟩ := hrel
        have hbs := hb.size
        by_cases hm' : m < js[k].ends.length
        · have hmi : (m : Int) < js[k].ends.length := by omega
          obtain ⟨b2, off2, rfl, hpc2⟩ := (C4.out.below (HBW.out.trans (hb.mono HBW.out.size))).2.resolve_left (fun h => by rw [h] at hm'; exact absurd hm' (Nat.not_lt_zero _))
          obtain ⟨d1, d2⟩ := hpc2 m hm'
          have hzd := cellLt d1
          dsimp only at hzd
          clear hpc2
          have hbD : Below wr.heap.size wr (wr.alloc (Obj.cells #[Value.int IntKind.i64 js[k].ends[m].piece, Value.int IntKind.i64 js[k].ends[m].side] 112)).drew := (by repeat (first | exact Below.refl _ _ | assumption | refine Below.drew ?_ | refine bdrewN ?_ _ | refine Below.setCell ?_ (by first | omega | (simp; done) | (simp; omega)) _ | refine Below.alloc ?_ (by first | omega | (simp; done) | (simp; omega)) _))
          obtain ⟨w2, hme, hM3, hg⟩ := (HM.out.below hbD).put R.out hk' hm'
          have HM3 := hidP hM3
          have HK3 := hidP ((HK.out.below hbD).grown hg (by omega))
          have hb3 : Below W.heap.size W w2 := Below.grown (hb.trans (hbD.mono hbs)) hg (by simp; omega) (fun j hj => by cases hj; omega)
          have k3 := (HK.out.below hbD).c3
          have hk3 := HK.out.c3
          have hzk := cellLt hk3
          dsimp only at hzk
          unfold endV spotV at hme
          clear hM3 hg HM HK hbD
          go_upto_region 10 with fail
          go_region
          all_goals
            go_wp2_with fail
            go_roundw
            case rel => exact ⟨m + 1, by omega, by go_num, HM3, HK3, hb3⟩
            case measure => simp [intOf]; omega
        · have HM4 : Hid (SpotsTo wr (w.heap.size + 1) js (k + 1) 0) := HM.out.next hk' (by omega) (by omega)
          have hmi : ¬ (m : Int) < js[k].ends.length := by omega
          clear HM
          go_wp2_with fail
          go_roundw
          case rel => exact ⟨k + 1, by omega, by go_num, HM4, HK, hb⟩
          case measure => simp [intOf]; omega
    · obtain rfl : k = js.length := by omega
      have hki : ¬ (js.length : Int) < js.length := by omega
      have HBF := hidP (HBW.out.trans (hb.mono HBW.out.size))
      have HTT : Hid (TTrack wr (w.heap.size + 1 + 1) (w.heap.size + 1) pa ja sa pc jc sc ps js ss) :=
        ⟨⟨HK.out.c0, HK.out.c1, HK.out.c2, hp.out.below HBF.out, hj.out.below HBF.out, hs.out.below HBF.out⟩, HK.out.c3, HM.out⟩
      clear HM HK hb
      go_wp2_with fail
      exact bodyPost_ret (v := .pointer (some ⟨w.heap.size + 1 + 1, 0, none⟩)) (by simp [results, Tryz.results28, go_sem]) rfl ⟨_, rfl, by omega, ⟨_, HTT.out⟩, HBF.out⟩

end Go.Proofs.YtmkdgnmmebldgaaGreat

namespace Go.Proofs.YtmkdgnmmebldgaaGreat
open Go.RowKit Go.Deep Go.Maps

theorem Tryz.zeroP : (Tryz.prog.info? 158).map (·.zero) = some (some (.agg #[])) := by kernel_rfl
theorem Tryz.zeroB : (Tryz.prog.info? 157).map (·.zero) = some (some (.agg #[])) := by kernel_rfl
theorem missP (w : World) (xt t' : TypeId) (hne : t' ≠ 158) : (Instr.typeAssert (.iface t' (.agg #[])) xt 158 true).run Tryz.prog w = .ok (.tuple #[.agg #[], .bool false]) w := by
  obtain ⟨i, hi, hz⟩ := Option.map_eq_some_iff.1 Tryz.zeroP
  exact run_typeAssert_miss w xt _ t' _ _ i _ Tryz.underlying158 hne hi hz
theorem missB (w : World) (xt t' : TypeId) (hne : t' ≠ 157) : (Instr.typeAssert (.iface t' (.agg #[])) xt 157 true).run Tryz.prog w = .ok (.tuple #[.agg #[], .bool false]) w := by
  obtain ⟨i, hi, hz⟩ := Option.map_eq_some_iff.1 Tryz.zeroB
  exact run_typeAssert_miss w xt _ t' _ _ i _ Tryz.underlying157 hne hi hz
theorem isP (w : World) (xt : TypeId) (k : Int) : (Instr.typeAssert (.iface (kindT k) (.agg #[])) xt 158 true).run Tryz.prog w = .ok (.tuple #[.agg #[], .bool (decide (k = 2))]) w := by
  unfold kindT
  by_cases h1 : k = 1
  · subst h1
    rw [if_pos rfl]
    exact missP w xt _ (by decide)
  · rw [if_neg h1]
    by_cases h2 : k = 2
    · subst h2
      rw [if_pos rfl]
      exact run_typeAssert_hit (P := Tryz.prog) w xt 158 (.agg #[]) _ Tryz.underlying158
    · rw [if_neg h2, decide_eq_false h2]
      split
      · exact missP w xt _ (by decide)
      · exact missP w xt _ (by decide)
theorem isB (w : World) (xt : TypeId) (k : Int) : (Instr.typeAssert (.iface (kindT k) (.agg #[])) xt 157 true).run Tryz.prog w = .ok (.tuple #[.agg #[], .bool (decide (k = 1))]) w := by
  unfold kindT
  by_cases h1 : k = 1
  · subst h1
    rw [if_pos rfl]
    exact run_typeAssert_hit (P := Tryz.prog) w xt 157 (.agg #[]) _ Tryz.underlying157
  · rw [if_neg h1, decide_eq_false h1]
    split
    · exact missB w xt _ (by decide)
    · split
      · exact missB w xt _ (by decide)
      · exact missB w xt _ (by decide)

/-- On over a plain joint. -/
def overPlainF (js : List MJoint) (s : MStep) : MStep × Bool :=
  if kindE js (spotE js (aheadE s)).1 = 2 then (stepFromE (endE js (spotE js (aheadE s)).1 (1 - (spotE js (aheadE s)).2)), true) else (⟨0, 0⟩, false)

set_option maxRecDepth 100000 in
set_option maxHeartbeats 8000000 in
theorem overPlain_any (K M : Nat) (pa ja sa : Option Addr) (pc jc sc : Nat) (ps : List MPiece) (js : List MJoint) (ss : List MPiece) (R : Hid (Right ps js ss)) (s : MStep) (w : World) (hT : Hid (TTrack w K M pa ja sa pc jc sc ps js ss)) (hv : Hid (ValidS ps s)) :
    Calls Tryz.prog 113 #[.pointer (some ⟨K, 0, none⟩), endV s] w fun e w' => e = .returned (.tuple #[endV (overPlainF js s).1, .bool (overPlainF js s).2]) ∧ Below w.heap.size w w' := by
  obtain ⟨sp, sw⟩ := s
  obtain ⟨es, hes⟩ : ∃ es, aheadE ⟨sp, sw⟩ = es := ⟨_, rfl⟩
  have HVE : Hid (ValidE ps es) := by unfold Hid; rw [← hes]; exact aheadE_valid hv.out
  have HAH : Hid (∀ u : World, Calls Tryz.prog 89 #[.agg #[.int .i64 sp, .int .i64 sw]] u fun e w' => e = .returned (endV es) ∧ Below u.heap.size u w') := fun u => by
    have hh := ahead_any sp sw u
    rw [hes] at hh
    exact hh
  have c3 := hT.out.c3
  have c1 := hT.out.net.c1
  have hK := cellLt c3
  dsimp only at hK
  have HLK : Hid (∀ u : World, Below w.heap.size w u → (Instr.lookup 121 (.map (some M)) (endV es) false).run Tryz.prog u = .ok (spotV (spotE js es).1 (spotE js es).2 (kindE js (spotE js es).1)) u) := fun u hu => (hT.out.below hu).lookup R.out HVE.out
  have HF : Hid (overPlainF js ⟨sp, sw⟩ = if kindE js (spotE js es).1 = 2 then (stepFromE (endE js (spotE js es).1 (1 - (spotE js es).2)), true) else (⟨0, 0⟩, false)) := by
    unfold Hid overPlainF
    rw [hes]
  obtain ⟨j, k, g1, g2⟩ := R.out.spot HVE.out
  rw [g2] at HLK HF
  dsimp only at HLK HF
  clear hes
  unfold endV
  go_enter Tryz.func113, Tryz.ntmps113
  go_upto_region 1 with fail
  generalize hW : World.alloc (World.alloc w _) _ = W
  have hbW : Below w.heap.size w W := by rw [← hW]; exact (by repeat (first | exact Below.refl _ _ | assumption | refine Below.drew ?_ | refine bdrewN ?_ _ | refine Below.setCell ?_ (by first | omega | (simp; done) | (simp; omega)) _ | refine Below.alloc ?_ (by first | omega | (simp; done) | (simp; omega)) _))
  have x0 : W.cell? ⟨w.heap.size, 0, none⟩ = some (.int .i64 sp) := by rw [← hW]; simp [go_sem]
  have x1 : W.cell? ⟨w.heap.size, 1, none⟩ = some (.int .i64 sw) := by rw [← hW]; simp [go_sem]
  have y3 := cell_later hbW c3
  have y1 := cell_later hbW c1
  have HBW := hidP hbW
  have hzW : w.heap.size + 1 < W.heap.size := by rw [← hW]; simp
  obtain ⟨S, hS⟩ : ∃ S : World → Prop, ∀ u, S u ↔ Below W.heap.size W u := ⟨_, fun _ => Iff.rfl⟩
  have HS0 := hidP hS
  have r0 : ∀ u : Held S, World.cell? u.val ⟨w.heap.size, 0, none⟩ = some (.int .i64 sp) := fun u => cell_later ((hS u.val).1 u.2) x0
  have r1 : ∀ u : Held S, World.cell? u.val ⟨w.heap.size, 1, none⟩ = some (.int .i64 sw) := fun u => cell_later ((hS u.val).1 u.2) x1
  have r3 : ∀ u : Held S, World.cell? u.val ⟨K, 3, none⟩ = some (.map (some M)) := fun u => cell_later ((hS u.val).1 u.2) y3
  have r4 : ∀ u : Held S, (Instr.lookup 121 (.map (some M)) (endV es) false).run Tryz.prog u.val = .ok (spotV j k (kindE js j)) u.val := fun u => HLK.out u.val (HBW.out.trans (((hS u.val).1 u.2).mono HBW.out.size))
  have hS1 : S W.drew := (hS _).2 ((Below.refl _ _).drew)
  have hne := held_ne hS1
  have HQW : Hid (W.rowIs (w.heap.size + 1) 100 2 (fun _ => .int .i64 0)) := by
    unfold Hid
    rw [← hW]
    have := World.rowIs_alloc (w.alloc (Obj.cells #[Value.int IntKind.i64 sp, Value.int IntKind.i64 sw] 100)) #[.int .i64 0, .int .i64 0] 100 (fun _ => .int .i64 0) (by intro i hi; have hi' : i < 2 := hi; match i, hi' with | 0, _ => rfl | 1, _ => rfl)
    simpa using this
  clear hS hW hbW
  go_cut [6] (fun v wx => ∃ b, v = .pointer (some ⟨b, 0, none⟩) ∧ W.heap.size ≤ b ∧ wx.cell? ⟨b, 0, none⟩ = some (.int .i64 (j : Int)) ∧ wx.cell? ⟨b, 1, none⟩ = some (.int .i64 (k : Int)) ∧ wx.cell? ⟨b, 2, none⟩ = some (.iface (kindT (kindE js j)) (.agg #[])) ∧ Below W.heap.size W wx)
  case first =>
    refine wp_region_tree (fun w' => ∃ u : Held S, w' = u.val) 8 (by kernel_rfl) (by kernel_rfl) (held_some hS1) ?_
    (refine wpT_see 0 (by rfl) (by kernel_rfl) (by kernel_rfl) ?_; intro K hK; go_big_quiet_op; go_big_quiet_on); (refine wpT_see 1 (by rfl) (by kernel_rfl) (by kernel_rfl) ?_; intro K hK; go_big_quiet_op; go_big_quiet_on); (refine wpT_see 2 (by rfl) (by kernel_rfl) (by kernel_rfl) ?_; intro K hK; go_big_quiet_op; go_big_quiet_on); (refine wpT_see 3 (by rfl) (by kernel_rfl) (by kernel_rfl) ?_; intro K hK; go_big_quiet_op; go_big_quiet_on); (refine wpT_see 4 (by rfl) (by kernel_rfl) (by kernel_rfl) ?_; intro K hK; go_big_quiet_op; go_big_quiet_on)
    refine wpT_loud2 5 7 (by rfl) (by rfl) (by kernel_rfl) (by kernel_rfl) (by kernel_rfl) ?_ ?_
    · intro K hK
      go_wp2_with (go_at_call 89; refine (HAH.out _).mono ?_; rintro e w2 ⟨rfl, hb2'⟩)
      have hb2 : Below W.heap.size W w2 := (Below.refl _ _).drew.trans hb2'
      have hS2 : S w2 := (HS0.out _).2 hb2
      clear hb2'
      refine hK _ _ (held_some hS2) ?_
      clear hK K
      (refine wpT_see 6 (by rfl) (by kernel_rfl) (by kernel_rfl) ?_; intro K hK; go_big_quiet_op; go_big_quiet_on)
      refine wpT_loud 7 (by rfl) (by kernel_rfl) (by kernel_rfl) ?_
      intro K hK
      go_wp2_with fail
      have hb3 : Below W.heap.size W (w2.alloc (Obj.cells #[Value.int IntKind.i64 0, Value.int IntKind.i64 0, Value.nilIface] 129)) := hb2.trans (((Below.refl _ _).alloc (Nat.le_refl _) _).mono hb2.size)
      refine hK _ _ (held_some ((HS0.out _).2 hb3)) ?_
      clear hK K
      refine wpT_done (by kernel_rfl) ?_
      have hz2 := hb2.size
      unfold spotV
      clear r0 r1 r3 r4 hS1 hne hS2 hb3
      go_wp2_with fail
      go_meet
      exact ⟨_, rfl, hz2, by simp [go_sem], by simp [go_sem], by simp [go_sem], hb2.trans (((Below.refl _ _).alloc (Nat.le_refl _) _).mono hb2.size)⟩
    · intro K hK
      go_wp2_with fail
      have hb3 : Below W.heap.size W (W.alloc (Obj.cells #[Value.int IntKind.i64 0, Value.int IntKind.i64 0, Value.nilIface] 129)).drew := ((Below.refl _ _).alloc (Nat.le_refl _) _).drew
      refine hK _ _ (held_some ((HS0.out _).2 hb3)) ?_
      clear hK K
      generalize hV : (W.alloc (Obj.cells #[Value.int IntKind.i64 0, Value.int IntKind.i64 0, Value.nilIface] 129)).drew = V at hb3 ⊢
      have v0 : V.rowIs W.heap.size 129 3 (fun i => if i = 2 then .nilIface else .int .i64 0) := by
        rw [← hV]
        exact World.rowIs_alloc W _ _ _ (by intro i hi; have hi' : i < 3 := hi; match i, hi' with | 0, _ => rfl | 1, _ => rfl | 2, _ => rfl)
      clear hV
      refine wpT_loud 5 (by rfl) (by kernel_rfl) (by kernel_rfl) ?_
      intro K hK
      go_wp2_with (go_at_call 89; refine (HAH.out _).mono ?_; rintro e w2 ⟨rfl, hb2'⟩)
      have hb2 : Below W.heap.size W w2 := hb3.trans (hb2'.mono hb3.size)
      have hS2 : S w2 := (HS0.out _).2 hb2
      have hr2 := v0.of_block (hb2'.block _ v0.lt)
      refine hK _ _ (held_some hS2) ?_
      clear hK K v0 hb2' hb3
      (refine wpT_see 6 (by rfl) (by kernel_rfl) (by kernel_rfl) ?_; intro K hK; go_big_quiet_op; go_big_quiet_on)
      refine wpT_done (by kernel_rfl) ?_
      have hz2 := hb2.size
      have hz3 := hr2.lt
      have s0 := hr2.cell (i := 0) (by omega)
      have s1 := hr2.cell (i := 1) (by omega)
      have s2 := hr2.cell (i := 2) (by omega)
      have f0 := hr2.frozen 0
      have f1 := hr2.frozen 1
      have f2 := hr2.frozen 2
      unfold spotV
      have HR3 := hidP (((hr2.set 0 (.int .i64 (j : Int))).set 1 (.int .i64 (k : Int))).set 2 (.iface (kindT (kindE js j)) (.agg #[])))
      clear r0 r1 r3 r4 hS1 hne hS2 hr2
      go_wp2_with fail
      go_meet
      exact ⟨_, rfl, Nat.le_refl _, (HR3.out.cell (i := 0) (by omega)).trans (by simp), (HR3.out.cell (i := 1) (by omega)).trans (by simp), (HR3.out.cell (i := 2) (by omega)).trans (by simp), ((hb2.setCell (Nat.le_refl _) _).setCell (Nat.le_refl _) _).setCell (Nat.le_refl _) _⟩
  case rest =>
    obtain ⟨b, rfl, hbb, d0, d1, d2, hbc⟩ := hcut
    have HBC := hidP (HBW.out.trans (hbc.mono HBW.out.size))
    have hzb := cellLt d0
    dsimp only at hzb
    replace y1 := cell_later hbc y1
    have hzc := hbc.size
    have q4 := HQW.out.of_block (hbc.block _ HQW.out.lt)
    have s0 := q4.cell (i := 0) (by omega)
    have s1 := q4.cell (i := 1) (by omega)
    have f0 := q4.frozen 0
    have f1 := q4.frozen 1
    have hz4 := q4.lt
    have Q4 := hidP q4
    clear r0 r1 r3 r4 hS1 hne x0 x1 y3 HLK HAH HS0 hbc q4 HQW
    by_cases hkd : kindE js j = 2
    · have hta : ∀ u : World, (Instr.typeAssert (.iface (kindT (kindE js j)) (.agg #[])) 125 158 true).run Tryz.prog u = .ok (.tuple #[.agg #[], .bool true]) u := fun u => by rw [isP u, decide_eq_true hkd]
      generalize kindT (kindE js j) = kt at hta d2
      obtain ⟨_, hj, hkk, g3, _⟩ := spotF_some g1
      simp only [Nat.sub_zero] at hj hkk g3
      have hkn := (R.out.kind j hj).2.2
      rw [kindE_at hj] at hkd
      have hl2 : js[j].ends.length = 2 := by omega
      obtain ⟨k', hk'⟩ : ∃ k', k' = 1 - k := ⟨_, rfl⟩
      have hk1 : (1 : Int) - (k : Int) = (k' : Int) := by omega
      have hk2 : k' < js[j].ends.length := by omega
      have HE : Hid (overPlainF js ⟨sp, sw⟩ = (stepFromE js[j].ends[k'], true)) := by
        unfold Hid
        rw [HF.out, if_pos (by rw [kindE_at hj]; exact hkd), ← hk', endE_at hj hk2]
      clear hk'
      go_upto_region 5 with fail
      generalize hU : World.alloc wc _ = U
      have hbU : Below wc.heap.size wc U := by rw [← hU]; exact (by repeat (first | exact Below.refl _ _ | assumption | refine Below.drew ?_ | refine bdrewN ?_ _ | refine Below.setCell ?_ (by first | omega | (simp; done) | (simp; omega)) _ | refine Below.alloc ?_ (by first | omega | (simp; done) | (simp; omega)) _))
      have HBU := hidP (HBC.out.trans (hbU.mono HBC.out.size))
      obtain ⟨b1, off1, hja, hpc⟩ := (hT.out.net.J.below HBU.out).2.2.resolve_left (fun h => by rw [h] at hj; exact absurd hj (Nat.not_lt_zero _))
      obtain ⟨_, _, ea, ec, m3, m4⟩ := hpc j hj
      obtain ⟨b2, off2, rfl, hpc2⟩ := m4.2.resolve_left (fun h => by rw [h] at hl2; simp at hl2)
      obtain ⟨m5, m6⟩ := hpc2 k' hk2
      subst hja
      have HSF : Hid (∀ u : World, Calls Tryz.prog 127 #[.agg #[.int .i64 js[j].ends[k'].piece, .int .i64 js[j].ends[k'].side]] u fun e w' => e = .returned (endV (stepFromE js[j].ends[k'])) ∧ Below u.heap.size u w') := fun u => stepFrom_any _ _ u
      have hji : (j : Int) < js.length := by omega
      have hki : (k' : Int) < js[j].ends.length := by omega
      generalize js[j].ends[k'] = en at m5 m6 HSF HE
      obtain ⟨e1, e2⟩ := en
      generalize js[j].ends.length = nl at m3 hki
      dsimp only at m5 m6 HSF
      replace d0 := cell_later hbU d0
      replace d1 := cell_later hbU d1
      replace y1 := cell_later hbU y1
      have Q5 := hidP (Q4.out.of_block (hbU.block _ Q4.out.lt))
      have hzm := cellLt m3
      have hzm2 := cellLt m5
      have hzd := cellLt d0
      have hzy := cellLt y1
      dsimp only at hzm hzm2 hzd hzy
      clear hpc hpc2 m4 hU hbU d2 s0 s1 f0 f1 hz4 Q4 hzb hK
      obtain ⟨S5, hS5⟩ : ∃ S : World → Prop, ∀ u, S u ↔ Below U.heap.size U u := ⟨_, fun _ => Iff.rfl⟩
      have r0 : ∀ u : Held S5, World.cell? u.val ⟨b, 0, none⟩ = some (.int .i64 (j : Int)) := fun u => cell_later ((hS5 u.val).1 u.2) d0
      have r1 : ∀ u : Held S5, World.cell? u.val ⟨b, 1, none⟩ = some (.int .i64 (k : Int)) := fun u => cell_later ((hS5 u.val).1 u.2) d1
      have r2 : ∀ u : Held S5, World.cell? u.val ⟨K, 1, none⟩ = some (.slice (some ⟨b1, off1, none⟩) js.length jc) := fun u => cell_later ((hS5 u.val).1 u.2) y1
      have r3 : ∀ u : Held S5, World.cell? u.val ⟨b1, off1 + j * 3 + 2, none⟩ = some (.slice (some ⟨b2, off2, none⟩) nl ec) := fun u => cell_later ((hS5 u.val).1 u.2) m3
      have r4 : ∀ u : Held S5, World.cell? u.val ⟨b2, off2 + k' * 2, none⟩ = some (.int .i64 e1) := fun u => cell_later ((hS5 u.val).1 u.2) m5
      have r5 : ∀ u : Held S5, World.cell? u.val ⟨b2, off2 + k' * 2 + 1, none⟩ = some (.int .i64 e2) := fun u => cell_later ((hS5 u.val).1 u.2) m6
      have hS1 : S5 U.drew := (hS5 _).2 ((Below.refl _ _).drew)
      have hne := held_ne hS1
      clear hS5
      refine wp_region_tree (fun w' => ∃ u : Held S5, w' = u.val) 15 (by kernel_rfl) (by kernel_rfl) (held_some hS1) ?_
      (refine wpT_see 0 (by rfl) (by kernel_rfl) (by kernel_rfl) ?_; intro K hK; go_big_quiet_op; go_big_quiet_on); (refine wpT_see 1 (by rfl) (by kernel_rfl) (by kernel_rfl) ?_; intro K hK; go_big_quiet_op; go_big_quiet_on); (refine wpT_see 2 (by rfl) (by kernel_rfl) (by kernel_rfl) ?_; intro K hK; go_big_quiet_op; go_big_quiet_on); (refine wpT_see 3 (by rfl) (by kernel_rfl) (by kernel_rfl) ?_; intro K hK; go_big_quiet_op; go_big_quiet_on); (refine wpT_see 4 (by rfl) (by kernel_rfl) (by kernel_rfl) ?_; intro K hK; go_big_quiet_op; go_big_quiet_on); (refine wpT_see 5 (by rfl) (by kernel_rfl) (by kernel_rfl) ?_; intro K hK; go_big_quiet_op; go_big_quiet_on); (refine wpT_see 6 (by rfl) (by kernel_rfl) (by kernel_rfl) ?_; intro K hK; go_big_quiet_op; go_big_quiet_on); (refine wpT_see 7 (by rfl) (by kernel_rfl) (by kernel_rfl) ?_; intro K hK; go_big_quiet_op; go_big_quiet_on); (refine wpT_see 8 (by rfl) (by kernel_rfl) (by kernel_rfl) ?_; intro K hK; go_big_quiet_op; go_big_quiet_on); (refine wpT_see 9 (by rfl) (by kernel_rfl) (by kernel_rfl) ?_; intro K hK; go_big_quiet_op; go_big_quiet_on); (refine wpT_see 10 (by rfl) (by kernel_rfl) (by kernel_rfl) ?_; intro K hK; go_big_quiet_op; go_big_quiet_on); (refine wpT_see 11 (by rfl) (by kernel_rfl) (by kernel_rfl) ?_; intro K hK; go_big_quiet_op; go_big_quiet_on); (refine wpT_see 12 (by rfl) (by kernel_rfl) (by kernel_rfl) ?_; intro K hK; go_big_quiet_op; go_big_quiet_on); (refine wpT_see 13 (by rfl) (by kernel_rfl) (by kernel_rfl) ?_; intro K hK; go_big_quiet_op; go_big_quiet_on); (refine wpT_see 14 (by rfl) (by kernel_rfl) (by kernel_rfl) ?_; intro K hK; go_big_quiet_op; go_big_quiet_on)
      refine wpT_done (by kernel_rfl) ?_
      clear r0 r1 r2 r3 r4 r5 hne hS1
      obtain ⟨en', hen⟩ : ∃ en', stepFromE ⟨e1, e2⟩ = en' := ⟨_, rfl⟩
      rw [hen] at HSF HE
      unfold endV at HSF
      go_wp2_with (go_at_call 127; refine (HSF.out _).mono ?_; rintro e w6 ⟨rfl, hb6'⟩; have hb6 : Below U.heap.size U w6 := (Below.refl _ _).drew.trans hb6'; have Q6 := hidP (Q5.out.of_block (hb6.block _ Q5.out.lt)); have HB6 := hidP (HBU.out.trans (hb6.mono HBU.out.size)); have s0 := Q6.out.cell (i := 0) (by omega); have s1 := Q6.out.cell (i := 1) (by omega); have f0 := Q6.out.frozen 0; have f1 := Q6.out.frozen 1; have hz4 := Q6.out.lt; clear hb6' hb6)
      have HR := hidP ((Q6.out.set 0 (.int .i64 en'.piece)).set 1 (.int .i64 en'.side))
      have t0 := HR.out.cell (i := 0) (by omega)
      have t1 := HR.out.cell (i := 1) (by omega)
      simp only [] at t0 t1
      exact bodyPost_ret (v := .tuple #[.agg #[.int .i64 en'.piece, .int .i64 en'.side], .bool true]) (by simp [results, Tryz.results113, go_sem, t0, t1]) rfl ⟨by rw [HE.out], (by repeat (first | exact Below.refl _ _ | assumption | refine Below.drew ?_ | refine bdrewN ?_ _ | refine Below.setCell ?_ (by first | omega | (simp; done) | (simp; omega)) _ | refine Below.alloc ?_ (by first | omega | (simp; done) | (simp; omega)) _))⟩
    · have hta : ∀ u : World, (Instr.typeAssert (.iface (kindT (kindE js j)) (.agg #[])) 125 158 true).run Tryz.prog u = .ok (.tuple #[.agg #[], .bool false]) u := fun u => by rw [isP u, decide_eq_false hkd]
      have HE : Hid (overPlainF js ⟨sp, sw⟩ = (⟨0, 0⟩, false)) := by unfold Hid; rw [HF.out, if_neg hkd]
      generalize kindT (kindE js j) = kt at hta d2
      clear HF
      go_wp2_with fail
      have HR := hidP (((Q4.out.set 0 (.int .i64 0)).set 1 (.int .i64 0)).alloc (Obj.cells #[] 158))
      have t0 := HR.out.cell (i := 0) (by omega)
      have t1 := HR.out.cell (i := 1) (by omega)
      simp only [] at t0 t1
      have hb7 := HBC.out
      exact bodyPost_ret (v := .tuple #[.agg #[.int .i64 0, .int .i64 0], .bool false]) (by simp [results, Tryz.results113, go_sem, t0, t1]) rfl ⟨by rw [HE.out], (by repeat (first | exact Below.refl _ _ | assumption | refine Below.drew ?_ | refine bdrewN ?_ _ | refine Below.setCell ?_ (by first | omega | (simp; done) | (simp; omega)) _ | refine Below.alloc ?_ (by first | omega | (simp; done) | (simp; omega)) _))⟩

end Go.Proofs.YtmkdgnmmebldgaaGreat
