import Derived.Test.YtmkdgnmmebldgaaPq24
import Derived.Test.YtmkdgnmmebldgaaPq5
import Derived.Maps.Own
import Derived.Maps.OwnOps
import Derived.Maps.Views
import Derived.WideKeyEntry
import Derived.DeepKeys4
import Derived.StringKeys
namespace Go.Proofs.Ytmkdgnmmebldgaa
open Go.RowKit Go.Deep
def partsK (ps : List MPiece) (ss : List MPiece) (p : MPath) (k : Nat) : List MPart := if k < p.steps.length then fullParts ps (sigAt ss p.start) (p.steps.take k) else partsF ps ss p
theorem partsK_zero (ps : List MPiece) (ss : List MPiece) (p : MPath) (h : 0 < p.steps.length) : partsK ps ss p 0 = [] := by
  unfold partsK
  rw [if_pos h]
  rfl
theorem partsK_all (ps : List MPiece) (ss : List MPiece) (p : MPath) : partsK ps ss p p.steps.length = partsF ps ss p := by
  unfold partsK
  rw [if_neg (by omega)]
theorem partsK_len (ps : List MPiece) (ss : List MPiece) (p : MPath) {k : Nat} (h0 : 0 < p.steps.length) (h : k ≤ p.steps.length) : (partsK ps ss p k).length = k := by
  unfold partsK
  split
  · rw [fullParts_len, List.length_take]
    omega
  · unfold partsF
    rw [List.length_append, fullParts_len, List.length_dropLast]
    simp
    omega
theorem partsK_next (ps : List MPiece) (ss : List MPiece) (p : MPath) {k : Nat} (h : k < p.steps.length) : partsK ps ss p (k + 1) = partsK ps ss p k ++ [partI p.steps[k].piece (if k = 0 then sigAt ss p.start else endAt ps (farE (aheadE p.steps[k]))) (if k = p.steps.length - 1 ∧ 0 ≤ p.stop then sigAt ss p.stop else endAt ps (aheadE p.steps[k]))] := by
  by_cases hl : k + 1 < p.steps.length
  · unfold partsK
    rw [if_pos hl, if_pos h, List.take_succ_eq_append_getElem h, fullParts_snoc, if_neg (show ¬ (k = p.steps.length - 1 ∧ 0 ≤ p.stop) from fun e => by omega)]
    have e : (p.steps.take k).length = k := by rw [List.length_take]; omega
    rw [e]
  · have hk : k = p.steps.length - 1 := by omega
    have hlast : p.steps[k] = lastS p := by
      have := lastS_get (p := p) (by omega)
      rw [← this]
      congr 1
    unfold partsK
    rw [if_neg hl, if_pos h]
    unfold partsF
    rw [hlast, List.dropLast_eq_take, ← hk]
    congr 3
    · by_cases h1 : k = 0
      · rw [if_pos (by omega), if_pos h1]
      · rw [if_neg (by omega), if_neg h1]
    · by_cases h1 : 0 ≤ p.stop
      · rw [if_pos h1, if_pos ⟨rfl, h1⟩]
      · rw [if_neg h1, if_neg (fun e => h1 e.2)]
set_option maxRecDepth 20000 in
set_option maxHeartbeats 8000000 in
theorem partsOf_any (K : Nat) (pa ja sa : Option Addr) (pc jc sc : Nat) (ps : List MPiece) (js : List MJoint) (ss : List MPiece) (d : PAddr) (p : MPath) (w : World) (hT : Hid (TNet w K pa ja sa pc jc sc ps js ss)) (h : Hid (PListsAt w d p)) (h0 : 0 < p.steps.length) (h1 : p.steps.length ≤ 1000) (hv : Hid (∀ s ∈ p.steps, ValidS ps s)) (hs : Hid (∃ i : Nat, i < ss.length ∧ p.start = i)) (he : Hid (p.stop = -1 ∨ ∃ i : Nat, i < ss.length ∧ p.stop = i)) :
    Calls Try.prog 124 #[.pointer (some ⟨K, 0, none⟩), pathV d p] w fun e w' => ∃ x y, e = .returned (.slice x (partsF ps ss p).length y) ∧ w'.ownsRow w.heap.size 44 3 (.slice x (partsF ps ss p).length y) (partsF ps ss p).length (flatP (partsF ps ss p)) ∧ Below w.heap.size w w' := by
  obtain ⟨b1, off1, ha, hpc⟩ := h.out.steps.2.resolve_left (fun h => by rw [h] at h0; exact absurd h0 (by simp))
  have HPC := hidP hpc
  obtain ⟨n, hn⟩ : ∃ n, p.steps.length = n := ⟨_, rfl⟩
  have HN := hidP hn
  unfold pathV
  rw [ha, hn]
  rw [hn] at h0 h1
  have c2 := hT.out.c2
  have hK := cellLt c2
  dsimp only at hK
  clear hpc ha hn
  go_enter Try.func124, Try.ntmps124
  go_wp2_with fail
  generalize hW : World.alloc w _ = W
  have hbW : Below w.heap.size w W := by rw [← hW]; exact blo
  have x0 : W.cell? ⟨w.heap.size, 0, none⟩ = some (.int .i64 p.start) := by rw [← hW]; simp [go_sem]
  have x1 : W.cell? ⟨w.heap.size, 1, none⟩ = some (.int .i64 p.stop) := by rw [← hW]; simp [go_sem]
  have x3 : W.cell? ⟨w.heap.size, 3, none⟩ = some (.slice (some ⟨b1, off1, none⟩) n d.c0) := by rw [← hW]; simp [go_sem]
  have HBW := hidP hbW
  have hzW : w.heap.size < W.heap.size := by rw [← hW]; simp
  clear hW hbW c2
  go_loopw [5, 13] (fun ve i wr => ∃ (k : Nat) (x : Option Addr) (y : Nat), k ≤ n ∧ i = .int .i64 k ∧ ve = .slice x k y ∧ Hid (wr.ownsRow W.heap.size 44 3 (.slice x k y) k (flatP (partsK ps ss p k))) ∧ Below W.heap.size W wr) (fun _ i _ => n - (intOf i).toNat)
  case atStart => exact ⟨0, none, 0, Nat.zero_le _, rfl, rfl, by unfold Hid; rw [partsK_zero _ _ _ (by rw [HN.out]; exact h0)]; exact World.ownsRow_nil _ _ _ _, Below.refl _ _⟩
  case round =>
    obtain ⟨k, x, y, hk, rfl, rfl, HO, hb⟩ := hrel
    have hbs := hb.size
    have hbF := HBW.out.trans (hb.mono HBW.out.size)
    by_cases hk' : k < n
    · have hkl : k < p.steps.length := by rw [HN.out]; exact hk'
      obtain ⟨c0, c1⟩ := (HPC.out.below hbF) k hkl
      obtain ⟨q, hq, hq1, hq2⟩ := hv.out _ (List.getElem_mem hkl)
      have HNX := hidP (partsK_next ps ss p hkl)
      generalize p.steps[k] = sk at c0 c1 hq1 hq2 HNX
      obtain ⟨sp, sw⟩ := sk
      dsimp only at c0 c1 hq1 hq2 HNX
      subst hq1
      have y0 := cell_later hb x0
      have y1 := cell_later hb x1
      have y3 := cell_later hb x3
      have hki : (k : Int) < n := by omega
      have hzc := cellLt c0
      dsimp only at hzc
      have HBF := hidP hbF
      obtain ⟨es, hes⟩ : ∃ es, aheadE ⟨(q : Int), sw⟩ = ⟨(q : Int), es⟩ ∧ 0 ≤ es ∧ es ≤ 1 := by
        unfold aheadE
        split
        · exact ⟨1, rfl, by omega, by omega⟩
        · exact ⟨0, rfl, by omega, by omega⟩
      have HAH : Hid (∀ u : World, Calls Try.prog 156 #[.agg #[.int .i64 (q : Int), .int .i64 sw]] u fun e w' => e = .returned (.agg #[.int .i64 (q : Int), .int .i64 es]) ∧ Below u.heap.size u w') := fun u => by
        have hh := ahead_any (q : Int) sw u
        rw [hes.1] at hh
        exact hh
      have HFE : Hid (∀ u : World, Calls Try.prog 155 #[.agg #[.int .i64 (q : Int), .int .i64 es]] u fun e w' => e = .returned (.agg #[.int .i64 (q : Int), .int .i64 (1 - es)]) ∧ Below u.heap.size u w') := fun u => farEnd_any (q : Int) es u hes.2.1 hes.2.2
      obtain ⟨A1, hA1⟩ : ∃ A, endAt ps ⟨(q : Int), 1 - es⟩ = A := ⟨_, rfl⟩
      obtain ⟨A2, hA2⟩ : ∃ A, endAt ps ⟨(q : Int), es⟩ = A := ⟨_, rfl⟩
      have HNX2 : Hid (partsK ps ss p (k + 1) = partsK ps ss p k ++ [partI q (if k = 0 then sigAt ss p.start else A1) (if k = n - 1 ∧ 0 ≤ p.stop then sigAt ss p.stop else A2)]) := by
        unfold Hid
        rw [HNX.out, hes.1, HN.out]
        unfold farE
        rw [hA1, hA2]
      go_upto_region 5 with fail
      generalize hWa : World.alloc wr _ = Wa
      have hba : Below wr.heap.size wr Wa := by rw [← hWa]; exact (Below.refl _ _).alloc (Nat.le_refl _) _
      have z0 : Wa.cell? ⟨wr.heap.size, 0, none⟩ = some (.int .i64 (q : Int)) := by rw [← hWa]; simp [go_sem]
      have z1 : Wa.cell? ⟨wr.heap.size, 1, none⟩ = some (.int .i64 sw) := by rw [← hWa]; simp [go_sem]
      have HBa := hidP (hb.trans (hba.mono hbs))
      have HBFa := hidP (hbF.trans (hba.mono (by omega)))
      have HAT1 : Hid (∀ u : World, Below Wa.heap.size Wa u → Calls Try.prog 154 #[.pointer (some ⟨K, 0, none⟩), .agg #[.int .i64 (q : Int), .int .i64 (1 - es)]] u fun e w' => e = .returned (.int .i64 A1) ∧ Below u.heap.size u w') := fun u hu => by
        rw [← hA1]
        exact at_any K pa ja sa pc jc sc ps js ss q (1 - es) u ((hT.out.below HBFa.out).below hu) hq
      have HAT2 : Hid (∀ u : World, Below Wa.heap.size Wa u → Calls Try.prog 154 #[.pointer (some ⟨K, 0, none⟩), .agg #[.int .i64 (q : Int), .int .i64 es]] u fun e w' => e = .returned (.int .i64 A2) ∧ Below u.heap.size u w') := fun u hu => by
        rw [← hA2]
        exact at_any K pa ja sa pc jc sc ps js ss q es u ((hT.out.below HBFa.out).below hu) hq
      replace y0 := cell_later hba y0
      replace y1 := cell_later hba y1
      replace y3 := cell_later hba y3
      have HOa := hidP (owns_below HO.out hba)
      have l0 := Later.cell z0
      have l1 := Later.cell z1
      have hne := later_some Wa
      have hzz := cellLt z0
      dsimp only at hzz
      clear hWa hba c0 c1 hb hbF HO HNX hes hA1 hA2
      refine wp_region_later (by kernel_rfl) (by kernel_rfl) ?_
      iterate 2 (go_big_quiet_step (fail))
      go_big_quiet_step ((rename_i u; exact Later.calls u (HAH.out u.val)))
      go_big_quiet_step ((rename_i u; exact Later.calls u (HFE.out u.val)))
      go_big_quiet_step ((rename_i u; exact Later.calls u (HAT1.out u.val u.2)))
      iterate 2 (go_big_quiet_step (fail))
      go_big_quiet_step ((rename_i u; exact Later.calls u (HAH.out u.val)))
      go_big_quiet_step ((rename_i u; exact Later.calls u (HAT2.out u.val u.2)))
      iterate 2 (go_big_quiet_step (fail))
      refine wpQuiet_nil ?_
      intro _ hw'
      obtain ⟨u, hw''⟩ := hw'
      subst hw''
      have hbu := u.2
      generalize u.val = w6 at hbu ⊢
      replace y0 := cell_later hbu y0
      replace y1 := cell_later hbu y1
      replace y3 := cell_later hbu y3
      replace z0 := cell_later hbu z0
      have HO6 := hidP (owns_below HOa.out hbu)
      have HB6 := hidP (HBa.out.trans (hbu.mono HBa.out.size))
      have HBF6 := hidP (HBFa.out.trans (hbu.mono HBFa.out.size))
      have hz6 := hbu.size
      clear l0 l1 hne hbu HAH HFE HAT1 HAT2 z1 HOa HBa HBFa
      obtain ⟨i, hi, hpi⟩ := hs.out
      have hT6 := hT.out.below HBF6.out
      obtain ⟨bs, os, hsa, hpcs⟩ := hT6.S.2.2.resolve_left (fun h => by rw [h] at hi; exact absurd hi (Nat.not_lt_zero _))
      obtain ⟨_, _, s2, _⟩ := hpcs i hi
      have k2 := hT6.c2
      rw [hsa] at k2
      have HSI : Hid (sigAt ss p.start = ss[i].speed) := by unfold Hid; rw [hpi]; exact sigAt_at hi
      rw [hpi] at y0
      generalize ss[i].speed = sv at s2 HSI
      have hzs := cellLt s2
      dsimp only at hzs
      have hii : (i : Int) < ss.length := by omega
      have HSA := hidP hsa
      have HPI := hidP hpi
      clear hpcs hT6 hsa hpi
      go_upto_if 28 with fail
      go_cut [8] (fun v wx => v = .int .i64 (if k = 0 then sigAt ss p.start else A1) ∧ Below w6.heap.size w6 wx)
      case first =>
        by_cases hk0 : k = 0
        · have hkb : ((k : Int) == 0) = true := by simp [hk0]
          have HV : Hid ((if k = 0 then sigAt ss p.start else A1) = sv) := by unfold Hid; rw [if_pos hk0]; exact HSI.out
          clear hk0
          go_wp2_with fail
          go_quiet (fail)
          go_wp2_with fail
          go_meet
          exact ⟨by rw [HV.out], blo⟩
        · have hkb : ((k : Int) == 0) = false := by simp; omega
          have HV : Hid ((if k = 0 then sigAt ss p.start else A1) = A1) := by unfold Hid; rw [if_neg hk0]
          clear hk0
          go_wp2_with fail
          go_meet
          exact ⟨by rw [HV.out], Below.refl _ _⟩
      case rest =>
        obtain ⟨rfl, hbc⟩ := hcut
        generalize (if k = 0 then sigAt ss p.start else A1) = st at HNX2 ⊢
        replace y1 := cell_later hbc y1
        replace y3 := cell_later hbc y3
        replace z0 := cell_later hbc z0
        replace k2 := cell_later hbc k2
        have HO7 := hidP (owns_below HO6.out hbc)
        have HB7 := hidP (HB6.out.trans (hbc.mono HB6.out.size))
        have HBF7 := hidP (HBF6.out.trans (hbc.mono HBF6.out.size))
        have hz7 := hbc.size
        clear hbc HO6 HB6 HBF6 s2 y0 HSI
        obtain ⟨m, hm⟩ : ∃ m, n = m + 1 := ⟨n - 1, by omega⟩
        have HM := hidP hm
        have hmi : (n : Int) - 1 = m := by omega
        have hsv : Hid (0 ≤ p.stop → ∃ (i2 : Nat) (h2 : i2 < ss.length), p.stop = i2 ∧ sigAt ss p.stop = ss[i2].speed) := fun h0' => by
          rcases he.out with h3 | ⟨i2, h3, h4⟩
          · omega
          · exact ⟨i2, h3, h4, by rw [h4]; exact sigAt_at h3⟩
        clear hm
        go_upto_region 8 with fail
        go_cut [48] (fun v wx => v = .bool (decide (k = n - 1 ∧ 0 ≤ p.stop)) ∧ Below wc.heap.size wc wx)
        case first =>
          by_cases hkm : k = m
          · have hkb : ((k : Int) == (m : Int)) = true := by simp [hkm]
            by_cases hst0 : 0 ≤ p.stop
            · have HV : Hid (decide (k = n - 1 ∧ 0 ≤ p.stop) = true) := by
                have := HM.out
                unfold Hid
                simp
                omega
              clear hkm
              go_wp2_with fail
              go_meet
              exact ⟨by rw [HV.out], blo⟩
            · have HV : Hid (decide (k = n - 1 ∧ 0 ≤ p.stop) = false) := by
                unfold Hid
                simp
                omega
              have hst1 : ¬ 0 ≤ p.stop := hst0
              clear hkm
              go_wp2_with fail
              go_meet
              exact ⟨by rw [HV.out], blo⟩
          · have hkb : ((k : Int) == (m : Int)) = false := by simp; omega
            have HV : Hid (decide (k = n - 1 ∧ 0 ≤ p.stop) = false) := by
              have := HM.out
              unfold Hid
              simp
              omega
            clear hkm
            go_wp2_with fail
            go_meet
            exact ⟨by rw [HV.out], blo⟩
        case rest =>
          obtain ⟨rfl, hbc⟩ := hcut
          replace y1 := cell_later hbc y1
          replace z0 := cell_later hbc z0
          replace k2 := cell_later hbc k2
          have HO8 := hidP (owns_below HO7.out hbc)
          have HB8 := hidP (HB7.out.trans (hbc.mono HB7.out.size))
          have HBF8 := hidP (HBF7.out.trans (hbc.mono HBF7.out.size))
          have hz8 := hbc.size
          clear hbc HO7 HB7 HBF7 y3
          generalize hdb : decide (k = n - 1 ∧ 0 ≤ p.stop) = db
          go_upto_if 48 with fail
          go_cut [9] (fun v wx => v = .int .i64 (if k = n - 1 ∧ 0 ≤ p.stop then sigAt ss p.stop else A2) ∧ Below wc.heap.size wc wx)
          case first =>
            cases db with
            | true =>
              have hcc := of_decide_eq_true hdb
              obtain ⟨i2, h2, hp2, hv2⟩ := hsv.out hcc.2
              have HV : Hid ((if k = n - 1 ∧ 0 ≤ p.stop then sigAt ss p.stop else A2) = ss[i2].speed) := by unfold Hid; rw [if_pos hcc]; exact hv2
              have hT8 := hT.out.below HBF8.out
              obtain ⟨bs', os', hsa', hpcs⟩ := hT8.S.2.2.resolve_left (fun h => by rw [h] at h2; exact absurd h2 (Nat.not_lt_zero _))
              obtain ⟨_, _, s2, _⟩ := hpcs i2 h2
              have hee := HSA.out.symm.trans hsa'
              simp at hee
              obtain ⟨rfl, rfl⟩ := hee
              rw [hp2] at y1
              generalize ss[i2].speed = sv2 at s2 HV
              have hzs2 := cellLt s2
              dsimp only at hzs2
              have hii2 : (i2 : Int) < ss.length := by omega
              clear hcc hdb hpcs hT8 hv2 hsa'
              go_wp2_with fail
              go_quiet (fail)
              go_wp2_with fail
              go_meet
              exact ⟨by rw [HV.out], blo⟩
            | false =>
              have HV : Hid ((if k = n - 1 ∧ 0 ≤ p.stop then sigAt ss p.stop else A2) = A2) := by unfold Hid; rw [if_neg (of_decide_eq_false hdb)]
              clear hdb
              go_wp2_with fail
              go_meet
              exact ⟨by rw [HV.out], Below.refl _ _⟩
          case rest =>
            obtain ⟨rfl, hbc⟩ := hcut
            generalize (if k = n - 1 ∧ 0 ≤ p.stop then sigAt ss p.stop else A2) = sp at HNX2 ⊢
            replace z0 := cell_later hbc z0
            have HO9 := hidP (owns_below HO8.out hbc)
            have HB9 := hidP (HB8.out.trans (hbc.mono HB8.out.size))
            have hz9 := hbc.size
            clear hbc HO8 HB8 HBF8 k2 hdb hsv y1
            obtain ⟨pt, hpt⟩ : ∃ pt, partI (q : Int) st sp = pt := ⟨_, rfl⟩
            have HPO : Hid (∀ u : World, Calls Try.prog 157 #[.int .i64 (q : Int), .int .i64 st, .int .i64 sp] u fun e w' => e = .returned (partV pt) ∧ Below u.heap.size u w') := fun u => by rw [← hpt]; exact partOf_any (q : Int) st sp u
            rw [hpt] at HNX2
            clear hpt
            go_wp2_with (first
              | (go_at_call 157; refine (HPO.out _).mono ?_; rintro e w2 ⟨rfl, hb2⟩; have HO10 := hidP (owns_below HO9.out hb2); have hb3 := HB9.out.trans (hb2.mono HB9.out.size); have hz10 := hb2.size; have hz11 := hb3.size; unfold partV; clear hb2 HO9 HB9)
              | (at_builtin; refine wpList_push rfl (.tmp 58) (.tmp 64) 39 rfl W.heap.size 44 _ 3 24 Try.underlying39 Try.infoPart rfl (by decide) (.slice x k y) k (flatP (partsK ps ss p k)) rfl HO10.out w2.heap.size rfl [.int .i64 pt.piece, .int .i64 pt.lo, .int .i64 pt.hi] rfl rfl (by simp [Value.oneCell']) (by unfold maxLen; omega) (by omega) (by omega) ?_; intro x' y' w3 ho3 hg3; rw [flatP_push, ← HNX2.out] at ho3; have HO3 := hidP ho3; have hb4 := push_below hb3 HO10.out hg3 (by omega); clear ho3 hg3))
            go_roundw
            case rel => exact ⟨k + 1, x', y', by omega, by go_num, rfl, HO3, hb4⟩
            case measure => simp [intOf]; omega
    · obtain rfl : k = n := by omega
      have HNn : Hid ((partsF ps ss p).length = k) := by
        unfold Hid
        rw [← partsK_all, partsK_len _ _ _ (by rw [HN.out]; exact h0) (Nat.le_refl _)]
        exact HN.out
      have HOe : Hid (wr.ownsRow w.heap.size 44 3 (.slice x k y) k (flatP (partsF ps ss p))) := by
        have := owns_base HO.out (show w.heap.size ≤ W.heap.size by omega)
        rw [← HN.out, partsK_all, HN.out] at this
        exact this
      clear HO hb
      have hki : ¬ (k : Int) < k := by omega
      have HBe := hidP hbF
      clear hbF
      go_wp2_with fail
      rw [HNn.out]
      exact bodyPost_ret (v := .slice x k y) (by simp [results, Try.results124, go_sem]) rfl ⟨x, y, rfl, HOe.out, HBe.out⟩
end Go.Proofs.Ytmkdgnmmebldgaa

namespace Go.Proofs.Ytmkdgnmmebldgaa
open Go.RowKit Go.Maps
open Go.ChangeMaps (setBlock heap_setBlock_same)
theorem zeroI (w : World) : (zeroValue 3).run Try.prog w = .ok (.int .i64 0) w := by kernel_rfl
def CMap (kt : TypeId) (w : World) (b n : Nat) (f : Value → Int) : Prop :=
  ∃ D : DataW Unit, w.ownsMap Try.prog kt (plainElem Try.prog 3) b n D ∧ IsMap D ∧ ∀ key kl, keyOf Try.prog kt key = some kl → D.atKey kl (.lit (.int .i64 0)) = .lit (.int .i64 (f key))
theorem CMap.made (kt : TypeId) (w : World) : CMap kt (w.alloc (.map #[] 0)) w.heap.size 0 (fun _ => 0) :=
  ⟨.map [], World.ownsMap_made w _ _ _, isMap_empty, fun _ _ _ => rfl⟩
theorem CMap.of_block {kt : TypeId} {w w' : World} {b n : Nat} {f : Value → Int} (h : CMap kt w b n f) (e : w'.heap[b]? = w.heap[b]?) : CMap kt w' b n f := by
  obtain ⟨D, ⟨es, clock, hb, r⟩, h2, h3⟩ := h
  exact ⟨D, ⟨es, clock, e.trans hb, r⟩, h2, h3⟩
theorem CMap.lt {kt : TypeId} {w : World} {b n : Nat} {f : Value → Int} (h : CMap kt w b n f) : b < w.heap.size := by
  obtain ⟨D, h1, _⟩ := h
  exact h1.lt
theorem CMap.below {kt : TypeId} {w w' : World} {b n : Nat} {f : Value → Int} (h : CMap kt w b n f) (hb : Below w.heap.size w w') : CMap kt w' b n f := h.of_block (hb.block _ h.lt)
theorem CMap.lookup {kt t : TypeId} {w : World} {b n : Nat} {f : Value → Int} (h : CMap kt w b n f) (K : Keyed Try.prog kt) (ht : Try.prog.underlying t = some (.map kt 3)) {key : Value} {kl : Lit} (hkey : keyOf Try.prog kt key = some kl) :
    (Instr.lookup t (.map (some b)) key false).run Try.prog w = .ok (.int .i64 (f key)) w := by
  obtain ⟨D, h1, _, h3⟩ := h
  obtain ⟨c, hrun, hat, _⟩ := h1.lookup_int K ht Try.underlying3 (zeroI w) hkey
  have e := (h3 key kl hkey).symm.trans hat
  simp only [DataW.lit.injEq, Lit.int.injEq, true_and] at e
  rw [hrun, e]
theorem CMap.update {kt t : TypeId} {w : World} {b n : Nat} {f : Value → Int} (h : CMap kt w b n f) (K : Keyed Try.prog kt) (ht : Try.prog.underlying t = some (.map kt 3)) (hn : n < maxLen) {key : Value} {kl : Lit} (hkey : keyOf Try.prog kt key = some kl)
    (v : Int) (hv : (Lit.int .i64 v).wf = true) (f' : Value → Int) (h1 : f' key = v) (h2 : ∀ k, k ≠ key → f' k = f k) :
    ∃ w', (Instr.mapUpdate t (.map (some b)) key (.int .i64 v)).run Try.prog w = .ok () w' ∧ CMap kt w' b (n + 1) f' ∧ w.grownBy w' (some b) := by
  obtain ⟨D, ho, hm, h3⟩ := h
  obtain ⟨w', hrun, hown, hg⟩ := ho.update K ht hn hkey (plainElem_int Try.underlying3 hv)
  refine ⟨w', hrun, ⟨_, hown, hm.put _ _, fun k l hk => ?_⟩, hg⟩
  by_cases e : k = key
  · subst e
    have : l = kl := by rw [hk] at hkey; injection hkey
    subst this
    rw [atKey_put_same hm (K.key hk), h1]
  · have hl : l ≠ kl := by
      intro el
      rw [el] at hk
      exact e (K.inj hk hkey)
    rw [atKey_put_other hl, h3 k l hk, h2 k e]
theorem lawS : Keyed Try.prog 9 := string_keyed Try.underlying9
theorem keyS {s : ByteArray} (h : s.size ≤ maxLen) : keyOf Try.prog 9 (.string s) = some (.string s.data.toList) := Go.WideMaps.keyOf_string_mk Try.underlying9 h
def cntS (l : List ByteArray) (s : ByteArray) : Nat := l.countP fun t => decide (t = s)
def fS (l : List ByteArray) : Value → Int
  | .string s => cntS l s
  | _ => 0
theorem fS_nil : fS [] = fun _ => 0 := by
  funext v
  cases v <;> rfl
theorem fS_same (l : List ByteArray) (s : ByteArray) : fS (l ++ [s]) (.string s) = cntS l s + 1 := by
  show ((cntS (l ++ [s]) s : Nat) : Int) = _
  unfold cntS
  rw [List.countP_append]
  simp
theorem fS_other (l : List ByteArray) (s : ByteArray) : ∀ k, k ≠ .string s → fS (l ++ [s]) k = fS l k := by
  intro k hk
  cases k <;> try rfl
  rename_i t
  have hne : ¬ s = t := fun e => hk (by rw [e])
  show ((cntS (l ++ [s]) t : Nat) : Int) = ((cntS l t : Nat) : Int)
  unfold cntS
  rw [List.countP_append]
  simp [hne]
theorem cntS_le (l : List ByteArray) (s : ByteArray) : cntS l s ≤ l.length := List.countP_le_length
theorem cntS_zero (l : List ByteArray) (s : ByteArray) : cntS l s = 0 ↔ aheadB l s = false := by
  unfold cntS aheadB
  rw [List.countP_eq_zero, List.any_eq_false]
theorem wf64 {v : Int} (h0 : 0 ≤ v) (h1 : v ≤ 1000000000) : (Lit.int .i64 v).wf = true := WalkArith.wf_i64 (by omega)
end Go.Proofs.Ytmkdgnmmebldgaa
