import Derived.Test.YtmkdgnmmebldgabSTab1
import Derived.Test.YtmkdgnmmebldgabSClaimOf
namespace Go.Proofs.Ytmkdgnmmebldgab
open Go.RowKit Go.Deep

theorem Try.infoClaim : (Try.prog.info? 75).map (fun i => (i.zero, i.size, i.bytes)) = some (some (.agg #[.slice none 0 0, .int .u64 0, .int .u64 0, .slice none 0 0, .int .u64 0, .int .u64 0, .slice none 0 0, .int .u64 0, .int .u64 0, .slice none 0 0, .int .u64 0, .int .u64 0]), 12, 160) := by kernel_rfl
def encC (p : CAddr × MClaim) : List Value :=
  [.slice p.1.pa p.2.parts.length p.1.pc, .int .u64 p.1.ps.a, .int .u64 p.1.ps.b, .slice p.1.oa p.2.over.length p.1.oc, .int .u64 p.1.os.a, .int .u64 p.1.os.b,
    .slice p.1.xa p.2.crosses.length p.1.xc, .int .u64 p.1.xs.a, .int .u64 p.1.xs.b, .slice p.1.na p.2.needs.length p.1.nc, .int .u64 p.1.ns.a, .int .u64 p.1.ns.b]
def flatC (ps : List (CAddr × MClaim)) : List Value := ps.flatMap encC
theorem flatC_snoc (ps : List (CAddr × MClaim)) (p : CAddr × MClaim) : flatC (ps ++ [p]) = flatC ps ++ encC p := by simp [flatC]
/-- The claims in a row of one's own. -/
theorem claimsAt_of {w : World} {B : Nat} {x : Option Addr} {y n : Nat} {ps : List (CAddr × MClaim)} {cs : List MClaim} (ho : w.ownsRow B 75 12 (.slice x n y) n (flatC ps)) (hn : ps.length = n) (hc : ps.map (·.2) = cs) (hm : n ≤ maxLen) (hp : ∀ p ∈ ps, ClaimAt w p.1 p.2) : ClaimsAt w x cs ∧ n ≤ y := by
  have hl : cs.length = n := by rw [← hc, List.length_map, hn]
  rcases ho.2 with ⟨h1, h2⟩ | ⟨g, cap, cur, h1, _, _, h4, _⟩
  · refine ⟨⟨by rw [hl]; exact hm, Or.inl (List.eq_nil_of_length_eq_zero (by omega))⟩, by omega⟩
  · cases h1
    refine ⟨⟨by rw [hl]; exact hm, Or.inr ⟨g, 0, rfl, fun i hi => ?_⟩⟩, h4⟩
    have hi2 : i < ps.length := by omega
    have hcs : cs[i] = ps[i].2 := by simp [← hc]
    refine ⟨ps[i].1, ?_, by rw [hcs]; exact hp _ (List.getElem_mem hi2)⟩
    rw [hcs]
    have key : ∀ j, j < 12 → w.cell? ⟨g, i * 12 + j, none⟩ = (encC ps[i])[j]? := by
      intro j hj
      rw [ho.cellAt (i * 12 + j) (by omega)]
      exact flat_get encC 12 (fun _ => rfl) ps i j hi2 hj
    simp only [Nat.zero_add]
    exact ⟨key 0 (by omega), key 1 (by omega), key 2 (by omega), key 3 (by omega), key 4 (by omega), key 5 (by omega), key 6 (by omega), key 7 (by omega), key 8 (by omega), key 9 (by omega), key 10 (by omega), key 11 (by omega)⟩

theorem RowsOwn.base {w : World} {B B' : Nat} {cells : List Value} {tt : List (List Int)} (h : RowsOwn w B cells tt) (hB : B' ≤ B) : RowsOwn w B' cells tt := by
  refine ⟨h.1, fun i hi => ?_⟩
  obtain ⟨v, h1, h2⟩ := h.2 i hi
  exact ⟨v, h1, owns_base h2 hB⟩

set_option maxRecDepth 8000 in
set_option maxHeartbeats 4000000 in
theorem implTable_any (a : Option Addr) (cap : Nat) (rs : List MRoute) (w : World) (hr : Hid (RoutesAt w a rs)) (hs : Hid (ShortRs rs)) (hwf : Hid (WfRs rs)) :
    Calls Try.prog 13 #[.slice a rs.length cap] w fun e w' => ∃ x y cells, e = .returned (.slice x (tableF rs).length y) ∧ w'.ownsRow w.heap.size 24 1 (.slice x (tableF rs).length y) (tableF rs).length cells ∧ RowsOwn w' w.heap.size cells (tableF rs) ∧ RowsApart cells ∧ Below w.heap.size w w' := by
  have hl := hr.out.1
  unfold maxLen at hl
  by_cases h3 : 300 < rs.length
  · have HE : Hid (tableF rs = []) := by unfold Hid tableF; rw [if_pos h3]
    rw [HE.out]
    go_enter Try.func13, Try.ntmps13
    go_wp2_with fail
    go_ret
    exact ⟨none, 0, [], rfl, World.ownsRow_nil _ _ _ _, ⟨rfl, fun i h => absurd h (by simp)⟩, rowsApart_nil, Below.refl _ _⟩
  have HE : Hid (tableF rs = rowsM rs.length (exM (rs.map claimF))) := by unfold Hid tableF; rw [if_neg h3, table_rowsM]
  rw [HE.out]
  have h3' : rs.length ≤ 300 := by omega
  have HLn : Hid ((rowsM rs.length (exM (rs.map claimF))).length = rs.length) := rowsM_len _ _
  rw [HLn.out]
  clear h3 HE HLn
  go_enter Try.func13, Try.ntmps13
  go_wp2_with fail
  go_loopw [3, 11] (fun v i wr => ∃ (k : Nat) (x : Option Addr) (y : Nat) (ps : List (CAddr × MClaim)), k ≤ rs.length ∧ i = .int .i64 k ∧ v = .slice x k y ∧ Hid (wr.ownsRow w.heap.size 75 12 (.slice x k y) k (flatC ps)) ∧ Hid (ps.length = k ∧ ps.map (·.2) = (rs.take k).map claimF ∧ ∀ p ∈ ps, ClaimOwn w wr p.1 p.2) ∧ Below w.heap.size w wr) (fun _ i _ => rs.length - (intOf i).toNat)
  case atStart => exact ⟨0, none, 0, [], Nat.zero_le _, rfl, rfl, World.ownsRow_nil _ _ _ _, ⟨rfl, rfl, fun p h => absurd h (by simp)⟩, Below.refl _ _⟩
  case round =>
    obtain ⟨k, x, y, ps, hk, rfl, rfl, ho, hP, hb⟩ := hrel
    have hbs := hb.size
    by_cases hk' : k < rs.length
    · obtain ⟨b1, off1, rfl, hpc⟩ := hr.out.2.resolve_left (fun h => by rw [h] at hk'; exact absurd hk' (Nat.not_lt_zero _))
      obtain ⟨d1, q1, l1⟩ := hpc k hk'
      obtain ⟨c0, c1, c2, c3, c4, c5, c6, c7⟩ := q1.below hb
      have L1 := hidP l1
      clear hpc l1 q1
      have HS1 := hidP (hs.out _ (List.getElem_mem hk'))
      have HW1 := hidP (hwf.out k hk')
      go_wp2_with fail
      generalize hW : wr.alloc _ = W
      have hbW : Below wr.heap.size wr W := by rw [← hW]; exact (by repeat (first | exact Below.refl _ _ | assumption | refine Below.drew ?_ | refine bdrewN ?_ _ | refine Below.setCell ?_ (by first | omega | (simp; done) | (simp; omega)) _ | refine Below.alloc ?_ (by first | omega | (simp; done) | (simp; omega)) _))
      clear hW c0 c1 c2 c3 c4 c5 c6 c7
      refine (claimOf_any d1 rs[k] W (L1.out.below (hb.trans (hbW.mono hb.size))) HS1 HW1).mono ?_
      rintro e w2 ⟨dc, rfl, hc2, hdc, hb2'⟩
      have hb2 := hbW.trans (hb2'.mono hbW.size)
      have HO2 := hidP (owns_below ho.out hb2)
      have hb3 := hb.trans (hb2.mono hb.size)
      have hbs3 := hb3.size
      have HP2 : Hid (∀ p ∈ ps ++ [(dc, claimF rs[k])], ClaimOwn w w2 p.1 p.2) := fun p hp => by
        rcases List.mem_append.1 hp with h | h
        · exact (hP.out.2.2 p h).below hb2
        · rw [List.mem_singleton.1 h]
          obtain ⟨e1, e2, e3⟩ := hdc.out
          exact hc2.out.base (by show PartsAt w dc.pa _; rw [e1]; exact L1.out.parts) (by show PartsAt w dc.oa _; rw [e2]; exact L1.out.over) (by show NumsAt w dc.xa _; rw [e3]; exact L1.out.crosses)
      have HPl := hidP hP.out.1
      have HPm := hidP hP.out.2.1
      have HFl : Hid (flatC ps ++ encC (dc, claimF rs[k]) = flatC (ps ++ [(dc, claimF rs[k])])) := (flatC_snoc _ _).symm
      clear ho hP hb hbs hb2 hb2' hbW
      unfold claimV
      go_wp2_with (at_builtin; refine wpList_push rfl (.tmp 15) (.tmp 18) 82 rfl w.heap.size 75 _ 12 160 Try.underlying82 Try.infoClaim rfl (by decide) (.slice x k y) k (flatC ps) rfl HO2.out w2.heap.size rfl (encC (dc, claimF rs[k])) rfl rfl (by simp [encC, Value.oneCell']) (by unfold maxLen; omega) (by omega) (by omega) ?_; intro x' y' w4 ho4 hg4; have hb6 := push_below hb3 HO2.out hg4 (by omega); have HP4 : Hid (∀ p ∈ ps ++ [(dc, claimF rs[k])], ClaimOwn w w4 p.1 p.2) := (fun p hp => (HP2.out p hp).grown HO2.out (by decide) hg4); rw [HFl.out] at ho4; have HO4 := hidP ho4; clear ho4 hg4)
      go_roundw
      case rel => exact ⟨k + 1, x', y', ps ++ [(dc, claimF rs[k])], by omega, by go_num, rfl, HO4, ⟨by rw [List.length_append, HPl.out]; rfl, by rw [List.map_append, HPm.out, List.take_succ_eq_append_getElem hk', List.map_append]; rfl, HP4.out⟩, hb6⟩
      case measure => simp [intOf]; omega
    · have hkk : k = rs.length := by omega
      have HT : Hid (rs.take k = rs) := List.take_of_length_le (by omega)
      obtain ⟨hC, hy⟩ := claimsAt_of ho.out hP.out.1 (hP.out.2.1.trans (by rw [HT.out])) (by unfold maxLen; omega) (fun p hp => (hP.out.2.2 p hp).at hb)
      have HC := hidP hC
      clear ho hP hC HT
      subst hkk
      go_wp2_with fail
      have T := tableOf_any x y (rs.map claimF) wr HC (by rw [List.length_map]; exact hy) (by rw [List.length_map]; exact h3')
      simp only [List.length_map] at T
      refine T.mono ?_
      rintro e w5 ⟨x5, y5, cells, rfl, HO5, HR5, HA5, hb5⟩
      clear T
      go_wp2_with fail
      go_ret
      exact ⟨x5, y5, cells, rfl, owns_base HO5.out hbs, HR5.out.base hbs, HA5.out, hb.trans (hb5.mono hbs)⟩

end Go.Proofs.Ytmkdgnmmebldgab
