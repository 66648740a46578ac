import Derived.Test.YtmkdgnmmebldgabLT3
namespace Go.Proofs.Ytmkdgnmmebldgab
open Go.RowKit Go.Deep

def sliceA : Value → Option Addr
  | .slice a _ _ => a
  | _ => none
def sliceC : Value → Nat
  | .slice _ _ c => c
  | _ => 0
def nT (tt : List (List Int)) (p : Nat) : Nat := (tt[p]?.map List.length).getD 0
def adT (cells : List Value) (p : Nat) : Option Addr := sliceA (cells[p]?.getD (.bool false))
def cpT (cells : List Value) (p : Nat) : Nat := sliceC (cells[p]?.getD (.bool false))

theorem rows_at {w : World} {B : Nat} {cells : List Value} {tt : List (List Int)} (h : RowsOwn w B cells tt) {p : Nat} (hp : p < tt.length) :
    cells[p]? = some (.slice (adT cells p) (nT tt p) (cpT cells p)) ∧ w.ownsRow B 3 1 (.slice (adT cells p) (nT tt p) (cpT cells p)) (nT tt p) (flatN tt[p]) := by
  obtain ⟨v, h1, h2⟩ := h.2 p hp
  obtain ⟨x, y, rfl, _⟩ := owns_shape h2
  have e1 : adT cells p = x := by unfold adT; rw [h1]; rfl
  have e2 : cpT cells p = y := by unfold cpT; rw [h1]; rfl
  have e3 : nT tt p = tt[p].length := by unfold nT; rw [List.getElem?_eq_getElem hp]; rfl
  rw [e1, e2, e3]
  exact ⟨h1, h2⟩

theorem tst_of {w : World} {B B' : Nat} {x : Option Addr} {y : Nat} {cells : List Value} {tt : List (List Int)} (k : Int) (hne : tt.length ≠ 0) (ho : w.ownsRow B 24 1 (.slice x tt.length y) tt.length cells) (hr : RowsOwn w B' cells tt) (ha : RowsApart cells) :
    ∃ G, x = some ⟨G, 0, none⟩ ∧ TSt G tt.length (nT tt) (adT cells) (cpT cells) k w 0 ∧ ApartN G tt.length (nT tt) (adT cells) ∧ ∀ b, TabN tt.length (nT tt) (adT cells) b → B' ≤ b := by
  rcases ho.2 with ⟨_, h0⟩ | ⟨G, cap, cur, h1, _, h3, _⟩
  · exact absurd h0 hne
  · cases h1
    have blk : ∀ p b, p < tt.length → BlkOf (adT cells p) (nT tt p) b → (Value.slice (adT cells p) (nT tt p) (cpT cells p)).ownBlock = some b := by
      rintro p b _ ⟨_, _, _, h⟩
      rw [h]
      rfl
    refine ⟨G, rfl, ⟨fun p hp => ?_, fun p hp => own_of_owns (rows_at hr hp).2, fun p _ h => absurd h (Nat.not_lt_zero p)⟩, fun p hp b hb => ⟨?_, fun p' hp' hb' => ?_⟩, ?_⟩
    · have := ho.cells rfl p _ (rows_at hr hp).1
      rw [addr_at, Nat.zero_add] at this
      exact this
    · intro e
      subst e
      have hn := owns_ne (by decide) (rows_at hr hp).2 ho
      rw [blk p b hp hb] at hn
      rcases hn with hn | hn
      · cases hn
      · exact hn rfl
    · exact (ha p p' _ _ b (rows_at hr hp).1 (rows_at hr hp').1 (blk p b hp hb) (blk p' b hp' hb')).symm
    · rintro b ⟨p, hp, hb⟩
      exact ((rows_at hr hp).2.lt b (blk p b hp hb)).1

set_option maxRecDepth 8000 in
set_option maxHeartbeats 4000000 in
theorem lawTable_any (a : Option Addr) (cap : Nat) (rs : List MRoute) (w : World) (hr : Hid (RoutesAt w a rs)) (hwf : Hid (WfRs rs)) :
    Calls Try.prog 4 #[.slice a rs.length cap] w fun e w' => e = .returned (.bool true) ∧ Below w.heap.size w w' := by
  go_enter Try.func4, Try.ntmps4
  go_wp2_with fail
  refine (szRouteS_any _ _ rs _ _ hr (by omega) (by omega)).mono ?_
  rintro e w1 ⟨s, rfl, _, hs, hb1⟩
  have HS := hidP hs
  have H1 := hidP hb1
  clear hs hb1
  by_cases hs0 : s < 0
  · go_wp2_with fail
    go_ret
    exact ⟨rfl, H1.out⟩
  have HN : Hid (LensRs rs) := HS.out (by omega)
  have HSH : Hid (ShortRs rs) := HN.out.short
  have hnl := HN.out.1
  clear HS
  go_wp2_with fail
  refine (toRouteS_row _ _ rs _ (hr.out.below H1.out) HN).mono ?_
  rintro e w2 ⟨G2, gg2, f2, rfl, hr2, hR2, hb2, _⟩
  have H2 := hidP (H1.out.trans (hb2.mono H1.out.size))
  clear hb2
  go_wp2_with fail
  obtain ⟨tt, htt⟩ : ∃ tt, tableF rs = tt := ⟨_, rfl⟩
  have HTL := hidP (tableF_len rs)
  have HTT := hidP htt
  refine (specTable_any _ _ rs _ (routes_of_row hr2.out hR2.out HN.out) HSH).mono ?_
  rintro e w3 ⟨x0, y0, cells0, rfl, ho3, hR3, _, hb3⟩
  rw [htt] at ho3 hR3 HTL ⊢
  clear htt
  have HO3 := hidP ho3
  have HQ3 := hidP hR3
  have HK3 : Hid (∀ n y b, (Value.slice x0 n y).ownBlock = some b → b < w3.heap.size) := fun n y b h => (ho3.lt b (by cases x0 <;> exact h)).2
  have HL3 : Hid (∀ (i : Nat) (v : Value) (b : Nat), cells0[i]? = some v → v.ownBlock = some b → b < w3.heap.size) := fun i v b h h' => (hR3.blk i v b h h').2
  have H3 := hidP (H2.out.trans (hb3.mono H2.out.size))
  have htl := HTL.out.1
  have htm : tt.length ≤ maxLen := by unfold maxLen; omega
  have HTM : Hid (∀ i (h : i < tt.length), tt[i].length ≤ maxLen) := fun i h => by have := HTL.out.2 i h; unfold maxLen; omega
  clear ho3 hR3 hb3 hr2 hR2
  go_wp2_with fail
  refine (toRouteS_row _ _ rs _ (hr.out.below H3.out) HN).mono ?_
  rintro e w4 ⟨G4, gg4, f4, rfl, hr4, hR4, hb4, hG4⟩
  have H4 := hidP (H3.out.trans (hb4.mono H3.out.size))
  have HO4 := hidP (owns_below HO3.out hb4)
  have HQ4 := hidP (HQ3.out.below hb4)
  have HTS : Hid (∀ b, TabS G4 rs.length (tabOf gg4 rs) b → w3.heap.size ≤ b ∧ b < w4.heap.size) := fun b hb => ⟨by have := (tabS_in hr4.out hR4.out hb).1; omega, (tabS_in hr4.out hR4.out hb).2⟩
  have hz4 := hb4.size
  clear hb4 HO3 HQ3
  go_wp2_with fail
  refine (implTable_any _ _ rs _ (routes_of_row hr4.out hR4.out HN.out) HSH hwf).mono ?_
  rintro e w5 ⟨x1, y1, cells1, rfl, ho5, hR5, hA5, hb5⟩
  rw [HTT.out] at ho5 hR5 ⊢
  have H5 := hidP (H4.out.trans (hb5.mono H4.out.size))
  have HO5 := hidP (owns_below HO4.out hb5)
  have HQ5 := hidP (HQ4.out.below hb5)
  have HV5 := hidP ho5
  have HW5 := hidP hR5
  have HA5 := hidP hA5
  have HR5 : Hid (w5.rowIs G4 36 (rs.length * 8) f4) := hr4.out.of_block (hb5.block _ hr4.out.lt)
  have HRR5 := hidP (hR4.out.kept (w' := w5) (fun b _ h => hb5.block b h))
  have hz5 := hb5.size
  clear hb5 ho5 hR5 hA5 HO4 HQ4 hr4 hR4
  go_wp2_with fail
  refine (eqIntSS_walk _ _ _ _ _ _ (tab_of_owns HV5.out HW5.out htm HTM.out) (tab_of_owns HO5.out HQ5.out htm HTM.out)).mono ?_
  rintro e w6 ⟨rfl, hb6⟩
  have H6 := hidP (H5.out.trans (hb6.mono H5.out.size))
  have HO6 := hidP (owns_below HO5.out hb6)
  have HQ6 := hidP (HQ5.out.below hb6)
  have HV6 := hidP (owns_below HV5.out hb6)
  have HW6 := hidP (HW5.out.below hb6)
  have HR6 := hidP (HR5.out.of_block (hb6.block _ HR5.out.lt))
  have HRR6 := hidP (HRR5.out.kept (w' := w6) (fun b _ h => hb6.block b h))
  have hz6 := hb6.size
  clear hb6 HO5 HQ5 HV5 HW5 HR5 HRR5
  go_wp2_with fail
  refine (toRouteS_row _ _ rs _ (hr.out.below H6.out) HN).mono ?_
  rintro e w7 ⟨G7, gg7, f7, rfl, hr7, hR7, hb7, _⟩
  have H7 := hidP (H6.out.trans (hb7.mono H6.out.size))
  have HO7 := hidP (owns_below HO6.out hb7)
  have HQ7 := hidP (HQ6.out.below hb7)
  have HV7 := hidP (owns_below HV6.out hb7)
  have HW7 := hidP (HW6.out.below hb7)
  have HR7 := hidP (HR6.out.of_block (hb7.block _ HR6.out.lt))
  have HRR7 := hidP (HRR6.out.kept (w' := w7) (fun b _ h => hb7.block b h))
  have hz7 := hb7.size
  clear hb7 HO6 HQ6 HV6 HW6 HR6 HRR6
  go_wp2_with fail
  refine (eqRouteS_walk _ _ _ _ _ _ (routes_of_row HR7.out HRR7.out HN.out) (routes_of_row hr7.out hR7.out HN.out)).mono ?_
  rintro e w8 ⟨rfl, hb8⟩
  have H8 := hidP (H7.out.trans (hb8.mono H7.out.size))
  have HO8 := hidP (owns_below HO7.out hb8)
  have HQ8 := hidP (HQ7.out.below hb8)
  have HV8 := hidP (owns_below HV7.out hb8)
  have HW8 := hidP (HW7.out.below hb8)
  have HR8 := hidP (HR7.out.of_block (hb8.block _ HR7.out.lt))
  have HRR8 := hidP (HRR7.out.kept (w' := w8) (fun b _ h => hb8.block b h))
  have hz8 := hb8.size
  clear hb8 HO7 HQ7 HV7 HW7 HR7 HRR7 hr7 hR7
  go_wp2_with fail
  have HKB : Hid (kkF (tabOf gg4 rs) 1 rs.length ≤ 1152921504606846976) := by
    have := kkF_bound (tabOf gg4 rs) 1 rs.length (fun p j hp hj => by rw [tabOf_n hp]; exact lnR_le (HN.out.2 p hp) j hj) rs.length (Nat.le_refl _)
    unfold Hid
    omega
  have HK0 : Hid (0 ≤ kkF (tabOf gg4 rs) 1 rs.length) := by have := kkF_le (tabOf gg4 rs) 1 (Nat.zero_le rs.length); unfold Hid; simp only [kkF] at this; omega
  refine (markRouteS_walk G4 _ rs.length _ (tabOf gg4 rs) 1 w8 (apart_of_row HRR8.out) (mst_of_row 1 HR8.out HRR8.out) (Nat.le_refl _) (by omega) HKB hnl).mono ?_
  rintro e w9 ⟨rfl, _, hO9⟩
  obtain ⟨kx, hkx⟩ : ∃ kx, kkF (tabOf gg4 rs) 1 rs.length = kx := ⟨_, rfl⟩
  rw [hkx] at HK0 ⊢
  have hk0 := HK0.out
  clear hkx HKB
  have HO9 := hidP (owns_only HO8.out hO9 (fun b hb hS => by have h1 := HK3.out _ _ _ hb; have h2 := (HTS.out b hS).1; omega))
  have HQ9 := hidP (HQ8.out.only hO9 (fun i v b hv hb hS => by have h1 := HL3.out i v b hv hb; have h2 := (HTS.out b hS).1; omega))
  have HV9 := hidP (owns_only HV8.out hO9 (fun b hb hS => by have h1 := (HV8.out.lt b hb).1; have h2 := (HTS.out b hS).2; omega))
  have HW9 := hidP (HW8.out.only hO9 (fun i v b hv hb hS => by have h1 := (HW8.out.blk i v b hv hb).1; have h2 := (HTS.out b hS).2; omega))
  have H9 : Hid (Below w.heap.size w w9) := H8.out.trans (hO9.below H8.out.size (fun b hb hS => by have h1 := (HTS.out b hS).1; have h2 := H3.out.size; omega))
  have hz9 := hO9.size
  clear hO9 HO8 HQ8 HV8 HW8 HR8 HRR8
  go_wp2_with fail
  refine (eqIntSS_walk _ _ _ _ _ _ (tab_of_owns HV9.out HW9.out htm HTM.out) (tab_of_owns HO9.out HQ9.out htm HTM.out)).mono ?_
  rintro e w10 ⟨rfl, hb10⟩
  have H10 := hidP (H9.out.trans (hb10.mono H9.out.size))
  have HO10 := hidP (owns_below HO9.out hb10)
  have HQ10 := hidP (HQ9.out.below hb10)
  have HV10 := hidP (owns_below HV9.out hb10)
  have HW10 := hidP (HW9.out.below hb10)
  have hz10 := hb10.size
  clear hb10 HO9 HQ9 HV9 HW9
  go_wp2_with fail
  by_cases hne : tt.length = 0
  · have ht0 : tt = [] := List.eq_nil_of_length_eq_zero hne
    subst ht0
    refine (markIntSS_nil _ _ _ _).mono ?_
    rintro e w11 ⟨rfl, rfl⟩
    go_wp2_with fail
    refine (heldIntSS_nil _ _ _ _).mono ?_
    rintro e w12 ⟨rfl, rfl⟩
    go_wp2_with fail
    refine (toRouteS_row _ _ rs _ (hr.out.below H10.out) HN).mono ?_
    rintro e w13 ⟨G13, gg13, f13, rfl, hr13, hR13, hb13, _⟩
    have H13 := hidP (H10.out.trans (hb13.mono H10.out.size))
    have HO13 := hidP (owns_below HO10.out hb13)
    have HQ13 := hidP (HQ10.out.below hb13)
    clear hb13
    go_wp2_with fail
    refine (implTable_any _ _ rs _ (routes_of_row hr13.out hR13.out HN.out) HSH hwf).mono ?_
    rintro e w14 ⟨x2, y2, cells2, rfl, ho14, hR14, _, hb14⟩
    rw [HTT.out] at ho14 hR14 ⊢
    have H14 := hidP (H13.out.trans (hb14.mono H13.out.size))
    have HO14 := hidP (owns_below HO13.out hb14)
    have HQ14 := hidP (HQ13.out.below hb14)
    have HV14 := hidP ho14
    have HW14 := hidP hR14
    clear hb14 ho14 hR14 hr13 hR13 HO13 HQ13
    go_wp2_with fail
    refine (eqIntSS_walk _ _ _ _ ([] : List (List Int)) _ (tab_of_owns HV14.out HW14.out htm HTM.out) (tab_of_owns HO14.out HQ14.out htm HTM.out)).mono ?_
    rintro e w15 ⟨rfl, hb15⟩
    have H15 := hidP (H14.out.trans (hb15.mono H14.out.size))
    clear hb15 HV14 HW14 HO14 HQ14
    go_wp2_with fail
    refine (heldIntSS_nil _ _ _ _).mono ?_
    rintro e w16 ⟨rfl, rfl⟩
    go_wp2_with fail
    go_ret
    exact ⟨rfl, H15.out⟩
  obtain ⟨G, hGx, hT, hAp, hTN⟩ := tst_of 1 hne HV10.out HW10.out HA5.out
  have HT := hidP hT
  have HAp := hidP hAp
  have HTN := hidP hTN
  rw [hGx]
  clear hGx hT hAp hTN
  have HKT : Hid (ktF (nT tt) 1 tt.length ≤ 1152921504606846976) := by
    have := ktF_bound (nT tt) 1 tt.length (fun p hp => by have h := HTL.out.2 p hp; unfold nT; rw [List.getElem?_eq_getElem hp]; exact h) tt.length (Nat.le_refl _)
    unfold Hid
    omega
  have HKT0 : Hid (0 ≤ ktF (nT tt) 1 tt.length) := by have := ktF_le (nT tt) 1 (Nat.zero_le tt.length); unfold Hid; simp only [ktF] at this; omega
  refine (markIntSS_walk G tt.length _ (nT tt) (adT cells1) (cpT cells1) 1 w10 HAp HT (by omega) HKT (by omega)).mono ?_
  rintro e w11 ⟨rfl, hT11, hO11⟩
  have HT11 := hidP hT11
  have HO11 := hidP (owns_only HO10.out hO11 (fun b hb hS => by have h1 := HK3.out _ _ _ hb; have h2 := HTN.out b hS; omega))
  have HQ11 := hidP (HQ10.out.only hO11 (fun i v b hv hb hS => by have h1 := HL3.out i v b hv hb; have h2 := HTN.out b hS; omega))
  have H11 : Hid (Below w.heap.size w w11) := H10.out.trans (hO11.below H10.out.size (fun b hb hS => by have h1 := HTN.out b hS; have h2 := H4.out.size; omega))
  clear hT11 hO11 HO10 HQ10 HV10 HW10 HT
  obtain ⟨kt, hkt⟩ : ∃ kt, ktF (nT tt) 1 tt.length = kt := ⟨_, rfl⟩
  have HKE := hidP hkt
  rw [hkt] at HKT0 ⊢
  have hkt0 := HKT0.out
  clear hkt HKT0
  go_wp2_with fail
  refine (heldIntSS_walk G tt.length _ (nT tt) (adT cells1) (cpT cells1) 1 w11 HT11 (by omega) HKT (by omega)).mono ?_
  rintro e w12 ⟨rfl, hb12⟩
  rw [HKE.out]
  have H12 := hidP (H11.out.trans (hb12.mono H11.out.size))
  have HO12 := hidP (owns_below HO11.out hb12)
  have HQ12 := hidP (HQ11.out.below hb12)
  have HT12 := hidP (HT11.out.below hb12)
  clear hb12 HO11 HQ11 HT11
  go_wp2_with fail
  refine (toRouteS_row _ _ rs _ (hr.out.below H12.out) HN).mono ?_
  rintro e w13 ⟨G13, gg13, f13, rfl, hr13, hR13, hb13, _⟩
  have H13 := hidP (H12.out.trans (hb13.mono H12.out.size))
  have HO13 := hidP (owns_below HO12.out hb13)
  have HQ13 := hidP (HQ12.out.below hb13)
  have HT13 := hidP (HT12.out.below hb13)
  clear hb13 HO12 HQ12 HT12
  go_wp2_with fail
  refine (implTable_any _ _ rs _ (routes_of_row hr13.out hR13.out HN.out) HSH hwf).mono ?_
  rintro e w14 ⟨x2, y2, cells2, rfl, ho14, hR14, _, hb14⟩
  rw [HTT.out] at ho14 hR14 ⊢
  have H14 := hidP (H13.out.trans (hb14.mono H13.out.size))
  have HO14 := hidP (owns_below HO13.out hb14)
  have HQ14 := hidP (HQ13.out.below hb14)
  have HT14 := hidP (HT13.out.below hb14)
  have HV14 := hidP ho14
  have HW14 := hidP hR14
  clear hb14 ho14 hR14 hr13 hR13 HO13 HQ13 HT13
  go_wp2_with fail
  refine (eqIntSS_walk _ _ _ _ _ _ (tab_of_owns HV14.out HW14.out htm HTM.out) (tab_of_owns HO14.out HQ14.out htm HTM.out)).mono ?_
  rintro e w15 ⟨rfl, hb15⟩
  have H15 := hidP (H14.out.trans (hb15.mono H14.out.size))
  have HT15 := hidP (HT14.out.below hb15)
  clear hb15 HT14 HV14 HW14 HO14 HQ14
  go_wp2_with fail
  refine (heldIntSS_walk G tt.length _ (nT tt) (adT cells1) (cpT cells1) 1 w15 HT15 (by omega) HKT (by omega)).mono ?_
  rintro e w16 ⟨rfl, hb16⟩
  rw [HKE.out]
  have H16 := hidP (H15.out.trans (hb16.mono H15.out.size))
  clear hb16 HT15
  go_wp2_with fail
  go_ret
  exact ⟨rfl, H16.out⟩

end Go.Proofs.Ytmkdgnmmebldgab
