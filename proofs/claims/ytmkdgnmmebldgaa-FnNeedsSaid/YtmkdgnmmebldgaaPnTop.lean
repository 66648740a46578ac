import Derived.Test.YtmkdgnmmebldgaaPn52
import Derived.Test.YtmkdgnmmebldgaaPn53
import Derived.Test.YtmkdgnmmebldgaaPn47
import Derived.Deep.DeepCutAuto
import Derived.BigQuiet
import Derived.Test.YtmkdgnmmebldgaaRows
import Derived.Test.YtmkdgnmmebldgaaPn27
import Derived.WalkKit
import Derived.ProofKit
import Derived.OpenShut
import Derived.ShutString
import Derived.ChangeOld
import Derived.Below
namespace Go.Proofs.Ytmkdgnmmebldgaa
open Go.RowKit Go.Deep
theorem needs_front : ∀ (fs : List MFlank) (out : List MEnd), ∃ t, fs.foldl needStep out = out ++ t
  | [], out => ⟨[], by simp⟩
  | f :: r, out => by
    obtain ⟨t, ht⟩ := needs_front r (needStep out f)
    simp only [List.foldl_cons]
    rw [ht]
    unfold needStep
    split
    · exact ⟨[⟨f.of, f.lie⟩] ++ t, by rw [List.append_assoc]⟩
    · exact ⟨t, rfl⟩
theorem needs_apart (n : Nat) : ∀ (fs : List MFlank) (out : List MEnd), (∀ i k (hi : i < out.length) (_ : n ≤ k) (hk : k < i), out[k]'(by omega) ≠ out[i]) → ∀ i k (hi : i < (fs.foldl needStep out).length) (_ : n ≤ k) (hk : k < i), (fs.foldl needStep out)[k]'(by omega) ≠ (fs.foldl needStep out)[i]
  | [], out, h => h
  | f :: r, out, h => by
    refine needs_apart n r (needStep out f) ?_
    unfold needStep
    split
    · rename_i hm
      intro i k hi hn hk
      rw [List.length_append] at hi
      simp only [List.length_singleton] at hi
      rw [List.getElem_append_left (by omega)]
      by_cases h1 : i < out.length
      · rw [List.getElem_append_left h1]
        exact h i k h1 hn hk
      · have e : i = out.length := by omega
        subst e
        rw [List.getElem_append_right (Nat.le_refl _)]
        simp only [Nat.sub_self, List.getElem_cons_zero]
        intro e
        have h2 := (List.any_eq_false.1 hm.2) _ (List.getElem_mem (show k < out.length by omega))
        rw [e] at h2
        simp at h2
    · exact h
theorem needs_lie {lies : List MEnd} {flanks : List MFlank} {i : Nat} {x : MEnd} (h : lies[i]? = some x) : (needsF lies flanks)[i]? = some x := by
  obtain ⟨t, ht⟩ := needs_front flanks lies
  unfold needsF
  rw [ht, List.getElem?_append_left (List.getElem?_eq_some_iff.1 h).1]
  exact h
theorem needs_two {lies : List MEnd} {flanks : List MFlank} {i k : Nat} {x y : MEnd} (hn : lies.length ≤ k) (hk : k < i) (hx : (needsF lies flanks)[k]? = some x) (hy : (needsF lies flanks)[i]? = some y) : x ≠ y := by
  obtain ⟨hi, rfl⟩ := List.getElem?_eq_some_iff.1 hy
  obtain ⟨_, rfl⟩ := List.getElem?_eq_some_iff.1 hx
  exact needs_apart lies.length flanks lies (fun i k hi hn hk => by omega) i k hi hn hk
set_option maxRecDepth 20000 in
set_option maxHeartbeats 8000000 in
theorem lawNeeds2_any (ca : Option Addr) (cc : Nat) (bs : List Int) (w : World) (hb : Hid (BytesAt w ca bs)) :
    Calls Try.prog 5 #[.slice ca bs.length cc] w fun e w' => e = .returned (.bool true) ∧ Below w.heap.size w w' := by
  have hl1 := hb.out.len
  unfold maxLen at hl1
  go_enter Try.func5, Try.ntmps5
  by_cases h1 : (1048576 : Int) < bs.length
  · go_wp2_with fail
    go_ret
    exact ⟨rfl, Below.refl _ _⟩
  go_wp2_with fail
  refine (DrawNeeds_any ca cc bs w hb.out.lie hb.out.small (by omega)).mono ?_
  rintro e w1 ⟨d, r, rfl, hE, hF, hl1', hl5, hwf, hnil, hb1⟩
  have HE := hidP hE
  have HF := hidP hF
  have HB1 := hidP hb1
  have HWF := hidP hwf
  have HNIL := hidP hnil
  unfold routeV
  clear hE hF hb1 hwf hnil
  go_wp2_with fail
  generalize hW : World.alloc w1 _ = W
  have hbW : Below w1.heap.size w1 W := by rw [← hW]; exact blo
  have HT0 : Hid (RouteCell W w1.heap.size 0 d r) := by rw [← hW]; exact ⟨by simp [go_sem], by simp [go_sem], by simp [go_sem], by simp [go_sem], by simp [go_sem], by simp [go_sem], by simp [go_sem], by simp [go_sem]⟩
  have HBW := hidP hbW
  have hz1 := HB1.out.size
  obtain ⟨T, hT⟩ : ∃ T, w1.heap.size = T := ⟨_, rfl⟩
  rw [hT] at HT0 ⊢
  clear hW hbW hT
  refine (implNeeds_any d r W (HE.out.below HBW.out) (HF.out.below HBW.out) (by omega) (by omega) HWF HNIL).mono ?_
  rintro e w2 ⟨x, y, rfl, ho2, hb2⟩
  have HT2 := hidP (HT0.out.below hb2)
  have HO2 := hidP ho2
  have HE2 := hidP ((HE.out.below HBW.out).below hb2)
  have HF2 := hidP ((HF.out.below HBW.out).below hb2)
  have HB2 : Hid (Below w.heap.size w w2) := (HB1.out.trans (HBW.out.mono hz1)).trans (hb2.mono (Nat.le_trans hz1 HBW.out.size))
  have k0 := HT2.out.k0
  have k1 := HT2.out.k1
  have k2 := HT2.out.k2
  have k3 := HT2.out.k3
  have k4 := HT2.out.k4
  have k5 := HT2.out.k5
  have k6 := HT2.out.k6
  have k7 := HT2.out.k7
  simp only [Nat.zero_add] at k0 k1 k2 k3 k4 k5 k6 k7
  have hzT := cellLt k0
  dsimp only at hzT
  clear ho2 hb2 HE HF HBW HT0 HB1
  go_wp2_with fail
  refine (specNeeds_any d r w2 HE2 HF2 (by omega) (by omega)).mono ?_
  rintro e w3 ⟨x', y', rfl, ho3, hb3⟩
  have hlen := needs_len r.flanks r.lies
  have HAP : Hid (∀ (i k : Nat) (x y : MEnd), r.lies.length ≤ k → k < i → (needsF r.lies r.flanks)[k]? = some x → (needsF r.lies r.flanks)[i]? = some y → x ≠ y) := fun i k x y => needs_two
  have HLI : Hid (∀ (i : Nat) (x : MEnd), r.lies[i]? = some x → (needsF r.lies r.flanks)[i]? = some x) := fun i x => needs_lie
  have HFR : Hid (r.lies.length ≤ (needsF r.lies r.flanks).length) := by
    obtain ⟨t, ht⟩ := needs_front r.flanks r.lies
    unfold Hid needsF
    rw [ht, List.length_append]; omega
  obtain ⟨L, hL⟩ : ∃ L, needsF r.lies r.flanks = L := ⟨_, rfl⟩
  have hlen' : L.length ≤ 200000 := by rw [← hL]; unfold needsF; omega
  rw [hL] at HAP HLI HFR HO2 ho3 ⊢
  have HO3 := hidP ho3
  have HO2' := hidP (owns_below HO2.out hb3)
  have HB3 : Hid (Below w.heap.size w w3) := HB2.out.trans (hb3.mono HB2.out.size)
  have HK3 := hidP (cell_later hb3 k3)
  have HE3 := hidP (HE2.out.below hb3)
  obtain ⟨n, hn⟩ : ∃ n, L.length = n := ⟨_, rfl⟩
  obtain ⟨m, hm⟩ : ∃ m, r.lies.length = m := ⟨_, rfl⟩
  rw [hn] at HFR HO2' HO3 hlen' ⊢
  rw [hm] at HFR HK3 HAP ⊢
  obtain ⟨A1, hA1⟩ : ∃ A1, d.a1 = A1 := ⟨_, rfl⟩
  obtain ⟨c1, hc1⟩ : ∃ c1, d.c1 = c1 := ⟨_, rfl⟩
  rw [hA1, hc1] at HK3
  rw [hA1] at HE3
  have HN := hidP hn
  have HM := hidP hm
  have hmn := HFR.out
  have k3' := HK3.out
  have hzT3 := cellLt k3'
  dsimp only at hzT3
  have hnm : ¬ n < m := by omega
  have hnm' : ¬ (n : Int) < m := by omega
  clear k0 k1 k2 k3 k4 k5 k6 k7 hzT ho3 hb3 hL hn hm hlen HO2 HE2 HF2 HB2 HT2 HFR
  go_wp2_with fail
  go_loopw [33] (fun c wr => ∃ i : Nat, i ≤ n ∧ c = .int .i64 i ∧ Below w3.heap.size w3 wr) (fun c _ => n - (intOf c).toNat)
  case atStart => exact ⟨0, Nat.zero_le _, rfl, Below.refl _ _⟩
  case round =>
    obtain ⟨i, hi, rfl, hbr⟩ := hrel
    by_cases hi' : i < n
    · have hii : (i : Int) < n := by omega
      have hiL : i < L.length := by rw [HN.out]; exact hi'
      obtain ⟨g, hg⟩ := owns_addrB HO2'.out (by omega)
      obtain ⟨g', hg'⟩ := owns_addrB HO3.out (by omega)
      subst hg hg'
      have hLi : L[i]? = some L[i] := List.getElem?_eq_getElem hiL
      have p0 := cell_later hbr ((HO2'.out.cellAt (i * 2) (by omega)).trans ((flat_get encE 2 (fun _ => rfl) L i 0 hiL (by omega)).trans rfl))
      have p1 := cell_later hbr ((HO2'.out.cellAt (i * 2 + 1) (by omega)).trans ((flat_get encE 2 (fun _ => rfl) L i 1 hiL (by omega)).trans rfl))
      have s0 := cell_later hbr ((HO3.out.cellAt (i * 2) (by omega)).trans ((flat_get encE 2 (fun _ => rfl) L i 0 hiL (by omega)).trans rfl))
      have s1 := cell_later hbr ((HO3.out.cellAt (i * 2 + 1) (by omega)).trans ((flat_get encE 2 (fun _ => rfl) L i 1 hiL (by omega)).trans rfl))
      have HLi := hidP hLi
      generalize L[i] = xi at p0 p1 s0 s1 HLi
      have t3 := cell_later hbr HK3.out
      have HBr := hidP hbr
      have hz1 := cellLt p0
      have hz2 := cellLt s0
      have hz3 := cellLt t3
      dsimp only at hz1 hz2 hz3
      clear hLi hbr hiL
      go_upto_region 11 with fail
      generalize hW5 : World.alloc wr _ = W5
      have hb5 : Below wr.heap.size wr W5 := by rw [← hW5]; exact blo
      have x0 : W5.cell? ⟨wr.heap.size, 0, none⟩ = some (.int .i64 xi.piece) := by rw [← hW5]; simp [go_sem]
      have x1 : W5.cell? ⟨wr.heap.size, 1, none⟩ = some (.int .i64 xi.side) := by rw [← hW5]; simp [go_sem]
      replace p0 := cell_later hb5 p0
      replace p1 := cell_later hb5 p1
      replace s0 := cell_later hb5 s0
      replace s1 := cell_later hb5 s1
      replace t3 := cell_later hb5 t3
      have HB5 : Hid (Below w3.heap.size w3 W5) := HBr.out.trans (hb5.mono HBr.out.size)
      obtain ⟨X, hX⟩ : ∃ X, wr.heap.size = X := ⟨_, rfl⟩
      rw [hX] at x0 x1 ⊢
      have HX0 := hidP x0
      have HX1 := hidP x1
      have HT5 := hidP t3
      obtain ⟨xa, xb⟩ := xi
      dsimp only at p0 p1 s0 s1 x0 x1 HX0 HX1 ⊢
      have va : (xa != xa) = false := by simp
      have vb : (xb != xb) = false := by simp
      clear hW5 hb5 hX hz1 hz2 hz3
      go_cut [59] (fun v wx => v = .bool false ∧ Below w3.heap.size w3 wx ∧ ∃ q, wx = W5.drewN q)
      case first =>
        by_cases him : i < m
        · have himi : (i : Int) < m := by omega
          have hil : i < r.lies.length := by rw [HM.out]; exact him
          obtain ⟨bl, ol, ha, hlc⟩ := HE3.out.2.resolve_left (fun h => by rw [h] at hil; simp at hil)
          have hle : r.lies[i] = ⟨xa, xb⟩ := by
            have h := HLI.out i r.lies[i] (List.getElem?_eq_getElem hil)
            rw [HLi.out] at h
            exact (Option.some.inj h).symm
          obtain ⟨l0, l1⟩ := hlc i hil
          rw [hle] at l0 l1
          replace l0 := cell_later HB5.out l0
          replace l1 := cell_later HB5.out l1
          dsimp only at l0 l1
          subst ha
          clear hlc hle hil
          go_big_quiet (fail)
          go_wp2_with fail
          go_meet
          exact ⟨rfl, bdrewN HB5.out _, _, rfl⟩
        · have him' : ¬ i < m := him
          go_big_quiet (fail)
          go_wp2_with fail
          go_meet
          exact ⟨rfl, bdrewN HB5.out _, _, rfl⟩
      case rest =>
        obtain ⟨rfl, hbx, q, hwc⟩ := hcut
        subst hwc
        have HBX := hidP hbx
        clear p0 p1 s0 s1 x0 x1 va vb hbx
        go_wp2_with fail
        go_loopw [8] (fun c wx => ∃ k : Nat, m ≤ k ∧ (k ≤ i ∨ k = m) ∧ c = .int .i64 k ∧ Below W5.heap.size W5 wx) (fun c _ => i - (intOf c).toNat)
        case atStart => exact ⟨m, Nat.le_refl _, Or.inr rfl, rfl, bdrewN (Below.refl _ _) _⟩
        case round =>
          obtain ⟨k, hmk, hki, rfl, hbk⟩ := hrel
          by_cases hk' : k < i
          · have hkii : (k : Int) < i := by omega
            have hkn : (k : Int) < n := by omega
            have hkn' : k < n := by omega
            have hkL : k < L.length := by rw [HN.out]; omega
            have hb35 := HB5.out.trans (hbk.mono HB5.out.size)
            have p0 := cell_later hb35 ((HO2'.out.cellAt (k * 2) (by omega)).trans ((flat_get encE 2 (fun _ => rfl) L k 0 hkL (by omega)).trans rfl))
            have p1 := cell_later hb35 ((HO2'.out.cellAt (k * 2 + 1) (by omega)).trans ((flat_get encE 2 (fun _ => rfl) L k 1 hkL (by omega)).trans rfl))
            have hne := HAP.out i k L[k] ⟨xa, xb⟩ hmk hk' (List.getElem?_eq_getElem hkL) HLi.out
            generalize L[k] = xk at p0 p1 hne
            obtain ⟨ka, kb⟩ := xk
            dsimp only at p0 p1
            have x0 := cell_later hbk HX0.out
            have x1 := cell_later hbk HX1.out
            have HBK := hidP hbk
            have hz1 := cellLt p0
            have hz2 := cellLt x0
            dsimp only at hz1 hz2
            have hcs : (ka == xa) = false ∨ (ka = xa ∧ (kb == xb) = false) := by
              by_cases h1 : ka = xa
              · by_cases h2 : kb = xb
                · exact absurd (by rw [h1, h2]) hne
                · exact Or.inr ⟨h1, by simpa using h2⟩
              · exact Or.inl (by simpa using h1)
            clear hb35 hbk hne hkL
            rcases hcs with h1 | ⟨h1, h2⟩
            · go_upto_region 16 with fail
              go_quiet (fail)
              go_wp2_with fail
              go_roundw
              case rel => exact ⟨k + 1, by omega, Or.inl (by omega), by go_num, bdrewN HBK.out _⟩
              case measure => simp [intOf]; omega
            · subst h1
              go_upto_region 16 with fail
              go_quiet (fail)
              go_wp2_with fail
              go_roundw
              case rel => exact ⟨k + 1, by omega, Or.inl (by omega), by go_num, bdrewN HBK.out _⟩
              case measure => simp [intOf]; omega
          · have hkii : ¬ (k : Int) < i := by omega
            go_wp2_with fail
            go_roundw
            case rel => exact ⟨i + 1, by omega, by go_num, HB5.out.trans (hbk.mono HB5.out.size)⟩
            case measure => simp [intOf]; omega
    · have hii : ¬ (i : Int) < n := by omega
      go_wp2_with fail
      go_ret
      exact ⟨rfl, HB3.out.trans (hbr.mono HB3.out.size)⟩
end Go.Proofs.Ytmkdgnmmebldgaa

namespace Go.Proofs.Ytmkdgnmmebldgaa
open Go.ChangeShapes Go.WideShapes Go.ChangeAt Go.RowKit Go.Deep
set_option maxRecDepth 100000 in
theorem needs2_lifted (os : Os) (started : os.Started) (H : Type) (enc : TypeId × Value → H) :
    ReturnsInHanded {} Try.checked os 5 .any (Rows.fnNeedsSpec.pre6 enc Try.prog Try.f5 Rows.fnNeedsRow.domain false) (Rows.fnNeedsSpec.post enc Try.prog Try.f5 false true false false) := by
  refine returnsInHanded_of_change (C := Try.checked) ownDraws started (by kernel_rfl) Try.func5
    (ChangeSpec.witness6 (enc := enc) (C := Try.checked) false ⟨#[], #[.slice none 0 0], []⟩ 8 (by kernel_rfl) (by kernel_rfl) (by kernel_rfl) (by kernel_rfl)) ?_
  intro W base args ds gs before hval0 hW hcnd _
  have hval : ∀ (j : Nat) t v, Try.f5.params[j]? = some t → args[j]? = some v → Value.okWide Try.prog W .any base t v := hval0
  have hW' := hW
  obtain ⟨p, q, hA0, hV, rfl, hfz, hnd⟩ := hW
  have hA : DataW.TrodAll enc Try.prog W 0 (fun _ => true) true Try.f5.params.toList args.toList ds p := hA0
  rw [Try.params5] at hA hval
  obtain ⟨v0, vs0, d0, ds0, p0, q0, hargs, rfl, rfl, h0, r0⟩ := trodAll_cons hA
  obtain ⟨rfl, rfl, rfl⟩ := trodAll_nil r0
  obtain rfl : args = #[v0] := by cases args; simp_all
  obtain ⟨rfl, rfl⟩ := trodVars_none hV
  have k0 := h0
  have lt0 : ∀ x ∈ p0, x.block < W.heap.size := by obtain ⟨m, hm⟩ := k0; exact DataW.trod_lt m _ _ _ hm
  obtain ⟨ca, cc, bs, hv0, hb0⟩ := openBytesV (hval 0 22 v0 rfl rfl) h0
  subst hv0
  clear hA0 hval0
  refine (lawNeeds2_any ca cc bs W hb0).mono fun e W' ⟨he, bel⟩ => ?_
  subst he
  exact ⟨_, rfl, _, _, _, [], _, [], hW', trodAll_mk1 (shut_bool Try.underlying4 _), (trodAll_cons_mk (Below.trod Try.laidOutD (by kernel_rfl) (of_decide_eq_true (by kernel_rfl)) k0 bel lt0) trodAll_mk0), rfl, bel.frame _, fun h => by cases h⟩
theorem needs2_holds : Rows.FnNeedsSaid :=
  OpenClaim.holds_of_wide 5 Try.f5 rfl rfl rfl rfl rfl rfl rfl ⟨rfl, rfl, rfl, rfl, rfl⟩ rfl rfl rfl rfl rfl (by kernel_rfl) Try.func5 (by kernel_rfl)
    (of_decide_eq_true (by kernel_rfl)) (by unfold Func.isWrapper; first | (rw [if_pos (by decide +kernel)]; kernel_rfl) | (rw [if_neg (by decide +kernel)]; exact ⟨rfl, rfl⟩))
    (fun os started H enc _ => needs2_lifted os started H enc)
#print axioms needs2_holds
end Go.Proofs.Ytmkdgnmmebldgaa
