import Derived.Test.YtmkdgnmmebldgaaPq6
import Derived.Test.YtmkdgnmmebldgaaPq9
namespace Go.Proofs.Ytmkdgnmmebldgaa
open Go.RowKit Go.Deep
theorem behindF_0 {ps : List MPiece} {js : List MJoint} {n : Nat} {s : MStep} {pos left : Int} (h : left ≤ 0) : behindF ps js n s pos left = [] := by
  cases n with
  | zero => rfl
  | succ n => simp only [behindF, if_pos h]
theorem part_eq {ps : List MPiece} {p : Nat} {way pos left : Int} (hp : p < ps.length) (hw : way = 1 ∨ way = -1) (h0 : 0 ≤ pos) (h1 : pos ≤ ps[p].len) (hl : 0 ≤ left) :
    specPart ps p way (farI ps p pos way) (min (farI ps p pos way + left) ps[p].len) = partI p pos (pos + min left ((endAt ps (aheadE ⟨p, way⟩) - pos) * way) * way) ∧
    min (farI ps p pos way + left) ps[p].len - farI ps p pos way = min left ((endAt ps (aheadE ⟨p, way⟩) - pos) * way) := by
  have hL := lenI_at hp
  rcases hw with rfl | rfl
  · simp only [specPart, farI, partI, endAt, aheadE, if_true, hL, Int.mul_one]
    have e : ¬ ((1 : Int) = -1) := by omega
    have e2 : ¬ ((1 : Int) = 0) := by omega
    rw [if_neg e, if_neg e2]
    refine ⟨?_, by omega⟩
    congr 1 <;> omega
  · have e : ¬ ((-1 : Int) = 1) := by omega
    simp only [specPart, farI, partI, endAt, aheadE, if_true, if_neg e, hL]
    refine ⟨?_, by omega⟩
    congr 1 <;> omega
structure FNet (w : World) (F : Nat) (pa ja sa : Option Addr) (pc jc sc : Nat) (ps : List MPiece) (js : List MJoint) (ss : List MPiece) (over : Int) : Prop where
  c0 : w.cell? ⟨F, 0, none⟩ = some (.slice pa ps.length pc)
  c1 : w.cell? ⟨F, 1, none⟩ = some (.slice ja js.length jc)
  c2 : w.cell? ⟨F, 2, none⟩ = some (.slice sa ss.length sc)
  c3 : w.cell? ⟨F, 3, none⟩ = some (.int .i64 over)
  P : PiecesAt w pa ps
  J : JointsAt w ja js
  S : PiecesAt w sa ss
theorem FNet.below {w w' : World} {F : Nat} {pa ja sa : Option Addr} {pc jc sc : Nat} {ps : List MPiece} {js : List MJoint} {ss : List MPiece} {over : Int} (h : FNet w F pa ja sa pc jc sc ps js ss over) (hb : Below w.heap.size w w') : FNet w' F pa ja sa pc jc sc ps js ss over :=
  ⟨cell_later hb h.c0, cell_later hb h.c1, cell_later hb h.c2, cell_later hb h.c3, h.P.below hb, h.J.below hb, h.S.below hb⟩
theorem flatP_push (ps : List MPart) (p : MPart) : flatP ps ++ [.int .i64 p.piece, .int .i64 p.lo, .int .i64 p.hi] = flatP (ps ++ [p]) := by
  rw [flatP_snoc]
  rfl
set_option maxRecDepth 20000 in
set_option maxHeartbeats 1600000 in
theorem beyond_any (F : Nat) (pa ja sa : Option Addr) (pc jc sc : Nat) (ps : List MPiece) (js : List MJoint) (ss : List MPiece) (over : Int) (R : Hid (Right ps js ss)) (p0 : Nat) (way0 pos0 : Int) (w : World) (hF : Hid (FNet w F pa ja sa pc jc sc ps js ss over))
    (hp0 : p0 < ps.length) (hw0 : way0 = 1 ∨ way0 = -1) (hs0 : 0 < pos0) (hs1 : pos0 < ps[p0].len) (ho0 : 0 ≤ over) (ho1 : over ≤ 100000) :
    Calls Try.prog 103 #[.pointer (some ⟨F, 0, none⟩), .int .i64 p0, .int .i64 way0, .int .i64 (farI ps p0 pos0 way0)] w fun e w' => ∃ x y, e = .returned (.slice x (behindF ps js (over.toNat + 1) ⟨p0, way0⟩ pos0 over).length y) ∧ w'.ownsRow w.heap.size 44 3 (.slice x (behindF ps js (over.toNat + 1) ⟨p0, way0⟩ pos0 over).length y) (behindF ps js (over.toNat + 1) ⟨p0, way0⟩ pos0 over).length (flatP (behindF ps js (over.toNat + 1) ⟨p0, way0⟩ pos0 over)) ∧ Below w.heap.size w w' := by
  have hpl := hF.out.P.1
  have hjl := hF.out.J.1
  have hFz := cellLt hF.out.c3
  have hc3 := hF.out.c3
  unfold maxLen at hpl hjl
  have HFAR0 : Hid (farI ps p0 pos0 way0 < ps[p0].len ∧ 0 ≤ farI ps p0 pos0 way0) := by
    unfold Hid farI
    rw [lenI_at hp0]
    split <;> omega
  obtain ⟨tot, htot⟩ : ∃ tot, behindF ps js (over.toNat + 1) ⟨p0, way0⟩ pos0 over = tot := ⟨_, rfl⟩
  rw [htot]
  have HTOT := hidP htot
  have HW0 := hidP hw0
  clear htot hw0
  go_enter Try.func103, Try.ntmps103
  go_wp2_with fail
  clear hc3
  go_loopw [1, 2, 3, 9, 10] (fun a1 a2 a3 v l wr => ∃ (p : Nat) (hp : p < ps.length) (way pos lf : Int) (n : Nat) (acc : List MPart) (x : Option Addr) (y : Nat), a1 = .int .i64 p ∧ a2 = .int .i64 way ∧ a3 = .int .i64 (farI ps p pos way) ∧ l = .int .i64 lf ∧ v = .slice x acc.length y ∧ Hid (way = 1 ∨ way = -1) ∧ Hid (0 ≤ pos ∧ pos ≤ ps[p].len ∧ farI ps p pos way < ps[p].len ∧ 0 ≤ farI ps p pos way) ∧ 0 ≤ lf ∧ (acc.length : Int) + lf ≤ 100000 ∧ lf.toNat < n ∧
    Hid (wr.ownsRow w.heap.size 44 3 (.slice x acc.length y) acc.length (flatP acc)) ∧ Hid (tot = acc ++ behindF ps js n ⟨p, way⟩ pos lf) ∧ Below w.heap.size w wr) (fun _ _ _ _ l _ => (intOf l).toNat)
  case atStart => exact ⟨p0, hp0, way0, pos0, over, over.toNat + 1, [], none, 0, rfl, rfl, rfl, rfl, rfl, HW0, ⟨by omega, by omega, HFAR0.out.1, HFAR0.out.2⟩, ho0, by simpa using ho1, by omega, World.ownsRow_nil _ _ _ _, HTOT.out.symm, Below.refl _ _⟩
  case round =>
    obtain ⟨p, hp, way, pos, lf, n, acc, x, y, rfl, rfl, rfl, rfl, rfl, HW, HPOS, hlf0, hlf1, hn, HO, HT, hb⟩ := hrel
    have hbs := hb.size
    by_cases hl : 0 < lf
    · have HF2 := hidP (hF.out.below hb)
      have hFz' := Nat.lt_of_lt_of_le hFz hb.size
      obtain ⟨hL1, hL2⟩ := R.out.plen p hp
      have HPE := hidP (part_eq (ps := ps) (left := lf) hp HW.out HPOS.out.1 HPOS.out.2.1 hlf0)
      obtain ⟨far, hfar⟩ : ∃ far, farI ps p pos way = far := ⟨_, rfl⟩
      have HFAR := hidP hfar
      have hfb : far < ps[p].len ∧ 0 ≤ far := by rw [← hfar]; exact ⟨HPOS.out.2.2.1, HPOS.out.2.2.2⟩
      obtain ⟨hfb1, hfb2⟩ := hfb
      rw [hfar]
      clear hfar
      obtain ⟨b1, off1, rfl, hpc⟩ := HF2.out.P.2.2.resolve_left (fun h => by rw [h] at hp; exact absurd hp (Nat.not_lt_zero _))
      obtain ⟨_, q2, _, _⟩ := hpc p hp
      have f0 := HF2.out.c0
      have f1 := HF2.out.c1
      have hz2 := cellLt q2
      clear hpc
      obtain ⟨en, hen⟩ : ∃ en, min (far + lf) ps[p].len = en := ⟨_, rfl⟩
      have HEN := hidP hen
      have he1 : far < en ∧ en ≤ ps[p].len ∧ en ≤ far + lf := by omega
      obtain ⟨he1, he2, he3⟩ := he1
      clear hen
      by_cases hcmp : ps[p].len < far + lf
      · have henL : Hid (en = ps[p].len) := by have := HEN.out; unfold Hid; omega
        go_wp2_with fail
        refine (l2part_any _ _ _ _ _ ps p way far (ps[p].len) _ (HF2.out.P.below blo) hp ⟨hL1, hL2⟩ (by omega) (by omega) (by omega) (by omega)).mono ?_
        rintro e w2 ⟨rfl, hb2⟩
        obtain ⟨pt, hpt⟩ : ∃ pt, specPart ps p way far (ps[p].len) = pt := ⟨_, rfl⟩
        rw [hpt]
        have HPT := hidP hpt
        have HO2 := hidP (owns_below HO.out hb2)
        have hb3 := hb.trans (hb2.mono hb.size)
        have hbs3 := hb3.size
        have g0 := cell_later hb2 f0
        have g1 := cell_later hb2 f1
        have hzz := hb2.size
        unfold partV
        clear hpt hb2 q2 f0 f1
        go_wp2_with (at_builtin; refine wpList_push rfl (.tmp 47) (.tmp 57) 39 rfl w.heap.size 44 _ 3 24 Try.underlying39 Try.infoPart rfl (by decide) (.slice x acc.length y) acc.length (flatP acc) rfl HO2.out w2.heap.size rfl [.int .i64 pt.piece, .int .i64 pt.lo, .int .i64 pt.hi] rfl rfl (by simp [Value.oneCell']) (by unfold maxLen; omega) (by omega) (by omega) ?_; intro x' y' w3 ho3 hg3; rw [flatP_push] at ho3; have HO3 := hidP ho3; have hb4 := push_below hb3 HO2.out hg3 (by omega); have HBX := hidP hg3; clear ho3 hg3)
        have hneF : some F ≠ (Value.slice x acc.length y).ownBlock := fun e => by have := (HO2.out.lt F e.symm).1; omega
        have k0 := HBX.out.cell g0 hneF
        have k1 := HBX.out.cell g1 hneF
        have hbs4 := hb4.size
        have hFz4 : F < w3.heap.size := by omega
        have HF4 := hidP (hF.out.below hb4)
        clear hneF HBX g0 g1 hb3 hbs3 HO2 HF2
        obtain ⟨ji, ki, hsp, hse⟩ := R.out.spot (aheadE_valid (ps := ps) (s := ⟨p, way⟩) ⟨p, hp, rfl, HW.out⟩)
        have HSP := hidP hsp
        have HSE := hidP hse
        clear hsp hse
        go_region_held3 (fun w' => w'.cell? ⟨F, 0, none⟩ = some (.slice (some ⟨b1, off1, none⟩) ps.length pc) ∧ w'.cell? ⟨F, 1, none⟩ = some (.slice ja js.length jc)) (first | go_keep | (refine ⟨?_, ?_⟩ <;> assumption))
          (first
            | (go_at_call 106; refine (l2head_any p way _).mono ?_; rintro e w5 ⟨rfl, hb5⟩; have hb35 : Below w3.heap.size w3 w5 := (Below.refl _ _).drew.trans hb5; replace k0 := cell_later hb35 k0; replace k1 := cell_later hb35 k1; have HB5 := hidP hb35; clear hb5 hb35)
            | (go_at_call 105; refine (l1at_any _ _ _ _ _ js _ ji ki _ (HF4.out.J.below HB5.out) HSP).mono ?_; rintro e w6 ⟨rfl, hb6⟩; replace k0 := cell_later hb6 k0; replace k1 := cell_later hb6 k1; have HB6 := hidP (HB5.out.trans (hb6.mono HB5.out.size)); clear hb6))
        all_goals
          have hb7 := hb4.trans (HB6.out.mono hb4.size)
          have HO7 := hidP (owns_below HO3.out HB6.out)
          have HF7 := hidP (HF4.out.below HB6.out)
          have hbs7 := hb7.size
          have hFz7 : F < w6.heap.size := by omega
          clear HB5 HB6 HF4 HO3 hb4
          have hl' : 0 < lf - (ps[p].len - far) := by omega
          obtain ⟨_, hji, hki, hend, _, _⟩ := spotF_some HSP.out
          simp only [Nat.sub_zero] at hji hki hend
          obtain ⟨hk1, hk2, hk3⟩ := R.out.kind ji hji
          obtain ⟨b3, off3, rfl, hjc⟩ := HF7.out.J.2.2.resolve_left (fun h => by rw [h] at hji; exact absurd hji (Nat.not_lt_zero _))
          obtain ⟨c1, _, ea, ec, c3, c4⟩ := hjc ji hji
          have C4 := hidP c4
          have hz3 := cellLt c1
          clear hjc c4
          have HX1 : Hid (tot = acc ++ ([pt] ++ (if js[ji].kind = 2 then behindF ps js (n - 1) (stepFromE (endE js ji (1 - ki))) (endAt ps (endE js ji (1 - ki))) (lf - (ps[p].len - far)) else []))) := by
            have h1 := HT.out
            have h2 := HPE.out
            rw [HFAR.out, HEN.out, henL.out, HPT.out] at h2
            obtain ⟨n', rfl⟩ : ∃ n', n = n' + 1 := ⟨n - 1, by omega⟩
            unfold Hid
            rw [h1, behindF, if_neg (by omega), ← h2.1, ← h2.2, HSE.out, kindE_at hji]
            rfl
          by_cases hK : js[ji].kind = 2
          · have hkb : (js[ji].kind != 2) = false := by simp [hK]
            rw [if_pos hK] at HX1
            have hel : js[ji].ends.length = 2 := by omega
            obtain ⟨b4, off4, rfl, hec⟩ := C4.out.2.resolve_left (fun h => by rw [h] at hki; exact absurd hki (Nat.not_lt_zero _))
            have hk01 : ki = 0 ∨ ki = 1 := by omega
            have hcase : ∃ kk : Nat, kk < 2 ∧ 1 - ki = kk ∧ ((1 : Int) - (ki : Int)) = (kk : Int) := ⟨1 - ki, by omega, rfl, by omega⟩
            obtain ⟨kk, hkk1, hkk2, hkk3⟩ := hcase
            have hkl : kk < js[ji].ends.length := by omega
            obtain ⟨d0, d1⟩ := hec kk hkl
            obtain ⟨p', hp', he1, he2⟩ := R.out.ends ji hji kk hkl
            obtain ⟨hM1, hM2⟩ := R.out.plen p' hp'
            have HEE : Hid (endE js ji (1 - ki) = js[ji].ends[kk]) := by unfold Hid; rw [hkk2, endE_at hji hkl]
            rw [he1] at d0
            have hzz4 := cellLt d0
            have hel' : (js[ji].ends.length : Int) = 2 := by omega
            have HLN : Hid ((acc ++ [pt]).length = acc.length + 1) := by unfold Hid; simp
            have HKK := hidP hkk3
            clear hec hkk2 hkk1 HPT HPE HEN
            rcases he2 with hs | hs
            · rw [hs] at d1
              have HST : Hid (stepFromE (endE js ji (1 - ki)) = ⟨p', 1⟩ ∧ endAt ps (endE js ji (1 - ki)) = 0) := by
                unfold Hid
                rw [HEE.out]
                unfold stepFromE endAt
                rw [if_pos hs, if_pos hs, he1]
                exact ⟨rfl, rfl⟩
              clear he1 hs
              go_wp2_with fail
              go_roundw
              case rel =>
                refine ⟨p', hp', 1, 0, lf - (ps[p].len - far), n - 1, acc ++ [pt], x', y', by first | rfl | go_num, rfl, by simp [farI], rfl, by rw [HLN.out], Or.inl rfl, ⟨by omega, by omega, by simp only [farI, if_true]; omega, by simp [farI]⟩, by omega, ?_, by omega, by rw [HLN.out]; exact HO7.out.alloc _, ?_, blo⟩
                · rw [HLN.out]; omega
                · have h := HX1.out
                  rw [HST.out.1, HST.out.2] at h
                  unfold Hid
                  rw [h, List.append_assoc]
              case measure => simp [intOf]; omega
            · rw [hs] at d1
              have HST : Hid (stepFromE (endE js ji (1 - ki)) = ⟨p', -1⟩ ∧ endAt ps (endE js ji (1 - ki)) = ps[p'].len) := by
                unfold Hid
                rw [HEE.out]
                unfold stepFromE endAt
                rw [if_neg (by rw [hs]; omega), if_neg (by rw [hs]; omega), he1, lenI_at hp']
                exact ⟨rfl, rfl⟩
              clear he1 hs
              go_wp2_with fail
              go_roundw
              case rel =>
                refine ⟨p', hp', -1, ps[p'].len, lf - (ps[p].len - far), n - 1, acc ++ [pt], x', y', by first | rfl | go_num, rfl, by simp [farI, lenI_at hp'], rfl, by rw [HLN.out], Or.inr rfl, ⟨by omega, by omega, by simp [farI, lenI_at hp']; omega, by simp [farI, lenI_at hp']⟩, by omega, ?_, by omega, by rw [HLN.out]; exact HO7.out.alloc _, ?_, blo⟩
                · rw [HLN.out]; omega
                · have h := HX1.out
                  rw [HST.out.1, HST.out.2] at h
                  unfold Hid
                  rw [h, List.append_assoc]
              case measure => simp [intOf]; omega
          · have hkb : (js[ji].kind != 2) = true := by simp [hK]
            rw [if_neg hK, List.append_nil] at HX1
            obtain rfl := HX1.out
            clear hK
            go_wp2_with fail
            go_ret
            exact ⟨x', y', by simp, by simpa using HO7.out, hb7⟩
      · have henL : Hid (en = far + lf) := by have := HEN.out; unfold Hid; omega
        go_wp2_with fail
        refine (l2part_any _ _ _ _ _ ps p way far (far + lf) _ (HF2.out.P.below blo) hp ⟨hL1, hL2⟩ (by omega) (by omega) (by omega) (by omega)).mono ?_
        rintro e w2 ⟨rfl, hb2⟩
        obtain ⟨pt, hpt⟩ : ∃ pt, specPart ps p way far (far + lf) = pt := ⟨_, rfl⟩
        rw [hpt]
        have HPT := hidP hpt
        have HO2 := hidP (owns_below HO.out hb2)
        have hb3 := hb.trans (hb2.mono hb.size)
        have hbs3 := hb3.size
        have g0 := cell_later hb2 f0
        have g1 := cell_later hb2 f1
        have hzz := hb2.size
        unfold partV
        clear hpt hb2 q2 f0 f1
        go_wp2_with (at_builtin; refine wpList_push rfl (.tmp 47) (.tmp 57) 39 rfl w.heap.size 44 _ 3 24 Try.underlying39 Try.infoPart rfl (by decide) (.slice x acc.length y) acc.length (flatP acc) rfl HO2.out w2.heap.size rfl [.int .i64 pt.piece, .int .i64 pt.lo, .int .i64 pt.hi] rfl rfl (by simp [Value.oneCell']) (by unfold maxLen; omega) (by omega) (by omega) ?_; intro x' y' w3 ho3 hg3; rw [flatP_push] at ho3; have HO3 := hidP ho3; have hb4 := push_below hb3 HO2.out hg3 (by omega); have HBX := hidP hg3; clear ho3 hg3)
        have hneF : some F ≠ (Value.slice x acc.length y).ownBlock := fun e => by have := (HO2.out.lt F e.symm).1; omega
        have k0 := HBX.out.cell g0 hneF
        have k1 := HBX.out.cell g1 hneF
        have hbs4 := hb4.size
        have hFz4 : F < w3.heap.size := by omega
        have HF4 := hidP (hF.out.below hb4)
        clear hneF HBX g0 g1 hb3 hbs3 HO2 HF2
        obtain ⟨ji, ki, hsp, hse⟩ := R.out.spot (aheadE_valid (ps := ps) (s := ⟨p, way⟩) ⟨p, hp, rfl, HW.out⟩)
        have HSP := hidP hsp
        have HSE := hidP hse
        clear hsp hse
        go_region_held3 (fun w' => w'.cell? ⟨F, 0, none⟩ = some (.slice (some ⟨b1, off1, none⟩) ps.length pc) ∧ w'.cell? ⟨F, 1, none⟩ = some (.slice ja js.length jc)) (first | go_keep | (refine ⟨?_, ?_⟩ <;> assumption))
          (first
            | (go_at_call 106; refine (l2head_any p way _).mono ?_; rintro e w5 ⟨rfl, hb5⟩; have hb35 : Below w3.heap.size w3 w5 := (Below.refl _ _).drew.trans hb5; replace k0 := cell_later hb35 k0; replace k1 := cell_later hb35 k1; have HB5 := hidP hb35; clear hb5 hb35)
            | (go_at_call 105; refine (l1at_any _ _ _ _ _ js _ ji ki _ (HF4.out.J.below HB5.out) HSP).mono ?_; rintro e w6 ⟨rfl, hb6⟩; replace k0 := cell_later hb6 k0; replace k1 := cell_later hb6 k1; have HB6 := hidP (HB5.out.trans (hb6.mono HB5.out.size)); clear hb6))
        all_goals
          have hb7 := hb4.trans (HB6.out.mono hb4.size)
          have HO7 := hidP (owns_below HO3.out HB6.out)
          have HF7 := hidP (HF4.out.below HB6.out)
          have hbs7 := hb7.size
          have hFz7 : F < w6.heap.size := by omega
          clear HB5 HB6 HF4 HO3 hb4
          have HX : Hid (tot = acc ++ [pt]) := by
            have h1 := HT.out
            have h2 := HPE.out
            rw [HFAR.out, HEN.out, henL.out, HPT.out] at h2
            obtain ⟨n', rfl⟩ : ∃ n', n = n' + 1 := ⟨n - 1, by omega⟩
            rw [h1, behindF, if_neg (by omega), ← h2.1, ← h2.2]
            congr 2
            split
            · exact behindF_0 (by omega)
            · rfl
          have hll : lf - (far + lf - far) = 0 := by omega
          rw [hll]
          obtain rfl := HX.out
          go_wp2_with fail
          go_ret
          exact ⟨x', y', by simp, by simpa using HO7.out, hb7⟩
    · have HX : Hid (tot = acc) := by have := HT.out; rw [behindF_0 (by omega), List.append_nil] at this; exact this
      obtain rfl := HX.out
      go_wp2_with fail
      go_ret
      exact ⟨x, y, rfl, HO.out, hb⟩
end Go.Proofs.Ytmkdgnmmebldgaa

namespace Go.Proofs.Ytmkdgnmmebldgaa
open Go.RowKit Go.Deep
theorem guardB_range (ss : List MPiece) (p way : Int) : ∀ k, k ≤ ss.length → guardB ss p way k = -1 ∨ ∃ (b : Nat) (hb : b < ss.length), b < k ∧ guardB ss p way k = b ∧ ss[b].len = p ∧ ss[b].brake = way
  | 0, _ => Or.inl rfl
  | k + 1, h => by
    have hk : k < ss.length := by omega
    have ih := guardB_range ss p way k (by omega)
    have ih' : guardB ss p way k = -1 ∨ ∃ (b : Nat) (hb : b < ss.length), b < k + 1 ∧ guardB ss p way k = b ∧ ss[b].len = p ∧ ss[b].brake = way := by
      rcases ih with ih | ⟨b, h1, h2, h3⟩
      · exact Or.inl ih
      · exact Or.inr ⟨b, h1, by omega, h3⟩
    simp only [guardB, List.getElem?_eq_getElem hk]
    split
    · exact ih'
    · split
      · rename_i h1 _
        refine Or.inr ⟨k, hk, by omega, rfl, ?_⟩
        constructor
        · by_cases e : ss[k].len = p
          · exact e
          · exact absurd (Or.inl e) h1
        · by_cases e : ss[k].brake = way
          · exact e
          · exact absurd (Or.inr e) h1
      · exact ih'
section
variable {ss : List MPiece} {p way : Int} {k : Nat}
theorem guardB_skip (hk : k < ss.length) (h : ss[k].len ≠ p ∨ ss[k].brake ≠ way) : guardB ss p way (k + 1) = guardB ss p way k := by
  simp only [guardB, List.getElem?_eq_getElem hk, if_pos h]
theorem guardB_take (hk : k < ss.length) (h : ¬ (ss[k].len ≠ p ∨ ss[k].brake ≠ way)) (h2 : guardB ss p way k < 0 ∨ 0 < (ss[k].speed - sigAt ss (guardB ss p way k)) * way) : guardB ss p way (k + 1) = k := by
  simp only [guardB, List.getElem?_eq_getElem hk, if_neg h, if_pos h2]
theorem guardB_leave (hk : k < ss.length) (h : ¬ (ss[k].len ≠ p ∨ ss[k].brake ≠ way)) (h2 : ¬ (guardB ss p way k < 0 ∨ 0 < (ss[k].speed - sigAt ss (guardB ss p way k)) * way)) : guardB ss p way (k + 1) = guardB ss p way k := by
  simp only [guardB, List.getElem?_eq_getElem hk, if_neg h, if_neg h2]
theorem farI_gt {ps : List MPiece} {q : Int} (h : way = 1 ∨ way = -1) {a b : Int} : farI ps q b way < farI ps q a way ↔ 0 < (a - b) * way := by
  unfold farI
  rcases h with rfl | rfl
  · first | (simp; done) | (simp; omega)
  · first | (simp; done) | (simp; omega)
end
theorem nats_few : ∀ (m : Nat) {L : List Nat}, L.Nodup → (∀ x ∈ L, x < m) → L.length ≤ m
  | 0, L, _, h => by
    cases L with
    | nil => exact Nat.le_refl _
    | cons a r => exact absurd (h a (by simp)) (Nat.not_lt_zero _)
  | m + 1, L, hd, h => by
    by_cases hm : m ∈ L
    · have h1 := nats_few m (hd.erase m) (fun x hx => by
        have := (hd.mem_erase_iff).1 hx
        have := h x this.2
        omega)
      rw [List.length_erase_of_mem hm] at h1
      omega
    · have := nats_few m hd (fun x hx => by
        have := h x hx
        have : x ≠ m := fun e => hm (e ▸ hx)
        omega)
      omega
def Seen (ps : List MPiece) (L : List MEnd) : Prop := L.Nodup ∧ ∀ e ∈ L, ValidE ps e
theorem Seen.few {ps : List MPiece} {L : List MEnd} (h : Seen ps L) : L.length ≤ 2 * ps.length := by
  have h1 : (L.map (fun e => 2 * e.piece.toNat + e.side.toNat)).Nodup := by
    unfold List.Nodup
    rw [List.pairwise_map]
    refine List.Pairwise.imp_of_mem ?_ h.1
    intro a b ha hb hne e
    obtain ⟨p, hp, ea, sa⟩ := h.2 a ha
    obtain ⟨q, hq, eb, sb⟩ := h.2 b hb
    refine hne ?_
    cases a
    cases b
    simp only [MEnd.mk.injEq] at *
    subst ea eb
    simp only [Int.toNat_natCast] at e
    rcases sa with rfl | rfl <;> rcases sb with rfl | rfl <;> simp at e ⊢ <;> omega
  have := nats_few (2 * ps.length) h1 (fun x hx => by
    obtain ⟨e, he, rfl⟩ := List.mem_map.1 hx
    obtain ⟨p, hp, ea, sa⟩ := h.2 e he
    rw [ea]
    rcases sa with sa | sa <;> rw [sa] <;> simp <;> omega)
  simpa using this
theorem Seen.nil (ps : List MPiece) : Seen ps [] := ⟨List.nodup_nil, fun e he => absurd he (by simp)⟩
theorem Seen.push {ps : List MPiece} {L : List MEnd} {e : MEnd} (h : Seen ps L) (hv : ValidE ps e) (hn : ¬ L.any (fun x => sameE x e) = true) : Seen ps (L ++ [e]) := by
  refine ⟨?_, ?_⟩
  · unfold List.Nodup
    rw [List.pairwise_append]
    refine ⟨h.1, List.pairwise_singleton _ _, ?_⟩
    intro a ha b hb
    have : b = e := by simpa using hb
    subst this
    rintro rfl
    exact hn (List.any_eq_true.2 ⟨a, ha, sameE_iff.2 rfl⟩)
  · intro x hx
    rcases List.mem_append.1 hx with hx | hx
    · exact h.2 x hx
    · have : x = e := by simpa using hx
      subst this
      exact hv
theorem beyond_lt {kind : Int} {k t n : Nat} (hn : (n : Int) = kind) (hk : k < n) (ht : t ∈ beyondF kind k) : t < n := by
  unfold beyondF at ht
  split at ht
  · have : t = 1 - k := by simpa using ht
    omega
  · split at ht
    · split at ht
      · have : t = 1 ∨ t = 2 := by simpa using ht
        omega
      · have : t = 0 := by simpa using ht
        omega
    · split at ht
      · have : t = if k = 0 then 1 else if k = 1 then 0 else if k = 2 then 3 else 2 := by simpa using ht
        subst this
        split
        · omega
        · split
          · omega
          · split <;> omega
      · exact absurd ht (by simp)
def Grew (ps : List MPiece) (a b : List MEnd × List MFlank) : Prop := Seen ps b.1 ∧ a.1.length ≤ b.1.length ∧ b.2.length + a.1.length ≤ a.2.length + b.1.length
theorem Grew.refl {ps : List MPiece} {a : List MEnd × List MFlank} (h : Seen ps a.1) : Grew ps a a := ⟨h, Nat.le_refl _, Nat.le_refl _⟩
theorem Grew.trans {ps : List MPiece} {a b c : List MEnd × List MFlank} (h : Grew ps a b) (k : Grew ps b c) : Grew ps a c :=
  ⟨k.1, Nat.le_trans h.2.1 k.2.1, by have := h.2.2; have := k.2.2; have := h.2.1; have := k.2.1; omega⟩
theorem Grew.fold {ps : List MPiece} {f : List MEnd × List MFlank → Nat → List MEnd × List MFlank} : ∀ (L : List Nat) {a : List MEnd × List MFlank}, Seen ps a.1 → (∀ t ∈ L, ∀ s, Seen ps s.1 → Grew ps s (f s t)) → Grew ps a (L.foldl f a)
  | [], _, ha, _ => Grew.refl ha
  | t :: r, a, ha, h => by
    have h1 := h t (by simp) a ha
    exact h1.trans (Grew.fold r h1.1 (fun t' ht s hs => h t' (by simp [ht]) s hs))
theorem Right.across {ps : List MPiece} {js : List MJoint} {ss : List MPiece} (R : Right ps js ss) {e : MEnd} (he : ValidE ps e) {t : Nat} (ht : t ∈ beyondF (kindE js (spotE js e).1) (spotE js e).2) : ValidE ps (endE js (spotE js e).1 t) := by
  obtain ⟨j, k, h1, h2⟩ := R.spot he
  rw [h2] at ht ⊢
  obtain ⟨_, hj, hk, _⟩ := spotF_some h1
  simp only [Nat.sub_zero] at hj hk
  rw [kindE_at hj] at ht
  have hl := beyond_lt (R.kind j hj).2.2 hk ht
  rw [endE_at hj hl]
  exact R.ends j hj t hl
theorem look_grew {ps : List MPiece} {js : List MJoint} {ss : List MPiece} (R : Right ps js ss) (lies : List MLie) (pl : Int) : ∀ (n : Nat) (st : List MEnd × List MFlank) (e : MEnd), Seen ps st.1 → ValidE ps e → Grew ps st (lookF js ss lies pl n st e)
  | 0, st, e, h, _ => Grew.refl h
  | n + 1, st, e, h, hv => by
    simp only [lookF]
    generalize (if e.side = 0 then (-1 : Int) else 1) = wy
    split
    · exact Grew.refl h
    · rename_i hn
      have h1 := h.push hv hn
      have hg : ∀ x : MFlank, Grew ps st (st.1 ++ [e], st.2 ++ [x]) := fun x => ⟨h1, by simp, by simp; omega⟩
      split
      · exact hg _
      · split
        · exact hg _
        · split
          · exact hg _
          · refine Grew.trans (b := (st.1 ++ [e], st.2)) ⟨h1, by simp, by simp⟩ ?_
            exact Grew.fold (a := (st.1 ++ [e], st.2)) _ h1 (fun t ht s hs => look_grew R lies pl n s _ hs (R.across (farE_valid hv) ht))
end Go.Proofs.Ytmkdgnmmebldgaa
