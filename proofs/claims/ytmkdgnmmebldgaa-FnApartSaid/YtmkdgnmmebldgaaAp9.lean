import Derived.Test.YtmkdgnmmebldgaaAp5
import Derived.Test.YtmkdgnmmebldgaaAp8
import Derived.Deep.AppendLies
import Derived.Deep.RegionLaw
import Derived.Deep.DeepCutAuto
import Derived.BigQuiet
namespace Go.Proofs.Ytmkdgnmmebldgaa
open Go.RowKit Go.Deep

theorem behindF_0 {ps : List MPiece} {js : List MJoint} {n : Nat} {s : MStep} {pos left : Int} (h : left ≤ 0) : behindF ps js n s pos left = [] := by
  cases n with
  | zero => rfl
  | succ n => simp only [behindF, if_pos h]

/-- The part that is gone over, as both texts write it. -/
theorem part_eq {ps : List MPiece} {p : Nat} {way pos left : Int} (hp : p < ps.length) (hw : way = 1 ∨ way = -1) (h0 : 0 ≤ pos) (h1 : pos ≤ ps[p].len) (hl : 0 ≤ left) :
    specPart ps p way (farI ps p pos way) (min (farI ps p pos way + left) ps[p].len) = partI p pos (pos + min left ((endAt ps (aheadE ⟨p, way⟩) - pos) * way) * way) ∧
    min (farI ps p pos way + left) ps[p].len - farI ps p pos way = min left ((endAt ps (aheadE ⟨p, way⟩) - pos) * way) := by
  have hL := lenI_at hp
  rcases hw with rfl | rfl
  · simp only [specPart, farI, partI, endAt, aheadE, if_true, hL, Int.mul_one]
    have e : ¬ ((1 : Int) = -1) := by omega
    have e2 : ¬ ((1 : Int) = 0) := by omega
    rw [if_neg e, if_neg e2]
    refine ⟨?_, by omega⟩
    congr 1 <;> omega
  · have e : ¬ ((-1 : Int) = 1) := by omega
    simp only [specPart, farI, partI, endAt, aheadE, if_true, if_neg e, hL]
    refine ⟨?_, by omega⟩
    congr 1 <;> omega

/-- What a finder holds: the net, the signals, how far. -/
structure FNet (w : World) (F : Nat) (pa ja sa : Option Addr) (pc jc sc : Nat) (ps : List MPiece) (js : List MJoint) (ss : List MPiece) (over : Int) : Prop where
  c0 : w.cell? ⟨F, 0, none⟩ = some (.slice pa ps.length pc)
  c1 : w.cell? ⟨F, 1, none⟩ = some (.slice ja js.length jc)
  c2 : w.cell? ⟨F, 2, none⟩ = some (.slice sa ss.length sc)
  c3 : w.cell? ⟨F, 3, none⟩ = some (.int .i64 over)
  P : PiecesAt w pa ps
  J : JointsAt w ja js
  S : PiecesAt w sa ss
theorem FNet.below {w w' : World} {F : Nat} {pa ja sa : Option Addr} {pc jc sc : Nat} {ps : List MPiece} {js : List MJoint} {ss : List MPiece} {over : Int} (h : FNet w F pa ja sa pc jc sc ps js ss over) (hb : Below w.heap.size w w') : FNet w' F pa ja sa pc jc sc ps js ss over :=
  ⟨cell_later hb h.c0, cell_later hb h.c1, cell_later hb h.c2, cell_later hb h.c3, h.P.below hb, h.J.below hb, h.S.below hb⟩

theorem flatP_push (ps : List MPart) (p : MPart) : flatP ps ++ [.int .i64 p.piece, .int .i64 p.lo, .int .i64 p.hi] = flatP (ps ++ [p]) := by
  rw [flatP_snoc]
  rfl

set_option maxRecDepth 20000 in
set_option maxHeartbeats 1600000 in
theorem beyond_any (F : Nat) (pa ja sa : Option Addr) (pc jc sc : Nat) (ps : List MPiece) (js : List MJoint) (ss : List MPiece) (over : Int) (R : Hid (Right ps js ss)) (p0 : Nat) (way0 pos0 : Int) (w : World) (hF : Hid (FNet w F pa ja sa pc jc sc ps js ss over))
    (hp0 : p0 < ps.length) (hw0 : way0 = 1 ∨ way0 = -1) (hs0 : 0 < pos0) (hs1 : pos0 < ps[p0].len) (ho0 : 0 ≤ over) (ho1 : over ≤ 100000) :
    Calls Try.prog 103 #[.pointer (some ⟨F, 0, none⟩), .int .i64 p0, .int .i64 way0, .int .i64 (farI ps p0 pos0 way0)] w fun e w' => ∃ x y, e = .returned (.slice x (behindF ps js (over.toNat + 1) ⟨p0, way0⟩ pos0 over).length y) ∧ w'.ownsRow w.heap.size 44 3 (.slice x (behindF ps js (over.toNat + 1) ⟨p0, way0⟩ pos0 over).length y) (behindF ps js (over.toNat + 1) ⟨p0, way0⟩ pos0 over).length (flatP (behindF ps js (over.toNat + 1) ⟨p0, way0⟩ pos0 over)) ∧ Below w.heap.size w w' := by
  have hpl := hF.out.P.1
  have hjl := hF.out.J.1
  have hFz := cellLt hF.out.c3
  have hc3 := hF.out.c3
  unfold maxLen at hpl hjl
  have HFAR0 : Hid (farI ps p0 pos0 way0 < ps[p0].len ∧ 0 ≤ farI ps p0 pos0 way0) := by
    unfold Hid farI
    rw [lenI_at hp0]
    split <;> omega
  obtain ⟨tot, htot⟩ : ∃ tot, behindF ps js (over.toNat + 1) ⟨p0, way0⟩ pos0 over = tot := ⟨_, rfl⟩
  rw [htot]
  have HTOT := hidP htot
  have HW0 := hidP hw0
  clear htot hw0
  go_enter Try.func103, Try.ntmps103
  go_wp2_with fail
  clear hc3
  go_loopw [1, 2, 3, 9, 10] (fun a1 a2 a3 v l wr => ∃ (p : Nat) (hp : p < ps.length) (way pos lf : Int) (n : Nat) (acc : List MPart) (x : Option Addr) (y : Nat), a1 = .int .i64 p ∧ a2 = .int .i64 way ∧ a3 = .int .i64 (farI ps p pos way) ∧ l = .int .i64 lf ∧ v = .slice x acc.length y ∧ Hid (way = 1 ∨ way = -1) ∧ Hid (0 ≤ pos ∧ pos ≤ ps[p].len ∧ farI ps p pos way < ps[p].len ∧ 0 ≤ farI ps p pos way) ∧ 0 ≤ lf ∧ (acc.length : Int) + lf ≤ 100000 ∧ lf.toNat < n ∧
    Hid (wr.ownsRow w.heap.size 44 3 (.slice x acc.length y) acc.length (flatP acc)) ∧ Hid (tot = acc ++ behindF ps js n ⟨p, way⟩ pos lf) ∧ Below w.heap.size w wr) (fun _ _ _ _ l _ => (intOf l).toNat)
  case atStart => exact ⟨p0, hp0, way0, pos0, over, over.toNat + 1, [], none, 0, rfl, rfl, rfl, rfl, rfl, HW0, ⟨by omega, by omega, HFAR0.out.1, HFAR0.out.2⟩, ho0, by simpa using ho1, by omega, World.ownsRow_nil _ _ _ _, HTOT.out.symm, Below.refl _ _⟩
  case round =>
    obtain ⟨p, hp, way, pos, lf, n, acc, x, y, rfl, rfl, rfl, rfl, rfl, HW, HPOS, hlf0, hlf1, hn, HO, HT, hb⟩ := hrel
    have hbs := hb.size
    by_cases hl : 0 < lf
    · have HF2 := hidP (hF.out.below hb)
      have hFz' := Nat.lt_of_lt_of_le hFz hb.size
      obtain ⟨hL1, hL2⟩ := R.out.plen p hp
      have HPE := hidP (part_eq (ps := ps) (left := lf) hp HW.out HPOS.out.1 HPOS.out.2.1 hlf0)
      obtain ⟨far, hfar⟩ : ∃ far, farI ps p pos way = far := ⟨_, rfl⟩
      have HFAR := hidP hfar
      have hfb : far < ps[p].len ∧ 0 ≤ far := by rw [← hfar]; exact ⟨HPOS.out.2.2.1, HPOS.out.2.2.2⟩
      obtain ⟨hfb1, hfb2⟩ := hfb
      rw [hfar]
      clear hfar
      obtain ⟨b1, off1, rfl, hpc⟩ := HF2.out.P.2.2.resolve_left (fun h => by rw [h] at hp; exact absurd hp (Nat.not_lt_zero _))
      obtain ⟨_, q2, _, _⟩ := hpc p hp
      have f0 := HF2.out.c0
      have f1 := HF2.out.c1
      have hz2 := cellLt q2
      clear hpc
      obtain ⟨en, hen⟩ : ∃ en, min (far + lf) ps[p].len = en := ⟨_, rfl⟩
      have HEN := hidP hen
      have he1 : far < en ∧ en ≤ ps[p].len ∧ en ≤ far + lf := by omega
      obtain ⟨he1, he2, he3⟩ := he1
      clear hen
      by_cases hcmp : ps[p].len < far + lf
      · have henL : Hid (en = ps[p].len) := by have := HEN.out; unfold Hid; omega
        go_wp2_with fail
        refine (l2part_any _ _ _ _ _ ps p way far (ps[p].len) _ (HF2.out.P.below (by repeat (first | exact Below.refl _ _ | assumption | refine Below.drew ?_ | refine bdrewN ?_ _ | refine Below.setCell ?_ (by first | omega | (simp; done) | (simp; omega)) _ | refine Below.alloc ?_ (by first | omega | (simp; done) | (simp; omega)) _))) hp ⟨hL1, hL2⟩ (by omega) (by omega) (by omega) (by omega)).mono ?_
        rintro e w2 ⟨rfl, hb2⟩
        obtain ⟨pt, hpt⟩ : ∃ pt, specPart ps p way far (ps[p].len) = pt := ⟨_, rfl⟩
        rw [hpt]
        have HPT := hidP hpt
        have HO2 := hidP (owns_below HO.out hb2)
        have hb3 := hb.trans (hb2.mono hb.size)
        have hbs3 := hb3.size
        have g0 := cell_later hb2 f0
        have g1 := cell_later hb2 f1
        have hzz := hb2.size
        unfold partV
        clear hpt hb2 q2 f0 f1
        go_wp2_with (at_builtin; refine wpList_push rfl (.tmp 47) (.tmp 57) 39 rfl w.heap.size 44 _ 3 24 Try.underlying39 Try.infoPart rfl (by decide) (.slice x acc.length y) acc.length (flatP acc) rfl HO2.out w2.heap.size rfl [.int .i64 pt.piece, .int .i64 pt.lo, .int .i64 pt.hi] rfl rfl (by simp [Value.oneCell']) (by unfold maxLen; omega) (by omega) (by omega) ?_; intro x' y' w3 ho3 hg3; rw [flatP_push] at ho3; have HO3 := hidP ho3; have hb4 := push_below hb3 HO2.out hg3 (by omega); have HBX := hidP hg3; clear ho3 hg3)
        have hneF : some F ≠ (Value.slice x acc.length y).ownBlock := fun e => by have := (HO2.out.lt F e.symm).1; omega
        have k0 := HBX.out.cell g0 hneF
        have k1 := HBX.out.cell g1 hneF
        have hbs4 := hb4.size
        have hFz4 : F < w3.heap.size := by omega
        have HF4 := hidP (hF.out.below hb4)
        clear hneF HBX g0 g1 hb3 hbs3 HO2 HF2
        obtain ⟨ji, ki, hsp, hse⟩ := R.out.spot (aheadE_valid (ps := ps) (s := ⟨p, way⟩) ⟨p, hp, rfl, HW.out⟩)
        have HSP := hidP hsp
        have HSE := hidP hse
        clear hsp hse
        go_region_held3 (fun w' => w'.cell? ⟨F, 0, none⟩ = some (.slice (some ⟨b1, off1, none⟩) ps.length pc) ∧ w'.cell? ⟨F, 1, none⟩ = some (.slice ja js.length jc)) (first | go_keep | (refine ⟨?_, ?_⟩ <;> assumption))
          (first
            | (go_at_call 106; refine (l2head_any p way _).mono ?_; rintro e w5 ⟨rfl, hb5⟩; have hb35 : Below w3.heap.size w3 w5 := (Below.refl _ _).drew.trans hb5; replace k0 := cell_later hb35 k0; replace k1 := cell_later hb35 k1; have HB5 := hidP hb35; clear hb5 hb35)
            | (go_at_call 105; refine (l1at_any _ _ _ _ _ js _ ji ki _ (HF4.out.J.below HB5.out) HSP).mono ?_; rintro e w6 ⟨rfl, hb6⟩; replace k0 := cell_later hb6 k0; replace k1 := cell_later hb6 k1; have HB6 := hidP (HB5.out.trans (hb6.mono HB5.out.size)); clear hb6))
        all_goals
          have hb7 := hb4.trans (HB6.out.mono hb4.size)
          have HO7 := hidP (owns_below HO3.out HB6.out)
          have HF7 := hidP (HF4.out.below HB6.out)
          have hbs7 := hb7.size
          have hFz7 : F < w6.heap.size := by omega
          clear HB5 HB6 HF4 HO3 hb4
          have hl' : 0 < lf - (ps[p].len - far) := by omega
          obtain ⟨_, hji, hki, hend, _, _⟩ := spotF_some HSP.out
          simp only [Nat.sub_zero] at hji hki hend
          obtain ⟨hk1, hk2, hk3⟩ := R.out.kind ji hji
          obtain ⟨b3, off3, rfl, hjc⟩ := HF7.out.J.2.2.resolve_left (fun h => by rw [h] at hji; exact absurd hji (Nat.not_lt_zero _))
          obtain ⟨c1, _, ea, ec, c3, c4⟩ := hjc ji hji
          have C4 := hidP c4
          have hz3 := cellLt c1
          clear hjc c4
          have HX1 : Hid (tot = acc ++ ([pt] ++ (if js[ji].kind = 2 then behindF ps js (n - 1) (stepFromE (endE js ji (1 - ki))) (endAt ps (endE js ji (1 - ki))) (lf - (ps[p].len - far)) else []))) := by
            have h1 := HT.out
            have h2 := HPE.out
            rw [HFAR.out, HEN.out, henL.out, HPT.out] at h2
            obtain ⟨n', rfl⟩ : ∃ n', n = n' + 1 := ⟨n - 1, by omega⟩
            unfold Hid
            rw [h1, behindF, if_neg (by omega), ← h2.1, ← h2.2, HSE.out, kindE_at hji]
            rfl
          by_cases hK : js[ji].kind = 2
          · have hkb : (js[ji].kind != 2) = false := by simp [hK]
            rw [if_pos hK] at HX1
            have hel : js[ji].ends.length = 2 := by omega
            obtain ⟨b4, off4, rfl, hec⟩ := C4.out.2.resolve_left (fun h => by rw [h] at hki; exact absurd hki (Nat.not_lt_zero _))
            have hk01 : ki = 0 ∨ ki = 1 := by omega
            have hcase : ∃ kk : Nat, kk < 2 ∧ 1 - ki = kk ∧ ((1 : Int) - (ki : Int)) = (kk : Int) := ⟨1 - ki, by omega, rfl, by omega⟩
            obtain ⟨kk, hkk1, hkk2, hkk3⟩ := hcase
            have hkl : kk < js[ji].ends.length := by omega
            obtain ⟨d0, d1⟩ := hec kk hkl
            obtain ⟨p', hp', he1, he2⟩ := R.out.ends ji hji kk hkl
            obtain ⟨hM1, hM2⟩ := R.out.plen p' hp'
            have HEE : Hid (endE js ji (1 - ki) = js[ji].ends[kk]) := by unfold Hid; rw [hkk2, endE_at hji hkl]
            rw [he1] at d0
            have hzz4 := cellLt d0
            have hel' : (js[ji].ends.length : Int) = 2 := by omega
            have HLN : Hid ((acc ++ [pt]).length = acc.length + 1) := by unfold Hid; simp
            have HKK := hidP hkk3
            clear hec hkk2 hkk1 HPT HPE HEN
            rcases he2 with hs | hs
            · rw [hs] at d1
              have HST : Hid (stepFromE (endE js ji (1 - ki)) = ⟨p', 1⟩ ∧ endAt ps (endE js ji (1 - ki)) = 0) := by
                unfold Hid
                rw [HEE.out]
                unfold stepFromE endAt
                rw [if_pos hs, if_pos hs, he1]
                exact ⟨rfl, rfl⟩
              clear he1 hs
              go_wp2_with fail
              go_roundw
              case rel =>
                refine ⟨p', hp', 1, 0, lf - (ps[p].len - far), n - 1, acc ++ [pt], x', y', by first | rfl | go_num, rfl, by simp [farI], rfl, by rw [HLN.out], Or.inl rfl, ⟨by omega, by omega, by simp only [farI, if_true]; omega, by simp [farI]⟩, by omega, ?_, by omega, by rw [HLN.out]; exact HO7.out.alloc _, ?_, (by repeat (first | exact Below.refl _ _ | assumption | refine Below.drew ?_ | refine bdrewN ?_ _ | refine Below.setCell ?_ (by first | omega | (simp; done) | (simp; omega)) _ | refine Below.alloc ?_ (by first | omega | (simp; done) | (simp; omega)) _))⟩
                · rw [HLN.out]; omega
                · have h := HX1.out
                  rw [HST.out.1, HST.out.2] at h
                  unfold Hid
                  rw [h, List.append_assoc]
              case measure => simp [intOf]; omega
            · rw [hs] at d1
              have HST : Hid (stepFromE (endE js ji (1 - ki)) = ⟨p', -1⟩ ∧ endAt ps (endE js ji (1 - ki)) = ps[p'].len) := by
                unfold Hid
                rw [HEE.out]
                unfold stepFromE endAt
                rw [if_neg (by rw [hs]; omega), if_neg (by rw [hs]; omega), he1, lenI_at hp']
                exact ⟨rfl, rfl⟩
              clear he1 hs
              go_wp2_with fail
              go_roundw
              case rel =>
                refine ⟨p', hp', -1, ps[p'].len, lf - (ps[p].len - far), n - 1, acc ++ [pt], x', y', by first | rfl | go_num, rfl, by simp [farI, lenI_at hp'], rfl, by rw [HLN.out], Or.inr rfl, ⟨by omega, by omega, by simp [farI, lenI_at hp']; omega, by simp [farI, lenI_at hp']⟩, by omega, ?_, by omega, by rw [HLN.out]; exact HO7.out.alloc _, ?_, (by repeat (first | exact Below.refl _ _ | assumption | refine Below.drew ?_ | refine bdrewN ?_ _ | refine Below.setCell ?_ (by first | omega | (simp; done) | (simp; omega)) _ | refine Below.alloc ?_ (by first | omega | (simp; done) | (simp; omega)) _))⟩
                · rw [HLN.out]; omega
                · have h := HX1.out
                  rw [HST.out.1, HST.out.2] at h
                  unfold Hid
                  rw [h, List.append_assoc]
              case measure => simp [intOf]; omega
          · have hkb : (js[ji].kind != 2) = true := by simp [hK]
            rw [if_neg hK, List.append_nil] at HX1
            obtain rfl := HX1.out
            clear hK
            go_wp2_with fail
            go_ret
            exact ⟨x', y', by simp, by simpa using HO7.out, hb7⟩
      · have henL : Hid (en = far + lf) := by have := HEN.out; unfold Hid; omega
        go_wp2_with fail
        refine (l2part_any _ _ _ _ _ ps p way far (far + lf) _ (HF2.out.P.below (by repeat (first | exact Below.refl _ _ | assumption | refine Below.drew ?_ | refine bdrewN ?_ _ | refine Below.setCell ?_ (by first | omega | (simp; done) | (simp; omega)) _ | refine Below.alloc ?_ (by first | omega | (simp; done) | (simp; omega)) _))) hp ⟨hL1, hL2⟩ (by omega) (by omega) (by omega) (by omega)).mono ?_
        rintro e w2 ⟨rfl, hb2⟩
        obtain ⟨pt, hpt⟩ : ∃ pt, specPart ps p way far (far + lf) = pt := ⟨_, rfl⟩
        rw [hpt]
        have HPT := hidP hpt
        have HO2 := hidP (owns_below HO.out hb2)
        have hb3 := hb.trans (hb2.mono hb.size)
        have hbs3 := hb3.size
        have g0 := cell_later hb2 f0
        have g1 := cell_later hb2 f1
        have hzz := hb2.size
        unfold partV
        clear hpt hb2 q2 f0 f1
        go_wp2_with (at_builtin; refine wpList_push rfl (.tmp 47) (.tmp 57) 39 rfl w.heap.size 44 _ 3 24 Try.underlying39 Try.infoPart rfl (by decide) (.slice x acc.length y) acc.length (flatP acc) rfl HO2.out w2.heap.size rfl [.int .i64 pt.piece, .int .i64 pt.lo, .int .i64 pt.hi] rfl rfl (by simp [Value.oneCell']) (by unfold maxLen; omega) (by omega) (by omega) ?_; intro x' y' w3 ho3 hg3; rw [flatP_push] at ho3; have HO3 := hidP ho3; have hb4 := push_below hb3 HO2.out hg3 (by omega); have HBX := hidP hg3; clear ho3 hg3)
        have hneF : some F ≠ (Value.slice x acc.length y).ownBlock := fun e => by have := (HO2.out.lt F e.symm).1; omega
        have k0 := HBX.out.cell g0 hneF
        have k1 := HBX.out.cell g1 hneF
        have hbs4 := hb4.size
        have hFz4 : F < w3.heap.size := by omega
        have HF4 := hidP (hF.out.below hb4)
        clear hneF HBX g0 g1 hb3 hbs3 HO2 HF2
        obtain ⟨ji, ki, hsp, hse⟩ := R.out.spot (aheadE_valid (ps := ps) (s := ⟨p, way⟩) ⟨p, hp, rfl, HW.out⟩)
        have HSP := hidP hsp
        have HSE := hidP hse
        clear hsp hse
        go_region_held3 (fun w' => w'.cell? ⟨F, 0, none⟩ = some (.slice (some ⟨b1, off1, none⟩) ps.length pc) ∧ w'.cell? ⟨F, 1, none⟩ = some (.slice ja js.length jc)) (first | go_keep | (refine ⟨?_, ?_⟩ <;> assumption))
          (first
            | (go_at_call 106; refine (l2head_any p way _).mono ?_; rintro e w5 ⟨rfl, hb5⟩; have hb35 : Below w3.heap.size w3 w5 := (Below.refl _ _).drew.trans hb5; replace k0 := cell_later hb35 k0; replace k1 := cell_later hb35 k1; have HB5 := hidP hb35; clear hb5 hb35)
            | (go_at_call 105; refine (l1at_any _ _ _ _ _ js _ ji ki _ (HF4.out.J.below HB5.out) HSP).mono ?_; rintro e w6 ⟨rfl, hb6⟩; replace k0 := cell_later hb6 k0; replace k1 := cell_later hb6 k1; have HB6 := hidP (HB5.out.trans (hb6.mono HB5.out.size)); clear hb6))
        all_goals
          have hb7 := hb4.trans (HB6.out.mono hb4.size)
          have HO7 := hidP (owns_below HO3.out HB6.out)
          have HF7 := hidP (HF4.out.below HB6.out)
          have hbs7 := hb7.size
          have hFz7 : F < w6.heap.size := by omega
          clear HB5 HB6 HF4 HO3 hb4
          have HX : Hid (tot = acc ++ [pt]) := by
            have h1 := HT.out
            have h2 := HPE.out
            rw [HFAR.out, HEN.out, henL.out, HPT.out] at h2
            obtain ⟨n', rfl⟩ : ∃ n', n = n' + 1 := ⟨n - 1, by omega⟩
            rw [h1, behindF, if_neg (by omega), ← h2.1, ← h2.2]
            congr 2
            split
            · exact behindF_0 (by omega)
            · rfl
          have hll : lf - (far + lf - far) = 0 := by omega
          rw [hll]
          obtain rfl := HX.out
          go_wp2_with fail
          go_ret
          exact ⟨x', y', by simp, by simpa using HO7.out, hb7⟩
    · have HX : Hid (tot = acc) := by have := HT.out; rw [behindF_0 (by omega), List.append_nil] at this; exact this
      obtain rfl := HX.out
      go_wp2_with fail
      go_ret
      exact ⟨x, y, rfl, HO.out, hb⟩

end Go.Proofs.Ytmkdgnmmebldgaa

namespace Go.Proofs.Ytmkdgnmmebldgaa
open Go.RowKit Go.Deep

/-! Looking for flanks, as plain mathematics. -/

theorem guardB_range (ss : List MPiece) (p way : Int) : ∀ k, k ≤ ss.length → guardB ss p way k = -1 ∨ ∃ (b : Nat) (hb : b < ss.length), b < k ∧ guardB ss p way k = b ∧ ss[b].len = p ∧ ss[b].brake = way
  | 0, _ => Or.inl rfl
  | k + 1, h => by
    have hk : k < ss.length := by omega
    have ih := guardB_range ss p way k (by omega)
    have ih' : guardB ss p way k = -1 ∨ ∃ (b : Nat) (hb : b < ss.length), b < k + 1 ∧ guardB ss p way k = b ∧ ss[b].len = p ∧ ss[b].brake = way := by
      rcases ih with ih | ⟨b, h1, h2, h3⟩
      · exact Or.inl ih
      · exact Or.inr ⟨b, h1, by omega, h3⟩
    simp only [guardB, List.getElem?_eq_getElem hk]
    split
    · exact ih'
    · split
      · rename_i h1 _
        refine Or.inr ⟨k, hk, by omega, rfl, ?_⟩
        constructor
        · by_cases e : ss[k].len = p
          · exact e
          · exact absurd (Or.inl e) h1
        · by_cases e : ss[k].brake = way
          · exact e
          · exact absurd (Or.inr e) h1
      · exact ih'

section
variable {ss : List MPiece} {p way : Int} {k : Nat}
theorem guardB_skip (hk : k < ss.length) (h : ss[k].len ≠ p ∨ ss[k].brake ≠ way) : guardB ss p way (k + 1) = guardB ss p way k := by
  simp only [guardB, List.getElem?_eq_getElem hk, if_pos h]
theorem guardB_take (hk : k < ss.length) (h : ¬ (ss[k].len ≠ p ∨ ss[k].brake ≠ way)) (h2 : guardB ss p way k < 0 ∨ 0 < (ss[k].speed - sigAt ss (guardB ss p way k)) * way) : guardB ss p way (k + 1) = k := by
  simp only [guardB, List.getElem?_eq_getElem hk, if_neg h, if_pos h2]
theorem guardB_leave (hk : k < ss.length) (h : ¬ (ss[k].len ≠ p ∨ ss[k].brake ≠ way)) (h2 : ¬ (guardB ss p way k < 0 ∨ 0 < (ss[k].speed - sigAt ss (guardB ss p way k)) * way)) : guardB ss p way (k + 1) = guardB ss p way k := by
  simp only [guardB, List.getElem?_eq_getElem hk, if_neg h, if_neg h2]
theorem farI_gt {ps : List MPiece} {q : Int} (h : way = 1 ∨ way = -1) {a b : Int} : farI ps q b way < farI ps q a way ↔ 0 < (a - b) * way := by
  unfold farI
  rcases h with rfl | rfl
  · first | (simp; done) | (simp; omega)
  · first | (simp; done) | (simp; omega)
end

/-- Numbers that differ and lie below a bound are no more than it. -/
theorem nats_few : ∀ (m : Nat) {L : List Nat}, L.Nodup → (∀ x ∈ L, x < m) → L.length ≤ m
  | 0, L, _, h => by
    cases L with
    | nil => exact Nat.le_refl _
    | cons a r => exact absurd (h a (by simp)) (Nat.not_lt_zero _)
  | m + 1, L, hd, h => by
    by_cases hm : m ∈ L
    · have h1 := nats_few m (hd.erase m) (fun x hx => by
        have := (hd.mem_erase_iff).1 hx
        have := h x this.2
        omega)
      rw [List.length_erase_of_mem hm] at h1
      omega
    · have := nats_few m hd (fun x hx => by
        have := h x hx
        have : x ≠ m := fun e => hm (e ▸ hx)
        omega)
      omega

/-- Ends that differ are at most two for each piece. -/
def Seen (ps : List MPiece) (L : List MEnd) : Prop := L.Nodup ∧ ∀ e ∈ L, ValidE ps e

theorem Seen.few {ps : List MPiece} {L : List MEnd} (h : Seen ps L) : L.length ≤ 2 * ps.length := by
  have h1 : (L.map (fun e => 2 * e.piece.toNat + e.side.toNat)).Nodup := by
    unfold List.Nodup
    rw [List.pairwise_map]
    refine List.Pairwise.imp_of_mem ?_ h.1
    intro a b ha hb hne e
    obtain ⟨p, hp, ea, sa⟩ := h.2 a ha
    obtain ⟨q, hq, eb, sb⟩ := h.2 b hb
    refine hne ?_
    cases a
    cases b
    simp only [MEnd.mk.injEq] at *
    subst ea eb
    simp only [Int.toNat_natCast] at e
    rcases sa with rfl | rfl <;> rcases sb with rfl | rfl <;> simp at e ⊢ <;> omega
  have := nats_few (2 * ps.length) h1 (fun x hx => by
    obtain ⟨e, he, rfl⟩ := List.mem_map.1 hx
    obtain ⟨p, hp, ea, sa⟩ := h.2 e he
    rw [ea]
    rcases sa with sa | sa <;> rw [sa] <;> simp <;> omega)
  simpa using this

theorem Seen.nil (ps : List MPiece) : Seen ps [] := ⟨List.nodup_nil, fun e he => absurd he (by simp)⟩
theorem Seen.push {ps : List MPiece} {L : List MEnd} {e : MEnd} (h : Seen ps L) (hv : ValidE ps e) (hn : ¬ L.any (fun x => sameE x e) = true) : Seen ps (L ++ [e]) := by
  refine ⟨?_, ?_⟩
  · unfold List.Nodup
    rw [List.pairwise_append]
    refine ⟨h.1, List.pairwise_singleton _ _, ?_⟩
    intro a ha b hb
    have : b = e := by simpa using hb
    subst this
    rintro rfl
    exact hn (List.any_eq_true.2 ⟨a, ha, sameE_iff.2 rfl⟩)
  · intro x hx
    rcases List.mem_append.1 hx with hx | hx
    · exact h.2 x hx
    · have : x = e := by simpa using hx
      subst this
      exact hv

theorem beyond_lt {kind : Int} {k t n : Nat} (hn : (n : Int) = kind) (hk : k < n) (ht : t ∈ beyondF kind k) : t < n := by
  unfold beyondF at ht
  split at ht
  · have : t = 1 - k := by simpa using ht
    omega
  · split at ht
    · split at ht
      · have : t = 1 ∨ t = 2 := by simpa using ht
        omega
      · have : t = 0 := by simpa using ht
        omega
    · split at ht
      · have : t = if k = 0 then 1 else if k = 1 then 0 else if k = 2 then 3 else 2 := by simpa using ht
        subst this
        split
        · omega
        · split
          · omega
          · split <;> omega
      · exact absurd ht (by simp)

/-- What a look leaves: ends that differ, no fewer of them, and no more flanks found than ends seen. -/
def Grew (ps : List MPiece) (a b : List MEnd × List MFlank) : Prop := Seen ps b.1 ∧ a.1.length ≤ b.1.length ∧ b.2.length + a.1.length ≤ a.2.length + b.1.length

theorem Grew.refl {ps : List MPiece} {a : List MEnd × List MFlank} (h : Seen ps a.1) : Grew ps a a := ⟨h, Nat.le_refl _, Nat.le_refl _⟩
theorem Grew.trans {ps : List MPiece} {a b c : List MEnd × List MFlank} (h : Grew ps a b) (k : Grew ps b c) : Grew ps a c :=
  ⟨k.1, Nat.le_trans h.2.1 k.2.1, by have := h.2.2; have := k.2.2; have := h.2.1; have := k.2.1; omega⟩

theorem Grew.fold {ps : List MPiece} {f : List MEnd × List MFlank → Nat → List MEnd × List MFlank} : ∀ (L : List Nat) {a : List MEnd × List MFlank}, Seen ps a.1 → (∀ t ∈ L, ∀ s, Seen ps s.1 → Grew ps s (f s t)) → Grew ps a (L.foldl f a)
  | [], _, ha, _ => Grew.refl ha
  | t :: r, a, ha, h => by
    have h1 := h t (by simp) a ha
    exact h1.trans (Grew.fold r h1.1 (fun t' ht s hs => h t' (by simp [ht]) s hs))

theorem Right.across {ps : List MPiece} {js : List MJoint} {ss : List MPiece} (R : Right ps js ss) {e : MEnd} (he : ValidE ps e) {t : Nat} (ht : t ∈ beyondF (kindE js (spotE js e).1) (spotE js e).2) : ValidE ps (endE js (spotE js e).1 t) := by
  obtain ⟨j, k, h1, h2⟩ := R.spot he
  rw [h2] at ht ⊢
  obtain ⟨_, hj, hk, _⟩ := spotF_some h1
  simp only [Nat.sub_zero] at hj hk
  rw [kindE_at hj] at ht
  have hl := beyond_lt (R.kind j hj).2.2 hk ht
  rw [endE_at hj hl]
  exact R.ends j hj t hl

theorem look_grew {ps : List MPiece} {js : List MJoint} {ss : List MPiece} (R : Right ps js ss) (lies : List MLie) (pl : Int) : ∀ (n : Nat) (st : List MEnd × List MFlank) (e : MEnd), Seen ps st.1 → ValidE ps e → Grew ps st (lookF js ss lies pl n st e)
  | 0, st, e, h, _ => Grew.refl h
  | n + 1, st, e, h, hv => by
    simp only [lookF]
    generalize (if e.side = 0 then (-1 : Int) else 1) = wy
    split
    · exact Grew.refl h
    · rename_i hn
      have h1 := h.push hv hn
      have hg : ∀ x : MFlank, Grew ps st (st.1 ++ [e], st.2 ++ [x]) := fun x => ⟨h1, by simp, by simp; omega⟩
      split
      · exact hg _
      · split
        · exact hg _
        · split
          · exact hg _
          · refine Grew.trans (b := (st.1 ++ [e], st.2)) ⟨h1, by simp, by simp⟩ ?_
            exact Grew.fold (a := (st.1 ++ [e], st.2)) _ h1 (fun t ht s hs => look_grew R lies pl n s _ hs (R.across (farE_valid hv) ht))

end Go.Proofs.Ytmkdgnmmebldgaa

namespace Go.Proofs.Ytmkdgnmmebldgaa
open Go.RowKit Go.Deep

/-! What is found for one Lie stands behind what was found for those ahead of it. -/

theorem fold_app {f : List MEnd × List MFlank → Nat → List MEnd × List MFlank} (h : ∀ s fs t, f (s, fs) t = ((f (s, []) t).1, fs ++ (f (s, []) t).2)) : ∀ (L : List Nat) (s : List MEnd) (fs : List MFlank), L.foldl f (s, fs) = ((L.foldl f (s, [])).1, fs ++ (L.foldl f (s, [])).2)
  | [], s, fs => by simp
  | t :: r, s, fs => by
    simp only [List.foldl_cons]
    rw [h s fs t, fold_app h r _ (fs ++ (f (s, []) t).2)]
    have e : f (s, []) t = ((f (s, []) t).1, (f (s, []) t).2) := rfl
    rw [e, fold_app h r _ (f (s, []) t).2, List.append_assoc]

theorem look_app (js : List MJoint) (ss : List MPiece) (lies : List MLie) (pl : Int) : ∀ (n : Nat) (s : List MEnd) (fs : List MFlank) (e : MEnd), lookF js ss lies pl n (s, fs) e = ((lookF js ss lies pl n (s, []) e).1, fs ++ (lookF js ss lies pl n (s, []) e).2)
  | 0, s, fs, e => by simp [lookF]
  | n + 1, s, fs, e => by
    simp only [lookF]
    generalize (if e.side = 0 then (-1 : Int) else 1) = wy
    split
    · simp
    · split
      · simp
      · split
        · simp
        · split
          · simp
          · exact fold_app (fun s fs t => look_app js ss lies pl n s fs _) _ _ _

theorem flanksF_snoc (ps : List MPiece) (js : List MJoint) (ss : List MPiece) (lies : List MLie) : ∀ (L : List MLie) (l : MLie), flanksF ps js ss lies (L ++ [l]) = flanksF ps js ss lies L ++ (lookF js ss lies l.piece (depthR ps) ([], []) (endE js l.piece.toNat (3 - l.side).toNat)).2
  | [], l => by simp [flanksF]
  | x :: r, l => by
    show _ ++ flanksF ps js ss lies (r ++ [l]) = _
    rw [flanksF_snoc ps js ss lies r l]
    show _ = (_ ++ flanksF ps js ss lies r) ++ _
    rw [List.append_assoc]

/-- One more Lie of a route: what stands at the end of its look, the flanks of those ahead of it standing there. -/
theorem look_next (ps : List MPiece) (js : List MJoint) (ss : List MPiece) (lies : List MLie) (k : Nat) (hk : k < lies.length) :
    (lookF js ss lies lies[k].piece (depthR ps) ([], flanksF ps js ss lies (lies.take k)) (endE js lies[k].piece.toNat (3 - lies[k].side).toNat)).2 = flanksF ps js ss lies (lies.take (k + 1)) := by
  rw [look_app, List.take_succ_eq_append_getElem hk, flanksF_snoc]

/-- No more flanks than ends that were looked from, two for each piece and Lie. -/
theorem flanksF_len {ps : List MPiece} {js : List MJoint} {ss : List MPiece} (R : Right ps js ss) (lies : List MLie) : ∀ (L : List MLie), (∀ l ∈ L, ValidE ps (endE js l.piece.toNat (3 - l.side).toNat)) → (flanksF ps js ss lies L).length ≤ 2 * ps.length * L.length
  | [], _ => by simp [flanksF]
  | l :: r, h => by
    have h1 := look_grew R lies l.piece (depthR ps) ([], []) _ (Seen.nil ps) (h l (by simp))
    have h2 := flanksF_len R lies r (fun x hx => h x (by simp [hx]))
    have h3 := h1.1.few
    have h4 := h1.2.2
    simp only [List.length_nil, Nat.add_zero, Nat.zero_add] at h4
    show ((lookF js ss lies l.piece (depthR ps) ([], []) (endE js l.piece.toNat (3 - l.side).toNat)).2 ++ flanksF ps js ss lies r).length ≤ _
    rw [List.length_append, List.length_cons, Nat.mul_add, Nat.mul_one]
    omega

end Go.Proofs.Ytmkdgnmmebldgaa

namespace Go.Proofs.Ytmkdgnmmebldgaa
open Go.RowKit Go.Deep

/-- What stands fast while a look goes on: the track in blocks of an older world, the finder's block F, the route's block Q, the Lies apart from both. -/
structure LB (w0 : World) (B F Q : Nat) (pa ja sa la : Option Addr) (ps : List MPiece) (js : List MJoint) (ss : List MPiece) (lies : List MLie) : Prop where
  P : PiecesAt w0 pa ps
  J : JointsAt w0 ja js
  S : PiecesAt w0 sa ss
  f0 : w0.heap.size ≤ F
  q0 : w0.heap.size ≤ Q
  f1 : F < B
  q1 : Q < B
  fq : F ≠ Q
  la : lies = [] ∨ ∀ b off, la = some ⟨b, off, none⟩ → b < B ∧ b ≠ F ∧ b ≠ Q
  ln : lies.length ≤ 1000
  lu : ∀ a ∈ lies, ∀ b ∈ lies, a.piece = b.piece → a.side = b.side

/-- What a look finds and leaves. -/
structure LK (w0 w : World) (B F Q : Nat) (pa ja sa la : Option Addr) (pc jc sc lc : Nat) (np nj ns : Nat) (lies : List MLie) (xs : Option Addr) (ys : Nat) (xf : Option Addr) (yf : Nat) (st : List MEnd × List MFlank) : Prop where
  base : Below w0.heap.size w0 w
  bz : B ≤ w.heap.size
  c0 : w.cell? ⟨F, 0, none⟩ = some (.slice pa np pc)
  c1 : w.cell? ⟨F, 1, none⟩ = some (.slice ja nj jc)
  c2 : w.cell? ⟨F, 2, none⟩ = some (.slice sa ns sc)
  q3 : w.cell? ⟨Q, 3, none⟩ = some (.slice la lies.length lc)
  L : EndsAt w la lies
  s6 : w.cell? ⟨F, 6, none⟩ = some (.slice xs st.1.length ys)
  z6 : w.frozen? ⟨F, 6, none⟩ = false
  f7 : w.cell? ⟨Q, 7, none⟩ = some (.slice xf st.2.length yf)
  z7 : w.frozen? ⟨Q, 7, none⟩ = false
  oS : w.ownsRow B 139 2 (.slice xs st.1.length ys) st.1.length (flatE st.1)
  oF : w.ownsRow B 57 4 (.slice xf st.2.length yf) st.2.length (flatF st.2)

def LKS (B F Q : Nat) (k : Nat) : Prop := k = F ∨ k = Q ∨ B ≤ k
/-- The blocks that a look may turn: the finder's, the route's, those of its two rows. -/
def LKR (F Q : Nat) (vs vf : Value) (k : Nat) : Prop := k = F ∨ k = Q ∨ vs.ownBlock = some k ∨ vf.ownBlock = some k
/-- A row that has grown lies where it lay, or in a new block. -/
def Tame (w : World) (v v' : Value) : Prop := ∀ b, v'.ownBlock = some b → v.ownBlock = some b ∨ w.heap.size ≤ b
theorem Tame.refl (w : World) (v : Value) : Tame w v v := fun _ h => Or.inl h
theorem Tame.trans {w w' : World} {a b c : Value} (h : Tame w a b) (k : Tame w' b c) (hz : w.heap.size ≤ w'.heap.size) : Tame w a c := fun x hx => by
  rcases k x hx with h1 | h1
  · exact h x h1
  · exact Or.inr (Nat.le_trans hz h1)
theorem Tame.later {w w' : World} {a b : Value} (h : Tame w' a b) (hz : w.heap.size ≤ w'.heap.size) : Tame w a b := fun x hx => (h x hx).imp id (fun h1 => Nat.le_trans hz h1)
/-- The other cells of a block stay. -/
def KeptBut (b o : Nat) (w w' : World) : Prop := ∀ o', o' ≠ o → w'.cell? ⟨b, o', none⟩ = w.cell? ⟨b, o', none⟩ ∧ w'.frozen? ⟨b, o', none⟩ = w.frozen? ⟨b, o', none⟩
theorem KeptBut.trans {b o : Nat} {u v w : World} (h : KeptBut b o u v) (k : KeptBut b o v w) : KeptBut b o u w := fun o' ho => ⟨(k o' ho).1.trans (h o' ho).1, (k o' ho).2.trans (h o' ho).2⟩
theorem KeptBut.of_block {b o : Nat} {w w' : World} (e : w'.heap[b]? = w.heap[b]?) : KeptBut b o w w' := fun _ _ => ⟨World.cell?_of_block (w := w) e, World.frozen?_of_block e⟩
/-- What a look turns: its two cells, and its rows. -/
structure Turn (F Q : Nat) (vs vf : Value) (w w' : World) : Prop where
  only : Only (LKR F Q vs vf) w w'
  kF : KeptBut F 6 w w'
  kQ : KeptBut Q 7 w w'
  f : F < w.heap.size
  q : Q < w.heap.size
theorem Turn.size {F Q : Nat} {vs vf : Value} {w w' : World} (h : Turn F Q vs vf w w') : w.heap.size ≤ w'.heap.size := h.only.size
theorem Turn.of_below {F Q : Nat} {vs vf : Value} {w w' : World} (h : Below w.heap.size w w') (hF : F < w.heap.size) (hQ : Q < w.heap.size) : Turn F Q vs vf w w' :=
  ⟨Only.of_below h, KeptBut.of_block (h.block F hF), KeptBut.of_block (h.block Q hQ), hF, hQ⟩
theorem Turn.later {F Q : Nat} {vs vf : Value} {a b c : World} (h : Turn F Q vs vf a b) (k : Below b.heap.size b c) : Turn F Q vs vf a c :=
  ⟨h.only.trans (Only.of_below k), h.kF.trans (KeptBut.of_block (k.block F (Nat.lt_of_lt_of_le h.f h.size))), h.kQ.trans (KeptBut.of_block (k.block Q (Nat.lt_of_lt_of_le h.q h.size))), h.f, h.q⟩
theorem LKR.trans {F Q : Nat} {vs vf vs1 vf1 : Value} {w w1 w2 : World} (h : Turn F Q vs vf w w1) (t1 : Tame w vs vs1) (t2 : Tame w vf vf1) (k : Turn F Q vs1 vf1 w1 w2) : Turn F Q vs vf w w2 :=
  ⟨⟨k.only.os.trans h.only.os, k.only.tape.trans h.only.tape, k.only.output.trans h.only.output, Nat.le_trans h.size k.size, fun b hb hn => (k.only.block b (Nat.lt_of_lt_of_le hb h.size) (fun hs => by
    rcases hs with hs | hs | hs | hs
    · exact hn (Or.inl hs)
    · exact hn (Or.inr (Or.inl hs))
    · rcases t1 b hs with h1 | h1
      · exact hn (Or.inr (Or.inr (Or.inl h1)))
      · omega
    · rcases t2 b hs with h1 | h1
      · exact hn (Or.inr (Or.inr (Or.inr h1)))
      · omega)).trans (h.only.block b hb hn)⟩, h.kF.trans k.kF, h.kQ.trans k.kQ, h.f, h.q⟩

section
variable {w0 w w' : World} {B F Q : Nat} {pa ja sa la : Option Addr} {pc jc sc lc np nj ns : Nat} {ps : List MPiece} {js : List MJoint} {ss : List MPiece} {lies : List MLie} {xs : Option Addr} {ys : Nat} {xf : Option Addr} {yf : Nat} {st : List MEnd × List MFlank}

theorem LK.below (h : LK w0 w B F Q pa ja sa la pc jc sc lc np nj ns lies xs ys xf yf st) (hb : Below w.heap.size w w') : LK w0 w' B F Q pa ja sa la pc jc sc lc np nj ns lies xs ys xf yf st :=
  ⟨h.base.trans (hb.mono h.base.size), Nat.le_trans h.bz hb.size, cell_later hb h.c0, cell_later hb h.c1, cell_later hb h.c2, cell_later hb h.q3, h.L.below hb, cell_later hb h.s6, (hb.frozen (p := ⟨F, 6, none⟩) (cellLt h.s6)).trans h.z6, cell_later hb h.f7, (hb.frozen (p := ⟨Q, 7, none⟩) (cellLt h.f7)).trans h.z7, owns_below h.oS hb, owns_below h.oF hb⟩

theorem LK.pushS (b0 : LB w0 B F Q pa ja sa la ps js ss lies) (h : LK w0 w B F Q pa ja sa la pc jc sc lc np nj ns lies xs ys xf yf st) {e : MEnd} {x' : Option Addr} {y' : Nat} {w2 : World} (hg : w.grownBy w2 (Value.slice xs st.1.length ys).ownBlock)
    (ho : w2.ownsRow B 139 2 (.slice x' (st.1.length + 1) y') (st.1.length + 1) (flatE (st.1 ++ [e]))) :
    LK w0 (w2.setCell ⟨F, 6, none⟩ (.slice x' (st.1.length + 1) y')) B F Q pa ja sa la pc jc sc lc np nj ns lies x' y' xf yf (st.1 ++ [e], st.2) ∧ Turn F Q (.slice xs st.1.length ys) (.slice xf st.2.length yf) w (w2.setCell ⟨F, 6, none⟩ (.slice x' (st.1.length + 1) y')) := by
  have hlt := fun k e => (h.oS.lt k e).1
  have nF : some F ≠ (Value.slice xs st.1.length ys).ownBlock := fun e => by have := hlt F e.symm; have := b0.f1; omega
  have nQ : some Q ≠ (Value.slice xs st.1.length ys).ownBlock := fun e => by have := hlt Q e.symm; have := b0.q1; omega
  have el : (st.1 ++ [e]).length = st.1.length + 1 := by simp
  have cF : ∀ {o : Nat} {v : Value}, o ≠ 6 → w.cell? ⟨F, o, none⟩ = some v → (w2.setCell ⟨F, 6, none⟩ (.slice x' (st.1.length + 1) y')).cell? ⟨F, o, none⟩ = some v := by
    intro o v ho6 hc
    rw [World.cell?_setCell_other _ _ _ _ (by first | (simp; done) | (simp; omega)), hg.cell_far _ (cellLt hc) nF]
    exact hc
  have cQ : ∀ {o : Nat} {v : Value}, w.cell? ⟨Q, o, none⟩ = some v → (w2.setCell ⟨F, 6, none⟩ (.slice x' (st.1.length + 1) y')).cell? ⟨Q, o, none⟩ = some v := by
    intro o v hc
    rw [World.cell?_setCell_other _ _ _ _ (by have := b0.fq; first | (simp; done) | (simp; omega) | (simp_all; done) | (simp_all; omega)), hg.cell_far _ (cellLt hc) nQ]
    exact hc
  have ho' : Only (LKS B F Q) w (w2.setCell ⟨F, 6, none⟩ (.slice x' (st.1.length + 1) y')) := Only.setCell (S := LKS B F Q) (Only.of_grown (S := LKS B F Q) hg (fun k e => Or.inr (Or.inr (hlt k e)))) (p := ⟨F, 6, none⟩) (Or.inl (Or.inl rfl)) _
  have g6 : w2.cell? ⟨F, 6, none⟩ = some (.slice xs st.1.length ys) := by rw [hg.cell_far _ (cellLt h.s6) nF]; exact h.s6
  have hd : (Value.slice xf st.2.length yf).ownBlock = none ∨ (Value.slice xf st.2.length yf).ownBlock ≠ (Value.slice xs st.1.length ys).ownBlock := owns_ne (by decide) h.oF h.oS
  refine ⟨⟨?_, ?_, cF (by omega) h.c0, cF (by omega) h.c1, cF (by omega) h.c2, cQ h.q3, ?_, ?_, ?_, cQ h.f7, ?_, ?_, ?_⟩, ⟨Only.setCell (S := LKR F Q (.slice xs st.1.length ys) (.slice xf st.2.length yf)) (Only.of_grown (S := LKR F Q (.slice xs st.1.length ys) (.slice xf st.2.length yf)) hg (fun k e => Or.inr (Or.inr (Or.inl e)))) (p := ⟨F, 6, none⟩) (Or.inl (Or.inl rfl)) _, fun o ho6 => ⟨by rw [World.cell?_setCell_other _ _ _ _ (by first | (simp; done) | (simp; omega))]; exact World.cell?_of_block (w := w) (hg.block F (cellLt h.s6) (fun e => nF e)), by rw [World.frozen?_setCell]; exact World.frozen?_of_block (hg.block F (cellLt h.s6) (fun e => nF e))⟩, KeptBut.of_block (by rw [Below.heap_setCell _ _ _ _ (fun e => b0.fq (by simpa using e.symm))]; exact hg.block Q (cellLt h.f7) (fun e => nQ e)), cellLt h.s6, cellLt h.f7⟩⟩
  · exact h.base.trans (ho'.below h.base.size (fun k hk hs => by have := b0.f0; have := b0.q0; have := b0.f1; rcases hs with hs | hs | hs <;> omega))
  · exact Nat.le_trans h.bz ho'.size
  · refine h.L.kept ?_
    rcases b0.la with hl | hl
    · exact Or.inl hl
    · rcases h.L.2 with h3 | ⟨b, off, h3, h4⟩
      · exact Or.inl h3
      · refine Or.inr (fun b' off' e => ?_)
        rw [h3] at e
        cases e
        have := hl b off h3
        by_cases hbz : b < w.heap.size
        · exact ho'.block b hbz (by rintro (hs | hs | hs) <;> omega)
        · have := h.bz
          omega
  · simp only [el]
    exact World.cell?_setCell_same _ _ _ g6
  · rw [World.frozen?_setCell, hg.frozen_far _ (cellLt h.s6) nF]
    exact h.z6
  · rw [World.frozen?_setCell, hg.frozen_far _ (cellLt h.f7) nQ]
    exact h.z7
  · simp only [el]
    exact ownsRow_setCell_below ho b0.f1 _
  · exact ownsRow_setCell_below (h.oF.kept hg hd) b0.f1 _

theorem LK.pushF (b0 : LB w0 B F Q pa ja sa la ps js ss lies) (h : LK w0 w B F Q pa ja sa la pc jc sc lc np nj ns lies xs ys xf yf st) {e : MFlank} {x' : Option Addr} {y' : Nat} {w2 : World} (hg : w.grownBy w2 (Value.slice xf st.2.length yf).ownBlock)
    (ho : w2.ownsRow B 57 4 (.slice x' (st.2.length + 1) y') (st.2.length + 1) (flatF (st.2 ++ [e]))) :
    LK w0 (w2.setCell ⟨Q, 7, none⟩ (.slice x' (st.2.length + 1) y')) B F Q pa ja sa la pc jc sc lc np nj ns lies xs ys x' y' (st.1, st.2 ++ [e]) ∧ Turn F Q (.slice xs st.1.length ys) (.slice xf st.2.length yf) w (w2.setCell ⟨Q, 7, none⟩ (.slice x' (st.2.length + 1) y')) := by
  have hlt := fun k e => (h.oF.lt k e).1
  have nF : some F ≠ (Value.slice xf st.2.length yf).ownBlock := fun e => by have := hlt F e.symm; have := b0.f1; omega
  have nQ : some Q ≠ (Value.slice xf st.2.length yf).ownBlock := fun e => by have := hlt Q e.symm; have := b0.q1; omega
  have el : (st.2 ++ [e]).length = st.2.length + 1 := by simp
  have cQ : ∀ {o : Nat} {v : Value}, o ≠ 7 → w.cell? ⟨Q, o, none⟩ = some v → (w2.setCell ⟨Q, 7, none⟩ (.slice x' (st.2.length + 1) y')).cell? ⟨Q, o, none⟩ = some v := by
    intro o v ho6 hc
    rw [World.cell?_setCell_other _ _ _ _ (by first | (simp; done) | (simp; omega)), hg.cell_far _ (cellLt hc) nQ]
    exact hc
  have cF : ∀ {o : Nat} {v : Value}, w.cell? ⟨F, o, none⟩ = some v → (w2.setCell ⟨Q, 7, none⟩ (.slice x' (st.2.length + 1) y')).cell? ⟨F, o, none⟩ = some v := by
    intro o v hc
    rw [World.cell?_setCell_other _ _ _ _ (by have := b0.fq; first | (simp; done) | (simp; omega) | (simp_all; done) | (simp_all; omega)), hg.cell_far _ (cellLt hc) nF]
    exact hc
  have ho' : Only (LKS B F Q) w (w2.setCell ⟨Q, 7, none⟩ (.slice x' (st.2.length + 1) y')) := Only.setCell (S := LKS B F Q) (Only.of_grown (S := LKS B F Q) hg (fun k e => Or.inr (Or.inr (hlt k e)))) (p := ⟨Q, 7, none⟩) (Or.inl (Or.inr (Or.inl rfl))) _
  have g7 : w2.cell? ⟨Q, 7, none⟩ = some (.slice xf st.2.length yf) := by rw [hg.cell_far _ (cellLt h.f7) nQ]; exact h.f7
  have hd : (Value.slice xs st.1.length ys).ownBlock = none ∨ (Value.slice xs st.1.length ys).ownBlock ≠ (Value.slice xf st.2.length yf).ownBlock := owns_ne (by decide) h.oS h.oF
  refine ⟨⟨?_, ?_, cF h.c0, cF h.c1, cF h.c2, cQ (by omega) h.q3, ?_, cF h.s6, ?_, ?_, ?_, ?_, ?_⟩, ⟨Only.setCell (S := LKR F Q (.slice xs st.1.length ys) (.slice xf st.2.length yf)) (Only.of_grown (S := LKR F Q (.slice xs st.1.length ys) (.slice xf st.2.length yf)) hg (fun k e => Or.inr (Or.inr (Or.inr e)))) (p := ⟨Q, 7, none⟩) (Or.inl (Or.inr (Or.inl rfl))) _, KeptBut.of_block (by rw [Below.heap_setCell _ _ _ _ (fun e => b0.fq (by simpa using e))]; exact hg.block F (cellLt h.s6) (fun e => nF e)), fun o ho7 => ⟨by rw [World.cell?_setCell_other _ _ _ _ (by first | (simp; done) | (simp; omega))]; exact World.cell?_of_block (w := w) (hg.block Q (cellLt h.f7) (fun e => nQ e)), by rw [World.frozen?_setCell]; exact World.frozen?_of_block (hg.block Q (cellLt h.f7) (fun e => nQ e))⟩, cellLt h.s6, cellLt h.f7⟩⟩
  · exact h.base.trans (ho'.below h.base.size (fun k hk hs => by have := b0.f0; have := b0.q0; have := b0.f1; rcases hs with hs | hs | hs <;> omega))
  · exact Nat.le_trans h.bz ho'.size
  · refine h.L.kept ?_
    rcases b0.la with hl | hl
    · exact Or.inl hl
    · rcases h.L.2 with h3 | ⟨b, off, h3, h4⟩
      · exact Or.inl h3
      · refine Or.inr (fun b' off' e => ?_)
        rw [h3] at e
        cases e
        have := hl b off h3
        by_cases hbz : b < w.heap.size
        · exact ho'.block b hbz (by rintro (hs | hs | hs) <;> omega)
        · have := h.bz
          omega
  · rw [World.frozen?_setCell, hg.frozen_far _ (cellLt h.s6) nF]
    exact h.z6
  · simp only [el]
    exact World.cell?_setCell_same _ _ _ g7
  · rw [World.frozen?_setCell, hg.frozen_far _ (cellLt h.f7) nQ]
    exact h.z7
  · exact ownsRow_setCell_below (h.oS.kept hg hd) b0.q1 _
  · simp only [el]
    exact ownsRow_setCell_below ho b0.q1 _

end

theorem flatF_push (fs : List MFlank) (p : MFlank) : flatF fs ++ [.int .i64 p.place, .int .i64 p.kind, .int .i64 p.of, .int .i64 p.lie] = flatF (fs ++ [p]) := by
  rw [flatF_snoc]
  rfl
theorem flatE_push (fs : List MEnd) (p : MEnd) : flatE fs ++ [.int .i64 p.piece, .int .i64 p.side] = flatE (fs ++ [p]) := by
  rw [flatE_snoc]
  rfl

end Go.Proofs.Ytmkdgnmmebldgaa

namespace Go.Proofs.Ytmkdgnmmebldgaa
open Go.RowKit Go.Deep

/-! A region that draws its order, whose operations only read and whose callees make new memory alone: one walk, in the order of the text. -/

def Later (W : World) : Type := {u : World // Below W.heap.size W u}
theorem later_some (W : World) : Nonempty (Later W) := ⟨⟨W, Below.refl _ _⟩⟩
theorem Later.cell {W : World} {p : Addr} {v : Value} (h : W.cell? p = some v) : ∀ u : Later W, World.cell? u.val p = some v := fun u => cell_later u.2 h
theorem Later.calls {P : Program} {W : World} {f : FuncId} {args : Array Value} {v : Value} (u : Later W) (h : Calls P f args u.val fun e w' => e = .returned v ∧ Below (World.heap u.val).size u.val w') : Calls P f args u.val fun e w'' => e = .returned v ∧ ∃ u' : Later W, w'' = u'.val :=
  h.mono fun _ w2 ⟨he, hb⟩ => ⟨he, ⟨⟨w2, u.2.trans (hb.mono u.2.size)⟩, rfl⟩⟩
theorem wp_region_later {P : Program} {id : Nat} {Q : Exit → Act → World → Prop} {a : Act} {w : World} {l : List Oper} (hm : P.follows .mixedOrders = true) (hB : Region.lexB .any l.toArray = true)
    (h : wpQuiet P l.toArray (fun w' => ∃ u : Later w, w' = u.val) (fun a' => ∀ w', (∃ u : Later w, w' = u.val) → Q .normal a' w') l a) : (Code.region id l.toArray true).wp P Q a w :=
  wp_region_quiet (C := fun w' => ∃ u : Later w, w' = u.val) hm hB ⟨⟨w.drew, (Below.refl _ _).drew⟩, rfl⟩ (by simpa using h)

/-- 'append(v, x)' of one element onto a row of one's own, in a region that draws; where the row then lies. -/
theorem step_push {P : Program} {Wp : World} {ops : Array Oper} {o : Oper} {a : Act} {K : Act → World → Prop} {Q : Exit → Act → World → Prop} {E : Prop} (hgd : o.guard = none) (s x : Operand) (t : TypeId)
    (ho : o.op = .call { callee := .builtin .append, args := #[s, x], argTypes := #[t, t] })
    (B : Nat) (e : TypeId) (z : Value) (size bytes : Nat) (ht : P.underlying t = some (.slice e)) (hi : (P.info? e).map (fun i => (i.zero, i.size, i.bytes)) = some (some z, size, bytes)) (hzs : z.cells.size = size) (hsz : 0 < size)
    (v : Value) (n : Nat) (xs : List Value) (hs : a.eval s = v) (hown : Wp.ownsRow B e size v n xs)
    (g : Nat) (hgs : g = Wp.heap.size) (news : List Value) (hx : a.eval x = .slice (some ⟨g, 0, none⟩) 1 1) (hl : news.length = size) (h1 : ∀ u ∈ news, u.oneCell' = true)
    (h63 : n + 1 ≤ maxLen) (hbytes : (n + 1) * bytes ≤ 140737488355328) (hB : B ≤ Wp.heap.size)
    (h : ∀ x' y' w', w'.ownsRow B e size (.slice x' (n + 1) y') (n + 1) (xs ++ news) → Wp.grownBy w' v.ownBlock → Tame Wp v (.slice x' (n + 1) y') → K (a.put o.dst (.slice x' (n + 1) y')) w') :
    if Region.wanted o (yielded ops a.tmps) = true then Oper.wp P o a ((Wp.alloc (.cells news.toArray e)).drew) K Q else E := by
  subst hgs
  obtain ⟨i, hi1, hi2, hi3, hi4⟩ := info_parts hi
  refine step_append_lies _ hgd s x t ho B e i z size bytes ht hi1 hi2 hi3 hi4 hzs hsz v n xs hs (hown.alloc _).drew ⟨Wp.heap.size, 0, none⟩ 1 1 news hx (by omega) ?_ h1 (by omega) h63 hbytes (by simp; omega) _ rfl ?_
  · intro j u hu
    rw [addr_at, Nat.zero_add]
    have := cell_of_row (Wp.alloc (.cells news.toArray e)) Wp.heap.size j news.toArray e (0, 0) (heap_alloc_new Wp _)
    refine Eq.trans this ?_
    simpa using hu
  · intro g cap w' ho' hg' hq _
    refine h _ _ w' ho' ⟨hg'.os, hg'.tape, hg'.output, Nat.le_trans (by simp) hg'.size, fun k hk hne => ?_⟩ (fun b hb => ?_)
    · exact (hg'.block k (by simp; omega) hne).trans (Below.heap_alloc _ _ _ hk)
    · cases hb
      rcases hq with hq | hq
      · exact Or.inl hq
      · right
        rw [hq]
        simp
theorem wpList_push2 {P : Program} {Wp : World} {ops : Array Oper} {rest : List Oper} {o : Oper} {a : Act} {Q : Exit → Act → World → Prop} (hgd : o.guard = none) (s x : Operand) (t : TypeId)
    (ho : o.op = .call { callee := .builtin .append, args := #[s, x], argTypes := #[t, t] })
    (B : Nat) (e : TypeId) (z : Value) (size bytes : Nat) (ht : P.underlying t = some (.slice e)) (hi : (P.info? e).map (fun i => (i.zero, i.size, i.bytes)) = some (some z, size, bytes)) (hzs : z.cells.size = size) (hsz : 0 < size)
    (v : Value) (n : Nat) (xs : List Value) (hs : a.eval s = v) (hown : Wp.ownsRow B e size v n xs)
    (g : Nat) (hgs : g = Wp.heap.size) (news : List Value) (hx : a.eval x = .slice (some ⟨g, 0, none⟩) 1 1) (hl : news.length = size) (h1 : ∀ u ∈ news, u.oneCell' = true)
    (h63 : n + 1 ≤ maxLen) (hbytes : (n + 1) * bytes ≤ 140737488355328) (hB : B ≤ Wp.heap.size)
    (h : ∀ x' y' w', w'.ownsRow B e size (.slice x' (n + 1) y') (n + 1) (xs ++ news) → Wp.grownBy w' v.ownBlock → Tame Wp v (.slice x' (n + 1) y') → wpList P ops Q rest (a.put o.dst (.slice x' (n + 1) y')) w') : wpList P ops Q (o :: rest) a (Wp.alloc (.cells news.toArray e)) := by
  subst hgs
  obtain ⟨i, hi1, hi2, hi3, hi4⟩ := info_parts hi
  refine wpList_append_lies _ hgd s x t ho B e i z size bytes ht hi1 hi2 hi3 hi4 hzs hsz v n xs hs (hown.alloc _) ⟨Wp.heap.size, 0, none⟩ 1 1 news hx (by omega) ?_ h1 (by omega) h63 hbytes (by simp; omega) _ rfl ?_
  · intro j u hu
    rw [addr_at, Nat.zero_add]
    have := cell_of_row (Wp.alloc (.cells news.toArray e)) Wp.heap.size j news.toArray e (0, 0) (heap_alloc_new Wp _)
    rw [this]
    simpa using hu
  · intro g cap w' ho' hg' hq _
    refine h _ _ w' ho' ⟨hg'.os, hg'.tape, hg'.output, Nat.le_trans (by simp) hg'.size, fun k hk hne => ?_⟩ (fun b hb => ?_)
    · exact (hg'.block k (by simp; omega) hne).trans (Below.heap_alloc _ _ _ hk)
    · cases hb
      rcases hq with hq | hq
      · exact Or.inl hq
      · right
        rw [hq]
        simp

/-- What a look leaves behind. -/
def FlankPost (w0 w : World) (B F Q : Nat) (pa ja sa la : Option Addr) (pc jc sc lc : Nat) (np nj ns : Nat) (lies : List MLie) (vs vf : Value) (st : List MEnd × List MFlank) (e : Ending) (w' : World) : Prop :=
  e = .returned (.tuple #[]) ∧ (∃ xs ys xf yf, LK w0 w' B F Q pa ja sa la pc jc sc lc np nj ns lies xs ys xf yf st ∧ Tame w vs (.slice xs st.1.length ys) ∧ Tame w vf (.slice xf st.2.length yf)) ∧ Turn F Q vs vf w w'

/-- The contract of a look, with so much fuel. -/
def LookSpec (w0 : World) (B F Q : Nat) (pa ja sa la : Option Addr) (pc jc sc lc : Nat) (ps : List MPiece) (js : List MJoint) (ss : List MPiece) (lies : List MLie) (pl : Int) (n : Nat) : Prop :=
  ∀ (st : List MEnd × List MFlank) (e : MEnd) (xs : Option Addr) (ys : Nat) (xf : Option Addr) (yf : Nat) (w : World), Hid (LK w0 w B F Q pa ja sa la pc jc sc lc ps.length js.length ss.length lies xs ys xf yf st) → Hid (Seen ps st.1) → Hid (ValidE ps e) →
    st.2.length + 2 * ps.length ≤ 100000 + st.1.length → 2 * ps.length + 1 ≤ n + st.1.length →
    Calls Try.prog 150 #[.pointer (some ⟨F, 0, none⟩), .pointer (some ⟨Q, 0, none⟩), .int .i64 pl, endV e] w (FlankPost w0 w B F Q pa ja sa la pc jc sc lc ps.length js.length ss.length lies (.slice xs st.1.length ys) (.slice xf st.2.length yf) (lookF js ss lies pl n st e))

theorem Only.later {S : Nat → Prop} {a b c : World} (h : Only S a b) (k : Below b.heap.size b c) : Only S a c := h.trans (Only.of_below k)

end Go.Proofs.Ytmkdgnmmebldgaa

namespace Go.Proofs.Ytmkdgnmmebldgaa
open Go.RowKit Go.Deep

/-- What stands between two looks: as in a look, but for what was seen. -/
structure LD (w0 w : World) (B F Q : Nat) (pa ja sa la : Option Addr) (pc jc sc lc : Nat) (np nj ns : Nat) (lies : List MLie) (xf : Option Addr) (yf : Nat) (fl : List MFlank) : Prop where
  base : Below w0.heap.size w0 w
  bz : B ≤ w.heap.size
  c0 : w.cell? ⟨F, 0, none⟩ = some (.slice pa np pc)
  c1 : w.cell? ⟨F, 1, none⟩ = some (.slice ja nj jc)
  c2 : w.cell? ⟨F, 2, none⟩ = some (.slice sa ns sc)
  q3 : w.cell? ⟨Q, 3, none⟩ = some (.slice la lies.length lc)
  L : EndsAt w la lies
  s6 : ∃ v, w.cell? ⟨F, 6, none⟩ = some v
  z6 : w.frozen? ⟨F, 6, none⟩ = false
  f7 : w.cell? ⟨Q, 7, none⟩ = some (.slice xf fl.length yf)
  z7 : w.frozen? ⟨Q, 7, none⟩ = false
  oF : w.ownsRow B 57 4 (.slice xf fl.length yf) fl.length (flatF fl)

section
variable {w0 w w' : World} {B F Q : Nat} {pa ja sa la : Option Addr} {pc jc sc lc np nj ns : Nat} {ps : List MPiece} {js : List MJoint} {ss : List MPiece} {lies : List MLie} {xf : Option Addr} {yf : Nat} {fl : List MFlank}

theorem LD.below (h : LD w0 w B F Q pa ja sa la pc jc sc lc np nj ns lies xf yf fl) (hb : Below w.heap.size w w') : LD w0 w' B F Q pa ja sa la pc jc sc lc np nj ns lies xf yf fl := by
  obtain ⟨v, hv⟩ := h.s6
  exact ⟨h.base.trans (hb.mono h.base.size), Nat.le_trans h.bz hb.size, cell_later hb h.c0, cell_later hb h.c1, cell_later hb h.c2, cell_later hb h.q3, h.L.below hb, ⟨v, cell_later hb hv⟩, (hb.frozen (p := ⟨F, 6, none⟩) (cellLt hv)).trans h.z6, cell_later hb h.f7, (hb.frozen (p := ⟨Q, 7, none⟩) (cellLt h.f7)).trans h.z7, owns_below h.oF hb⟩
theorem LK.forget {xs : Option Addr} {ys : Nat} {st : List MEnd × List MFlank} (h : LK w0 w B F Q pa ja sa la pc jc sc lc np nj ns lies xs ys xf yf st) : LD w0 w B F Q pa ja sa la pc jc sc lc np nj ns lies xf yf st.2 :=
  ⟨h.base, h.bz, h.c0, h.c1, h.c2, h.q3, h.L, ⟨_, h.s6⟩, h.z6, h.f7, h.z7, h.oF⟩
/-- 'f.seen = nil'. -/
theorem LD.reset (b0 : LB w0 B F Q pa ja sa la ps js ss lies) (h : LD w0 w B F Q pa ja sa la pc jc sc lc np nj ns lies xf yf fl) : LK w0 (w.setCell ⟨F, 6, none⟩ (.slice none 0 0)) B F Q pa ja sa la pc jc sc lc np nj ns lies none 0 xf yf ([], fl) := by
  obtain ⟨v, hv⟩ := h.s6
  have cF : ∀ {o : Nat} {u : Value}, o ≠ 6 → w.cell? ⟨F, o, none⟩ = some u → (w.setCell ⟨F, 6, none⟩ (.slice none 0 0)).cell? ⟨F, o, none⟩ = some u := fun ho hc => by
    rw [World.cell?_setCell_other _ _ _ _ (by first | (simp; done) | (simp; omega))]
    exact hc
  have cQ : ∀ {o : Nat} {u : Value}, w.cell? ⟨Q, o, none⟩ = some u → (w.setCell ⟨F, 6, none⟩ (.slice none 0 0)).cell? ⟨Q, o, none⟩ = some u := fun hc => by
    rw [World.cell?_setCell_other _ _ _ _ (by have := b0.fq; first | (simp; done) | (simp; omega) | (simp_all; done) | (simp_all; omega))]
    exact hc
  refine ⟨h.base.setCell (p := ⟨F, 6, none⟩) b0.f0 _, by simpa using h.bz, cF (by omega) h.c0, cF (by omega) h.c1, cF (by omega) h.c2, cQ h.q3, ?_, World.cell?_setCell_same _ _ _ hv, ?_, cQ h.f7, ?_, World.ownsRow_nil _ _ _ _, ownsRow_setCell_below h.oF b0.f1 _⟩
  · refine h.L.kept ?_
    rcases b0.la with hl | hl
    · exact Or.inl hl
    · refine Or.inr (fun b off e => ?_)
      rw [Below.heap_setCell _ _ _ _ (hl b off e).2.1]
  · rw [World.frozen?_setCell]; exact h.z6
  · rw [World.frozen?_setCell]; exact h.z7
end

/-- What 'done' may turn of the blocks that are there: the finder's and the route's own, a cell of each. -/
structure Between (F Q : Nat) (w w' : World) : Prop where
  only : Only (fun k => k = F ∨ k = Q) w w'
  kF : KeptBut F 6 w w'
  kQ : KeptBut Q 7 w w'
  f : F < w.heap.size
  q : Q < w.heap.size
theorem Between.refl {F Q : Nat} {w : World} (f : F < w.heap.size) (q : Q < w.heap.size) : Between F Q w w := ⟨Only.refl _ _, KeptBut.of_block rfl, KeptBut.of_block rfl, f, q⟩
theorem Between.later {F Q : Nat} {a b c : World} (h : Between F Q a b) (k : Below b.heap.size b c) : Between F Q a c :=
  ⟨h.only.trans (Only.of_below k), h.kF.trans (KeptBut.of_block (k.block F (Nat.lt_of_lt_of_le h.f h.only.size))), h.kQ.trans (KeptBut.of_block (k.block Q (Nat.lt_of_lt_of_le h.q h.only.size))), h.f, h.q⟩
theorem Between.set {F Q : Nat} {a b : World} (h : Between F Q a b) (hfq : F ≠ Q) (v : Value) : Between F Q a (b.setCell ⟨F, 6, none⟩ v) :=
  ⟨h.only.setCell (p := ⟨F, 6, none⟩) (Or.inl (Or.inl rfl)) v, h.kF.trans (fun o ho => ⟨World.cell?_setCell_other _ _ _ _ (by first | (simp; done) | (simp; omega)), World.frozen?_setCell _ _ _ _⟩), h.kQ.trans (KeptBut.of_block (Below.heap_setCell _ _ _ _ (fun e => hfq (by simpa using e.symm)))), h.f, h.q⟩
theorem Between.turn {F Q : Nat} {vs vf : Value} {a b c : World} (h : Between F Q a b) (k : Turn F Q vs vf b c) (h1 : ∀ x, vs.ownBlock = some x → a.heap.size ≤ x) (h2 : ∀ x, vf.ownBlock = some x → a.heap.size ≤ x) : Between F Q a c :=
  ⟨⟨k.only.os.trans h.only.os, k.only.tape.trans h.only.tape, k.only.output.trans h.only.output, Nat.le_trans h.only.size k.size, fun x hx hn => (k.only.block x (Nat.lt_of_lt_of_le hx h.only.size) (fun hs => by
    rcases hs with hs | hs | hs | hs
    · exact hn (Or.inl hs)
    · exact hn (Or.inr hs)
    · have := h1 x hs; omega
    · have := h2 x hs; omega)).trans (h.only.block x hx hn)⟩, h.kF.trans k.kF, h.kQ.trans k.kQ, h.f, h.q⟩

end Go.Proofs.Ytmkdgnmmebldgaa
