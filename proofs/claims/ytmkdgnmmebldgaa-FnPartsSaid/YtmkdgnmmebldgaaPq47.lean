import Derived.Test.YtmkdgnmmebldgaaPq46
import Derived.Test.YtmkdgnmmebldgaaPq25
import Derived.Test.YtmkdgnmmebldgaaPq26
namespace Go.Proofs.Ytmkdgnmmebldgaa
open Go.RowKit
theorem meth_4 (w : World) : (method 425 255 (.agg #[]) "loop.example/lockbar/impl.endCount").run Try.prog w = .ok (212, .agg #[]) w := by kernel_rfl
set_option maxHeartbeats 1000000 in
theorem jointOk_4 (s : ByteArray) (es : List MEnd) (ea : Option Addr) (ec np : Nat) (w : World) (he : Hid (EndsAt w ea es)) (hnp : np ≤ maxLen) :
    Calls Try.prog 135 #[.agg #[.int .i64 4, .string s, .slice ea es.length ec], .int .i64 np] w fun e w' => e = .returned (.bool (ok3 np ⟨4, s, es⟩)) ∧ Below w.heap.size w w' := by
  have hel := he.out.1
  unfold maxLen at hel hnp
  have hm := meth_4
  cases hk2 : ((es.length : Int) == 4)
  · have HX := hidQ (ok3_len (np := np) (j := ⟨4, s, es⟩) hk2)
    go_enter Try.func135, Try.ntmps135
    go_wp2_with (go_at_call 122; refine (kindOf_4 _).mono ?_; rintro e w' ⟨rfl, rfl⟩)
    go_region_with (go_at_call 212; refine (endCount_4 _).mono ?_; rintro e w2 ⟨rfl, hb2⟩; have hc2 := bcellK hb2)
    all_goals
      go_wp2_with fail
      go_ret
      exact ⟨ret_bool HX.out.symm, Below.trans blo (hb2.mono (by simp))⟩
  · have HK2 := hidQ hk2
    go_enter Try.func135, Try.ntmps135
    go_wp2_with (go_at_call 122; refine (kindOf_4 _).mono ?_; rintro e w' ⟨rfl, rfl⟩)
    go_region_with (go_at_call 212; refine (endCount_4 _).mono ?_; rintro e w2 ⟨rfl, hb2⟩; have hc2 := bcellK hb2)
    all_goals
      have hbn : ((es.length : Int) != 4) = false := by rw [bne, HK2.out]; rfl
      simp only [hbn]
      have hb3 : Below w.heap.size w w2 := Below.trans blo (hb2.mono (by simp))
      clear hbn hm hk2
      go_wp2_with fail
      clear hb2 hc2
      go_loopw [28] (fun c wr => ∃ (m : Nat), m ≤ es.length ∧ c = .int .i64 m ∧ Hid (∀ q (hq : q < es.length), q < m → endB np es[q].piece es[q].side = true) ∧ Below w.heap.size w wr) (fun c _ => es.length - (intOf c).toNat)
      case atStart => exact ⟨0, Nat.zero_le _, rfl, (fun q _ h => absurd h (Nat.not_lt_zero q)), hb3⟩
      case round =>
        clear hb3
        obtain ⟨m, hm, rfl, HQ, hb⟩ := hrel
        have hbs := hb.size
        by_cases hm' : m < es.length
        · obtain ⟨b2, off2, rfl, hpc2⟩ := he.out.2.resolve_left (fun h => by rw [h] at hm'; exact absurd hm' (Nat.not_lt_zero _))
          obtain ⟨d1, d2⟩ := (hpc2.below hb) m hm'
          clear hpc2
          cases hE : endB np es[m].piece es[m].side
          · have HX := hidQ (ok3_end (j := ⟨4, s, es⟩) m hm' hE)
            have hcs : inB es[m].piece 0 ((np : Int) - 1) = false ∨ inB es[m].piece 0 ((np : Int) - 1) = true ∧ inB es[m].side 0 1 = false := by
              unfold endB at hE
              revert hE
              cases inB es[m].piece 0 ((np : Int) - 1) <;> simp
            clear hE
            rcases hcs with q1 | ⟨q1, q2⟩
            all_goals
              go_wp2_with (go_at_call 121; refine (within_any _ _ _ _).mono ?_; rintro e w' ⟨rfl, rfl⟩)
              go_ret
              exact ⟨ret_bool HX.out.symm, blo⟩
          · have HQ2 : Hid (∀ q (hq : q < es.length), q < m + 1 → endB np es[q].piece es[q].side = true) := by
              intro q hq hqm
              by_cases e : q < m
              · exact HQ.out q hq e
              · have : q = m := by omega
                subst this; exact hE
            have q1 : inB es[m].piece 0 ((np : Int) - 1) = true := by
              unfold endB at hE; revert hE; cases inB es[m].piece 0 ((np : Int) - 1) <;> simp
            have q2 : inB es[m].side 0 1 = true := by
              unfold endB at hE; revert hE; cases inB es[m].side 0 1 <;> simp
            clear hE HQ
            go_wp2_with (go_at_call 121; refine (within_any _ _ _ _).mono ?_; rintro e w' ⟨rfl, rfl⟩)
            go_roundw
            case rel => exact ⟨m + 1, by omega, by go_num, HQ2, blo⟩
            case measure => simp [intOf]; omega
        · have HX : Hid (ok3 np ⟨4, s, es⟩ = true) := ok3_of (by rfl) HK2.out (fun q hq => HQ.out q hq (by have hq2 : q < es.length := hq; omega))
          clear HQ
          go_wp2_with fail
          go_ret
          exact ⟨ret_bool HX.out.symm, hb⟩
end Go.Proofs.Ytmkdgnmmebldgaa

namespace Go.Proofs.Ytmkdgnmmebldgaa
open Go.RowKit
theorem bcellM {W w1 : World} (hb : Below W.heap.size W w1) : (∀ b o, b < W.heap.size → w1.cell? ⟨b, o, none⟩ = W.cell? ⟨b, o, none⟩) :=
  fun b o h => hb.cell (p := ⟨b, o, none⟩) h
theorem badPi_of_bad {ps : List MPiece} {i : Nat} (h : i < ps.length) (hp : pieceB ps[i].name ps[i].len ps[i].speed ps[i].brake = false) : badPi ps i = true := by
  rw [badPi_at h]; simp [okP, hp]
theorem namesP_succ {ps : List MPiece} {i : Nat} (h : i < ps.length) : namesP (ps.take (i + 1)) = namesP (ps.take i) ++ [ps[i].name] := by
  unfold namesP
  rw [List.take_succ_eq_append_getElem h, List.map_append]
  rfl
set_option maxHeartbeats 1000000 in
theorem firstWrongPiece_any (pa : Option Addr) (pc : Nat) (ps : List MPiece) (w : World) (hp : Hid (PiecesAt w pa ps)) (hl : ps.length ≤ 1000000) :
    Calls Try.prog 64 #[.slice pa ps.length pc] w fun e w' => e = .returned (.int .i64 (firstBad (badPi ps) ps.length)) ∧ Below w.heap.size w w' := by
  have hmm := @run_makeMap Try.prog
  go_enter Try.func64, Try.ntmps64
  go_wp2_with fail
  have HM := hidQ (CMap.made 9 w)
  rw [← fS_nil] at HM
  go_loopw [9] (fun c wr => ∃ (i : Nat), i ≤ ps.length ∧ c = .int .i64 i ∧ Hid (∀ q, q < i → badPi ps q = false) ∧ Hid (CMap 9 wr w.heap.size i (fS (namesP (ps.take i)))) ∧ Below w.heap.size w wr) (fun c _ => ps.length - (intOf c).toNat)
  case atStart => exact ⟨0, Nat.zero_le _, rfl, (fun q h => absurd h (Nat.not_lt_zero q)), HM.out, blo⟩
  case round =>
    clear HM hmm
    obtain ⟨i, hi, rfl, HQ, HM, hb⟩ := hrel
    have hbs := hb.size
    by_cases hi' : i < ps.length
    · obtain ⟨b1, off1, rfl, hpc⟩ := hp.out.2.2.resolve_left (fun h => by rw [h] at hi'; exact absurd hi' (Nat.not_lt_zero _))
      obtain ⟨c1, c2, c3, c4⟩ := (hpc.below hb) i hi'
      have hsz : ps[i].name.size ≤ maxLen := hp.out.2.1 _ (List.getElem_mem hi')
      clear hpc
      go_wp2_with fail
      refine (pieceOk_any _ _ _ _ _ hsz).mono ?_
      rintro e w2 ⟨rfl, hb2⟩
      have hc2 := bcellM hb2
      have hb3 : Below w.heap.size w w2 := Below.trans blo (hb2.mono (by simp; omega))
      have hM2 : CMap 9 w2 w.heap.size i (fS (namesP (ps.take i))) := (HM.out.below (show Below wr.heap.size wr (wr.alloc _) from blo)).below hb2
      clear hb hb2 c1 c2 c3 c4 HM
      cases hP : pieceB ps[i].name ps[i].len ps[i].speed ps[i].brake
      · have HX := hidQ (firstBad_hit hi' (badPi_of_bad hi' hP) HQ.out)
        clear hP hM2
        go_wp2_with fail
        go_ret
        exact ⟨ret_int HX.out.symm, hb3⟩
      · have hlk := hM2.lookup lawS Try.underlying222 (keyS hsz)
        cases hA : aheadB (namesP (ps.take i)) ps[i].name
        · have h0 : fS (namesP (ps.take i)) (.string ps[i].name) = 0 := by
            show ((cntS _ _ : Nat) : Int) = 0
            rw [(cntS_zero _ _).2 hA]; rfl
          rw [h0] at hlk
          obtain ⟨w3, hup, hM3, hg⟩ := hM2.update lawS Try.underlying222 (by unfold maxLen; omega) (keyS hsz) 1 (wf64 (by omega) (by omega)) (fS (namesP (ps.take (i + 1)))) (by rw [namesP_succ hi', fS_same, (cntS_zero _ _).2 hA]; rfl) (by rw [namesP_succ hi']; exact fS_other _ _)
          have HM3 := hidQ hM3
          have hb4 : Below w.heap.size w w3 := hb3.grown hg hb3.size (fun j hj => by cases hj; exact Nat.le_refl _)
          have HQ2 : Hid (∀ q, q < i + 1 → badPi ps q = false) := by
            intro q hq
            by_cases e : q < i
            · exact HQ.out q e
            · have : q = i := by omega
              subst this
              rw [badPi_at hi', okP, hP, hA]
              rfl
          clear hP hA h0 hM2 hM3 hg hb3 HQ
          go_wp2_with fail
          go_roundw
          case rel => exact ⟨i + 1, by omega, by go_num, HQ2, HM3, hb4⟩
          case measure => simp [intOf]; omega
        · have HX := hidQ (firstBad_hit hi' (by rw [badPi_at hi']; simp [okP, hA]) HQ.out)
          have hpos : 0 < fS (namesP (ps.take i)) (.string ps[i].name) := by
            show (0 : Int) < ((cntS _ _ : Nat) : Int)
            have : cntS (namesP (ps.take i)) ps[i].name ≠ 0 := fun h => by rw [cntS_zero, hA] at h; cases h
            omega
          generalize fS (namesP (ps.take i)) (.string ps[i].name) = c0 at hlk hpos
          clear hP hA hM2
          go_wp2_with fail
          go_ret
          exact ⟨ret_int HX.out.symm, hb3⟩
    · have HX := hidQ (firstBad_none (bad := badPi ps) (n := ps.length) (fun q h => HQ.out q (by omega)))
      clear HQ HM
      go_wp2_with fail
      go_ret
      exact ⟨ret_int HX.out.symm, hb⟩
end Go.Proofs.Ytmkdgnmmebldgaa

namespace Go.Proofs.Ytmkdgnmmebldgaa
open Go.RowKit
theorem kind_cases {k : Int} (h : inB k 1 4 = true) : k = 1 ∨ k = 2 ∨ k = 3 ∨ k = 4 := by
  unfold inB at h
  simp at h
  omega
theorem jointOk_any (j : MJoint) (ea : Option Addr) (ec np : Nat) (w : World) (he : Hid (EndsAt w ea j.ends)) (hnp : np ≤ maxLen) :
    Calls Try.prog 135 #[.agg #[.int .i64 j.kind, .string j.name, .slice ea j.ends.length ec], .int .i64 np] w fun e w' => e = .returned (.bool (ok3 np j)) ∧ Below w.heap.size w w' := by
  cases hk : inB j.kind 1 4
  · exact jointOk_no j ea ec np w hk
  · obtain ⟨kd, s, es⟩ := j
    rcases kind_cases hk with h | h | h | h
    · obtain rfl : kd = 1 := h
      exact jointOk_1 s es ea ec np w he hnp
    · obtain rfl : kd = 2 := h
      exact jointOk_2 s es ea ec np w he hnp
    · obtain rfl : kd = 3 := h
      exact jointOk_3 s es ea ec np w he hnp
    · obtain rfl : kd = 4 := h
      exact jointOk_4 s es ea ec np w he hnp
set_option maxHeartbeats 1000000 in
theorem firstWrongJoint_any (pa ja : Option Addr) (pl pc jc : Nat) (js : List MJoint) (w : World) (hj : Hid (JointsAt w ja js)) (hpl : pl ≤ maxLen) :
    Calls Try.prog 65 #[.agg #[.slice pa pl pc, .slice ja js.length jc]] w fun e w' => e = .returned (.int .i64 (firstBad (bad3i pl js) js.length)) ∧ Below w.heap.size w w' := by
  have hl := hj.out.1
  unfold maxLen at hl
  go_enter Try.func65, Try.ntmps65
  go_wp2_with fail
  generalize hW : w.alloc (Obj.cells #[Value.slice pa pl pc, Value.slice ja js.length jc] 26) = W
  have e0 : W.cell? ⟨w.heap.size, 0, none⟩ = some (.slice pa pl pc) := by rw [← hW]; simp [go_sem]
  have hz : w.heap.size + 1 = W.heap.size := by rw [← hW]; simp
  have hbW : Below w.heap.size w W := by rw [← hW]; exact blo
  clear hW
  go_loopw [8] (fun c wr => ∃ (i : Nat), i ≤ js.length ∧ c = .int .i64 i ∧ Hid (∀ q, q < i → bad3i pl js q = false) ∧ Below W.heap.size W wr) (fun c _ => js.length - (intOf c).toNat)
  case atStart => exact ⟨0, Nat.zero_le _, rfl, (fun q h => absurd h (Nat.not_lt_zero q)), blo⟩
  case round =>
    obtain ⟨i, hi, rfl, HQ, hb⟩ := hrel
    have hbs := hb.size
    have hz2 : w.heap.size < wr.heap.size := by omega
    have e0' := cell_later hb e0
    by_cases hi' : i < js.length
    · obtain ⟨b1, off1, rfl, hpc⟩ := hj.out.2.2.resolve_left (fun h => by rw [h] at hi'; exact absurd hi' (Nat.not_lt_zero _))
      obtain ⟨c1, c2, ea, ec, c3, c4⟩ := ((hpc.below hbW).below hb) i hi'
      have C4 := hidQ c4
      clear hpc c4
      go_wp2_with fail
      refine (jointOk_any js[i] _ _ _ _ (C4.out.below blo) hpl).mono ?_
      rintro e w2 ⟨rfl, hb2⟩
      have hb3 : Below W.heap.size W w2 := Below.trans blo (hb2.mono (by simp; omega))
      clear hb hb2 c1 c2 c3 e0'
      cases ho : ok3 pl js[i]
      · have HX := hidQ (firstBad_hit hi' (by rw [bad3i_at hi', ho]; rfl) HQ.out)
        clear ho
        go_wp2_with fail
        go_ret
        exact ⟨ret_int HX.out.symm, hbW.trans (hb3.mono hbW.size)⟩
      · have HQ2 : Hid (∀ q, q < i + 1 → bad3i pl js q = false) := by
          intro q hq
          by_cases e : q < i
          · exact HQ.out q e
          · have : q = i := by omega
            subst this
            rw [bad3i_at hi', ho]; rfl
        clear ho HQ
        go_wp2_with fail
        go_roundw
        case rel => exact ⟨i + 1, by omega, by go_num, HQ2, hb3⟩
        case measure => simp [intOf]; omega
    · have HX := hidQ (firstBad_none (bad := bad3i pl js) (n := js.length) (fun q h => HQ.out q (by omega)))
      clear HQ
      go_wp2_with fail
      go_ret
      exact ⟨ret_int HX.out.symm, hbW.trans (hb.mono hbW.size)⟩
set_option maxHeartbeats 400000 in
theorem jointNameOk_1 (s : ByteArray) (m : Option Nat) (w : World) :
    Calls Try.prog 136 #[.iface 252 (.agg #[]), .string s, .map m] w fun e w' => e = .returned (.bool (decide (s = ⟨#[]⟩))) ∧ w' = w := by
  by_cases h : s = ⟨#[]⟩
  · subst h
    go_enter Try.func136, Try.ntmps136
    go_wp2_with (go_at_call 166; refine (hasName_1 _).mono ?_; rintro e w' ⟨rfl, rfl⟩)
    go_ret
    exact ⟨rfl, rfl⟩
  · have HX : Hid (decide (s = (⟨#[]⟩ : ByteArray)) = false) := by unfold Hid; simp [h]
    have h' := emptyS_ne h
    clear h
    go_enter Try.func136, Try.ntmps136
    go_wp2_with (go_at_call 166; refine (hasName_1 _).mono ?_; rintro e w' ⟨rfl, rfl⟩)
    go_ret
    exact ⟨ret_bool HX.out.symm, rfl⟩
set_option maxHeartbeats 400000 in
theorem jointNameOk_2 (s : ByteArray) (m : Option Nat) (w : World) :
    Calls Try.prog 136 #[.iface 253 (.agg #[]), .string s, .map m] w fun e w' => e = .returned (.bool (decide (s = ⟨#[]⟩))) ∧ w' = w := by
  by_cases h : s = ⟨#[]⟩
  · subst h
    go_enter Try.func136, Try.ntmps136
    go_wp2_with (go_at_call 166; refine (hasName_2 _).mono ?_; rintro e w' ⟨rfl, rfl⟩)
    go_ret
    exact ⟨rfl, rfl⟩
  · have HX : Hid (decide (s = (⟨#[]⟩ : ByteArray)) = false) := by unfold Hid; simp [h]
    have h' := emptyS_ne h
    clear h
    go_enter Try.func136, Try.ntmps136
    go_wp2_with (go_at_call 166; refine (hasName_2 _).mono ?_; rintro e w' ⟨rfl, rfl⟩)
    go_ret
    exact ⟨ret_bool HX.out.symm, rfl⟩
set_option maxHeartbeats 400000 in
theorem jointNameOk_3 (s : ByteArray) (b : Nat) (c : Int) (w : World) (hs : s.size ≤ maxLen) (hl : (Instr.lookup 222 (.map (some b)) (.string s) false).run Try.prog w = .ok (.int .i64 c) w) :
    Calls Try.prog 136 #[.iface 254 (.agg #[]), .string s, .map (some b)] w fun e w' => e = .returned (.bool (nameB s && (c == 0))) ∧ w' = w := by
  cases h : nameB s
  · go_enter Try.func136, Try.ntmps136
    go_wp2_with (first | (go_at_call 166; refine (hasName_3 _).mono ?_; rintro e w' ⟨rfl, rfl⟩) | (go_at_call 165; refine (nameOk_any _ _ hs).mono ?_; rintro e w' ⟨rfl, rfl⟩))
    go_ret
    exact ⟨rfl, rfl⟩
  · go_enter Try.func136, Try.ntmps136
    go_wp2_with (first | (go_at_call 166; refine (hasName_3 _).mono ?_; rintro e w' ⟨rfl, rfl⟩) | (go_at_call 165; refine (nameOk_any _ _ hs).mono ?_; rintro e w' ⟨rfl, rfl⟩))
    go_ret
    exact ⟨ret_bool (by simp), rfl⟩
set_option maxHeartbeats 400000 in
theorem jointNameOk_4 (s : ByteArray) (b : Nat) (c : Int) (w : World) (hs : s.size ≤ maxLen) (hl : (Instr.lookup 222 (.map (some b)) (.string s) false).run Try.prog w = .ok (.int .i64 c) w) :
    Calls Try.prog 136 #[.iface 255 (.agg #[]), .string s, .map (some b)] w fun e w' => e = .returned (.bool (nameB s && (c == 0))) ∧ w' = w := by
  cases h : nameB s
  · go_enter Try.func136, Try.ntmps136
    go_wp2_with (first | (go_at_call 166; refine (hasName_4 _).mono ?_; rintro e w' ⟨rfl, rfl⟩) | (go_at_call 165; refine (nameOk_any _ _ hs).mono ?_; rintro e w' ⟨rfl, rfl⟩))
    go_ret
    exact ⟨rfl, rfl⟩
  · go_enter Try.func136, Try.ntmps136
    go_wp2_with (first | (go_at_call 166; refine (hasName_4 _).mono ?_; rintro e w' ⟨rfl, rfl⟩) | (go_at_call 165; refine (nameOk_any _ _ hs).mono ?_; rintro e w' ⟨rfl, rfl⟩))
    go_ret
    exact ⟨ret_bool (by simp), rfl⟩
end Go.Proofs.Ytmkdgnmmebldgaa

namespace Go.Proofs.Ytmkdgnmmebldgaa
open Go.RowKit
theorem names_succ {ps : List MJoint} {i : Nat} (h : i < ps.length) : names (ps.take (i + 1)) = names (ps.take i) ++ [ps[i].name] := by
  unfold names
  rw [List.take_succ_eq_append_getElem h, List.map_append]
  rfl
theorem names_len (ps : List MJoint) (i : Nat) : (names (ps.take i)).length ≤ i := by
  unfold names
  rw [List.length_map]
  exact List.length_take_le _ _
theorem ok4_low {js : List MJoint} {i : Nat} {j : MJoint} {k : Int} (hk : j.kind = k) (h3 : k < 3) : ok4 js i j = decide (j.name = ⟨#[]⟩) := by
  unfold ok4
  rw [hk, if_pos h3]
theorem ok4_high {js : List MJoint} {i : Nat} {j : MJoint} {k : Int} (hk : j.kind = k) (h3 : ¬ k < 3) : ok4 js i j = (nameB j.name && (fS (names (js.take i)) (.string j.name) == 0)) := by
  unfold ok4
  rw [hk, if_neg h3]
  congr 1
  show (!aheadB (names (js.take i)) j.name) = (((cntS (names (js.take i)) j.name : Nat) : Int) == 0)
  cases hA : aheadB (names (js.take i)) j.name
  · rw [(cntS_zero _ _).2 hA]; rfl
  · have : cntS (names (js.take i)) j.name ≠ 0 := fun h => by rw [cntS_zero, hA] at h; cases h
    symm
    rw [Bool.not_true, beq_eq_false_iff_ne]
    omega
set_option maxHeartbeats 2000000 in
theorem firstWrongJointName_any (ja : Option Addr) (jc : Nat) (js : List MJoint) (w : World) (hj : Hid (JointsAt w ja js)) (hl : js.length ≤ 1000000) (hkk : Hid (∀ q (h : q < js.length), inB js[q].kind 1 4 = true)) :
    Calls Try.prog 66 #[.slice ja js.length jc] w fun e w' => e = .returned (.int .i64 (firstBad (bad4i js) js.length)) ∧ Below w.heap.size w w' := by
  have hmm := @run_makeMap Try.prog
  go_enter Try.func66, Try.ntmps66
  go_wp2_with fail
  have HM := hidQ (CMap.made 9 w)
  rw [← fS_nil] at HM
  go_loopw [11] (fun c wr => ∃ (i : Nat), i ≤ js.length ∧ c = .int .i64 i ∧ Hid (∀ q, q < i → bad4i js q = false) ∧ Hid (CMap 9 wr w.heap.size i (fS (names (js.take i)))) ∧ Below w.heap.size w wr) (fun c _ => js.length - (intOf c).toNat)
  case atStart => exact ⟨0, Nat.zero_le _, rfl, (fun q h => absurd h (Nat.not_lt_zero q)), HM.out, blo⟩
  case round =>
    clear HM hmm
    obtain ⟨i, hi, rfl, HQ, HM, hb⟩ := hrel
    have hbs := hb.size
    by_cases hi' : i < js.length
    · obtain ⟨b1, off1, rfl, hpc⟩ := hj.out.2.2.resolve_left (fun h => by rw [h] at hi'; exact absurd hi' (Nat.not_lt_zero _))
      obtain ⟨c1, c2, ea, ec, c3, c4⟩ := (hpc.below hb) i hi'
      have hsz : js[i].name.size ≤ maxLen := hj.out.2.1 _ (List.getElem_mem hi')
      clear hpc c4
      have HQ2 : Hid (ok4 js i js[i] = true → ∀ q, q < i + 1 → bad4i js q = false) := by
        intro ho q hq
        by_cases e : q < i
        · exact HQ.out q e
        · have : q = i := by omega
          subst this
          rw [bad4i_at hi', ho]; rfl
      have HX : Hid (ok4 js i js[i] = false → firstBad (bad4i js) js.length = i) := fun ho => firstBad_hit hi' (by rw [bad4i_at hi', ho]; rfl) HQ.out
      have hM2 : ∀ o, CMap 9 (wr.alloc o) w.heap.size i (fS (names (js.take i))) := fun o => HM.out.below (show Below wr.heap.size wr (wr.alloc o) from blo)
      have hlk := fun o => (hM2 o).lookup lawS Try.underlying222 (keyS hsz)
      have hcn : 0 ≤ fS (names (js.take i)) (.string js[i].name) ∧ fS (names (js.take i)) (.string js[i].name) ≤ 1000000 := by
        show (0 : Int) ≤ ((cntS _ _ : Nat) : Int) ∧ ((cntS _ _ : Nat) : Int) ≤ 1000000
        have h1 := cntS_le (names (js.take i)) js[i].name
        have h2 := names_len js i
        omega
      have hup := fun o => (hM2 o).update lawS Try.underlying222 (by unfold maxLen; omega) (keyS hsz) (fS (names (js.take i)) (.string js[i].name) + 1) (wf64 (by omega) (by omega)) (fS (names (js.take (i + 1)))) (by rw [names_succ hi', fS_same]; rfl) (by rw [names_succ hi']; exact fS_other _ _)
      have HUP := hidQ hup
      clear hM2 hup HQ HM
      rcases kind_cases (hkk.out i hi') with hk | hk | hk | hk
      · have hok := ok4_low (js := js) (i := i) hk (by omega)
        rw [hk] at c1
        clear hk
        obtain ⟨w3, hup, hM3, hg⟩ := HUP.out (Obj.cells #[Value.int IntKind.i64 1, Value.string js[i].name, Value.slice ea js[i].ends.length ec] 182)
        have HM3 := hidQ hM3
        have hb4 : Below w.heap.size w w3 := Below.grown (show Below w.heap.size w (wr.alloc _) from blo) hg (by simp; omega) (fun j hj => by cases hj; exact Nat.le_refl _)
        clear hM3 hg HUP
        cases ho : ok4 js i js[i]
        · have HX2 := hidQ (HX.out ho)
          rw [ho] at hok
          replace hok := hok.symm
          clear HX HQ2 ho hup HM3 hb4
          go_wp2_with (first | (go_at_call 122; refine (kindOf_1 _).mono ?_; rintro e w' ⟨rfl, rfl⟩) | (go_at_call 136; refine (jointNameOk_1 _ _ _).mono ?_; rintro e w' ⟨rfl, rfl⟩))
          go_ret
          exact ⟨ret_int HX2.out.symm, blo⟩
        · have HQ3 := hidQ (HQ2.out ho)
          rw [ho] at hok
          replace hok := hok.symm
          clear HX HQ2 ho
          go_wp2_with (first | (go_at_call 122; refine (kindOf_1 _).mono ?_; rintro e w' ⟨rfl, rfl⟩) | (go_at_call 136; refine (jointNameOk_1 _ _ _).mono ?_; rintro e w' ⟨rfl, rfl⟩))
          go_roundw
          case rel => exact ⟨i + 1, by omega, by go_num, HQ3, HM3, hb4⟩
          case measure => simp [intOf]; omega
      · have hok := ok4_low (js := js) (i := i) hk (by omega)
        rw [hk] at c1
        clear hk
        obtain ⟨w3, hup, hM3, hg⟩ := HUP.out (Obj.cells #[Value.int IntKind.i64 2, Value.string js[i].name, Value.slice ea js[i].ends.length ec] 182)
        have HM3 := hidQ hM3
        have hb4 : Below w.heap.size w w3 := Below.grown (show Below w.heap.size w (wr.alloc _) from blo) hg (by simp; omega) (fun j hj => by cases hj; exact Nat.le_refl _)
        clear hM3 hg HUP
        cases ho : ok4 js i js[i]
        · have HX2 := hidQ (HX.out ho)
          rw [ho] at hok
          replace hok := hok.symm
          clear HX HQ2 ho hup HM3 hb4
          go_wp2_with (first | (go_at_call 122; refine (kindOf_2 _).mono ?_; rintro e w' ⟨rfl, rfl⟩) | (go_at_call 136; refine (jointNameOk_2 _ _ _).mono ?_; rintro e w' ⟨rfl, rfl⟩))
          go_ret
          exact ⟨ret_int HX2.out.symm, blo⟩
        · have HQ3 := hidQ (HQ2.out ho)
          rw [ho] at hok
          replace hok := hok.symm
          clear HX HQ2 ho
          go_wp2_with (first | (go_at_call 122; refine (kindOf_2 _).mono ?_; rintro e w' ⟨rfl, rfl⟩) | (go_at_call 136; refine (jointNameOk_2 _ _ _).mono ?_; rintro e w' ⟨rfl, rfl⟩))
          go_roundw
          case rel => exact ⟨i + 1, by omega, by go_num, HQ3, HM3, hb4⟩
          case measure => simp [intOf]; omega
      · have hok := ok4_high (js := js) (i := i) hk (by omega)
        rw [hk] at c1
        clear hk
        obtain ⟨w3, hup, hM3, hg⟩ := HUP.out (Obj.cells #[Value.int IntKind.i64 3, Value.string js[i].name, Value.slice ea js[i].ends.length ec] 182)
        have HM3 := hidQ hM3
        have hb4 : Below w.heap.size w w3 := Below.grown (show Below w.heap.size w (wr.alloc _) from blo) hg (by simp; omega) (fun j hj => by cases hj; exact Nat.le_refl _)
        clear hM3 hg HUP
        cases ho : ok4 js i js[i]
        · have HX2 := hidQ (HX.out ho)
          rw [ho] at hok
          replace hok := hok.symm
          clear HX HQ2 ho hup HM3 hb4
          go_wp2_with (first | (go_at_call 122; refine (kindOf_3 _).mono ?_; rintro e w' ⟨rfl, rfl⟩) | (go_at_call 136; refine (jointNameOk_3 _ _ _ _ hsz (hlk _)).mono ?_; rintro e w' ⟨rfl, rfl⟩))
          go_ret
          exact ⟨ret_int HX2.out.symm, blo⟩
        · have HQ3 := hidQ (HQ2.out ho)
          rw [ho] at hok
          replace hok := hok.symm
          clear HX HQ2 ho
          go_wp2_with (first | (go_at_call 122; refine (kindOf_3 _).mono ?_; rintro e w' ⟨rfl, rfl⟩) | (go_at_call 136; refine (jointNameOk_3 _ _ _ _ hsz (hlk _)).mono ?_; rintro e w' ⟨rfl, rfl⟩))
          go_roundw
          case rel => exact ⟨i + 1, by omega, by go_num, HQ3, HM3, hb4⟩
          case measure => simp [intOf]; omega
      · have hok := ok4_high (js := js) (i := i) hk (by omega)
        rw [hk] at c1
        clear hk
        obtain ⟨w3, hup, hM3, hg⟩ := HUP.out (Obj.cells #[Value.int IntKind.i64 4, Value.string js[i].name, Value.slice ea js[i].ends.length ec] 182)
        have HM3 := hidQ hM3
        have hb4 : Below w.heap.size w w3 := Below.grown (show Below w.heap.size w (wr.alloc _) from blo) hg (by simp; omega) (fun j hj => by cases hj; exact Nat.le_refl _)
        clear hM3 hg HUP
        cases ho : ok4 js i js[i]
        · have HX2 := hidQ (HX.out ho)
          rw [ho] at hok
          replace hok := hok.symm
          clear HX HQ2 ho hup HM3 hb4
          go_wp2_with (first | (go_at_call 122; refine (kindOf_4 _).mono ?_; rintro e w' ⟨rfl, rfl⟩) | (go_at_call 136; refine (jointNameOk_4 _ _ _ _ hsz (hlk _)).mono ?_; rintro e w' ⟨rfl, rfl⟩))
          go_ret
          exact ⟨ret_int HX2.out.symm, blo⟩
        · have HQ3 := hidQ (HQ2.out ho)
          rw [ho] at hok
          replace hok := hok.symm
          clear HX HQ2 ho
          go_wp2_with (first | (go_at_call 122; refine (kindOf_4 _).mono ?_; rintro e w' ⟨rfl, rfl⟩) | (go_at_call 136; refine (jointNameOk_4 _ _ _ _ hsz (hlk _)).mono ?_; rintro e w' ⟨rfl, rfl⟩))
          go_roundw
          case rel => exact ⟨i + 1, by omega, by go_num, HQ3, HM3, hb4⟩
          case measure => simp [intOf]; omega
    · have HX := hidQ (firstBad_none (bad := bad4i js) (n := js.length) (fun q h => HQ.out q (by omega)))
      clear HQ HM
      go_wp2_with fail
      go_ret
      exact ⟨ret_int HX.out.symm, hb⟩
end Go.Proofs.Ytmkdgnmmebldgaa
