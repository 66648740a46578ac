import Derived.Test.YtmkdgnmmebldgaaGreatEx2
import Derived.Maps.Own
import Derived.Maps.OwnOps
import Derived.Maps.Views
import Derived.WideKeyEntry
import Derived.DeepKeys4
import Derived.StringKeys
import Derived.Test.YtmkdgnmmebldgaaGreatEx3
import Derived.Test.YtmkdgnmmebldgaaGreatEx4
import Derived.Test.YtmkdgnmmebldgaaGreatEx5
import Derived.Test.YtmkdgnmmebldgaaGreatEx6
namespace Go.Proofs.YtmkdgnmmebldgaaGreat
open Go.RowKit Go.Maps
open Go.ChangeMaps (setBlock heap_setBlock_same)

theorem zeroI (w : World) : (zeroValue 3).run Tryz.prog w = .ok (.int .i64 0) w := by kernel_rfl

/-- Block b is a map of numbers that reads as f says. -/
def CMap (kt : TypeId) (w : World) (b n : Nat) (f : Value → Int) : Prop :=
  ∃ D : DataW Unit, w.ownsMap Tryz.prog kt (plainElem Tryz.prog 3) b n D ∧ IsMap D ∧ ∀ key kl, keyOf Tryz.prog kt key = some kl → D.atKey kl (.lit (.int .i64 0)) = .lit (.int .i64 (f key))

theorem CMap.made (kt : TypeId) (w : World) : CMap kt (w.alloc (.map #[] 0)) w.heap.size 0 (fun _ => 0) :=
  ⟨.map [], World.ownsMap_made w _ _ _, isMap_empty, fun _ _ _ => rfl⟩

theorem CMap.of_block {kt : TypeId} {w w' : World} {b n : Nat} {f : Value → Int} (h : CMap kt w b n f) (e : w'.heap[b]? = w.heap[b]?) : CMap kt w' b n f := by
  obtain ⟨D, ⟨es, clock, hb, r⟩, h2, h3⟩ := h
  exact ⟨D, ⟨es, clock, e.trans hb, r⟩, h2, h3⟩

theorem CMap.lt {kt : TypeId} {w : World} {b n : Nat} {f : Value → Int} (h : CMap kt w b n f) : b < w.heap.size := by
  obtain ⟨D, h1, _⟩ := h
  exact h1.lt

theorem CMap.below {kt : TypeId} {w w' : World} {b n : Nat} {f : Value → Int} (h : CMap kt w b n f) (hb : Below w.heap.size w w') : CMap kt w' b n f := h.of_block (hb.block _ h.lt)

theorem CMap.lookup {kt t : TypeId} {w : World} {b n : Nat} {f : Value → Int} (h : CMap kt w b n f) (K : Keyed Tryz.prog kt) (ht : Tryz.prog.underlying t = some (.map kt 3)) {key : Value} {kl : Lit} (hkey : keyOf Tryz.prog kt key = some kl) :
    (Instr.lookup t (.map (some b)) key false).run Tryz.prog w = .ok (.int .i64 (f key)) w := by
  obtain ⟨D, h1, _, h3⟩ := h
  obtain ⟨c, hrun, hat, _⟩ := h1.lookup_int K ht Tryz.underlying3 (zeroI w) hkey
  have e := (h3 key kl hkey).symm.trans hat
  simp only [DataW.lit.injEq, Lit.int.injEq, true_and] at e
  rw [hrun, e]

theorem CMap.update {kt t : TypeId} {w : World} {b n : Nat} {f : Value → Int} (h : CMap kt w b n f) (K : Keyed Tryz.prog kt) (ht : Tryz.prog.underlying t = some (.map kt 3)) (hn : n < maxLen) {key : Value} {kl : Lit} (hkey : keyOf Tryz.prog kt key = some kl)
    (v : Int) (hv : (Lit.int .i64 v).wf = true) (f' : Value → Int) (h1 : f' key = v) (h2 : ∀ k, k ≠ key → f' k = f k) :
    ∃ w', (Instr.mapUpdate t (.map (some b)) key (.int .i64 v)).run Tryz.prog w = .ok () w' ∧ CMap kt w' b (n + 1) f' ∧ w.grownBy w' (some b) := by
  obtain ⟨D, ho, hm, h3⟩ := h
  obtain ⟨w', hrun, hown, hg⟩ := ho.update K ht hn hkey (plainElem_int Tryz.underlying3 hv)
  refine ⟨w', hrun, ⟨_, hown, hm.put _ _, fun k l hk => ?_⟩, hg⟩
  by_cases e : k = key
  · subst e
    have : l = kl := by rw [hk] at hkey; injection hkey
    subst this
    rw [atKey_put_same hm (K.key hk), h1]
  · have hl : l ≠ kl := by
      intro el
      rw [el] at hk
      exact e (K.inj hk hkey)
    rw [atKey_put_other hl, h3 k l hk, h2 k e]

theorem lawS : Keyed Tryz.prog 9 := string_keyed Tryz.underlying9
theorem keyS {s : ByteArray} (h : s.size ≤ maxLen) : keyOf Tryz.prog 9 (.string s) = some (.string s.data.toList) := Go.WideMaps.keyOf_string_mk Tryz.underlying9 h

/-- How often a name stands among names. -/
def cntS (l : List ByteArray) (s : ByteArray) : Nat := l.countP fun t => decide (t = s)
def fS (l : List ByteArray) : Value → Int
  | .string s => cntS l s
  | _ => 0
theorem fS_nil : fS [] = fun _ => 0 := by
  funext v
  cases v <;> rfl
theorem fS_same (l : List ByteArray) (s : ByteArray) : fS (l ++ [s]) (.string s) = cntS l s + 1 := by
  show ((cntS (l ++ [s]) s : Nat) : Int) = _
  unfold cntS
  rw [List.countP_append]
  simp
theorem fS_other (l : List ByteArray) (s : ByteArray) : ∀ k, k ≠ .string s → fS (l ++ [s]) k = fS l k := by
  intro k hk
  cases k <;> try rfl
  rename_i t
  have hne : ¬ s = t := fun e => hk (by rw [e])
  show ((cntS (l ++ [s]) t : Nat) : Int) = ((cntS l t : Nat) : Int)
  unfold cntS
  rw [List.countP_append]
  simp [hne]
theorem cntS_le (l : List ByteArray) (s : ByteArray) : cntS l s ≤ l.length := List.countP_le_length
theorem cntS_zero (l : List ByteArray) (s : ByteArray) : cntS l s = 0 ↔ aheadB l s = false := by
  unfold cntS aheadB
  rw [List.countP_eq_zero, List.any_eq_false]

theorem wf64 {v : Int} (h0 : 0 ≤ v) (h1 : v ≤ 1000000000) : (Lit.int .i64 v).wf = true := WalkArith.wf_i64 (by omega)

end Go.Proofs.YtmkdgnmmebldgaaGreat

namespace Go.Proofs.YtmkdgnmmebldgaaGreat
open Go.RowKit

theorem bcellM {W w1 : World} (hb : Below W.heap.size W w1) : (∀ b o, b < W.heap.size → w1.cell? ⟨b, o, none⟩ = W.cell? ⟨b, o, none⟩) :=
  fun b o h => hb.cell (p := ⟨b, o, none⟩) h

theorem badPi_of_bad {ps : List MPiece} {i : Nat} (h : i < ps.length) (hp : pieceB ps[i].name ps[i].len ps[i].speed ps[i].brake = false) : badPi ps i = true := by
  rw [badPi_at h]; simp [okP, hp]
theorem namesP_succ {ps : List MPiece} {i : Nat} (h : i < ps.length) : namesP (ps.take (i + 1)) = namesP (ps.take i) ++ [ps[i].name] := by
  unfold namesP
  rw [List.take_succ_eq_append_getElem h, List.map_append]
  rfl

set_option maxHeartbeats 1000000 in
theorem firstWrongPiece_any (pa : Option Addr) (pc : Nat) (ps : List MPiece) (w : World) (hp : Hid (PiecesAt w pa ps)) (hl : ps.length ≤ 1000000) :
    Calls Tryz.prog 102 #[.slice pa ps.length pc] w fun e w' => e = .returned (.int .i64 (firstBad (badPi ps) ps.length)) ∧ Below w.heap.size w w' := by
  have hmm := @run_makeMap Tryz.prog
  go_enter Tryz.func102, Tryz.ntmps102
  go_wp2_with fail
  have HM := hidQ (CMap.made 9 w)
  rw [← fS_nil] at HM
  go_loopw [9] (fun c wr => ∃ (i : Nat), i ≤ ps.length ∧ c = .int .i64 i ∧ Hid (∀ q, q < i → badPi ps q = false) ∧ Hid (CMap 9 wr w.heap.size i (fS (namesP (ps.take i)))) ∧ Below w.heap.size w wr) (fun c _ => ps.length - (intOf c).toNat)
  case atStart => exact ⟨0, Nat.zero_le _, rfl, (fun q h => absurd h (Nat.not_lt_zero q)), HM.out, (by repeat (first | exact Below.refl _ _ | assumption | refine Below.drew ?_ | refine bdrewN ?_ _ | refine Below.setCell ?_ (by first | omega | (simp; done) | (simp; omega)) _ | refine Below.alloc ?_ (by first | omega | (simp; done) | (simp; omega)) _))⟩
  case round =>
    clear HM hmm
    obtain ⟨i, hi, rfl, HQ, HM, hb⟩ := hrel
    have hbs := hb.size
    by_cases hi' : i < ps.length
    · obtain ⟨b1, off1, rfl, hpc⟩ := hp.out.2.2.resolve_left (fun h => by rw [h] at hi'; exact absurd hi' (Nat.not_lt_zero _))
      obtain ⟨c1, c2, c3, c4⟩ := (hpc.below hb) i hi'
      have hsz : ps[i].name.size ≤ maxLen := hp.out.2.1 _ (List.getElem_mem hi')
      clear hpc
      go_wp2_with fail
      refine (pieceOk_any _ _ _ _ _ hsz).mono ?_
      rintro e w2 ⟨rfl, hb2⟩
      have hc2 := bcellM hb2
      have hb3 : Below w.heap.size w w2 := Below.trans (by repeat (first | exact Below.refl _ _ | assumption | refine Below.drew ?_ | refine bdrewN ?_ _ | refine Below.setCell ?_ (by first | omega | (simp; done) | (simp; omega)) _ | refine Below.alloc ?_ (by first | omega | (simp; done) | (simp; omega)) _)) (hb2.mono (by simp; omega))
      have hM2 : CMap 9 w2 w.heap.size i (fS (namesP (ps.take i))) := (HM.out.below (show Below wr.heap.size wr (wr.alloc _) from (by repeat (first | exact Below.refl _ _ | assumption | refine Below.drew ?_ | refine bdrewN ?_ _ | refine Below.setCell ?_ (by first | omega | (simp; done) | (simp; omega)) _ | refine Below.alloc ?_ (by first | omega | (simp; done) | (simp; omega)) _)))).below hb2
      clear hb hb2 c1 c2 c3 c4 HM
      cases hP : pieceB ps[i].name ps[i].len ps[i].speed ps[i].brake
      · have HX := hidQ (firstBad_hit hi' (badPi_of_bad hi' hP) HQ.out)
        clear hP hM2
        go_wp2_with fail
        go_ret
        exact ⟨ret_int HX.out.symm, hb3⟩
      · have hlk := hM2.lookup lawS Tryz.underlying188 (keyS hsz)
        cases hA : aheadB (namesP (ps.take i)) ps[i].name
        · have h0 : fS (namesP (ps.take i)) (.string ps[i].name) = 0 := by
            show ((cntS _ _ : Nat) : Int) = 0
            rw [(cntS_zero _ _).2 hA]; rfl
          rw [h0] at hlk
          obtain ⟨w3, hup, hM3, hg⟩ := hM2.update lawS Tryz.underlying188 (by unfold maxLen; omega) (keyS hsz) 1 (wf64 (by omega) (by omega)) (fS (namesP (ps.take (i + 1)))) (by rw [namesP_succ hi', fS_same, (cntS_zero _ _).2 hA]; rfl) (by rw [namesP_succ hi']; exact fS_other _ _)
          have HM3 := hidQ hM3
          have hb4 : Below w.heap.size w w3 := hb3.grown hg hb3.size (fun j hj => by cases hj; exact Nat.le_refl _)
          have HQ2 : Hid (∀ q, q < i + 1 → badPi ps q = false) := by
            intro q hq
            by_cases e : q < i
            · exact HQ.out q e
            · have : q = i := by omega
              subst this
              rw [badPi_at hi', okP, hP, hA]
              rfl
          clear hP hA h0 hM2 hM3 hg hb3 HQ
          go_wp2_with fail
          go_roundw
          case rel => exact ⟨i + 1, by omega, by go_num, HQ2, HM3, hb4⟩
          case measure => simp [intOf]; omega
        · have HX := hidQ (firstBad_hit hi' (by rw [badPi_at hi']; simp [okP, hA]) HQ.out)
          have hpos : 0 < fS (namesP (ps.take i)) (.string ps[i].name) := by
            show (0 : Int) < ((cntS _ _ : Nat) : Int)
            have : cntS (namesP (ps.take i)) ps[i].name ≠ 0 := fun h => by rw [cntS_zero, hA] at h; cases h
            omega
          generalize fS (namesP (ps.take i)) (.string ps[i].name) = c0 at hlk hpos
          clear hP hA hM2
          go_wp2_with fail
          go_ret
          exact ⟨ret_int HX.out.symm, hb3⟩
    · have HX := hidQ (firstBad_none (bad := badPi ps) (n := ps.length) (fun q h => HQ.out q (by omega)))
      clear HQ HM
      go_wp2_with fail
      go_ret
      exact ⟨ret_int HX.out.symm, hb⟩

end Go.Proofs.YtmkdgnmmebldgaaGreat

namespace Go.Proofs.YtmkdgnmmebldgaaGreat
open Go.RowKit

theorem kind_cases {k : Int} (h : inB k 1 4 = true) : k = 1 ∨ k = 2 ∨ k = 3 ∨ k = 4 := by
  unfold inB at h
  simp at h
  omega

theorem jointOk_any (j : MJoint) (ea : Option Addr) (ec np : Nat) (w : World) (he : Hid (EndsAt w ea j.ends)) (hnp : np ≤ maxLen) :
    Calls Tryz.prog 121 #[.agg #[.int .i64 j.kind, .string j.name, .slice ea j.ends.length ec], .int .i64 np] w fun e w' => e = .returned (.bool (ok3 np j)) ∧ Below w.heap.size w w' := by
  cases hk : inB j.kind 1 4
  · exact jointOk_no j ea ec np w hk
  · obtain ⟨kd, s, es⟩ := j
    rcases kind_cases hk with h | h | h | h
    · obtain rfl : kd = 1 := h
      exact jointOk_1 s es ea ec np w he hnp
    · obtain rfl : kd = 2 := h
      exact jointOk_2 s es ea ec np w he hnp
    · obtain rfl : kd = 3 := h
      exact jointOk_3 s es ea ec np w he hnp
    · obtain rfl : kd = 4 := h
      exact jointOk_4 s es ea ec np w he hnp

set_option maxHeartbeats 1000000 in
theorem firstWrongJoint_any (pa ja : Option Addr) (pl pc jc : Nat) (js : List MJoint) (w : World) (hj : Hid (JointsAt w ja js)) (hpl : pl ≤ maxLen) :
    Calls Tryz.prog 103 #[.agg #[.slice pa pl pc, .slice ja js.length jc]] w fun e w' => e = .returned (.int .i64 (firstBad (bad3i pl js) js.length)) ∧ Below w.heap.size w w' := by
  have hl := hj.out.1
  unfold maxLen at hl
  go_enter Tryz.func103, Tryz.ntmps103
  go_wp2_with fail
  generalize hW : w.alloc (Obj.cells #[Value.slice pa pl pc, Value.slice ja js.length jc] 34) = W
  have e0 : W.cell? ⟨w.heap.size, 0, none⟩ = some (.slice pa pl pc) := by rw [← hW]; simp [go_sem]
  have hz : w.heap.size + 1 = W.heap.size := by rw [← hW]; simp
  have hbW : Below w.heap.size w W := by rw [← hW]; exact (by repeat (first | exact Below.refl _ _ | assumption | refine Below.drew ?_ | refine bdrewN ?_ _ | refine Below.setCell ?_ (by first | omega | (simp; done) | (simp; omega)) _ | refine Below.alloc ?_ (by first | omega | (simp; done) | (simp; omega)) _))
  clear hW
  go_loopw [8] (fun c wr => ∃ (i : Nat), i ≤ js.length ∧ c = .int .i64 i ∧ Hid (∀ q, q < i → bad3i pl js q = false) ∧ Below W.heap.size W wr) (fun c _ => js.length - (intOf c).toNat)
  case atStart => exact ⟨0, Nat.zero_le _, rfl, (fun q h => absurd h (Nat.not_lt_zero q)), (by repeat (first | exact Below.refl _ _ | assumption | refine Below.drew ?_ | refine bdrewN ?_ _ | refine Below.setCell ?_ (by first | omega | (simp; done) | (simp; omega)) _ | refine Below.alloc ?_ (by first | omega | (simp; done) | (simp; omega)) _))⟩
  case round =>
    obtain ⟨i, hi, rfl, HQ, hb⟩ := hrel
    have hbs := hb.size
    have hz2 : w.heap.size < wr.heap.size := by omega
    have e0' := cell_later hb e0
    by_cases hi' : i < js.length
    · obtain ⟨b1, off1, rfl, hpc⟩ := hj.out.2.2.resolve_left (fun h => by rw [h] at hi'; exact absurd hi' (Nat.not_lt_zero _))
      obtain ⟨c1, c2, ea, ec, c3, c4⟩ := ((hpc.below hbW).below hb) i hi'
      have C4 := hidQ c4
      clear hpc c4
      go_wp2_with fail
      refine (jointOk_any js[i] _ _ _ _ (C4.out.below (by repeat (first | exact Below.refl _ _ | assumption | refine Below.drew ?_ | refine bdrewN ?_ _ | refine Below.setCell ?_ (by first | omega | (simp; done) | (simp; omega)) _ | refine Below.alloc ?_ (by first | omega | (simp; done) | (simp; omega)) _))) hpl).mono ?_
      rintro e w2 ⟨rfl, hb2⟩
      have hb3 : Below W.heap.size W w2 := Below.trans (by repeat (first | exact Below.refl _ _ | assumption | refine Below.drew ?_ | refine bdrewN ?_ _ | refine Below.setCell ?_ (by first | omega | (simp; done) | (simp; omega)) _ | refine Below.alloc ?_ (by first | omega | (simp; done) | (simp; omega)) _)) (hb2.mono (by simp; omega))
      clear hb hb2 c1 c2 c3 e0'
      cases ho : ok3 pl js[i]
      · have HX := hidQ (firstBad_hit hi' (by rw [bad3i_at hi', ho]; rfl) HQ.out)
        clear ho
        go_wp2_with fail
        go_ret
        exact ⟨ret_int HX.out.symm, hbW.trans (hb3.mono hbW.size)⟩
      · have HQ2 : Hid (∀ q, q < i + 1 → bad3i pl js q = false) := by
          intro q hq
          by_cases e : q < i
          · exact HQ.out q e
          · have : q = i := by omega
            subst this
            rw [bad3i_at hi', ho]; rfl
        clear ho HQ
        go_wp2_with fail
        go_roundw
        case rel => exact ⟨i + 1, by omega, by go_num, HQ2, hb3⟩
        case measure => simp [intOf]; omega
    · have HX := hidQ (firstBad_none (bad := bad3i pl js) (n := js.length) (fun q h => HQ.out q (by omega)))
      clear HQ
      go_wp2_with fail
      go_ret
      exact ⟨ret_int HX.out.symm, hbW.trans (hb.mono hbW.size)⟩

set_option maxHeartbeats 400000 in
theorem jointNameOk_1 (s : ByteArray) (m : Option Nat) (w : World) :
    Calls Tryz.prog 122 #[.iface 157 (.agg #[]), .string s, .map m] w fun e w' => e = .returned (.bool (decide (s = ⟨#[]⟩))) ∧ w' = w := by
  by_cases h : s = ⟨#[]⟩
  · subst h
    go_enter Tryz.func122, Tryz.ntmps122
    go_wp2_with (go_at_call 131; refine (hasName_1 _).mono ?_; rintro e w' ⟨rfl, rfl⟩)
    go_ret
    exact ⟨rfl, rfl⟩
  · have HX : Hid (decide (s = (⟨#[]⟩ : ByteArray)) = false) := by unfold Hid; simp [h]
    have h' := emptyS_ne h
    clear h
    go_enter Tryz.func122, Tryz.ntmps122
    go_wp2_with (go_at_call 131; refine (hasName_1 _).mono ?_; rintro e w' ⟨rfl, rfl⟩)
    go_ret
    exact ⟨ret_bool HX.out.symm, rfl⟩

set_option maxHeartbeats 400000 in
theorem jointNameOk_2 (s : ByteArray) (m : Option Nat) (w : World) :
    Calls Tryz.prog 122 #[.iface 158 (.agg #[]), .string s, .map m] w fun e w' => e = .returned (.bool (decide (s = ⟨#[]⟩))) ∧ w' = w := by
  by_cases h : s = ⟨#[]⟩
  · subst h
    go_enter Tryz.func122, Tryz.ntmps122
    go_wp2_with (go_at_call 131; refine (hasName_2 _).mono ?_; rintro e w' ⟨rfl, rfl⟩)
    go_ret
    exact ⟨rfl, rfl⟩
  · have HX : Hid (decide (s = (⟨#[]⟩ : ByteArray)) = false) := by unfold Hid; simp [h]
    have h' := emptyS_ne h
    clear h
    go_enter Tryz.func122, Tryz.ntmps122
    go_wp2_with (go_at_call 131; refine (hasName_2 _).mono ?_; rintro e w' ⟨rfl, rfl⟩)
    go_ret
    exact ⟨ret_bool HX.out.symm, rfl⟩

set_option maxHeartbeats 400000 in
theorem jointNameOk_3 (s : ByteArray) (b : Nat) (c : Int) (w : World) (hs : s.size ≤ maxLen) (hl : (Instr.lookup 188 (.map (some b)) (.string s) false).run Tryz.prog w = .ok (.int .i64 c) w) :
    Calls Tryz.prog 122 #[.iface 159 (.agg #[]), .string s, .map (some b)] w fun e w' => e = .returned (.bool (nameB s && (c == 0))) ∧ w' = w := by
  cases h : nameB s
  · go_enter Tryz.func122, Tryz.ntmps122
    go_wp2_with (first | (go_at_call 131; refine (hasName_3 _).mono ?_; rintro e w' ⟨rfl, rfl⟩) | (go_at_call 123; refine (nameOk_any _ _ hs).mono ?_; rintro e w' ⟨rfl, rfl⟩))
    go_ret
    exact ⟨rfl, rfl⟩
  · go_enter Tryz.func122, Tryz.ntmps122
    go_wp2_with (first | (go_at_call 131; refine (hasName_3 _).mono ?_; rintro e w' ⟨rfl, rfl⟩) | (go_at_call 123; refine (nameOk_any _ _ hs).mono ?_; rintro e w' ⟨rfl, rfl⟩))
    go_ret
    exact ⟨ret_bool (by simp), rfl⟩

set_option maxHeartbeats 400000 in
theorem jointNameOk_4 (s : ByteArray) (b : Nat) (c : Int) (w : World) (hs : s.size ≤ maxLen) (hl : (Instr.lookup 188 (.map (some b)) (.string s) false).run Tryz.prog w = .ok (.int .i64 c) w) :
    Calls Tryz.prog 122 #[.iface 160 (.agg #[]), .string s, .map (some b)] w fun e w' => e = .returned (.bool (nameB s && (c == 0))) ∧ w' = w := by
  cases h : nameB s
  · go_enter Tryz.func122, Tryz.ntmps122
    go_wp2_with (first | (go_at_call 131; refine (hasName_4 _).mono ?_; rintro e w' ⟨rfl, rfl⟩) | (go_at_call 123; refine (nameOk_any _ _ hs).mono ?_; rintro e w' ⟨rfl, rfl⟩))
    go_ret
    exact ⟨rfl, rfl⟩
  · go_enter Tryz.func122, Tryz.ntmps122
    go_wp2_with (first | (go_at_call 131; refine (hasName_4 _).mono ?_; rintro e w' ⟨rfl, rfl⟩) | (go_at_call 123; refine (nameOk_any _ _ hs).mono ?_; rintro e w' ⟨rfl, rfl⟩))
    go_ret
    exact ⟨ret_bool (by simp), rfl⟩

end Go.Proofs.YtmkdgnmmebldgaaGreat

namespace Go.Proofs.YtmkdgnmmebldgaaGreat
open Go.RowKit

theorem names_succ {ps : List MJoint} {i : Nat} (h : i < ps.length) : names (ps.take (i + 1)) = names (ps.take i) ++ [ps[i].name] := by
  unfold names
  rw [List.take_succ_eq_append_getElem h, List.map_append]
  rfl
theorem names_len (ps : List MJoint) (i : Nat) : (names (ps.take i)).length ≤ i := by
  unfold names
  rw [List.length_map]
  exact List.length_take_le _ _
theorem ok4_low {js : List MJoint} {i : Nat} {j : MJoint} {k : Int} (hk : j.kind = k) (h3 : k < 3) : ok4 js i j = decide (j.name = ⟨#[]⟩) := by
  unfold ok4
  rw [hk, if_pos h3]
theorem ok4_high {js : List MJoint} {i : Nat} {j : MJoint} {k : Int} (hk : j.kind = k) (h3 : ¬ k < 3) : ok4 js i j = (nameB j.name && (fS (names (js.take i)) (.string j.name) == 0)) := by
  unfold ok4
  rw [hk, if_neg h3]
  congr 1
  show (!aheadB (names (js.take i)) j.name) = (((cntS (names (js.take i)) j.name : Nat) : Int) == 0)
  cases hA : aheadB (names (js.take i)) j.name
  · rw [(cntS_zero _ _).2 hA]; rfl
  · have : cntS (names (js.take i)) j.name ≠ 0 := fun h => by rw [cntS_zero, hA] at h; cases h
    symm
    rw [Bool.not_true, beq_eq_false_iff_ne]
    omega

set_option maxHeartbeats 2000000 in
theorem firstWrongJointName_any (ja : Option Addr) (jc : Nat) (js : List MJoint) (w : World) (hj : Hid (JointsAt w ja js)) (hl : js.length ≤ 1000000) (hkk : Hid (∀ q (h : q < js.length), inB js[q].kind 1 4 = true)) :
    Calls Tryz.prog 104 #[.slice ja js.length jc] w fun e w' => e = .returned (.int .i64 (firstBad (bad4i js) js.length)) ∧ Below w.heap.size w w' := by
  have hmm := @run_makeMap Tryz.prog
  go_enter Tryz.func104, Tryz.ntmps104
  go_wp2_with fail
  have HM := hidQ (CMap.made 9 w)
  rw [← fS_nil] at HM
  go_loopw [11] (fun c wr => ∃ (i : Nat), i ≤ js.length ∧ c = .int .i64 i ∧ Hid (∀ q, q < i → bad4i js q = false) ∧ Hid (CMap 9 wr w.heap.size i (fS (names (js.take i)))) ∧ Below w.heap.size w wr) (fun c _ => js.length - (intOf c).toNat)
  case atStart => exact ⟨0, Nat.zero_le _, rfl, (fun q h => absurd h (Nat.not_lt_zero q)), HM.out, (by repeat (first | exact Below.refl _ _ | assumption | refine Below.drew ?_ | refine bdrewN ?_ _ | refine Below.setCell ?_ (by first | omega | (simp; done) | (simp; omega)) _ | refine Below.alloc ?_ (by first | omega | (simp; done) | (simp; omega)) _))⟩
  case round =>
    clear HM hmm
    obtain ⟨i, hi, rfl, HQ, HM, hb⟩ := hrel
    have hbs := hb.size
    by_cases hi' : i < js.length
    · obtain ⟨b1, off1, rfl, hpc⟩ := hj.out.2.2.resolve_left (fun h => by rw [h] at hi'; exact absurd hi' (Nat.not_lt_zero _))
      obtain ⟨c1, c2, ea, ec, c3, c4⟩ := (hpc.below hb) i hi'
      have hsz : js[i].name.size ≤ maxLen := hj.out.2.1 _ (List.getElem_mem hi')
      clear hpc c4
      have HQ2 : Hid (ok4 js i js[i] = true → ∀ q, q < i + 1 → bad4i js q = false) := by
        intro ho q hq
        by_cases e : q < i
        · exact HQ.out q e
        · have : q = i := by omega
          subst this
          rw [bad4i_at hi', ho]; rfl
      have HX : Hid (ok4 js i js[i] = false → firstBad (bad4i js) js.length = i) := fun ho => firstBad_hit hi' (by rw [bad4i_at hi', ho]; rfl) HQ.out
      have hM2 : ∀ o, CMap 9 (wr.alloc o) w.heap.size i (fS (names (js.take i))) := fun o => HM.out.below (show Below wr.heap.size wr (wr.alloc o) from (by repeat (first | exact Below.refl _ _ | assumption | refine Below.drew ?_ | refine bdrewN ?_ _ | refine Below.setCell ?_ (by first | omega | (simp; done) | (simp; omega)) _ | refine Below.alloc ?_ (by first | omega | (simp; done) | (simp; omega)) _)))
      have hlk := fun o => (hM2 o).lookup lawS Tryz.underlying188 (keyS hsz)
      have hcn : 0 ≤ fS (names (js.take i)) (.string js[i].name) ∧ fS (names (js.take i)) (.string js[i].name) ≤ 1000000 := by
        show (0 : Int) ≤ ((cntS _ _ : Nat) : Int) ∧ ((cntS _ _ : Nat) : Int) ≤ 1000000
        have h1 := cntS_le (names (js.take i)) js[i].name
        have h2 := names_len js i
        omega
      have hup := fun o => (hM2 o).update lawS Tryz.underlying188 (by unfold maxLen; omega) (keyS hsz) (fS (names (js.take i)) (.string js[i].name) + 1) (wf64 (by omega) (by omega)) (fS (names (js.take (i + 1)))) (by rw [names_succ hi', fS_same]; rfl) (by rw [names_succ hi']; exact fS_other _ _)
      have HUP := hidQ hup
      clear hM2 hup HQ HM
      rcases kind_cases (hkk.out i hi') with hk | hk | hk | hk
      · have hok := ok4_low (js := js) (i := i) hk (by omega)
        rw [hk] at c1
        clear hk
        obtain ⟨w3, hup, hM3, hg⟩ := HUP.out (Obj.cells #[Value.int IntKind.i64 1, Value.string js[i].name, Value.slice ea js[i].ends.length ec] 115)
        have HM3 := hidQ hM3
        have hb4 : Below w.heap.size w w3 := Below.grown (show Below w.heap.size w (wr.alloc _) from (by repeat (first | exact Below.refl _ _ | assumption | refine Below.drew ?_ | refine bdrewN ?_ _ | refine Below.setCell ?_ (by first | omega | (simp; done) | (simp; omega)) _ | refine Below.alloc ?_ (by first | omega | (simp; done) | (simp; omega)) _))) hg (by simp; omega) (fun j hj => by cases hj; exact Nat.le_refl _)
        clear hM3 hg HUP
        cases ho : ok4 js i js[i]
        · have HX2 := hidQ (HX.out ho)
          rw [ho] at hok
          replace hok := hok.symm
          clear HX HQ2 ho hup HM3 hb4
          go_wp2_with (first | (go_at_call 64; refine (kindOf_1 _).mono ?_; rintro e w' ⟨rfl, rfl⟩) | (go_at_call 122; refine (jointNameOk_1 _ _ _).mono ?_; rintro e w' ⟨rfl, rfl⟩))
          go_ret
          exact ⟨ret_int HX2.out.symm, (by repeat (first | exact Below.refl _ _ | assumption | refine Below.drew ?_ | refine bdrewN ?_ _ | refine Below.setCell ?_ (by first | omega | (simp; done) | (simp; omega)) _ | refine Below.alloc ?_ (by first | omega | (simp; done) | (simp; omega)) _))⟩
        · have HQ3 := hidQ (HQ2.out ho)
          rw [ho] at hok
          replace hok := hok.symm
          clear HX HQ2 ho
          go_wp2_with (first | (go_at_call 64; refine (kindOf_1 _).mono ?_; rintro e w' ⟨rfl, rfl⟩) | (go_at_call 122; refine (jointNameOk_1 _ _ _).mono ?_; rintro e w' ⟨rfl, rfl⟩))
          go_roundw
          case rel => exact ⟨i + 1, by omega, by go_num, HQ3, HM3, hb4⟩
          case measure => simp [intOf]; omega
      · have hok := ok4_low (js := js) (i := i) hk (by omega)
        rw [hk] at c1
        clear hk
        obtain ⟨w3, hup, hM3, hg⟩ := HUP.out (Obj.cells #[Value.int IntKind.i64 2, Value.string js[i].name, Value.slice ea js[i].ends.length ec] 115)
        have HM3 := hidQ hM3
        have hb4 : Below w.heap.size w w3 := Below.grown (show Below w.heap.size w (wr.alloc _) from (by repeat (first | exact Below.refl _ _ | assumption | refine Below.drew ?_ | refine bdrewN ?_ _ | refine Below.setCell ?_ (by first | omega | (simp; done) | (simp; omega)) _ | refine Below.alloc ?_ (by first | omega | (simp; done) | (simp; omega)) _))) hg (by simp; omega) (fun j hj => by cases hj; exact Nat.le_refl _)
        clear hM3 hg HUP
        cases ho : ok4 js i js[i]
        · have HX2 := hidQ (HX.out ho)
          rw [ho] at hok
          replace hok := hok.symm
          clear HX HQ2 ho hup HM3 hb4
          go_wp2_with (first | (go_at_call 64; refine (kindOf_2 _).mono ?_; rintro e w' ⟨rfl, rfl⟩) | (go_at_call 122; refine (jointNameOk_2 _ _ _).mono ?_; rintro e w' ⟨rfl, rfl⟩))
          go_ret
          exact ⟨ret_int HX2.out.symm, (by repeat (first | exact Below.refl _ _ | assumption | refine Below.drew ?_ | refine bdrewN ?_ _ | refine Below.setCell ?_ (by first | omega | (simp; done) | (simp; omega)) _ | refine Below.alloc ?_ (by first | omega | (simp; done) | (simp; omega)) _))⟩
        · have HQ3 := hidQ (HQ2.out ho)
          rw [ho] at hok
          replace hok := hok.symm
          clear HX HQ2 ho
          go_wp2_with (first | (go_at_call 64; refine (kindOf_2 _).mono ?_; rintro e w' ⟨rfl, rfl⟩) | (go_at_call 122; refine (jointNameOk_2 _ _ _).mono ?_; rintro e w' ⟨rfl, rfl⟩))
          go_roundw
          case rel => exact ⟨i + 1, by omega, by go_num, HQ3, HM3, hb4⟩
          case measure => simp [intOf]; omega
      · have hok := ok4_high (js := js) (i := i) hk (by omega)
        rw [hk] at c1
        clear hk
        obtain ⟨w3, hup, hM3, hg⟩ := HUP.out (Obj.cells #[Value.int IntKind.i64 3, Value.string js[i].name, Value.slice ea js[i].ends.length ec] 115)
        have HM3 := hidQ hM3
        have hb4 : Below w.heap.size w w3 := Below.grown (show Below w.heap.size w (wr.alloc _) from (by repeat (first | exact Below.refl _ _ | assumption | refine Below.drew ?_ | refine bdrewN ?_ _ | refine Below.setCell ?_ (by first | omega | (simp; done) | (simp; omega)) _ | refine Below.alloc ?_ (by first | omega | (simp; done) | (simp; omega)) _))) hg (by simp; omega) (fun j hj => by cases hj; exact Nat.le_refl _)
        clear hM3 hg HUP
        cases ho : ok4 js i js[i]
        · have HX2 := hidQ (HX.out ho)
          rw [ho] at hok
          replace hok := hok.symm
          clear HX HQ2 ho hup HM3 hb4
          go_wp2_with (first | (go_at_call 64; refine (kindOf_3 _).mono ?_; rintro e w' ⟨rfl, rfl⟩) | (go_at_call 122; refine (jointNameOk_3 _ _ _ _ hsz (hlk _)).mono ?_; rintro e w' ⟨rfl, rfl⟩))
          go_ret
          exact ⟨ret_int HX2.out.symm, (by repeat (first | exact Below.refl _ _ | assumption | refine Below.drew ?_ | refine bdrewN ?_ _ | refine Below.setCell ?_ (by first | omega | (simp; done) | (simp; omega)) _ | refine Below.alloc ?_ (by first | omega | (simp; done) | (simp; omega)) _))⟩
        · have HQ3 := hidQ (HQ2.out ho)
          rw [ho] at hok
          replace hok := hok.symm
          clear HX HQ2 ho
          go_wp2_with (first | (go_at_call 64; refine (kindOf_3 _).mono ?_; rintro e w' ⟨rfl, rfl⟩) | (go_at_call 122; refine (jointNameOk_3 _ _ _ _ hsz (hlk _)).mono ?_; rintro e w' ⟨rfl, rfl⟩))
          go_roundw
          case rel => exact ⟨i + 1, by omega, by go_num, HQ3, HM3, hb4⟩
          case measure => simp [intOf]; omega
      · have hok := ok4_high (js := js) (i := i) hk (by omega)
        rw [hk] at c1
        clear hk
        obtain ⟨w3, hup, hM3, hg⟩ := HUP.out (Obj.cells #[Value.int IntKind.i64 4, Value.string js[i].name, Value.slice ea js[i].ends.length ec] 115)
        have HM3 := hidQ hM3
        have hb4 : Below w.heap.size w w3 := Below.grown (show Below w.heap.size w (wr.alloc _) from (by repeat (first | exact Below.refl _ _ | assumption | refine Below.drew ?_ | refine bdrewN ?_ _ | refine Below.setCell ?_ (by first | omega | (simp; done) | (simp; omega)) _ | refine Below.alloc ?_ (by first | omega | (simp; done) | (simp; omega)) _))) hg (by simp; omega) (fun j hj => by cases hj; exact Nat.le_refl _)
        clear hM3 hg HUP
        cases ho : ok4 js i js[i]
        · have HX2 := hidQ (HX.out ho)
          rw [ho] at hok
          replace hok := hok.symm
          clear HX HQ2 ho hup HM3 hb4
          go_wp2_with (first | (go_at_call 64; refine (kindOf_4 _).mono ?_; rintro e w' ⟨rfl, rfl⟩) | (go_at_call 122; refine (jointNameOk_4 _ _ _ _ hsz (hlk _)).mono ?_; rintro e w' ⟨rfl, rfl⟩))
          go_ret
          exact ⟨ret_int HX2.out.symm, (by repeat (first | exact Below.refl _ _ | assumption | refine Below.drew ?_ | refine bdrewN ?_ _ | refine Below.setCell ?_ (by first | omega | (simp; done) | (simp; omega)) _ | refine Below.alloc ?_ (by first | omega | (simp; done) | (simp; omega)) _))⟩
        · have HQ3 := hidQ (HQ2.out ho)
          rw [ho] at hok
          replace hok := hok.symm
          clear HX HQ2 ho
          go_wp2_with (first | (go_at_call 64; refine (kindOf_4 _).mono ?_; rintro e w' ⟨rfl, rfl⟩) | (go_at_call 122; refine (jointNameOk_4 _ _ _ _ hsz (hlk _)).mono ?_; rintro e w' ⟨rfl, rfl⟩))
          go_roundw
          case rel => exact ⟨i + 1, by omega, by go_num, HQ3, HM3, hb4⟩
          case measure => simp [intOf]; omega
    · have HX := hidQ (firstBad_none (bad := bad4i js) (n := js.length) (fun q h => HQ.out q (by omega)))
      clear HQ HM
      go_wp2_with fail
      go_ret
      exact ⟨ret_int HX.out.symm, hb⟩

end Go.Proofs.YtmkdgnmmebldgaaGreat

namespace Go.Proofs.YtmkdgnmmebldgaaGreat
open Go.RowKit Go.Maps
open Go.WideMaps (KeyLaw)
open Go.ChangeMaps (setBlock heap_setBlock_same)

theorem Tryz.laidOutB : laidOutB Tryz.prog = true := by kernel_rfl
theorem Tryz.rowEnd : (112 : TypeId) < Tryz.prog.types.size := of_decide_eq_true (by kernel_rfl)
theorem lawKE : KeyLaw Tryz.prog 112 := deep_law_laid Tryz.laidOutB (m := 2) (by omega) Tryz.rowEnd (by kernel_rfl) (by rw [Tryz.underlying112])
theorem lawE : Keyed Tryz.prog 112 := Keyed.of_law lawKE
theorem Tryz.cellsEnd : Tryz.prog.cellsOf 112 = 2 := by kernel_rfl
theorem Tryz.cellsInt : Tryz.prog.cellsOf 3 = 1 := by kernel_rfl
theorem Tryz.keyTypeEnd : Tryz.prog.keyType 112 = true := by kernel_rfl

theorem keyE {p s : Int} (hp : (Lit.int .i64 p).wf = true) (hs : (Lit.int .i64 s).wf = true) : ∃ kl, keyOf Tryz.prog 112 (.agg #[.int .i64 p, .int .i64 s]) = some kl := by
  have hn : ∃ m, Tryz.prog.types.size = m + 1 := by
    have h := Tryz.rowEnd
    revert h
    generalize Tryz.prog.types.size = n
    intro h
    cases n with
    | zero => exact absurd h (Nat.not_lt_zero _)
    | succ m => exact ⟨m, rfl⟩
  obtain ⟨m, hm⟩ := hn
  unfold keyOf
  simp only [Tryz.underlying112]
  rw [if_pos (by simp [Tryz.keyTypeEnd, Value.formed, Tryz.underlying112, Tryz.cellsEnd]), hm]
  unfold Program.keyLits
  simp only [Tryz.underlying112, Value.cells]
  rw [if_pos (by rw [Tryz.cellsEnd]; exact ⟨rfl, by simp⟩)]
  simp [Tryz.cellsInt, Program.keyLits, Tryz.underlying3, hp, hs]

theorem setBlock_twice (w : World) (b : Nat) (x y : Obj) : setBlock (setBlock w b x) b y = setBlock w b y := by
  unfold setBlock
  simp

theorem ok_world {α : Type} {a a' : α} {w w' : World} (h : Result.ok a w = Result.ok a' w') : w = w' := by injection h
theorem ok_value {α : Type} {a a' : α} {w w' : World} (h : Result.ok a w = Result.ok a' w') : a = a' := by injection h
theorem int_value {a b : Int} (h : Value.int .i64 a = Value.int .i64 b) : a = b := by injection h

/-- The entry is made or found, then stored into: as one update does it. -/
theorem entry_core {H : Type} {P : Program} {kt it t : TypeId} {w : World} {b : Nat} {es : Array MapEntry} {clock : Nat} {R : Value → Option (DataW H × List MemPlace)} (K : KeyLaw P kt) (ht : P.underlying t = some (.map kt it)) {z : Value} (hz : ∀ u : World, (zeroValue it).run P u = .ok z u)
    (hb : w.heap[b]? = some (.map es clock)) (F : WideElems.Fit P kt R es clock) {key : Value} {kl : Lit} (hkey : keyOf P kt key = some kl) :
    ∃ (v0 : Value) (st : Nat) (w1 : World), (Instr.mapEntry t (.map (some b)) key).run P w = .ok (.tuple #[v0, goInt st]) w1 ∧
      (w1.heap[b]? = w.heap[b]? ∨ (Instr.mapUpdate t (.map (some b)) key z).run P w = .ok () w1 ∧ (Instr.lookup t (.map (some b)) key false).run P w = .ok z w) ∧
      ∀ val, ∃ w2, (Instr.entryStore t (.map (some b)) (goInt st) val).run P w1 = .ok () w2 ∧ (Instr.mapUpdate t (.map (some b)) key val).run P w = .ok () w2 := by
  obtain ⟨v0, st, es1, clock1, hme, _, hst⟩ := WideElems.entry_then_store K ht hz hb F hkey
  refine ⟨v0, st, setBlock w b (.map es1 clock1), hme, ?_, fun val => ?_⟩
  · rcases K.find w hkey es.toList F.keys with ⟨g1, g2⟩ | ⟨j, e0, g1, g2, g3⟩
    · right
      have r1 : (Instr.mapEntry t (.map (some b)) key).run P w = .ok (.tuple #[z, goInt clock]) (setBlock w b (.map (es.push ⟨key, z, clock⟩) (clock + 1))) := by
        simp [Instr.mapEntry, run_underlying ht, MapKept.run_getObj_map hb, K.check w false hkey, g1, hz, MapKept.run_setObj_map _ hb, Result.andThen, setBlock]
      have r2 : (Instr.mapUpdate t (.map (some b)) key z).run P w = .ok () (setBlock w b (.map (es.push ⟨key, z, clock⟩) (clock + 1))) := by
        simp [Instr.mapUpdate, run_underlying ht, MapKept.run_getObj_map hb, K.check w false hkey, g1, MapKept.run_setObj_map _ hb, Result.andThen, setBlock]
      have e1 := ok_world (r1.symm.trans hme)
      rw [← e1]
      refine ⟨r2, ?_⟩
      simp [Instr.lookup, run_underlying ht, MapKept.run_getObj_map hb, K.check w es.isEmpty hkey, g1, hz, Result.andThen]
    · left
      have hj : es[j]? = some e0 := by simpa using g2
      have hsame : es.modify j (fun e => { e with key := key }) = es := by
        apply Array.ext'
        rw [Array.toList_modify]
        apply List.ext_getElem?
        intro i
        rw [List.getElem?_modify]
        by_cases e : j = i
        · subst e
          rw [g2]
          simp [← g3]
        · simp [e]
      have r1 : (Instr.mapEntry t (.map (some b)) key).run P w = .ok (.tuple #[e0.val, goInt e0.born]) (setBlock w b (.map es clock)) := by
        simp [Instr.mapEntry, run_underlying ht, MapKept.run_getObj_map hb, K.check w false hkey, g1, hj, g3, K.stays w hkey, hsame, MapKept.run_setObj_map _ hb, Result.andThen, setBlock]
      have e1 := ok_world (r1.symm.trans hme)
      rw [← e1, heap_setBlock_same hb, hb]
  · obtain ⟨es', clock', hes, hmu⟩ := hst (setBlock w b (.map es1 clock1)) val (heap_setBlock_same hb _)
    rw [setBlock_twice] at hes
    exact ⟨_, hes, hmu⟩

theorem CMap.mono {kt : TypeId} {w : World} {b n n' : Nat} {f : Value → Int} (h : CMap kt w b n f) (hn : n ≤ n') : CMap kt w b n' f := by
  obtain ⟨D, h1, h2⟩ := h
  exact ⟨D, h1.mono hn, h2⟩

theorem CMap.entry {kt t : TypeId} {w : World} {b n : Nat} {f : Value → Int} (h : CMap kt w b n f) (K : KeyLaw Tryz.prog kt) (ht : Tryz.prog.underlying t = some (.map kt 3)) (hn : n < maxLen) {key : Value} {kl : Lit} (hkey : keyOf Tryz.prog kt key = some kl)
    (v : Int) (hv : (Lit.int .i64 v).wf = true) (f' : Value → Int) (h1 : f' key = v) (h2 : ∀ k, k ≠ key → f' k = f k) :
    ∃ (v0 : Value) (st : Nat) (w1 w2 : World), (Instr.mapEntry t (.map (some b)) key).run Tryz.prog w = .ok (.tuple #[v0, .int .i64 st]) w1 ∧
      (Instr.lookup t (.map (some b)) key false).run Tryz.prog w1 = .ok (.int .i64 (f key)) w1 ∧
      (Instr.entryStore t (.map (some b)) (.int .i64 st) (.int .i64 v)).run Tryz.prog w1 = .ok () w2 ∧ CMap kt w2 b (n + 1) f' ∧ w.grownBy w2 (some b) := by
  have Kd := Keyed.of_law K
  have hlook := h.lookup Kd ht hkey
  obtain ⟨w', hup, hC, hg⟩ := h.update Kd ht hn hkey v hv f' h1 h2
  have h0 := h
  obtain ⟨D, ⟨es, clock, hb, F, hs, hD⟩, hm, h3⟩ := h
  obtain ⟨v0, st, w1, hme, hor, hst⟩ := entry_core K ht zeroI hb F hkey
  obtain ⟨w2, hes, hmu⟩ := hst (.int .i64 v)
  have e2 := ok_world (hmu.symm.trans hup)
  refine ⟨v0, st, w1, w', hme, ?_, e2 ▸ hes, hC, hg⟩
  have hC1 : CMap kt w1 b (n + 1) f := by
    rcases hor with e | ⟨r2, r3⟩
    · exact (h0.of_block e).mono (Nat.le_succ n)
    · have hz : f key = 0 := int_value (ok_value (hlook.symm.trans r3))
      obtain ⟨w3, hup3, hC3, _⟩ := h0.update Kd ht hn hkey 0 (by decide) f hz (fun _ _ => rfl)
      have e3 := ok_world (hup3.symm.trans r2)
      exact e3 ▸ hC3
  exact hC1.lookup Kd ht hkey

end Go.Proofs.YtmkdgnmmebldgaaGreat
