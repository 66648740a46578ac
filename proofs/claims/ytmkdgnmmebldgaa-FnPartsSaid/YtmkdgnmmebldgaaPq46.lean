import Derived.Test.YtmkdgnmmebldgaaPq45
import Derived.Test.YtmkdgnmmebldgaaPq26
namespace Go.Proofs.Ytmkdgnmmebldgaa
open Go.RowKit Go.Maps
open Go.WideMaps (KeyLaw)
theorem Try.rowPost : (232 : TypeId) < Try.prog.types.size := of_decide_eq_true (by kernel_rfl)
theorem lawKP : KeyLaw Try.prog 232 := deep_law_laid Try.laidOutB (m := 2) (by omega) Try.rowPost (by kernel_rfl) (by rw [Try.underlying232])
theorem lawP : Keyed Try.prog 232 := Keyed.of_law lawKP
theorem Try.cellsPost : Try.prog.cellsOf 232 = 3 := by kernel_rfl
theorem Try.keyTypePost : Try.prog.keyType 232 = true := by kernel_rfl
theorem keyP {p a v : Int} (hp : (Lit.int .i64 p).wf = true) (ha : (Lit.int .i64 a).wf = true) (hv : (Lit.int .i64 v).wf = true) : ∃ kl, keyOf Try.prog 232 (.agg #[.int .i64 p, .int .i64 a, .int .i64 v]) = some kl := by
  have hn : ∃ m, Try.prog.types.size = m + 1 := by
    have h := Try.rowPost
    revert h
    generalize Try.prog.types.size = n
    intro h
    cases n with
    | zero => exact absurd h (Nat.not_lt_zero _)
    | succ m => exact ⟨m, rfl⟩
  obtain ⟨m, hm⟩ := hn
  unfold keyOf
  simp only [Try.underlying232]
  rw [if_pos (by simp [Try.keyTypePost, Value.formed, Try.underlying232, Try.cellsPost]), hm]
  unfold Program.keyLits
  simp only [Try.underlying232, Value.cells]
  rw [if_pos (by rw [Try.cellsPost]; exact ⟨rfl, by simp⟩)]
  simp [Try.cellsInt, Program.keyLits, Try.underlying3, hp, ha, hv]
def cntP (L : List MPiece) (p a v : Int) : Nat := L.countP fun s => s.len == p && s.speed == a && s.brake == v
def fP (L : List MPiece) : Value → Int
  | .agg ⟨[.int .i64 p, .int .i64 a, .int .i64 v]⟩ => cntP L p a v
  | _ => 0
theorem fP_at (L : List MPiece) (p a v : Int) : fP L (.agg #[.int .i64 p, .int .i64 a, .int .i64 v]) = cntP L p a v := rfl
theorem fP_nil : fP [] = fun _ => 0 := by
  funext v
  unfold fP
  split <;> rfl
theorem cntP_snoc (L : List MPiece) (s : MPiece) (p a v : Int) : cntP (L ++ [s]) p a v = cntP L p a v + if (s.len == p && s.speed == a && s.brake == v) = true then 1 else 0 := by
  unfold cntP
  rw [List.countP_append, List.countP_singleton]
theorem fP_same (L : List MPiece) (s : MPiece) : fP (L ++ [s]) (.agg #[.int .i64 s.len, .int .i64 s.speed, .int .i64 s.brake]) = fP L (.agg #[.int .i64 s.len, .int .i64 s.speed, .int .i64 s.brake]) + 1 := by
  rw [fP_at, fP_at, cntP_snoc, if_pos (by simp)]
  simp
theorem fP_other (L : List MPiece) (s : MPiece) : ∀ k, k ≠ .agg #[.int .i64 s.len, .int .i64 s.speed, .int .i64 s.brake] → fP (L ++ [s]) k = fP L k := by
  intro k hk
  unfold fP
  split
  · rename_i p a v
    rw [cntP_snoc, if_neg]
    · simp
    · intro h
      simp at h
      apply hk
      rw [h.1.1, h.1.2, h.2]
  · rfl
def NaMap (w : World) (b : Nat) (L : List MPiece) : Prop := CMap 9 w b L.length (fS (namesP L))
def PMap (w : World) (b : Nat) (L : List MPiece) : Prop := CMap 232 w b L.length (fP L)
theorem take_next {ss : List MPiece} {i : Nat} (h : i < ss.length) : ss.take (i + 1) = ss.take i ++ [ss[i]] := List.take_succ_eq_append_getElem h
theorem namesP_snoc (L : List MPiece) (s : MPiece) : namesP (L ++ [s]) = namesP L ++ [s.name] := by simp [namesP]
theorem beforeB_eq (ss : List MPiece) (i : Nat) (s : MPiece) : beforeB ss i s = (decide (cntS (namesP (ss.take i)) s.name ≠ 0) || decide (cntP (ss.take i) s.len s.speed s.brake ≠ 0)) := by
  unfold beforeB cntS cntP namesP
  generalize ss.take i = L
  rw [Bool.eq_iff_iff]
  simp only [List.any_eq_true, same4, Bool.or_eq_true, decide_eq_true_eq, ne_eq, List.countP_eq_zero, List.mem_map, Bool.and_eq_true, beq_iff_eq]
  constructor
  · rintro ⟨x, hx, h | h⟩
    · left
      intro h2
      exact h2 x.name ⟨x, hx, rfl⟩ h
    · right
      intro h2
      exact h2 x hx h
  · rintro (h | h)
    · have : ∃ t, (∃ a, a ∈ L ∧ a.name = t) ∧ t = s.name := by
        apply Classical.byContradiction
        intro hn
        exact h (fun t ht e => hn ⟨t, ht, e⟩)
      obtain ⟨t, ⟨x, hx, rfl⟩, e⟩ := this
      exact ⟨x, hx, Or.inl e⟩
    · have : ∃ x, x ∈ L ∧ ((x.len = s.len ∧ x.speed = s.speed) ∧ x.brake = s.brake) := by
        apply Classical.byContradiction
        intro hn
        exact h (fun x hx e => hn ⟨x, hx, e⟩)
      obtain ⟨x, hx, e⟩ := this
      exact ⟨x, hx, Or.inr e⟩
theorem grown_cell {w w' : World} {b : Nat} (hg : w.grownBy w' (some b)) {a : Addr} {v : Value} (h : w.cell? a = some v) (hne : a.block ≠ b) : w'.cell? a = some v :=
  (World.cell?_of_block (w := w) (hg.block a.block (cellLt h) (fun e => hne (by injection e)))).trans h
set_option maxRecDepth 100000 in
set_option maxHeartbeats 4000000 in
theorem firstDoubleSignal_any (sa : Option Addr) (sc : Nat) (ss : List MPiece) (w : World) (hs : Hid (PiecesAt w sa ss)) (hl : ss.length ≤ 1000)
    (hr : Hid (∀ q (h : q < ss.length), 0 ≤ ss[q].len ∧ ss[q].len ≤ 100 ∧ 0 ≤ ss[q].speed ∧ ss[q].speed ≤ 10000000 ∧ -1 ≤ ss[q].brake ∧ ss[q].brake ≤ 1)) :
    Calls Try.prog 75 #[.slice sa ss.length sc] w fun e w' => e = .returned (.int .i64 (firstBad (badS4 ss) ss.length)) ∧ Below w.heap.size w w' := by
  have hmm := @run_makeMap Try.prog
  go_enter Try.func75, Try.ntmps75
  go_wp2_with fail
  have HS : Hid (NaMap ((w.alloc (.map #[] 0)).alloc (.map #[] 0)) w.heap.size (ss.take 0)) := by
    have h := CMap.made 9 w
    rw [← fS_nil] at h
    exact h.below (show Below _ _ ((w.alloc (.map #[] 0)).alloc (.map #[] 0)) from (Below.refl _ _).alloc (Nat.le_refl _) _)
  have HP : Hid (PMap ((w.alloc (.map #[] 0)).alloc (.map #[] 0)) (w.heap.size + 1) (ss.take 0)) := by
    have h := CMap.made 232 (w.alloc (.map #[] 0))
    have h2 : (w.alloc (.map #[] 0)).heap.size = w.heap.size + 1 := by simp
    rw [← fP_nil, h2] at h
    exact h
  go_loopw [12] (fun c wr => ∃ (i : Nat), i ≤ ss.length ∧ c = .int .i64 i ∧ Hid (∀ q, q < i → badS4 ss q = false) ∧ Hid (NaMap wr w.heap.size (ss.take i)) ∧ Hid (PMap wr (w.heap.size + 1) (ss.take i)) ∧ Below w.heap.size w wr) (fun c _ => ss.length - (intOf c).toNat)
  case atStart => exact ⟨0, Nat.zero_le _, rfl, (fun q h => absurd h (Nat.not_lt_zero q)), HS.out, HP.out, blo⟩
  case round =>
    clear HS HP hmm
    obtain ⟨i, hi, rfl, HQ, HS, HP, hb⟩ := hrel
    have hbs := hb.size
    have hz1 : w.heap.size + 1 < wr.heap.size := CMap.lt HP.out
    by_cases hi' : i < ss.length
    · obtain ⟨b1, off1, rfl, hpc⟩ := hs.out.2.2.resolve_left (fun h => by rw [h] at hi'; exact absurd hi' (Nat.not_lt_zero _))
      obtain ⟨c1, c2, c3, c4⟩ := (hpc.below hb) i hi'
      have hsz : ss[i].name.size ≤ maxLen := hs.out.2.1 _ (List.getElem_mem hi')
      obtain ⟨y1, y2, y3, y4, y5, y6⟩ := hr.out i hi'
      obtain ⟨kl, hkey⟩ := keyP (wf64 y1 (by omega)) (wf64 y3 (by omega)) (show (Lit.int .i64 ss[i].brake).wf = true from WalkArith.wf_i64 (by omega))
      clear hpc y1 y2 y3 y4 y5 y6
      have HXB : Hid (beforeB ss i ss[i] = true → firstBad (badS4 ss) ss.length = i) := fun ho => firstBad_hit hi' (by rw [badS4_at hi', ho]) HQ.out
      have HQ2 : Hid (beforeB ss i ss[i] = false → ∀ q, q < i + 1 → badS4 ss q = false) := by
        intro ho q hq
        by_cases e : q < i
        · exact HQ.out q e
        · have : q = i := by omega
          subst this
          rw [badS4_at hi', ho]
      clear HQ
      generalize hX : (wr.alloc (Obj.cells #[Value.string ss[i].name, Value.int IntKind.i64 ss[i].len, Value.int IntKind.i64 ss[i].speed, Value.int IntKind.i64 ss[i].brake] 53)).alloc (Obj.cells #[Value.int IntKind.i64 ss[i].len, Value.int IntKind.i64 ss[i].speed, Value.int IntKind.i64 ss[i].brake] 232) = X
      have hbX : Below wr.heap.size wr X := by rw [← hX]; exact blo
      have n0 : X.cell? ⟨wr.heap.size, 0, none⟩ = some (.string ss[i].name) := by rw [← hX]; simp [go_sem]
      have p0 : X.cell? ⟨wr.heap.size + 1, 0, none⟩ = some (.int .i64 ss[i].len) := by rw [← hX]; simp [go_sem]
      have p1 : X.cell? ⟨wr.heap.size + 1, 1, none⟩ = some (.int .i64 ss[i].speed) := by rw [← hX]; simp [go_sem]
      have p2 : X.cell? ⟨wr.heap.size + 1, 2, none⟩ = some (.int .i64 ss[i].brake) := by rw [← hX]; simp [go_sem]
      have hS2 : CMap 9 X w.heap.size (ss.take i).length (fS (namesP (ss.take i))) := CMap.below HS.out hbX
      have hP2 : CMap 232 X (w.heap.size + 1) (ss.take i).length (fP (ss.take i)) := CMap.below HP.out hbX
      have hlS := hS2.lookup lawS Try.underlying222 (keyS hsz)
      have hlP := hP2.lookup lawP Try.underlying230 hkey
      have hbX' : Below w.heap.size w X := hb.trans (hbX.mono hb.size)
      have hlen : (ss.take i).length ≤ 1000 := by rw [List.length_take]; omega
      have hXs : wr.heap.size + 1 < X.heap.size := by rw [← hX]; simp
      by_cases kS : cntS (namesP (ss.take i)) ss[i].name = 0
      · have eS : fS (namesP (ss.take i)) (.string ss[i].name) = 0 := by show ((cntS _ _ : Nat) : Int) = 0; rw [kS]; rfl
        rw [eS] at hlS
        by_cases kP : cntP (ss.take i) ss[i].len ss[i].speed ss[i].brake = 0
        · have eP : fP (ss.take i) (.agg #[.int .i64 ss[i].len, .int .i64 ss[i].speed, .int .i64 ss[i].brake]) = 0 := by rw [fP_at, kP]; rfl
          rw [eP] at hlP
          have HQ3 := hidQ (HQ2.out (by rw [beforeB_eq, kS, kP]; rfl))
          obtain ⟨w2, hup, hS3, hg2⟩ := hS2.update lawS Try.underlying222 (by unfold maxLen; omega) (keyS hsz) 1 (wf64 (by omega) (by omega)) (fS (namesP (ss.take (i + 1)))) (by rw [take_next hi', namesP_snoc, fS_same, kS]; rfl) (by rw [take_next hi', namesP_snoc]; exact fS_other _ _)
          have m0 := grown_cell hg2 p0 (by show wr.heap.size + 1 ≠ w.heap.size; omega)
          have m1 := grown_cell hg2 p1 (by show wr.heap.size + 1 ≠ w.heap.size; omega)
          have m2 := grown_cell hg2 p2 (by show wr.heap.size + 1 ≠ w.heap.size; omega)
          have hP3 : CMap 232 w2.drew (w.heap.size + 1) (ss.take i).length (fP (ss.take i)) := hP2.of_block (hg2.block _ (CMap.lt hP2) (by simp))
          have hlP3 := hP3.lookup lawP Try.underlying230 hkey
          rw [eP] at hlP3
          obtain ⟨v0, st, w3, w4, hme, hl3, hes, hP4, hg4⟩ := hP3.entry lawKP Try.underlying230 (by unfold maxLen; omega) hkey 1 (wf64 (by omega) (by omega)) (fP (ss.take (i + 1))) (by rw [take_next hi', fP_same, eP]; rfl) (by rw [take_next hi']; exact fP_other _ _)
          rw [eP] at hl3
          have hlen1 : (ss.take (i + 1)).length = (ss.take i).length + 1 := by rw [take_next hi', List.length_append]; rfl
          have HP4 : Hid (PMap w4 (w.heap.size + 1) (ss.take (i + 1))) := by
            unfold Hid PMap
            rw [hlen1]
            exact hP4
          have HS4 : Hid (NaMap w4 w.heap.size (ss.take (i + 1))) := by
            unfold Hid NaMap
            rw [hlen1]
            refine hS3.of_block ?_
            exact hg4.block _ (CMap.lt hS3) (by simp)
          have hb2 : Below w.heap.size w w2 := hbX'.grown hg2 hbX'.size (fun j hj => by cases hj; exact Nat.le_refl _)
          have hb4 : Below w.heap.size w w4 := hb2.drew.grown hg4 hb2.size (fun j hj => by cases hj; omega)
          clear hS2 hP2 hS3 hP3 hP4 hg2 hg4 hkey eS eP kS kP HXB HQ2 HS HP hlen hlen1 hb2 hbX' p0 p1 p2 hbX
          subst hX
          go_wp2_with fail
          go_region
          all_goals
            go_wp2_with fail
            go_roundw
            case rel => exact ⟨i + 1, by omega, by go_num, HQ3, HS4, HP4, hb4⟩
            case measure => simp [intOf]; omega
        · have HX := hidQ (HXB.out (by rw [beforeB_eq, kS, decide_eq_true kP]; rfl))
          have hpos : 0 < fP (ss.take i) (.agg #[.int .i64 ss[i].len, .int .i64 ss[i].speed, .int .i64 ss[i].brake]) := by
            rw [fP_at]
            omega
          generalize fP (ss.take i) (.agg #[.int .i64 ss[i].len, .int .i64 ss[i].speed, .int .i64 ss[i].brake]) = c0 at hlP hpos
          clear hS2 hP2 hkey eS kS kP HXB HQ2 HS HP hlen hbX p0 p1 p2 n0
          subst hX
          go_wp2_with fail
          go_ret
          exact ⟨ret_int HX.out.symm, hbX'⟩
      · have HX := hidQ (HXB.out (by rw [beforeB_eq, decide_eq_true kS]; rfl))
        have hpos : 0 < fS (namesP (ss.take i)) (.string ss[i].name) := by
          show (0 : Int) < ((cntS _ _ : Nat) : Int)
          omega
        generalize fS (namesP (ss.take i)) (.string ss[i].name) = c0 at hlS hpos
        clear hS2 hP2 hkey kS HXB HQ2 HS HP hlen hbX p0 p1 p2 n0
        subst hX
        go_wp2_with fail
        go_ret
        exact ⟨ret_int HX.out.symm, hbX'⟩
    · have HX := hidQ (firstBad_none (bad := badS4 ss) (n := ss.length) (fun q h => HQ.out q (by omega)))
      clear HQ HS HP
      go_wp2_with fail
      go_ret
      exact ⟨ret_int HX.out.symm, hb⟩
end Go.Proofs.Ytmkdgnmmebldgaa

namespace Go.Proofs.Ytmkdgnmmebldgaa
open Go.RowKit
theorem bcellK {W w1 : World} (hb : Below W.heap.size W w1) : (∀ b o, b < W.heap.size → w1.cell? ⟨b, o, none⟩ = W.cell? ⟨b, o, none⟩) :=
  fun b o h => hb.cell (p := ⟨b, o, none⟩) h
theorem ok3_kind {np : Nat} {j : MJoint} (h : inB j.kind 1 4 = false) : ok3 np j = false := by simp [ok3, h]
theorem ok3_len {np : Nat} {j : MJoint} (h : ((j.ends.length : Int) == j.kind) = false) : ok3 np j = false := by simp only [ok3, h]; simp
theorem ok3_end {np : Nat} {j : MJoint} (m : Nat) (hm : m < j.ends.length) (h : endB np j.ends[m].piece j.ends[m].side = false) : ok3 np j = false := by
  have : (j.ends.all fun e => endB np e.piece e.side) = false := List.all_eq_false.2 ⟨_, List.getElem_mem hm, by simp [h]⟩
  simp only [ok3, this]; simp
set_option maxHeartbeats 1000000 in
theorem jointOk_no (j : MJoint) (ea : Option Addr) (ec np : Nat) (w : World) (hk : inB j.kind 1 4 = false) :
    Calls Try.prog 135 #[.agg #[.int .i64 j.kind, .string j.name, .slice ea j.ends.length ec], .int .i64 np] w fun e w' => e = .returned (.bool (ok3 np j)) ∧ Below w.heap.size w w' := by
  rw [ok3_kind hk]
  go_enter Try.func135, Try.ntmps135
  go_wp2_with (go_at_call 122; refine (kindOf_no _ hk _).mono ?_; rintro e w' ⟨rfl, rfl⟩)
  go_quiet (fail)
  go_wp2_with fail
  go_ret
  exact ⟨rfl, blo⟩
end Go.Proofs.Ytmkdgnmmebldgaa

namespace Go.Proofs.Ytmkdgnmmebldgaa
open Go.RowKit
theorem meth_1 (w : World) : (method 425 252 (.agg #[]) "loop.example/lockbar/impl.endCount").run Try.prog w = .ok (206, .agg #[]) w := by kernel_rfl
set_option maxHeartbeats 1000000 in
theorem jointOk_1 (s : ByteArray) (es : List MEnd) (ea : Option Addr) (ec np : Nat) (w : World) (he : Hid (EndsAt w ea es)) (hnp : np ≤ maxLen) :
    Calls Try.prog 135 #[.agg #[.int .i64 1, .string s, .slice ea es.length ec], .int .i64 np] w fun e w' => e = .returned (.bool (ok3 np ⟨1, s, es⟩)) ∧ Below w.heap.size w w' := by
  have hel := he.out.1
  unfold maxLen at hel hnp
  have hm := meth_1
  cases hk2 : ((es.length : Int) == 1)
  · have HX := hidQ (ok3_len (np := np) (j := ⟨1, s, es⟩) hk2)
    go_enter Try.func135, Try.ntmps135
    go_wp2_with (go_at_call 122; refine (kindOf_1 _).mono ?_; rintro e w' ⟨rfl, rfl⟩)
    go_region_with (go_at_call 206; refine (endCount_1 _).mono ?_; rintro e w2 ⟨rfl, hb2⟩; have hc2 := bcellK hb2)
    all_goals
      go_wp2_with fail
      go_ret
      exact ⟨ret_bool HX.out.symm, Below.trans blo (hb2.mono (by simp))⟩
  · have HK2 := hidQ hk2
    go_enter Try.func135, Try.ntmps135
    go_wp2_with (go_at_call 122; refine (kindOf_1 _).mono ?_; rintro e w' ⟨rfl, rfl⟩)
    go_region_with (go_at_call 206; refine (endCount_1 _).mono ?_; rintro e w2 ⟨rfl, hb2⟩; have hc2 := bcellK hb2)
    all_goals
      have hbn : ((es.length : Int) != 1) = false := by rw [bne, HK2.out]; rfl
      simp only [hbn]
      have hb3 : Below w.heap.size w w2 := Below.trans blo (hb2.mono (by simp))
      clear hbn hm hk2
      go_wp2_with fail
      clear hb2 hc2
      go_loopw [28] (fun c wr => ∃ (m : Nat), m ≤ es.length ∧ c = .int .i64 m ∧ Hid (∀ q (hq : q < es.length), q < m → endB np es[q].piece es[q].side = true) ∧ Below w.heap.size w wr) (fun c _ => es.length - (intOf c).toNat)
      case atStart => exact ⟨0, Nat.zero_le _, rfl, (fun q _ h => absurd h (Nat.not_lt_zero q)), hb3⟩
      case round =>
        clear hb3
        obtain ⟨m, hm, rfl, HQ, hb⟩ := hrel
        have hbs := hb.size
        by_cases hm' : m < es.length
        · obtain ⟨b2, off2, rfl, hpc2⟩ := he.out.2.resolve_left (fun h => by rw [h] at hm'; exact absurd hm' (Nat.not_lt_zero _))
          obtain ⟨d1, d2⟩ := (hpc2.below hb) m hm'
          clear hpc2
          cases hE : endB np es[m].piece es[m].side
          · have HX := hidQ (ok3_end (j := ⟨1, s, es⟩) m hm' hE)
            have hcs : inB es[m].piece 0 ((np : Int) - 1) = false ∨ inB es[m].piece 0 ((np : Int) - 1) = true ∧ inB es[m].side 0 1 = false := by
              unfold endB at hE
              revert hE
              cases inB es[m].piece 0 ((np : Int) - 1) <;> simp
            clear hE
            rcases hcs with q1 | ⟨q1, q2⟩
            all_goals
              go_wp2_with (go_at_call 121; refine (within_any _ _ _ _).mono ?_; rintro e w' ⟨rfl, rfl⟩)
              go_ret
              exact ⟨ret_bool HX.out.symm, blo⟩
          · have HQ2 : Hid (∀ q (hq : q < es.length), q < m + 1 → endB np es[q].piece es[q].side = true) := by
              intro q hq hqm
              by_cases e : q < m
              · exact HQ.out q hq e
              · have : q = m := by omega
                subst this; exact hE
            have q1 : inB es[m].piece 0 ((np : Int) - 1) = true := by
              unfold endB at hE; revert hE; cases inB es[m].piece 0 ((np : Int) - 1) <;> simp
            have q2 : inB es[m].side 0 1 = true := by
              unfold endB at hE; revert hE; cases inB es[m].side 0 1 <;> simp
            clear hE HQ
            go_wp2_with (go_at_call 121; refine (within_any _ _ _ _).mono ?_; rintro e w' ⟨rfl, rfl⟩)
            go_roundw
            case rel => exact ⟨m + 1, by omega, by go_num, HQ2, blo⟩
            case measure => simp [intOf]; omega
        · have HX : Hid (ok3 np ⟨1, s, es⟩ = true) := ok3_of (by rfl) HK2.out (fun q hq => HQ.out q hq (by have hq2 : q < es.length := hq; omega))
          clear HQ
          go_wp2_with fail
          go_ret
          exact ⟨ret_bool HX.out.symm, hb⟩
end Go.Proofs.Ytmkdgnmmebldgaa

namespace Go.Proofs.Ytmkdgnmmebldgaa
open Go.RowKit
theorem meth_2 (w : World) : (method 425 253 (.agg #[]) "loop.example/lockbar/impl.endCount").run Try.prog w = .ok (208, .agg #[]) w := by kernel_rfl
set_option maxHeartbeats 1000000 in
theorem jointOk_2 (s : ByteArray) (es : List MEnd) (ea : Option Addr) (ec np : Nat) (w : World) (he : Hid (EndsAt w ea es)) (hnp : np ≤ maxLen) :
    Calls Try.prog 135 #[.agg #[.int .i64 2, .string s, .slice ea es.length ec], .int .i64 np] w fun e w' => e = .returned (.bool (ok3 np ⟨2, s, es⟩)) ∧ Below w.heap.size w w' := by
  have hel := he.out.1
  unfold maxLen at hel hnp
  have hm := meth_2
  cases hk2 : ((es.length : Int) == 2)
  · have HX := hidQ (ok3_len (np := np) (j := ⟨2, s, es⟩) hk2)
    go_enter Try.func135, Try.ntmps135
    go_wp2_with (go_at_call 122; refine (kindOf_2 _).mono ?_; rintro e w' ⟨rfl, rfl⟩)
    go_region_with (go_at_call 208; refine (endCount_2 _).mono ?_; rintro e w2 ⟨rfl, hb2⟩; have hc2 := bcellK hb2)
    all_goals
      go_wp2_with fail
      go_ret
      exact ⟨ret_bool HX.out.symm, Below.trans blo (hb2.mono (by simp))⟩
  · have HK2 := hidQ hk2
    go_enter Try.func135, Try.ntmps135
    go_wp2_with (go_at_call 122; refine (kindOf_2 _).mono ?_; rintro e w' ⟨rfl, rfl⟩)
    go_region_with (go_at_call 208; refine (endCount_2 _).mono ?_; rintro e w2 ⟨rfl, hb2⟩; have hc2 := bcellK hb2)
    all_goals
      have hbn : ((es.length : Int) != 2) = false := by rw [bne, HK2.out]; rfl
      simp only [hbn]
      have hb3 : Below w.heap.size w w2 := Below.trans blo (hb2.mono (by simp))
      clear hbn hm hk2
      go_wp2_with fail
      clear hb2 hc2
      go_loopw [28] (fun c wr => ∃ (m : Nat), m ≤ es.length ∧ c = .int .i64 m ∧ Hid (∀ q (hq : q < es.length), q < m → endB np es[q].piece es[q].side = true) ∧ Below w.heap.size w wr) (fun c _ => es.length - (intOf c).toNat)
      case atStart => exact ⟨0, Nat.zero_le _, rfl, (fun q _ h => absurd h (Nat.not_lt_zero q)), hb3⟩
      case round =>
        clear hb3
        obtain ⟨m, hm, rfl, HQ, hb⟩ := hrel
        have hbs := hb.size
        by_cases hm' : m < es.length
        · obtain ⟨b2, off2, rfl, hpc2⟩ := he.out.2.resolve_left (fun h => by rw [h] at hm'; exact absurd hm' (Nat.not_lt_zero _))
          obtain ⟨d1, d2⟩ := (hpc2.below hb) m hm'
          clear hpc2
          cases hE : endB np es[m].piece es[m].side
          · have HX := hidQ (ok3_end (j := ⟨2, s, es⟩) m hm' hE)
            have hcs : inB es[m].piece 0 ((np : Int) - 1) = false ∨ inB es[m].piece 0 ((np : Int) - 1) = true ∧ inB es[m].side 0 1 = false := by
              unfold endB at hE
              revert hE
              cases inB es[m].piece 0 ((np : Int) - 1) <;> simp
            clear hE
            rcases hcs with q1 | ⟨q1, q2⟩
            all_goals
              go_wp2_with (go_at_call 121; refine (within_any _ _ _ _).mono ?_; rintro e w' ⟨rfl, rfl⟩)
              go_ret
              exact ⟨ret_bool HX.out.symm, blo⟩
          · have HQ2 : Hid (∀ q (hq : q < es.length), q < m + 1 → endB np es[q].piece es[q].side = true) := by
              intro q hq hqm
              by_cases e : q < m
              · exact HQ.out q hq e
              · have : q = m := by omega
                subst this; exact hE
            have q1 : inB es[m].piece 0 ((np : Int) - 1) = true := by
              unfold endB at hE; revert hE; cases inB es[m].piece 0 ((np : Int) - 1) <;> simp
            have q2 : inB es[m].side 0 1 = true := by
              unfold endB at hE; revert hE; cases inB es[m].side 0 1 <;> simp
            clear hE HQ
            go_wp2_with (go_at_call 121; refine (within_any _ _ _ _).mono ?_; rintro e w' ⟨rfl, rfl⟩)
            go_roundw
            case rel => exact ⟨m + 1, by omega, by go_num, HQ2, blo⟩
            case measure => simp [intOf]; omega
        · have HX : Hid (ok3 np ⟨2, s, es⟩ = true) := ok3_of (by rfl) HK2.out (fun q hq => HQ.out q hq (by have hq2 : q < es.length := hq; omega))
          clear HQ
          go_wp2_with fail
          go_ret
          exact ⟨ret_bool HX.out.symm, hb⟩
end Go.Proofs.Ytmkdgnmmebldgaa

namespace Go.Proofs.Ytmkdgnmmebldgaa
open Go.RowKit
theorem meth_3 (w : World) : (method 425 254 (.agg #[]) "loop.example/lockbar/impl.endCount").run Try.prog w = .ok (210, .agg #[]) w := by kernel_rfl
set_option maxHeartbeats 1000000 in
theorem jointOk_3 (s : ByteArray) (es : List MEnd) (ea : Option Addr) (ec np : Nat) (w : World) (he : Hid (EndsAt w ea es)) (hnp : np ≤ maxLen) :
    Calls Try.prog 135 #[.agg #[.int .i64 3, .string s, .slice ea es.length ec], .int .i64 np] w fun e w' => e = .returned (.bool (ok3 np ⟨3, s, es⟩)) ∧ Below w.heap.size w w' := by
  have hel := he.out.1
  unfold maxLen at hel hnp
  have hm := meth_3
  cases hk2 : ((es.length : Int) == 3)
  · have HX := hidQ (ok3_len (np := np) (j := ⟨3, s, es⟩) hk2)
    go_enter Try.func135, Try.ntmps135
    go_wp2_with (go_at_call 122; refine (kindOf_3 _).mono ?_; rintro e w' ⟨rfl, rfl⟩)
    go_region_with (go_at_call 210; refine (endCount_3 _).mono ?_; rintro e w2 ⟨rfl, hb2⟩; have hc2 := bcellK hb2)
    all_goals
      go_wp2_with fail
      go_ret
      exact ⟨ret_bool HX.out.symm, Below.trans blo (hb2.mono (by simp))⟩
  · have HK2 := hidQ hk2
    go_enter Try.func135, Try.ntmps135
    go_wp2_with (go_at_call 122; refine (kindOf_3 _).mono ?_; rintro e w' ⟨rfl, rfl⟩)
    go_region_with (go_at_call 210; refine (endCount_3 _).mono ?_; rintro e w2 ⟨rfl, hb2⟩; have hc2 := bcellK hb2)
    all_goals
      have hbn : ((es.length : Int) != 3) = false := by rw [bne, HK2.out]; rfl
      simp only [hbn]
      have hb3 : Below w.heap.size w w2 := Below.trans blo (hb2.mono (by simp))
      clear hbn hm hk2
      go_wp2_with fail
      clear hb2 hc2
      go_loopw [28] (fun c wr => ∃ (m : Nat), m ≤ es.length ∧ c = .int .i64 m ∧ Hid (∀ q (hq : q < es.length), q < m → endB np es[q].piece es[q].side = true) ∧ Below w.heap.size w wr) (fun c _ => es.length - (intOf c).toNat)
      case atStart => exact ⟨0, Nat.zero_le _, rfl, (fun q _ h => absurd h (Nat.not_lt_zero q)), hb3⟩
      case round =>
        clear hb3
        obtain ⟨m, hm, rfl, HQ, hb⟩ := hrel
        have hbs := hb.size
        by_cases hm' : m < es.length
        · obtain ⟨b2, off2, rfl, hpc2⟩ := he.out.2.resolve_left (fun h => by rw [h] at hm'; exact absurd hm' (Nat.not_lt_zero _))
          obtain ⟨d1, d2⟩ := (hpc2.below hb) m hm'
          clear hpc2
          cases hE : endB np es[m].piece es[m].side
          · have HX := hidQ (ok3_end (j := ⟨3, s, es⟩) m hm' hE)
            have hcs : inB es[m].piece 0 ((np : Int) - 1) = false ∨ inB es[m].piece 0 ((np : Int) - 1) = true ∧ inB es[m].side 0 1 = false := by
              unfold endB at hE
              revert hE
              cases inB es[m].piece 0 ((np : Int) - 1) <;> simp
            clear hE
            rcases hcs with q1 | ⟨q1, q2⟩
            all_goals
              go_wp2_with (go_at_call 121; refine (within_any _ _ _ _).mono ?_; rintro e w' ⟨rfl, rfl⟩)
              go_ret
              exact ⟨ret_bool HX.out.symm, blo⟩
          · have HQ2 : Hid (∀ q (hq : q < es.length), q < m + 1 → endB np es[q].piece es[q].side = true) := by
              intro q hq hqm
              by_cases e : q < m
              · exact HQ.out q hq e
              · have : q = m := by omega
                subst this; exact hE
            have q1 : inB es[m].piece 0 ((np : Int) - 1) = true := by
              unfold endB at hE; revert hE; cases inB es[m].piece 0 ((np : Int) - 1) <;> simp
            have q2 : inB es[m].side 0 1 = true := by
              unfold endB at hE; revert hE; cases inB es[m].side 0 1 <;> simp
            clear hE HQ
            go_wp2_with (go_at_call 121; refine (within_any _ _ _ _).mono ?_; rintro e w' ⟨rfl, rfl⟩)
            go_roundw
            case rel => exact ⟨m + 1, by omega, by go_num, HQ2, blo⟩
            case measure => simp [intOf]; omega
        · have HX : Hid (ok3 np ⟨3, s, es⟩ = true) := ok3_of (by rfl) HK2.out (fun q hq => HQ.out q hq (by have hq2 : q < es.length := hq; omega))
          clear HQ
          go_wp2_with fail
          go_ret
          exact ⟨ret_bool HX.out.symm, hb⟩
end Go.Proofs.Ytmkdgnmmebldgaa
