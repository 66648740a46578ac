import Derived.Test.YtmkdgnmmebldgaaImplSig
namespace Go.Proofs.Ytmkdgnmmebldgaa
open Go.RowKit Go.Maps
open Go.WideMaps (KeyLaw)

theorem Try.rowPost : (232 : TypeId) < Try.prog.types.size := of_decide_eq_true (by kernel_rfl)
theorem lawKP : KeyLaw Try.prog 232 := deep_law_laid Try.laidOutB (m := 2) (by omega) Try.rowPost (by kernel_rfl) (by rw [Try.underlying232])
theorem lawP : Keyed Try.prog 232 := Keyed.of_law lawKP
theorem Try.cellsPost : Try.prog.cellsOf 232 = 3 := by kernel_rfl
theorem Try.keyTypePost : Try.prog.keyType 232 = true := by kernel_rfl

theorem keyP {p a v : Int} (hp : (Lit.int .i64 p).wf = true) (ha : (Lit.int .i64 a).wf = true) (hv : (Lit.int .i64 v).wf = true) : ∃ kl, keyOf Try.prog 232 (.agg #[.int .i64 p, .int .i64 a, .int .i64 v]) = some kl := by
  have hn : ∃ m, Try.prog.types.size = m + 1 := by
    have h := Try.rowPost
    revert h
    generalize Try.prog.types.size = n
    intro h
    cases n with
    | zero => exact absurd h (Nat.not_lt_zero _)
    | succ m => exact ⟨m, rfl⟩
  obtain ⟨m, hm⟩ := hn
  unfold keyOf
  simp only [Try.underlying232]
  rw [if_pos (by simp [Try.keyTypePost, Value.formed, Try.underlying232, Try.cellsPost]), hm]
  unfold Program.keyLits
  simp only [Try.underlying232, Value.cells]
  rw [if_pos (by rw [Try.cellsPost]; exact ⟨rfl, by simp⟩)]
  simp [Try.cellsInt, Program.keyLits, Try.underlying3, hp, ha, hv]

def cntP (L : List MPiece) (p a v : Int) : Nat := L.countP fun s => s.len == p && s.speed == a && s.brake == v
def fP (L : List MPiece) : Value → Int
  | .agg ⟨[.int .i64 p, .int .i64 a, .int .i64 v]⟩ => cntP L p a v
  | _ => 0
theorem fP_at (L : List MPiece) (p a v : Int) : fP L (.agg #[.int .i64 p, .int .i64 a, .int .i64 v]) = cntP L p a v := rfl
theorem fP_nil : fP [] = fun _ => 0 := by
  funext v
  unfold fP
  split <;> rfl
theorem cntP_snoc (L : List MPiece) (s : MPiece) (p a v : Int) : cntP (L ++ [s]) p a v = cntP L p a v + if (s.len == p && s.speed == a && s.brake == v) = true then 1 else 0 := by
  unfold cntP
  rw [List.countP_append, List.countP_singleton]
theorem fP_same (L : List MPiece) (s : MPiece) : fP (L ++ [s]) (.agg #[.int .i64 s.len, .int .i64 s.speed, .int .i64 s.brake]) = fP L (.agg #[.int .i64 s.len, .int .i64 s.speed, .int .i64 s.brake]) + 1 := by
  rw [fP_at, fP_at, cntP_snoc, if_pos (by simp)]
  simp
theorem fP_other (L : List MPiece) (s : MPiece) : ∀ k, k ≠ .agg #[.int .i64 s.len, .int .i64 s.speed, .int .i64 s.brake] → fP (L ++ [s]) k = fP L k := by
  intro k hk
  unfold fP
  split
  · rename_i p a v
    rw [cntP_snoc, if_neg]
    · simp
    · intro h
      simp at h
      apply hk
      rw [h.1.1, h.1.2, h.2]
  · rfl

def SMap (w : World) (b : Nat) (L : List MPiece) : Prop := CMap 9 w b L.length (fS (namesP L))
def PMap (w : World) (b : Nat) (L : List MPiece) : Prop := CMap 232 w b L.length (fP L)
theorem take_next {ss : List MPiece} {i : Nat} (h : i < ss.length) : ss.take (i + 1) = ss.take i ++ [ss[i]] := List.take_succ_eq_append_getElem h
theorem namesP_snoc (L : List MPiece) (s : MPiece) : namesP (L ++ [s]) = namesP L ++ [s.name] := by simp [namesP]

theorem beforeB_eq (ss : List MPiece) (i : Nat) (s : MPiece) : beforeB ss i s = (decide (cntS (namesP (ss.take i)) s.name ≠ 0) || decide (cntP (ss.take i) s.len s.speed s.brake ≠ 0)) := by
  unfold beforeB cntS cntP namesP
  generalize ss.take i = L
  rw [Bool.eq_iff_iff]
  simp only [List.any_eq_true, same4, Bool.or_eq_true, decide_eq_true_eq, ne_eq, List.countP_eq_zero, List.mem_map, Bool.and_eq_true, beq_iff_eq]
  constructor
  · rintro ⟨x, hx, h | h⟩
    · left
      intro h2
      exact h2 x.name ⟨x, hx, rfl⟩ h
    · right
      intro h2
      exact h2 x hx h
  · rintro (h | h)
    · have : ∃ t, (∃ a, a ∈ L ∧ a.name = t) ∧ t = s.name := by
        apply Classical.byContradiction
        intro hn
        exact h (fun t ht e => hn ⟨t, ht, e⟩)
      obtain ⟨t, ⟨x, hx, rfl⟩, e⟩ := this
      exact ⟨x, hx, Or.inl e⟩
    · have : ∃ x, x ∈ L ∧ ((x.len = s.len ∧ x.speed = s.speed) ∧ x.brake = s.brake) := by
        apply Classical.byContradiction
        intro hn
        exact h (fun x hx e => hn ⟨x, hx, e⟩)
      obtain ⟨x, hx, e⟩ := this
      exact ⟨x, hx, Or.inr e⟩

theorem grown_cell {w w' : World} {b : Nat} (hg : w.grownBy w' (some b)) {a : Addr} {v : Value} (h : w.cell? a = some v) (hne : a.block ≠ b) : w'.cell? a = some v :=
  (World.cell?_of_block (w := w) (hg.block a.block (cellLt h) (fun e => hne (by injection e)))).trans h

set_option maxRecDepth 100000 in
set_option maxHeartbeats 4000000 in
theorem firstDoubleSignal_any (sa : Option Addr) (sc : Nat) (ss : List MPiece) (w : World) (hs : Hid (PiecesAt w sa ss)) (hl : ss.length ≤ 1000)
    (hr : Hid (∀ q (h : q < ss.length), 0 ≤ ss[q].len ∧ ss[q].len ≤ 100 ∧ 0 ≤ ss[q].speed ∧ ss[q].speed ≤ 10000000 ∧ -1 ≤ ss[q].brake ∧ ss[q].brake ≤ 1)) :
    Calls Try.prog 75 #[.slice sa ss.length sc] w fun e w' => e = .returned (.int .i64 (firstBad (badS4 ss) ss.length)) ∧ Below w.heap.size w w' := by
  have hmm := @run_makeMap Try.prog
  go_enter Try.func75, Try.ntmps75
  go_wp2_with fail
  have HS : Hid (SMap ((w.alloc (.map #[] 0)).alloc (.map #[] 0)) w.heap.size (ss.take 0)) := by
    have h := CMap.made 9 w
    rw [← fS_nil] at h
    exact h.below (show Below _ _ ((w.alloc (.map #[] 0)).alloc (.map #[] 0)) from (Below.refl _ _).alloc (Nat.le_refl _) _)
  have HP : Hid (PMap ((w.alloc (.map #[] 0)).alloc (.map #[] 0)) (w.heap.size + 1) (ss.take 0)) := by
    have h := CMap.made 232 (w.alloc (.map #[] 0))
    have h2 : (w.alloc (.map #[] 0)).heap.size = w.heap.size + 1 := by simp
    rw [← fP_nil, h2] at h
    exact h
  go_loopw [12] (fun c wr => ∃ (i : Nat), i ≤ ss.length ∧ c = .int .i64 i ∧ Hid (∀ q, q < i → badS4 ss q = false) ∧ Hid (SMap wr w.heap.size (ss.take i)) ∧ Hid (PMap wr (w.heap.size + 1) (ss.take i)) ∧ Below w.heap.size w wr) (fun c _ => ss.length - (intOf c).toNat)
  case atStart => exact ⟨0, Nat.zero_le _, rfl, (fun q h => absurd h (Nat.not_lt_zero q)), HS.out, HP.out, (by repeat (first | exact Below.refl _ _ | assumption | refine Below.drew ?_ | refine bdrewN ?_ _ | refine Below.setCell ?_ (by first | omega | (simp; done) | (simp; omega)) _ | refine Below.alloc ?_ (by first | omega | (simp; done) | (simp; omega)) _))⟩
  case round =>
    clear HS HP hmm
    obtain ⟨i, hi, rfl, HQ, HS, HP, hb⟩ := hrel
    have hbs := hb.size
    have hz1 : w.heap.size + 1 < wr.heap.size := CMap.lt HP.out
    by_cases hi' : i < ss.length
    · obtain ⟨b1, off1, rfl, hpc⟩ := hs.out.2.2.resolve_left (fun h => by rw [h] at hi'; exact absurd hi' (Nat.not_lt_zero _))
      obtain ⟨c1, c2, c3, c4⟩ := (hpc.below hb) i hi'
      have hsz : ss[i].name.size ≤ maxLen := hs.out.2.1 _ (List.getElem_mem hi')
      obtain ⟨y1, y2, y3, y4, y5, y6⟩ := hr.out i hi'
      obtain ⟨kl, hkey⟩ := keyP (wf64 y1 (by omega)) (wf64 y3 (by omega)) (show (Lit.int .i64 ss[i].brake).wf = true from WalkArith.wf_i64 (by omega))
      clear hpc y1 y2 y3 y4 y5 y6
      have HXB : Hid (beforeB ss i ss[i] = true → firstBad (badS4 ss) ss.length = i) := fun ho => firstBad_hit hi' (by rw [badS4_at hi', ho]) HQ.out
      have HQ2 : Hid (beforeB ss i ss[i] = false → ∀ q, q < i + 1 → badS4 ss q = false) := by
        intro ho q hq
        by_cases e : q < i
        · exact HQ.out q e
        · have : q = i := by omega
          subst this
          rw [badS4_at hi', ho]
      clear HQ
      generalize hX : (wr.alloc (Obj.cells #[Value.string ss[i].name, Value.int IntKind.i64 ss[i].len, Value.int IntKind.i64 ss[i].speed, Value.int IntKind.i64 ss[i].brake] 53)).alloc (Obj.cells #[Value.int IntKind.i64 ss[i].len, Value.int IntKind.i64 ss[i].speed, Value.int IntKind.i64 ss[i].brake] 232) = X
      have hbX : Below wr.heap.size wr X := by rw [← hX]; exact (by repeat (first | exact Below.refl _ _ | assumption | refine Below.drew ?_ | refine bdrewN ?_ _ | refine Below.setCell ?_ (by first | omega | (simp; done) | (simp; omega)) _ | refine Below.alloc ?_ (by first | omega | (simp; done) | (simp; omega)) _))
      have n0 : X.cell? ⟨wr.heap.size, 0, none⟩ = some (.string ss[i].name) := by rw [← hX]; simp [go_sem]
      have p0 : X.cell? ⟨wr.heap.size + 1, 0, none⟩ = some (.int .i64 ss[i].len) := by rw [← hX]; simp [go_sem]
      have p1 : X.cell? ⟨wr.heap.size + 1, 1, none⟩ = some (.int .i64 ss[i].speed) := by rw [← hX]; simp [go_sem]
      have p2 : X.cell? ⟨wr.heap.size + 1, 2, none⟩ = some (.int .i64 ss[i].brake) := by rw [← hX]; simp [go_sem]
      have hS2 : CMap 9 X w.heap.size (ss.take i).length (fS (namesP (ss.take i))) := CMap.below HS.out hbX
      have hP2 : CMap 232 X (w.heap.size + 1) (ss.take i).length (fP (ss.take i)) := CMap.below HP.out hbX
      have hlS := hS2.lookup lawS Try.underlying222 (keyS hsz)
      have hlP := hP2.lookup lawP Try.underlying230 hkey
      have hbX' : Below w.heap.size w X := hb.trans (hbX.mono hb.size)
      have hlen : (ss.take i).length ≤ 1000 := by rw [List.length_take]; omega
      have hXs : wr.heap.size + 1 < X.heap.size := by rw [← hX]; simp
      by_cases kS : cntS (namesP (ss.take i)) ss[i].name = 0
      · have eS : fS (namesP (ss.take i)) (.string ss[i].name) = 0 := by show ((cntS _ _ : Nat) : Int) = 0; rw [kS]; rfl
        rw [eS] at hlS
        by_cases kP : cntP (ss.take i) ss[i].len ss[i].speed ss[i].brake = 0
        · have eP : fP (ss.take i) (.agg #[.int .i64 ss[i].len, .int .i64 ss[i].speed, .int .i64 ss[i].brake]) = 0 := by rw [fP_at, kP]; rfl
          rw [eP] at hlP
          have HQ3 := hidQ (HQ2.out (by rw [beforeB_eq, kS, kP]; rfl))
          obtain ⟨w2, hup, hS3, hg2⟩ := hS2.update lawS Try.underlying222 (by unfold maxLen; omega) (keyS hsz) 1 (wf64 (by omega) (by omega)) (fS (namesP (ss.take (i + 1)))) (by rw [take_next hi', namesP_snoc, fS_same, kS]; rfl) (by rw [take_next hi', namesP_snoc]; exact fS_other _ _)
          have m0 := grown_cell hg2 p0 (by show wr.heap.size + 1 ≠ w.heap.size; omega)
          have m1 := grown_cell hg2 p1 (by show wr.heap.size + 1 ≠ w.heap.size; omega)
          have m2 := grown_cell hg2 p2 (by show wr.heap.size + 1 ≠ w.heap.size; omega)
          have hP3 : CMap 232 w2.drew (w.heap.size + 1) (ss.take i).length (fP (ss.take i)) := hP2.of_block (hg2.block _ (CMap.lt hP2) (by simp))
          have hlP3 := hP3.lookup lawP Try.underlying230 hkey
          rw [eP] at hlP3
          obtain ⟨v0, st, w3, w4, hme, hl3, hes, hP4, hg4⟩ := hP3.entry lawKP Try.underlying230 (by unfold maxLen; omega) hkey 1 (wf64 (by omega) (by omega)) (fP (ss.take (i + 1))) (by rw [take_next hi', fP_same, eP]; rfl) (by rw [take_next hi']; exact fP_other _ _)
          rw [eP] at hl3
          have hlen1 : (ss.take (i + 1)).length = (ss.take i).length + 1 := by rw [take_next hi', List.length_append]; rfl
          have HP4 : Hid (PMap w4 (w.heap.size + 1) (ss.take (i + 1))) := by
            unfold Hid PMap
            rw [hlen1]
            exact hP4
          have HS4 : Hid (SMap w4 w.heap.size (ss.take (i + 1))) := by
            unfold Hid SMap
            rw [hlen1]
            refine hS3.of_block ?_
            exact hg4.block _ (CMap.lt hS3) (by simp)
          have hb2 : Below w.heap.size w w2 := hbX'.grown hg2 hbX'.size (fun j hj => by cases hj; exact Nat.le_refl _)
          have hb4 : Below w.heap.size w w4 := hb2.drew.grown hg4 hb2.size (fun j hj => by cases hj; omega)
          clear hS2 hP2 hS3 hP3 hP4 hg2 hg4 hkey eS eP kS kP HXB HQ2 HS HP hlen hlen1 hb2 hbX' p0 p1 p2 hbX
          subst hX
          go_wp2_with fail
          go_region
          all_goals
            go_wp2_with fail
            go_roundw
            case rel => exact ⟨i + 1, by omega, by go_num, HQ3, HS4, HP4, hb4⟩
            case measure => simp [intOf]; omega
        · have HX := hidQ (HXB.out (by rw [beforeB_eq, kS, decide_eq_true kP]; rfl))
          have hpos : 0 < fP (ss.take i) (.agg #[.int .i64 ss[i].len, .int .i64 ss[i].speed, .int .i64 ss[i].brake]) := by
            rw [fP_at]
            omega
          generalize fP (ss.take i) (.agg #[.int .i64 ss[i].len, .int .i64 ss[i].speed, .int .i64 ss[i].brake]) = c0 at hlP hpos
          clear hS2 hP2 hkey eS kS kP HXB HQ2 HS HP hlen hbX p0 p1 p2 n0
          subst hX
          go_wp2_with fail
          go_ret
          exact ⟨ret_int HX.out.symm, hbX'⟩
      · have HX := hidQ (HXB.out (by rw [beforeB_eq, decide_eq_true kS]; rfl))
        have hpos : 0 < fS (namesP (ss.take i)) (.string ss[i].name) := by
          show (0 : Int) < ((cntS _ _ : Nat) : Int)
          omega
        generalize fS (namesP (ss.take i)) (.string ss[i].name) = c0 at hlS hpos
        clear hS2 hP2 hkey kS HXB HQ2 HS HP hlen hbX p0 p1 p2 n0
        subst hX
        go_wp2_with fail
        go_ret
        exact ⟨ret_int HX.out.symm, hbX'⟩
    · have HX := hidQ (firstBad_none (bad := badS4 ss) (n := ss.length) (fun q h => HQ.out q (by omega)))
      clear HQ HS HP
      go_wp2_with fail
      go_ret
      exact ⟨ret_int HX.out.symm, hb⟩

end Go.Proofs.Ytmkdgnmmebldgaa
