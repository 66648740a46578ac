import Derived.Test.YtmkdgnmmebldgaaGreatEx35
import Derived.Test.YtmkdgnmmebldgaaGreatEx10
import Derived.Test.YtmkdgnmmebldgaaGreatEx13
namespace Go.Proofs.YtmkdgnmmebldgaaGreat
open Go.RowKit Go.Maps
open Go.WideMaps (KeyLaw)

theorem Tryz.rowPost : (191 : TypeId) < Tryz.prog.types.size := of_decide_eq_true (by kernel_rfl)
theorem lawKP : KeyLaw Tryz.prog 191 := deep_law_laid Tryz.laidOutB (m := 2) (by omega) Tryz.rowPost (by kernel_rfl) (by rw [Tryz.underlying191])
theorem lawP : Keyed Tryz.prog 191 := Keyed.of_law lawKP
theorem Tryz.cellsPost : Tryz.prog.cellsOf 191 = 3 := by kernel_rfl
theorem Tryz.keyTypePost : Tryz.prog.keyType 191 = true := by kernel_rfl

theorem keyP {p a v : Int} (hp : (Lit.int .i64 p).wf = true) (ha : (Lit.int .i64 a).wf = true) (hv : (Lit.int .i64 v).wf = true) : ∃ kl, keyOf Tryz.prog 191 (.agg #[.int .i64 p, .int .i64 a, .int .i64 v]) = some kl := by
  have hn : ∃ m, Tryz.prog.types.size = m + 1 := by
    have h := Tryz.rowPost
    revert h
    generalize Tryz.prog.types.size = n
    intro h
    cases n with
    | zero => exact absurd h (Nat.not_lt_zero _)
    | succ m => exact ⟨m, rfl⟩
  obtain ⟨m, hm⟩ := hn
  unfold keyOf
  simp only [Tryz.underlying191]
  rw [if_pos (by simp [Tryz.keyTypePost, Value.formed, Tryz.underlying191, Tryz.cellsPost]), hm]
  unfold Program.keyLits
  simp only [Tryz.underlying191, Value.cells]
  rw [if_pos (by rw [Tryz.cellsPost]; exact ⟨rfl, by simp⟩)]
  simp [Tryz.cellsInt, Program.keyLits, Tryz.underlying3, hp, ha, hv]

def cntP (L : List MPiece) (p a v : Int) : Nat := L.countP fun s => s.len == p && s.speed == a && s.brake == v
def fP (L : List MPiece) : Value → Int
  | .agg ⟨[.int .i64 p, .int .i64 a, .int .i64 v]⟩ => cntP L p a v
  | _ => 0
theorem fP_at (L : List MPiece) (p a v : Int) : fP L (.agg #[.int .i64 p, .int .i64 a, .int .i64 v]) = cntP L p a v := rfl
theorem fP_nil : fP [] = fun _ => 0 := by
  funext v
  unfold fP
  split <;> rfl
theorem cntP_snoc (L : List MPiece) (s : MPiece) (p a v : Int) : cntP (L ++ [s]) p a v = cntP L p a v + if (s.len == p && s.speed == a && s.brake == v) = true then 1 else 0 := by
  unfold cntP
  rw [List.countP_append, List.countP_singleton]
theorem fP_same (L : List MPiece) (s : MPiece) : fP (L ++ [s]) (.agg #[.int .i64 s.len, .int .i64 s.speed, .int .i64 s.brake]) = fP L (.agg #[.int .i64 s.len, .int .i64 s.speed, .int .i64 s.brake]) + 1 := by
  rw [fP_at, fP_at, cntP_snoc, if_pos (by simp)]
  simp
theorem fP_other (L : List MPiece) (s : MPiece) : ∀ k, k ≠ .agg #[.int .i64 s.len, .int .i64 s.speed, .int .i64 s.brake] → fP (L ++ [s]) k = fP L k := by
  intro k hk
  unfold fP
  split
  · rename_i p a v
    rw [cntP_snoc, if_neg]
    · simp
    · intro h
      simp at h
      apply hk
      rw [h.1.1, h.1.2, h.2]
  · rfl

def NaMap (w : World) (b : Nat) (L : List MPiece) : Prop := CMap 9 w b L.length (fS (namesP L))
def PMap (w : World) (b : Nat) (L : List MPiece) : Prop := CMap 191 w b L.length (fP L)
theorem take_next {ss : List MPiece} {i : Nat} (h : i < ss.length) : ss.take (i + 1) = ss.take i ++ [ss[i]] := List.take_succ_eq_append_getElem h
theorem namesP_snoc (L : List MPiece) (s : MPiece) : namesP (L ++ [s]) = namesP L ++ [s.name] := by simp [namesP]

theorem beforeB_eq (ss : List MPiece) (i : Nat) (s : MPiece) : beforeB ss i s = (decide (cntS (namesP (ss.take i)) s.name ≠ 0) || decide (cntP (ss.take i) s.len s.speed s.brake ≠ 0)) := by
  unfold beforeB cntS cntP namesP
  generalize ss.take i = L
  rw [Bool.eq_iff_iff]
  simp only [List.any_eq_true, same4, Bool.or_eq_true, decide_eq_true_eq, ne_eq, List.countP_eq_zero, List.mem_map, Bool.and_eq_true, beq_iff_eq]
  constructor
  · rintro ⟨x, hx, h | h⟩
    · left
      intro h2
      exact h2 x.name ⟨x, hx, rfl⟩ h
    · right
      intro h2
      exact h2 x hx h
  · rintro (h | h)
    · have : ∃ t, (∃ a, a ∈ L ∧ a.name = t) ∧ t = s.name := by
        apply Classical.byContradiction
        intro hn
        exact h (fun t ht e => hn ⟨t, ht, e⟩)
      obtain ⟨t, ⟨x, hx, rfl⟩, e⟩ := this
      exact ⟨x, hx, Or.inl e⟩
    · have : ∃ x, x ∈ L ∧ ((x.len = s.len ∧ x.speed = s.speed) ∧ x.brake = s.brake) := by
        apply Classical.byContradiction
        intro hn
        exact h (fun x hx e => hn ⟨x, hx, e⟩)
      obtain ⟨x, hx, e⟩ := this
      exact ⟨x, hx, Or.inr e⟩

theorem grown_cell {w w' : World} {b : Nat} (hg : w.grownBy w' (some b)) {a : Addr} {v : Value} (h : w.cell? a = some v) (hne : a.block ≠ b) : w'.cell? a = some v :=
  (World.cell?_of_block (w := w) (hg.block a.block (cellLt h) (fun e => hne (by injection e)))).trans h

set_option maxRecDepth 100000 in
set_option maxHeartbeats 4000000 in
theorem firstDoubleSignal_any (sa : Option Addr) (sc : Nat) (ss : List MPiece) (w : World) (hs : Hid (PiecesAt w sa ss)) (hl : ss.length ≤ 1000)
    (hr : Hid (∀ q (h : q < ss.length), 0 ≤ ss[q].len ∧ ss[q].len ≤ 100 ∧ 0 ≤ ss[q].speed ∧ ss[q].speed ≤ 10000000 ∧ -1 ≤ ss[q].brake ∧ ss[q].brake ≤ 1)) :
    Calls Tryz.prog 85 #[.slice sa ss.length sc] w fun e w' => e = .returned (.int .i64 (firstBad (badS4 ss) ss.length)) ∧ Below w.heap.size w w' := by
  have hmm := @run_makeMap Tryz.prog
  go_enter Tryz.func85, Tryz.ntmps85
  go_wp2_with fail
  have HS : Hid (NaMap ((w.alloc (.map #[] 0)).alloc (.map #[] 0)) w.heap.size (ss.take 0)) := by
    have h := CMap.made 9 w
    rw [← fS_nil] at h
    exact h.below (show Below _ _ ((w.alloc (.map #[] 0)).alloc (.map #[] 0)) from (Below.refl _ _).alloc (Nat.le_refl _) _)
  have HP : Hid (PMap ((w.alloc (.map #[] 0)).alloc (.map #[] 0)) (w.heap.size + 1) (ss.take 0)) := by
    have h := CMap.made 191 (w.alloc (.map #[] 0))
    have h2 : (w.alloc (.map #[] 0)).heap.size = w.heap.size + 1 := by simp
    rw [← fP_nil, h2] at h
    exact h
  go_loopw [12] (fun c wr => ∃ (i : Nat), i ≤ ss.length ∧ c = .int .i64 i ∧ Hid (∀ q, q < i → badS4 ss q = false) ∧ Hid (NaMap wr w.heap.size (ss.take i)) ∧ Hid (PMap wr (w.heap.size + 1) (ss.take i)) ∧ Below w.heap.size w wr) (fun c _ => ss.length - (intOf c).toNat)
  case atStart => exact ⟨0, Nat.zero_le _, rfl, (fun q h => absurd h (Nat.not_lt_zero q)), HS.out, HP.out, (by repeat (first | exact Below.refl _ _ | assumption | refine Below.drew ?_ | refine bdrewN ?_ _ | refine Below.setCell ?_ (by first | omega | (simp; done) | (simp; omega)) _ | refine Below.alloc ?_ (by first | omega | (simp; done) | (simp; omega)) _))⟩
  case round =>
    clear HS HP hmm
    obtain ⟨i, hi, rfl, HQ, HS, HP, hb⟩ := hrel
    have hbs := hb.size
    have hz1 : w.heap.size + 1 < wr.heap.size := CMap.lt HP.out
    by_cases hi' : i < ss.length
    · obtain ⟨b1, off1, rfl, hpc⟩ := hs.out.2.2.resolve_left (fun h => by rw [h] at hi'; exact absurd hi' (Nat.not_lt_zero _))
      obtain ⟨c1, c2, c3, c4⟩ := (hpc.below hb) i hi'
      have hsz : ss[i].name.size ≤ maxLen := hs.out.2.1 _ (List.getElem_mem hi')
      obtain ⟨y1, y2, y3, y4, y5, y6⟩ := hr.out i hi'
      obtain ⟨kl, hkey⟩ := keyP (wf64 y1 (by omega)) (wf64 y3 (by omega)) (show (Lit.int .i64 ss[i].brake).wf = true from WalkArith.wf_i64 (by omega))
      clear hpc y1 y2 y3 y4 y5 y6
      have HXB : Hid (beforeB ss i ss[i] = true → firstBad (badS4 ss) ss.length = i) := fun ho => firstBad_hit hi' (by rw [badS4_at hi', ho]) HQ.out
      have HQ2 : Hid (beforeB ss i ss[i] = false → ∀ q, q < i + 1 → badS4 ss q = false) := by
        intro ho q hq
        by_cases e : q < i
        · exact HQ.out q e
        · have : q = i := by omega
          subst this
          rw [badS4_at hi', ho]
      clear HQ
      generalize hX : (wr.alloc (Obj.cells #[Value.string ss[i].name, Value.int IntKind.i64 ss[i].len, Value.int IntKind.i64 ss[i].speed, Value.int IntKind.i64 ss[i].brake] 56)).alloc (Obj.cells #[Value.int IntKind.i64 ss[i].len, Value.int IntKind.i64 ss[i].speed, Value.int IntKind.i64 ss[i].brake] 191) = X
      have hbX : Below wr.heap.size wr X := by rw [← hX]; exact (by repeat (first | exact Below.refl _ _ | assumption | refine Below.drew ?_ | refine bdrewN ?_ _ | refine Below.setCell ?_ (by first | omega | (simp; done) | (simp; omega)) _ | refine Below.alloc ?_ (by first | omega | (simp; done) | (simp; omega)) _))
      have n0 : X.cell? ⟨wr.heap.size, 0, none⟩ = some (.string ss[i].name) := by rw [← hX]; simp [go_sem]
      have p0 : X.cell? ⟨wr.heap.size + 1, 0, none⟩ = some (.int .i64 ss[i].len) := by rw [← hX]; simp [go_sem]
      have p1 : X.cell? ⟨wr.heap.size + 1, 1, none⟩ = some (.int .i64 ss[i].speed) := by rw [← hX]; simp [go_sem]
      have p2 : X.cell? ⟨wr.heap.size + 1, 2, none⟩ = some (.int .i64 ss[i].brake) := by rw [← hX]; simp [go_sem]
      have hS2 : CMap 9 X w.heap.size (ss.take i).length (fS (namesP (ss.take i))) := CMap.below HS.out hbX
      have hP2 : CMap 191 X (w.heap.size + 1) (ss.take i).length (fP (ss.take i)) := CMap.below HP.out hbX
      have hlS := hS2.lookup lawS Tryz.underlying188 (keyS hsz)
      have hlP := hP2.lookup lawP Tryz.underlying189 hkey
      have hbX' : Below w.heap.size w X := hb.trans (hbX.mono hb.size)
      have hlen : (ss.take i).length ≤ 1000 := by rw [List.length_take]; omega
      have hXs : wr.heap.size + 1 < X.heap.size := by rw [← hX]; simp
      by_cases kS : cntS (namesP (ss.take i)) ss[i].name = 0
      · have eS : fS (namesP (ss.take i)) (.string ss[i].name) = 0 := by show ((cntS _ _ : Nat) : Int) = 0; rw [kS]; rfl
        rw [eS] at hlS
        by_cases kP : cntP (ss.take i) ss[i].len ss[i].speed ss[i].brake = 0
        · have eP : fP (ss.take i) (.agg #[.int .i64 ss[i].len, .int .i64 ss[i].speed, .int .i64 ss[i].brake]) = 0 := by rw [fP_at, kP]; rfl
          rw [eP] at hlP
          have HQ3 := hidQ (HQ2.out (by rw [beforeB_eq, kS, kP]; rfl))
          obtain ⟨w2, hup, hS3, hg2⟩ := hS2.update lawS Tryz.underlying188 (by unfold maxLen; omega) (keyS hsz) 1 (wf64 (by omega) (by omega)) (fS (namesP (ss.take (i + 1)))) (by rw [take_next hi', namesP_snoc, fS_same, kS]; rfl) (by rw [take_next hi', namesP_snoc]; exact fS_other _ _)
          have m0 := grown_cell hg2 p0 (by show wr.heap.size + 1 ≠ w.heap.size; omega)
          have m1 := grown_cell hg2 p1 (by show wr.heap.size + 1 ≠ w.heap.size; omega)
          have m2 := grown_cell hg2 p2 (by show wr.heap.size + 1 ≠ w.heap.size; omega)
          have hP3 : CMap 191 w2.drew (w.heap.size + 1) (ss.take i).length (fP (ss.take i)) := hP2.of_block (hg2.block _ (CMap.lt hP2) (by simp))
          have hlP3 := hP3.lookup lawP Tryz.underlying189 hkey
          rw [eP] at hlP3
          obtain ⟨v0, st, w3, w4, hme, hl3, hes, hP4, hg4⟩ := hP3.entry lawKP Tryz.underlying189 (by unfold maxLen; omega) hkey 1 (wf64 (by omega) (by omega)) (fP (ss.take (i + 1))) (by rw [take_next hi', fP_same, eP]; rfl) (by rw [take_next hi']; exact fP_other _ _)
          rw [eP] at hl3
          have hlen1 : (ss.take (i + 1)).length = (ss.take i).length + 1 := by rw [take_next hi', List.length_append]; rfl
          have HP4 : Hid (PMap w4 (w.heap.size + 1) (ss.take (i + 1))) := by
            unfold Hid PMap
            rw [hlen1]
            exact hP4
          have HS4 : Hid (NaMap w4 w.heap.size (ss.take (i + 1))) := by
            unfold Hid NaMap
            rw [hlen1]
            refine hS3.of_block ?_
            exact hg4.block _ (CMap.lt hS3) (by simp)
          have hb2 : Below w.heap.size w w2 := hbX'.grown hg2 hbX'.size (fun j hj => by cases hj; exact Nat.le_refl _)
          have hb4 : Below w.heap.size w w4 := hb2.drew.grown hg4 hb2.size (fun j hj => by cases hj; omega)
          clear hS2 hP2 hS3 hP3 hP4 hg2 hg4 hkey eS eP kS kP HXB HQ2 HS HP hlen hlen1 hb2 hbX' p0 p1 p2 hbX
          subst hX
          go_wp2_with fail
          go_region
          all_goals
            go_wp2_with fail
            go_roundw
            case rel => exact ⟨i + 1, by omega, by go_num, HQ3, HS4, HP4, hb4⟩
            case measure => simp [intOf]; omega
        · have HX := hidQ (HXB.out (by rw [beforeB_eq, kS, decide_eq_true kP]; rfl))
          have hpos : 0 < fP (ss.take i) (.agg #[.int .i64 ss[i].len, .int .i64 ss[i].speed, .int .i64 ss[i].brake]) := by
            rw [fP_at]
            omega
          generalize fP (ss.take i) (.agg #[.int .i64 ss[i].len, .int .i64 ss[i].speed, .int .i64 ss[i].brake]) = c0 at hlP hpos
          clear hS2 hP2 hkey eS kS kP HXB HQ2 HS HP hlen hbX p0 p1 p2 n0
          subst hX
          go_wp2_with fail
          go_ret
          exact ⟨ret_int HX.out.symm, hbX'⟩
      · have HX := hidQ (HXB.out (by rw [beforeB_eq, decide_eq_true kS]; rfl))
        have hpos : 0 < fS (namesP (ss.take i)) (.string ss[i].name) := by
          show (0 : Int) < ((cntS _ _ : Nat) : Int)
          omega
        generalize fS (namesP (ss.take i)) (.string ss[i].name) = c0 at hlS hpos
        clear hS2 hP2 hkey kS HXB HQ2 HS HP hlen hbX p0 p1 p2 n0
        subst hX
        go_wp2_with fail
        go_ret
        exact ⟨ret_int HX.out.symm, hbX'⟩
    · have HX := hidQ (firstBad_none (bad := badS4 ss) (n := ss.length) (fun q h => HQ.out q (by omega)))
      clear HQ HS HP
      go_wp2_with fail
      go_ret
      exact ⟨ret_int HX.out.symm, hb⟩

end Go.Proofs.YtmkdgnmmebldgaaGreat

namespace Go.Proofs.YtmkdgnmmebldgaaGreat
open Go.RowKit

set_option maxHeartbeats 2000000 in
theorem implSignalsOk_any (pa ja sa : Option Addr) (pc jc sc : Nat) (ps : List MPiece) (js : List MJoint) (ss : List MPiece) (w : World) (hp : Hid (PiecesAt w pa ps)) (hj : Hid (JointsAt w ja js)) (hs : Hid (PiecesAt w sa ss)) :
    Calls Tryz.prog 62 #[.agg #[.slice pa ps.length pc, .slice ja js.length jc], .slice sa ss.length sc] w fun e w' => e = .returned (faultV (sigF ps js ss)) ∧ Below w.heap.size w w' := by
  have hsl := hs.out.1
  unfold maxLen at hsl
  go_enter Tryz.func62, Tryz.ntmps62
  go_wp2_with fail
  refine (implNetOk_any _ _ _ _ _ _ _ (hp.out.below (by repeat (first | exact Below.refl _ _ | assumption | refine Below.drew ?_ | refine bdrewN ?_ _ | refine Below.setCell ?_ (by first | omega | (simp; done) | (simp; omega)) _ | refine Below.alloc ?_ (by first | omega | (simp; done) | (simp; omega)) _))) (hj.out.below (by repeat (first | exact Below.refl _ _ | assumption | refine Below.drew ?_ | refine bdrewN ?_ _ | refine Below.setCell ?_ (by first | omega | (simp; done) | (simp; omega)) _ | refine Below.alloc ?_ (by first | omega | (simp; done) | (simp; omega)) _)))).mono ?_
  rintro e w1 ⟨rfl, hb1'⟩
  generalize hW : (w.alloc (Obj.cells #[Value.slice pa ps.length pc, Value.slice ja js.length jc] 34)).alloc (Obj.cells #[Value.int IntKind.i64 0, Value.int IntKind.i64 0] 97) = W at hb1'
  have e0 : W.cell? ⟨w.heap.size, 0, none⟩ = some (.slice pa ps.length pc) := by rw [← hW]; simp [go_sem]
  have r0 : W.cell? ⟨w.heap.size + 1, 0, none⟩ = some (.int .i64 0) := by rw [← hW]; simp [go_sem]
  have r1 : W.cell? ⟨w.heap.size + 1, 1, none⟩ = some (.int .i64 0) := by rw [← hW]; simp [go_sem]
  have f0 : W.frozen? ⟨w.heap.size + 1, 0, none⟩ = false := by rw [← hW]; simp [go_sem]
  have f1 : W.frozen? ⟨w.heap.size + 1, 1, none⟩ = false := by rw [← hW]; simp [go_sem]
  have hz : w.heap.size + 2 = W.heap.size := by rw [← hW]; simp
  have hzA : w.heap.size + 1 < W.heap.size := by omega
  have hbW : Below w.heap.size w W := by rw [← hW]; exact (by repeat (first | exact Below.refl _ _ | assumption | refine Below.drew ?_ | refine bdrewN ?_ _ | refine Below.setCell ?_ (by first | omega | (simp; done) | (simp; omega)) _ | refine Below.alloc ?_ (by first | omega | (simp; done) | (simp; omega)) _))
  clear hW hz
  have e0' := cell_later hb1' e0
  have r0' := cell_later hb1' r0
  have r1' := cell_later hb1' r1
  have f0' := (hb1'.frozen (p := ⟨w.heap.size + 1, 0, none⟩) (by exact hzA)).trans f0
  have f1' := (hb1'.frozen (p := ⟨w.heap.size + 1, 1, none⟩) (by exact hzA)).trans f1
  have hbF := hbW.trans (hb1'.mono hbW.size)
  by_cases hN : netF ps js = (0, 0)
  rotate_left
  · have HX := hidQ (sigF_1 (ss := ss) hN)
    have hc := (netF_code ps js).resolve_left hN
    obtain ⟨fc, fa, hf⟩ : ∃ fc fa, netF ps js = (fc, fa) := ⟨_, _, rfl⟩
    rw [hf] at hc ⊢
    simp only at hc
    unfold faultV
    clear hf hN
    go_wp2_with fail
    exact bodyPost_ret (v := .agg #[.int .i64 1, .int .i64 0]) (by simp [results, Tryz.results62, go_sem, r0', r1']) rfl ⟨ret_fault HX.out, (by repeat (first | exact Below.refl _ _ | assumption | refine Below.drew ?_ | refine bdrewN ?_ _ | refine Below.setCell ?_ (by first | omega | (simp; done) | (simp; omega)) _ | refine Below.alloc ?_ (by first | omega | (simp; done) | (simp; omega)) _))⟩
  have HN := hidQ hN
  rw [hN]
  unfold faultV
  obtain ⟨hp100, hplen⟩ := net_ok_pieces hN
  have HPL := hidQ hplen
  clear hN hplen
  by_cases h60 : 60 < ss.length
  · have HX := hidQ (sigF_2 HN.out h60)
    go_wp2_with fail
    exact bodyPost_ret (v := .agg #[.int .i64 2, .int .i64 0]) (by simp [results, Tryz.results62, go_sem, r0', r1']) rfl ⟨ret_fault HX.out, (by repeat (first | exact Below.refl _ _ | assumption | refine Below.drew ?_ | refine bdrewN ?_ _ | refine Below.setCell ?_ (by first | omega | (simp; done) | (simp; omega)) _ | refine Below.alloc ?_ (by first | omega | (simp; done) | (simp; omega)) _))⟩
  have H60 := hidQ h60
  have h60' : (ss.length : Int) ≤ 60 := by omega
  clear h60
  go_wp2_with fail
  refine (firstWrongSignal_any _ _ _ _ _ _ _ (hp.out.below hbF) (hs.out.below hbF) hp100 HPL).mono ?_
  rintro e w2 ⟨rfl, hb2⟩
  have hb2' := hb1'.trans (hb2.mono hb1'.size)
  replace e0' := cell_later hb2 e0'
  replace r0' := cell_later hb2 r0'
  replace r1' := cell_later hb2 r1'
  replace f0' := (hb2'.frozen (p := ⟨w.heap.size + 1, 0, none⟩) (by exact hzA)).trans f0
  replace f1' := (hb2'.frozen (p := ⟨w.heap.size + 1, 1, none⟩) (by exact hzA)).trans f1
  replace hbF := hbW.trans (hb2'.mono hbW.size)
  clear hb1' hb2
  by_cases h3 : 0 ≤ firstBad (badS3 ps ss) ss.length
  · obtain ⟨i, hi1, hi2, hi3, hi4⟩ := firstBad_pos h3
    have HX := hidQ (sigF_3 HN.out H60.out hi2 hi3 hi4)
    rw [hi1]
    clear hi1 hi3 hi4 h3
    go_wp2_with fail
    exact bodyPost_ret (v := .agg #[.int .i64 3, .int .i64 i]) (by simp [results, Tryz.results62, go_sem, r0', r1']) rfl ⟨ret_fault HX.out, (by repeat (first | exact Below.refl _ _ | assumption | refine Below.drew ?_ | refine bdrewN ?_ _ | refine Below.setCell ?_ (by first | omega | (simp; done) | (simp; omega)) _ | refine Below.alloc ?_ (by first | omega | (simp; done) | (simp; omega)) _))⟩
  have H3 := hidQ (firstBad_neg h3)
  rw [firstBad_none H3.out]
  clear h3
  have HR : Hid (∀ q (h : q < ss.length), 0 ≤ ss[q].len ∧ ss[q].len ≤ 100 ∧ 0 ≤ ss[q].speed ∧ ss[q].speed ≤ 10000000 ∧ -1 ≤ ss[q].brake ∧ ss[q].brake ≤ 1) := by
    intro q h
    have := H3.out q h
    rw [badS3_at h] at this
    exact okSig_range hp100 HPL.out (by simpa using this)
  go_wp2_with fail
  refine (firstDoubleSignal_any _ _ _ _ (hs.out.below hbF) (by omega) HR).mono ?_
  rintro e w3 ⟨rfl, hb3⟩
  have hb3' := hb2'.trans (hb3.mono hb2'.size)
  replace e0' := cell_later hb3 e0'
  replace r0' := cell_later hb3 r0'
  replace r1' := cell_later hb3 r1'
  replace f0' := (hb3'.frozen (p := ⟨w.heap.size + 1, 0, none⟩) (by exact hzA)).trans f0
  replace f1' := (hb3'.frozen (p := ⟨w.heap.size + 1, 1, none⟩) (by exact hzA)).trans f1
  replace hbF := hbW.trans (hb3'.mono hbW.size)
  clear hb2' hb3
  by_cases h4 : 0 ≤ firstBad (badS4 ss) ss.length
  · obtain ⟨i, hi1, hi2, hi3, hi4⟩ := firstBad_pos h4
    have HX := hidQ (sigF_4 HN.out H60.out H3.out hi2 hi3 hi4)
    rw [hi1]
    clear hi1 hi3 hi4 h4
    go_wp2_with fail
    exact bodyPost_ret (v := .agg #[.int .i64 4, .int .i64 i]) (by simp [results, Tryz.results62, go_sem, r0', r1']) rfl ⟨ret_fault HX.out, (by repeat (first | exact Below.refl _ _ | assumption | refine Below.drew ?_ | refine bdrewN ?_ _ | refine Below.setCell ?_ (by first | omega | (simp; done) | (simp; omega)) _ | refine Below.alloc ?_ (by first | omega | (simp; done) | (simp; omega)) _))⟩
  have HX := hidQ (sigF_0 HN.out H60.out H3.out (firstBad_neg h4))
  rw [firstBad_none (firstBad_neg h4)]
  clear h4
  go_wp2_with fail
  exact bodyPost_ret (v := .agg #[.int .i64 0, .int .i64 0]) (by simp [results, Tryz.results62, go_sem, r0', r1']) rfl ⟨ret_fault HX.out, (by repeat (first | exact Below.refl _ _ | assumption | refine Below.drew ?_ | refine bdrewN ?_ _ | refine Below.setCell ?_ (by first | omega | (simp; done) | (simp; omega)) _ | refine Below.alloc ?_ (by first | omega | (simp; done) | (simp; omega)) _))⟩

end Go.Proofs.YtmkdgnmmebldgaaGreat

namespace Go.Proofs.YtmkdgnmmebldgaaGreat
open Go.RowKit Go.Deep Go.Maps

theorem WalkOk.path {ps : List MPiece} {js : List MJoint} {ss : List MPiece} (R : Right ps js ss) {i : Nat} {pre : List MStep} {s : MStep} {lies : List MLie} {crosses : List Int} {pos : Int} (h : WalkOk ps js ss i pre s lies crosses pos) {stop : Int} (hst : stop = -1 ∨ ∃ k : Nat, k < ss.length ∧ stop = k) : PathOk ps js ss (endP i stop (pre ++ [s]) lies crosses) := by
  have hf := h.few
  have hnp := R.np
  have hl := lies_few h.lv h.ld
  have hnj := R.nj
  have hc := h.cl
  refine ⟨by simp [endP], by simp [endP]; omega, ?_, ⟨i, h.start, rfl⟩, hst, h.lv, by simp [endP]; omega, by simp [endP]; omega⟩
  intro x hx
  rcases List.mem_append.1 hx with hx | hx
  · exact h.pv x hx
  · have : x = s := by simpa using hx
    rw [this]; exact h.sv
theorem evs_ok {ps : List MPiece} {js : List MJoint} {ss : List MPiece} (R : Right ps js ss) : ∀ (n i : Nat) (pre : List MStep) (s : MStep) (lies : List MLie) (crosses : List Int) (pos : Int), WalkOk ps js ss i pre s lies crosses pos → ∀ q ∈ evs ps js ss n (pathOf i (pre ++ [s]) lies crosses) pos, q.ended = true → PathOk ps js ss q
  | 0, _, _, _, _, _, _, _, q, hq, _ => absurd hq (by simp [evs])
  | n + 1, i, pre, s, lies, crosses, pos, h, q, hq, he => by
    by_cases hb : 0 ≤ nextB ss s.piece s.side pos ss.length
    · rw [evs_signal hb] at hq
      have hq' : q = endP i (nextB ss s.piece s.side pos ss.length) (pre ++ [s]) lies crosses := by simpa using hq
      rw [hq']
      rcases nextB_range ss s.piece s.side pos ss.length (Nat.le_refl _) with hr | ⟨b, hb2, _, hr, _⟩
      · omega
      · exact h.path R (Or.inr ⟨b, hb2, hr⟩)
    · by_cases hr : s ∈ pre
      · rw [evs_round hb hr] at hq
        have hq' : q = pathOf i (pre ++ [s]) lies crosses := by simpa using hq
        rw [hq'] at he
        cases he
      · by_cases hk : kindE js (spotE js (aheadE s)).1 = 1
        · rw [evs_buffer hb hr hk] at hq
          have hq' : q = endP i (-1) (pre ++ [s]) lies crosses := by simpa using hq
          rw [hq']
          exact h.path R (Or.inl rfl)
        · rw [evs_on hb hr hk] at hq
          rcases List.mem_cons.1 hq with hq | hq
          · rw [hq] at he
            cases he
          · unfold kidsF at hq
            obtain ⟨t, ht, hq⟩ := List.mem_flatMap.1 hq
            obtain ⟨j, k, h1, h2⟩ := R.spot (aheadE_valid h.sv)
            obtain ⟨_, hj, hkk, _⟩ := spotF_some h1
            simp only [Nat.sub_zero] at hj hkk
            rw [h2] at ht hq
            unfold kidF at hq
            cases hov : overP js (pathOf i (pre ++ [s]) lies crosses) j k t with
            | none =>
              rw [hov] at hq
              cases hq
            | some q2 =>
              rw [hov] at hq
              obtain ⟨l2, c2, e2, w2⟩ := h.over R hr hj hkk ht hov
              rw [e2] at hq
              exact evs_ok R n i _ _ _ _ _ w2 q hq he
theorem allEvs_ok {ps : List MPiece} {js : List MJoint} {ss : List MPiece} (R : Right ps js ss) : ∀ (m : Nat), m ≤ ss.length → ∀ q ∈ allEvs ps js ss m, q.ended = true → PathOk ps js ss q
  | 0, _, q, hq, _ => absurd hq (by simp [allEvs])
  | m + 1, hm, q, hq, he => by
    rw [allEvs_succ (by omega)] at hq
    rcases List.mem_append.1 hq with hq | hq
    · exact allEvs_ok R m (by omega) q hq he
    · exact evs_ok R (depthR ps) m [] ⟨ss[m].len, ss[m].brake⟩ [] [] ss[m].speed (WalkOk.begin R (by omega)) q hq he
theorem pathsF_ok {ps : List MPiece} {js : List MJoint} {ss : List MPiece} (R : Right ps js ss) : ∀ q ∈ pathsF ps js ss, PathOk ps js ss q := by
  intro q hq
  unfold pathsF at hq
  split at hq
  · unfold endedL at hq
    obtain ⟨h1, h2⟩ := List.mem_filter.1 hq
    exact allEvs_ok R ss.length (Nat.le_refl _) q h1 h2
  · cases hq
theorem pathsF_few (ps : List MPiece) (js : List MJoint) (ss : List MPiece) : (pathsF ps js ss).length ≤ 300 := by
  unfold pathsF
  split
  · rename_i h
    exact h.2
  · simp
open Classical in
theorem routesF_paths (ps : List MPiece) (js : List MJoint) (ss : List MPiece) (over : Int) : routesF ps js ss over = if sigF ps js ss = (0, 0) ∧ 0 ≤ over ∧ over ≤ 100000 then (pathsF ps js ss).map (routeF ps js ss over) else [] := by
  unfold routesF pathsF
  by_cases h : sigF ps js ss = (0, 0) ∧ 0 ≤ over ∧ over ≤ 100000
  · rw [if_pos h]
    by_cases hf : fitsB ps js ss
    · rw [if_pos hf, if_pos ⟨h.1, h.2.1, h.2.2, hf.1, hf.2⟩]
    · rw [if_neg hf, if_neg (fun q => hf ⟨q.2.2.2.1, q.2.2.2.2⟩)]
      rfl
  · rw [if_neg h, if_neg (fun q => h ⟨q.1, q.2.1, q.2.2.1⟩)]

set_option maxHeartbeats 1000000 in
theorem givenOk_any (pa ja sa : Option Addr) (pc jc sc : Nat) (ps : List MPiece) (js : List MJoint) (ss : List MPiece) (over : Int) (w : World) (hp : Hid (PiecesAt w pa ps)) (hj : Hid (JointsAt w ja js)) (hs : Hid (PiecesAt w sa ss)) :
    Calls Tryz.prog 27 #[.agg #[.slice pa ps.length pc, .slice ja js.length jc], .slice sa ss.length sc, .int .i64 over] w fun e w' => e = .returned (.bool (decide (sigF ps js ss = (0, 0) ∧ 0 ≤ over ∧ over ≤ 100000))) ∧ Below w.heap.size w w' := by
  have HSG : Hid (∀ u : World, Below w.heap.size w u → Calls Tryz.prog 62 #[.agg #[.slice pa ps.length pc, .slice ja js.length jc], .slice sa ss.length sc] u fun e w' => e = .returned (faultV (sigF ps js ss)) ∧ Below u.heap.size u w') := fun u hu => implSignalsOk_any pa ja sa pc jc sc ps js ss u (hp.out.below hu) (hj.out.below hu) (hs.out.below hu)
  obtain ⟨sf, hsf⟩ : ∃ sf, sigF ps js ss = sf := ⟨_, rfl⟩
  rw [hsf] at HSG ⊢
  clear hsf
  obtain ⟨f1, f2⟩ := sf
  unfold faultV at HSG
  by_cases h1 : f1 = 0
  · subst h1
    by_cases h2 : f2 = 0
    · subst h2
      have HD : Hid (decide ((((0 : Int), (0 : Int)) = (0, 0)) ∧ 0 ≤ over ∧ over ≤ 100000) = inB over 0 100000) := by
        unfold Hid inB
        simp
      go_enter Tryz.func27, Tryz.ntmps27
      go_wp2_with (first | (go_at_call 62; refine (HSG.out _ ((Below.refl _ _).alloc (Nat.le_refl _) _)).mono ?_; rintro e w2 ⟨rfl, hb2⟩) | (go_at_call 63; refine (within_any _ _ _ _).mono ?_; rintro e w3 ⟨rfl, rfl⟩))
      go_ret
      exact ⟨by first | exact ret_bool HD.out.symm | (refine ret_bool ?_; simp [inB]), ((Below.refl _ _).alloc (Nat.le_refl _) _).trans (hb2.mono (by simp))⟩
    · have h2b : (f2 == 0) = false := by simp [h2]
      have HD : Hid (decide ((((0 : Int), f2) = (0, 0)) ∧ 0 ≤ over ∧ over ≤ 100000) = false) := by
        unfold Hid
        simp [h2]
      clear h2
      go_enter Tryz.func27, Tryz.ntmps27
      go_wp2_with (first | (go_at_call 62; refine (HSG.out _ ((Below.refl _ _).alloc (Nat.le_refl _) _)).mono ?_; rintro e w2 ⟨rfl, hb2⟩) | (go_at_call 63; refine (within_any _ _ _ _).mono ?_; rintro e w3 ⟨rfl, rfl⟩))
      go_ret
      exact ⟨by first | exact ret_bool HD.out.symm | (refine ret_bool ?_; simp [inB]), ((Below.refl _ _).alloc (Nat.le_refl _) _).trans (hb2.mono (by simp))⟩
  · have h1b : (f1 == 0) = false := by simp [h1]
    have HD : Hid (decide (((f1, f2) = (0, 0)) ∧ 0 ≤ over ∧ over ≤ 100000) = false) := by
      unfold Hid
      simp [h1]
    clear h1
    go_enter Tryz.func27, Tryz.ntmps27
    go_wp2_with (first | (go_at_call 62; refine (HSG.out _ ((Below.refl _ _).alloc (Nat.le_refl _) _)).mono ?_; rintro e w2 ⟨rfl, hb2⟩) | (go_at_call 63; refine (within_any _ _ _ _).mono ?_; rintro e w3 ⟨rfl, rfl⟩))
    go_ret
    exact ⟨by first | exact ret_bool HD.out.symm | (refine ret_bool ?_; simp [inB]), ((Below.refl _ _).alloc (Nat.le_refl _) _).trans (hb2.mono (by simp))⟩

end Go.Proofs.YtmkdgnmmebldgaaGreat

namespace Go.Proofs.YtmkdgnmmebldgaaGreat
open Go.RowKit Go.Deep Go.Maps

def encT (q : RAddr × MRoute) : List Value := [.int .i64 q.2.start, .int .i64 q.2.stop, .slice q.1.a0 q.2.steps.length q.1.c0, .slice q.1.a1 q.2.lies.length q.1.c1, .slice q.1.a2 q.2.crosses.length q.1.c2, .slice q.1.a3 q.2.parts.length q.1.c3, .slice q.1.a4 q.2.over.length q.1.c4, .slice q.1.a5 q.2.flanks.length q.1.c5]
def flatT (qs : List (RAddr × MRoute)) : List Value := qs.flatMap encT
theorem encT_one (q : RAddr × MRoute) : ∀ u ∈ encT q, u.oneCell' = true := by
  intro u hu
  simp only [encT, List.mem_cons, List.not_mem_nil, or_false] at hu
  rcases hu with rfl | rfl | rfl | rfl | rfl | rfl | rfl | rfl <;> rfl
theorem flatT_snoc (qs : List (RAddr × MRoute)) (q : RAddr × MRoute) : flatT qs ++ encT q = flatT (qs ++ [q]) := by simp [flatT]

/-- Routes in a row of one's own, every list in a block of its own. -/
structure TabOwn (B : Nat) (w : World) (x : Option Addr) (y : Nat) (qs : List (RAddr × MRoute)) : Prop where
  row : w.ownsRow B 64 8 (.slice x qs.length y) qs.length (flatT qs)
  own : ∀ q ∈ qs, RClaims B w q.1 q.2
  dis : qs.Pairwise (fun a c => ∀ i j, i < 6 → j < 6 → ∀ b, AdB (adR a.1 i) b → ¬ AdB (adR c.1 j) b)
  out : ∀ q ∈ qs, ∀ j, j < 6 → ∀ b, AdB (adR q.1 j) b → (Value.slice x qs.length y).ownBlock ≠ some b
theorem TabOwn.nil (B : Nat) (w : World) : TabOwn B w none 0 [] := ⟨⟨rfl, Or.inl ⟨rfl, rfl⟩⟩, (fun q hq => by cases hq), List.Pairwise.nil, fun q hq => by cases hq⟩
theorem owns_kept {w w' : World} {B e s n : Nat} {v : Value} {xs : List Value} (h : w.ownsRow B e s v n xs) (hb : ∀ b, v.ownBlock = some b → w'.heap[b]? = w.heap[b]?) : w'.ownsRow B e s v n xs := by
  refine ⟨h.1, ?_⟩
  rcases h.2 with q | ⟨g, cap, cur, q1, q2, q3, q4⟩
  · exact Or.inl q
  · refine Or.inr ⟨g, cap, cur, q1, q2, (hb g (by rw [q1]; rfl)).trans q3, q4⟩
theorem own_ad {x : Option Addr} {n y b : Nat} (h : (Value.slice x n y).ownBlock = some b) : AdB x b := by
  cases x with
  | none => cases h
  | some a =>
    injection h with h
    obtain ⟨ab, ao, asub⟩ := a
    exact ⟨ao, asub, by rw [← h]⟩
theorem RClaims.kept {B : Nat} {w w' : World} {d : RAddr} {r : MRoute} (h : RClaims B w d r) (hb : ∀ j, j < 6 → ∀ b, AdB (adR d j) b → w'.heap[b]? = w.heap[b]?) : RClaims B w' d r :=
  ⟨owns_kept h.steps (fun b q => hb 0 (by omega) b (own_ad q)), owns_kept h.lies (fun b q => hb 1 (by omega) b (own_ad q)), owns_kept h.crosses (fun b q => hb 2 (by omega) b (own_ad q)), owns_kept h.parts (fun b q => hb 3 (by omega) b (own_ad q)), owns_kept h.over (fun b q => hb 4 (by omega) b (own_ad q)), owns_kept h.flanks (fun b q => hb 5 (by omega) b (own_ad q)), h.dis⟩
theorem RClaims.below {B : Nat} {w w' : World} {d : RAddr} {r : MRoute} (h : RClaims B w d r) (hb : Below w.heap.size w w') : RClaims B w' d r :=
  ⟨owns_below h.steps hb, owns_below h.lies hb, owns_below h.crosses hb, owns_below h.parts hb, owns_below h.over hb, owns_below h.flanks hb, h.dis⟩
theorem TabOwn.below {B : Nat} {w w' : World} {x : Option Addr} {y : Nat} {qs : List (RAddr × MRoute)} (h : TabOwn B w x y qs) (hb : Below w.heap.size w w') : TabOwn B w' x y qs :=
  ⟨owns_below h.row hb, fun q hq => (h.own q hq).below hb, h.dis, h.out⟩
theorem TabOwn.mono {B B' : Nat} {w : World} {x : Option Addr} {y : Nat} {qs : List (RAddr × MRoute)} (h : TabOwn B w x y qs) (hB : B' ≤ B) : TabOwn B' w x y qs :=
  ⟨owns_mono h.row hB, fun q hq => (h.own q hq).mono hB, h.dis, h.out⟩

/-- One route more. -/
theorem TabOwn.push {B : Nat} {wr wp w' : World} {x x' : Option Addr} {y y' : Nat} {qs : List (RAddr × MRoute)} {q : RAddr × MRoute} (h : TabOwn B wr x y qs) (hb : Below wr.heap.size wr wp) (hq : RClaims wr.heap.size wp q.1 q.2) (hB : B ≤ wr.heap.size)
    (h1 : w'.ownsRow B 64 8 (.slice x' (qs.length + 1) y') (qs.length + 1) (flatT qs ++ encT q)) (h2 : wp.grownBy w' (Value.slice x qs.length y).ownBlock) (h3 : ∀ b, (Value.slice x' (qs.length + 1) y').ownBlock = some b → (Value.slice x qs.length y).ownBlock = some b ∨ wp.heap.size ≤ b) : TabOwn B w' x' y' (qs ++ [q]) := by
  have hl : (qs ++ [q]).length = qs.length + 1 := by simp
  have hob : ∀ b, (Value.slice x qs.length y).ownBlock = some b → b < wr.heap.size := fun b e => (h.row.lt b e).2
  refine ⟨by rw [hl, ← flatT_snoc]; exact h1, ?_, ?_, ?_⟩
  · intro r hr
    rcases List.mem_append.1 hr with hr | hr
    · refine ((h.own r hr).below hb).kept (fun j hj b hbl => ?_)
      have hlt := ((h.own r hr).blk j hj b hbl).2
      exact h2.block b (Nat.lt_of_lt_of_le hlt hb.size) (fun e => h.out r hr j hj b hbl e.symm)
    · have : r = q := by simpa using hr
      subst this
      refine (hq.mono hB).kept (fun j hj b hbl => ?_)
      have hg := hq.blk j hj b hbl
      exact h2.block b hg.2 (fun e => by have := hob b e.symm; omega)
  · refine List.pairwise_append.2 ⟨h.dis, List.pairwise_singleton _ _, ?_⟩
    intro a ha c hc i j hi hj b h4 h5
    have : c = q := by simpa using hc
    subst this
    have g1 := ((h.own a ha).blk i hi b h4).2
    have g2 := (hq.blk j hj b h5).1
    omega
  · intro r hr j hj b hbl e
    rw [hl] at e
    rcases List.mem_append.1 hr with hr | hr
    · rcases h3 b e with h6 | h6
      · exact h.out r hr j hj b hbl h6
      · have g1 := ((h.own r hr).blk j hj b hbl).2
        have := hb.size
        omega
    · have : r = q := by simpa using hr
      subst this
      have g1 := hq.blk j hj b hbl
      rcases h3 b e with h6 | h6
      · have := hob b h6
        omega
      · omega
theorem wpList_push_sharp {P : Program} {Wp : World} {ops : Array Oper} {rest : List Oper} {o : Oper} {a : Act} {Q : Exit → Act → World → Prop} (hg : o.guard = none) (s x : Operand) (t : TypeId)
    (hop : o.op = Op.call { callee := Callee.builtin Builtin.append, args := #[s, x], argTypes := #[t, t] })
    (base : Nat) (e : TypeId) (z : Value) (size bytes : Nat) (h1 : P.underlying t = some (.slice e)) (hi : (P.info? e).map (fun i => (i.zero, i.size, i.bytes)) = some (some z, size, bytes)) (h6 : z.cells.size = size) (h7 : 0 < size)
    (v : Value) (k : Nat) (xs : List Value) (hs : a.eval s = v) (hown : Wp.ownsRow base e size v k xs) (g : Nat) (hgs : g = Wp.heap.size) (news : List Value) (hx : a.eval x = .slice (some ⟨g, 0, none⟩) 1 1) (hn : news.length = size)
    (h1c : ∀ u ∈ news, u.oneCell' = true) (b1 : k + 1 ≤ maxLen) (b2 : (k + 1) * bytes ≤ 140737488355328) (b3 : base ≤ Wp.heap.size)
    (hK : ∀ x' y' w', w'.ownsRow base e size (.slice x' (k + 1) y') (k + 1) (xs ++ news) → Wp.grownBy w' v.ownBlock → (∀ b, (Value.slice x' (k + 1) y').ownBlock = some b → v.ownBlock = some b ∨ Wp.heap.size ≤ b) → wpList P ops Q rest (a.put o.dst (.slice x' (k + 1) y')) w') :
    wpList P ops Q (o :: rest) a (Wp.alloc (.cells news.toArray e)) := by
  subst hgs
  refine wpList_append_sharp _ hg s x t hop base e z size bytes h1 hi h6 h7 v k xs hs (hown.alloc _) ⟨Wp.heap.size, 0, none⟩ 1 news hx hn ?_ h1c b1 b2 (by simp; omega) ?_
  · intro j u hu
    rw [addr_at, Nat.zero_add]
    have := cell_of_row (Wp.alloc (.cells news.toArray e)) Wp.heap.size j news.toArray e (0, 0) (heap_alloc_new Wp _)
    rw [this]
    simpa using hu
  · intro x' y' w' r1 r2 r3
    refine hK x' y' w' r1 ⟨r2.os, r2.tape, r2.output, Nat.le_trans (by simp) r2.size, fun k hk hne => ?_⟩ (fun b hb => (r3 b hb).imp id (fun h => Nat.le_trans (by simp) h))
    exact (r2.block k (by simp; omega) hne).trans (Below.heap_alloc _ _ _ hk)

def RoutesPost (ps : List MPiece) (js : List MJoint) (ss : List MPiece) (over : Int) (w : World) (e : Ending) (w' : World) : Prop :=
  ∃ x y qs, e = .returned (.slice x qs.length y) ∧ qs.map Prod.snd = routesF ps js ss over ∧ TabOwn w.heap.size w' x y qs ∧ Below w.heap.size w w'

set_option maxRecDepth 100000 in
set_option maxHeartbeats 8000000 in
theorem implRoutes_any (pa ja sa : Option Addr) (pc jc sc : Nat) (ps : List MPiece) (js : List MJoint) (ss : List MPiece) (over : Int) (w : World) (hp : Hid (PiecesAt w pa ps)) (hj : Hid (JointsAt w ja js)) (hs : Hid (PiecesAt w sa ss)) :
    Calls Tryz.prog 9 #[.agg #[.slice pa ps.length pc, .slice ja js.length jc], .slice sa ss.length sc, .int .i64 over] w (RoutesPost ps js ss over w) := by
  have HGO : Hid (∀ u : World, Below w.heap.size w u → Calls Tryz.prog 27 #[.agg #[.slice pa ps.length pc, .slice ja js.length jc], .slice sa ss.length sc, .int .i64 over] u fun e w' => e = .returned (.bool (decide (sigF ps js ss = (0, 0) ∧ 0 ≤ over ∧ over ≤ 100000))) ∧ Below u.heap.size u w') := fun u hu => givenOk_any pa ja sa pc jc sc ps js ss over u (hp.out.below hu) (hj.out.below hu) (hs.out.below hu)
  have HRT := hidP (routesF_paths ps js ss over)
  by_cases hg : sigF ps js ss = (0, 0) ∧ 0 ≤ over ∧ over ≤ 100000
  · rw [decide_eq_true hg] at HGO
    have HRE := hidP (HRT.out.trans (if_pos hg))
    obtain ⟨hg1, ho0, ho1⟩ := hg
    have R := hidP (right_of hg1)
    have HTO : Hid (∀ u : World, Below w.heap.size w u → Calls Tryz.prog 28 #[.agg #[.slice pa ps.length pc, .slice ja js.length jc], .slice sa ss.length sc] u fun e w' => ∃ K, e = .returned (.pointer (some ⟨K, 0, none⟩)) ∧ u.heap.size ≤ K ∧ HasTrack w' K pa ja sa pc jc sc ps js ss ∧ Below u.heap.size u w') := fun u hu => trackOf_any pa ja sa pc jc sc ps js ss R u (hp.out.below hu) (hj.out.below hu) (hs.out.below hu)
    have HPF := hidP (pathsF_few ps js ss)
    have HPO := hidP (pathsF_ok R.out)
    clear hg1
    go_enter Tryz.func9, Tryz.ntmps9
    go_upto_region 1 with fail
    generalize hW : World.alloc w _ = W
    have HBW : Hid (Below w.heap.size w W) := by rw [← hW]; exact (Below.refl _ _).alloc (Nat.le_refl _) _
    have n0 : W.cell? ⟨w.heap.size, 0, none⟩ = some (.slice pa ps.length pc) := by rw [← hW]; simp [go_sem]
    have n1 : W.cell? ⟨w.heap.size, 1, none⟩ = some (.slice ja js.length jc) := by rw [← hW]; simp [go_sem]
    have hzW : w.heap.size < W.heap.size := by rw [← hW]; simp
    clear hW
    go_upto_region 3 with (go_at_call 27; refine (HGO.out _ HBW.out).mono ?_; rintro e w1 ⟨rfl, hb1⟩; have HB1 : Hid (Below w.heap.size w w1) := HBW.out.trans (hb1.mono HBW.out.size); replace n0 := cell_later hb1 n0; replace n1 := cell_later hb1 n1; have hz1 := cellLt n0; dsimp only at hz1; clear hb1)
    go_upto_region 5 with (go_at_call 28; refine (HTO.out _ HB1.out).mono ?_; rintro e w2 ⟨KT, rfl, hK, hT2, hb2⟩)
    obtain ⟨M, hT⟩ := hT2
    have HT := hidP hT
    have HB2 : Hid (Below w.heap.size w w2) := HB1.out.trans (hb2.mono HB1.out.size)
    have HEP := hidP (endedPaths_any KT M pa ja sa pc jc sc ps js ss R w2 HT)
    clear hT hb2 hK n0 n1
    go_wp2_with (go_at_call 29; refine HEP.out.mono ?_; rintro e w3 ⟨v, rfl, hpo, hb3⟩; obtain ⟨xp, yp, xs, rfl, hxs, hcl, hls⟩ := hpo)
    have HB3 : Hid (Below w.heap.size w w3) := HB2.out.trans (hb3.mono HB2.out.size)
    have HT3 := hidP (HT.out.below hb3)
    have hxl : xs.length ≤ 300 := by have h1 := HPF.out; rw [← hxs] at h1; simpa using h1
    have HXS := hidP hxs
    have HCL := hidP hcl
    have HLS := hidP hls
    have HXO : Hid (∀ q ∈ xs, PathOk ps js ss q.2) := fun q hq => HPO.out q.2 (by rw [← HXS.out]; exact List.mem_map.2 ⟨q, hq, rfl⟩)
    clear hxs hcl hls hb3 HEP
    go_loopw [8, 22] (fun rv c wr => ∃ (m : Nat) (x : Option Addr) (y : Nat) (qs : List (RAddr × MRoute)), m ≤ xs.length ∧ c = .int .i64 m ∧ rv = .slice x qs.length y ∧ Hid (qs.map Prod.snd = (xs.take m).map (fun q => routeF ps js ss over q.2)) ∧ Hid (TabOwn w3.heap.size wr x y qs) ∧ Below w3.heap.size w3 wr) (fun _ c _ => xs.length - (intOf c).toNat)
    case atStart => exact ⟨0, none, 0, [], Nat.zero_le _, rfl, rfl, rfl, TabOwn.nil _ _, Below.refl _ _⟩
    case round =>
      obtain ⟨m, x, y, qs, hm, rfl, rfl, HQ, HT4, hb⟩ := hrel
      have hbs := hb.size
      have HB := hidP hb
      have hql : qs.length = m := by
        have h1 := congrArg List.length HQ.out
        simp only [List.length_map, List.length_take] at h1
        omega
      by_cases hm' : m < xs.length
      · have hmi : (m : Int) < xs.length := by omega
        obtain ⟨b, hxb, hcc⟩ := HCL.out.resolve_left (fun h => by rw [h] at hm'; exact absurd hm' (Nat.not_lt_zero _))
        subst hxb
        obtain ⟨q, hq⟩ : ∃ q, xs[m] = q := ⟨_, rfl⟩
        have hqm : q ∈ xs := by rw [← hq]; exact List.getElem_mem hm'
        have hce := hcc m hm'
        rw [hq] at hce
        obtain ⟨d, p⟩ := q
        have p0 := cell_later hb (hce 0 _ rfl)
        have p1 := cell_later hb (hce 1 _ rfl)
        have p2 := cell_later hb (hce 2 _ rfl)
        have p3 := cell_later hb (hce 3 _ rfl)
        have p4 := cell_later hb (hce 4 _ rfl)
        have p5 := cell_later hb (hce 5 _ rfl)
        rw [Nat.add_zero] at p0
        dsimp only at p0 p1 p2 p3 p4 p5
        have hzb := cellLt p0
        dsimp only at hzb
        have HSN : Hid ((xs.take (m + 1)).map (fun q => routeF ps js ss over q.2) = (xs.take m).map (fun q => routeF ps js ss over q.2) ++ [routeF ps js ss over p]) := by
          unfold Hid
          rw [List.take_succ_eq_append_getElem hm', List.map_append, hq]
          rfl
        have HRO : Hid (∀ u : World, Below wr.heap.size wr u → Calls Tryz.prog 30 #[.pointer (some ⟨KT, 0, none⟩), .agg #[.int .i64 p.start, .int .i64 p.stop, .bool p.ended, .slice d.a0 p.steps.length d.c0, .slice d.a1 p.lies.length d.c1, .slice d.a2 p.crosses.length d.c2], .int .i64 over] u (RoutePost ps js ss over p u)) := fun u hu => by
          have h9 := HB.out.trans (hu.mono HB.out.size)
          exact routeOf_any KT M pa ja sa pc jc sc ps js ss R d p (HXO.out _ hqm) over ho0 ho1 u (HT3.out.below h9) ((HLS.out _ hqm).below h9)
        have HRP : Hid (∀ u e u', RoutePost ps js ss over p u e u' → ∃ d' rt', rt' = routeF ps js ss over p ∧ e = .returned (.agg #[.int .i64 rt'.start, .int .i64 rt'.stop, .slice d'.a0 rt'.steps.length d'.c0, .slice d'.a1 rt'.lies.length d'.c1, .slice d'.a2 rt'.crosses.length d'.c2, .slice d'.a3 rt'.parts.length d'.c3, .slice d'.a4 rt'.over.length d'.c4, .slice d'.a5 rt'.flanks.length d'.c5]) ∧ RClaims u.heap.size u' d' rt' ∧ Below u.heap.size u u') := fun u e u' ⟨d', h1, h2, h3⟩ => ⟨d', _, rfl, h1, h2, h3⟩
        clear hcc hce hqm hq
        go_upto_region 8 with fail
        generalize hV : World.alloc wr _ = V
        have HBV : Hid (Below wr.heap.size wr V) := by rw [← hV]; exact (Below.refl _ _).alloc (Nat.le_refl _) _
        have s0 : V.cell? ⟨wr.heap.size, 0, none⟩ = some (.int .i64 p.start) := by rw [← hV]; simp [go_sem]
        have s1 : V.cell? ⟨wr.heap.size, 1, none⟩ = some (.int .i64 p.stop) := by rw [← hV]; simp [go_sem]
        have s2 : V.cell? ⟨wr.heap.size, 2, none⟩ = some (.bool p.ended) := by rw [← hV]; simp [go_sem]
        have s3 : V.cell? ⟨wr.heap.size, 3, none⟩ = some (.slice d.a0 p.steps.length d.c0) := by rw [← hV]; simp [go_sem]
        have s4 : V.cell? ⟨wr.heap.size, 4, none⟩ = some (.slice d.a1 p.lies.length d.c1) := by rw [← hV]; simp [go_sem]
        have s5 : V.cell? ⟨wr.heap.size, 5, none⟩ = some (.slice d.a2 p.crosses.length d.c2) := by rw [← hV]; simp [go_sem]
        have hzV : wr.heap.size < V.heap.size := by rw [← hV]; simp
        clear hV p0 p1 p2 p3 p4 p5
        have HQL := hidP hql
        clear hql
        go_wp2_with (first
          | (go_at_call 30; refine (HRO.out _ HBV.out).mono ?_; intro e w5 h5; obtain ⟨d', rt', hrt', rfl, hcl, hb5⟩ := HRP.out _ _ _ h5; have HRT5 := hidP hrt'; have HCL5 := hidP hcl; have HB5 : Hid (Below wr.heap.size wr w5) := HBV.out.trans (hb5.mono HBV.out.size); have hz5 := HB5.out.size; have HOW5 := hidP (owns_below HT4.out.row HB5.out); have hsz5 : w3.heap.size ≤ w5.heap.size := Nat.le_trans hbs hz5; clear h5 hrt' hcl hb5)
          | (at_builtin; refine wpList_push_sharp rfl (.tmp 26) (.tmp 31) 29 rfl w3.heap.size 64 _ 8 160 Tryz.underlying29 Tryz.infoRoute rfl (by decide) (.slice x qs.length y) qs.length (flatT qs) rfl HOW5.out _ rfl (encT (d', rt')) rfl rfl (encT_one (d', rt')) (by have h9 := HQL.out; unfold maxLen; omega) (by have h9 := HQL.out; omega) hsz5 ?_; intro x6 y6 w6 t1 t2 t3))
        have hpush := HT4.out.push HB5.out (q := (d', rt')) (HCL5.out.mono HBV.out.size) hbs t1 t2 t3
        have hbb : Below w3.heap.size w3 w6 := push_below (HB.out.trans (HB5.out.mono HB.out.size)) HOW5.out t2 hsz5
        go_roundw
        case rel =>
          refine ⟨m + 1, x6, y6, qs ++ [(d', rt')], by omega, by go_num, by simp, ?_, hpush, hbb⟩
          unfold Hid
          rw [HSN.out, List.map_append, HQ.out]
          show _ ++ [rt'] = _
          rw [HRT5.out]
        case measure => simp [intOf]; omega
      · have hme : m = xs.length := by omega
        have hmi : ¬ (m : Int) < xs.length := by omega
        subst hme
        have hfin : qs.map Prod.snd = routesF ps js ss over := by
          rw [HRE.out, HQ.out, List.take_length, ← HXS.out, List.map_map]
          rfl
        have HFI := hidP hfin
        clear hfin hql
        go_wp2_with fail
        go_ret
        exact ⟨x, y, qs, rfl, HFI.out, HT4.out.mono HB3.out.size, HB3.out.trans (HB.out.mono HB3.out.size)⟩
  · rw [decide_eq_false hg] at HGO
    have HRE := hidP (HRT.out.trans (if_neg hg))
    clear hg
    go_enter Tryz.func9, Tryz.ntmps9
    go_wp2_with (go_at_call 27; refine (HGO.out _ ((Below.refl _ _).alloc (Nat.le_refl _) _)).mono ?_; rintro e w1 ⟨rfl, hb1⟩)
    go_ret
    exact ⟨none, 0, [], rfl, by rw [HRE.out]; rfl, TabOwn.nil _ _, ((Below.refl _ _).alloc (Nat.le_refl _) _).trans (hb1.mono (by simp))⟩

end Go.Proofs.YtmkdgnmmebldgaaGreat

namespace Go.Proofs.YtmkdgnmmebldgaaGreat
open Go.RowKit Go.Deep Go.Maps

/-! The routes that the program answers: how long their lists are; where they lie; how they are written over and read again. -/

theorem behindF_len (ps : List MPiece) (js : List MJoint) : ∀ (n : Nat) (s : MStep) (pos left : Int), (behindF ps js n s pos left).length ≤ n
  | 0, _, _, _ => by simp [behindF]
  | n + 1, s, pos, left => by
    rw [behindF]
    split
    · simp
    · rw [List.length_cons]
      have : ∀ l : List MPart, l.length ≤ n → l.length + 1 ≤ n + 1 := fun l h => by omega
      refine this _ ?_
      split
      · exact behindF_len ps js n _ _ _
      · simp
theorem overF_len (ps : List MPiece) (js : List MJoint) (ss : List MPiece) (stop over : Int) (h1 : over ≤ 100000) : (overF ps js ss stop over).length ≤ 100001 := by
  unfold overF
  split
  · simp
  · split
    · simp
    · have := behindF_len ps js (over.toNat + 1)
      exact Nat.le_trans (this _ _ _) (by omega)
theorem partsF_len {ps : List MPiece} {ss : List MPiece} {p : MPath} (h : 0 < p.steps.length) : (partsF ps ss p).length = p.steps.length := by
  unfold partsF
  rw [List.length_append, fullParts_len, List.length_dropLast, List.length_singleton]
  omega
theorem route_len {ps : List MPiece} {js : List MJoint} {ss : List MPiece} (R : Right ps js ss) {p : MPath} (h : PathOk ps js ss p) {over : Int} (h1 : over ≤ 100000) : ∀ j, j < 6 → nR (routeF ps js ss over p) j ≤ 100001 := by
  intro j hj
  have q1 := h.s1
  have q2 := h.ll
  have q3 := h.cl
  match j, hj with
  | 0, _ => show p.steps.length ≤ _; omega
  | 1, _ => show p.lies.length ≤ _; omega
  | 2, _ => show p.crosses.length ≤ _; omega
  | 3, _ => show (partsF ps ss p).length ≤ _; rw [partsF_len h.s0]; omega
  | 4, _ => exact overF_len ps js ss p.stop over h1
  | 5, _ =>
    show (flanksF ps js ss p.lies p.lies).length ≤ _
    have q := flanksF_len R p.lies p.lies (fun l hl => by
      obtain ⟨j, hj, e1, e2, e3⟩ := h.lv l hl
      have hk := (R.kind j hj).2.2
      have ht : (3 - l.side).toNat < js[j].ends.length := by omega
      rw [e1, Int.toNat_natCast, endE_at hj ht]
      exact R.ends j hj _ ht)
    have hnp := R.np
    have : 2 * ps.length * p.lies.length ≤ 200 * 120 := Nat.mul_le_mul (by omega) q2
    omega
theorem routes_len (ps : List MPiece) (js : List MJoint) (ss : List MPiece) (over : Int) : (routesF ps js ss over).length ≤ 300 ∧ ∀ r ∈ routesF ps js ss over, ∀ j, j < 6 → nR r j ≤ 100001 := by
  rw [routesF_paths]
  split
  · rename_i h
    have R := right_of h.1
    refine ⟨by rw [List.length_map]; exact pathsF_few ps js ss, fun r hr => ?_⟩
    obtain ⟨p, hp, rfl⟩ := List.mem_map.1 hr
    exact route_len R (pathsF_ok R p hp) h.2.2
  · exact ⟨by simp, fun r hr => by cases hr⟩

theorem RClaims.lists {B : Nat} {w : World} {d : RAddr} {r : MRoute} (h : RClaims B w d r) : RListsAt w d r :=
  ⟨(own_listE h.steps).1, (own_listE h.lies).1, (own_listN h.crosses).1, (own_listP h.parts).1, (own_listP h.over).1, (own_listF h.flanks).1, fun e => ((own_listE h.lies).2 e).2⟩
theorem encT_len (q : RAddr × MRoute) : (encT q).length = 8 := rfl
theorem TabOwn.cell {B : Nat} {w : World} {g y : Nat} {qs : List (RAddr × MRoute)} (h : TabOwn B w (some ⟨g, 0, none⟩) y qs) {p : Nat} (hp : p < qs.length) {j : Nat} {u : Value} (hu : (encT qs[p])[j]? = some u) : w.cell? ⟨g, p * 8 + j, none⟩ = some u := by
  have hj : j < 8 := by rw [← encT_len qs[p]]; exact (List.getElem?_eq_some_iff.1 hu).1
  have hc := h.row.cells rfl (p * 8 + j) u
  rw [addr_at, Nat.zero_add] at hc
  refine hc ?_
  rw [← hu]
  exact flat_get encT 8 (fun _ => rfl) qs p j hp hj
theorem TabOwn.addr {B : Nat} {w : World} {x : Option Addr} {y : Nat} {qs : List (RAddr × MRoute)} (h : TabOwn B w x y qs) (h0 : 0 < qs.length) : ∃ g, x = some ⟨g, 0, none⟩ := by
  rcases h.row.2 with ⟨_, h2⟩ | ⟨g, cap, cur, h1, _⟩
  · omega
  · injection h1 with h1
    exact ⟨g, h1⟩
theorem TabOwn.routes {B : Nat} {w : World} {x : Option Addr} {y : Nat} {qs : List (RAddr × MRoute)} (h : TabOwn B w x y qs) (hl : qs.length ≤ 300) : RoutesAt w x (qs.map Prod.snd) := by
  refine ⟨by unfold maxLen; simp; omega, ?_⟩
  by_cases h0 : qs.length = 0
  · exact Or.inl (by rw [List.eq_nil_of_length_eq_zero h0]; rfl)
  · obtain ⟨g, rfl⟩ := h.addr (by omega)
    refine Or.inr ⟨g, 0, rfl, fun i hi => ?_⟩
    have hi' : i < qs.length := by simpa using hi
    refine ⟨qs[i].1, ?_, ?_⟩
    · rw [List.getElem_map, Nat.zero_add]
      exact ⟨h.cell hi' (j := 0) rfl, h.cell hi' (j := 1) rfl, h.cell hi' (j := 2) rfl, h.cell hi' (j := 3) rfl, h.cell hi' (j := 4) rfl, h.cell hi' (j := 5) rfl, h.cell hi' (j := 6) rfl, h.cell hi' (j := 7) rfl⟩
    · rw [List.getElem_map]
      exact (h.own _ (List.getElem_mem hi')).lists
theorem TabOwn.only {B : Nat} {w w' : World} {x : Option Addr} {y : Nat} {qs : List (RAddr × MRoute)} (h : TabOwn B w x y qs) {K : Nat → Prop} (hO : Only K w w') (hK : ∀ k, K k → k < B) : TabOwn B w' x y qs :=
  ⟨owns_only h.row hO hK, fun q hq => (h.own q hq).only hO hK, h.dis, h.out⟩

def tabOf (qs : List (RAddr × MRoute)) : Tab := ⟨fun p j => (qs[p]?.map (fun q => nR q.2 j)).getD 0, fun p j => (qs[p]?.map (fun q => adR q.1 j)).getD none, fun p j => (qs[p]?.map (fun q => cpR q.1 j)).getD 0⟩
theorem tab_n {qs : List (RAddr × MRoute)} {p : Nat} (hp : p < qs.length) (j : Nat) : (tabOf qs).n p j = nR qs[p].2 j := by simp [tabOf, hp]
theorem tab_ad {qs : List (RAddr × MRoute)} {p : Nat} (hp : p < qs.length) (j : Nat) : (tabOf qs).ad p j = adR qs[p].1 j := by simp [tabOf, hp]
theorem tab_cp {qs : List (RAddr × MRoute)} {p : Nat} (hp : p < qs.length) (j : Nat) : (tabOf qs).cp p j = cpR qs[p].1 j := by simp [tabOf, hp]
theorem blk_ad {a : Option Addr} {n b : Nat} (h : BlkOf a n b) : AdB a b := h.2
theorem ownA_of {w : World} {B e s n : Nat} {x : Option Addr} {y : Nat} {xs : List Value} (h : w.ownsRow B e s (.slice x n y) n xs) : OwnA w e s x n := by
  rcases h.2 with ⟨_, h2⟩ | ⟨g, cap, cur, h1, _, h3, h4, h5, h6, _⟩
  · exact Or.inl h2
  · injection h1 with h1
    refine Or.inr ⟨g, cap * s, fun i => cur.getD i (.bool false), h1, ⟨cur, h3, h6, fun i hi => ?_⟩, Nat.mul_le_mul_right _ h4⟩
    have hi' : i < cur.size := by omega
    simp [Array.getD, hi']
theorem TabOwn.apart {B : Nat} {w : World} {g y : Nat} {qs : List (RAddr × MRoute)} (h : TabOwn B w (some ⟨g, 0, none⟩) y qs) : ApartT g qs.length (tabOf qs) := by
  intro p j hp hj b hb
  rw [tab_n hp, tab_ad hp] at hb
  have ha := blk_ad hb
  refine ⟨fun e => h.out _ (List.getElem_mem hp) j hj b ha (by rw [e]; rfl), ?_⟩
  intro p' j' hp' hj' hb'
  rw [tab_n hp', tab_ad hp'] at hb'
  have ha' := blk_ad hb'
  have hd := List.pairwise_iff_getElem.1 h.dis
  rcases Nat.lt_trichotomy p p' with hlt | heq | hgt
  · exact absurd ha' (hd p p' hp hp' hlt j j' hj hj' b ha)
  · subst heq
    exact ⟨rfl, ((h.own _ (List.getElem_mem hp)).dis j j' hj hj' b ha ha').symm⟩
  · exact absurd ha (hd p' p hp' hp hgt j' j hj' hj b ha')
theorem TabOwn.mst {B : Nat} {w : World} {g y : Nat} {qs : List (RAddr × MRoute)} (h : TabOwn B w (some ⟨g, 0, none⟩) y qs) (h0 : 0 < qs.length) (k : Int) : ∃ N, qs.length * 8 ≤ N ∧ MSt g N qs.length (tabOf qs) k w 0 0 0 := by
  rcases h.row.2 with ⟨_, h2⟩ | ⟨g', cap, cur, h1, _, h3, h4, h5, h6, h7⟩
  · omega
  · injection h1 with h1 _ hc
    injection h1 with h1
    injection h1 with h1
    subst h1
    refine ⟨cap * 8, Nat.mul_le_mul_right _ h4, ⟨fun i => cur.getD i (.bool false), ⟨cur, h3, h6, fun i hi => ?_⟩, ?_, fun p hp => absurd hp (Nat.not_lt_zero _)⟩, ?_, fun p j _ _ hh => by omega⟩
    · have hi' : i < cur.size := by omega
      simp [Array.getD, hi']
    · intro p j hp hj
      rw [tab_n hp, tab_ad hp, tab_cp hp]
      have hq : (encT qs[p])[2 + j]? = some (.slice (adR qs[p].1 j) (nR qs[p].2 j) (cpR qs[p].1 j)) := by
        match j, hj with
        | 0, _ => rfl
        | 1, _ => rfl
        | 2, _ => rfl
        | 3, _ => rfl
        | 4, _ => rfl
        | 5, _ => rfl
      have hc := h.cell hp hq
      rw [← Nat.add_assoc] at hc
      have hcr := cell_of_row w g (p * 8 + 2 + j) cur 64 (0, 0) h3
      rw [hcr] at hc
      simp [Array.getD_eq_getD_getElem?, hc]
    · intro p j hp hj
      rw [tab_n hp, tab_ad hp]
      have q := h.own _ (List.getElem_mem hp)
      match j, hj with
      | 0, _ => exact ownA_of q.steps
      | 1, _ => exact ownA_of q.lies
      | 2, _ => exact ownA_of q.crosses
      | 3, _ => exact ownA_of q.parts
      | 4, _ => exact ownA_of q.over
      | 5, _ => exact ownA_of q.flanks
theorem offF_bd (t : Tab) (p N : Nat) (h : ∀ j, j < 6 → t.n p j ≤ N) : offF t p 6 ≤ 15 * (N : Int) := by
  have h0 := h 0 (by omega)
  have h1 := h 1 (by omega)
  have h2 := h 2 (by omega)
  have h3 := h 3 (by omega)
  have h4 := h 4 (by omega)
  have h5 := h 5 (by omega)
  simp only [offF, kR]
  omega
theorem kkF_bd (t : Tab) (N : Nat) (k : Int) : ∀ (R : Nat), (∀ p, p < R → ∀ j, j < 6 → t.n p j ≤ N) → kkF t k R ≤ k + (R : Int) * (2 + 15 * (N : Int))
  | 0, _ => by simp [kkF]
  | R + 1, h => by
    have ih := kkF_bd t N k R (fun p hp => h p (by omega))
    have ho := offF_bd t R N (h R (by omega))
    simp only [kkF]
    have e : ((R + 1 : Nat) : Int) * (2 + 15 * (N : Int)) = (R : Int) * (2 + 15 * (N : Int)) + (2 + 15 * (N : Int)) := by
      rw [Int.natCast_add, Int.add_mul]
      simp
    rw [e]
    omega

set_option maxHeartbeats 1000000 in
theorem markRouteS_nil (a : Option Addr) (cap : Nat) (k : Int) (w : World) : Calls Tryz.prog 15 #[.slice a 0 cap, .int .i64 k] w fun e w' => e = .returned (.int .i64 k) ∧ Below w.heap.size w w' := by
  go_enter Tryz.func15, Tryz.ntmps15
  go_wp2_with fail
  go_loopw [1, 5] (fun kk i wr => kk = .int .i64 k ∧ i = .int .i64 0 ∧ Below w.heap.size w wr) (fun _ i _ => 0)
  case atStart => exact ⟨rfl, rfl, Below.refl _ _⟩
  case round =>
    obtain ⟨rfl, rfl, hb⟩ := hrel
    go_wp2_with fail
    go_ret
    exact ⟨rfl, hb⟩
set_option maxHeartbeats 1000000 in
theorem heldRouteS_nil (a : Option Addr) (cap : Nat) (k : Int) (w : World) : Calls Tryz.prog 16 #[.slice a 0 cap, .int .i64 k] w fun e w' => e = .returned (.int .i64 k) ∧ Below w.heap.size w w' := by
  go_enter Tryz.func16, Tryz.ntmps16
  go_wp2_with fail
  go_loopw [1, 5] (fun kk i wr => kk = .int .i64 k ∧ i = .int .i64 0 ∧ Below w.heap.size w wr) (fun _ i _ => 0)
  case atStart => exact ⟨rfl, rfl, Below.refl _ _⟩
  case round =>
    obtain ⟨rfl, rfl, hb⟩ := hrel
    go_wp2_with fail
    go_ret
    exact ⟨rfl, hb⟩

/-- Read again, they hold the numbers up to m. -/
def HeldOk (w : World) (x : Option Addr) (n y : Nat) (m : Int) : Prop := ∀ u, Below w.heap.size w u → Calls Tryz.prog 16 #[.slice x n y, .int .i64 1] u fun e u' => e = .returned (.int .i64 m) ∧ Below u.heap.size u u'
theorem markTab_any {B : Nat} {w : World} {x : Option Addr} {y : Nat} {qs : List (RAddr × MRoute)} (h : TabOwn B w x y qs) (hl : qs.length ≤ 300) (hn : ∀ q ∈ qs, ∀ j, j < 6 → nR q.2 j ≤ 100001) :
    Calls Tryz.prog 15 #[.slice x qs.length y, .int .i64 1] w fun e w' => ∃ m : Int, e = .returned (.int .i64 m) ∧ 0 ≤ m ∧ HeldOk w' x qs.length y m ∧ Only (fun b => B ≤ b) w w' := by
  by_cases h0 : qs.length = 0
  · rw [h0]
    refine (markRouteS_nil x y 1 w).mono ?_
    rintro e w' ⟨rfl, hb⟩
    exact ⟨1, rfl, by omega, fun u hu => heldRouteS_nil x y 1 u, Only.of_below hb⟩
  · obtain ⟨g, rfl⟩ := h.addr (by omega)
    obtain ⟨N, hN, hM⟩ := h.mst (by omega) 1
    have hbd : kkF (tabOf qs) 1 qs.length ≤ 1 + (qs.length : Int) * (2 + 15 * ((100001 : Nat) : Int)) := kkF_bd (tabOf qs) 100001 1 qs.length (fun p hp j hj => by
      rw [tab_n hp]
      exact hn _ (List.getElem_mem hp) j hj)
    have hkb : kkF (tabOf qs) 1 qs.length ≤ 1152921504606846976 := by omega
    have hge : 1 ≤ kkF (tabOf qs) 1 qs.length := kkF_le (tabOf qs) 1 (Nat.zero_le qs.length)
    refine (markRouteS_walk g N qs.length y (tabOf qs) 1 w h.apart hM hN (by omega) hkb (by omega)).mono ?_
    rintro e w' ⟨rfl, hM', hO⟩
    refine ⟨_, rfl, by omega, fun u hu => heldRouteS_walk g N qs.length y (tabOf qs) 1 u (hM'.below hu) hN (by omega) hkb (by omega), hO.mono ?_⟩
    intro b hb
    rcases hb with rfl | ⟨p, j, hp, hj, hb⟩
    · exact (h.row.lt b rfl).1
    · rw [tab_n hp, tab_ad hp] at hb
      exact ((h.own _ (List.getElem_mem hp)).blk j hj b (blk_ad hb)).1

end Go.Proofs.YtmkdgnmmebldgaaGreat
