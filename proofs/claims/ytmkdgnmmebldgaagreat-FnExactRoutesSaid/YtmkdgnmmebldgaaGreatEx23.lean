import Derived.Test.YtmkdgnmmebldgaaGreatEx22
import Derived.Test.YtmkdgnmmebldgaaGreatEx21
import Derived.Deep.RegionHeld3
import Derived.Test.YtmkdgnmmebldgaaGreatEx17
namespace Go.Proofs.YtmkdgnmmebldgaaGreat
open Go.RowKit Go.Deep

theorem field_step1 (a b : Int) (w : World) : (Instr.field 100 (.agg #[.int .i64 a, .int .i64 b]) 1).run Tryz.prog w = .ok (.int .i64 b) w := by kernel_rfl

set_option maxRecDepth 20000 in
set_option maxHeartbeats 4000000 in
theorem guardOf_any (K : Nat) (pa ja sa : Option Addr) (pc jc sc : Nat) (ps : List MPiece) (js : List MJoint) (ss : List MPiece) (p sd way : Int) (w : World) (h : Hid (TNet w K pa ja sa pc jc sc ps js ss)) (hsd : (sd = 0 ∧ way = -1) ∨ (sd = 1 ∧ way = 1)) (hs : Hid (∀ k (hk : k < ss.length), 0 ≤ ss[k].speed ∧ ss[k].speed ≤ 10000000)) :
    Calls Tryz.prog 114 #[.pointer (some ⟨K, 0, none⟩), .agg #[.int .i64 p, .int .i64 sd]] w fun e w' => e = .returned (.int .i64 (guardB ss p way ss.length)) ∧ Below w.heap.size w w' := by
  have c2 := h.out.c2
  have hK := cellLt c2
  dsimp only at hK
  have hsl := h.out.S.1
  unfold maxLen at hsl
  have HFE : Hid (∀ u : World, Calls Tryz.prog 88 #[.agg #[.int .i64 p, .int .i64 sd]] u fun e w' => e = .returned (.agg #[.int .i64 p, .int .i64 (1 - sd)]) ∧ Below u.heap.size u w') := fun u => farEnd_any p sd u (by omega) (by omega)
  have HSF : Hid (∀ u : World, Calls Tryz.prog 127 #[.agg #[.int .i64 p, .int .i64 (1 - sd)]] u fun e w' => e = .returned (.agg #[.int .i64 p, .int .i64 way]) ∧ Below u.heap.size u w') := fun u => by
    have he : endV (stepFromE ⟨p, 1 - sd⟩) = .agg #[.int .i64 p, .int .i64 way] := by
      rcases hsd with ⟨h1, h2⟩ | ⟨h1, h2⟩
      · subst h1 h2; rfl
      · subst h1 h2; rfl
    rw [← he]
    exact stepFrom_any p (1 - sd) u
  have HW : Hid (way = 1 ∨ way = -1) := by unfold Hid; omega
  clear hsd
  go_enter Tryz.func114, Tryz.ntmps114
  have hfs := field_step1
  go_wp2_with (first | (go_at_call 88; refine (HFE.out _).mono ?_; rintro e w1 ⟨rfl, hb1⟩) | (go_at_call 127; refine (HSF.out _).mono ?_; rintro e w2 ⟨rfl, hb2⟩; have HB2 : Hid (Below w.heap.size w w2) := ((Below.trans ((Below.refl _ _).alloc (Nat.le_refl _) _) (hb1.mono (by simp))).trans (hb2.mono (by have := hb1.size; simp at this; omega))); have e0 : w2.cell? ⟨w.heap.size, 0, none⟩ = some (.int .i64 p) := cell_later hb2 (cell_later hb1 (by simp [go_sem])); have hz2 := cellLt e0; dsimp only at hz2; clear hb1 hb2; have k2 := cell_later HB2.out c2))
  have HSW := hidP (h.out.S.below HB2.out)
  clear c2
  go_loopw [6, 18] (fun nx c wr => ∃ m : Nat, m ≤ ss.length ∧ c = .int .i64 m ∧ nx = .int .i64 (guardB ss p way m) ∧ Below w2.heap.size w2 wr) (fun _ c _ => ss.length - (intOf c).toNat)
  case atStart => exact ⟨0, Nat.zero_le _, rfl, rfl, Below.refl _ _⟩
  case round =>
    obtain ⟨m, hm, rfl, rfl, hb⟩ := hrel
    have hbs := hb.size
    by_cases hm' : m < ss.length
    · obtain ⟨bs, os, rfl, hpcs⟩ := HSW.out.2.2.resolve_left (fun h => by rw [h] at hm'; exact absurd hm' (Nat.not_lt_zero _))
      obtain ⟨s0, s1, s2, s3⟩ := (hpcs.below hb) m hm'
      have f0 := cell_later hb e0
      have f2 := cell_later hb k2
      have hz0 := cellLt s0
      have hzf := cellLt f0
      have hzk := cellLt f2
      dsimp only at hz0 hzf hzk
      obtain ⟨hsp0, hsp1⟩ := hs.out m hm'
      have hnr := guardB_range ss p way m (by omega)
      have hmi : (m : Int) < ss.length := by omega
      have hcs : (ss[m].len != p) = true ∨ ((ss[m].len != p) = false ∧ (ss[m].brake != way) = true) ∨ ((ss[m].len != p) = false ∧ (ss[m].brake != way) = false) := by
        cases (ss[m].len != p) <;> cases (ss[m].brake != way) <;> simp
      rcases hcs with t1 | ⟨t1, t2⟩ | ⟨t1, t2⟩
      · have HN : Hid (guardB ss p way (m + 1) = guardB ss p way m) := guardB_skip hm' (Or.inl (by simpa using t1))
        clear hpcs hnr
        go_wp2_with fail
        go_roundw
        case rel => exact ⟨m + 1, by omega, by go_num, by rw [HN.out], (by repeat (first | exact Below.refl _ _ | assumption | refine Below.drew ?_ | refine bdrewN ?_ _ | refine Below.setCell ?_ (by first | omega | (simp; done) | (simp; omega)) _ | refine Below.alloc ?_ (by first | omega | (simp; done) | (simp; omega)) _))⟩
        case measure => simp [intOf]; omega
      · have HN : Hid (guardB ss p way (m + 1) = guardB ss p way m) := guardB_skip hm' (Or.inr (by simpa using t2))
        clear hpcs hnr
        go_wp2_with fail
        go_roundw
        case rel => exact ⟨m + 1, by omega, by go_num, by rw [HN.out], (by repeat (first | exact Below.refl _ _ | assumption | refine Below.drew ?_ | refine bdrewN ?_ _ | refine Below.setCell ?_ (by first | omega | (simp; done) | (simp; omega)) _ | refine Below.alloc ?_ (by first | omega | (simp; done) | (simp; omega)) _))⟩
        case measure => simp [intOf]; omega
      · have hns : ¬ (ss[m].len ≠ p ∨ ss[m].brake ≠ way) := by
          have h1 : ss[m].len = p := by simpa using t1
          have h2 : ss[m].brake = way := by simpa using t2
          rintro (h | h)
          · exact h h1
          · exact h h2
        rcases hnr with hnb | ⟨b, hbl, _, hnb, _, _⟩
        · have HN : Hid (guardB ss p way (m + 1) = m) := guardB_take hm' hns (Or.inl (by omega))
          rw [hnb]
          clear hpcs hns hnb
          go_wp2_with fail
          go_quiet (fail)
          go_wp2_with fail
          go_roundw
          case rel => exact ⟨m + 1, by omega, by go_num, by rw [HN.out], (by repeat (first | exact Below.refl _ _ | assumption | refine Below.drew ?_ | refine bdrewN ?_ _ | refine Below.setCell ?_ (by first | omega | (simp; done) | (simp; omega)) _ | refine Below.alloc ?_ (by first | omega | (simp; done) | (simp; omega)) _))⟩
          case measure => simp [intOf]; omega
        · obtain ⟨_, _, q2, _⟩ := (hpcs.below hb) b hbl
          obtain ⟨hsb0, hsb1⟩ := hs.out b hbl
          obtain ⟨f, hf⟩ : ∃ f, (ss[m].speed - ss[b].speed) * way = f := ⟨_, rfl⟩
          have hfb : -10000000 ≤ f ∧ f ≤ 10000000 := by rcases HW.out with rfl | rfl <;> omega
          have hsig : sigAt ss (guardB ss p way m) = ss[b].speed := by rw [hnb]; exact sigAt_at hbl
          have hzq := cellLt q2
          dsimp only at hzq
          have hbi : (b : Int) < ss.length := by omega
          have hbi0 : ¬ (b : Int) < 0 := by omega
          have hw1 : IntKind.i64.wrap (ss[m].speed - ss[b].speed) = ss[m].speed - ss[b].speed := by rw [IntKind.wrap_i64]; omega
          have hw2 : IntKind.i64.wrap f = f := by rw [IntKind.wrap_i64]; omega
          by_cases hlt : 0 < f
          · have HN : Hid (guardB ss p way (m + 1) = m) := guardB_take hm' hns (Or.inr (by rw [hsig]; omega))
            rw [hnb]
            clear hpcs hns hnb hsig
            go_wp2_with fail
            go_quiet (fail)
            go_wp2_with fail
            go_roundw
            case rel => exact ⟨m + 1, by omega, by go_num, by rw [HN.out], (by repeat (first | exact Below.refl _ _ | assumption | refine Below.drew ?_ | refine bdrewN ?_ _ | refine Below.setCell ?_ (by first | omega | (simp; done) | (simp; omega)) _ | refine Below.alloc ?_ (by first | omega | (simp; done) | (simp; omega)) _))⟩
            case measure => simp [intOf]; omega
          · have HN : Hid (guardB ss p way (m + 1) = b) := by
              unfold Hid
              rw [guardB_leave hm' hns (by rw [hsig, hnb]; omega)]
              exact hnb
            rw [hnb]
            clear hpcs hns hnb hsig
            go_wp2_with fail
            go_quiet (fail)
            go_wp2_with fail
            go_roundw
            case rel => exact ⟨m + 1, by omega, by go_num, by rw [HN.out], (by repeat (first | exact Below.refl _ _ | assumption | refine Below.drew ?_ | refine bdrewN ?_ _ | refine Below.setCell ?_ (by first | omega | (simp; done) | (simp; omega)) _ | refine Below.alloc ?_ (by first | omega | (simp; done) | (simp; omega)) _))⟩
            case measure => simp [intOf]; omega
    · have hme : m = ss.length := by omega
      subst hme
      go_wp2_with fail
      go_ret
      exact ⟨rfl, HB2.out.trans (hb.mono HB2.out.size)⟩

set_option maxHeartbeats 1000000 in
theorem endBehind_any (K : Nat) (pa ja sa : Option Addr) (pc jc sc : Nat) (ps : List MPiece) (js : List MJoint) (ss : List MPiece) (j t : Nat) (fr kd : Value) (w : World) (h : Hid (TNet w K pa ja sa pc jc sc ps js ss)) (hj : j < js.length) (ht : t < js[j].ends.length) :
    Calls Tryz.prog 125 #[.pointer (some ⟨K, 0, none⟩), .agg #[.int .i64 j, fr, .int .i64 t, kd]] w fun e w' => e = .returned (endV js[j].ends[t]) ∧ Below w.heap.size w w' := by
  have c1 := h.out.c1
  have hK := cellLt c1
  dsimp only at hK
  have hjl := h.out.J.1
  unfold maxLen at hjl
  obtain ⟨bj, oj, rfl, hpcj⟩ := h.out.J.2.2.resolve_left (fun h => by rw [h] at hj; exact absurd hj (Nat.not_lt_zero _))
  obtain ⟨_, _, ea, ec, c3, c4⟩ := hpcj j hj
  have hel := c4.1
  unfold maxLen at hel
  obtain ⟨be, oe, rfl, hpe⟩ := c4.2.resolve_left (fun h => by rw [h] at ht; exact absurd ht (Nat.not_lt_zero _))
  obtain ⟨g0, g1⟩ := hpe t ht
  have hz3 := cellLt c3
  have hzg := cellLt g0
  dsimp only at hz3 hzg
  have hji : (j : Int) < js.length := by omega
  have hti : (t : Int) < js[j].ends.length := by omega
  clear hpcj hpe c4
  go_enter Tryz.func125, Tryz.ntmps125
  go_wp2_with fail
  generalize hW : World.alloc (World.alloc w _) _ = W
  have hbW : Below w.heap.size w W := by rw [← hW]; exact (by repeat (first | exact Below.refl _ _ | assumption | refine Below.drew ?_ | refine bdrewN ?_ _ | refine Below.setCell ?_ (by first | omega | (simp; done) | (simp; omega)) _ | refine Below.alloc ?_ (by first | omega | (simp; done) | (simp; omega)) _))
  have b0 : W.cell? ⟨w.heap.size, 0, none⟩ = some (.int .i64 j) := by rw [← hW]; simp [go_sem]
  have b2 : W.cell? ⟨w.heap.size, 2, none⟩ = some (.int .i64 t) := by rw [← hW]; simp [go_sem]
  have r0 : W.cell? ⟨w.heap.size + 1, 0, none⟩ = some (.int .i64 0) := by rw [← hW]; simp [go_sem]
  have r1 : W.cell? ⟨w.heap.size + 1, 1, none⟩ = some (.int .i64 0) := by rw [← hW]; simp [go_sem]
  have rz0 : W.frozen? ⟨w.heap.size + 1, 0, none⟩ = false := by rw [← hW]; simp [go_sem]
  have rz1 : W.frozen? ⟨w.heap.size + 1, 1, none⟩ = false := by rw [← hW]; simp [go_sem]
  replace c1 := cell_later hbW c1
  replace c3 := cell_later hbW c3
  replace g0 := cell_later hbW g0
  replace g1 := cell_later hbW g1
  clear hW
  have n1 : K ≠ w.heap.size + 1 := by omega
  have n2 : bj ≠ w.heap.size + 1 := by omega
  have n3 : be ≠ w.heap.size + 1 := by omega
  go_region
  all_goals
    go_wp2_with fail
    refine bodyPost_ret (v := .agg #[.int .i64 js[j].ends[t].piece, .int .i64 js[j].ends[t].side]) (by simp [results, Tryz.results125, go_sem, r0, r1]) rfl ⟨rfl, ?_⟩
    exact (by repeat (first | exact Below.refl _ _ | assumption | refine Below.drew ?_ | refine bdrewN ?_ _ | refine Below.setCell ?_ (by first | omega | (simp; done) | (simp; omega)) _ | refine Below.alloc ?_ (by first | omega | (simp; done) | (simp; omega)) _))

end Go.Proofs.YtmkdgnmmebldgaaGreat

namespace Go.Proofs.YtmkdgnmmebldgaaGreat
open Go.RowKit Go.Deep

/-! What is found for one Lie stands behind what was found for those ahead of it. -/

theorem fold_app {f : List MEnd × List MFlank → Nat → List MEnd × List MFlank} (h : ∀ s fs t, f (s, fs) t = ((f (s, []) t).1, fs ++ (f (s, []) t).2)) : ∀ (L : List Nat) (s : List MEnd) (fs : List MFlank), L.foldl f (s, fs) = ((L.foldl f (s, [])).1, fs ++ (L.foldl f (s, [])).2)
  | [], s, fs => by simp
  | t :: r, s, fs => by
    simp only [List.foldl_cons]
    rw [h s fs t, fold_app h r _ (fs ++ (f (s, []) t).2)]
    have e : f (s, []) t = ((f (s, []) t).1, (f (s, []) t).2) := rfl
    rw [e, fold_app h r _ (f (s, []) t).2, List.append_assoc]

theorem look_app (js : List MJoint) (ss : List MPiece) (lies : List MLie) (pl : Int) : ∀ (n : Nat) (s : List MEnd) (fs : List MFlank) (e : MEnd), lookF js ss lies pl n (s, fs) e = ((lookF js ss lies pl n (s, []) e).1, fs ++ (lookF js ss lies pl n (s, []) e).2)
  | 0, s, fs, e => by simp [lookF]
  | n + 1, s, fs, e => by
    simp only [lookF]
    generalize (if e.side = 0 then (-1 : Int) else 1) = wy
    split
    · simp
    · split
      · simp
      · split
        · simp
        · split
          · simp
          · exact fold_app (fun s fs t => look_app js ss lies pl n s fs _) _ _ _

theorem flanksF_snoc (ps : List MPiece) (js : List MJoint) (ss : List MPiece) (lies : List MLie) : ∀ (L : List MLie) (l : MLie), flanksF ps js ss lies (L ++ [l]) = flanksF ps js ss lies L ++ (lookF js ss lies l.piece (depthR ps) ([], []) (endE js l.piece.toNat (3 - l.side).toNat)).2
  | [], l => by simp [flanksF]
  | x :: r, l => by
    show _ ++ flanksF ps js ss lies (r ++ [l]) = _
    rw [flanksF_snoc ps js ss lies r l]
    show _ = (_ ++ flanksF ps js ss lies r) ++ _
    rw [List.append_assoc]

/-- One more Lie of a route: what stands at the end of its look, the flanks of those ahead of it standing there. -/
theorem look_next (ps : List MPiece) (js : List MJoint) (ss : List MPiece) (lies : List MLie) (k : Nat) (hk : k < lies.length) :
    (lookF js ss lies lies[k].piece (depthR ps) ([], flanksF ps js ss lies (lies.take k)) (endE js lies[k].piece.toNat (3 - lies[k].side).toNat)).2 = flanksF ps js ss lies (lies.take (k + 1)) := by
  rw [look_app, List.take_succ_eq_append_getElem hk, flanksF_snoc]

/-- No more flanks than ends that were looked from, two for each piece and Lie. -/
theorem flanksF_len {ps : List MPiece} {js : List MJoint} {ss : List MPiece} (R : Right ps js ss) (lies : List MLie) : ∀ (L : List MLie), (∀ l ∈ L, ValidE ps (endE js l.piece.toNat (3 - l.side).toNat)) → (flanksF ps js ss lies L).length ≤ 2 * ps.length * L.length
  | [], _ => by simp [flanksF]
  | l :: r, h => by
    have h1 := look_grew R lies l.piece (depthR ps) ([], []) _ (Seen.nil ps) (h l (by simp))
    have h2 := flanksF_len R lies r (fun x hx => h x (by simp [hx]))
    have h3 := h1.1.few
    have h4 := h1.2.2
    simp only [List.length_nil, Nat.add_zero, Nat.zero_add] at h4
    show ((lookF js ss lies l.piece (depthR ps) ([], []) (endE js l.piece.toNat (3 - l.side).toNat)).2 ++ flanksF ps js ss lies r).length ≤ _
    rw [List.length_append, List.length_cons, Nat.mul_add, Nat.mul_one]
    omega

end Go.Proofs.YtmkdgnmmebldgaaGreat

namespace Go.Proofs.YtmkdgnmmebldgaaGreat
open Go.RowKit

/-! A walk as plain mathematics: what its tries and its routes come to. -/

/-- Within both limits. -/
def Fits (t m : Nat) (E : List MPath) : Prop := t + E.length ≤ 20000 ∧ m + (endedL E).length ≤ 300

/-- What a walk makes of the tries and of the routes: all of it, or past a limit. -/
structure Went (mk : MPath → MRoute) (t : Nat) (rs : List MRoute) (E : List MPath) (t' : Nat) (rs' : List MRoute) : Prop where
  le : t ≤ t'
  ge : rs.length ≤ rs'.length
  fit : Fits t rs.length E → t' = t + E.length ∧ rs' = rs ++ (endedL E).map mk
  past : ¬ Fits t rs.length E → 20000 < t' ∨ 300 < rs'.length

theorem endedL_app (A B : List MPath) : endedL (A ++ B) = endedL A ++ endedL B := by simp [endedL]

theorem Went.nil {mk : MPath → MRoute} {t : Nat} {rs : List MRoute} (h : t ≤ 20000) (hr : rs.length ≤ 300) : Went mk t rs [] t rs :=
  ⟨Nat.le_refl _, Nat.le_refl _, fun _ => by simp [endedL], fun h2 => absurd ⟨by simpa using h, by simpa [endedL] using hr⟩ h2⟩
/-- Nothing more to do, within the limits or past them. -/
theorem Went.stay {mk : MPath → MRoute} {t : Nat} {rs : List MRoute} : Went mk t rs [] t rs :=
  ⟨Nat.le_refl _, Nat.le_refl _, fun _ => by simp [endedL], fun h2 => by
    by_cases h1 : 20000 < t
    · exact Or.inl h1
    · refine Or.inr ?_
      refine Nat.lt_of_not_le (fun h3 => h2 ⟨by simp; omega, by simpa [endedL] using h3⟩)⟩
theorem Went.app {mk : MPath → MRoute} {t t1 t2 : Nat} {rs rs1 rs2 : List MRoute} {A B : List MPath} (h : Went mk t rs A t1 rs1) (k : Went mk t1 rs1 B t2 rs2) : Went mk t rs (A ++ B) t2 rs2 := by
  refine ⟨Nat.le_trans h.le k.le, Nat.le_trans h.ge k.ge, ?_, ?_⟩
  · rintro ⟨f1, f2⟩
    rw [List.length_append] at f1
    rw [endedL_app, List.length_append] at f2
    obtain ⟨e1, e2⟩ := h.fit ⟨by omega, by omega⟩
    have hl : rs1.length = rs.length + (endedL A).length := by rw [e2]; simp
    obtain ⟨e3, e4⟩ := k.fit ⟨by omega, by omega⟩
    refine ⟨by rw [List.length_append]; omega, ?_⟩
    rw [e4, e2, endedL_app, List.map_append, List.append_assoc]
  · intro hn
    by_cases f : Fits t rs.length A
    · obtain ⟨e1, e2⟩ := h.fit f
      have hl : rs1.length = rs.length + (endedL A).length := by rw [e2]; simp
      refine k.past (fun g => hn ?_)
      obtain ⟨g1, g2⟩ := g
      refine ⟨by rw [List.length_append]; omega, ?_⟩
      rw [endedL_app, List.length_append]
      omega
    · have h1 := h.le
      have h2 := k.le
      have h3 := k.ge
      rcases h.past f with h4 | h4
      · exact Or.inl (by omega)
      · exact Or.inr (by omega)
/-- One more try, of no route. -/
theorem Went.one {mk : MPath → MRoute} {t : Nat} {rs : List MRoute} {p : MPath} (hp : p.ended = false) : Went mk t rs [p] (t + 1) rs := by
  have e : endedL [p] = [] := by simp [endedL, hp]
  refine ⟨by omega, Nat.le_refl _, fun _ => by simp [e], fun h => ?_⟩
  by_cases h1 : 20000 < t + 1
  · exact Or.inl h1
  · refine Or.inr (Nat.lt_of_not_le (fun h3 => h ⟨by simp; omega, by rw [e]; simpa using h3⟩))
/-- One more try, and a route. -/
theorem Went.made {mk : MPath → MRoute} {t : Nat} {rs : List MRoute} {p : MPath} {r : MRoute} (hp : p.ended = true) (ht : t + 1 ≤ 20000) (hr : r = mk p) : Went mk t rs [p] (t + 1) (rs ++ [r]) := by
  have e : endedL [p] = [p] := by simp [endedL, hp]
  subst hr
  refine ⟨by omega, by simp, fun _ => by simp [e], fun h => ?_⟩
  refine Or.inr (Nat.lt_of_not_le (fun h3 => h ⟨by simpa using ht, by rw [e]; simpa using h3⟩))
/-- Past a limit on the way in: nothing is done. -/
theorem Went.out {mk : MPath → MRoute} {t : Nat} {rs : List MRoute} {p : MPath} {E : List MPath} (h : 20000 < t + 1 ∨ 300 < rs.length) : Went mk t rs (p :: E) (t + 1) rs := by
  refine ⟨by omega, Nat.le_refl _, ?_, fun _ => h⟩
  rintro ⟨f1, f2⟩
  rw [List.length_cons] at f1
  omega

/-! Where a walk stands. -/

structure WalkOk (ps : List MPiece) (js : List MJoint) (ss : List MPiece) (i : Nat) (pre : List MStep) (s : MStep) (lies : List MLie) (crosses : List Int) (pos : Int) : Prop where
  start : i < ss.length
  sv : ValidS ps s
  pv : ∀ x ∈ pre, ValidS ps x
  nd : pre.Nodup
  lv : ∀ l ∈ lies, ∃ (j : Nat) (hj : j < js.length), l.piece = j ∧ js[j].kind = 3 ∧ (l.side = 1 ∨ l.side = 2)
  ld : (lies.map MEnd.piece).Nodup
  cl : crosses.length ≤ pre.length
  place : pos = if pre.length = 0 then sigAt ss i else endAt ps (farE (aheadE s))
  p0 : 0 ≤ pos
  p1 : pos ≤ lenI ps s.piece

theorem aheadE_inj {ps : List MPiece} {a b : MStep} (ha : ValidS ps a) (hb : ValidS ps b) (h : aheadE a = aheadE b) : a = b := by
  obtain ⟨p, hp, e1, e2⟩ := ha
  obtain ⟨q, hq, f1, f2⟩ := hb
  cases a
  cases b
  simp only at e1 e2 f1 f2
  subst e1 f1
  rcases e2 with rfl | rfl <;> rcases f2 with rfl | rfl <;> simp [aheadE] at h ⊢ <;> omega

theorem steps_few {ps : List MPiece} {L : List MStep} (hd : L.Nodup) (hv : ∀ x ∈ L, ValidS ps x) : L.length ≤ 2 * ps.length := by
  have h : Seen ps (L.map aheadE) := by
    refine ⟨?_, ?_⟩
    · unfold List.Nodup
      rw [List.pairwise_map]
      exact List.Pairwise.imp_of_mem (fun ha hb hne e => hne (aheadE_inj (hv _ ha) (hv _ hb) e)) hd
    · intro e he
      obtain ⟨x, hx, rfl⟩ := List.mem_map.1 he
      exact aheadE_valid (hv x hx)
  simpa using h.few

theorem lies_few {js : List MJoint} {lies : List MLie} (hl : ∀ l ∈ lies, ∃ (j : Nat) (hj : j < js.length), l.piece = j ∧ js[j].kind = 3 ∧ (l.side = 1 ∨ l.side = 2)) (hd : (lies.map MEnd.piece).Nodup) : lies.length ≤ js.length := by
  have h1 : (lies.map (fun l => l.piece.toNat)).Nodup := by
    unfold List.Nodup at hd ⊢
    rw [List.pairwise_map] at hd ⊢
    refine List.Pairwise.imp_of_mem (fun ha hb hne e => hne ?_) hd
    obtain ⟨j, _, e1, _⟩ := hl _ ha
    obtain ⟨k, _, e2, _⟩ := hl _ hb
    rw [e1, e2] at e ⊢
    rw [Int.toNat_natCast, Int.toNat_natCast] at e
    rw [e]
  have := nats_few js.length h1 (fun x hx => by
    obtain ⟨l, hl', rfl⟩ := List.mem_map.1 hx
    obtain ⟨j, hj, e1, _⟩ := hl l hl'
    rw [e1]
    simpa using hj)
  simpa using this

theorem lies_like : ∀ {lies : List MLie}, (lies.map MEnd.piece).Nodup → ∀ a ∈ lies, ∀ b ∈ lies, a.piece = b.piece → a.side = b.side
  | [], _ => fun a ha => absurd ha (by simp)
  | x :: r, hd => by
    rw [List.map_cons, List.nodup_cons] at hd
    intro a ha b hb e
    rcases List.mem_cons.1 ha with ha' | ha' <;> rcases List.mem_cons.1 hb with hb' | hb'
    · rw [ha', hb']
    · exact absurd (List.mem_map.2 ⟨b, hb', by rw [← e, ha']⟩) hd.1
    · exact absurd (List.mem_map.2 ⟨a, ha', by rw [e, hb']⟩) hd.1
    · exact lies_like hd.2 a ha' b hb' e

/-- The parts of the steps behind, and one more. -/
theorem fullParts_snoc (ps : List MPiece) (a : Int) (pre : List MStep) (s : MStep) : fullParts ps a (pre ++ [s]) = fullParts ps a pre ++ [partI s.piece (if pre.length = 0 then a else endAt ps (farE (aheadE s))) (endAt ps (aheadE s))] := by
  cases pre with
  | nil => rfl
  | cons x r => simp [fullParts]
theorem fullParts_len (ps : List MPiece) (a : Int) (pre : List MStep) : (fullParts ps a pre).length = pre.length := by
  cases pre with
  | nil => rfl
  | cons x r => simp [fullParts]

theorem specPart_farI {ps : List MPiece} {p way a b : Int} (hw : way = 1 ∨ way = -1) (h : (a - b) * way ≤ 0) : specPart ps p way (farI ps p a way) (farI ps p b way) = partI p a b := by
  rcases hw with rfl | rfl
  · simp only [specPart, farI, partI, if_true]
    rw [if_neg (by omega), Int.min_eq_left (by omega), Int.max_eq_right (by omega)]
  · simp only [specPart, farI, partI]
    rw [if_pos trivial, if_neg (by omega), if_neg (by omega), Int.min_eq_right (by omega), Int.max_eq_left (by omega)]
    congr 1 <;> omega

/-- The whole of a piece ahead. -/
theorem farI_end {ps : List MPiece} {p : Nat} {way : Int} (hp : p < ps.length) (hw : way = 1 ∨ way = -1) : farI ps p (endAt ps (aheadE ⟨p, way⟩)) way = ps[p].len := by
  rcases hw with rfl | rfl
  · simp [farI, endAt, aheadE, lenI_at hp]
  · simp [farI, endAt, aheadE, lenI_at hp]
theorem farI_begin {ps : List MPiece} {e : MEnd} (h : ValidE ps e) : farI ps (stepFromE e).piece (endAt ps e) (stepFromE e).side = 0 ∧ endAt ps (farE (aheadE (stepFromE e))) = endAt ps e := by
  obtain ⟨p, hp, e1, e2⟩ := h
  cases e
  simp only at e1 e2
  subst e1
  rcases e2 with rfl | rfl <;> simp [farI, endAt, aheadE, farE, stepFromE]
theorem endAt_range {ps : List MPiece} {js : List MJoint} {ss : List MPiece} (R : Right ps js ss) {e : MEnd} (h : ValidE ps e) : 0 ≤ endAt ps e ∧ endAt ps e ≤ lenI ps e.piece := by
  obtain ⟨p, hp, e1, e2⟩ := h
  have := R.plen p hp
  have h1 := lenI_at hp
  unfold endAt
  rw [e1, h1]
  split <;> omega
theorem stepFromE_piece (e : MEnd) : (stepFromE e).piece = e.piece := by
  unfold stepFromE
  split <;> rfl

/-- One step on. -/
theorem WalkOk.next {ps : List MPiece} {js : List MJoint} {ss : List MPiece} (R : Right ps js ss) {i : Nat} {pre : List MStep} {s : MStep} {lies lies' : List MLie} {crosses crosses' : List Int} {pos : Int} (h : WalkOk ps js ss i pre s lies crosses pos) (hr : s ∉ pre)
    {e : MEnd} (he : ValidE ps e) (hl : ∀ l ∈ lies', ∃ (j : Nat) (hj : j < js.length), l.piece = j ∧ js[j].kind = 3 ∧ (l.side = 1 ∨ l.side = 2)) (hd : (lies'.map MEnd.piece).Nodup) (hc : crosses'.length ≤ pre.length + 1) :
    WalkOk ps js ss i (pre ++ [s]) (stepFromE e) lies' crosses' (endAt ps e) := by
  refine ⟨h.start, stepFromE_valid he, ?_, ?_, hl, hd, by simpa using hc, ?_, (endAt_range R he).1, by rw [stepFromE_piece]; exact (endAt_range R he).2⟩
  · intro x hx
    rcases List.mem_append.1 hx with hx | hx
    · exact h.pv x hx
    · have : x = s := by simpa using hx
      rw [this]; exact h.sv
  · refine List.nodup_append.2 ⟨h.nd, by simp, ?_⟩
    intro a ha b hb
    have : b = s := by simpa using hb
    subst this
    rintro rfl
    exact hr ha
  · rw [if_neg (by simp), (farI_begin he).2]
theorem WalkOk.few {ps : List MPiece} {js : List MJoint} {ss : List MPiece} {i : Nat} {pre : List MStep} {s : MStep} {lies : List MLie} {crosses : List Int} {pos : Int} (h : WalkOk ps js ss i pre s lies crosses pos) : pre.length ≤ 2 * ps.length := steps_few h.nd h.pv
theorem WalkOk.begin {ps : List MPiece} {js : List MJoint} {ss : List MPiece} (R : Right ps js ss) {i : Nat} (hi : i < ss.length) : WalkOk ps js ss i [] ⟨ss[i].len, ss[i].brake⟩ [] [] ss[i].speed := by
  obtain ⟨p, hp, e1, e2, e3, e4⟩ := R.sig i hi
  refine ⟨hi, ⟨p, hp, e1, e2⟩, by simp, by simp, by simp, by simp, by simp, ?_, by omega, ?_⟩
  · rw [if_pos (by simp), sigAt_at hi]
  · show ss[i].speed ≤ lenI ps ss[i].len
    rw [e1, lenI_at hp]
    omega

/-! What is come to from one place. -/

def pathOf (i : Nat) (L : List MStep) (lies : List MLie) (crosses : List Int) : MPath := ⟨i, 0, false, L, lies, crosses⟩
def endP (i : Nat) (stop : Int) (L : List MStep) (lies : List MLie) (crosses : List Int) : MPath := ⟨i, stop, true, L, lies, crosses⟩
def kidF (ps : List MPiece) (js : List MJoint) (ss : List MPiece) (n : Nat) (p : MPath) (j k t : Nat) : List MPath :=
  match overP js p j k t with
  | none => []
  | some q => evs ps js ss n q (endAt ps (endE js j t))
def kidsF (ps : List MPiece) (js : List MJoint) (ss : List MPiece) (n : Nat) (p : MPath) (j k : Nat) (L : List Nat) : List MPath := L.flatMap (kidF ps js ss n p j k)
theorem kidsF_snoc (ps : List MPiece) (js : List MJoint) (ss : List MPiece) (n : Nat) (p : MPath) (j k : Nat) (L : List Nat) (t : Nat) : kidsF ps js ss n p j k (L ++ [t]) = kidsF ps js ss n p j k L ++ kidF ps js ss n p j k t := by
  simp [kidsF]

theorem sameS_iff {a b : MStep} : sameS a b = true ↔ a = b := by
  cases a
  cases b
  simp [sameS]
theorem lastS_snoc (i : Nat) (pre : List MStep) (s : MStep) (lies : List MLie) (crosses : List Int) : lastS (pathOf i (pre ++ [s]) lies crosses) = s := by simp [lastS, pathOf]
theorem roundB_snoc (i : Nat) (pre : List MStep) (s : MStep) (lies : List MLie) (crosses : List Int) : roundB (pathOf i (pre ++ [s]) lies crosses) = true ↔ s ∈ pre := by
  unfold roundB
  rw [lastS_snoc]
  show ((pre ++ [s]).dropLast.any fun x => sameS x s) = true ↔ s ∈ pre
  rw [List.dropLast_concat, List.any_eq_true]
  constructor
  · rintro ⟨x, hx, h⟩
    rw [← sameS_iff.1 h]; exact hx
  · intro h
    exact ⟨s, h, sameS_iff.2 rfl⟩

section
variable {ps : List MPiece} {js : List MJoint} {ss : List MPiece} {n i : Nat} {pre : List MStep} {s : MStep} {lies : List MLie} {crosses : List Int} {pos : Int}
theorem evs_signal (h : 0 ≤ nextB ss s.piece s.side pos ss.length) : evs ps js ss (n + 1) (pathOf i (pre ++ [s]) lies crosses) pos = [endP i (nextB ss s.piece s.side pos ss.length) (pre ++ [s]) lies crosses] := by
  unfold evs stopP
  rw [lastS_snoc, if_pos h]
  simp [pathOf, endP]
theorem evs_round (h : ¬ 0 ≤ nextB ss s.piece s.side pos ss.length) (hr : s ∈ pre) : evs ps js ss (n + 1) (pathOf i (pre ++ [s]) lies crosses) pos = [pathOf i (pre ++ [s]) lies crosses] := by
  have hb := (roundB_snoc i pre s lies crosses).2 hr
  unfold evs stopP
  rw [lastS_snoc, if_neg h, hb]
  simp [pathOf]
theorem evs_buffer (h : ¬ 0 ≤ nextB ss s.piece s.side pos ss.length) (hr : s ∉ pre) (hk : kindE js (spotE js (aheadE s)).1 = 1) : evs ps js ss (n + 1) (pathOf i (pre ++ [s]) lies crosses) pos = [endP i (-1) (pre ++ [s]) lies crosses] := by
  have hb : roundB (pathOf i (pre ++ [s]) lies crosses) = false := by
    cases e : roundB (pathOf i (pre ++ [s]) lies crosses) with
    | false => rfl
    | true => exact absurd ((roundB_snoc i pre s lies crosses).1 e) hr
  unfold evs stopP
  rw [lastS_snoc, if_neg h, hb, hk]
  simp [pathOf, endP]
theorem evs_on (h : ¬ 0 ≤ nextB ss s.piece s.side pos ss.length) (hr : s ∉ pre) (hk : kindE js (spotE js (aheadE s)).1 ≠ 1) : evs ps js ss (n + 1) (pathOf i (pre ++ [s]) lies crosses) pos = pathOf i (pre ++ [s]) lies crosses :: kidsF ps js ss n (pathOf i (pre ++ [s]) lies crosses) (spotE js (aheadE s)).1 (spotE js (aheadE s)).2 (beyondF (kindE js (spotE js (aheadE s)).1) (spotE js (aheadE s)).2) := by
  have hb : roundB (pathOf i (pre ++ [s]) lies crosses) = false := by
    cases e : roundB (pathOf i (pre ++ [s]) lies crosses) with
    | false => rfl
    | true => exact absurd ((roundB_snoc i pre s lies crosses).1 e) hr
  have hst : stopP js ss (pathOf i (pre ++ [s]) lies crosses) pos = pathOf i (pre ++ [s]) lies crosses := by
    unfold stopP
    rw [lastS_snoc, if_neg h, if_neg (fun e => hk e.1)]
    rfl
  have hst2 : (pathOf i (pre ++ [s]) lies crosses).ended = false := rfl
  rw [evs, hst, lastS_snoc, hb, hst2, if_neg (by simp)]
  rfl
theorem evs_ne (m : Nat) (p : MPath) : ∃ q E, evs ps js ss (m + 1) p pos = q :: E := ⟨_, _, rfl⟩

theorem over_plain {j k t : Nat} {L : List MStep} (h : kindE js j = 2) : overP js (pathOf i L lies crosses) j k t = some (pathOf i (L ++ [stepFromE (endE js j t)]) lies crosses) := by
  unfold overP
  rw [h]
  simp [pathOf]
theorem over_cross {j k t : Nat} {L : List MStep} (h : kindE js j = 4) : overP js (pathOf i L lies crosses) j k t = some (pathOf i (L ++ [stepFromE (endE js j t)]) lies (crosses ++ [(j : Int)])) := by
  unfold overP
  rw [h]
  simp [pathOf]
theorem over_same {j k t : Nat} {L : List MStep} (h : kindE js j = 3) (hl : lieF lies j = (max k t : Nat)) (hz : lieF lies j ≠ 0) : overP js (pathOf i L lies crosses) j k t = some (pathOf i (L ++ [stepFromE (endE js j t)]) lies crosses) := by
  show (if kindE js j = 4 then _ else if kindE js j = 3 then (if lieF lies j ≠ 0 then (if lieF lies j = (max k t : Nat) then _ else _) else _) else _) = _
  rw [if_neg (by omega), if_pos h, if_pos hz, if_pos hl]
  rfl
theorem over_other {j k t : Nat} {L : List MStep} (h : kindE js j = 3) (hl : lieF lies j ≠ (max k t : Nat)) (hz : lieF lies j ≠ 0) : overP js (pathOf i L lies crosses) j k t = none := by
  show (if kindE js j = 4 then _ else if kindE js j = 3 then (if lieF lies j ≠ 0 then (if lieF lies j = (max k t : Nat) then _ else _) else _) else _) = _
  rw [if_neg (by omega), if_pos h, if_pos hz, if_neg hl]
theorem over_new {j k t : Nat} {L : List MStep} (h : kindE js j = 3) (hz : lieF lies j = 0) : overP js (pathOf i L lies crosses) j k t = some (pathOf i (L ++ [stepFromE (endE js j t)]) (lies ++ [⟨j, (max k t : Nat)⟩]) crosses) := by
  show (if kindE js j = 4 then _ else if kindE js j = 3 then (if lieF lies j ≠ 0 then (if lieF lies j = (max k t : Nat) then _ else _) else _) else _) = _
  rw [if_neg (by omega), if_pos h, if_neg (fun e => e hz)]
  rfl

theorem partsF_end {stop : Int} (h : WalkOk ps js ss i pre s lies crosses pos) : partsF ps ss (endP i stop (pre ++ [s]) lies crosses) = fullParts ps (sigAt ss i) pre ++ [partI s.piece pos (if 0 ≤ stop then sigAt ss stop else endAt ps (aheadE s))] := by
  unfold partsF
  have h1 : lastS (endP i stop (pre ++ [s]) lies crosses) = s := by simp [lastS, endP]
  rw [h1]
  simp only [endP, List.dropLast_concat, List.length_append, List.length_singleton]
  rw [h.place]
  congr 3
  by_cases hp : pre.length = 0
  · rw [if_pos (by omega), if_pos hp]
  · rw [if_neg (by omega), if_neg hp]
theorem fullParts_on (h : WalkOk ps js ss i pre s lies crosses pos) : fullParts ps (sigAt ss i) pre ++ [partI s.piece pos (endAt ps (aheadE s))] = fullParts ps (sigAt ss i) (pre ++ [s]) := by
  rw [fullParts_snoc, h.place]

/-- A joint's own Lie: the one that is wanted, or none. -/
theorem lieF_any (hl : ∀ l ∈ lies, ∃ (j : Nat) (hj : j < js.length), l.piece = j ∧ js[j].kind = 3 ∧ (l.side = 1 ∨ l.side = 2)) {j : Int} (h : lies.any (fun l => l.piece == j) = true) : lieF lies j ≠ 0 := by
  unfold lieF
  cases hf : lies.find? (fun l => l.piece == j) with
  | none =>
    obtain ⟨x, hx, h2⟩ := List.any_eq_true.1 h
    exact absurd h2 (by simpa using List.find?_eq_none.1 hf x hx)
  | some l =>
    obtain ⟨_, _, _, _, h3⟩ := hl l (List.mem_of_find?_eq_some hf)
    show l.side ≠ 0
    omega
theorem lieF_not {j : Int} (h : ¬ lies.any (fun l => l.piece == j) = true) : lieF lies j = 0 := by
  unfold lieF
  cases hf : lies.find? (fun l => l.piece == j) with
  | none => rfl
  | some l => exact absurd (List.any_eq_true.2 ⟨l, List.mem_of_find?_eq_some hf, List.find?_some hf⟩) h
theorem lies_push (hl : ∀ l ∈ lies, ∃ (j : Nat) (hj : j < js.length), l.piece = j ∧ js[j].kind = 3 ∧ (l.side = 1 ∨ l.side = 2)) {j : Nat} {x : Int} (hj : j < js.length) (hk : js[j].kind = 3) (hx : x = 1 ∨ x = 2) : ∀ l ∈ lies ++ [(⟨(j : Int), x⟩ : MLie)], ∃ (j : Nat) (hj : j < js.length), l.piece = j ∧ js[j].kind = 3 ∧ (l.side = 1 ∨ l.side = 2) := by
  intro l hm
  rcases List.mem_append.1 hm with hm | hm
  · exact hl l hm
  · have : l = (⟨(j : Int), x⟩ : MLie) := by simpa using hm
    subst this
    exact ⟨j, hj, rfl, hk, hx⟩
theorem lies_pushd (hd : (lies.map MEnd.piece).Nodup) {j : Int} {x : Int} (h : ¬ lies.any (fun l => l.piece == j) = true) : ((lies ++ [(⟨j, x⟩ : MLie)]).map MEnd.piece).Nodup := by
  rw [List.map_append]
  refine List.nodup_append.2 ⟨hd, by simp, ?_⟩
  intro a ha b hb
  have : b = j := by simpa using hb
  subst this
  rintro rfl
  obtain ⟨l, hl, e⟩ := List.mem_map.1 ha
  exact h (List.any_eq_true.2 ⟨l, hl, by simpa using e⟩)
end

end Go.Proofs.YtmkdgnmmebldgaaGreat
