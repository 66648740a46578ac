import Derived.Test.YtmkdgnmmebldgaaPn41
namespace Go.Proofs.Ytmkdgnmmebldgaa
open Go.RowKit Go.Deep Go.Maps
theorem nextB_past (ss : List MPiece) (p way pos : Int) : ∀ k, k ≤ ss.length → ∀ (b : Nat) (hb : b < ss.length), nextB ss p way pos k = b → 0 < (ss[b].speed - pos) * way
  | 0, _, b, hb, h => by
    simp only [nextB] at h
    omega
  | k + 1, hk, b, hb, h => by
    have hk' : k < ss.length := by omega
    have ih := nextB_past ss p way pos k (by omega) b hb
    simp only [nextB, List.getElem?_eq_getElem hk'] at h
    split at h
    · exact ih h
    · rename_i h1
      split at h
      · have e : k = b := by omega
        subst e
        have h2 : ¬ (ss[k].speed - pos) * way ≤ 0 := fun q => h1 (Or.inr (Or.inr q))
        omega
      · exact ih h
def Stands (ps : List MPiece) (js : List MJoint) (ss : List MPiece) (i : Nat) (d : MStep) (q : MPath) : Prop :=
  ∃ (stop : Int) (pre : List MStep) (s : MStep) (lies : List MLie) (crosses : List Int) (pos : Int), q = endP i stop (pre ++ [s]) lies crosses ∧ WalkOk ps js ss i pre s lies crosses pos ∧ (pre ++ [s])[0]? = some d ∧
    (stop = -1 ∨ ∃ (b : Nat) (hb : b < ss.length), stop = b ∧ ss[b].len = s.piece ∧ ss[b].brake = s.side ∧ 0 < (ss[b].speed - pos) * s.side)
theorem evs_stand {ps : List MPiece} {js : List MJoint} {ss : List MPiece} (R : Right ps js ss) (d : MStep) : ∀ (n i : Nat) (pre : List MStep) (s : MStep) (lies : List MLie) (crosses : List Int) (pos : Int), WalkOk ps js ss i pre s lies crosses pos → (pre ++ [s])[0]? = some d → ∀ q ∈ evs ps js ss n (pathOf i (pre ++ [s]) lies crosses) pos, q.ended = true → Stands ps js ss i d q
  | 0, _, _, _, _, _, _, _, _, q, hq, _ => absurd hq (by simp [evs])
  | n + 1, i, pre, s, lies, crosses, pos, h, hd, q, hq, he => by
    by_cases hb : 0 ≤ nextB ss s.piece s.side pos ss.length
    · rw [evs_signal hb] at hq
      have hq' : q = endP i (nextB ss s.piece s.side pos ss.length) (pre ++ [s]) lies crosses := by simpa using hq
      rw [hq']
      rcases nextB_range ss s.piece s.side pos ss.length (Nat.le_refl _) with hr | ⟨b, hb2, _, hr, h1, h2⟩
      · omega
      · exact ⟨_, pre, s, lies, crosses, pos, rfl, h, hd, Or.inr ⟨b, hb2, hr, h1, h2, nextB_past ss _ _ _ _ (Nat.le_refl _) b hb2 hr⟩⟩
    · by_cases hr : s ∈ pre
      · rw [evs_round hb hr] at hq
        have hq' : q = pathOf i (pre ++ [s]) lies crosses := by simpa using hq
        rw [hq'] at he
        cases he
      · by_cases hk : kindE js (spotE js (aheadE s)).1 = 1
        · rw [evs_buffer hb hr hk] at hq
          have hq' : q = endP i (-1) (pre ++ [s]) lies crosses := by simpa using hq
          exact ⟨-1, pre, s, lies, crosses, pos, hq', h, hd, Or.inl rfl⟩
        · rw [evs_on hb hr hk] at hq
          rcases List.mem_cons.1 hq with hq | hq
          · rw [hq] at he
            cases he
          · unfold kidsF at hq
            obtain ⟨t, ht, hq⟩ := List.mem_flatMap.1 hq
            obtain ⟨j, k, h1, h2⟩ := R.spot (aheadE_valid h.sv)
            obtain ⟨_, hj, hkk, _⟩ := spotF_some h1
            simp only [Nat.sub_zero] at hj hkk
            rw [h2] at ht hq
            unfold kidF at hq
            cases hov : overP js (pathOf i (pre ++ [s]) lies crosses) j k t with
            | none =>
              rw [hov] at hq
              cases hq
            | some q2 =>
              rw [hov] at hq
              obtain ⟨l2, c2, e2, w2⟩ := h.over R hr hj hkk ht hov
              rw [e2] at hq
              refine evs_stand R d n i _ _ _ _ _ w2 ?_ q hq he
              rw [List.getElem?_append_left (by simp)]
              exact hd
theorem allEvs_stand {ps : List MPiece} {js : List MJoint} {ss : List MPiece} (R : Right ps js ss) : ∀ (m : Nat), m ≤ ss.length → ∀ q ∈ allEvs ps js ss m, q.ended = true → ∃ (i : Nat) (hi : i < ss.length), Stands ps js ss i ⟨ss[i].len, ss[i].brake⟩ q
  | 0, _, q, hq, _ => absurd hq (by simp [allEvs])
  | m + 1, hm, q, hq, he => by
    rw [allEvs_succ (by omega)] at hq
    rcases List.mem_append.1 hq with hq | hq
    · exact allEvs_stand R m (by omega) q hq he
    · exact ⟨m, by omega, evs_stand R _ (depthR ps) m [] ⟨ss[m].len, ss[m].brake⟩ [] [] ss[m].speed (WalkOk.begin R (by omega)) rfl q hq he⟩
theorem fullParts_get (ps : List MPiece) (pos : Int) : ∀ (L : List MStep) (k : Nat) (h : k < L.length), (fullParts ps pos L)[k]? = some (partI L[k].piece (if k = 0 then pos else endAt ps (farE (aheadE L[k]))) (endAt ps (aheadE L[k])))
  | [], k, h => absurd h (Nat.not_lt_zero _)
  | s :: r, 0, h => rfl
  | s :: r, k + 1, h => by
    have h' : k < r.length := by simpa using h
    simp [fullParts, h']
theorem fullParts_length (ps : List MPiece) (pos : Int) (L : List MStep) : (fullParts ps pos L).length = L.length := by
  cases L with
  | nil => rfl
  | cons s r => simp [fullParts]
theorem partsF_at (ps : List MPiece) (ss : List MPiece) (i : Nat) (stop : Int) (pre : List MStep) (s : MStep) (lies : List MLie) (crosses : List Int) : partsF ps ss (endP i stop (pre ++ [s]) lies crosses) =
    fullParts ps (sigAt ss i) pre ++ [partI s.piece (if pre.length = 0 then sigAt ss i else endAt ps (farE (aheadE s))) (if 0 ≤ stop then sigAt ss stop else endAt ps (aheadE s))] := by
  simp [partsF, endP, lastS]
def lenSum (ov : List MPart) (k : Nat) : Int := ((ov.take k).map (fun p => p.hi - p.lo)).sum
theorem lenSum_cons (x : MPart) (ov : List MPart) (k : Nat) : lenSum (x :: ov) (k + 1) = (x.hi - x.lo) + lenSum ov k := by
  unfold lenSum
  rw [List.take_succ_cons, List.map_cons, List.sum_cons]
theorem lenSum_nil (k : Nat) : lenSum [] k = 0 := by simp [lenSum]
theorem ends_of {ps : List MPiece} {s : MStep} {p : Nat} (hp : p < ps.length) (h : s.piece = p) : (s.side = 1 → endAt ps (aheadE s) = ps[p].len ∧ endAt ps (farE (aheadE s)) = 0) ∧ (s.side = -1 → endAt ps (aheadE s) = 0 ∧ endAt ps (farE (aheadE s)) = ps[p].len) := by
  have hl := lenI_at hp
  refine ⟨fun e => ?_, fun e => ?_⟩
  · simp [aheadE, e, farE, endAt, h, hl]
  · simp [aheadE, e, farE, endAt, h, hl]
theorem behind_sum {ps : List MPiece} {js : List MJoint} {ss : List MPiece} (R : Right ps js ss) : ∀ (n : Nat) (s : MStep) (pos left : Int), ValidS ps s → 0 ≤ (endAt ps (aheadE s) - pos) * s.side → 0 ≤ left → ∀ k, 0 ≤ lenSum (behindF ps js n s pos left) k ∧ lenSum (behindF ps js n s pos left) k ≤ left
  | 0, s, pos, left, _, _, h0, k => by
    simp only [behindF, lenSum_nil]
    omega
  | n + 1, s, pos, left, hv, hd, h0, k => by
    simp only [behindF]
    by_cases hl : left ≤ 0
    · rw [if_pos hl, lenSum_nil]
      omega
    · rw [if_neg hl]
      cases k with
      | zero =>
        simp [lenSum]
        omega
      | succ k =>
        rw [lenSum_cons]
        have hx : (partI s.piece pos (pos + min left ((endAt ps (aheadE s) - pos) * s.side) * s.side)).hi - (partI s.piece pos (pos + min left ((endAt ps (aheadE s) - pos) * s.side) * s.side)).lo = min left ((endAt ps (aheadE s) - pos) * s.side) := by
          generalize (endAt ps (aheadE s) - pos) * s.side = D at hd
          obtain ⟨_, _, _, hs⟩ := hv
          simp only [partI]
          rcases hs with hs | hs
          · rw [hs, Int.mul_one]; omega
          · rw [hs, Int.mul_neg, Int.mul_one]; omega
        rw [hx]
        generalize hD : (endAt ps (aheadE s) - pos) * s.side = D at hd
        by_cases hk : kindE js (spotE js (aheadE s)).1 = 2
        · rw [if_pos hk]
          have hve := R.across (aheadE_valid hv) (t := 1 - (spotE js (aheadE s)).2) (by rw [hk]; simp [beyondF])
          generalize endE js (spotE js (aheadE s)).1 (1 - (spotE js (aheadE s)).2) = e at hve
          have hs' := stepFromE_valid hve
          have ih := behind_sum R n (stepFromE e) (endAt ps e) (left - min left D) hs' (by
            obtain ⟨p, hp, e1, e2⟩ := hve
            have hln := R.plen p hp
            have hl := lenI_at hp
            rcases e2 with e2 | e2
            · simp [stepFromE, e2, aheadE, endAt, e1, hl]
              omega
            · simp [stepFromE, e2, aheadE, endAt, e1, hl]
              omega) (by omega) k
          omega
        · rw [if_neg hk, lenSum_nil]
          omega
structure RtParts (ps ss : List MPiece) (over : Int) (r : MRoute) : Prop where
  len : r.parts.length = r.steps.length
  s0 : 0 < r.steps.length
  few : r.steps.length ≤ 202
  start : ∃ (i : Nat) (hi : i < ss.length), r.start = i ∧ (r.steps[0]'s0).piece = ss[i].len ∧ (if (r.steps[0]'s0).side = -1 then (r.parts[0]'(by omega)).hi else (r.parts[0]'(by omega)).lo) = ss[i].speed
  part : ∀ k (h : k < r.steps.length), ∃ (p : Nat) (hp : p < ps.length), r.steps[k].piece = p ∧ (r.parts[k]'(by omega)).piece = p ∧ 0 ≤ (r.parts[k]'(by omega)).lo ∧ (r.parts[k]'(by omega)).lo ≤ (r.parts[k]'(by omega)).hi ∧ (r.parts[k]'(by omega)).hi ≤ ps[p].len ∧ ps[p].len ≤ 10000000 ∧ (0 < k → k + 1 < r.steps.length → (r.parts[k]'(by omega)).hi - (r.parts[k]'(by omega)).lo = ps[p].len)
  stop : r.stop = -1 ∨ ∃ (b : Nat) (hb : b < ss.length), r.stop = b ∧ (if (r.steps[r.steps.length - 1]'(by omega)).side = -1 then (r.parts[r.steps.length - 1]'(by omega)).lo else (r.parts[r.steps.length - 1]'(by omega)).hi) = ss[b].speed ∧ (r.steps[r.steps.length - 1]'(by omega)).piece = ss[b].len ∧ (r.steps[r.steps.length - 1]'(by omega)).side = ss[b].brake
  sum : ∀ k, k ≤ r.over.length → 0 ≤ lenSum r.over k ∧ lenSum r.over k ≤ over
  over0 : r.stop < 0 → r.over = []
  fl : ∀ l ∈ r.lies, ∃ f ∈ r.flanks, f.place = l.piece
theorem route_parts {ps : List MPiece} {js : List MJoint} {ss : List MPiece} (R : Right ps js ss) {over : Int} (ho : 0 ≤ over) {i : Nat} (hi : i < ss.length) {q : MPath} (h : Stands ps js ss i ⟨ss[i].len, ss[i].brake⟩ q) : RtParts ps ss over (routeF ps js ss over q) := by
  obtain ⟨stop, pre, s, lies, crosses, pos, rfl, ok, hd, hst⟩ := h
  have hparts : (routeF ps js ss over (endP i stop (pre ++ [s]) lies crosses)).parts = fullParts ps (sigAt ss i) pre ++ [partI s.piece (if pre.length = 0 then sigAt ss i else endAt ps (farE (aheadE s))) (if 0 ≤ stop then sigAt ss stop else endAt ps (aheadE s))] := partsF_at ps ss i stop pre s lies crosses
  have hsteps : (routeF ps js ss over (endP i stop (pre ++ [s]) lies crosses)).steps = pre ++ [s] := rfl
  have hsl : (pre ++ [s]).length = pre.length + 1 := by simp
  have hlen : (routeF ps js ss over (endP i stop (pre ++ [s]) lies crosses)).parts.length = (routeF ps js ss over (endP i stop (pre ++ [s]) lies crosses)).steps.length := by
    rw [hparts, hsteps, hsl]
    simp [fullParts_length]
  have hfew := ok.few
  have hnp := R.np
  have hget : ∀ k (hk : k < (pre ++ [s]).length), (routeF ps js ss over (endP i stop (pre ++ [s]) lies crosses)).parts[k]'(by rw [hlen]; exact hk) = partI (pre ++ [s])[k].piece (if k = 0 then sigAt ss i else endAt ps (farE (aheadE (pre ++ [s])[k]))) (if k = pre.length ∧ 0 ≤ stop then sigAt ss stop else endAt ps (aheadE (pre ++ [s])[k])) := by
    intro k hk
    refine Option.some.inj ?_
    rw [← List.getElem?_eq_getElem, hparts]
    by_cases h1 : k < pre.length
    · rw [List.getElem?_append_left (by rw [fullParts_length]; exact h1), fullParts_get ps _ pre k h1, List.getElem_append_left h1, if_neg (show ¬ (k = pre.length ∧ 0 ≤ stop) by omega)]
    · have h2 : k = pre.length := by omega
      subst h2
      rw [List.getElem?_append_right (by rw [fullParts_length]; exact Nat.le_refl _), fullParts_length]
      simp
  have hval : ∀ k (hk : k < (pre ++ [s]).length), ∃ (p : Nat) (hp : p < ps.length), (pre ++ [s])[k].piece = p ∧ ((pre ++ [s])[k].side = 1 ∨ (pre ++ [s])[k].side = -1) := by
    intro k hk
    have : ValidS ps (pre ++ [s])[k] := by
      rcases List.mem_append.1 (List.getElem_mem hk) with hx | hx
      · exact ok.pv _ hx
      · have : (pre ++ [s])[k] = s := by simpa using hx
        rw [this]; exact ok.sv
    obtain ⟨p, hp, e1, e2⟩ := this
    exact ⟨p, hp, e1, e2⟩
  have h0 : (pre ++ [s])[0]'(by omega) = ⟨ss[i].len, ss[i].brake⟩ := by
    rw [List.getElem?_eq_getElem (by omega)] at hd
    exact Option.some.inj hd
  have hsi := sigAt_at hi
  obtain ⟨pi, hpi, si1, si2, si3, si4⟩ := R.sig i hi
  have hl : (pre ++ [s])[pre.length]'(by omega) = s := by simp
  have hstop : ∀ b : Nat, ∀ hb : b < ss.length, stop = b → sigAt ss stop = ss[b].speed := fun b hb e => by rw [e]; exact sigAt_at hb
  refine ⟨hlen, by rw [hsteps, hsl]; omega, by rw [hsteps, hsl]; omega, ?_, ?_, ?_, ?_, ?_, ?_⟩
  · refine ⟨i, hi, rfl, by simp only [hsteps, h0], ?_⟩
    show (if ((pre ++ [s])[0]'(by omega)).side = -1 then _ else _) = _
    have hB : (ss[i].brake = 1 → ss[i].speed ≤ (if 0 = pre.length ∧ 0 ≤ stop then sigAt ss stop else endAt ps (aheadE ⟨ss[i].len, ss[i].brake⟩))) ∧ (ss[i].brake = -1 → (if 0 = pre.length ∧ 0 ≤ stop then sigAt ss stop else endAt ps (aheadE ⟨ss[i].len, ss[i].brake⟩)) ≤ ss[i].speed) := by
      by_cases hc : 0 = pre.length ∧ 0 ≤ stop
      · rw [if_pos hc]
        have hs0 : s.side = ss[i].brake := by
          have h : (pre ++ [s])[0]? = some s := by rw [List.length_eq_zero_iff.1 hc.1.symm]; rfl
          rw [hd] at h
          rw [← Option.some.inj h]
        have hpl := ok.place
        rw [if_pos hc.1.symm, hsi] at hpl
        rcases hst with hst | ⟨b, hb, e, _, _, e3⟩
        · omega
        · rw [hstop b hb e]
          rw [hs0, hpl] at e3
          refine ⟨fun q => ?_, fun q => ?_⟩
          · rw [q, Int.mul_one] at e3; omega
          · rw [q, Int.mul_neg, Int.mul_one] at e3; omega
      · rw [if_neg hc]
        have he := ends_of (s := ⟨ss[i].len, ss[i].brake⟩) hpi si1
        refine ⟨fun q => ?_, fun q => ?_⟩
        · rw [(he.1 q).1]; omega
        · rw [(he.2 q).1]; omega
    rw [h0, hget 0 (by omega), h0, if_pos rfl, hsi]
    generalize (if 0 = pre.length ∧ 0 ≤ stop then sigAt ss stop else endAt ps (aheadE ⟨ss[i].len, ss[i].brake⟩)) = B at hB
    simp only [partI]
    rcases si2 with q | q
    · have := hB.1 q
      rw [if_neg (by omega)]
      omega
    · have := hB.2 q
      rw [if_pos q]
      omega
  · intro k hk'
    have hk : k < (pre ++ [s]).length := hk'
    obtain ⟨p, hp, e1, e2⟩ := hval k hk
    have hr : 0 ≤ (if k = 0 then sigAt ss i else endAt ps (farE (aheadE (pre ++ [s])[k]))) ∧ (if k = 0 then sigAt ss i else endAt ps (farE (aheadE (pre ++ [s])[k]))) ≤ ps[p].len ∧ 0 ≤ (if k = pre.length ∧ 0 ≤ stop then sigAt ss stop else endAt ps (aheadE (pre ++ [s])[k])) ∧ (if k = pre.length ∧ 0 ≤ stop then sigAt ss stop else endAt ps (aheadE (pre ++ [s])[k])) ≤ ps[p].len := by
      have he := ends_of hp e1
      have hln := R.plen p hp
      have hE : 0 ≤ endAt ps (farE (aheadE (pre ++ [s])[k])) ∧ endAt ps (farE (aheadE (pre ++ [s])[k])) ≤ ps[p].len ∧ 0 ≤ endAt ps (aheadE (pre ++ [s])[k]) ∧ endAt ps (aheadE (pre ++ [s])[k]) ≤ ps[p].len := by
        rcases e2 with q | q
        · rw [(he.1 q).1, (he.1 q).2]; omega
        · rw [(he.2 q).1, (he.2 q).2]; omega
      have hA : k = 0 → 0 ≤ sigAt ss i ∧ sigAt ss i ≤ ps[p].len := fun q => by
        subst q
        rw [h0] at e1
        have : pi = p := by
          have := si1.symm.trans e1
          omega
        subst this
        rw [hsi]; omega
      have hB : k = pre.length ∧ 0 ≤ stop → 0 ≤ sigAt ss stop ∧ sigAt ss stop ≤ ps[p].len := fun q => by
        obtain ⟨q1, q2⟩ := q
        subst q1
        rw [hl] at e1
        rcases hst with hst | ⟨b, hb, e, f1, _, _⟩
        · omega
        · rw [hstop b hb e]
          obtain ⟨p', hp', g1, _, g3, g4⟩ := R.sig b hb
          have : p' = p := by
            have := (g1.symm.trans f1).trans e1
            omega
          subst this
          omega
      refine ⟨?_, ?_, ?_, ?_⟩
      · split
        · rename_i q; exact (hA q).1
        · exact hE.1
      · split
        · rename_i q; exact (hA q).2
        · exact hE.2.1
      · split
        · rename_i q; exact (hB q).1
        · exact hE.2.2.1
      · split
        · rename_i q; exact (hB q).2
        · exact hE.2.2.2
    refine ⟨p, hp, e1, ?_, ?_, ?_, ?_, (R.plen p hp).2, ?_⟩
    · rw [hget k hk]; exact e1
    · rw [hget k hk]; simp only [partI]; omega
    · rw [hget k hk]; simp only [partI]; omega
    · rw [hget k hk]; simp only [partI]; omega
    · intro h1 h2
      rw [hsteps, hsl] at h2
      rw [hget k hk, if_neg (by omega), if_neg (by omega)]
      have he := ends_of hp e1
      have hln := R.plen p hp
      simp only [partI]
      rcases e2 with q | q
      · rw [(he.1 q).1, (he.1 q).2]; omega
      · rw [(he.2 q).1, (he.2 q).2]; omega
  · rcases hst with hst | ⟨b, hb, e, f1, f2, f3⟩
    · exact Or.inl hst
    · refine Or.inr ⟨b, hb, e, ?_⟩
      have hm : (routeF ps js ss over (endP i stop (pre ++ [s]) lies crosses)).steps.length - 1 = pre.length := by rw [hsteps, hsl]; omega
      simp only [hm]
      have hl' : (routeF ps js ss over (endP i stop (pre ++ [s]) lies crosses)).steps[pre.length]'(by rw [hsteps]; omega) = s := hl
      rw [hl', hget pre.length (by omega), hl, ← ok.place, if_pos (show pre.length = pre.length ∧ 0 ≤ stop from ⟨rfl, by omega⟩), hstop b hb e]
      refine ⟨?_, f1.symm, f2.symm⟩
      obtain ⟨_, _, _, hsd⟩ := ok.sv
      simp only [partI]
      rcases hsd with q | q
      · rw [q, Int.mul_one] at f3
        rw [if_neg (by omega)]
        omega
      · rw [q, Int.mul_neg, Int.mul_one] at f3
        rw [if_pos q]
        omega
  · intro k _
    show 0 ≤ lenSum (overF ps js ss stop over) k ∧ lenSum (overF ps js ss stop over) k ≤ over
    unfold overF
    split
    · rw [lenSum_nil]; omega
    · split
      · rw [lenSum_nil]; omega
      · rename_i x hx
        obtain ⟨hb, rfl⟩ := List.getElem?_eq_some_iff.1 hx
        obtain ⟨p, hp, e1, e2, e3, e4⟩ := R.sig _ hb
        refine behind_sum R _ _ _ _ ⟨p, hp, e1, e2⟩ ?_ ho k
        have hln := lenI_at hp
        rcases e2 with e2 | e2
        · simp [aheadE, e2, endAt, e1, hln]; omega
        · simp [aheadE, e2, endAt]; omega
  · intro hs
    show overF ps js ss stop over = []
    unfold overF
    exact if_pos (show stop < 0 from hs)
  · exact flanksF_some R lies lies ok.lv
theorem routesF_parts (ps : List MPiece) (js : List MJoint) (ss : List MPiece) (over : Int) : ∀ r ∈ routesF ps js ss over, RtParts ps ss over r := by
  intro r hr
  unfold routesF at hr
  split at hr
  · rename_i hc
    have R : Right ps js ss := right_of hc.1
    obtain ⟨q, hq, rfl⟩ := List.mem_map.1 hr
    unfold endedL at hq
    obtain ⟨h1, h2⟩ := List.mem_filter.1 hq
    obtain ⟨i, hi, hs⟩ := allEvs_stand R ss.length (Nat.le_refl _) q h1 h2
    exact route_parts R hc.2.1 hi hs
  · cases hr
end Go.Proofs.Ytmkdgnmmebldgaa
