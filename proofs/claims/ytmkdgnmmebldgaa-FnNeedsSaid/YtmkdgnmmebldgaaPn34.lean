import Derived.Test.YtmkdgnmmebldgaaPn17
import Derived.Test.YtmkdgnmmebldgaaPn11
import Derived.Test.YtmkdgnmmebldgaaPn33
import Derived.Test.YtmkdgnmmebldgaaPn20
namespace Go.Proofs.Ytmkdgnmmebldgaa
open Go.RowKit
def Fits (t m : Nat) (E : List MPath) : Prop := t + E.length ≤ 20000 ∧ m + (endedL E).length ≤ 300
structure Went (mk : MPath → MRoute) (t : Nat) (rs : List MRoute) (E : List MPath) (t' : Nat) (rs' : List MRoute) : Prop where
  le : t ≤ t'
  ge : rs.length ≤ rs'.length
  fit : Fits t rs.length E → t' = t + E.length ∧ rs' = rs ++ (endedL E).map mk
  past : ¬ Fits t rs.length E → 20000 < t' ∨ 300 < rs'.length
theorem endedL_app (A B : List MPath) : endedL (A ++ B) = endedL A ++ endedL B := by simp [endedL]
theorem Went.nil {mk : MPath → MRoute} {t : Nat} {rs : List MRoute} (h : t ≤ 20000) (hr : rs.length ≤ 300) : Went mk t rs [] t rs :=
  ⟨Nat.le_refl _, Nat.le_refl _, fun _ => by simp [endedL], fun h2 => absurd ⟨by simpa using h, by simpa [endedL] using hr⟩ h2⟩
theorem Went.stay {mk : MPath → MRoute} {t : Nat} {rs : List MRoute} : Went mk t rs [] t rs :=
  ⟨Nat.le_refl _, Nat.le_refl _, fun _ => by simp [endedL], fun h2 => by
    by_cases h1 : 20000 < t
    · exact Or.inl h1
    · refine Or.inr ?_
      refine Nat.lt_of_not_le (fun h3 => h2 ⟨by simp; omega, by simpa [endedL] using h3⟩)⟩
theorem Went.app {mk : MPath → MRoute} {t t1 t2 : Nat} {rs rs1 rs2 : List MRoute} {A B : List MPath} (h : Went mk t rs A t1 rs1) (k : Went mk t1 rs1 B t2 rs2) : Went mk t rs (A ++ B) t2 rs2 := by
  refine ⟨Nat.le_trans h.le k.le, Nat.le_trans h.ge k.ge, ?_, ?_⟩
  · rintro ⟨f1, f2⟩
    rw [List.length_append] at f1
    rw [endedL_app, List.length_append] at f2
    obtain ⟨e1, e2⟩ := h.fit ⟨by omega, by omega⟩
    have hl : rs1.length = rs.length + (endedL A).length := by rw [e2]; simp
    obtain ⟨e3, e4⟩ := k.fit ⟨by omega, by omega⟩
    refine ⟨by rw [List.length_append]; omega, ?_⟩
    rw [e4, e2, endedL_app, List.map_append, List.append_assoc]
  · intro hn
    by_cases f : Fits t rs.length A
    · obtain ⟨e1, e2⟩ := h.fit f
      have hl : rs1.length = rs.length + (endedL A).length := by rw [e2]; simp
      refine k.past (fun g => hn ?_)
      obtain ⟨g1, g2⟩ := g
      refine ⟨by rw [List.length_append]; omega, ?_⟩
      rw [endedL_app, List.length_append]
      omega
    · have h1 := h.le
      have h2 := k.le
      have h3 := k.ge
      rcases h.past f with h4 | h4
      · exact Or.inl (by omega)
      · exact Or.inr (by omega)
theorem Went.one {mk : MPath → MRoute} {t : Nat} {rs : List MRoute} {p : MPath} (hp : p.ended = false) : Went mk t rs [p] (t + 1) rs := by
  have e : endedL [p] = [] := by simp [endedL, hp]
  refine ⟨by omega, Nat.le_refl _, fun _ => by simp [e], fun h => ?_⟩
  by_cases h1 : 20000 < t + 1
  · exact Or.inl h1
  · refine Or.inr (Nat.lt_of_not_le (fun h3 => h ⟨by simp; omega, by rw [e]; simpa using h3⟩))
theorem Went.made {mk : MPath → MRoute} {t : Nat} {rs : List MRoute} {p : MPath} {r : MRoute} (hp : p.ended = true) (ht : t + 1 ≤ 20000) (hr : r = mk p) : Went mk t rs [p] (t + 1) (rs ++ [r]) := by
  have e : endedL [p] = [p] := by simp [endedL, hp]
  subst hr
  refine ⟨by omega, by simp, fun _ => by simp [e], fun h => ?_⟩
  refine Or.inr (Nat.lt_of_not_le (fun h3 => h ⟨by simpa using ht, by rw [e]; simpa using h3⟩))
theorem Went.out {mk : MPath → MRoute} {t : Nat} {rs : List MRoute} {p : MPath} {E : List MPath} (h : 20000 < t + 1 ∨ 300 < rs.length) : Went mk t rs (p :: E) (t + 1) rs := by
  refine ⟨by omega, Nat.le_refl _, ?_, fun _ => h⟩
  rintro ⟨f1, f2⟩
  rw [List.length_cons] at f1
  omega
structure WalkOk (ps : List MPiece) (js : List MJoint) (ss : List MPiece) (i : Nat) (pre : List MStep) (s : MStep) (lies : List MLie) (crosses : List Int) (pos : Int) : Prop where
  start : i < ss.length
  sv : ValidS ps s
  pv : ∀ x ∈ pre, ValidS ps x
  nd : pre.Nodup
  lv : ∀ l ∈ lies, ∃ (j : Nat) (hj : j < js.length), l.piece = j ∧ js[j].kind = 3 ∧ (l.side = 1 ∨ l.side = 2)
  ld : (lies.map MEnd.piece).Nodup
  cl : crosses.length ≤ pre.length
  place : pos = if pre.length = 0 then sigAt ss i else endAt ps (farE (aheadE s))
  p0 : 0 ≤ pos
  p1 : pos ≤ lenI ps s.piece
theorem aheadE_inj {ps : List MPiece} {a b : MStep} (ha : ValidS ps a) (hb : ValidS ps b) (h : aheadE a = aheadE b) : a = b := by
  obtain ⟨p, hp, e1, e2⟩ := ha
  obtain ⟨q, hq, f1, f2⟩ := hb
  cases a
  cases b
  simp only at e1 e2 f1 f2
  subst e1 f1
  rcases e2 with rfl | rfl <;> rcases f2 with rfl | rfl <;> simp [aheadE] at h ⊢ <;> omega
theorem steps_few {ps : List MPiece} {L : List MStep} (hd : L.Nodup) (hv : ∀ x ∈ L, ValidS ps x) : L.length ≤ 2 * ps.length := by
  have h : Seen ps (L.map aheadE) := by
    refine ⟨?_, ?_⟩
    · unfold List.Nodup
      rw [List.pairwise_map]
      exact List.Pairwise.imp_of_mem (fun ha hb hne e => hne (aheadE_inj (hv _ ha) (hv _ hb) e)) hd
    · intro e he
      obtain ⟨x, hx, rfl⟩ := List.mem_map.1 he
      exact aheadE_valid (hv x hx)
  simpa using h.few
theorem lies_few {js : List MJoint} {lies : List MLie} (hl : ∀ l ∈ lies, ∃ (j : Nat) (hj : j < js.length), l.piece = j ∧ js[j].kind = 3 ∧ (l.side = 1 ∨ l.side = 2)) (hd : (lies.map MEnd.piece).Nodup) : lies.length ≤ js.length := by
  have h1 : (lies.map (fun l => l.piece.toNat)).Nodup := by
    unfold List.Nodup at hd ⊢
    rw [List.pairwise_map] at hd ⊢
    refine List.Pairwise.imp_of_mem (fun ha hb hne e => hne ?_) hd
    obtain ⟨j, _, e1, _⟩ := hl _ ha
    obtain ⟨k, _, e2, _⟩ := hl _ hb
    rw [e1, e2] at e ⊢
    rw [Int.toNat_natCast, Int.toNat_natCast] at e
    rw [e]
  have := nats_few js.length h1 (fun x hx => by
    obtain ⟨l, hl', rfl⟩ := List.mem_map.1 hx
    obtain ⟨j, hj, e1, _⟩ := hl l hl'
    rw [e1]
    simpa using hj)
  simpa using this
theorem lies_like : ∀ {lies : List MLie}, (lies.map MEnd.piece).Nodup → ∀ a ∈ lies, ∀ b ∈ lies, a.piece = b.piece → a.side = b.side
  | [], _ => fun a ha => absurd ha (by simp)
  | x :: r, hd => by
    rw [List.map_cons, List.nodup_cons] at hd
    intro a ha b hb e
    rcases List.mem_cons.1 ha with ha' | ha' <;> rcases List.mem_cons.1 hb with hb' | hb'
    · rw [ha', hb']
    · exact absurd (List.mem_map.2 ⟨b, hb', by rw [← e, ha']⟩) hd.1
    · exact absurd (List.mem_map.2 ⟨a, ha', by rw [e, hb']⟩) hd.1
    · exact lies_like hd.2 a ha' b hb' e
theorem fullParts_snoc (ps : List MPiece) (a : Int) (pre : List MStep) (s : MStep) : fullParts ps a (pre ++ [s]) = fullParts ps a pre ++ [partI s.piece (if pre.length = 0 then a else endAt ps (farE (aheadE s))) (endAt ps (aheadE s))] := by
  cases pre with
  | nil => rfl
  | cons x r => simp [fullParts]
theorem fullParts_len (ps : List MPiece) (a : Int) (pre : List MStep) : (fullParts ps a pre).length = pre.length := by
  cases pre with
  | nil => rfl
  | cons x r => simp [fullParts]
theorem specPart_farI {ps : List MPiece} {p way a b : Int} (hw : way = 1 ∨ way = -1) (h : (a - b) * way ≤ 0) : specPart ps p way (farI ps p a way) (farI ps p b way) = partI p a b := by
  rcases hw with rfl | rfl
  · simp only [specPart, farI, partI, if_true]
    rw [if_neg (by omega), Int.min_eq_left (by omega), Int.max_eq_right (by omega)]
  · simp only [specPart, farI, partI]
    rw [if_pos trivial, if_neg (by omega), if_neg (by omega), Int.min_eq_right (by omega), Int.max_eq_left (by omega)]
    congr 1 <;> omega
theorem farI_end {ps : List MPiece} {p : Nat} {way : Int} (hp : p < ps.length) (hw : way = 1 ∨ way = -1) : farI ps p (endAt ps (aheadE ⟨p, way⟩)) way = ps[p].len := by
  rcases hw with rfl | rfl
  · simp [farI, endAt, aheadE, lenI_at hp]
  · simp [farI, endAt, aheadE, lenI_at hp]
theorem farI_begin {ps : List MPiece} {e : MEnd} (h : ValidE ps e) : farI ps (stepFromE e).piece (endAt ps e) (stepFromE e).side = 0 ∧ endAt ps (farE (aheadE (stepFromE e))) = endAt ps e := by
  obtain ⟨p, hp, e1, e2⟩ := h
  cases e
  simp only at e1 e2
  subst e1
  rcases e2 with rfl | rfl <;> simp [farI, endAt, aheadE, farE, stepFromE]
theorem endAt_range {ps : List MPiece} {js : List MJoint} {ss : List MPiece} (R : Right ps js ss) {e : MEnd} (h : ValidE ps e) : 0 ≤ endAt ps e ∧ endAt ps e ≤ lenI ps e.piece := by
  obtain ⟨p, hp, e1, e2⟩ := h
  have := R.plen p hp
  have h1 := lenI_at hp
  unfold endAt
  rw [e1, h1]
  split <;> omega
theorem stepFromE_piece (e : MEnd) : (stepFromE e).piece = e.piece := by
  unfold stepFromE
  split <;> rfl
theorem WalkOk.next {ps : List MPiece} {js : List MJoint} {ss : List MPiece} (R : Right ps js ss) {i : Nat} {pre : List MStep} {s : MStep} {lies lies' : List MLie} {crosses crosses' : List Int} {pos : Int} (h : WalkOk ps js ss i pre s lies crosses pos) (hr : s ∉ pre)
    {e : MEnd} (he : ValidE ps e) (hl : ∀ l ∈ lies', ∃ (j : Nat) (hj : j < js.length), l.piece = j ∧ js[j].kind = 3 ∧ (l.side = 1 ∨ l.side = 2)) (hd : (lies'.map MEnd.piece).Nodup) (hc : crosses'.length ≤ pre.length + 1) :
    WalkOk ps js ss i (pre ++ [s]) (stepFromE e) lies' crosses' (endAt ps e) := by
  refine ⟨h.start, stepFromE_valid he, ?_, ?_, hl, hd, by simpa using hc, ?_, (endAt_range R he).1, by rw [stepFromE_piece]; exact (endAt_range R he).2⟩
  · intro x hx
    rcases List.mem_append.1 hx with hx | hx
    · exact h.pv x hx
    · have : x = s := by simpa using hx
      rw [this]; exact h.sv
  · refine List.nodup_append.2 ⟨h.nd, by simp, ?_⟩
    intro a ha b hb
    have : b = s := by simpa using hb
    subst this
    rintro rfl
    exact hr ha
  · rw [if_neg (by simp), (farI_begin he).2]
theorem WalkOk.few {ps : List MPiece} {js : List MJoint} {ss : List MPiece} {i : Nat} {pre : List MStep} {s : MStep} {lies : List MLie} {crosses : List Int} {pos : Int} (h : WalkOk ps js ss i pre s lies crosses pos) : pre.length ≤ 2 * ps.length := steps_few h.nd h.pv
theorem WalkOk.begin {ps : List MPiece} {js : List MJoint} {ss : List MPiece} (R : Right ps js ss) {i : Nat} (hi : i < ss.length) : WalkOk ps js ss i [] ⟨ss[i].len, ss[i].brake⟩ [] [] ss[i].speed := by
  obtain ⟨p, hp, e1, e2, e3, e4⟩ := R.sig i hi
  refine ⟨hi, ⟨p, hp, e1, e2⟩, by simp, by simp, by simp, by simp, by simp, ?_, by omega, ?_⟩
  · rw [if_pos (by simp), sigAt_at hi]
  · show ss[i].speed ≤ lenI ps ss[i].len
    rw [e1, lenI_at hp]
    omega
def pathOf (i : Nat) (L : List MStep) (lies : List MLie) (crosses : List Int) : MPath := ⟨i, 0, false, L, lies, crosses⟩
def endP (i : Nat) (stop : Int) (L : List MStep) (lies : List MLie) (crosses : List Int) : MPath := ⟨i, stop, true, L, lies, crosses⟩
def kidF (ps : List MPiece) (js : List MJoint) (ss : List MPiece) (n : Nat) (p : MPath) (j k t : Nat) : List MPath :=
  match overP js p j k t with
  | none => []
  | some q => evs ps js ss n q (endAt ps (endE js j t))
def kidsF (ps : List MPiece) (js : List MJoint) (ss : List MPiece) (n : Nat) (p : MPath) (j k : Nat) (L : List Nat) : List MPath := L.flatMap (kidF ps js ss n p j k)
theorem kidsF_snoc (ps : List MPiece) (js : List MJoint) (ss : List MPiece) (n : Nat) (p : MPath) (j k : Nat) (L : List Nat) (t : Nat) : kidsF ps js ss n p j k (L ++ [t]) = kidsF ps js ss n p j k L ++ kidF ps js ss n p j k t := by
  simp [kidsF]
theorem sameS_iff {a b : MStep} : sameS a b = true ↔ a = b := by
  cases a
  cases b
  simp [sameS]
theorem lastS_snoc (i : Nat) (pre : List MStep) (s : MStep) (lies : List MLie) (crosses : List Int) : lastS (pathOf i (pre ++ [s]) lies crosses) = s := by simp [lastS, pathOf]
theorem roundB_snoc (i : Nat) (pre : List MStep) (s : MStep) (lies : List MLie) (crosses : List Int) : roundB (pathOf i (pre ++ [s]) lies crosses) = true ↔ s ∈ pre := by
  unfold roundB
  rw [lastS_snoc]
  show ((pre ++ [s]).dropLast.any fun x => sameS x s) = true ↔ s ∈ pre
  rw [List.dropLast_concat, List.any_eq_true]
  constructor
  · rintro ⟨x, hx, h⟩
    rw [← sameS_iff.1 h]; exact hx
  · intro h
    exact ⟨s, h, sameS_iff.2 rfl⟩
section
variable {ps : List MPiece} {js : List MJoint} {ss : List MPiece} {n i : Nat} {pre : List MStep} {s : MStep} {lies : List MLie} {crosses : List Int} {pos : Int}
theorem evs_signal (h : 0 ≤ nextB ss s.piece s.side pos ss.length) : evs ps js ss (n + 1) (pathOf i (pre ++ [s]) lies crosses) pos = [endP i (nextB ss s.piece s.side pos ss.length) (pre ++ [s]) lies crosses] := by
  unfold evs stopP
  rw [lastS_snoc, if_pos h]
  simp [pathOf, endP]
theorem evs_round (h : ¬ 0 ≤ nextB ss s.piece s.side pos ss.length) (hr : s ∈ pre) : evs ps js ss (n + 1) (pathOf i (pre ++ [s]) lies crosses) pos = [pathOf i (pre ++ [s]) lies crosses] := by
  have hb := (roundB_snoc i pre s lies crosses).2 hr
  unfold evs stopP
  rw [lastS_snoc, if_neg h, hb]
  simp [pathOf]
theorem evs_buffer (h : ¬ 0 ≤ nextB ss s.piece s.side pos ss.length) (hr : s ∉ pre) (hk : kindE js (spotE js (aheadE s)).1 = 1) : evs ps js ss (n + 1) (pathOf i (pre ++ [s]) lies crosses) pos = [endP i (-1) (pre ++ [s]) lies crosses] := by
  have hb : roundB (pathOf i (pre ++ [s]) lies crosses) = false := by
    cases e : roundB (pathOf i (pre ++ [s]) lies crosses) with
    | false => rfl
    | true => exact absurd ((roundB_snoc i pre s lies crosses).1 e) hr
  unfold evs stopP
  rw [lastS_snoc, if_neg h, hb, hk]
  simp [pathOf, endP]
theorem evs_on (h : ¬ 0 ≤ nextB ss s.piece s.side pos ss.length) (hr : s ∉ pre) (hk : kindE js (spotE js (aheadE s)).1 ≠ 1) : evs ps js ss (n + 1) (pathOf i (pre ++ [s]) lies crosses) pos = pathOf i (pre ++ [s]) lies crosses :: kidsF ps js ss n (pathOf i (pre ++ [s]) lies crosses) (spotE js (aheadE s)).1 (spotE js (aheadE s)).2 (beyondF (kindE js (spotE js (aheadE s)).1) (spotE js (aheadE s)).2) := by
  have hb : roundB (pathOf i (pre ++ [s]) lies crosses) = false := by
    cases e : roundB (pathOf i (pre ++ [s]) lies crosses) with
    | false => rfl
    | true => exact absurd ((roundB_snoc i pre s lies crosses).1 e) hr
  have hst : stopP js ss (pathOf i (pre ++ [s]) lies crosses) pos = pathOf i (pre ++ [s]) lies crosses := by
    unfold stopP
    rw [lastS_snoc, if_neg h, if_neg (fun e => hk e.1)]
    rfl
  have hst2 : (pathOf i (pre ++ [s]) lies crosses).ended = false := rfl
  rw [evs, hst, lastS_snoc, hb, hst2, if_neg (by simp)]
  rfl
theorem evs_ne (m : Nat) (p : MPath) : ∃ q E, evs ps js ss (m + 1) p pos = q :: E := ⟨_, _, rfl⟩
theorem over_plain {j k t : Nat} {L : List MStep} (h : kindE js j = 2) : overP js (pathOf i L lies crosses) j k t = some (pathOf i (L ++ [stepFromE (endE js j t)]) lies crosses) := by
  unfold overP
  rw [h]
  simp [pathOf]
theorem over_cross {j k t : Nat} {L : List MStep} (h : kindE js j = 4) : overP js (pathOf i L lies crosses) j k t = some (pathOf i (L ++ [stepFromE (endE js j t)]) lies (crosses ++ [(j : Int)])) := by
  unfold overP
  rw [h]
  simp [pathOf]
theorem over_same {j k t : Nat} {L : List MStep} (h : kindE js j = 3) (hl : lieF lies j = (max k t : Nat)) (hz : lieF lies j ≠ 0) : overP js (pathOf i L lies crosses) j k t = some (pathOf i (L ++ [stepFromE (endE js j t)]) lies crosses) := by
  show (if kindE js j = 4 then _ else if kindE js j = 3 then (if lieF lies j ≠ 0 then (if lieF lies j = (max k t : Nat) then _ else _) else _) else _) = _
  rw [if_neg (by omega), if_pos h, if_pos hz, if_pos hl]
  rfl
theorem over_other {j k t : Nat} {L : List MStep} (h : kindE js j = 3) (hl : lieF lies j ≠ (max k t : Nat)) (hz : lieF lies j ≠ 0) : overP js (pathOf i L lies crosses) j k t = none := by
  show (if kindE js j = 4 then _ else if kindE js j = 3 then (if lieF lies j ≠ 0 then (if lieF lies j = (max k t : Nat) then _ else _) else _) else _) = _
  rw [if_neg (by omega), if_pos h, if_pos hz, if_neg hl]
theorem over_new {j k t : Nat} {L : List MStep} (h : kindE js j = 3) (hz : lieF lies j = 0) : overP js (pathOf i L lies crosses) j k t = some (pathOf i (L ++ [stepFromE (endE js j t)]) (lies ++ [⟨j, (max k t : Nat)⟩]) crosses) := by
  show (if kindE js j = 4 then _ else if kindE js j = 3 then (if lieF lies j ≠ 0 then (if lieF lies j = (max k t : Nat) then _ else _) else _) else _) = _
  rw [if_neg (by omega), if_pos h, if_neg (fun e => e hz)]
  rfl
theorem partsF_end {stop : Int} (h : WalkOk ps js ss i pre s lies crosses pos) : partsF ps ss (endP i stop (pre ++ [s]) lies crosses) = fullParts ps (sigAt ss i) pre ++ [partI s.piece pos (if 0 ≤ stop then sigAt ss stop else endAt ps (aheadE s))] := by
  unfold partsF
  have h1 : lastS (endP i stop (pre ++ [s]) lies crosses) = s := by simp [lastS, endP]
  rw [h1]
  simp only [endP, List.dropLast_concat, List.length_append, List.length_singleton]
  rw [h.place]
  congr 3
  by_cases hp : pre.length = 0
  · rw [if_pos (by omega), if_pos hp]
  · rw [if_neg (by omega), if_neg hp]
theorem fullParts_on (h : WalkOk ps js ss i pre s lies crosses pos) : fullParts ps (sigAt ss i) pre ++ [partI s.piece pos (endAt ps (aheadE s))] = fullParts ps (sigAt ss i) (pre ++ [s]) := by
  rw [fullParts_snoc, h.place]
theorem lieF_any (hl : ∀ l ∈ lies, ∃ (j : Nat) (hj : j < js.length), l.piece = j ∧ js[j].kind = 3 ∧ (l.side = 1 ∨ l.side = 2)) {j : Int} (h : lies.any (fun l => l.piece == j) = true) : lieF lies j ≠ 0 := by
  unfold lieF
  cases hf : lies.find? (fun l => l.piece == j) with
  | none =>
    obtain ⟨x, hx, h2⟩ := List.any_eq_true.1 h
    exact absurd h2 (by simpa using List.find?_eq_none.1 hf x hx)
  | some l =>
    obtain ⟨_, _, _, _, h3⟩ := hl l (List.mem_of_find?_eq_some hf)
    show l.side ≠ 0
    omega
theorem lieF_not {j : Int} (h : ¬ lies.any (fun l => l.piece == j) = true) : lieF lies j = 0 := by
  unfold lieF
  cases hf : lies.find? (fun l => l.piece == j) with
  | none => rfl
  | some l => exact absurd (List.any_eq_true.2 ⟨l, List.mem_of_find?_eq_some hf, List.find?_some hf⟩) h
theorem lies_push (hl : ∀ l ∈ lies, ∃ (j : Nat) (hj : j < js.length), l.piece = j ∧ js[j].kind = 3 ∧ (l.side = 1 ∨ l.side = 2)) {j : Nat} {x : Int} (hj : j < js.length) (hk : js[j].kind = 3) (hx : x = 1 ∨ x = 2) : ∀ l ∈ lies ++ [(⟨(j : Int), x⟩ : MLie)], ∃ (j : Nat) (hj : j < js.length), l.piece = j ∧ js[j].kind = 3 ∧ (l.side = 1 ∨ l.side = 2) := by
  intro l hm
  rcases List.mem_append.1 hm with hm | hm
  · exact hl l hm
  · have : l = (⟨(j : Int), x⟩ : MLie) := by simpa using hm
    subst this
    exact ⟨j, hj, rfl, hk, hx⟩
theorem lies_pushd (hd : (lies.map MEnd.piece).Nodup) {j : Int} {x : Int} (h : ¬ lies.any (fun l => l.piece == j) = true) : ((lies ++ [(⟨j, x⟩ : MLie)]).map MEnd.piece).Nodup := by
  rw [List.map_append]
  refine List.nodup_append.2 ⟨hd, by simp, ?_⟩
  intro a ha b hb
  have : b = j := by simpa using hb
  subst this
  rintro rfl
  obtain ⟨l, hl, e⟩ := List.mem_map.1 ha
  exact h (List.any_eq_true.2 ⟨l, hl, by simpa using e⟩)
end
end Go.Proofs.Ytmkdgnmmebldgaa

namespace Go.Proofs.Ytmkdgnmmebldgaa
open Go.RowKit Go.Deep
structure PAddr where
  a0 : Option Addr
  c0 : Nat
  a1 : Option Addr
  c1 : Nat
  a2 : Option Addr
  c2 : Nat
structure PListsAt (w : World) (d : PAddr) (p : MPath) : Prop where
  steps : EndsAt w d.a0 p.steps
  lies : EndsAt w d.a1 p.lies
  crosses : NumsAt w d.a2 p.crosses
  nil0 : d.a0 = none → p.steps.length = 0 ∧ d.c0 = 0
  nil1 : d.a1 = none → p.lies.length = 0 ∧ d.c1 = 0
  nil2 : d.a2 = none → p.crosses.length = 0 ∧ d.c2 = 0
  cap : p.steps.length ≤ d.c0
theorem PListsAt.below {w w' : World} {d : PAddr} {p : MPath} (h : PListsAt w d p) (hb : Below w.heap.size w w') : PListsAt w' d p :=
  ⟨h.steps.below hb, h.lies.below hb, h.crosses.below hb, h.nil0, h.nil1, h.nil2, h.cap⟩
end Go.Proofs.Ytmkdgnmmebldgaa

namespace Go.Proofs.Ytmkdgnmmebldgaa
open Go.RowKit Go.Deep
end Go.Proofs.Ytmkdgnmmebldgaa
