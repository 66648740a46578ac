import Derived.Test.YtmkdgnmmebldgaaPn42
import Derived.Test.YtmkdgnmmebldgaaPn48
import Derived.Test.YtmkdgnmmebldgaaPn50
namespace Go.Proofs.Ytmkdgnmmebldgaa
open Go.RowKit Go.Deep Go.Maps
theorem behindF_short (ps : List MPiece) (js : List MJoint) : ∀ (n : Nat) (s : MStep) (pos left : Int), (behindF ps js n s pos left).length ≤ n
  | 0, s, pos, left => by simp [behindF]
  | n + 1, s, pos, left => by
    simp only [behindF]
    split
    · simp
    · simp only [List.length_cons]
      split
      · have := behindF_short ps js n (stepFromE (endE js (spotE js (aheadE s)).1 (1 - (spotE js (aheadE s)).2))) (endAt ps (endE js (spotE js (aheadE s)).1 (1 - (spotE js (aheadE s)).2))) (left - min left ((endAt ps (aheadE s) - pos) * s.side))
        omega
      · simp
theorem routes_short (ps : List MPiece) (js : List MJoint) (ss : List MPiece) (over : Int) : ∀ r ∈ routesF ps js ss over, Short6 r ∧ WfR r ∧ -1 ≤ r.start ∧ r.start ≤ 100 ∧ -1 ≤ r.stop ∧ r.stop ≤ 100 := by
  intro r hr
  have hok := (routesF_ok ps js ss over).2 r hr
  have hpt := routesF_parts ps js ss over r hr
  unfold routesF at hr
  split at hr
  · rename_i hc
    have R : Right ps js ss := right_of hc.1
    obtain ⟨q, hq, rfl⟩ := List.mem_map.1 hr
    unfold endedL at hq
    obtain ⟨h1, h2⟩ := List.mem_filter.1 hq
    have hl := allEvs_lies R ss.length (Nat.le_refl _) q h1
    have hfew := lies_few hl.1 hl.2
    obtain ⟨i, hi, stop, pre, s, lies, crosses, pos, e, ok, _, _⟩ := allEvs_stand R ss.length (Nat.le_refl _) q h1 h2
    have hnj := R.nj
    have hnp := R.np
    have hval : ∀ l ∈ q.lies, ValidE ps (endE js l.piece.toNat (3 - l.side).toNat) := fun l hlm => by
      obtain ⟨j, hj, h1, h2, h3⟩ := hl.1 l hlm
      have hk := R.kind j hj
      have hlt : (3 - l.side).toNat < js[j].ends.length := by have := hk.2.2; omega
      rw [h1, Int.toNat_natCast, endE_at hj hlt]
      exact R.ends j hj _ hlt
    have hfl := flanksF_len R q.lies q.lies hval
    have hfl2 : 2 * ps.length * q.lies.length ≤ 200 * 120 := Nat.mul_le_mul (by omega) (by omega)
    have hf := ok.few
    have hcl := ok.cl
    have hst := hpt.few
    have hpl := hpt.len
    have hcr : q.crosses = crosses := by rw [e]; rfl
    refine ⟨⟨⟨by omega, ?_, ?_, by omega⟩, ?_, ?_⟩, hok.wf, ?_⟩
    · show q.lies.length ≤ 1000
      omega
    · show q.crosses.length ≤ 1000
      rw [hcr]; omega
    · show (overF ps js ss q.stop over).length ≤ 200000
      unfold overF
      split
      · simp
      · split
        · simp
        · have := behindF_short ps js (over.toNat + 1)
          refine Nat.le_trans (this _ _ _) ?_
          have := hc.2.2.1
          omega
    · show (flanksF ps js ss q.lies q.lies).length ≤ 50000
      omega
    · have hns := R.ns
      obtain ⟨i', hi', hs', _⟩ := hpt.start
      have hst' := hpt.stop
      rw [hs']
      rcases hst' with h | ⟨b, hb, h, _⟩
      · rw [h]; omega
      · rw [h]; omega
  · cases hr
theorem cur_int {w : World} {C : Nat} {ca : Option Addr} {cc : Nat} {bs : List Int} {at_ o : Nat} {v : Int} (h : Cur w C ca cc bs at_) (hc : w.cell? ⟨C, o, none⟩ = some (.int .i64 v)) : o = 1 := by
  by_cases h3 : 3 ≤ o
  · rw [h.sz o h3] at hc; cases hc
  · have : o = 0 ∨ o = 1 ∨ o = 2 := by omega
    rcases this with rfl | rfl | rfl
    · rw [h.c0] at hc; cases hc
    · rfl
    · obtain ⟨s, hs⟩ := h.c2
      rw [hs] at hc; cases hc
section
variable {w u : World} {C : Nat} {ca : Option Addr} {cc : Nat} {bs : List Int} {at_ at' : Nat}
theorem EndsAt.drawn {a : Option Addr} {es : List MEnd} (h : EndsAt w a es) (hc : Cur w C ca cc bs at_) (ho : Only (fun k => k = C) w u) : EndsAt u a es := by
  refine h.kept ?_
  rcases h.2 with h2 | ⟨b, off, h2, h3⟩
  · exact Or.inl h2
  · by_cases h0 : es = []
    · exact Or.inl h0
    · refine Or.inr (fun b' off' e => ?_)
      rw [h2] at e
      cases e
      have hl := List.length_pos_iff.2 h0
      obtain ⟨c0, c1⟩ := h3 0 hl
      refine ho.block b (cellLt c0) (fun e => ?_)
      subst e
      have e1 := cur_int hc c0
      have e2 := cur_int hc c1
      omega
theorem PartsAt.drawn {a : Option Addr} {es : List MPart} (h : PartsAt w a es) (hc : Cur w C ca cc bs at_) (ho : Only (fun k => k = C) w u) : PartsAt u a es := by
  refine h.kept ?_
  rcases h.2 with h2 | ⟨b, off, h2, h3⟩
  · exact Or.inl h2
  · by_cases h0 : es = []
    · exact Or.inl h0
    · refine Or.inr (fun b' off' e => ?_)
      rw [h2] at e
      cases e
      have hl := List.length_pos_iff.2 h0
      obtain ⟨c0, c1, _⟩ := h3 0 hl
      refine ho.block b (cellLt c0) (fun e => ?_)
      subst e
      have e1 := cur_int hc c0
      have e2 := cur_int hc c1
      omega
theorem FlanksAt.drawn {a : Option Addr} {es : List MFlank} (h : FlanksAt w a es) (hc : Cur w C ca cc bs at_) (ho : Only (fun k => k = C) w u) : FlanksAt u a es := by
  refine h.kept ?_
  rcases h.2 with h2 | ⟨b, off, h2, h3⟩
  · exact Or.inl h2
  · by_cases h0 : es = []
    · exact Or.inl h0
    · refine Or.inr (fun b' off' e => ?_)
      rw [h2] at e
      cases e
      have hl := List.length_pos_iff.2 h0
      obtain ⟨c0, c1, _⟩ := h3 0 hl
      refine ho.block b (cellLt c0) (fun e => ?_)
      subst e
      have e1 := cur_int hc c0
      have e2 := cur_int hc c1
      omega
theorem NumsAt.drawn {a : Option Addr} {es : List Int} (h : NumsAt w a es) (hc : Cur w C ca cc bs at_) (hc' : Cur u C ca cc bs at') (ho : Only (fun k => k = C) w u) : ∃ es' : List Int, es'.length = es.length ∧ NumsAt u a es' := by
  rcases h.2 with h2 | ⟨b, off, h2, h3⟩
  · exact ⟨es, rfl, h.1, Or.inl h2⟩
  · by_cases hb : b = C
    · subst hb
      match es, h3, h.1 with
      | [], _, _ => exact ⟨[], rfl, Nat.zero_le _, Or.inl rfl⟩
      | [x], h3, h1 =>
        have e1 := cur_int hc (h3 0 (by simp))
        refine ⟨[(at' : Int)], rfl, h1, Or.inr ⟨b, off, h2, fun i hi => ?_⟩⟩
        have : i = 0 := by simpa using hi
        subst this
        have e : off + 0 = 1 := e1
        rw [e]
        exact hc'.c1
      | x :: y :: t, h3, _ =>
        have e1 := cur_int hc (h3 0 (by simp))
        have e2 := cur_int hc (h3 1 (by simp))
        omega
    · refine ⟨es, rfl, h.1, Or.inr ⟨b, off, h2, fun i hi => ?_⟩⟩
      exact ho.cell (h3 i hi) hb
theorem RListsAt.drawn {d : RAddr} {r : MRoute} (h : RListsAt w d r) (hc : Cur w C ca cc bs at_) (hc' : Cur u C ca cc bs at') (ho : Only (fun k => k = C) w u) : ∃ cr : List Int, cr.length = r.crosses.length ∧ RListsAt u d ⟨r.start, r.stop, r.steps, r.lies, cr, r.parts, r.over, r.flanks⟩ := by
  obtain ⟨cr, h1, h2⟩ := h.crosses.drawn hc hc' ho
  exact ⟨cr, h1, h.steps.drawn hc ho, h.lies.drawn hc ho, h2, h.parts.drawn hc ho, h.over.drawn hc ho, h.flanks.drawn hc ho, h.nil1⟩
theorem RouteCell.notC {b off : Nat} {d : RAddr} {r : MRoute} (h : RouteCell w b off d r) (hc : Cur w C ca cc bs at_) : b ≠ C := by
  intro e
  subst e
  have e1 := cur_int hc h.k0
  have e2 := cur_int hc h.k1
  omega
end
theorem EndsAt.into {wz wf : World} {R : Nat} {a : Option Addr} {es : List MEnd} {s p : Int} (h : EndsAt wz a es) (hR : ∀ o v, wz.cell? ⟨R, o, none⟩ = some (.int .i64 v) → o < 2) (ho : Only (fun k => k = R) wz wf) (c0 : wf.cell? ⟨R, 0, none⟩ = some (.int .i64 s)) (c1 : wf.cell? ⟨R, 1, none⟩ = some (.int .i64 p)) : ∃ es' : List MEnd, es'.length = es.length ∧ EndsAt wf a es' ∧ (es' = es ∨ es' = [⟨s, p⟩]) := by
  rcases h.2 with h2 | ⟨b, off, h2, h3⟩
  · exact ⟨es, rfl, ⟨h.1, Or.inl h2⟩, Or.inl rfl⟩
  · by_cases hb : b = R
    · subst hb
      match es, h3, h.1 with
      | [], _, _ => exact ⟨[], rfl, ⟨Nat.zero_le _, Or.inl rfl⟩, Or.inl rfl⟩
      | [x], h3, h1 =>
        obtain ⟨e0, e1⟩ := h3 0 (by simp)
        have f0 := hR _ _ e0
        have f1 := hR _ _ e1
        have e : off = 0 := by omega
        subst e
        refine ⟨[⟨s, p⟩], rfl, ⟨h1, Or.inr ⟨b, 0, h2, fun i hi => ?_⟩⟩, Or.inr rfl⟩
        have : i = 0 := by simpa using hi
        subst this
        exact ⟨c0, c1⟩
      | x :: y :: t, h3, _ =>
        obtain ⟨e0, e1⟩ := h3 1 (by simp)
        have f0 := hR _ _ e0
        have f1 := hR _ _ e1
        omega
    · refine ⟨es, rfl, ⟨h.1, Or.inr ⟨b, off, h2, fun i hi => ?_⟩⟩, Or.inl rfl⟩
      obtain ⟨e0, e1⟩ := h3 i hi
      exact ⟨ho.cell e0 hb, ho.cell e1 hb⟩
theorem FlanksAt.into {wz wf : World} {R : Nat} {a : Option Addr} {es : List MFlank} (h : FlanksAt wz a es) (hR : ∀ o v, wz.cell? ⟨R, o, none⟩ = some (.int .i64 v) → o < 2) (ho : Only (fun k => k = R) wz wf) : FlanksAt wf a es := by
  refine h.kept ?_
  rcases h.2 with h2 | ⟨b, off, h2, h3⟩
  · exact Or.inl h2
  · by_cases h0 : es = []
    · exact Or.inl h0
    · refine Or.inr (fun b' off' e => ?_)
      rw [h2] at e
      cases e
      have hl := List.length_pos_iff.2 h0
      obtain ⟨c0, c1, c2, _⟩ := h3 0 hl
      refine ho.block b (cellLt c0) (fun e => ?_)
      subst e
      have f2 := hR _ _ c2
      omega
end Go.Proofs.Ytmkdgnmmebldgaa
