import Derived.Test.YtmkdgnmmebldgaaPn39
import Derived.Test.YtmkdgnmmebldgaaPn2
namespace Go.Proofs.Ytmkdgnmmebldgaa
open Go.RowKit Go.Deep Go.Maps
def posF (ps : List MPiece) (s : MStep) (at0 : Int) (parts : List MPart) : Int := if parts.length = 0 then at0 else endAt ps (farE (aheadE s))
def distF (ps : List MPiece) (s : MStep) (pos : Int) : Int := (endAt ps (aheadE s) - pos) * s.side
structure JMath (ps : List MPiece) (js : List MJoint) (tot : List MPart) (n : Nat) (s : MStep) (at0 left : Int) (parts : List MPart) : Prop where
  sv : ValidS ps s
  l0 : 0 ≤ left
  ln : left < n
  lb : (parts.length : Int) + left ≤ 100000
  p0 : 0 ≤ posF ps s at0 parts
  p1 : posF ps s at0 parts ≤ 10000000
  d0 : 1 ≤ distF ps s (posF ps s at0 parts)
  d1 : distF ps s (posF ps s at0 parts) ≤ 10000000
  a0 : 0 ≤ at0 ∧ at0 ≤ 10000000
  tot : tot = parts ++ behindF ps js n s (posF ps s at0 parts) left
structure NMath (ps : List MPiece) (js : List MJoint) (tot : List MPart) (m : Nat) (s : MStep) (left : Int) (parts : List MPart) : Prop where
  sv : ValidS ps s
  l0 : 0 ≤ left
  ln : left < m
  lb : (parts.length : Int) + left ≤ 100000
  ne : parts.length ≠ 0
  tot : tot = parts ++ (if kindE js (spotE js (aheadE s)).1 = 2 then behindF ps js m (stepFromE (endE js (spotE js (aheadE s)).1 (1 - (spotE js (aheadE s)).2))) (endAt ps (endE js (spotE js (aheadE s)).1 (1 - (spotE js (aheadE s)).2))) left else [])
theorem JMath.stop {ps : List MPiece} {js : List MJoint} {tot : List MPart} {n : Nat} {s : MStep} {at0 left : Int} {parts : List MPart} (h : JMath ps js tot n s at0 left parts) (h0 : left = 0) : tot = parts := by
  have hn := h.ln
  obtain ⟨m, rfl⟩ : ∃ m, n = m + 1 := ⟨n - 1, by omega⟩
  rw [h.tot, behindF, if_pos (by omega)]
  simp
theorem NMath.stop {ps : List MPiece} {js : List MJoint} {tot : List MPart} {m : Nat} {s : MStep} {left : Int} {parts : List MPart} (h : NMath ps js tot m s left parts) (h0 : (overPlainF js s).2 = false) : tot = parts := by
  have ht := h.tot
  unfold overPlainF at h0
  by_cases hk : kindE js (spotE js (aheadE s)).1 = 2
  · rw [if_pos hk] at h0
    cases h0
  · rw [if_neg hk] at ht
    rw [ht]
    simp
theorem dist_begin {ps : List MPiece} {e : MEnd} (h : ValidE ps e) : distF ps (stepFromE e) (endAt ps e) = lenI ps e.piece := by
  obtain ⟨p, hp, e1, e2⟩ := h
  cases e
  simp only at e1 e2
  unfold distF stepFromE aheadE endAt
  rcases e2 with rfl | rfl <;> simp
theorem NMath.next {ps : List MPiece} {js : List MJoint} {ss : List MPiece} (R : Right ps js ss) {tot : List MPart} {m : Nat} {s : MStep} {left : Int} {parts : List MPart} (h : NMath ps js tot m s left parts) (h0 : (overPlainF js s).2 = true) {at0 : Int} (ha : 0 ≤ at0 ∧ at0 ≤ 10000000) : JMath ps js tot m (overPlainF js s).1 at0 left parts := by
  have ht := h.tot
  unfold overPlainF at h0 ⊢
  by_cases hk : kindE js (spotE js (aheadE s)).1 = 2
  · rw [if_pos hk] at h0 ht ⊢
    obtain ⟨j, k, hsp, hsp2⟩ := R.spot (aheadE_valid h.sv)
    obtain ⟨_, hj, hkk, _⟩ := spotF_some hsp
    simp only [Nat.sub_zero] at hj hkk
    rw [hsp2] at hk ht ⊢
    dsimp only at hk ht ⊢
    have hkd := R.kind j hj
    rw [kindE_at hj] at hk
    have hte : 1 - k < js[j].ends.length := by omega
    have hve : ValidE ps (endE js j (1 - k)) := by
      rw [endE_at hj hte]
      exact R.ends j hj _ hte
    obtain ⟨q, hq, q1, q2⟩ := hve
    have hpl := R.plen q hq
    have hlen : lenI ps (endE js j (1 - k)).piece = ps[q].len := by rw [q1]; exact lenI_at hq
    have hve : ValidE ps (endE js j (1 - k)) := ⟨q, hq, q1, q2⟩
    have hpos : posF ps (stepFromE (endE js j (1 - k))) at0 parts = endAt ps (endE js j (1 - k)) := by
      unfold posF
      rw [if_neg h.ne, (farI_begin hve).2]
    have hr := endAt_range R hve
    refine ⟨stepFromE_valid hve, h.l0, h.ln, h.lb, by rw [hpos]; exact hr.1, by rw [hpos]; omega, ?_, ?_, ha, by rw [hpos]; exact ht⟩
    · rw [hpos, dist_begin hve, hlen]
      exact hpl.1
    · rw [hpos, dist_begin hve, hlen]
      exact hpl.2
  · rw [if_neg hk] at h0
    cases h0
theorem JMath.begin {ps : List MPiece} {js : List MJoint} {ss : List MPiece} (R : Right ps js ss) {i : Nat} (hi : i < ss.length) {over : Int} (h0 : 0 ≤ over) (h1 : over ≤ 100000) : JMath ps js (overF ps js ss i over) (over.toNat + 1) ⟨ss[i].len, ss[i].brake⟩ ss[i].speed over [] := by
  obtain ⟨p, hp, e1, e2, e3, e4⟩ := R.sig i hi
  have hpl := R.plen p hp
  have hlen : lenI ps ss[i].len = ps[p].len := by rw [e1]; exact lenI_at hp
  have hpos : posF ps ⟨ss[i].len, ss[i].brake⟩ ss[i].speed [] = ss[i].speed := rfl
  have hd : 1 ≤ distF ps ⟨ss[i].len, ss[i].brake⟩ ss[i].speed ∧ distF ps ⟨ss[i].len, ss[i].brake⟩ ss[i].speed ≤ 10000000 := by
    unfold distF aheadE endAt
    rcases e2 with e2 | e2
    · rw [e2]
      simp only [if_true]
      rw [if_neg (by omega), hlen]
      omega
    · rw [e2]
      have hne : ¬ ((-1 : Int) = 1) := by decide
      simp [hne]
      omega
  refine ⟨⟨p, hp, e1, e2⟩, h0, by omega, by simpa using h1, by rw [hpos]; omega, by rw [hpos]; omega, by rw [hpos]; exact hd.1, by rw [hpos]; exact hd.2, by omega, ?_⟩
  unfold overF
  rw [if_neg (by omega), hpos]
  simp [hi]
end Go.Proofs.Ytmkdgnmmebldgaa

namespace Go.Proofs.Ytmkdgnmmebldgaa
open Go.RowKit Go.Deep Go.Maps
structure OBase (w : World) (KT l D tB oB pB aB tb bs : Nat) (rec : LoopState → Option Code → Loop) (K : Nat → Prop) (at0 left : Int) (parts : List MPart) (W : World) : Prop where
  below : Below w.heap.size w W
  loop : W.heap[l]? = some (.loop (rec .ready none))
  dfr : W.heap[D]? = some (.deferred (some []))
  t1 : W.cell? ⟨tB, 0, none⟩ = some (.pointer (some ⟨KT, 0, none⟩))
  t2 : W.cell? ⟨tb, 0, none⟩ = some (.pointer (some ⟨KT, 0, none⟩))
  over : W.rowIs oB 3 1 (fun _ => .int .i64 left)
  at_ : W.rowIs aB 3 1 (fun _ => .int .i64 at0)
  own : ∃ (x : Option Addr) (y : Nat), W.rowIs pB 39 1 (fun _ => .slice x parts.length y) ∧ W.ownsRow bs 44 3 (.slice x parts.length y) parts.length (flatP parts) ∧
    ∀ k, K k ↔ k = l ∨ k = D ∨ k = oB ∨ k = aB ∨ k = pB ∨ (Value.slice x parts.length y).ownBlock = some k
  low : w.heap.size ≤ tB ∧ tB < oB ∧ oB < pB ∧ pB < aB ∧ aB < tb ∧ tb < D ∧ D < l ∧ l < bs
structure OStop (w : World) (l D pB bs : Nat) (rec : LoopState → Option Code → Loop) (tot : List MPart) (W : World) : Prop where
  below : Below w.heap.size w W
  loop : ∃ c, W.heap[l]? = some (.loop (rec .done (some c))) ∧ c = .exit 0
  dfr : W.heap[D]? = some (.deferred (some []))
  own : ∃ (x : Option Addr) (y : Nat), W.rowIs pB 39 1 (fun _ => .slice x tot.length y) ∧ W.ownsRow bs 44 3 (.slice x tot.length y) tot.length (flatP tot)
  low : w.heap.size ≤ pB ∧ pB < D ∧ D < l ∧ l < bs
section
variable {w : World} {KT l D tB oB pB aB tb bs : Nat} {rec : LoopState → Option Code → Loop} {K : Nat → Prop} {at0 left : Int} {parts : List MPart} {W W' : World}
theorem OBase.lt (h : OBase w KT l D tB oB pB aB tb bs rec K at0 left parts W) : ∀ k, K k → k < W.heap.size := by
  intro k hk
  obtain ⟨x, y, h1, h2, h5⟩ := h.own
  rcases (h5 k).1 hk with rfl | rfl | rfl | rfl | rfl | hk
  · exact get_lt h.loop
  · exact get_lt h.dfr
  · exact h.over.lt
  · exact h.at_.lt
  · exact h1.lt
  · exact (h2.lt k hk).2
theorem OBase.low_own (h : OBase w KT l D tB oB pB aB tb bs rec K at0 left parts W) : ∀ k, K k → w.heap.size ≤ k := by
  intro k hk
  have hl := h.low
  obtain ⟨x, y, h1, h2, h5⟩ := h.own
  rcases (h5 k).1 hk with rfl | rfl | rfl | rfl | rfl | hk
  · omega
  · omega
  · omega
  · omega
  · omega
  · have := (h2.lt k hk).1
    omega
theorem OBase.keep (h : OBase w KT l D tB oB pB aB tb bs rec K at0 left parts W) {S : Nat → Prop} (hO : Only S W W') (hS : ∀ k, S k → bs ≤ k ∧ ¬ K k) : OBase w KT l D tB oB pB aB tb bs rec K at0 left parts W' := by
  have hl := h.low
  have hn : ∀ k, k < bs → ¬ S k := fun k hk hs => by have := (hS k hs).1; omega
  obtain ⟨x, y, h1, h2, h5⟩ := h.own
  refine ⟨h.below.trans (hO.below h.below.size (fun k hk => hn k (by omega))), (hO.block _ (get_lt h.loop) (hn _ (by omega))).trans h.loop, (hO.block _ (get_lt h.dfr) (hn _ (by omega))).trans h.dfr, hO.cell h.t1 (hn _ (by show tB < bs; omega)), hO.cell h.t2 (hn _ (by show tb < bs; omega)), h.over.of_block (hO.block _ h.over.lt (hn _ (by omega))), h.at_.of_block (hO.block _ h.at_.lt (hn _ (by omega))), ⟨x, y, h1.of_block (hO.block _ h1.lt (hn _ (by omega))), ?_, h5⟩, hl⟩
  refine ⟨h2.1, ?_⟩
  rcases h2.2 with q | ⟨g, cap, cur, q1, q2, q3, q4⟩
  · exact Or.inl q
  · refine Or.inr ⟨g, cap, cur, q1, q2, (hO.block g (get_lt q3) (fun hs => (hS g hs).2 ((h5 g).2 (Or.inr (Or.inr (Or.inr (Or.inr (Or.inr ?_)))))))).trans q3, q4⟩
    rw [q1]
    rfl
theorem OBase.on (hI : OBase w KT l D tB oB pB aB tb bs rec K at0 left parts W) (hrec : ∀ st pe, ({ rec .ready none with state := st, pending := pe } : Loop) = rec st pe) {Wn : World} {at1 left1 : Int} {parts1 : List MPart}
    (hl : Wn.heap[l]? = some (.loop { rec .ready none with state := .busy })) (hO : Only K W Wn) (hD : Wn.heap[D]? = some (.deferred (some []))) (hov : Wn.rowIs oB 3 1 (fun _ => .int .i64 left1)) (hat : Wn.rowIs aB 3 1 (fun _ => .int .i64 at1))
    (hown : ∃ (x : Option Addr) (y : Nat), Wn.rowIs pB 39 1 (fun _ => .slice x parts1.length y) ∧ Wn.ownsRow bs 44 3 (.slice x parts1.length y) parts1.length (flatP parts1) ∧ ∀ k, (Value.slice x parts1.length y).ownBlock = some k → K k ∨ W.heap.size ≤ k)
    (J : (Nat → Prop) → World → Prop) (hJ : ∀ K' u, OBase w KT l D tB oB pB aB tb bs rec K' at1 left1 parts1 u → J K' u) (Sx : World → Prop) :
    ∃ v w', (Instr.endRound l none).run Try.prog Wn = .ok v w' ∧ Visited J Sx K W (.returned v) w' := by
  refine ⟨_, _, run_endRound none hl, ?_⟩
  have hlt := get_lt hl
  have hlow := hI.low
  obtain ⟨x, y, g1, g2, g5⟩ := hown
  obtain ⟨x0, y0, _, k2, k5⟩ := hI.own
  have hKl : K l := (k5 l).2 (Or.inl rfl)
  have hKt : ¬ K tB := fun h => by
    rcases (k5 tB).1 h with h | h | h | h | h | h
    · omega
    · omega
    · omega
    · omega
    · omega
    · have := (k2.lt _ h).1
      omega
  have hKb : ¬ K tb := fun h => by
    rcases (k5 tb).1 h with h | h | h | h | h | h
    · omega
    · omega
    · omega
    · omega
    · omega
    · have := (k2.lt _ h).1
      omega
  generalize hwn : Wn.putObj l _ = w'
  have hOn : Only (fun k => k = l) Wn w' := by
    rw [← hwn]
    exact Only.of_grown (grownBy_putObj' _ _ _) (fun k e => by cases e; rfl)
  have hl' : w'.heap[l]? = some (.loop (rec .ready none)) := by
    rw [← hwn]
    refine (World.putObj_heap_same hlt).trans ?_
    congr 2
    exact hrec .ready none
  clear hwn
  have hO2 : Only K W w' := hO.trans (hOn.mono (fun k hk => by subst hk; exact hKl))
  have hG : Grow K (fun k => k = l ∨ k = D ∨ k = oB ∨ k = aB ∨ k = pB ∨ (Value.slice x parts1.length y).ownBlock = some k) W := by
    intro k hk
    rcases hk with h | h | h | h | h | h
    · exact Or.inl ((k5 k).2 (Or.inl h))
    · exact Or.inl ((k5 k).2 (Or.inr (Or.inl h)))
    · exact Or.inl ((k5 k).2 (Or.inr (Or.inr (Or.inl h))))
    · exact Or.inl ((k5 k).2 (Or.inr (Or.inr (Or.inr (Or.inl h)))))
    · exact Or.inl ((k5 k).2 (Or.inr (Or.inr (Or.inr (Or.inr (Or.inl h))))))
    · exact g5 k h
  have hKD : K D := (k5 D).2 (Or.inr (Or.inl rfl))
  refine ⟨true, rfl, hO2, fun _ => ⟨_, hJ _ _ ?_, hG⟩, fun h => by cases h⟩
  refine ⟨hI.below.trans (hO2.below hI.below.size (fun k hk e => by have := hI.low_own k e; omega)), hl', (hOn.block _ (get_lt hD) (by show ¬ D = l; omega)).trans hD, hO2.cell hI.t1 hKt, hO2.cell hI.t2 hKb, hov.of_block (hOn.block _ hov.lt (by show ¬ oB = l; omega)), hat.of_block (hOn.block _ hat.lt (by show ¬ aB = l; omega)), ⟨x, y, g1.of_block (hOn.block _ g1.lt (by show ¬ pB = l; omega)), owns_only g2 hOn (fun k hk => by omega), fun k => Iff.rfl⟩, hlow⟩
theorem OBase.off (hI : OBase w KT l D tB oB pB aB tb bs rec K at0 left parts W) (hrec : ∀ st pe, ({ rec .ready none with state := st, pending := pe } : Loop) = rec st pe) {Wn : World}
    (hl : Wn.heap[l]? = some (.loop { rec .ready none with state := .busy })) (hO : Only K W Wn) (hD : Wn.heap[D]? = some (.deferred (some [])))
    (hown : ∃ (x : Option Addr) (y : Nat), Wn.rowIs pB 39 1 (fun _ => .slice x parts.length y) ∧ Wn.ownsRow bs 44 3 (.slice x parts.length y) parts.length (flatP parts))
    (J : (Nat → Prop) → World → Prop) : ∃ v w', (Instr.endRound l (some (.exit 0))).run Try.prog Wn = .ok v w' ∧ Visited J (OStop w l D pB bs rec parts) K W (.returned v) w' := by
  refine ⟨_, _, run_endRound (some (.exit 0)) hl, ?_⟩
  have hlt := get_lt hl
  have hlow := hI.low
  obtain ⟨x, y, g1, g2⟩ := hown
  obtain ⟨x0, y0, _, k2, k5⟩ := hI.own
  have hKl : K l := (k5 l).2 (Or.inl rfl)
  generalize hwn : Wn.putObj l _ = w'
  have hOn : Only (fun k => k = l) Wn w' := by
    rw [← hwn]
    exact Only.of_grown (grownBy_putObj' _ _ _) (fun k e => by cases e; rfl)
  have hl' : w'.heap[l]? = some (.loop (rec .done (some (.exit 0)))) := by
    rw [← hwn]
    refine (World.putObj_heap_same hlt).trans ?_
    congr 2
    exact hrec .done (some (.exit 0))
  clear hwn
  have hO2 : Only K W w' := hO.trans (hOn.mono (fun k hk => by subst hk; exact hKl))
  exact ⟨false, rfl, hO2, (fun h => by cases h), fun _ => ⟨hI.below.trans (hO2.below hI.below.size (fun k hk e => by have := hI.low_own k e; omega)), ⟨_, hl', rfl⟩, (hOn.block _ (get_lt hD) (by show ¬ D = l; omega)).trans hD, ⟨x, y, g1.of_block (hOn.block _ g1.lt (by show ¬ pB = l; omega)), owns_only g2 hOn (fun k hk => by omega)⟩, by omega⟩⟩
end
end Go.Proofs.Ytmkdgnmmebldgaa

namespace Go.Proofs.Ytmkdgnmmebldgaa
open Go.RowKit Go.Deep Go.Maps
def seenF (D : ∀ p : Prop, Decidable p) (L : List MEnd) (v : Value) : Int := @ite _ (∃ x, x ∈ L ∧ endV x = v) (D _) 1 0
def lookC (KT M2 : Nat) (at_ : Int) (la : Option Addr) (ln lc : Nat) (v : Value) : Array Value := #[.pointer (some ⟨KT, 0, none⟩), .slice la ln lc, .int .i64 at_, .map (some M2), v]
structure LBase (w : World) (ps : List MPiece) (KT O M2 : Nat) (at_ : Int) (la : Option Addr) (ln lc bs : Nat) (K : Nat → Prop) (st : List MEnd × List MFlank) (W : World) : Prop where
  below : Below w.heap.size w W
  own : ∃ (x : Option Addr) (y : Nat), W.rowIs O 268 5 (fun i => (lookC KT M2 at_ la ln lc (.slice x st.2.length y)).getD i (.bool false)) ∧ W.ownsRow bs 57 4 (.slice x st.2.length y) st.2.length (flatF st.2) ∧
    ∀ k, K k ↔ k = O ∨ k = M2 ∨ (Value.slice x st.2.length y).ownBlock = some k
  map : CMap 139 W M2 st.1.length (seenF Classical.propDecidable st.1)
  low : w.heap.size ≤ M2 ∧ M2 < O ∧ O < bs
  hi : bs ≤ W.heap.size
  seen : Seen ps st.1
  fl : st.2.length ≤ st.1.length
section
variable {w : World} {ps : List MPiece} {KT O M2 : Nat} {at_ : Int} {la : Option Addr} {ln lc bs : Nat} {K : Nat → Prop} {st : List MEnd × List MFlank} {W W' : World}
theorem LBase.lt (h : LBase w ps KT O M2 at_ la ln lc bs K st W) : ∀ k, K k → k < W.heap.size := by
  intro k hk
  obtain ⟨x, y, h1, h2, h5⟩ := h.own
  rcases (h5 k).1 hk with rfl | rfl | hk
  · exact h1.lt
  · exact h.map.lt
  · exact (h2.lt k hk).2
theorem LBase.low_own (h : LBase w ps KT O M2 at_ la ln lc bs K st W) : ∀ k, K k → w.heap.size ≤ k := by
  intro k hk
  have hl := h.low
  obtain ⟨x, y, h1, h2, h5⟩ := h.own
  rcases (h5 k).1 hk with rfl | rfl | hk
  · omega
  · omega
  · have := (h2.lt k hk).1
    omega
theorem LBase.keep (h : LBase w ps KT O M2 at_ la ln lc bs K st W) (hb : Below W.heap.size W W') : LBase w ps KT O M2 at_ la ln lc bs K st W' := by
  obtain ⟨x, y, h1, h2, h5⟩ := h.own
  exact ⟨h.below.trans (hb.mono h.below.size), ⟨x, y, h1.of_block (hb.block _ h1.lt), owns_below h2 hb, h5⟩, h.map.below hb, h.low, Nat.le_trans h.hi hb.size, h.seen, h.fl⟩
end
def Looked (w : World) (ps : List MPiece) (KT O M2 : Nat) (at_ : Int) (la : Option Addr) (ln lc bs : Nat) (st : List MEnd × List MFlank) (K : Nat → Prop) (W : World) (e : Ending) (W' : World) : Prop :=
  (∃ v, e = .returned v) ∧ Only K W W' ∧ ∃ K', LBase w ps KT O M2 at_ la ln lc bs K' st W' ∧ Grow K K' W
end Go.Proofs.Ytmkdgnmmebldgaa

namespace Go.Proofs.Ytmkdgnmmebldgaa
open Go.RowKit Go.Deep Go.Maps
theorem Looked.after {w : World} {ps : List MPiece} {KT O M2 : Nat} {at_ : Int} {la : Option Addr} {ln lc bs : Nat} {st : List MEnd × List MFlank} {K : Nat → Prop} {W W1 W' : World} {e : Ending} (h : Looked w ps KT O M2 at_ la ln lc bs st K W1 e W') (hb : Below W.heap.size W W1) : Looked w ps KT O M2 at_ la ln lc bs st K W e W' := by
  obtain ⟨h1, h2, K', h3, h4⟩ := h
  exact ⟨h1, (Only.of_below hb).trans h2, K', h3, h4.mono hb.size⟩
end Go.Proofs.Ytmkdgnmmebldgaa

namespace Go.Proofs.Ytmkdgnmmebldgaa
open Go.RowKit Go.Deep Go.Maps
end Go.Proofs.Ytmkdgnmmebldgaa

namespace Go.Proofs.Ytmkdgnmmebldgaa
open Go.RowKit Go.Deep Go.Maps
end Go.Proofs.Ytmkdgnmmebldgaa

namespace Go.Proofs.Ytmkdgnmmebldgaa
open Go.RowKit Go.Deep Go.Maps
end Go.Proofs.Ytmkdgnmmebldgaa

namespace Go.Proofs.Ytmkdgnmmebldgaa
open Go.RowKit Go.Deep
def kR : Nat → Nat
  | 0 => 2
  | 1 => 2
  | 2 => 1
  | 3 => 3
  | 4 => 3
  | _ => 4
def tR : Nat → Nat
  | 0 => 51
  | 1 => 48
  | 2 => 3
  | 3 => 44
  | 4 => 44
  | _ => 57
structure Tab where
  n : Nat → Nat → Nat
  ad : Nat → Nat → Option Addr
  cp : Nat → Nat → Nat
def offF (t : Tab) (p : Nat) : Nat → Int
  | 0 => 0
  | j + 1 => offF t p j + (t.n p j : Int) * (kR j : Int)
def kkF (t : Tab) (k : Int) : Nat → Int
  | 0 => k
  | p + 1 => kkF t k p + 2 + offF t p 6
structure MSt (G N R : Nat) (t : Tab) (k : Int) (w : World) (m i q : Nat) : Prop where
  row : ∃ f, w.rowIs G 42 N f ∧ (∀ p j, p < R → j < 6 → f (p * 8 + 2 + j) = .slice (t.ad p j) (t.n p j) (t.cp p j)) ∧ (∀ p, p < m → f (p * 8) = .int .i64 (kkF t k p) ∧ f (p * 8 + 1) = .int .i64 (kkF t k p + 1))
  own : ∀ p j, p < R → j < 6 → OwnA w (tR j) (kR j) (t.ad p j) (t.n p j)
  mark : ∀ p j, p < R → j < 6 → (p < i ∨ p = i ∧ j < q) → MarkA w (kR j) (t.ad p j) (t.n p j) (kkF t k p + 2 + offF t p j)
section
variable {G N R : Nat} {t : Tab} {k : Int} {w w' : World} {m i q : Nat}
theorem MSt.lt (h : MSt G N R t k w m i q) : G < w.heap.size := by
  obtain ⟨f, hf, _⟩ := h.row
  exact hf.lt
theorem MSt.next (h : MSt G N R t k w m i 6) : MSt G N R t k w m (i + 1) 0 :=
  ⟨h.row, h.own, fun p j hp hj hd => h.mark p j hp hj (by omega)⟩
theorem MSt.cell (h : MSt G N R t k w m i q) (hN : R * 8 ≤ N) {p : Nat} (hp : p < R) (j : Nat) (hj : j < 6) : w.cell? ⟨G, p * 8 + 2 + j, none⟩ = some (.slice (t.ad p j) (t.n p j) (t.cp p j)) := by
  obtain ⟨f, hf, h1, _⟩ := h.row
  rw [hf.cell (by omega), h1 p j hp hj]
end
theorem MSt.below {G N R : Nat} {t : Tab} {k : Int} {w w' : World} {m i q : Nat} (h : MSt G N R t k w m i q) (hb : Below w.heap.size w w') : MSt G N R t k w' m i q := by
  refine ⟨?_, fun p j hp hj => (h.own p j hp hj).kept (fun b hb' => hb.block b ((h.own p j hp hj).lt hb')), fun p j hp hj hd => (h.mark p j hp hj hd).kept (fun b hb' => hb.block b ((h.own p j hp hj).lt hb'))⟩
  obtain ⟨f, hf, h1, h2⟩ := h.row
  exact ⟨f, hf.of_block (hb.block G hf.lt), h1, h2⟩
end Go.Proofs.Ytmkdgnmmebldgaa

namespace Go.Proofs.Ytmkdgnmmebldgaa
open Go.RowKit Go.Deep Go.Maps
def adR (d : RAddr) : Nat → Option Addr
  | 0 => d.a0
  | 1 => d.a1
  | 2 => d.a2
  | 3 => d.a3
  | 4 => d.a4
  | _ => d.a5
def AdB (a : Option Addr) (b : Nat) : Prop := ∃ o s, a = some ⟨b, o, s⟩
structure RClaims (B : Nat) (w : World) (d : RAddr) (r : MRoute) : Prop where
  steps : w.ownsRow B 51 2 (.slice d.a0 r.steps.length d.c0) r.steps.length (flatE r.steps)
  lies : w.ownsRow B 48 2 (.slice d.a1 r.lies.length d.c1) r.lies.length (flatE r.lies)
  crosses : w.ownsRow B 3 1 (.slice d.a2 r.crosses.length d.c2) r.crosses.length (flatN r.crosses)
  parts : w.ownsRow B 44 3 (.slice d.a3 r.parts.length d.c3) r.parts.length (flatP r.parts)
  over : w.ownsRow B 44 3 (.slice d.a4 r.over.length d.c4) r.over.length (flatP r.over)
  flanks : w.ownsRow B 57 4 (.slice d.a5 r.flanks.length d.c5) r.flanks.length (flatF r.flanks)
  dis : ∀ i j, i < 6 → j < 6 → ∀ b, AdB (adR d i) b → AdB (adR d j) b → i = j
theorem owns_mono {w : World} {B B' e s n : Nat} {v : Value} {xs : List Value} (h : w.ownsRow B e s v n xs) (hB : B' ≤ B) : w.ownsRow B' e s v n xs :=
  ⟨h.1, h.2.imp id fun ⟨g, cap, cur, q1, q2, q3⟩ => ⟨g, cap, cur, q1, Nat.le_trans hB q2, q3⟩⟩
end Go.Proofs.Ytmkdgnmmebldgaa
