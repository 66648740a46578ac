import Derived.Test.YtmkdgnmmebldgaaGreatEx31
import Derived.RangeFuncLeaves
import Derived.RangeFuncNested
import Derived.Test.YtmkdgnmmebldgaaGreatEx24
import Derived.OwnWalkIn
import Derived.RangeFuncIn
import Derived.Deep.LoopGhost
namespace Go.Proofs.YtmkdgnmmebldgaaGreat
open Go.RowKit Go.Deep Go.Maps

/-! A range over a function that is a method's value: one law; the world at each round is the iterator's. -/

theorem range_law {P : Program} {n : Nat} {g : Operand} {ps : Array Tmp} {assign body : Code} {Q : Exit → Act → World → Prop} {a : Act} {w : World} (gf : Nat) (first : Array Value) (hg : a.eval g = .func (.func gf) first #[]) (eg : ∀ args w, (callFunc gf args).run P w = .ok (.enter gf args) w)
    (h : ∀ (fn : FuncId) (rec : LoopState → Option Code → Loop), (rec = fun st pe => { state := st, pending := pe, fn, tmps := a.tmps, params := ps, assign, body, defers := w.heap.size }) →
      CallsIn Fence.wide (n - 1) P gf (first ++ #[.func (.yield (w.heap.size + 1)) #[] #[]]) ((w.alloc (.deferred (some []))).alloc (.loop (rec .ready none))) (rangePost Fence.wide n P (w.heap.size + 1) Q { a with defers := [{ target := .collected w.heap.size, args := #[] }] ++ a.defers })) :
    (Code.rangeFunc g ps assign body).wpIn Fence.wide n P Q a w := by
  refine wpIn_rangeFunc ?_
  intro fn _
  obtain ⟨rec, hrec⟩ : ∃ rec : LoopState → Option Code → Loop, rec = fun st pe => { state := st, pending := pe, fn, tmps := a.tmps, params := ps, assign, body, defers := w.heap.size } := ⟨_, rfl⟩
  have h1 := h fn rec hrec
  have he : (Instr.enterLoop fn a.tmps ps assign body Fence.wide.round).run P w = .ok (w.heap.size + 1, [{ target := .collected w.heap.size, args := #[] }]) ((w.alloc (.deferred (some []))).alloc (.loop (rec .ready none))) := by
    have h0 : Fence.wide.round = none := rfl
    rw [hrec, h0]
    exact run_enterLoop_outer _ _ _ _ _
  obtain ⟨W1, hW1⟩ : ∃ W1, (w.alloc (.deferred (some []))).alloc (.loop (rec .ready none)) = W1 := ⟨_, rfl⟩
  rw [hW1] at h1 he
  refine ⟨w.heap.size + 1, [{ target := .collected w.heap.size, args := #[] }], W1, { target := .fn (.func gf) #[], args := first ++ #[.func (.yield (w.heap.size + 1)) #[] #[]] }, W1, gf, first ++ #[.func (.yield (w.heap.size + 1)) #[] #[]], W1, he, ?_, ?_, ?_, ?_, ?_⟩
  · simp only [resolve, hg]
    simp [go_sem]
  · intro _ _
    trivial
  · simp [invoke, go_sem, eg]
  · intro h
    cases h
  · exact h1

/-! Paths in a row. -/

def encQ (x : PAddr × MPath) : List Value := [.int .i64 x.2.start, .int .i64 x.2.stop, .bool x.2.ended, .slice x.1.a0 x.2.steps.length x.1.c0, .slice x.1.a1 x.2.lies.length x.1.c1, .slice x.1.a2 x.2.crosses.length x.1.c2]
def flatQ (xs : List (PAddr × MPath)) : List Value := xs.flatMap encQ
theorem flatQ_len (xs : List (PAddr × MPath)) : (flatQ xs).length = xs.length * 6 := flat_len encQ 6 (fun _ => rfl) xs
theorem flatQ_snoc (xs : List (PAddr × MPath)) (x : PAddr × MPath) : flatQ xs ++ encQ x = flatQ (xs ++ [x]) := by simp [flatQ]

/-- The rounds' own: the loop's record, the mark's block, the variables. -/
structure EInv (w0 : World) (l D A B C bs : Nat) (rec : LoopState → Option Code → Loop) (K : Nat → Prop) (E : List MPath) (W : World) : Prop where
  below : Below w0.heap.size w0 W
  loop : W.heap[l]? = some (.loop (rec .ready none))
  dfr : W.heap[D]? = some (.deferred (some []))
  come : W.rowIs C 3 1 (fun _ => .int .i64 (E.length : Int))
  res : W.rowIs B 72 1 (fun _ => .slice none 0 0)
  own : ∃ (x : Option Addr) (y : Nat) (xs : List (PAddr × MPath)), W.rowIs A 72 1 (fun _ => .slice x xs.length y) ∧ W.ownsRow bs 75 6 (.slice x xs.length y) xs.length (flatQ xs) ∧ xs.map Prod.snd = endedL E ∧ (∀ q ∈ xs, PAway K W q.1 q.2) ∧
    ∀ k, K k ↔ k = l ∨ k = D ∨ k = A ∨ k = B ∨ k = C ∨ (Value.slice x xs.length y).ownBlock = some k
  few : E.length ≤ 20000 ∧ (endedL E).length ≤ 300
  low : w0.heap.size ≤ B ∧ B < A ∧ A < C ∧ C < D ∧ D < l ∧ l < bs
structure EStop (w0 : World) (l D B : Nat) (rec : LoopState → Option Code → Loop) (E : List MPath) (W : World) : Prop where
  below : Below w0.heap.size w0 W
  loop : W.heap[l]? = some (.loop (rec .done (some .ret)))
  dfr : W.heap[D]? = some (.deferred (some []))
  res : W.rowIs B 72 1 (fun _ => .slice none 0 0)
  past : 20000 < E.length ∨ 300 < (endedL E).length

theorem get_lt {w : World} {k : Nat} {o : Obj} (h : w.heap[k]? = some o) : k < w.heap.size := (Array.getElem?_eq_some_iff.1 h).1
theorem EInv.lt {w0 : World} {l D A B C bs : Nat} {rec : LoopState → Option Code → Loop} {K : Nat → Prop} {E : List MPath} {W : World} (h : EInv w0 l D A B C bs rec K E W) : ∀ k, K k → k < W.heap.size := by
  intro k hk
  obtain ⟨x, y, xs, h1, h2, _, _, h5⟩ := h.own
  rcases (h5 k).1 hk with rfl | rfl | rfl | rfl | rfl | hk
  · exact get_lt h.loop
  · exact get_lt h.dfr
  · exact h1.lt
  · exact h.res.lt
  · exact h.come.lt
  · exact (h2.lt k hk).2
theorem EInv.keep {w0 : World} {l D A B C bs : Nat} {rec : LoopState → Option Code → Loop} {K : Nat → Prop} {E : List MPath} {W W' : World} (h : EInv w0 l D A B C bs rec K E W) (hb : Below W.heap.size W W') : EInv w0 l D A B C bs rec K E W' := by
  obtain ⟨x, y, xs, h1, h2, h3, h4, h5⟩ := h.own
  exact ⟨h.below.trans (hb.mono h.below.size), (hb.block _ (get_lt h.loop)).trans h.loop, (hb.block _ (get_lt h.dfr)).trans h.dfr, h.come.of_block (hb.block _ h.come.lt), h.res.of_block (hb.block _ h.res.lt),
    ⟨x, y, xs, h1.of_block (hb.block _ h1.lt), owns_below h2 hb, h3, fun q hq => (h4 q hq).below hb, h5⟩, h.few, h.low⟩
theorem EStop.keep {w0 : World} {l D B : Nat} {rec : LoopState → Option Code → Loop} {E : List MPath} {W W' : World} (h : EStop w0 l D B rec E W) (hb : Below W.heap.size W W') : EStop w0 l D B rec E W' :=
  ⟨h.below.trans (hb.mono h.below.size), (hb.block _ (get_lt h.loop)).trans h.loop, (hb.block _ (get_lt h.dfr)).trans h.dfr, h.res.of_block (hb.block _ h.res.lt), h.past⟩

theorem append_sharp {P : Program} (w : World) (base : Nat) (t ty e : TypeId) (i : TypeInfo) (z : Value) (size bytes : Nat) (ht : P.underlying t = some (.slice e)) (hi : P.info? e = some i) (hz : i.zero = some z) (hsize : i.size = size) (hby : i.bytes = bytes) (hzs : z.cells.size = size) (hsz : 0 < size)
    (v : Value) (n : Nat) (xs : List Value) (hown : w.ownsRow base e size v n xs) (a : Addr) (m c : Nat) (news : List Value) (hl : news.length = m * size) (hnews : ∀ j u, news[j]? = some u → w.cell? (a.add j) = some u) (h1 : ∀ u ∈ news, u.oneCell' = true)
    (h63 : n + m ≤ maxLen) (hbytes : (n + m) * bytes ≤ 140737488355328) (hbase : base ≤ w.heap.size) :
    ∃ v' w', (Builtin.append_ #[t, t] ty #[v, .slice (some a) m c]).run P w = .ok v' w' ∧ w'.ownsRow base e size v' (n + m) (xs ++ news) ∧ w.grownBy w' v.ownBlock ∧ ∀ k, v'.ownBlock = some k → v.ownBlock = some k ∨ w.heap.size ≤ k := by
  have hsmall : n + m ≤ 9223372036854775807 := by simp only [maxLen] at h63; omega
  rcases hown.2 with ⟨hv, hn⟩ | ⟨g, cap, cur, hv, hbg, hg, hnc, hcm, hcs, htake⟩
  · have hown2 : w.ownsRow w.heap.size e size v n xs := ⟨hown.1, Or.inl ⟨hv, hn⟩⟩
    obtain ⟨v', w', r1, r2, r3, _⟩ := run_append_own (P := P) w w.heap.size t ty e i z size bytes ht hi hz hsize hby hzs hsz v n xs hown2 a m c news hl hnews h1 h63 hbytes (Nat.le_refl _)
    exact ⟨v', w', r1, ⟨r2.1, r2.2.imp id fun ⟨g, cap, cur, q1, q2, q3⟩ => ⟨g, cap, cur, q1, Nat.le_trans hbase q2, q3⟩⟩, r3, fun k hk => Or.inr (r2.lt k hk).1⟩
  · subst hv
    by_cases hroom : n + m ≤ cap
    · obtain ⟨w', r1, r2, r3⟩ := run_append_fits (P := P) w base t ty e i size ht hi hsize g n cap xs hown a m c news hl hnews h1 hroom
      exact ⟨_, w', r1, r2, r3, fun k hk => Or.inl hk⟩
    · obtain ⟨v', w', r1, r2, r3, _⟩ := run_append_own (P := P) w base t ty e i z size bytes ht hi hz hsize hby hzs hsz _ n xs hown a m c news hl hnews h1 h63 hbytes hbase
      have holds : ∀ j u, xs[j]? = some u → w.cell? ((⟨g, 0, none⟩ : Addr).add j) = some u := hown.cells (g := g) rfl
      have hr := run_append_grow (P := P) w t ty e i z ht hi hz ⟨g, 0, none⟩ n cap xs (by rw [hsize]; exact hown.1) holds a m c news (by rw [hsize]; exact hl) hnews (by omega) (by omega) (by rw [hby]; exact growslice_fits (by omega) hbytes)
      rw [hr] at r1
      injection r1 with q1 q2
      refine ⟨v', w', by rw [hr, q1, q2], r2, r3, fun k hk => Or.inr ?_⟩
      rw [← q1] at hk
      injection hk with hk
      exact Nat.le_of_eq hk
theorem wpListIn_append_sharp {F : Fence} {m0 : Nat} {P : Program} (w : World) {ops : Array Oper} {rest : List Oper} {o : Oper} {a : Act} {Q : Exit → Act → World → Prop}
    (hg : o.guard = none) (s x : Operand) (t : TypeId) (hop : o.op = Op.call { callee := Callee.builtin Builtin.append, args := #[s, x], argTypes := #[t, t] })
    (base : Nat) (e : TypeId) (z : Value) (size bytes : Nat) (h1 : P.underlying t = some (.slice e)) (hi : (P.info? e).map (fun i => (i.zero, i.size, i.bytes)) = some (some z, size, bytes)) (h6 : z.cells.size = size) (h7 : 0 < size)
    (v : Value) (k : Nat) (xs : List Value) (hs : a.eval s = v) (hown : w.ownsRow base e size v k xs) (ad : Addr) (c : Nat) (news : List Value) (hx : a.eval x = .slice (some ad) 1 c) (hn : news.length = size)
    (hc : ∀ j u, news[j]? = some u → w.cell? (ad.add j) = some u) (h1c : ∀ u ∈ news, u.oneCell' = true) (b1 : k + 1 ≤ maxLen) (b2 : (k + 1) * bytes ≤ 140737488355328) (b3 : base ≤ w.heap.size)
    (hK : ∀ x' y' w', w'.ownsRow base e size (.slice x' (k + 1) y') (k + 1) (xs ++ news) → w.grownBy w' v.ownBlock → (∀ b, (Value.slice x' (k + 1) y').ownBlock = some b → v.ownBlock = some b ∨ w.heap.size ≤ b) → wpListIn F m0 P ops Q rest (a.put o.dst (.slice x' (k + 1) y')) w') :
    wpListIn F m0 P ops Q (o :: rest) a w := by
  refine wpListIn_plain hg fun K hK' => ?_
  obtain ⟨i, h2, h3, h4, h5⟩ := info_parts hi
  obtain ⟨v', w', hrun, r1, r2, r3⟩ := append_sharp (P := P) w base t o.type e i z size bytes h1 h2 h3 h4 h5 h6 h7 v k xs hown ad 1 c news (by omega) hc h1c b1 b2 b3
  obtain ⟨x', y', e1, _⟩ := owns_shape r1
  subst e1
  unfold Oper.wpIn
  refine ⟨?_, ?_⟩
  · simp [Oper.about, hop, resolve, Target.leads, Sem.run_pure]
  · rw [Oper.semAt_plain F _ _ (by rw [hop]; intro c hc'; cases hc')]
    simp [execOp, hop, resolve, invoke, builtin, hs, hx, hrun, Result.andThen]
    exact hK' _ _ (hK x' y' w' r1 r2 r3)

theorem Tryz.infoPath : (Tryz.prog.info? 75).map (fun i => (i.zero, i.size, i.bytes)) = some (some (.agg #[.int .i64 0, .int .i64 0, .bool false, .slice none 0 0, .slice none 0 0, .slice none 0 0]), 6, 96) := by kernel_rfl
theorem wpListIn_push_sharp {F : Fence} {m0 : Nat} {P : Program} {Wp : World} {ops : Array Oper} {rest : List Oper} {o : Oper} {a : Act} {Q : Exit → Act → World → Prop} (hg : o.guard = none) (s x : Operand) (t : TypeId)
    (hop : o.op = Op.call { callee := Callee.builtin Builtin.append, args := #[s, x], argTypes := #[t, t] })
    (base : Nat) (e : TypeId) (z : Value) (size bytes : Nat) (h1 : P.underlying t = some (.slice e)) (hi : (P.info? e).map (fun i => (i.zero, i.size, i.bytes)) = some (some z, size, bytes)) (h6 : z.cells.size = size) (h7 : 0 < size)
    (v : Value) (k : Nat) (xs : List Value) (hs : a.eval s = v) (hown : Wp.ownsRow base e size v k xs) (g : Nat) (hgs : g = Wp.heap.size) (news : List Value) (hx : a.eval x = .slice (some ⟨g, 0, none⟩) 1 1) (hn : news.length = size)
    (h1c : ∀ u ∈ news, u.oneCell' = true) (b1 : k + 1 ≤ maxLen) (b2 : (k + 1) * bytes ≤ 140737488355328) (b3 : base ≤ Wp.heap.size)
    (hK : ∀ x' y' w', w'.ownsRow base e size (.slice x' (k + 1) y') (k + 1) (xs ++ news) → Wp.grownBy w' v.ownBlock → (∀ b, (Value.slice x' (k + 1) y').ownBlock = some b → v.ownBlock = some b ∨ Wp.heap.size ≤ b) → wpListIn F m0 P ops Q rest (a.put o.dst (.slice x' (k + 1) y')) w') :
    wpListIn F m0 P ops Q (o :: rest) a (Wp.alloc (.cells news.toArray e)) := by
  subst hgs
  refine wpListIn_append_sharp _ hg s x t hop base e z size bytes h1 hi h6 h7 v k xs hs (hown.alloc _) ⟨Wp.heap.size, 0, none⟩ 1 news hx hn ?_ h1c b1 b2 (by simp; omega) ?_
  · intro j u hu
    rw [addr_at, Nat.zero_add]
    have := cell_of_row (Wp.alloc (.cells news.toArray e)) Wp.heap.size j news.toArray e (0, 0) (heap_alloc_new Wp _)
    rw [this]
    simpa using hu
  · intro x' y' w' r1 r2 r3
    refine hK x' y' w' r1 ⟨r2.os, r2.tape, r2.output, Nat.le_trans (by simp) r2.size, fun k hk hne => ?_⟩ (fun b hb => (r3 b hb).imp id (fun h => Nat.le_trans (by simp) h))
    exact (r2.block k (by simp; omega) hne).trans (Below.heap_alloc _ _ _ hk)

theorem row_one {w : World} {b T : Nat} {f : Nat → Value} {v : Value} (h : w.rowIs b T 1 f) (hv : f 0 = v) : w.rowIs b T 1 (fun _ => v) := by
  obtain ⟨c, h1, h2, h3⟩ := h
  refine ⟨c, h1, h2, fun i hi => ?_⟩
  have : i = 0 := by omega
  subst this
  rw [h3 0 hi, hv]
theorem endedL_snoc (E : List MPath) (p : MPath) : endedL (E ++ [p]) = endedL E ++ (if p.ended = true then [p] else []) := by
  rw [endedL_app]
  unfold endedL
  by_cases h : p.ended = true
  · simp [h]
  · simp [h]

/-- A round's end: the rounds go on. -/
theorem round_on {w0 : World} {l D A B C bs : Nat} {rec : LoopState → Option Code → Loop} {K : Nat → Prop} {E : List MPath} {p : MPath} {W Wn : World} (hI : EInv w0 l D A B C bs rec K E W) (hrec : ∀ st pe, ({ rec .ready none with state := st, pending := pe } : Loop) = rec st pe)
    (hl : Wn.heap[l]? = some (.loop { rec .ready none with state := .busy })) (hO : Only K W Wn) (hC : Wn.rowIs C 3 1 (fun _ => .int .i64 ((E.length + 1 : Nat) : Int)))
    (hown : ∃ (x : Option Addr) (y : Nat) (xs : List (PAddr × MPath)), Wn.rowIs A 72 1 (fun _ => .slice x xs.length y) ∧ Wn.ownsRow bs 75 6 (.slice x xs.length y) xs.length (flatQ xs) ∧ xs.map Prod.snd = endedL (E ++ [p]) ∧ (∀ q ∈ xs, PAway K W q.1 q.2) ∧ ∀ k, (Value.slice x xs.length y).ownBlock = some k → K k ∨ W.heap.size ≤ k)
    (hB : Wn.rowIs B 72 1 (fun _ => .slice none 0 0)) (hD : Wn.heap[D]? = some (.deferred (some []))) (hf : E.length + 1 ≤ 20000 ∧ (endedL (E ++ [p])).length ≤ 300) (Sx : World → Prop) :
    ∃ v w', (Instr.endRound l none).run Tryz.prog Wn = .ok v w' ∧ Visited (fun K' u => EInv w0 l D A B C bs rec K' (E ++ [p]) u) Sx K W (.returned v) w' := by
  refine ⟨_, _, run_endRound none hl, ?_⟩
  have hlt := get_lt hl
  have hlow := hI.low
  obtain ⟨x, y, xs, g1, g2, g3, g4, g5⟩ := hown
  obtain ⟨x0, y0, xs0, _, k2, _, _, k5⟩ := hI.own
  have hKl : K l := (k5 l).2 (Or.inl rfl)
  generalize hwn : Wn.putObj l _ = w'
  have hOn : Only (fun k => k = l) Wn w' := by
    rw [← hwn]
    exact Only.of_grown (grownBy_putObj' _ _ _) (fun k e => by cases e; rfl)
  have hl' : w'.heap[l]? = some (.loop (rec .ready none)) := by
    rw [← hwn]
    refine (World.putObj_heap_same hlt).trans ?_
    congr 2
    exact hrec .ready none
  clear hwn
  have hO2 : Only K W w' := hO.trans (hOn.mono (fun k hk => by subst hk; exact hKl))
  have hG : Grow K (fun k => k = l ∨ k = D ∨ k = A ∨ k = B ∨ k = C ∨ (Value.slice x xs.length y).ownBlock = some k) W := by
    intro k hk
    rcases hk with h | h | h | h | h | h
    · exact Or.inl ((k5 k).2 (Or.inl h))
    · exact Or.inl ((k5 k).2 (Or.inr (Or.inl h)))
    · exact Or.inl ((k5 k).2 (Or.inr (Or.inr (Or.inl h))))
    · exact Or.inl ((k5 k).2 (Or.inr (Or.inr (Or.inr (Or.inl h)))))
    · exact Or.inl ((k5 k).2 (Or.inr (Or.inr (Or.inr (Or.inr (Or.inl h))))))
    · exact g5 k h
  have hKw : ∀ k, K k → w0.heap.size ≤ k := by
    intro k hk
    rcases (k5 k).1 hk with h | h | h | h | h | h
    · omega
    · omega
    · omega
    · omega
    · omega
    · have := (k2.lt k h).1
      omega
  refine ⟨true, rfl, hO2, fun _ => ⟨_, ?_, hG⟩, fun h => by cases h⟩
  refine ⟨hI.below.trans (hO2.below hI.below.size (fun k hk e => by have := hKw k e; omega)), hl', (hOn.block _ (get_lt hD) (by show ¬ D = l; omega)).trans hD, ?_, hB.of_block (hOn.block _ hB.lt (by show ¬ B = l; omega)), ⟨x, y, xs, g1.of_block (hOn.block _ g1.lt (by show ¬ A = l; omega)), owns_only g2 hOn (fun k hk => by omega), g3, fun q hq => (g4 q hq).thru hO2 hG, fun k => Iff.rfl⟩, ⟨by simpa using hf.1, hf.2⟩, hlow⟩
  have := hC.of_block (hOn.block _ hC.lt (by show ¬ C = l; omega))
  simpa using this
/-- A round's end: no more rounds. -/
theorem round_off {w0 : World} {l D A B C bs : Nat} {rec : LoopState → Option Code → Loop} {K : Nat → Prop} {E : List MPath} {p : MPath} {W Wn : World} (hI : EInv w0 l D A B C bs rec K E W) (hrec : ∀ st pe, ({ rec .ready none with state := st, pending := pe } : Loop) = rec st pe)
    (hl : Wn.heap[l]? = some (.loop { rec .ready none with state := .busy })) (hO : Only K W Wn)
    (hB : Wn.rowIs B 72 1 (fun _ => .slice none 0 0)) (hD : Wn.heap[D]? = some (.deferred (some []))) (hf : 20000 < E.length + 1 ∨ 300 < (endedL (E ++ [p])).length) (J : (Nat → Prop) → World → Prop) :
    ∃ v w', (Instr.endRound l (some .ret)).run Tryz.prog Wn = .ok v w' ∧ Visited J (fun u => EStop w0 l D B rec (E ++ [p]) u) K W (.returned v) w' := by
  refine ⟨_, _, run_endRound (some .ret) hl, ?_⟩
  have hlt := get_lt hl
  have hlow := hI.low
  obtain ⟨x1, y1, xs1, _, j2, _, _, k5⟩ := hI.own
  have hKl : K l := (k5 l).2 (Or.inl rfl)
  generalize hwn : Wn.putObj l _ = w'
  have hOn : Only (fun k => k = l) Wn w' := by
    rw [← hwn]
    exact Only.of_grown (grownBy_putObj' _ _ _) (fun k e => by cases e; rfl)
  have hl' : w'.heap[l]? = some (.loop (rec .done (some .ret))) := by
    rw [← hwn]
    refine (World.putObj_heap_same hlt).trans ?_
    congr 2
    exact hrec .done (some .ret)
  clear hwn
  have hO2 : Only K W w' := hO.trans (hOn.mono (fun k hk => by subst hk; exact hKl))
  have hKw : ∀ k, K k → w0.heap.size ≤ k := by
    intro k hk
    rcases (k5 k).1 hk with h | h | h | h | h | h
    · omega
    · omega
    · omega
    · omega
    · omega
    · have := (j2.lt k h).1
      omega
  refine ⟨false, rfl, hO2, (fun h => by cases h), fun _ => ⟨hI.below.trans (hO2.below hI.below.size (fun k hk e => by have := hKw k e; omega)), hl', (hOn.block _ (get_lt hD) (by show ¬ D = l; omega)).trans hD, hB.of_block (hOn.block _ hB.lt (by show ¬ B = l; omega)), ?_⟩⟩
  simpa using hf

/-- Paths that lie in a row, with their lists. -/
def PathsOut (w : World) (v : Value) (L : List MPath) : Prop :=
  ∃ (x : Option Addr) (y : Nat) (xs : List (PAddr × MPath)), v = .slice x xs.length y ∧ xs.map Prod.snd = L ∧
    (xs = [] ∨ ∃ b, x = some ⟨b, 0, none⟩ ∧ ∀ i (h : i < xs.length) j u, (encQ xs[i])[j]? = some u → w.cell? ⟨b, i * 6 + j, none⟩ = some u) ∧ ∀ q ∈ xs, PListsAt w q.1 q.2
theorem PathsOut.nil (w : World) : PathsOut w (.slice none 0 0) [] := ⟨none, 0, [], rfl, rfl, Or.inl rfl, fun q hq => by cases hq⟩
theorem PathsOut.below {w w' : World} {v : Value} {L : List MPath} (h : PathsOut w v L) (hb : Below w.heap.size w w') : PathsOut w' v L := by
  obtain ⟨x, y, xs, h1, h2, h3, h4⟩ := h
  refine ⟨x, y, xs, h1, h2, ?_, fun q hq => (h4 q hq).below hb⟩
  rcases h3 with h3 | ⟨b, h3, h5⟩
  · exact Or.inl h3
  · exact Or.inr ⟨b, h3, fun i hi j u hu => cell_later hb (h5 i hi j u hu)⟩
theorem encQ_len (x : PAddr × MPath) : (encQ x).length = 6 := rfl
theorem PathsOut.of_own {w : World} {B e : Nat} {x : Option Addr} {y : Nat} {xs : List (PAddr × MPath)} (h : w.ownsRow B e 6 (.slice x xs.length y) xs.length (flatQ xs)) (hp : ∀ q ∈ xs, PListsAt w q.1 q.2) : PathsOut w (.slice x xs.length y) (xs.map Prod.snd) := by
  refine ⟨x, y, xs, rfl, rfl, ?_, hp⟩
  rcases h.2 with ⟨h1, h2⟩ | ⟨g, cap, cur, h1, _⟩
  · exact Or.inl (List.eq_nil_of_length_eq_zero h2)
  · injection h1 with h1
    refine Or.inr ⟨g, h1, fun i hi j u hu => ?_⟩
    have hj : j < 6 := by rw [← encQ_len xs[i]]; exact (List.getElem?_eq_some_iff.1 hu).1
    subst h1
    have hc := h.cells rfl (i * 6 + j) u
    rw [addr_at, Nat.zero_add] at hc
    refine hc ?_
    have := flat_get encQ 6 (fun _ => rfl) xs i j hi hj
    rw [← hu]
    exact this
abbrev fitsB (ps : List MPiece) (js : List MJoint) (ss : List MPiece) : Prop := (allEvs ps js ss ss.length).length ≤ 20000 ∧ (endedL (allEvs ps js ss ss.length)).length ≤ 300
def pathsF (ps : List MPiece) (js : List MJoint) (ss : List MPiece) : List MPath := if fitsB ps js ss then endedL (allEvs ps js ss ss.length) else []

set_option maxRecDepth 100000 in
set_option maxHeartbeats 4000000 in
theorem endedPaths_any (KT M : Nat) (pa ja sa : Option Addr) (pc jc sc : Nat) (ps : List MPiece) (js : List MJoint) (ss : List MPiece) (R : Hid (Right ps js ss)) (w : World) (hT : Hid (TTrack w KT M pa ja sa pc jc sc ps js ss)) :
    Calls Tryz.prog 29 #[.pointer (some ⟨KT, 0, none⟩)] w (fun e w' => ∃ v, e = .returned v ∧ PathsOut w' v (pathsF ps js ss) ∧ Below w.heap.size w w') := by
  have hmf : ∀ (fn : Fn) (first cap : Array Value) (w : World), (Instr.makeFunc fn first cap).run Tryz.prog w = .ok (.func fn first cap) w := fun _ _ _ _ => rfl
  refine (callsIn_wide (n := 0)).1 (callsIn_of_wp_marks Tryz.func29 rfl trivial ?_)
  simp only [Tryz.ntmps29, List.size_toArray, List.length_cons, List.length_nil, Nat.reduceAdd, Nat.reduceSub, Array.replicate_succ, Array.replicate_zero, List.push_toArray, List.append_toArray, List.nil_append, List.cons_append]
  gi_wp2_with fail
  generalize hW : World.alloc (World.alloc (World.alloc w _) _) _ = W
  have HBW : Hid (Below w.heap.size w W) := by rw [← hW]; exact (by repeat (first | exact Below.refl _ _ | assumption | refine Below.drew ?_ | refine bdrewN ?_ _ | refine Below.setCell ?_ (by first | omega | (simp; done) | (simp; omega)) _ | refine Below.alloc ?_ (by first | omega | (simp; done) | (simp; omega)) _))
  have hz : W.heap.size = w.heap.size + 1 + 1 + 1 := by rw [← hW]; simp
  have HC : Hid (W.rowIs (w.heap.size + 1 + 1) 3 1 (fun _ => .int .i64 0)) := by
    unfold Hid
    rw [← hW]
    have := World.rowIs_alloc ((w.alloc (Obj.cells #[Value.slice none 0 0] 72)).alloc (Obj.cells #[Value.slice none 0 0] 72)) #[.int .i64 0] 3 (fun _ => .int .i64 0) (by intro i hi; have hi' : i < 1 := hi; match i, hi' with | 0, _ => rfl)
    simpa using this
  have HA : Hid (W.rowIs (w.heap.size + 1) 72 1 (fun _ => .slice none 0 0)) := by
    unfold Hid
    rw [← hW]
    have := World.rowIs_alloc (w.alloc (Obj.cells #[Value.slice none 0 0] 72)) #[.slice none 0 0] 72 (fun _ => .slice none 0 0) (by intro i hi; have hi' : i < 1 := hi; match i, hi' with | 0, _ => rfl)
    simpa using this.alloc (Obj.cells #[Value.int IntKind.i64 0] 3)
  have HB : Hid (W.rowIs w.heap.size 72 1 (fun _ => .slice none 0 0)) := by
    unfold Hid
    rw [← hW]
    have := World.rowIs_alloc w #[.slice none 0 0] 72 (fun _ => .slice none 0 0) (by intro i hi; have hi' : i < 1 := hi; match i, hi' with | 0, _ => rfl)
    simpa using (this.alloc (Obj.cells #[Value.slice none 0 0] 72)).alloc (Obj.cells #[Value.int IntKind.i64 0] 3)
  clear hW
  refine range_law 65 #[.pointer (some ⟨KT, 0, none⟩)] rfl (fun args u => by kernel_rfl) ?_
  intro fn rec hrec
  generalize hW1 : (W.alloc (.deferred (some []))).alloc (.loop (rec .ready none)) = W1
  have hb1 : Below W.heap.size W W1 := by rw [← hW1]; exact (by repeat (first | exact Below.refl _ _ | assumption | refine Below.drew ?_ | refine bdrewN ?_ _ | refine Below.setCell ?_ (by first | omega | (simp; done) | (simp; omega)) _ | refine Below.alloc ?_ (by first | omega | (simp; done) | (simp; omega)) _))
  have hL1 : W1.heap[W.heap.size + 1]? = some (.loop (rec .ready none)) := by
    rw [← hW1]
    have := World.alloc_heap_new (W.alloc (.deferred (some []))) (.loop (rec .ready none))
    rwa [World.size_alloc] at this
  have hD1 : W1.heap[W.heap.size]? = some (.deferred (some [])) := by
    rw [← hW1]
    exact (Below.heap_alloc _ _ _ (by simp)).trans (World.alloc_heap_new W _)
  have hz1 : W1.heap.size = W.heap.size + 2 := by rw [← hW1]; simp
  clear hW1 hmf
  have HI0 : Hid (EInv w (W.heap.size + 1) W.heap.size (w.heap.size + 1) w.heap.size (w.heap.size + 1 + 1) (W.heap.size + 2) rec (fun k => k = W.heap.size + 1 ∨ k = W.heap.size ∨ k = w.heap.size + 1 ∨ k = w.heap.size ∨ k = w.heap.size + 1 + 1) [] W1) := by
    refine ⟨HBW.out.trans (hb1.mono HBW.out.size), hL1, hD1, HC.out.of_block (hb1.block _ HC.out.lt), HB.out.of_block (hb1.block _ HB.out.lt), ⟨none, 0, [], HA.out.of_block (hb1.block _ HA.out.lt), ⟨rfl, Or.inl ⟨rfl, rfl⟩⟩, rfl, fun q hq => (by cases hq), fun k => by simp [Value.ownBlock]⟩, ⟨by simp, by simp [endedL]⟩, by omega⟩
  clear HC HA HB hL1 hD1
  have HY : Hid (∀ K E W2 d p, EInv w (W.heap.size + 1) W.heap.size (w.heap.size + 1) w.heap.size (w.heap.size + 1 + 1) (W.heap.size + 2) rec K E W2 → PAway K W2 d p → YieldAt Fence.wide 0 Tryz.prog (W.heap.size + 1) #[pathV d p] W2 (Visited (fun K' u => EInv w (W.heap.size + 1) W.heap.size (w.heap.size + 1) w.heap.size (w.heap.size + 1 + 1) (W.heap.size + 2) rec K' (E ++ [p]) u) (fun u => EStop w (W.heap.size + 1) W.heap.size w.heap.size rec (E ++ [p]) u) K W2)) := by
    intro K E W2 d p hI hP
    have hy := run_yield (P := Tryz.prog) (args := #[pathV d p]) hI.loop (by rw [hrec]; rfl)
    rw [hrec] at hy
    refine ⟨_, _, _, _, hy, roundIn_of_wpIn trivial ?_⟩
    clear hy
    have HI := hidP hI
    have HP := hidP hP
    have HZ := hidP hz
    have HZ1 := hidP hz1
    have HREC : Hid (∀ st pe, ({ rec .ready none with state := st, pending := pe } : Loop) = rec st pe) := by
      unfold Hid
      rw [hrec]
      intro st pe
      rfl
    have hrs : (rec .ready none).state = .ready := by rw [hrec]
    clear hI hP hz hz1 HI0 hrec
    unfold pathV
    dsimp only
    have ht : ((#[8] : Array Tmp).zip #[Value.agg #[.int .i64 p.start, .int .i64 p.stop, .bool p.ended, .slice d.a0 p.steps.length d.c0, .slice d.a1 p.lies.length d.c1, .slice d.a2 p.crosses.length d.c2]]).foldl (fun tmps (x : Tmp × Value) => tmps.setIfInBounds x.1 x.2) (#[Value.pointer (some { block := KT, off := 0 }), undef, Value.pointer (some { block := w.heap.size, off := 0 }), Value.pointer (some { block := w.heap.size + 1, off := 0 }), Value.pointer (some { block := w.heap.size + 1 + 1, off := 0 }), undef, Value.pointer (some { block := KT, off := 0 }), Value.func (Fn.func 65) #[Value.pointer (some { block := KT, off := 0 })] #[], undef, undef, undef, undef, undef, undef, undef, undef, undef, undef, undef, undef, undef, undef, undef, undef, undef] : Array Value) = #[Value.pointer (some { block := KT, off := 0 }), undef, Value.pointer (some { block := w.heap.size, off := 0 }), Value.pointer (some { block := w.heap.size + 1, off := 0 }), Value.pointer (some { block := w.heap.size + 1 + 1, off := 0 }), undef, Value.pointer (some { block := KT, off := 0 }), Value.func (Fn.func 65) #[Value.pointer (some { block := KT, off := 0 })] #[], Value.agg #[.int .i64 p.start, .int .i64 p.stop, .bool p.ended, .slice d.a0 p.steps.length d.c0, .slice d.a1 p.lies.length d.c1, .slice d.a2 p.crosses.length d.c2], undef, undef, undef, undef, undef, undef, undef, undef, undef, undef, undef, undef, undef, undef, undef, undef] := by kernel_rfl
    rw [ht]
    clear ht
    have hsa : ∀ (ρ : Operand → Value) (o : Oper), (∀ c, o.op ≠ .defer c) → Oper.semAt (some (W.heap.size + 1)) ρ o = execOp ρ o := fun ρ o h => Oper.semAt_some _ ρ o h
    have HRS := hidP hrs
    clear hrs
    gi_wp2_with fail
    have hbx : Below W2.heap.size W2 (W2.alloc (Obj.cells #[Value.int .i64 p.start, .int .i64 p.stop, .bool p.ended, .slice d.a0 p.steps.length d.c0, .slice d.a1 p.lies.length d.c1, .slice d.a2 p.crosses.length d.c2] 75)) := (Below.refl _ _).alloc (Nat.le_refl _) _
    refine ⟨_, run_beginRound ((hbx.block _ (get_lt HI.out.loop)).trans HI.out.loop) HRS.out, ?_⟩
    generalize hU : World.putObj (World.alloc W2 _) _ _ = U
    have hlt := get_lt HI.out.loop
    have hlow := HI.out.low
    obtain ⟨x, y, xs, k1, k2, k3, k4, k5⟩ := HI.out.own
    have hOU : Only (fun k => k = W.heap.size + 1) W2 U := by
      rw [← hU]
      exact (Only.of_below hbx).trans (Only.of_grown (grownBy_putObj' _ _ _) (fun k e => by cases e; rfl))
    have hlU : U.heap[W.heap.size + 1]? = some (.loop { rec .ready none with state := .busy }) := by
      rw [← hU]
      exact World.putObj_heap_same (by simp; omega)
    have hX : U.rowIs W2.heap.size 75 6 (fun i : Nat => (#[Value.int .i64 p.start, .int .i64 p.stop, .bool p.ended, .slice d.a0 p.steps.length d.c0, .slice d.a1 p.lies.length d.c1, .slice d.a2 p.crosses.length d.c2] : Array Value).getD i (.bool false)) := by
      refine (row_of_alloc2 W2 #[.int .i64 p.start, .int .i64 p.stop, .bool p.ended, .slice d.a0 p.steps.length d.c0, .slice d.a1 p.lies.length d.c1, .slice d.a2 p.crosses.length d.c2] 75).of_block ?_
      rw [← hU]
      exact World.putObj_heap_other (by omega)
    have p0 : U.cell? ⟨W2.heap.size, 0, none⟩ = some (.int .i64 p.start) := hX.cell (i := 0) (by omega)
    have p1 : U.cell? ⟨W2.heap.size, 1, none⟩ = some (.int .i64 p.stop) := hX.cell (i := 1) (by omega)
    have p2 : U.cell? ⟨W2.heap.size, 2, none⟩ = some (.bool p.ended) := hX.cell (i := 2) (by omega)
    have p3 : U.cell? ⟨W2.heap.size, 3, none⟩ = some (.slice d.a0 p.steps.length d.c0) := hX.cell (i := 3) (by omega)
    have p4 : U.cell? ⟨W2.heap.size, 4, none⟩ = some (.slice d.a1 p.lies.length d.c1) := hX.cell (i := 4) (by omega)
    have p5 : U.cell? ⟨W2.heap.size, 5, none⟩ = some (.slice d.a2 p.crosses.length d.c2) := hX.cell (i := 5) (by omega)
    have hC := HI.out.come.of_block (hOU.block _ HI.out.come.lt (by show ¬ w.heap.size + 1 + 1 = W.heap.size + 1; omega))
    have hA := k1.of_block (hOU.block _ k1.lt (by show ¬ w.heap.size + 1 = W.heap.size + 1; omega))
    have hB := HI.out.res.of_block (hOU.block _ HI.out.res.lt (by show ¬ w.heap.size = W.heap.size + 1; omega))
    have hD := (hOU.block _ (get_lt HI.out.dfr) (by show ¬ W.heap.size = W.heap.size + 1; omega)).trans HI.out.dfr
    have hOw := owns_only k2 hOU (fun k hk => by omega)
    have hKl : K (W.heap.size + 1) := (k5 _).2 (Or.inl rfl)
    have hKA : K (w.heap.size + 1) := (k5 _).2 (Or.inr (Or.inr (Or.inl rfl)))
    have hKB : K w.heap.size := (k5 _).2 (Or.inr (Or.inr (Or.inr (Or.inl rfl))))
    have hKC : K (w.heap.size + 1 + 1) := (k5 _).2 (Or.inr (Or.inr (Or.inr (Or.inr (Or.inl rfl)))))
    have HOK : Hid (Only K W2 U) := hOU.mono (fun k hk => by subst hk; exact hKl)
    have hE1 : (E.length : Int) ≤ 20000 := by have := HI.out.few.1; omega
    have hE2 : xs.length ≤ 300 := by have := HI.out.few.2; rw [← k3] at this; simpa using this
    have hzU : W2.heap.size < U.heap.size := hX.lt
    have c0 := hC.cell (i := 0) (by omega)
    have cf := hC.frozen 0
    have a0 := hA.cell (i := 0) (by omega)
    have b0 := hB.cell (i := 0) (by omega)
    have bf := hB.frozen 0
    have hzC := hC.lt
    have hzA := hA.lt
    have hzB := hB.lt
    have HC2 := hidP (hC.set 0 (.int .i64 ((E.length : Int) + 1)))
    have HA := hidP hA
    have HB := hidP hB
    have HD := hidP hD
    have HOw := hidP hOw
    have HLU := hidP hlU
    have K3 := hidP k3
    have K4 := hidP k4
    have K5 := hidP k5
    have HKA := hidP hKA
    have HKB := hidP hKB
    have HKC := hidP hKC
    have HLW := hidP hlow
    have hlt2 : w.heap.size + 1 + 1 < W2.heap.size := HI.out.come.lt
    have hlt3 : W.heap.size + 1 < W2.heap.size := get_lt HI.out.loop
    have hlt1 : w.heap.size + 1 < W2.heap.size := by omega
    have hlt0 : w.heap.size < W2.heap.size := by omega
    clear hU hbx k1 k2 k3 k4 k5 hX hC hA hB hD hOw hlU hOU hlow hlt hKl hKA hKB hKC
    obtain ⟨pe, hpe⟩ : ∃ pe, p.ended = pe := ⟨_, rfl⟩
    have HPE := hidP hpe
    rw [hpe] at p2
    clear hpe
    have HKX : Hid (∀ k, (Value.slice x xs.length y).ownBlock = some k → K k ∨ W2.heap.size ≤ k) := fun k hk => Or.inl ((K5.out k).2 (Or.inr (Or.inr (Or.inr (Or.inr (Or.inr hk))))))
    cases pe
    · have HEN : Hid (endedL (E ++ [p]) = endedL E) := by
        unfold Hid
        rw [endedL_snoc, HPE.out]
        simp
      by_cases hlim : (20000 : Int) < (E.length : Int) + 1
      · gi_wp2_with fail
        have hlow := HLW.out
        refine round_off HI.out HREC.out ((Below.heap_setCell _ ⟨w.heap.size, 0, none⟩ _ (W.heap.size + 1) (by show ¬ W.heap.size + 1 = w.heap.size; omega)).trans ((Below.heap_setCell _ ⟨w.heap.size + 1 + 1, 0, none⟩ _ (W.heap.size + 1) (by show ¬ W.heap.size + 1 = w.heap.size + 1 + 1; omega)).trans HLU.out)) ((HOK.out.setCell (p := ⟨w.heap.size + 1 + 1, 0, none⟩) (Or.inl HKC.out) _).setCell (p := ⟨w.heap.size, 0, none⟩) (Or.inl HKB.out) _) ?_ ((Below.heap_setCell _ ⟨w.heap.size, 0, none⟩ _ W.heap.size (by show ¬ W.heap.size = w.heap.size; omega)).trans ((Below.heap_setCell _ ⟨w.heap.size + 1 + 1, 0, none⟩ _ W.heap.size (by show ¬ W.heap.size = w.heap.size + 1 + 1; omega)).trans HD.out)) (Or.inl (by omega)) _
        exact row_one ((HB.out.setOther (a := ⟨w.heap.size + 1 + 1, 0, none⟩) (by show ¬ w.heap.size = w.heap.size + 1 + 1; omega) _).set 0 (.slice none 0 0)) (by simp)
      · gi_wp2_with fail
        have hlow := HLW.out
        refine round_on HI.out HREC.out ((Below.heap_setCell _ ⟨w.heap.size + 1 + 1, 0, none⟩ _ (W.heap.size + 1) (by show ¬ W.heap.size + 1 = w.heap.size + 1 + 1; omega)).trans HLU.out) (HOK.out.setCell (p := ⟨w.heap.size + 1 + 1, 0, none⟩) (Or.inl HKC.out) _) (row_one HC2.out (by simp)) ?_ (HB.out.setOther (a := ⟨w.heap.size + 1 + 1, 0, none⟩) (by show ¬ w.heap.size = w.heap.size + 1 + 1; omega) _) ((Below.heap_setCell _ ⟨w.heap.size + 1 + 1, 0, none⟩ _ W.heap.size (by show ¬ W.heap.size = w.heap.size + 1 + 1; omega)).trans HD.out) ⟨by omega, by rw [HEN.out]; exact HI.out.few.2⟩ _
        refine ⟨x, y, xs, HA.out.setOther (a := ⟨w.heap.size + 1 + 1, 0, none⟩) (by show ¬ w.heap.size + 1 = w.heap.size + 1 + 1; omega) _, ownsRow_setCell_below HOw.out (a := ⟨w.heap.size + 1 + 1, 0, none⟩) (by show w.heap.size + 1 + 1 < W.heap.size + 2; omega) _, by rw [HEN.out]; exact K3.out, K4.out, HKX.out⟩
    · have HEN : Hid (endedL (E ++ [p]) = endedL E ++ [p]) := by
        unfold Hid
        rw [endedL_snoc, HPE.out]
        simp
      rw [HPE.out]
      have HOA := hidP (ownsRow_setCell_below HOw.out (a := ⟨w.heap.size + 1 + 1, 0, none⟩) (by show w.heap.size + 1 + 1 < W.heap.size + 2; have := HLW.out; omega) (.int .i64 ((E.length : Int) + 1)))
      have HAA := hidP (HA.out.setOther (a := ⟨w.heap.size + 1 + 1, 0, none⟩) (by show ¬ w.heap.size + 1 = w.heap.size + 1 + 1; omega) (.int .i64 ((E.length : Int) + 1)))
      have HBB := hidP (HB.out.setOther (a := ⟨w.heap.size + 1 + 1, 0, none⟩) (by show ¬ w.heap.size = w.heap.size + 1 + 1; omega) (.int .i64 ((E.length : Int) + 1)))
      have HDD : Hid ((U.setCell ⟨w.heap.size + 1 + 1, 0, none⟩ (.int .i64 ((E.length : Int) + 1))).heap[W.heap.size]? = some (.deferred (some []))) := (Below.heap_setCell _ ⟨w.heap.size + 1 + 1, 0, none⟩ _ W.heap.size (by show ¬ W.heap.size = w.heap.size + 1 + 1; have := HLW.out; omega)).trans HD.out
      have HLL : Hid ((U.setCell ⟨w.heap.size + 1 + 1, 0, none⟩ (.int .i64 ((E.length : Int) + 1))).heap[W.heap.size + 1]? = some (.loop { rec .ready none with state := .busy })) := (Below.heap_setCell _ ⟨w.heap.size + 1 + 1, 0, none⟩ _ (W.heap.size + 1) (by show ¬ W.heap.size + 1 = w.heap.size + 1 + 1; have := HLW.out; omega)).trans HLU.out
      have HOO := hidP (HOK.out.setCell (p := ⟨w.heap.size + 1 + 1, 0, none⟩) (Or.inl HKC.out) (.int .i64 ((E.length : Int) + 1)))
      have hcs : (20000 : Int) < (E.length : Int) + 1 ∨ (¬ (20000 : Int) < (E.length : Int) + 1 ∧ (300 : Int) < (xs.length : Int) + 1) ∨ (¬ (20000 : Int) < (E.length : Int) + 1 ∧ ¬ (300 : Int) < (xs.length : Int) + 1) := by omega
      rcases hcs with hlim | ⟨hlim, hlen⟩ | ⟨hlim, hlen⟩
      all_goals
        gi_wp2_with (gi_at_builtin; refine wpListIn_push_sharp rfl (.tmp 13) (.tmp 15) 72 rfl (W.heap.size + 2) 75 _ 6 96 Tryz.underlying72 Tryz.infoPath rfl (by decide) (.slice x xs.length y) xs.length (flatQ xs) rfl HOA.out _ (by simp) [.int .i64 p.start, .int .i64 p.stop, .bool true, .slice d.a0 p.steps.length d.c0, .slice d.a1 p.lies.length d.c1, .slice d.a2 p.crosses.length d.c2] rfl rfl (by simp [Value.oneCell']) (by unfold maxLen; omega) (by omega) (by simp; omega) ?_; intro x6 y6 w6 r1 r2 r3; have hne : ∀ k, k < W.heap.size + 2 → some k ≠ (Value.slice x xs.length y).ownBlock := (fun k hk e => by have h9 := (HOA.out.lt k e.symm).1; omega); have hA6 := HAA.out.of_block (r2.block _ HAA.out.lt (hne _ (by have h9 := HLW.out; omega))); have hB6 := HBB.out.of_block (r2.block _ HBB.out.lt (hne _ (by have h9 := HLW.out; omega))); have hC6 := HC2.out.of_block (r2.block _ HC2.out.lt (hne _ (by have h9 := HLW.out; omega))); have a6 := hA6.cell (i := 0) (by omega); have af6 := hA6.frozen 0; have hzA6 := hA6.lt; have b6 := hB6.cell (i := 0) (by omega); have bf6 := hB6.frozen 0; have hzB6 := hB6.lt; have c6 : w6.cell? ⟨w.heap.size + 1 + 1, 0, none⟩ = some (.int .i64 ((E.length : Int) + 1)) := (hC6.cell (i := 0) (by omega)).trans (by simp); have HA6 := hidP hA6; have HB6 := hidP hB6; have HC6 := hidP hC6; have HR1 := hidP r1; have HR2 := hidP r2; have HR3 := hidP r3; have HNE := hidP hne; clear hA6 hB6 hC6 r1 r2 r3 hne)
        have hlow := HLW.out
        have hO6 : Only K W2 w6 := HOO.out.trans (Only.of_grown HR2.out (fun k hk => (K5.out k).2 (Or.inr (Or.inr (Or.inr (Or.inr (Or.inr hk)))))))
        have hl6 := (HR2.out.block _ (get_lt HLL.out) (HNE.out _ (by omega))).trans HLL.out
        have hD6 := (HR2.out.block _ (get_lt HDD.out) (HNE.out _ (by omega))).trans HDD.out
        have hl7 := (Below.heap_setCell w6 ⟨w.heap.size + 1, 0, none⟩ (.slice x6 (xs.length + 1) y6) (W.heap.size + 1) (by show ¬ W.heap.size + 1 = w.heap.size + 1; omega)).trans hl6
        have hD7 := (Below.heap_setCell w6 ⟨w.heap.size + 1, 0, none⟩ (.slice x6 (xs.length + 1) y6) W.heap.size (by show ¬ W.heap.size = w.heap.size + 1; omega)).trans hD6
        have hO7 := hO6.setCell (p := ⟨w.heap.size + 1, 0, none⟩) (Or.inl HKA.out) (.slice x6 (xs.length + 1) y6)
        have hB7 := HB6.out.setOther (a := ⟨w.heap.size + 1, 0, none⟩) (by show ¬ w.heap.size = w.heap.size + 1; omega) (.slice x6 (xs.length + 1) y6)
        have hlenE : (endedL (E ++ [p])).length = xs.length + 1 := by rw [HEN.out, ← K3.out]; simp
      · exact round_off HI.out HREC.out ((Below.heap_setCell _ ⟨w.heap.size, 0, none⟩ _ (W.heap.size + 1) (by show ¬ W.heap.size + 1 = w.heap.size; omega)).trans hl7) (hO7.setCell (p := ⟨w.heap.size, 0, none⟩) (Or.inl HKB.out) _) (row_one (hB7.set 0 (.slice none 0 0)) (by simp)) ((Below.heap_setCell _ ⟨w.heap.size, 0, none⟩ _ W.heap.size (by show ¬ W.heap.size = w.heap.size; omega)).trans hD7) (Or.inl (by omega)) _
      · exact round_off HI.out HREC.out ((Below.heap_setCell _ ⟨w.heap.size, 0, none⟩ _ (W.heap.size + 1) (by show ¬ W.heap.size + 1 = w.heap.size; omega)).trans hl7) (hO7.setCell (p := ⟨w.heap.size, 0, none⟩) (Or.inl HKB.out) _) (row_one (hB7.set 0 (.slice none 0 0)) (by simp)) ((Below.heap_setCell _ ⟨w.heap.size, 0, none⟩ _ W.heap.size (by show ¬ W.heap.size = w.heap.size; omega)).trans hD7) (Or.inr (by rw [hlenE]; omega)) _
      · refine round_on HI.out HREC.out hl7 hO7 (row_one (HC6.out.setOther (a := ⟨w.heap.size + 1, 0, none⟩) (by show ¬ w.heap.size + 1 + 1 = w.heap.size + 1; omega) _) (by simp)) ?_ hB7 hD7 ⟨by omega, by rw [hlenE]; omega⟩ _
        have hxl : (xs ++ [(d, p)]).length = xs.length + 1 := by simp
        have hfl : flatQ xs ++ [Value.int .i64 p.start, .int .i64 p.stop, .bool true, .slice d.a0 p.steps.length d.c0, .slice d.a1 p.lies.length d.c1, .slice d.a2 p.crosses.length d.c2] = flatQ (xs ++ [(d, p)]) := by
          rw [← flatQ_snoc, ← HPE.out]
          rfl
        have ho7 := HR1.out
        rw [hfl, ← hxl] at ho7
        refine ⟨x6, y6, xs ++ [(d, p)], ?_, ownsRow_setCell_below ho7 (a := ⟨w.heap.size + 1, 0, none⟩) (by show w.heap.size + 1 < W.heap.size + 2; omega) _, by rw [List.map_append, K3.out, HEN.out]; rfl, ?_, ?_⟩
        · rw [hxl]
          exact row_one (HA6.out.set 0 (.slice x6 (xs.length + 1) y6)) (by simp)
        · intro q hq
          rcases List.mem_append.1 hq with hq | hq
          · exact K4.out q hq
          · have : q = (d, p) := by simpa using hq
            subst this
            exact HP.out
        · intro k hk
          rw [hxl] at hk
          rcases HR3.out k hk with h | h
          · exact HKX.out k h
          · refine Or.inr (Nat.le_trans HOO.out.size h)
  have HRD : Hid (Rounds w (W.heap.size + 1) (EInv w (W.heap.size + 1) W.heap.size (w.heap.size + 1) w.heap.size (w.heap.size + 1 + 1) (W.heap.size + 2) rec) (EStop w (W.heap.size + 1) W.heap.size w.heap.size rec)) :=
    ⟨fun K E W2 h => h.lt, fun K E W2 h => h.below, fun K E W2 W3 h hb => h.keep hb, fun E W2 W3 h hb => h.keep hb, HY.out⟩
  refine (callsIn_wide).2 ((walk_any w KT M pa ja sa pc jc sc ps js ss R hT (W.heap.size + 1) _ _ HRD _ W1 HI0).mono ?_)
  rintro e w3 ⟨⟨v, rfl⟩, hO3, h3⟩
  have hst : ∀ pe, (rec .ready pe).state ≠ .busy ∧ (rec .ready pe).pending = pe ∧ (rec .done pe).state ≠ .busy ∧ (rec .done pe).pending = pe := by
    rw [hrec]
    intro pe
    simp
  rcases h3 with ⟨K', hI3, hG3⟩ | ⟨E1, E2, hE, hS3⟩
  · refine ⟨_, _, run_endLoop hI3.loop (hst none).1, ?_⟩
    rw [(hst none).2.1]
    dsimp only
    generalize hw4 : w3.putObj _ _ = w4
    have hO4 : Only (fun k => k = W.heap.size + 1) w3 w4 := by
      rw [← hw4]
      exact Only.of_grown (grownBy_putObj' _ _ _) (fun k e => by cases e; rfl)
    clear hw4
    obtain ⟨x, y, xs, g1, g2, g3, g4, g5⟩ := hI3.own
    have hlow := hI3.low
    have hA4 := g1.of_block (hO4.block _ g1.lt (by show ¬ w.heap.size + 1 = W.heap.size + 1; omega))
    have hB4 := hI3.res.of_block (hO4.block _ hI3.res.lt (by show ¬ w.heap.size = W.heap.size + 1; omega))
    have hD4 := (hO4.block _ (get_lt hI3.dfr) (by show ¬ W.heap.size = W.heap.size + 1; omega)).trans hI3.dfr
    have a0 := hA4.cell (i := 0) (by omega)
    have b0 := hB4.cell (i := 0) (by omega)
    have bf := hB4.frozen 0
    have hzA := hA4.lt
    have hzB := hB4.lt
    have HB5 := hidP (hB4.set 0 (.slice x xs.length y))
    have HD4 := hidP hD4
    have HG2 := hidP g2
    have HG3 := hidP g3
    have HG4 := hidP g4
    have HG5 := hidP g5
    have HO4 := hidP hO4
    have HI3 := hidP hI3
    clear hO4 g1 g2 g3 g4 g5 hA4 hB4 hD4 hI3 hG3 hO3 hst hlow
    have HZ := hidP hz
    have HZ1 := hidP hz1
    clear hz hz1
    simp only [Exit.inBlock, Exit.then]
    gi_wp2_with fail
    have hD5 : (w4.setCell ⟨w.heap.size, 0, none⟩ (.slice x xs.length y)).heap[W.heap.size]? = some (.deferred (some [])) := (Below.heap_setCell w4 ⟨w.heap.size, 0, none⟩ _ W.heap.size (by show ¬ W.heap.size = w.heap.size; have := HZ.out; omega)).trans HD4.out
    refine ⟨by simp, .inl ⟨_, _, rfl, run_takeDeferred hD5, ?_⟩⟩
    generalize hwf : World.putObj (World.setCell w4 _ _) _ _ = wf
    have hOf : Only (fun k => k = W.heap.size) (w4.setCell ⟨w.heap.size, 0, none⟩ (.slice x xs.length y)) wf := by
      rw [← hwf]
      exact Only.of_grown (grownBy_putObj' _ _ _) (fun k e => by cases e; rfl)
    clear hwf
    have hOs : Only (fun k => k = w.heap.size) w4 (w4.setCell ⟨w.heap.size, 0, none⟩ (.slice x xs.length y)) := (Only.refl (fun k => k = w.heap.size) w4).setCell (p := ⟨w.heap.size, 0, none⟩) (Or.inl rfl) _
    have hB6 := HB5.out.of_block (hOf.block _ HB5.out.lt (by show ¬ w.heap.size = W.heap.size; have := HZ.out; omega))
    have b6 : wf.cell? ⟨w.heap.size, 0, none⟩ = some (.slice x xs.length y) := (hB6.cell (i := 0) (by omega)).trans (by simp)
    have hO3f : Only (fun k => k = W.heap.size + 1 ∨ k = W.heap.size ∨ k = w.heap.size) w3 wf := ((HO4.out.mono (fun k hk => Or.inl hk)).trans (hOs.mono (fun k hk => Or.inr (Or.inr hk)))).trans (hOf.mono (fun k hk => Or.inr (Or.inl hk)))
    have hle := HI3.out.low
    refine ⟨.slice x xs.length y, by simp [results, Tryz.results29, go_sem, b6], .slice x xs.length y, rfl, ?_, HI3.out.below.trans (hO3f.below HI3.out.below.size (fun k hk e => by omega))⟩
    have hpf : pathsF ps js ss = xs.map Prod.snd := by
      unfold pathsF
      rw [if_pos (show fitsB ps js ss from HI3.out.few), HG3.out]
    rw [hpf]
    exact PathsOut.of_own (owns_only HG2.out hO3f (fun k hk => by omega)) (fun q hq => HG4.out q hq wf (hO3f.mono (fun k hk => (HG5.out k).2 (by rcases hk with h | h | h; exact Or.inl h; exact Or.inr (Or.inl h); exact Or.inr (Or.inr (Or.inr (Or.inl h)))))))
  · refine ⟨_, _, run_endLoop hS3.loop (hst (some .ret)).2.2.1, ?_⟩
    rw [(hst (some .ret)).2.2.2]
    dsimp only
    generalize hw4 : w3.putObj _ _ = w4
    have hO4 : Only (fun k => k = W.heap.size + 1) w3 w4 := by
      rw [← hw4]
      exact Only.of_grown (grownBy_putObj' _ _ _) (fun k e => by cases e; rfl)
    clear hw4
    have HZ := hidP hz
    have HZ1 := hidP hz1
    have HO4 := hidP hO4
    have HS3 := hidP hS3
    clear hz hz1 hO4 hS3
    gi_wp2_with fail
    have hD5 : w4.heap[W.heap.size]? = some (.deferred (some [])) := (HO4.out.block _ (get_lt HS3.out.dfr) (by show ¬ W.heap.size = W.heap.size + 1; omega)).trans HS3.out.dfr
    refine ⟨by simp, .inl ⟨_, _, rfl, run_takeDeferred hD5, ?_⟩⟩
    generalize hwf : World.putObj w4 _ _ = wf
    have hOf : Only (fun k => k = W.heap.size) w4 wf := by
      rw [← hwf]
      exact Only.of_grown (grownBy_putObj' _ _ _) (fun k e => by cases e; rfl)
    clear hwf
    have hO3f : Only (fun k => k = W.heap.size + 1 ∨ k = W.heap.size) w3 wf := (HO4.out.mono (fun k hk => Or.inl hk)).trans (hOf.mono (fun k hk => Or.inr hk))
    have hle := HZ.out
    have hB6 := HS3.out.res.of_block (hO3f.block _ HS3.out.res.lt (by show ¬ (w.heap.size = W.heap.size + 1 ∨ w.heap.size = W.heap.size); omega))
    have b6 : wf.cell? ⟨w.heap.size, 0, none⟩ = some (.slice none 0 0) := hB6.cell (i := 0) (by omega)
    refine ⟨.slice none 0 0, by simp [results, Tryz.results29, go_sem, b6], .slice none 0 0, rfl, ?_, HS3.out.below.trans (hO3f.below HS3.out.below.size (fun k hk e => by omega))⟩
    have hpf : pathsF ps js ss = [] := by
      unfold pathsF
      rw [if_neg]
      rintro ⟨q1, q2⟩
      rw [hE] at q1 q2
      rw [List.length_append] at q1
      rw [endedL_app, List.length_append] at q2
      have := HS3.out.past
      omega
    rw [hpf]
    exact PathsOut.nil wf

end Go.Proofs.YtmkdgnmmebldgaaGreat

namespace Go.Proofs.YtmkdgnmmebldgaaGreat
open Go

/-! A region that draws its order, in a round of a range over a function: the same walk. -/

theorem opsIn_of_ops {P : Program} {ops : Array Oper} {Q : Exit → Act → World → Prop} {r n : Nat} (hnd : ∀ (i : Nat) o, ops[i]? = some o → ∀ c, o.op ≠ .defer c) (hQ : ¬ LetsOut Q) :
    ∀ (L : List Nat) (a : Act) (w : World), wpOps P ops Q L a w → wpOpsIn (Fence.wide.inRound r) n P ops Q L a w
  | [], a, w, h => h
  | i :: rest, a, w, h => by
    have ih := opsIn_of_ops (P := P) (r := r) (n := n) hnd hQ rest
    simp only [wpOps] at h
    simp only [wpOpsIn]
    cases ho : ops[i]? with
    | none =>
      rw [ho] at h
      exact ih a w h
    | some o =>
      rw [ho] at h
      dsimp only at h ⊢
      by_cases hw : Region.wanted o (yielded ops a.tmps) = true
      · rw [if_pos hw] at h ⊢
        rcases h with h | h
        · refine ⟨fun _ _ => trivial, ?_⟩
          unfold Oper.wp at h
          rw [Oper.semAt_eq _ _ _ (hnd i o ho)]
          generalize (execOp a.eval o).run P w = res at h
          cases res with
          | halt x w' => cases x <;> first | exact h | exact absurd h (by intro h; exact h)
          | ok nx w' =>
            cases nx with
            | value v => exact ih _ _ h
            | skip => exact ih _ _ h
            | defer d => exact ih _ _ h
            | enter f args =>
              refine ⟨fun h => (by cases h), ?_⟩
              show CallsIn Fence.wide (n - 1) P f args w' _
              refine callsIn_wide.2 (Calls.mono h ?_)
              intro e w'' he
              cases e with
              | returned v => exact ih _ _ he
              | panicked ch => exact he
              | outgrown => exact he
            | row nm args =>
              refine ⟨fun h => (by cases h), ?_⟩
              intro c cs _
              obtain ⟨v, w'', h1, h2⟩ := h c cs
              exact ⟨v, w'', ih _ _ h1, stepsIn_wide.2 h2⟩
            | round a1 a2 a3 a4 a5 => exact h.elim
            | _ => exact h.elim
        · exact absurd h.2 hQ
      · rw [if_neg hw] at h ⊢
        exact ⟨fun _ _ => trivial, ih _ _ h⟩

def calmB (o : Oper) : Bool := match o.op with | .defer _ => false | _ => true
theorem calm_all {l : List Oper} (h : l.all calmB = true) : ∀ (i : Nat) o, l.toArray[i]? = some o → ∀ c, o.op ≠ .defer c := by
  intro i o ho c hc
  have hm : o ∈ l := by
    rw [List.getElem?_toArray] at ho
    exact List.mem_of_getElem? ho
  have := List.all_eq_true.1 h o hm
  unfold calmB at this
  rw [hc] at this
  cases this

section
variable {P : Program} {Q : Exit → Act → World → Prop} {l : List Oper}
theorem wpIn_region_tree {id r k : Nat} {a : Act} {w : World} (C : World → Prop) (n : Nat) (hnd : l.all calmB = true) (hQ : ¬ LetsOut Q) (hm : P.follows .mixedOrders = true) (hB : treeB l n = true) (hC : C w.drew)
    (h : wpT P l C n Q n (Array.replicate l.length false) a w.drew) : (Code.region id l.toArray true).wpIn (Fence.wide.inRound r) k P Q a w := by
  have hB' := hB
  simp only [treeB, Bool.and_eq_true, decide_eq_true_eq] at hB'
  obtain ⟨⟨⟨hsel, hn⟩, hs⟩, hc⟩ := hB'
  have hdl : (l.drop n).length = l.length - n := by simp
  have inv0 : HeadInv .any l.toArray n (Array.replicate l.length false) :=
    ⟨by simp, fun j oj _ hl => (by rw [getD_replicate_false] at hl; cases hl), fun t _ ht => getD_in (by simpa using ht) (getD_replicate_false _ _)⟩
  have H := h hB inv0 hC
  have this := wpAny_of_mix (Q := Q) (g := l.length - n) (fun listed a' w' hL => by
    have := wpAny_of_seq (md := .any) (Q' := Q) (l.drop n) n listed a' w' (fun j => by simp [List.getElem?_drop]) (by rw [hdl]; exact hL.1) hL.2
    rwa [hdl] at this) _ _ _ _ hC H
  rw [show n + (l.length - n) = l.toArray.size by simp; omega] at this
  refine wpIn_region_draw fun t => ?_
  simp only [Region.schedule, hm, Bool.true_or, if_true]
  refine opsIn_of_ops (calm_all hnd) hQ _ _ _ ?_
  refine wpAny_sound l.toArray.size t _ a _ ?_
  simpa using this
end
end Go.Proofs.YtmkdgnmmebldgaaGreat

namespace Go.Proofs.YtmkdgnmmebldgaaGreat
open Go.RowKit Go.Deep Go.Maps

/-! Steps over plain joints, as an iterator shows them. -/

theorem plainSteps_any (KT : Nat) (s : MStep) (w : World) :
    Calls Tryz.prog 91 #[.pointer (some ⟨KT, 0, none⟩), endV s] w fun e w' => e = .returned (.func (.func 112) #[] #[.pointer (some ⟨w.heap.size + 1, 0, none⟩), .pointer (some ⟨w.heap.size, 0, none⟩)]) ∧
      w'.cell? ⟨w.heap.size, 0, none⟩ = some (.pointer (some ⟨KT, 0, none⟩)) ∧ w'.cell? ⟨w.heap.size + 1, 0, none⟩ = some (.int .i64 s.piece) ∧ w'.cell? ⟨w.heap.size + 1, 1, none⟩ = some (.int .i64 s.side) ∧ Below w.heap.size w w' := by
  have hmf : ∀ (fn : Fn) (first cap : Array Value) (w : World), (Instr.makeFunc fn first cap).run Tryz.prog w = .ok (.func fn first cap) w := fun _ _ _ _ => rfl
  unfold endV
  go_enter Tryz.func91, Tryz.ntmps91
  go_wp2_with fail
  go_ret
  exact ⟨rfl, by simp [go_sem], by simp [go_sem], by simp [go_sem], (by repeat (first | exact Below.refl _ _ | assumption | refine Below.drew ?_ | refine bdrewN ?_ _ | refine Below.setCell ?_ (by first | omega | (simp; done) | (simp; omega)) _ | refine Below.alloc ?_ (by first | omega | (simp; done) | (simp; omega)) _))⟩

theorem row_congr {w : World} {b T n : Nat} {f g : Nat → Value} (h : w.rowIs b T n f) (e : ∀ i, i < n → f i = g i) : w.rowIs b T n g := by
  obtain ⟨c, h1, h2, h3⟩ := h
  exact ⟨c, h1, h2, fun i hi => by rw [h3 i hi, e i hi]⟩

/-- The rounds of a loop over steps. J: about to be shown a step; N: behind it. -/
structure SRounds (KT tb l B0 : Nat) (js : List MJoint) (J N : Nat → MStep → (Nat → Prop) → World → Prop) (Sx : World → Prop) : Prop where
  ltJ : ∀ n s K W, J n s K W → ∀ k, K k → k < W.heap.size
  keepJ : ∀ n s K S W W', J n s K W → Only S W W' → (∀ k, S k → B0 ≤ k ∧ ¬ K k) → J n s K W'
  keepN : ∀ n s K S W W', N n s K W → Only S W W' → (∀ k, S k → B0 ≤ k ∧ ¬ K k) → N n s K W'
  tbN : ∀ n s K W, N n s K W → W.cell? ⟨tb, 0, none⟩ = some (.pointer (some ⟨KT, 0, none⟩))
  next : ∀ n s K W, N n s K W → (overPlainF js s).2 = true → J n (overPlainF js s).1 K W
  yield : ∀ n s K W, J n s K W → YieldAt Fence.wide 0 Tryz.prog l #[endV s] W (Visited (fun K' u => ∃ m, m < n ∧ N m s K' u) Sx K W)

def StepsPost (js : List MJoint) (N : Nat → MStep → (Nat → Prop) → World → Prop) (Sx : World → Prop) (K : Nat → Prop) (w : World) (e : Ending) (w' : World) : Prop :=
  (∃ v, e = .returned v) ∧ Only K w w' ∧ ((∃ n s K', N n s K' w' ∧ (overPlainF js s).2 = false ∧ Grow K K' w) ∨ Sx w')

set_option maxRecDepth 100000 in
set_option maxHeartbeats 4000000 in
theorem steps_any (KT M tb fb B0 : Nat) (pa ja sa : Option Addr) (pc jc sc : Nat) (ps : List MPiece) (js : List MJoint) (ss : List MPiece) (R : Hid (Right ps js ss)) (l : Nat) (J N : Nat → MStep → (Nat → Prop) → World → Prop) (Sx : World → Prop) (RD : Hid (SRounds KT tb l B0 js J N Sx))
    (hTN : Hid (∀ n s K W, N n s K W → TTrack W KT M pa ja sa pc jc sc ps js ss ∧ ValidS ps s)) (n : Nat) (s : MStep) (K : Nat → Prop) (w : World) (hB0 : B0 ≤ w.heap.size) (hJ : Hid (J n s K w)) (c0 : w.cell? ⟨fb, 0, none⟩ = some (.int .i64 s.piece)) (c1 : w.cell? ⟨fb, 1, none⟩ = some (.int .i64 s.side)) :
    Calls Tryz.prog 112 #[.func (.yield l) #[] #[], .pointer (some ⟨fb, 0, none⟩), .pointer (some ⟨tb, 0, none⟩)] w (StepsPost js N Sx K w) := by
  have hzf := cellLt c0
  dsimp only at hzf
  have HLT := hidP (RD.out.ltJ _ _ _ _ hJ.out)
  go_enter Tryz.func112, Tryz.ntmps112
  go_wp2_with fail
  generalize hW : World.alloc w _ = W
  have HBW : Hid (Below w.heap.size w W) := by rw [← hW]; exact (by repeat (first | exact Below.refl _ _ | assumption | refine Below.drew ?_ | refine bdrewN ?_ _ | refine Below.setCell ?_ (by first | omega | (simp; done) | (simp; omega)) _ | refine Below.alloc ?_ (by first | omega | (simp; done) | (simp; omega)) _))
  have HR : Hid (W.rowIs w.heap.size 100 2 (fun i => (#[Value.int .i64 s.piece, .int .i64 s.side] : Array Value).getD i (.bool false))) := by
    unfold Hid
    rw [← hW]
    exact row_of_alloc2 w _ _
  clear hW c0 c1
  have HJW := hidP (RD.out.keepJ _ _ _ (fun _ => False) _ _ hJ.out (Only.of_below HBW.out) (fun k hk => hk.elim))
  have hzW : w.heap.size < W.heap.size := HR.out.lt
  go_loopg [5] n (fun k ok wr => (ok = .bool true ∧ ∃ s K', Hid (J k s K' wr) ∧ Hid (wr.rowIs w.heap.size 100 2 (fun i => (#[Value.int .i64 s.piece, .int .i64 s.side] : Array Value).getD i (.bool false))) ∧ Hid (Only K w wr) ∧ Hid (Grow K K' W) ∧ Hid (W.heap.size ≤ wr.heap.size)) ∨ (ok = .bool false ∧ ∃ m s K', Hid (N m s K' wr) ∧ Hid ((overPlainF js s).2 = false) ∧ Hid (Only K w wr) ∧ Hid (Grow K K' W)))
  case atStart => exact Or.inl ⟨rfl, s, K, HJW, HR, Only.of_below HBW.out, Grow.refl _ _, Nat.le_refl _⟩
  case round =>
    rcases hrel with ⟨rfl, s1, K', HJ, HX, HO, HG, HSZ⟩ | ⟨rfl, m, s1, K', HN, HF, HO, HG⟩
    · have q0 : wr.cell? ⟨w.heap.size, 0, none⟩ = some (.int .i64 s1.piece) := HX.out.cell (i := 0) (by omega)
      have q1 : wr.cell? ⟨w.heap.size, 1, none⟩ = some (.int .i64 s1.side) := HX.out.cell (i := 1) (by omega)
      have hnb : ¬ K' w.heap.size := fun hk => by
        rcases HG.out _ hk with h | h
        · exact Nat.lt_irrefl _ (HLT.out _ h)
        · omega
      have HNB := hidP hnb
      obtain ⟨fn, tm, asg, bdy, hy, hrnd⟩ := RD.out.yield _ _ _ _ HJ.out
      unfold endV at hy
      have HRN := hidP hrnd
      have hzr := HX.out.lt
      clear hrnd hnb HJW
      go_upto_region 1 with fail
      refine (wpIn_wide (n := 0)).1 ?_
      gi_wp2_with fail
      refine ⟨rfl, RoundIn.mono HRN.out ?_⟩
      rintro e w3 ⟨bb, rfl, ho3, hi3, hs3⟩
      dsimp only
      gi_wp2_with fail
      have HO3 : Hid (Only K w w3) := HO.out.thru (HG.out.mono HBW.out.size) ho3
      cases bb
      · have HS3 := hidP (hs3 rfl)
        clear hi3 hs3 ho3 hy q0 q1
        go_wp2_with fail
        exact bodyPost_end (results_none rfl _ _ _) rfl ⟨⟨_, rfl⟩, HO3.out, Or.inr HS3.out⟩
      · obtain ⟨K2, ⟨m, hm, hN⟩, hG2⟩ := hi3 rfl
        have HX3 := hidP (HX.out.of_block (ho3.block _ hzr HNB.out))
        have y0 : w3.cell? ⟨w.heap.size, 0, none⟩ = some (.int .i64 s1.piece) := HX3.out.cell (i := 0) (by omega)
        have y1 : w3.cell? ⟨w.heap.size, 1, none⟩ = some (.int .i64 s1.side) := HX3.out.cell (i := 1) (by omega)
        have t0 := RD.out.tbN _ _ _ _ hN
        have hzt := cellLt t0
        dsimp only at hzt
        have HTV := hidP (hTN.out _ _ _ _ hN)
        have HOP := hidP (overPlain_any KT M pa ja sa pc jc sc ps js ss R s1 w3 HTV.out.1 HTV.out.2)
        obtain ⟨os, ob⟩ : ∃ os, overPlainF js s1 = os := ⟨_, rfl⟩
        have HOS := hidP ob
        rw [ob] at HOP
        obtain ⟨os1, os2⟩ := os
        unfold Hid endV at HOP
        have HOP2 := hidP HOP
        have HN := hidP hN
        have HG3 : Hid (Grow K K2 W) := HG.out.trans hG2 HSZ.out
        have hz3 := HX3.out.lt
        have HS34 := hidP ho3.size
        clear hi3 hs3 hy q0 q1 hN hG2 ob HOP ho3
        have HMM := hidP hm
        clear hm
        go_wp2_with (go_at_call 113; refine HOP2.out.mono ?_; rintro e w4 ⟨rfl, hb4⟩; have hX4 := HX3.out.of_block (hb4.block _ hz3); have g0 := hX4.cell (i := 0) (by omega); have g1 := hX4.cell (i := 1) (by omega); have f0 := hX4.frozen 0; have f1 := hX4.frozen 1; have hz4 := hX4.lt; have HX4 := hidP ((hX4.set 0 (.int .i64 os1.piece)).set 1 (.int .i64 os1.side)); have HB4 := hidP hb4; clear hX4 hb4)
        have hO5 : Only (fun k => k = w.heap.size) w3 ((w4.setCell ⟨w.heap.size, 0, none⟩ (.int .i64 os1.piece)).setCell ⟨w.heap.size, 1, none⟩ (.int .i64 os1.side)) := ((Only.of_below (S := fun k => k = w.heap.size) HB4.out).setCell (p := ⟨w.heap.size, 0, none⟩) (Or.inl rfl) _).setCell (p := ⟨w.heap.size, 1, none⟩) (Or.inl rfl) _
        have hN5 := RD.out.keepN _ _ _ (fun k => k = w.heap.size) _ _ HN.out hO5 (fun k hk => by
          subst hk
          refine ⟨hB0, fun hk => ?_⟩
          rcases HG3.out _ hk with h | h
          · exact Nat.lt_irrefl _ (HLT.out _ h)
          · omega)
        have hOW : Only K w ((w4.setCell ⟨w.heap.size, 0, none⟩ (.int .i64 os1.piece)).setCell ⟨w.heap.size, 1, none⟩ (.int .i64 os1.side)) := ((HO3.out.trans (Only.of_below HB4.out)).setCell (p := ⟨w.heap.size, 0, none⟩) (Or.inr (Nat.le_refl _)) _).setCell (p := ⟨w.heap.size, 1, none⟩) (Or.inr (Nat.le_refl _)) _
        have hSZ5 : W.heap.size ≤ ((w4.setCell ⟨w.heap.size, 0, none⟩ (.int .i64 os1.piece)).setCell ⟨w.heap.size, 1, none⟩ (.int .i64 os1.side)).heap.size := Nat.le_trans (Nat.le_trans HSZ.out HS34.out) hO5.size
        go_roundg m
        case measure => exact HMM.out
        case rel =>
          cases os2
          · exact Or.inr ⟨rfl, m, s1, K2, hN5, by unfold Hid; rw [HOS.out], hOW, HG3⟩
          · refine Or.inl ⟨rfl, os1, K2, ?_, ?_, hOW, HG3, hSZ5⟩
            · have := RD.out.next _ _ _ _ hN5 (by rw [HOS.out])
              rw [HOS.out] at this
              exact this
            · refine row_congr HX4.out ?_
              intro i hi
              have hi' : i = 0 ∨ i = 1 := by omega
              rcases hi' with rfl | rfl <;> simp
    · go_wp2_with fail
      exact bodyPost_end (results_none rfl _ _ _) rfl ⟨⟨_, rfl⟩, HO.out, Or.inl ⟨m, s1, K', HN.out, HF.out, HG.out.mono HBW.out.size⟩⟩

end Go.Proofs.YtmkdgnmmebldgaaGreat

namespace Go.Proofs.YtmkdgnmmebldgaaGreat
open Go.RowKit Go.Deep Go.Maps

/-! What is behind a signal, step by step: plain mathematics. -/

def posF (ps : List MPiece) (s : MStep) (at0 : Int) (parts : List MPart) : Int := if parts.length = 0 then at0 else endAt ps (farE (aheadE s))
def distF (ps : List MPiece) (s : MStep) (pos : Int) : Int := (endAt ps (aheadE s) - pos) * s.side

structure JMath (ps : List MPiece) (js : List MJoint) (tot : List MPart) (n : Nat) (s : MStep) (at0 left : Int) (parts : List MPart) : Prop where
  sv : ValidS ps s
  l0 : 0 ≤ left
  ln : left < n
  lb : (parts.length : Int) + left ≤ 100000
  p0 : 0 ≤ posF ps s at0 parts
  p1 : posF ps s at0 parts ≤ 10000000
  d0 : 1 ≤ distF ps s (posF ps s at0 parts)
  d1 : distF ps s (posF ps s at0 parts) ≤ 10000000
  a0 : 0 ≤ at0 ∧ at0 ≤ 10000000
  tot : tot = parts ++ behindF ps js n s (posF ps s at0 parts) left
structure NMath (ps : List MPiece) (js : List MJoint) (tot : List MPart) (m : Nat) (s : MStep) (left : Int) (parts : List MPart) : Prop where
  sv : ValidS ps s
  l0 : 0 ≤ left
  ln : left < m
  lb : (parts.length : Int) + left ≤ 100000
  ne : parts.length ≠ 0
  tot : tot = parts ++ (if kindE js (spotE js (aheadE s)).1 = 2 then behindF ps js m (stepFromE (endE js (spotE js (aheadE s)).1 (1 - (spotE js (aheadE s)).2))) (endAt ps (endE js (spotE js (aheadE s)).1 (1 - (spotE js (aheadE s)).2))) left else [])

theorem JMath.stop {ps : List MPiece} {js : List MJoint} {tot : List MPart} {n : Nat} {s : MStep} {at0 left : Int} {parts : List MPart} (h : JMath ps js tot n s at0 left parts) (h0 : left = 0) : tot = parts := by
  have hn := h.ln
  obtain ⟨m, rfl⟩ : ∃ m, n = m + 1 := ⟨n - 1, by omega⟩
  rw [h.tot, behindF, if_pos (by omega)]
  simp
theorem JMath.step {ps : List MPiece} {js : List MJoint} {tot : List MPart} {n : Nat} {s : MStep} {at0 left : Int} {parts : List MPart} (h : JMath ps js tot n s at0 left parts) (h0 : left ≠ 0) {L : Int} (hL : L = min left (distF ps s (posF ps s at0 parts))) :
    NMath ps js tot (n - 1) s (left - L) (parts ++ [partI s.piece (posF ps s at0 parts) (posF ps s at0 parts + L * s.side)]) := by
  have hn := h.ln
  have hl := h.l0
  have hd := h.d0
  have hb := h.lb
  have hL1 : 1 ≤ L ∧ L ≤ left := by rw [hL]; omega
  obtain ⟨m, rfl⟩ : ∃ m, n = m + 1 := ⟨n - 1, by omega⟩
  refine ⟨h.sv, by omega, by omega, by rw [List.length_append, List.length_singleton]; omega, by simp, ?_⟩
  have ht := h.tot
  rw [behindF, if_neg (by omega)] at ht
  unfold distF at hL
  rw [ht, hL, List.append_assoc]
  rfl
theorem NMath.stop {ps : List MPiece} {js : List MJoint} {tot : List MPart} {m : Nat} {s : MStep} {left : Int} {parts : List MPart} (h : NMath ps js tot m s left parts) (h0 : (overPlainF js s).2 = false) : tot = parts := by
  have ht := h.tot
  unfold overPlainF at h0
  by_cases hk : kindE js (spotE js (aheadE s)).1 = 2
  · rw [if_pos hk] at h0
    cases h0
  · rw [if_neg hk] at ht
    rw [ht]
    simp
theorem dist_begin {ps : List MPiece} {e : MEnd} (h : ValidE ps e) : distF ps (stepFromE e) (endAt ps e) = lenI ps e.piece := by
  obtain ⟨p, hp, e1, e2⟩ := h
  cases e
  simp only at e1 e2
  unfold distF stepFromE aheadE endAt
  rcases e2 with rfl | rfl <;> simp
theorem NMath.next {ps : List MPiece} {js : List MJoint} {ss : List MPiece} (R : Right ps js ss) {tot : List MPart} {m : Nat} {s : MStep} {left : Int} {parts : List MPart} (h : NMath ps js tot m s left parts) (h0 : (overPlainF js s).2 = true) {at0 : Int} (ha : 0 ≤ at0 ∧ at0 ≤ 10000000) : JMath ps js tot m (overPlainF js s).1 at0 left parts := by
  have ht := h.tot
  unfold overPlainF at h0 ⊢
  by_cases hk : kindE js (spotE js (aheadE s)).1 = 2
  · rw [if_pos hk] at h0 ht ⊢
    obtain ⟨j, k, hsp, hsp2⟩ := R.spot (aheadE_valid h.sv)
    obtain ⟨_, hj, hkk, _⟩ := spotF_some hsp
    simp only [Nat.sub_zero] at hj hkk
    rw [hsp2] at hk ht ⊢
    dsimp only at hk ht ⊢
    have hkd := R.kind j hj
    rw [kindE_at hj] at hk
    have hte : 1 - k < js[j].ends.length := by omega
    have hve : ValidE ps (endE js j (1 - k)) := by
      rw [endE_at hj hte]
      exact R.ends j hj _ hte
    obtain ⟨q, hq, q1, q2⟩ := hve
    have hpl := R.plen q hq
    have hlen : lenI ps (endE js j (1 - k)).piece = ps[q].len := by rw [q1]; exact lenI_at hq
    have hve : ValidE ps (endE js j (1 - k)) := ⟨q, hq, q1, q2⟩
    have hpos : posF ps (stepFromE (endE js j (1 - k))) at0 parts = endAt ps (endE js j (1 - k)) := by
      unfold posF
      rw [if_neg h.ne, (farI_begin hve).2]
    have hr := endAt_range R hve
    refine ⟨stepFromE_valid hve, h.l0, h.ln, h.lb, by rw [hpos]; exact hr.1, by rw [hpos]; omega, ?_, ?_, ha, by rw [hpos]; exact ht⟩
    · rw [hpos, dist_begin hve, hlen]
      exact hpl.1
    · rw [hpos, dist_begin hve, hlen]
      exact hpl.2
  · rw [if_neg hk] at h0
    cases h0
theorem JMath.begin {ps : List MPiece} {js : List MJoint} {ss : List MPiece} (R : Right ps js ss) {i : Nat} (hi : i < ss.length) {over : Int} (h0 : 0 ≤ over) (h1 : over ≤ 100000) : JMath ps js (overF ps js ss i over) (over.toNat + 1) ⟨ss[i].len, ss[i].brake⟩ ss[i].speed over [] := by
  obtain ⟨p, hp, e1, e2, e3, e4⟩ := R.sig i hi
  have hpl := R.plen p hp
  have hlen : lenI ps ss[i].len = ps[p].len := by rw [e1]; exact lenI_at hp
  have hpos : posF ps ⟨ss[i].len, ss[i].brake⟩ ss[i].speed [] = ss[i].speed := rfl
  have hd : 1 ≤ distF ps ⟨ss[i].len, ss[i].brake⟩ ss[i].speed ∧ distF ps ⟨ss[i].len, ss[i].brake⟩ ss[i].speed ≤ 10000000 := by
    unfold distF aheadE endAt
    rcases e2 with e2 | e2
    · rw [e2]
      simp only [if_true]
      rw [if_neg (by omega), hlen]
      omega
    · rw [e2]
      have hne : ¬ ((-1 : Int) = 1) := by decide
      simp [hne]
      omega
  refine ⟨⟨p, hp, e1, e2⟩, h0, by omega, by simpa using h1, by rw [hpos]; omega, by rw [hpos]; omega, by rw [hpos]; exact hd.1, by rw [hpos]; exact hd.2, by omega, ?_⟩
  unfold overF
  rw [if_neg (by omega), hpos]
  simp [hi]

end Go.Proofs.YtmkdgnmmebldgaaGreat
