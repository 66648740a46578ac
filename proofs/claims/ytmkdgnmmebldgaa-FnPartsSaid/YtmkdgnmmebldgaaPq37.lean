import Derived.Test.YtmkdgnmmebldgaaPq36
import Derived.RangeFuncLeaves
import Derived.RangeFuncNested
namespace Go.Proofs.Ytmkdgnmmebldgaa
open Go.RowKit Go.Deep Go.Maps
theorem range_law {P : Program} {n : Nat} {g : Operand} {ps : Array Tmp} {assign body : Code} {Q : Exit → Act → World → Prop} {a : Act} {w : World} (gf : Nat) (first : Array Value) (hg : a.eval g = .func (.func gf) first #[]) (eg : ∀ args w, (callFunc gf args).run P w = .ok (.enter gf args) w)
    (h : ∀ (fn : FuncId) (rec : LoopState → Option Code → Loop), (rec = fun st pe => { state := st, pending := pe, fn, tmps := a.tmps, params := ps, assign, body, defers := w.heap.size }) →
      CallsIn Fence.wide (n - 1) P gf (first ++ #[.func (.yield (w.heap.size + 1)) #[] #[]]) ((w.alloc (.deferred (some []))).alloc (.loop (rec .ready none))) (rangePost Fence.wide n P (w.heap.size + 1) Q { a with defers := [{ target := .collected w.heap.size, args := #[] }] ++ a.defers })) :
    (Code.rangeFunc g ps assign body).wpIn Fence.wide n P Q a w := by
  refine wpIn_rangeFunc ?_
  intro fn _
  obtain ⟨rec, hrec⟩ : ∃ rec : LoopState → Option Code → Loop, rec = fun st pe => { state := st, pending := pe, fn, tmps := a.tmps, params := ps, assign, body, defers := w.heap.size } := ⟨_, rfl⟩
  have h1 := h fn rec hrec
  have he : (Instr.enterLoop fn a.tmps ps assign body Fence.wide.round).run P w = .ok (w.heap.size + 1, [{ target := .collected w.heap.size, args := #[] }]) ((w.alloc (.deferred (some []))).alloc (.loop (rec .ready none))) := by
    have h0 : Fence.wide.round = none := rfl
    rw [hrec, h0]
    exact run_enterLoop_outer _ _ _ _ _
  obtain ⟨W1, hW1⟩ : ∃ W1, (w.alloc (.deferred (some []))).alloc (.loop (rec .ready none)) = W1 := ⟨_, rfl⟩
  rw [hW1] at h1 he
  refine ⟨w.heap.size + 1, [{ target := .collected w.heap.size, args := #[] }], W1, { target := .fn (.func gf) #[], args := first ++ #[.func (.yield (w.heap.size + 1)) #[] #[]] }, W1, gf, first ++ #[.func (.yield (w.heap.size + 1)) #[] #[]], W1, he, ?_, ?_, ?_, ?_, ?_⟩
  · simp only [resolve, hg]
    simp [go_sem]
  · intro _ _
    trivial
  · simp [invoke, go_sem, eg]
  · intro h
    cases h
  · exact h1
def encQ (x : PAddr × MPath) : List Value := [.int .i64 x.2.start, .int .i64 x.2.stop, .bool x.2.ended, .slice x.1.a0 x.2.steps.length x.1.c0, .slice x.1.a1 x.2.lies.length x.1.c1, .slice x.1.a2 x.2.crosses.length x.1.c2]
def flatQ (xs : List (PAddr × MPath)) : List Value := xs.flatMap encQ
theorem flatQ_snoc (xs : List (PAddr × MPath)) (x : PAddr × MPath) : flatQ xs ++ encQ x = flatQ (xs ++ [x]) := by simp [flatQ]
structure EInv (w0 : World) (l D A B C bs : Nat) (rec : LoopState → Option Code → Loop) (K : Nat → Prop) (E : List MPath) (W : World) : Prop where
  below : Below w0.heap.size w0 W
  loop : W.heap[l]? = some (.loop (rec .ready none))
  dfr : W.heap[D]? = some (.deferred (some []))
  come : W.rowIs C 3 1 (fun _ => .int .i64 (E.length : Int))
  res : W.rowIs B 126 1 (fun _ => .slice none 0 0)
  own : ∃ (x : Option Addr) (y : Nat) (xs : List (PAddr × MPath)), W.rowIs A 126 1 (fun _ => .slice x xs.length y) ∧ W.ownsRow bs 129 6 (.slice x xs.length y) xs.length (flatQ xs) ∧ xs.map Prod.snd = endedL E ∧ (∀ q ∈ xs, PAway K W q.1 q.2) ∧
    ∀ k, K k ↔ k = l ∨ k = D ∨ k = A ∨ k = B ∨ k = C ∨ (Value.slice x xs.length y).ownBlock = some k
  few : E.length ≤ 20000 ∧ (endedL E).length ≤ 300
  low : w0.heap.size ≤ B ∧ B < A ∧ A < C ∧ C < D ∧ D < l ∧ l < bs
structure EStop (w0 : World) (l D B : Nat) (rec : LoopState → Option Code → Loop) (E : List MPath) (W : World) : Prop where
  below : Below w0.heap.size w0 W
  loop : W.heap[l]? = some (.loop (rec .done (some .ret)))
  dfr : W.heap[D]? = some (.deferred (some []))
  res : W.rowIs B 126 1 (fun _ => .slice none 0 0)
  past : 20000 < E.length ∨ 300 < (endedL E).length
theorem get_lt {w : World} {k : Nat} {o : Obj} (h : w.heap[k]? = some o) : k < w.heap.size := (Array.getElem?_eq_some_iff.1 h).1
theorem EInv.lt {w0 : World} {l D A B C bs : Nat} {rec : LoopState → Option Code → Loop} {K : Nat → Prop} {E : List MPath} {W : World} (h : EInv w0 l D A B C bs rec K E W) : ∀ k, K k → k < W.heap.size := by
  intro k hk
  obtain ⟨x, y, xs, h1, h2, _, _, h5⟩ := h.own
  rcases (h5 k).1 hk with rfl | rfl | rfl | rfl | rfl | hk
  · exact get_lt h.loop
  · exact get_lt h.dfr
  · exact h1.lt
  · exact h.res.lt
  · exact h.come.lt
  · exact (h2.lt k hk).2
theorem EInv.keep {w0 : World} {l D A B C bs : Nat} {rec : LoopState → Option Code → Loop} {K : Nat → Prop} {E : List MPath} {W W' : World} (h : EInv w0 l D A B C bs rec K E W) (hb : Below W.heap.size W W') : EInv w0 l D A B C bs rec K E W' := by
  obtain ⟨x, y, xs, h1, h2, h3, h4, h5⟩ := h.own
  exact ⟨h.below.trans (hb.mono h.below.size), (hb.block _ (get_lt h.loop)).trans h.loop, (hb.block _ (get_lt h.dfr)).trans h.dfr, h.come.of_block (hb.block _ h.come.lt), h.res.of_block (hb.block _ h.res.lt),
    ⟨x, y, xs, h1.of_block (hb.block _ h1.lt), owns_below h2 hb, h3, fun q hq => (h4 q hq).below hb, h5⟩, h.few, h.low⟩
theorem EStop.keep {w0 : World} {l D B : Nat} {rec : LoopState → Option Code → Loop} {E : List MPath} {W W' : World} (h : EStop w0 l D B rec E W) (hb : Below W.heap.size W W') : EStop w0 l D B rec E W' :=
  ⟨h.below.trans (hb.mono h.below.size), (hb.block _ (get_lt h.loop)).trans h.loop, (hb.block _ (get_lt h.dfr)).trans h.dfr, h.res.of_block (hb.block _ h.res.lt), h.past⟩
theorem append_sharp {P : Program} (w : World) (base : Nat) (t ty e : TypeId) (i : TypeInfo) (z : Value) (size bytes : Nat) (ht : P.underlying t = some (.slice e)) (hi : P.info? e = some i) (hz : i.zero = some z) (hsize : i.size = size) (hby : i.bytes = bytes) (hzs : z.cells.size = size) (hsz : 0 < size)
    (v : Value) (n : Nat) (xs : List Value) (hown : w.ownsRow base e size v n xs) (a : Addr) (m c : Nat) (news : List Value) (hl : news.length = m * size) (hnews : ∀ j u, news[j]? = some u → w.cell? (a.add j) = some u) (h1 : ∀ u ∈ news, u.oneCell' = true)
    (h63 : n + m ≤ maxLen) (hbytes : (n + m) * bytes ≤ 140737488355328) (hbase : base ≤ w.heap.size) :
    ∃ v' w', (Builtin.append_ #[t, t] ty #[v, .slice (some a) m c]).run P w = .ok v' w' ∧ w'.ownsRow base e size v' (n + m) (xs ++ news) ∧ w.grownBy w' v.ownBlock ∧ ∀ k, v'.ownBlock = some k → v.ownBlock = some k ∨ w.heap.size ≤ k := by
  have hsmall : n + m ≤ 9223372036854775807 := by simp only [maxLen] at h63; omega
  rcases hown.2 with ⟨hv, hn⟩ | ⟨g, cap, cur, hv, hbg, hg, hnc, hcm, hcs, htake⟩
  · have hown2 : w.ownsRow w.heap.size e size v n xs := ⟨hown.1, Or.inl ⟨hv, hn⟩⟩
    obtain ⟨v', w', r1, r2, r3, _⟩ := run_append_own (P := P) w w.heap.size t ty e i z size bytes ht hi hz hsize hby hzs hsz v n xs hown2 a m c news hl hnews h1 h63 hbytes (Nat.le_refl _)
    exact ⟨v', w', r1, ⟨r2.1, r2.2.imp id fun ⟨g, cap, cur, q1, q2, q3⟩ => ⟨g, cap, cur, q1, Nat.le_trans hbase q2, q3⟩⟩, r3, fun k hk => Or.inr (r2.lt k hk).1⟩
  · subst hv
    by_cases hroom : n + m ≤ cap
    · obtain ⟨w', r1, r2, r3⟩ := run_append_fits (P := P) w base t ty e i size ht hi hsize g n cap xs hown a m c news hl hnews h1 hroom
      exact ⟨_, w', r1, r2, r3, fun k hk => Or.inl hk⟩
    · obtain ⟨v', w', r1, r2, r3, _⟩ := run_append_own (P := P) w base t ty e i z size bytes ht hi hz hsize hby hzs hsz _ n xs hown a m c news hl hnews h1 h63 hbytes hbase
      have holds : ∀ j u, xs[j]? = some u → w.cell? ((⟨g, 0, none⟩ : Addr).add j) = some u := hown.cells (g := g) rfl
      have hr := run_append_grow (P := P) w t ty e i z ht hi hz ⟨g, 0, none⟩ n cap xs (by rw [hsize]; exact hown.1) holds a m c news (by rw [hsize]; exact hl) hnews (by omega) (by omega) (by rw [hby]; exact growslice_fits (by omega) hbytes)
      rw [hr] at r1
      injection r1 with q1 q2
      refine ⟨v', w', by rw [hr, q1, q2], r2, r3, fun k hk => Or.inr ?_⟩
      rw [← q1] at hk
      injection hk with hk
      exact Nat.le_of_eq hk
theorem wpListIn_append_sharp {F : Fence} {m0 : Nat} {P : Program} (w : World) {ops : Array Oper} {rest : List Oper} {o : Oper} {a : Act} {Q : Exit → Act → World → Prop}
    (hg : o.guard = none) (s x : Operand) (t : TypeId) (hop : o.op = Op.call { callee := Callee.builtin Builtin.append, args := #[s, x], argTypes := #[t, t] })
    (base : Nat) (e : TypeId) (z : Value) (size bytes : Nat) (h1 : P.underlying t = some (.slice e)) (hi : (P.info? e).map (fun i => (i.zero, i.size, i.bytes)) = some (some z, size, bytes)) (h6 : z.cells.size = size) (h7 : 0 < size)
    (v : Value) (k : Nat) (xs : List Value) (hs : a.eval s = v) (hown : w.ownsRow base e size v k xs) (ad : Addr) (c : Nat) (news : List Value) (hx : a.eval x = .slice (some ad) 1 c) (hn : news.length = size)
    (hc : ∀ j u, news[j]? = some u → w.cell? (ad.add j) = some u) (h1c : ∀ u ∈ news, u.oneCell' = true) (b1 : k + 1 ≤ maxLen) (b2 : (k + 1) * bytes ≤ 140737488355328) (b3 : base ≤ w.heap.size)
    (hK : ∀ x' y' w', w'.ownsRow base e size (.slice x' (k + 1) y') (k + 1) (xs ++ news) → w.grownBy w' v.ownBlock → (∀ b, (Value.slice x' (k + 1) y').ownBlock = some b → v.ownBlock = some b ∨ w.heap.size ≤ b) → wpListIn F m0 P ops Q rest (a.put o.dst (.slice x' (k + 1) y')) w') :
    wpListIn F m0 P ops Q (o :: rest) a w := by
  refine wpListIn_plain hg fun K hK' => ?_
  obtain ⟨i, h2, h3, h4, h5⟩ := info_parts hi
  obtain ⟨v', w', hrun, r1, r2, r3⟩ := append_sharp (P := P) w base t o.type e i z size bytes h1 h2 h3 h4 h5 h6 h7 v k xs hown ad 1 c news (by omega) hc h1c b1 b2 b3
  obtain ⟨x', y', e1, _⟩ := owns_shape r1
  subst e1
  unfold Oper.wpIn
  refine ⟨?_, ?_⟩
  · simp [Oper.about, hop, resolve, Target.leads, Sem.run_pure]
  · rw [Oper.semAt_plain F _ _ (by rw [hop]; intro c hc'; cases hc')]
    simp [execOp, hop, resolve, invoke, builtin, hs, hx, hrun, Result.andThen]
    exact hK' _ _ (hK x' y' w' r1 r2 r3)
theorem Try.infoPath : (Try.prog.info? 129).map (fun i => (i.zero, i.size, i.bytes)) = some (some (.agg #[.int .i64 0, .int .i64 0, .bool false, .slice none 0 0, .slice none 0 0, .slice none 0 0]), 6, 96) := by kernel_rfl
theorem wpListIn_push_sharp {F : Fence} {m0 : Nat} {P : Program} {Wp : World} {ops : Array Oper} {rest : List Oper} {o : Oper} {a : Act} {Q : Exit → Act → World → Prop} (hg : o.guard = none) (s x : Operand) (t : TypeId)
    (hop : o.op = Op.call { callee := Callee.builtin Builtin.append, args := #[s, x], argTypes := #[t, t] })
    (base : Nat) (e : TypeId) (z : Value) (size bytes : Nat) (h1 : P.underlying t = some (.slice e)) (hi : (P.info? e).map (fun i => (i.zero, i.size, i.bytes)) = some (some z, size, bytes)) (h6 : z.cells.size = size) (h7 : 0 < size)
    (v : Value) (k : Nat) (xs : List Value) (hs : a.eval s = v) (hown : Wp.ownsRow base e size v k xs) (g : Nat) (hgs : g = Wp.heap.size) (news : List Value) (hx : a.eval x = .slice (some ⟨g, 0, none⟩) 1 1) (hn : news.length = size)
    (h1c : ∀ u ∈ news, u.oneCell' = true) (b1 : k + 1 ≤ maxLen) (b2 : (k + 1) * bytes ≤ 140737488355328) (b3 : base ≤ Wp.heap.size)
    (hK : ∀ x' y' w', w'.ownsRow base e size (.slice x' (k + 1) y') (k + 1) (xs ++ news) → Wp.grownBy w' v.ownBlock → (∀ b, (Value.slice x' (k + 1) y').ownBlock = some b → v.ownBlock = some b ∨ Wp.heap.size ≤ b) → wpListIn F m0 P ops Q rest (a.put o.dst (.slice x' (k + 1) y')) w') :
    wpListIn F m0 P ops Q (o :: rest) a (Wp.alloc (.cells news.toArray e)) := by
  subst hgs
  refine wpListIn_append_sharp _ hg s x t hop base e z size bytes h1 hi h6 h7 v k xs hs (hown.alloc _) ⟨Wp.heap.size, 0, none⟩ 1 news hx hn ?_ h1c b1 b2 (by simp; omega) ?_
  · intro j u hu
    rw [addr_at, Nat.zero_add]
    have := cell_of_row (Wp.alloc (.cells news.toArray e)) Wp.heap.size j news.toArray e (0, 0) (heap_alloc_new Wp _)
    rw [this]
    simpa using hu
  · intro x' y' w' r1 r2 r3
    refine hK x' y' w' r1 ⟨r2.os, r2.tape, r2.output, Nat.le_trans (by simp) r2.size, fun k hk hne => ?_⟩ (fun b hb => (r3 b hb).imp id (fun h => Nat.le_trans (by simp) h))
    exact (r2.block k (by simp; omega) hne).trans (Below.heap_alloc _ _ _ hk)
theorem row_one {w : World} {b T : Nat} {f : Nat → Value} {v : Value} (h : w.rowIs b T 1 f) (hv : f 0 = v) : w.rowIs b T 1 (fun _ => v) := by
  obtain ⟨c, h1, h2, h3⟩ := h
  refine ⟨c, h1, h2, fun i hi => ?_⟩
  have : i = 0 := by omega
  subst this
  rw [h3 0 hi, hv]
theorem endedL_snoc (E : List MPath) (p : MPath) : endedL (E ++ [p]) = endedL E ++ (if p.ended = true then [p] else []) := by
  rw [endedL_app]
  unfold endedL
  by_cases h : p.ended = true
  · simp [h]
  · simp [h]
theorem round_on {w0 : World} {l D A B C bs : Nat} {rec : LoopState → Option Code → Loop} {K : Nat → Prop} {E : List MPath} {p : MPath} {W Wn : World} (hI : EInv w0 l D A B C bs rec K E W) (hrec : ∀ st pe, ({ rec .ready none with state := st, pending := pe } : Loop) = rec st pe)
    (hl : Wn.heap[l]? = some (.loop { rec .ready none with state := .busy })) (hO : Only K W Wn) (hC : Wn.rowIs C 3 1 (fun _ => .int .i64 ((E.length + 1 : Nat) : Int)))
    (hown : ∃ (x : Option Addr) (y : Nat) (xs : List (PAddr × MPath)), Wn.rowIs A 126 1 (fun _ => .slice x xs.length y) ∧ Wn.ownsRow bs 129 6 (.slice x xs.length y) xs.length (flatQ xs) ∧ xs.map Prod.snd = endedL (E ++ [p]) ∧ (∀ q ∈ xs, PAway K W q.1 q.2) ∧ ∀ k, (Value.slice x xs.length y).ownBlock = some k → K k ∨ W.heap.size ≤ k)
    (hB : Wn.rowIs B 126 1 (fun _ => .slice none 0 0)) (hD : Wn.heap[D]? = some (.deferred (some []))) (hf : E.length + 1 ≤ 20000 ∧ (endedL (E ++ [p])).length ≤ 300) (Sx : World → Prop) :
    ∃ v w', (Instr.endRound l none).run Try.prog Wn = .ok v w' ∧ Visited (fun K' u => EInv w0 l D A B C bs rec K' (E ++ [p]) u) Sx K W (.returned v) w' := by
  refine ⟨_, _, run_endRound none hl, ?_⟩
  have hlt := get_lt hl
  have hlow := hI.low
  obtain ⟨x, y, xs, g1, g2, g3, g4, g5⟩ := hown
  obtain ⟨x0, y0, xs0, _, k2, _, _, k5⟩ := hI.own
  have hKl : K l := (k5 l).2 (Or.inl rfl)
  generalize hwn : Wn.putObj l _ = w'
  have hOn : Only (fun k => k = l) Wn w' := by
    rw [← hwn]
    exact Only.of_grown (grownBy_putObj' _ _ _) (fun k e => by cases e; rfl)
  have hl' : w'.heap[l]? = some (.loop (rec .ready none)) := by
    rw [← hwn]
    refine (World.putObj_heap_same hlt).trans ?_
    congr 2
    exact hrec .ready none
  clear hwn
  have hO2 : Only K W w' := hO.trans (hOn.mono (fun k hk => by subst hk; exact hKl))
  have hG : Grow K (fun k => k = l ∨ k = D ∨ k = A ∨ k = B ∨ k = C ∨ (Value.slice x xs.length y).ownBlock = some k) W := by
    intro k hk
    rcases hk with h | h | h | h | h | h
    · exact Or.inl ((k5 k).2 (Or.inl h))
    · exact Or.inl ((k5 k).2 (Or.inr (Or.inl h)))
    · exact Or.inl ((k5 k).2 (Or.inr (Or.inr (Or.inl h))))
    · exact Or.inl ((k5 k).2 (Or.inr (Or.inr (Or.inr (Or.inl h)))))
    · exact Or.inl ((k5 k).2 (Or.inr (Or.inr (Or.inr (Or.inr (Or.inl h))))))
    · exact g5 k h
  have hKw : ∀ k, K k → w0.heap.size ≤ k := by
    intro k hk
    rcases (k5 k).1 hk with h | h | h | h | h | h
    · omega
    · omega
    · omega
    · omega
    · omega
    · have := (k2.lt k h).1
      omega
  refine ⟨true, rfl, hO2, fun _ => ⟨_, ?_, hG⟩, fun h => by cases h⟩
  refine ⟨hI.below.trans (hO2.below hI.below.size (fun k hk e => by have := hKw k e; omega)), hl', (hOn.block _ (get_lt hD) (by show ¬ D = l; omega)).trans hD, ?_, hB.of_block (hOn.block _ hB.lt (by show ¬ B = l; omega)), ⟨x, y, xs, g1.of_block (hOn.block _ g1.lt (by show ¬ A = l; omega)), owns_only g2 hOn (fun k hk => by omega), g3, fun q hq => (g4 q hq).thru hO2 hG, fun k => Iff.rfl⟩, ⟨by simpa using hf.1, hf.2⟩, hlow⟩
  have := hC.of_block (hOn.block _ hC.lt (by show ¬ C = l; omega))
  simpa using this
theorem round_off {w0 : World} {l D A B C bs : Nat} {rec : LoopState → Option Code → Loop} {K : Nat → Prop} {E : List MPath} {p : MPath} {W Wn : World} (hI : EInv w0 l D A B C bs rec K E W) (hrec : ∀ st pe, ({ rec .ready none with state := st, pending := pe } : Loop) = rec st pe)
    (hl : Wn.heap[l]? = some (.loop { rec .ready none with state := .busy })) (hO : Only K W Wn)
    (hB : Wn.rowIs B 126 1 (fun _ => .slice none 0 0)) (hD : Wn.heap[D]? = some (.deferred (some []))) (hf : 20000 < E.length + 1 ∨ 300 < (endedL (E ++ [p])).length) (J : (Nat → Prop) → World → Prop) :
    ∃ v w', (Instr.endRound l (some .ret)).run Try.prog Wn = .ok v w' ∧ Visited J (fun u => EStop w0 l D B rec (E ++ [p]) u) K W (.returned v) w' := by
  refine ⟨_, _, run_endRound (some .ret) hl, ?_⟩
  have hlt := get_lt hl
  have hlow := hI.low
  obtain ⟨x1, y1, xs1, _, j2, _, _, k5⟩ := hI.own
  have hKl : K l := (k5 l).2 (Or.inl rfl)
  generalize hwn : Wn.putObj l _ = w'
  have hOn : Only (fun k => k = l) Wn w' := by
    rw [← hwn]
    exact Only.of_grown (grownBy_putObj' _ _ _) (fun k e => by cases e; rfl)
  have hl' : w'.heap[l]? = some (.loop (rec .done (some .ret))) := by
    rw [← hwn]
    refine (World.putObj_heap_same hlt).trans ?_
    congr 2
    exact hrec .done (some .ret)
  clear hwn
  have hO2 : Only K W w' := hO.trans (hOn.mono (fun k hk => by subst hk; exact hKl))
  have hKw : ∀ k, K k → w0.heap.size ≤ k := by
    intro k hk
    rcases (k5 k).1 hk with h | h | h | h | h | h
    · omega
    · omega
    · omega
    · omega
    · omega
    · have := (j2.lt k h).1
      omega
  refine ⟨false, rfl, hO2, (fun h => by cases h), fun _ => ⟨hI.below.trans (hO2.below hI.below.size (fun k hk e => by have := hKw k e; omega)), hl', (hOn.block _ (get_lt hD) (by show ¬ D = l; omega)).trans hD, hB.of_block (hOn.block _ hB.lt (by show ¬ B = l; omega)), ?_⟩⟩
  simpa using hf
def PathsOut (w : World) (v : Value) (L : List MPath) : Prop :=
  ∃ (x : Option Addr) (y : Nat) (xs : List (PAddr × MPath)), v = .slice x xs.length y ∧ xs.map Prod.snd = L ∧
    (xs = [] ∨ ∃ b, x = some ⟨b, 0, none⟩ ∧ ∀ i (h : i < xs.length) j u, (encQ xs[i])[j]? = some u → w.cell? ⟨b, i * 6 + j, none⟩ = some u) ∧ ∀ q ∈ xs, PListsAt w q.1 q.2
theorem PathsOut.nil (w : World) : PathsOut w (.slice none 0 0) [] := ⟨none, 0, [], rfl, rfl, Or.inl rfl, fun q hq => by cases hq⟩
theorem PathsOut.below {w w' : World} {v : Value} {L : List MPath} (h : PathsOut w v L) (hb : Below w.heap.size w w') : PathsOut w' v L := by
  obtain ⟨x, y, xs, h1, h2, h3, h4⟩ := h
  refine ⟨x, y, xs, h1, h2, ?_, fun q hq => (h4 q hq).below hb⟩
  rcases h3 with h3 | ⟨b, h3, h5⟩
  · exact Or.inl h3
  · exact Or.inr ⟨b, h3, fun i hi j u hu => cell_later hb (h5 i hi j u hu)⟩
theorem encQ_len (x : PAddr × MPath) : (encQ x).length = 6 := rfl
theorem PathsOut.of_own {w : World} {B e : Nat} {x : Option Addr} {y : Nat} {xs : List (PAddr × MPath)} (h : w.ownsRow B e 6 (.slice x xs.length y) xs.length (flatQ xs)) (hp : ∀ q ∈ xs, PListsAt w q.1 q.2) : PathsOut w (.slice x xs.length y) (xs.map Prod.snd) := by
  refine ⟨x, y, xs, rfl, rfl, ?_, hp⟩
  rcases h.2 with ⟨h1, h2⟩ | ⟨g, cap, cur, h1, _⟩
  · exact Or.inl (List.eq_nil_of_length_eq_zero h2)
  · injection h1 with h1
    refine Or.inr ⟨g, h1, fun i hi j u hu => ?_⟩
    have hj : j < 6 := by rw [← encQ_len xs[i]]; exact (List.getElem?_eq_some_iff.1 hu).1
    subst h1
    have hc := h.cells rfl (i * 6 + j) u
    rw [addr_at, Nat.zero_add] at hc
    refine hc ?_
    have := flat_get encQ 6 (fun _ => rfl) xs i j hi hj
    rw [← hu]
    exact this
abbrev fitsB (ps : List MPiece) (js : List MJoint) (ss : List MPiece) : Prop := (allEvs ps js ss ss.length).length ≤ 20000 ∧ (endedL (allEvs ps js ss ss.length)).length ≤ 300
def pathsF (ps : List MPiece) (js : List MJoint) (ss : List MPiece) : List MPath := if fitsB ps js ss then endedL (allEvs ps js ss ss.length) else []
set_option maxRecDepth 100000 in
set_option maxHeartbeats 4000000 in
theorem endedPaths_any (KT M : Nat) (pa ja sa : Option Addr) (pc jc sc : Nat) (ps : List MPiece) (js : List MJoint) (ss : List MPiece) (R : Hid (Right ps js ss)) (w : World) (hT : Hid (TTrack w KT M pa ja sa pc jc sc ps js ss)) :
    Calls Try.prog 52 #[.pointer (some ⟨KT, 0, none⟩)] w (fun e w' => ∃ v, e = .returned v ∧ PathsOut w' v (pathsF ps js ss) ∧ Below w.heap.size w w') := by
  have hmf : ∀ (fn : Fn) (first cap : Array Value) (w : World), (Instr.makeFunc fn first cap).run Try.prog w = .ok (.func fn first cap) w := fun _ _ _ _ => rfl
  refine (callsIn_wide (n := 0)).1 (callsIn_of_wp_marks Try.func52 rfl trivial ?_)
  simp only [Try.ntmps52, List.size_toArray, List.length_cons, List.length_nil, Nat.reduceAdd, Nat.reduceSub, Array.replicate_succ, Array.replicate_zero, List.push_toArray, List.append_toArray, List.nil_append, List.cons_append]
  gi_wp2_with fail
  generalize hW : World.alloc (World.alloc (World.alloc w _) _) _ = W
  have HBW : Hid (Below w.heap.size w W) := by rw [← hW]; exact blo
  have hz : W.heap.size = w.heap.size + 1 + 1 + 1 := by rw [← hW]; simp
  have HC : Hid (W.rowIs (w.heap.size + 1 + 1) 3 1 (fun _ => .int .i64 0)) := by
    unfold Hid
    rw [← hW]
    have := World.rowIs_alloc ((w.alloc (Obj.cells #[Value.slice none 0 0] 126)).alloc (Obj.cells #[Value.slice none 0 0] 126)) #[.int .i64 0] 3 (fun _ => .int .i64 0) (by intro i hi; have hi' : i < 1 := hi; match i, hi' with | 0, _ => rfl)
    simpa using this
  have HA : Hid (W.rowIs (w.heap.size + 1) 126 1 (fun _ => .slice none 0 0)) := by
    unfold Hid
    rw [← hW]
    have := World.rowIs_alloc (w.alloc (Obj.cells #[Value.slice none 0 0] 126)) #[.slice none 0 0] 126 (fun _ => .slice none 0 0) (by intro i hi; have hi' : i < 1 := hi; match i, hi' with | 0, _ => rfl)
    simpa using this.alloc (Obj.cells #[Value.int IntKind.i64 0] 3)
  have HB : Hid (W.rowIs w.heap.size 126 1 (fun _ => .slice none 0 0)) := by
    unfold Hid
    rw [← hW]
    have := World.rowIs_alloc w #[.slice none 0 0] 126 (fun _ => .slice none 0 0) (by intro i hi; have hi' : i < 1 := hi; match i, hi' with | 0, _ => rfl)
    simpa using (this.alloc (Obj.cells #[Value.slice none 0 0] 126)).alloc (Obj.cells #[Value.int IntKind.i64 0] 3)
  clear hW
  refine range_law 123 #[.pointer (some ⟨KT, 0, none⟩)] rfl (fun args u => by kernel_rfl) ?_
  intro fn rec hrec
  generalize hW1 : (W.alloc (.deferred (some []))).alloc (.loop (rec .ready none)) = W1
  have hb1 : Below W.heap.size W W1 := by rw [← hW1]; exact blo
  have hL1 : W1.heap[W.heap.size + 1]? = some (.loop (rec .ready none)) := by
    rw [← hW1]
    have := World.alloc_heap_new (W.alloc (.deferred (some []))) (.loop (rec .ready none))
    rwa [World.size_alloc] at this
  have hD1 : W1.heap[W.heap.size]? = some (.deferred (some [])) := by
    rw [← hW1]
    exact (Below.heap_alloc _ _ _ (by simp)).trans (World.alloc_heap_new W _)
  have hz1 : W1.heap.size = W.heap.size + 2 := by rw [← hW1]; simp
  clear hW1 hmf
  have HI0 : Hid (EInv w (W.heap.size + 1) W.heap.size (w.heap.size + 1) w.heap.size (w.heap.size + 1 + 1) (W.heap.size + 2) rec (fun k => k = W.heap.size + 1 ∨ k = W.heap.size ∨ k = w.heap.size + 1 ∨ k = w.heap.size ∨ k = w.heap.size + 1 + 1) [] W1) := by
    refine ⟨HBW.out.trans (hb1.mono HBW.out.size), hL1, hD1, HC.out.of_block (hb1.block _ HC.out.lt), HB.out.of_block (hb1.block _ HB.out.lt), ⟨none, 0, [], HA.out.of_block (hb1.block _ HA.out.lt), ⟨rfl, Or.inl ⟨rfl, rfl⟩⟩, rfl, fun q hq => (by cases hq), fun k => by simp [Value.ownBlock]⟩, ⟨by simp, by simp [endedL]⟩, by omega⟩
  clear HC HA HB hL1 hD1
  have HY : Hid (∀ K E W2 d p, EInv w (W.heap.size + 1) W.heap.size (w.heap.size + 1) w.heap.size (w.heap.size + 1 + 1) (W.heap.size + 2) rec K E W2 → PAway K W2 d p → YieldAt Fence.wide 0 Try.prog (W.heap.size + 1) #[pathV d p] W2 (Visited (fun K' u => EInv w (W.heap.size + 1) W.heap.size (w.heap.size + 1) w.heap.size (w.heap.size + 1 + 1) (W.heap.size + 2) rec K' (E ++ [p]) u) (fun u => EStop w (W.heap.size + 1) W.heap.size w.heap.size rec (E ++ [p]) u) K W2)) := by
    intro K E W2 d p hI hP
    have hy := run_yield (P := Try.prog) (args := #[pathV d p]) hI.loop (by rw [hrec]; rfl)
    rw [hrec] at hy
    refine ⟨_, _, _, _, hy, roundIn_of_wpIn trivial ?_⟩
    clear hy
    have HI := hidP hI
    have HP := hidP hP
    have HZ := hidP hz
    have HZ1 := hidP hz1
    have HREC : Hid (∀ st pe, ({ rec .ready none with state := st, pending := pe } : Loop) = rec st pe) := by
      unfold Hid
      rw [hrec]
      intro st pe
      rfl
    have hrs : (rec .ready none).state = .ready := by rw [hrec]
    clear hI hP hz hz1 HI0 hrec
    unfold pathV
    dsimp only
    have ht : ((#[8] : Array Tmp).zip #[Value.agg #[.int .i64 p.start, .int .i64 p.stop, .bool p.ended, .slice d.a0 p.steps.length d.c0, .slice d.a1 p.lies.length d.c1, .slice d.a2 p.crosses.length d.c2]]).foldl (fun tmps (x : Tmp × Value) => tmps.setIfInBounds x.1 x.2) (#[Value.pointer (some { block := KT, off := 0 }), undef, Value.pointer (some { block := w.heap.size, off := 0 }), Value.pointer (some { block := w.heap.size + 1, off := 0 }), Value.pointer (some { block := w.heap.size + 1 + 1, off := 0 }), undef, Value.pointer (some { block := KT, off := 0 }), Value.func (Fn.func 123) #[Value.pointer (some { block := KT, off := 0 })] #[], undef, undef, undef, undef, undef, undef, undef, undef, undef, undef, undef, undef, undef, undef, undef, undef, undef] : Array Value) = #[Value.pointer (some { block := KT, off := 0 }), undef, Value.pointer (some { block := w.heap.size, off := 0 }), Value.pointer (some { block := w.heap.size + 1, off := 0 }), Value.pointer (some { block := w.heap.size + 1 + 1, off := 0 }), undef, Value.pointer (some { block := KT, off := 0 }), Value.func (Fn.func 123) #[Value.pointer (some { block := KT, off := 0 })] #[], Value.agg #[.int .i64 p.start, .int .i64 p.stop, .bool p.ended, .slice d.a0 p.steps.length d.c0, .slice d.a1 p.lies.length d.c1, .slice d.a2 p.crosses.length d.c2], undef, undef, undef, undef, undef, undef, undef, undef, undef, undef, undef, undef, undef, undef, undef, undef] := by kernel_rfl
    rw [ht]
    clear ht
    have hsa : ∀ (ρ : Operand → Value) (o : Oper), (∀ c, o.op ≠ .defer c) → Oper.semAt (some (W.heap.size + 1)) ρ o = execOp ρ o := fun ρ o h => Oper.semAt_some _ ρ o h
    have HRS := hidP hrs
    clear hrs
    gi_wp2_with fail
    have hbx : Below W2.heap.size W2 (W2.alloc (Obj.cells #[Value.int .i64 p.start, .int .i64 p.stop, .bool p.ended, .slice d.a0 p.steps.length d.c0, .slice d.a1 p.lies.length d.c1, .slice d.a2 p.crosses.length d.c2] 129)) := (Below.refl _ _).alloc (Nat.le_refl _) _
    refine ⟨_, run_beginRound ((hbx.block _ (get_lt HI.out.loop)).trans HI.out.loop) HRS.out, ?_⟩
    generalize hU : World.putObj (World.alloc W2 _) _ _ = U
    have hlt := get_lt HI.out.loop
    have hlow := HI.out.low
    obtain ⟨x, y, xs, k1, k2, k3, k4, k5⟩ := HI.out.own
    have hOU : Only (fun k => k = W.heap.size + 1) W2 U := by
      rw [← hU]
      exact (Only.of_below hbx).trans (Only.of_grown (grownBy_putObj' _ _ _) (fun k e => by cases e; rfl))
    have hlU : U.heap[W.heap.size + 1]? = some (.loop { rec .ready none with state := .busy }) := by
      rw [← hU]
      exact World.putObj_heap_same (by simp; omega)
    have hX : U.rowIs W2.heap.size 129 6 (fun i : Nat => (#[Value.int .i64 p.start, .int .i64 p.stop, .bool p.ended, .slice d.a0 p.steps.length d.c0, .slice d.a1 p.lies.length d.c1, .slice d.a2 p.crosses.length d.c2] : Array Value).getD i (.bool false)) := by
      refine (row_of_alloc2 W2 #[.int .i64 p.start, .int .i64 p.stop, .bool p.ended, .slice d.a0 p.steps.length d.c0, .slice d.a1 p.lies.length d.c1, .slice d.a2 p.crosses.length d.c2] 129).of_block ?_
      rw [← hU]
      exact World.putObj_heap_other (by omega)
    have p0 : U.cell? ⟨W2.heap.size, 0, none⟩ = some (.int .i64 p.start) := hX.cell (i := 0) (by omega)
    have p1 : U.cell? ⟨W2.heap.size, 1, none⟩ = some (.int .i64 p.stop) := hX.cell (i := 1) (by omega)
    have p2 : U.cell? ⟨W2.heap.size, 2, none⟩ = some (.bool p.ended) := hX.cell (i := 2) (by omega)
    have p3 : U.cell? ⟨W2.heap.size, 3, none⟩ = some (.slice d.a0 p.steps.length d.c0) := hX.cell (i := 3) (by omega)
    have p4 : U.cell? ⟨W2.heap.size, 4, none⟩ = some (.slice d.a1 p.lies.length d.c1) := hX.cell (i := 4) (by omega)
    have p5 : U.cell? ⟨W2.heap.size, 5, none⟩ = some (.slice d.a2 p.crosses.length d.c2) := hX.cell (i := 5) (by omega)
    have hC := HI.out.come.of_block (hOU.block _ HI.out.come.lt (by show ¬ w.heap.size + 1 + 1 = W.heap.size + 1; omega))
    have hA := k1.of_block (hOU.block _ k1.lt (by show ¬ w.heap.size + 1 = W.heap.size + 1; omega))
    have hB := HI.out.res.of_block (hOU.block _ HI.out.res.lt (by show ¬ w.heap.size = W.heap.size + 1; omega))
    have hD := (hOU.block _ (get_lt HI.out.dfr) (by show ¬ W.heap.size = W.heap.size + 1; omega)).trans HI.out.dfr
    have hOw := owns_only k2 hOU (fun k hk => by omega)
    have hKl : K (W.heap.size + 1) := (k5 _).2 (Or.inl rfl)
    have hKA : K (w.heap.size + 1) := (k5 _).2 (Or.inr (Or.inr (Or.inl rfl)))
    have hKB : K w.heap.size := (k5 _).2 (Or.inr (Or.inr (Or.inr (Or.inl rfl))))
    have hKC : K (w.heap.size + 1 + 1) := (k5 _).2 (Or.inr (Or.inr (Or.inr (Or.inr (Or.inl rfl)))))
    have HOK : Hid (Only K W2 U) := hOU.mono (fun k hk => by subst hk; exact hKl)
    have hE1 : (E.length : Int) ≤ 20000 := by have := HI.out.few.1; omega
    have hE2 : xs.length ≤ 300 := by have := HI.out.few.2; rw [← k3] at this; simpa using this
    have hzU : W2.heap.size < U.heap.size := hX.lt
    have c0 := hC.cell (i := 0) (by omega)
    have cf := hC.frozen 0
    have a0 := hA.cell (i := 0) (by omega)
    have b0 := hB.cell (i := 0) (by omega)
    have bf := hB.frozen 0
    have hzC := hC.lt
    have hzA := hA.lt
    have hzB := hB.lt
    have HC2 := hidP (hC.set 0 (.int .i64 ((E.length : Int) + 1)))
    have HA := hidP hA
    have HB := hidP hB
    have HD := hidP hD
    have HOw := hidP hOw
    have HLU := hidP hlU
    have K3 := hidP k3
    have K4 := hidP k4
    have K5 := hidP k5
    have HKA := hidP hKA
    have HKB := hidP hKB
    have HKC := hidP hKC
    have HLW := hidP hlow
    have hlt2 : w.heap.size + 1 + 1 < W2.heap.size := HI.out.come.lt
    have hlt3 : W.heap.size + 1 < W2.heap.size := get_lt HI.out.loop
    have hlt1 : w.heap.size + 1 < W2.heap.size := by omega
    have hlt0 : w.heap.size < W2.heap.size := by omega
    clear hU hbx k1 k2 k3 k4 k5 hX hC hA hB hD hOw hlU hOU hlow hlt hKl hKA hKB hKC
    obtain ⟨pe, hpe⟩ : ∃ pe, p.ended = pe := ⟨_, rfl⟩
    have HPE := hidP hpe
    rw [hpe] at p2
    clear hpe
    have HKX : Hid (∀ k, (Value.slice x xs.length y).ownBlock = some k → K k ∨ W2.heap.size ≤ k) := fun k hk => Or.inl ((K5.out k).2 (Or.inr (Or.inr (Or.inr (Or.inr (Or.inr hk))))))
    cases pe
    · have HEN : Hid (endedL (E ++ [p]) = endedL E) := by
        unfold Hid
        rw [endedL_snoc, HPE.out]
        simp
      by_cases hlim : (20000 : Int) < (E.length : Int) + 1
      · gi_wp2_with fail
        have hlow := HLW.out
        refine round_off HI.out HREC.out ((Below.heap_setCell _ ⟨w.heap.size, 0, none⟩ _ (W.heap.size + 1) (by show ¬ W.heap.size + 1 = w.heap.size; omega)).trans ((Below.heap_setCell _ ⟨w.heap.size + 1 + 1, 0, none⟩ _ (W.heap.size + 1) (by show ¬ W.heap.size + 1 = w.heap.size + 1 + 1; omega)).trans HLU.out)) ((HOK.out.setCell (p := ⟨w.heap.size + 1 + 1, 0, none⟩) (Or.inl HKC.out) _).setCell (p := ⟨w.heap.size, 0, none⟩) (Or.inl HKB.out) _) ?_ ((Below.heap_setCell _ ⟨w.heap.size, 0, none⟩ _ W.heap.size (by show ¬ W.heap.size = w.heap.size; omega)).trans ((Below.heap_setCell _ ⟨w.heap.size + 1 + 1, 0, none⟩ _ W.heap.size (by show ¬ W.heap.size = w.heap.size + 1 + 1; omega)).trans HD.out)) (Or.inl (by omega)) _
        exact row_one ((HB.out.setOther (a := ⟨w.heap.size + 1 + 1, 0, none⟩) (by show ¬ w.heap.size = w.heap.size + 1 + 1; omega) _).set 0 (.slice none 0 0)) (by simp)
      · gi_wp2_with fail
        have hlow := HLW.out
        refine round_on HI.out HREC.out ((Below.heap_setCell _ ⟨w.heap.size + 1 + 1, 0, none⟩ _ (W.heap.size + 1) (by show ¬ W.heap.size + 1 = w.heap.size + 1 + 1; omega)).trans HLU.out) (HOK.out.setCell (p := ⟨w.heap.size + 1 + 1, 0, none⟩) (Or.inl HKC.out) _) (row_one HC2.out (by simp)) ?_ (HB.out.setOther (a := ⟨w.heap.size + 1 + 1, 0, none⟩) (by show ¬ w.heap.size = w.heap.size + 1 + 1; omega) _) ((Below.heap_setCell _ ⟨w.heap.size + 1 + 1, 0, none⟩ _ W.heap.size (by show ¬ W.heap.size = w.heap.size + 1 + 1; omega)).trans HD.out) ⟨by omega, by rw [HEN.out]; exact HI.out.few.2⟩ _
        refine ⟨x, y, xs, HA.out.setOther (a := ⟨w.heap.size + 1 + 1, 0, none⟩) (by show ¬ w.heap.size + 1 = w.heap.size + 1 + 1; omega) _, ownsRow_setCell_below HOw.out (a := ⟨w.heap.size + 1 + 1, 0, none⟩) (by show w.heap.size + 1 + 1 < W.heap.size + 2; omega) _, by rw [HEN.out]; exact K3.out, K4.out, HKX.out⟩
    · have HEN : Hid (endedL (E ++ [p]) = endedL E ++ [p]) := by
        unfold Hid
        rw [endedL_snoc, HPE.out]
        simp
      rw [HPE.out]
      have HOA := hidP (ownsRow_setCell_below HOw.out (a := ⟨w.heap.size + 1 + 1, 0, none⟩) (by show w.heap.size + 1 + 1 < W.heap.size + 2; have := HLW.out; omega) (.int .i64 ((E.length : Int) + 1)))
      have HAA := hidP (HA.out.setOther (a := ⟨w.heap.size + 1 + 1, 0, none⟩) (by show ¬ w.heap.size + 1 = w.heap.size + 1 + 1; omega) (.int .i64 ((E.length : Int) + 1)))
      have HBB := hidP (HB.out.setOther (a := ⟨w.heap.size + 1 + 1, 0, none⟩) (by show ¬ w.heap.size = w.heap.size + 1 + 1; omega) (.int .i64 ((E.length : Int) + 1)))
      have HDD : Hid ((U.setCell ⟨w.heap.size + 1 + 1, 0, none⟩ (.int .i64 ((E.length : Int) + 1))).heap[W.heap.size]? = some (.deferred (some []))) := (Below.heap_setCell _ ⟨w.heap.size + 1 + 1, 0, none⟩ _ W.heap.size (by show ¬ W.heap.size = w.heap.size + 1 + 1; have := HLW.out; omega)).trans HD.out
      have HLL : Hid ((U.setCell ⟨w.heap.size + 1 + 1, 0, none⟩ (.int .i64 ((E.length : Int) + 1))).heap[W.heap.size + 1]? = some (.loop { rec .ready none with state := .busy })) := (Below.heap_setCell _ ⟨w.heap.size + 1 + 1, 0, none⟩ _ (W.heap.size + 1) (by show ¬ W.heap.size + 1 = w.heap.size + 1 + 1; have := HLW.out; omega)).trans HLU.out
      have HOO := hidP (HOK.out.setCell (p := ⟨w.heap.size + 1 + 1, 0, none⟩) (Or.inl HKC.out) (.int .i64 ((E.length : Int) + 1)))
      have hcs : (20000 : Int) < (E.length : Int) + 1 ∨ (¬ (20000 : Int) < (E.length : Int) + 1 ∧ (300 : Int) < (xs.length : Int) + 1) ∨ (¬ (20000 : Int) < (E.length : Int) + 1 ∧ ¬ (300 : Int) < (xs.length : Int) + 1) := by omega
      rcases hcs with hlim | ⟨hlim, hlen⟩ | ⟨hlim, hlen⟩
      all_goals
        gi_wp2_with (gi_at_builtin; refine wpListIn_push_sharp rfl (.tmp 13) (.tmp 15) 126 rfl (W.heap.size + 2) 129 _ 6 96 Try.underlying126 Try.infoPath rfl (by decide) (.slice x xs.length y) xs.length (flatQ xs) rfl HOA.out _ (by simp) [.int .i64 p.start, .int .i64 p.stop, .bool true, .slice d.a0 p.steps.length d.c0, .slice d.a1 p.lies.length d.c1, .slice d.a2 p.crosses.length d.c2] rfl rfl (by simp [Value.oneCell']) (by unfold maxLen; omega) (by omega) (by simp; omega) ?_; intro x6 y6 w6 r1 r2 r3; have hne : ∀ k, k < W.heap.size + 2 → some k ≠ (Value.slice x xs.length y).ownBlock := (fun k hk e => by have h9 := (HOA.out.lt k e.symm).1; omega); have hA6 := HAA.out.of_block (r2.block _ HAA.out.lt (hne _ (by have h9 := HLW.out; omega))); have hB6 := HBB.out.of_block (r2.block _ HBB.out.lt (hne _ (by have h9 := HLW.out; omega))); have hC6 := HC2.out.of_block (r2.block _ HC2.out.lt (hne _ (by have h9 := HLW.out; omega))); have a6 := hA6.cell (i := 0) (by omega); have af6 := hA6.frozen 0; have hzA6 := hA6.lt; have b6 := hB6.cell (i := 0) (by omega); have bf6 := hB6.frozen 0; have hzB6 := hB6.lt; have c6 : w6.cell? ⟨w.heap.size + 1 + 1, 0, none⟩ = some (.int .i64 ((E.length : Int) + 1)) := (hC6.cell (i := 0) (by omega)).trans (by simp); have HA6 := hidP hA6; have HB6 := hidP hB6; have HC6 := hidP hC6; have HR1 := hidP r1; have HR2 := hidP r2; have HR3 := hidP r3; have HNE := hidP hne; clear hA6 hB6 hC6 r1 r2 r3 hne)
        have hlow := HLW.out
        have hO6 : Only K W2 w6 := HOO.out.trans (Only.of_grown HR2.out (fun k hk => (K5.out k).2 (Or.inr (Or.inr (Or.inr (Or.inr (Or.inr hk)))))))
        have hl6 := (HR2.out.block _ (get_lt HLL.out) (HNE.out _ (by omega))).trans HLL.out
        have hD6 := (HR2.out.block _ (get_lt HDD.out) (HNE.out _ (by omega))).trans HDD.out
        have hl7 := (Below.heap_setCell w6 ⟨w.heap.size + 1, 0, none⟩ (.slice x6 (xs.length + 1) y6) (W.heap.size + 1) (by show ¬ W.heap.size + 1 = w.heap.size + 1; omega)).trans hl6
        have hD7 := (Below.heap_setCell w6 ⟨w.heap.size + 1, 0, none⟩ (.slice x6 (xs.length + 1) y6) W.heap.size (by show ¬ W.heap.size = w.heap.size + 1; omega)).trans hD6
        have hO7 := hO6.setCell (p := ⟨w.heap.size + 1, 0, none⟩) (Or.inl HKA.out) (.slice x6 (xs.length + 1) y6)
        have hB7 := HB6.out.setOther (a := ⟨w.heap.size + 1, 0, none⟩) (by show ¬ w.heap.size = w.heap.size + 1; omega) (.slice x6 (xs.length + 1) y6)
        have hlenE : (endedL (E ++ [p])).length = xs.length + 1 := by rw [HEN.out, ← K3.out]; simp
      · exact round_off HI.out HREC.out ((Below.heap_setCell _ ⟨w.heap.size, 0, none⟩ _ (W.heap.size + 1) (by show ¬ W.heap.size + 1 = w.heap.size; omega)).trans hl7) (hO7.setCell (p := ⟨w.heap.size, 0, none⟩) (Or.inl HKB.out) _) (row_one (hB7.set 0 (.slice none 0 0)) (by simp)) ((Below.heap_setCell _ ⟨w.heap.size, 0, none⟩ _ W.heap.size (by show ¬ W.heap.size = w.heap.size; omega)).trans hD7) (Or.inl (by omega)) _
      · exact round_off HI.out HREC.out ((Below.heap_setCell _ ⟨w.heap.size, 0, none⟩ _ (W.heap.size + 1) (by show ¬ W.heap.size + 1 = w.heap.size; omega)).trans hl7) (hO7.setCell (p := ⟨w.heap.size, 0, none⟩) (Or.inl HKB.out) _) (row_one (hB7.set 0 (.slice none 0 0)) (by simp)) ((Below.heap_setCell _ ⟨w.heap.size, 0, none⟩ _ W.heap.size (by show ¬ W.heap.size = w.heap.size; omega)).trans hD7) (Or.inr (by rw [hlenE]; omega)) _
      · refine round_on HI.out HREC.out hl7 hO7 (row_one (HC6.out.setOther (a := ⟨w.heap.size + 1, 0, none⟩) (by show ¬ w.heap.size + 1 + 1 = w.heap.size + 1; omega) _) (by simp)) ?_ hB7 hD7 ⟨by omega, by rw [hlenE]; omega⟩ _
        have hxl : (xs ++ [(d, p)]).length = xs.length + 1 := by simp
        have hfl : flatQ xs ++ [Value.int .i64 p.start, .int .i64 p.stop, .bool true, .slice d.a0 p.steps.length d.c0, .slice d.a1 p.lies.length d.c1, .slice d.a2 p.crosses.length d.c2] = flatQ (xs ++ [(d, p)]) := by
          rw [← flatQ_snoc, ← HPE.out]
          rfl
        have ho7 := HR1.out
        rw [hfl, ← hxl] at ho7
        refine ⟨x6, y6, xs ++ [(d, p)], ?_, ownsRow_setCell_below ho7 (a := ⟨w.heap.size + 1, 0, none⟩) (by show w.heap.size + 1 < W.heap.size + 2; omega) _, by rw [List.map_append, K3.out, HEN.out]; rfl, ?_, ?_⟩
        · rw [hxl]
          exact row_one (HA6.out.set 0 (.slice x6 (xs.length + 1) y6)) (by simp)
        · intro q hq
          rcases List.mem_append.1 hq with hq | hq
          · exact K4.out q hq
          · have : q = (d, p) := by simpa using hq
            subst this
            exact HP.out
        · intro k hk
          rw [hxl] at hk
          rcases HR3.out k hk with h | h
          · exact HKX.out k h
          · refine Or.inr (Nat.le_trans HOO.out.size h)
  have HRD : Hid (Rounds w (W.heap.size + 1) (EInv w (W.heap.size + 1) W.heap.size (w.heap.size + 1) w.heap.size (w.heap.size + 1 + 1) (W.heap.size + 2) rec) (EStop w (W.heap.size + 1) W.heap.size w.heap.size rec)) :=
    ⟨fun K E W2 h => h.lt, fun K E W2 h => h.below, fun K E W2 W3 h hb => h.keep hb, fun E W2 W3 h hb => h.keep hb, HY.out⟩
  refine (callsIn_wide).2 ((walk_any w KT M pa ja sa pc jc sc ps js ss R hT (W.heap.size + 1) _ _ HRD _ W1 HI0).mono ?_)
  rintro e w3 ⟨⟨v, rfl⟩, hO3, h3⟩
  have hst : ∀ pe, (rec .ready pe).state ≠ .busy ∧ (rec .ready pe).pending = pe ∧ (rec .done pe).state ≠ .busy ∧ (rec .done pe).pending = pe := by
    rw [hrec]
    intro pe
    simp
  rcases h3 with ⟨K', hI3, hG3⟩ | ⟨E1, E2, hE, hS3⟩
  · refine ⟨_, _, run_endLoop hI3.loop (hst none).1, ?_⟩
    rw [(hst none).2.1]
    dsimp only
    generalize hw4 : w3.putObj _ _ = w4
    have hO4 : Only (fun k => k = W.heap.size + 1) w3 w4 := by
      rw [← hw4]
      exact Only.of_grown (grownBy_putObj' _ _ _) (fun k e => by cases e; rfl)
    clear hw4
    obtain ⟨x, y, xs, g1, g2, g3, g4, g5⟩ := hI3.own
    have hlow := hI3.low
    have hA4 := g1.of_block (hO4.block _ g1.lt (by show ¬ w.heap.size + 1 = W.heap.size + 1; omega))
    have hB4 := hI3.res.of_block (hO4.block _ hI3.res.lt (by show ¬ w.heap.size = W.heap.size + 1; omega))
    have hD4 := (hO4.block _ (get_lt hI3.dfr) (by show ¬ W.heap.size = W.heap.size + 1; omega)).trans hI3.dfr
    have a0 := hA4.cell (i := 0) (by omega)
    have b0 := hB4.cell (i := 0) (by omega)
    have bf := hB4.frozen 0
    have hzA := hA4.lt
    have hzB := hB4.lt
    have HB5 := hidP (hB4.set 0 (.slice x xs.length y))
    have HD4 := hidP hD4
    have HG2 := hidP g2
    have HG3 := hidP g3
    have HG4 := hidP g4
    have HG5 := hidP g5
    have HO4 := hidP hO4
    have HI3 := hidP hI3
    clear hO4 g1 g2 g3 g4 g5 hA4 hB4 hD4 hI3 hG3 hO3 hst hlow
    have HZ := hidP hz
    have HZ1 := hidP hz1
    clear hz hz1
    simp only [Exit.inBlock, Exit.then]
    gi_wp2_with fail
    have hD5 : (w4.setCell ⟨w.heap.size, 0, none⟩ (.slice x xs.length y)).heap[W.heap.size]? = some (.deferred (some [])) := (Below.heap_setCell w4 ⟨w.heap.size, 0, none⟩ _ W.heap.size (by show ¬ W.heap.size = w.heap.size; have := HZ.out; omega)).trans HD4.out
    refine ⟨by simp, .inl ⟨_, _, rfl, run_takeDeferred hD5, ?_⟩⟩
    generalize hwf : World.putObj (World.setCell w4 _ _) _ _ = wf
    have hOf : Only (fun k => k = W.heap.size) (w4.setCell ⟨w.heap.size, 0, none⟩ (.slice x xs.length y)) wf := by
      rw [← hwf]
      exact Only.of_grown (grownBy_putObj' _ _ _) (fun k e => by cases e; rfl)
    clear hwf
    have hOs : Only (fun k => k = w.heap.size) w4 (w4.setCell ⟨w.heap.size, 0, none⟩ (.slice x xs.length y)) := (Only.refl (fun k => k = w.heap.size) w4).setCell (p := ⟨w.heap.size, 0, none⟩) (Or.inl rfl) _
    have hB6 := HB5.out.of_block (hOf.block _ HB5.out.lt (by show ¬ w.heap.size = W.heap.size; have := HZ.out; omega))
    have b6 : wf.cell? ⟨w.heap.size, 0, none⟩ = some (.slice x xs.length y) := (hB6.cell (i := 0) (by omega)).trans (by simp)
    have hO3f : Only (fun k => k = W.heap.size + 1 ∨ k = W.heap.size ∨ k = w.heap.size) w3 wf := ((HO4.out.mono (fun k hk => Or.inl hk)).trans (hOs.mono (fun k hk => Or.inr (Or.inr hk)))).trans (hOf.mono (fun k hk => Or.inr (Or.inl hk)))
    have hle := HI3.out.low
    refine ⟨.slice x xs.length y, by simp [results, Try.results52, go_sem, b6], .slice x xs.length y, rfl, ?_, HI3.out.below.trans (hO3f.below HI3.out.below.size (fun k hk e => by omega))⟩
    have hpf : pathsF ps js ss = xs.map Prod.snd := by
      unfold pathsF
      rw [if_pos (show fitsB ps js ss from HI3.out.few), HG3.out]
    rw [hpf]
    exact PathsOut.of_own (owns_only HG2.out hO3f (fun k hk => by omega)) (fun q hq => HG4.out q hq wf (hO3f.mono (fun k hk => (HG5.out k).2 (by rcases hk with h | h | h; exact Or.inl h; exact Or.inr (Or.inl h); exact Or.inr (Or.inr (Or.inr (Or.inl h)))))))
  · refine ⟨_, _, run_endLoop hS3.loop (hst (some .ret)).2.2.1, ?_⟩
    rw [(hst (some .ret)).2.2.2]
    dsimp only
    generalize hw4 : w3.putObj _ _ = w4
    have hO4 : Only (fun k => k = W.heap.size + 1) w3 w4 := by
      rw [← hw4]
      exact Only.of_grown (grownBy_putObj' _ _ _) (fun k e => by cases e; rfl)
    clear hw4
    have HZ := hidP hz
    have HZ1 := hidP hz1
    have HO4 := hidP hO4
    have HS3 := hidP hS3
    clear hz hz1 hO4 hS3
    gi_wp2_with fail
    have hD5 : w4.heap[W.heap.size]? = some (.deferred (some [])) := (HO4.out.block _ (get_lt HS3.out.dfr) (by show ¬ W.heap.size = W.heap.size + 1; omega)).trans HS3.out.dfr
    refine ⟨by simp, .inl ⟨_, _, rfl, run_takeDeferred hD5, ?_⟩⟩
    generalize hwf : World.putObj w4 _ _ = wf
    have hOf : Only (fun k => k = W.heap.size) w4 wf := by
      rw [← hwf]
      exact Only.of_grown (grownBy_putObj' _ _ _) (fun k e => by cases e; rfl)
    clear hwf
    have hO3f : Only (fun k => k = W.heap.size + 1 ∨ k = W.heap.size) w3 wf := (HO4.out.mono (fun k hk => Or.inl hk)).trans (hOf.mono (fun k hk => Or.inr hk))
    have hle := HZ.out
    have hB6 := HS3.out.res.of_block (hO3f.block _ HS3.out.res.lt (by show ¬ (w.heap.size = W.heap.size + 1 ∨ w.heap.size = W.heap.size); omega))
    have b6 : wf.cell? ⟨w.heap.size, 0, none⟩ = some (.slice none 0 0) := hB6.cell (i := 0) (by omega)
    refine ⟨.slice none 0 0, by simp [results, Try.results52, go_sem, b6], .slice none 0 0, rfl, ?_, HS3.out.below.trans (hO3f.below HS3.out.below.size (fun k hk e => by omega))⟩
    have hpf : pathsF ps js ss = [] := by
      unfold pathsF
      rw [if_neg]
      rintro ⟨q1, q2⟩
      rw [hE] at q1 q2
      rw [List.length_append] at q1
      rw [endedL_app, List.length_append] at q2
      have := HS3.out.past
      omega
    rw [hpf]
    exact PathsOut.nil wf
end Go.Proofs.Ytmkdgnmmebldgaa
