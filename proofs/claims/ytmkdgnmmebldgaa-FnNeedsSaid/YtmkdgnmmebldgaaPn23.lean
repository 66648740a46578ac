import Derived.Test.YtmkdgnmmebldgaaPn22
namespace Go.Proofs.Ytmkdgnmmebldgaa
open Go.RowKit Go.Deep
theorem wpList_pushN {P : Program} {Wp : World} {ops : Array Oper} {rest : List Oper} {o : Oper} {a : Act} {Q : Exit → Act → World → Prop} (hgd : o.guard = none) (s x : Operand) (t : TypeId)
    (ho : o.op = .call { callee := .builtin .append, args := #[s, x], argTypes := #[t, t] })
    (B : Nat) (e : TypeId) (z : Value) (size bytes : Nat) (ht : P.underlying t = some (.slice e)) (hi : (P.info? e).map (fun i => (i.zero, i.size, i.bytes)) = some (some z, size, bytes)) (hzs : z.cells.size = size) (hsz : 0 < size)
    (v : Value) (n m : Nat) (xs : List Value) (hs : a.eval s = v) (hown : Wp.ownsRow B e size v n xs)
    (g : Nat) (hgs : g = Wp.heap.size) (news : List Value) (hx : a.eval x = .slice (some ⟨g, 0, none⟩) m m) (hl : news.length = m * size) (h1 : ∀ u ∈ news, u.oneCell' = true)
    (h63 : n + m ≤ maxLen) (hbytes : (n + m) * bytes ≤ 140737488355328) (hB : B ≤ Wp.heap.size)
    (h : ∀ x' y' w', w'.ownsRow B e size (.slice x' (n + m) y') (n + m) (xs ++ news) → Wp.grownBy w' v.ownBlock → wpList P ops Q rest (a.put o.dst (.slice x' (n + m) y')) w') : wpList P ops Q (o :: rest) a (Wp.alloc (.cells news.toArray e)) := by
  subst hgs
  obtain ⟨i, hi1, hi2, hi3, hi4⟩ := info_parts hi
  refine wpList_append_own _ hgd s x t ho B e i z size bytes ht hi1 hi2 hi3 hi4 hzs hsz v n xs hs (hown.alloc _) ⟨Wp.heap.size, 0, none⟩ m m news hx hl ?_ h1 h63 hbytes (by simp; omega) ?_
  · intro j u hu
    rw [addr_at, Nat.zero_add]
    have := cell_of_row (Wp.alloc (.cells news.toArray e)) Wp.heap.size j news.toArray e (0, 0) (heap_alloc_new Wp _)
    rw [this]
    simpa using hu
  · intro v' w' ho' hg' _
    obtain ⟨x', y', rfl, _⟩ := owns_shape ho'
    refine h x' y' w' ho' ⟨hg'.os, hg'.tape, hg'.output, Nat.le_trans (by simp) hg'.size, fun k hk hne => ?_⟩
    exact (hg'.block k (by simp; omega) hne).trans (Below.heap_alloc _ _ _ hk)
theorem IsT.set {w : World} {t b : Nat} (h : IsT w t b) (p : Addr) (u : Value) : IsT (w.setCell p u) t b := by
  obtain ⟨cur, h⟩ := h
  by_cases e : b = p.block
  · subst e
    refine ⟨if p.spot.isSome then cur else cur.setIfInBounds p.off u, ?_⟩
    simp [World.setCell, Array.getElem?_modify, h]
  · exact ⟨cur, (Below.heap_setCell _ _ _ _ e).trans h⟩
theorem owns_isT {w : World} {B e s n b : Nat} {v : Value} {xs : List Value} (h : w.ownsRow B e s v n xs) (hb : v.ownBlock = some b) : IsT w e b := by
  rcases h.2 with ⟨rfl, _⟩ | ⟨g, cap, cur, rfl, _, hg, _⟩
  · cases hb
  · cases hb
    exact ⟨cur, hg⟩
def RowI (w : World) (g n : Nat) : Prop := ∀ j, j < n → (∃ x : Int, w.cell? ⟨g, j, none⟩ = some (.int .i64 x)) ∧ w.frozen? ⟨g, j, none⟩ = false
theorem RowI.kept {w w' : World} {g n : Nat} (h : RowI w g n) (e : w'.heap[g]? = w.heap[g]?) : RowI w' g n := fun j hj => by
  obtain ⟨⟨x, h1⟩, h2⟩ := h j hj
  exact ⟨⟨x, (World.cell?_of_block (w := w) e).trans h1⟩, (World.frozen?_of_block (w := w) e).trans h2⟩
theorem RowI.set {w : World} {g n : Nat} (h : RowI w g n) (o : Nat) (y : Int) : RowI (w.setCell ⟨g, o, none⟩ (.int .i64 y)) g n := fun j hj => by
  obtain ⟨⟨x, h1⟩, h2⟩ := h j hj
  refine ⟨?_, by rw [World.frozen?_setCell]; exact h2⟩
  by_cases e : j = o
  · subst e
    exact ⟨y, World.cell?_setCell_same _ _ _ h1⟩
  · exact ⟨x, by rw [World.cell?_setCell_other _ _ _ _ (by first | (simp; done) | (simp; omega))]; exact h1⟩
theorem rowI_of {w : World} {B n : Nat} {g y : Nat} {es : List MEnd} (h : w.ownsRow B 139 2 (.slice (some ⟨g, 0, none⟩) n y) n (flatE es)) : RowI w g (2 * n) ∧ IsT w 139 g ∧ B ≤ g ∧ n ≤ y ∧ y ≤ maxLen := by
  rcases h.2 with ⟨h1, _⟩ | ⟨g', cap, cur, h1, h2, h3, h4, h5, h6, h7⟩
  · cases h1
  · cases h1
    refine ⟨fun j hj => ⟨?_, by simp [World.frozen?, h3]⟩, ⟨cur, h3⟩, h2, h4, h5⟩
    have hl : es.length * 2 = n * 2 := by have := h.1; rw [flatE_len] at this; exact this
    have hi : j / 2 < es.length := by omega
    have hc := h.cells (g := g) rfl
    have hr : j % 2 = 0 ∨ j % 2 = 1 := by omega
    rcases hr with hr | hr
    · have := hc (j / 2 * 2 + 0) _ ((flat_get encE 2 (fun _ => rfl) es (j / 2) 0 hi (by omega)).trans rfl)
      rw [addr_at, show 0 + (j / 2 * 2 + 0) = j by omega] at this
      exact ⟨_, this⟩
    · have := hc (j / 2 * 2 + 1) _ ((flat_get encE 2 (fun _ => rfl) es (j / 2) 1 hi (by omega)).trans rfl)
      rw [addr_at, show 0 + (j / 2 * 2 + 1) = j by omega] at this
      exact ⟨_, this⟩
theorem NetS.keptE {w w' : World} {C N : Nat} {xp xj : Option Addr} {yp yj : Nat} {ps : List MPiece} (h : NetS w C N xp yp xj yj ps []) (hk : ∀ b, N ≤ b → b < w.heap.size → ¬ IsT w 139 b → w'.heap[b]? = w.heap[b]?) (hN : ¬ IsT w 139 N) : NetS w' C N xp yp xj yj ps [] := by
  have hN := hk N (Nat.le_refl _) h.lt hN
  refine ⟨h.cn, (World.cell?_of_block (w := w) hN).trans h.c0, (World.cell?_of_block (w := w) hN).trans h.c1, fun o => (World.frozen?_of_block (w := w) hN).trans (h.z o), owns_kept2 h.op (fun b hb => hk b (by have := (h.op.lt b hb).1; omega) (h.op.lt b hb).2 (fun hT => hT.ne h.op (by decide) hb)), owns_kept2 h.oj (fun b hb => hk b (by have := (h.oj.lt b hb).1; omega) (h.oj.lt b hb).2 (fun hT => hT.ne h.oj (by decide) hb)), fun x hx => (by cases hx), h.pn, h.jn⟩
theorem NetS.rowP {w w' : World} {C N : Nat} {xp xj : Option Addr} {yp yj : Nat} {ps : List MPiece} {js : List MJ} (h : NetS w C N xp yp xj yj ps js) (hg : w.grownBy w' (Value.slice xp ps.length yp).ownBlock) : w'.cell? ⟨N, 0, none⟩ = some (.slice xp ps.length yp) ∧ w'.frozen? ⟨N, 0, none⟩ = false := by
  have hN : w'.heap[N]? = w.heap[N]? := hg.block N h.lt (fun e => by have := (h.op.lt N e.symm).1; omega)
  exact ⟨(World.cell?_of_block (w := w) hN).trans h.c0, (World.frozen?_of_block (w := w) hN).trans (h.z 0)⟩
def Nt1 (W wr : World) (C N : Nat) (ca : Option Addr) (cc : Nat) (bs : List Int) (at_ i : Nat) (ve : Value) : Prop :=
  ∃ xp yp ps at' es, NetS wr C N xp yp none 0 ps [] ∧ Cur wr C ca cc bs at' ∧ ps.length = i ∧ es.length = 2 * i ∧ wr.ownsRow (N + 1) 139 2 ve (2 * i) (flatE es) ∧ at' ≤ at_ + 2 + 8 * i ∧ IsT wr 26 N ∧ Only (fun k => k = C ∨ N ≤ k) W wr
def Nt2 (W wr : World) (C N g m : Nat) (ca : Option Addr) (cc : Nat) (bs : List Int) (top j : Nat) : Prop :=
  ∃ xp yp ps at', NetS wr C N xp yp none 0 ps [] ∧ Cur wr C ca cc bs at' ∧ (1 ≤ ps.length ∧ ps.length ≤ 10) ∧ RowI wr g (2 * m) ∧ IsT wr 139 g ∧ at' + 4 * j ≤ top ∧ IsT wr 26 N ∧ Only (fun k => k = C ∨ N ≤ k) W wr
theorem isT_two {w : World} {t t' b : Nat} (h : IsT w t b) (h' : IsT w t' b) : t = t' := by
  obtain ⟨c, h⟩ := h
  obtain ⟨c', h'⟩ := h'
  rw [h] at h'
  simp only [Option.some.injEq, Obj.cells.injEq] at h'
  exact h'.2.1
section
variable {W w w' : World} {C N g m : Nat} {ca : Option Addr} {cc : Nat} {bs : List Int} {top j : Nat}
theorem Nt2.set (h : Hid (Nt2 W w C N g m ca cc bs top j)) (hgN : N < g) (hl : LowB C ca bs) (o : Nat) (x : Int) : Hid (Nt2 W (w.setCell ⟨g, o, none⟩ (.int .i64 x)) C N g m ca cc bs top j) := by
  obtain ⟨xp, yp, ps, at', h1, h2, h3, h4, h5, h6, h7, h8⟩ := h.out
  have hcn := h1.cn
  have hk : ∀ b, b ≠ g → (w.setCell ⟨g, o, none⟩ (.int .i64 x)).heap[b]? = w.heap[b]? := fun b hb => Below.heap_setCell _ _ _ _ hb
  exact ⟨xp, yp, ps, at', h1.keptE (fun b _ _ hb => hk b (fun e => hb (e ▸ h5))) (fun h => absurd (isT_two h h7) (by decide)), h2.above hl (fun k hk' => hk k (by omega)), h3, h4.set o x, h5.set _ _, h6, h7.set _ _, h8.setCell (p := ⟨g, o, none⟩) (Or.inl (Or.inr (Nat.le_of_lt hgN))) _⟩
theorem Nt2.below (h : Nt2 W w C N g m ca cc bs top j) (hb : Below w.heap.size w w') : Nt2 W w' C N g m ca cc bs top j := by
  obtain ⟨xp, yp, ps, at', h1, h2, h3, h4, h5, h6, h7, h8⟩ := h
  exact ⟨xp, yp, ps, at', h1.below hb, h2.below hb, h3, h4.kept (hb.block g h5.lt), h5.kept (hb.block g h5.lt), h6, h7.kept (hb.block N h7.lt), h8.trans (Only.of_below hb)⟩
theorem Nt2.more (h : Hid (Nt2 W w C N g m ca cc bs top j)) (o : Obj) : Hid (Nt2 W (w.alloc o) C N g m ca cc bs top j) := h.out.below ((Below.refl _ _).alloc (Nat.le_refl _) _)
end
def lenOf : Value → Nat | .slice _ n _ => n | _ => 0
def Nt3 (W wr : World) (C N g m : Nat) (ca : Option Addr) (cc : Nat) (bs : List Int) (top left : Nat) : Prop :=
  ∃ xp yp xj yj ps js at', NetS wr C N xp yp xj yj ps js ∧ Cur wr C ca cc bs at' ∧ (1 ≤ ps.length ∧ ps.length ≤ 10) ∧ RowI wr g (2 * m) ∧ IsT wr 139 g ∧ at' + 2 * left ≤ top ∧ js.length + left ≤ m ∧ Only (fun k => k = C ∨ N ≤ k) W wr
structure InJ (w2 wi : World) (J kd q : Nat) (nm : ByteArray) (xe : Option Addr) (ye : Nat) (es : List MEnd) : Prop where
  c0 : wi.cell? ⟨J, 0, none⟩ = some (.int .i64 kd)
  c1 : wi.cell? ⟨J, 1, none⟩ = some (.string nm)
  c2 : wi.cell? ⟨J, 2, none⟩ = some (.slice xe q ye)
  z : ∀ o, wi.frozen? ⟨J, o, none⟩ = false
  len : es.length = q
  own : wi.ownsRow (J + 1) 139 2 (.slice xe q ye) q (flatE es)
  base : Below J w2 wi
theorem InJ.lt {w2 wi : World} {J kd q : Nat} {nm : ByteArray} {xe : Option Addr} {ye : Nat} {es : List MEnd} (h : InJ w2 wi J kd q nm xe ye es) : J < wi.heap.size := cellLt h.c0
theorem InJ.below {w2 wi wi' : World} {J kd q : Nat} {nm : ByteArray} {xe : Option Addr} {ye : Nat} {es : List MEnd} (h : InJ w2 wi J kd q nm xe ye es) (hb : Below wi.heap.size wi wi') : InJ w2 wi' J kd q nm xe ye es :=
  ⟨cell_later hb h.c0, cell_later hb h.c1, cell_later hb h.c2, fun o => (hb.frozen (p := ⟨J, o, none⟩) h.lt).trans (h.z o), h.len, owns_below h.own hb, h.base.trans (hb.mono (Nat.le_of_lt h.lt))⟩
theorem InJ.push {w2 wi w' : World} {J kd q : Nat} {nm : ByteArray} {xe x' : Option Addr} {ye y' : Nat} {es : List MEnd} (h : InJ w2 wi J kd q nm xe ye es) {e : MEnd} (hg : wi.grownBy w' (Value.slice xe q ye).ownBlock) (ho : w'.ownsRow (J + 1) 139 2 (.slice x' (q + 1) y') (q + 1) (flatE (es ++ [e]))) :
    InJ w2 (w'.setCell ⟨J, 2, none⟩ (.slice x' (q + 1) y')) J kd (q + 1) nm x' y' (es ++ [e]) := by
  have hJ : w'.heap[J]? = wi.heap[J]? := hg.block J h.lt (fun e => by have := (h.own.lt J e.symm).1; omega)
  refine ⟨?_, ?_, World.cell?_setCell_same _ _ _ ((World.cell?_of_block (w := wi) hJ).trans h.c2), fun o => ?_, by simp [h.len], ownsRow_setCell_below ho (Nat.lt_succ_self J) _, ?_⟩
  · rw [World.cell?_setCell_other _ _ _ _ (by simp)]
    exact (World.cell?_of_block (w := wi) hJ).trans h.c0
  · rw [World.cell?_setCell_other _ _ _ _ (by simp)]
    exact (World.cell?_of_block (w := wi) hJ).trans h.c1
  · rw [World.frozen?_setCell]
    exact (World.frozen?_of_block (w := wi) hJ).trans (h.z o)
  · refine (h.base.trans ⟨hg.os, hg.tape, hg.output, hg.size, fun k hk => hg.block k (by have := h.lt; omega) (fun e => by have := (h.own.lt k e.symm).1; omega)⟩).trans ⟨rfl, rfl, rfl, by simp, fun k hk => Below.heap_setCell _ _ _ _ (show k ≠ J by omega)⟩
theorem InJ.name {w2 wi : World} {J kd q : Nat} {nm : ByteArray} {xe : Option Addr} {ye : Nat} {es : List MEnd} (h : InJ w2 wi J kd q nm xe ye es) (nm' : ByteArray) : InJ w2 (wi.setCell ⟨J, 1, none⟩ (.string nm')) J kd q nm' xe ye es := by
  refine ⟨?_, World.cell?_setCell_same _ _ _ h.c1, ?_, fun o => ?_, h.len, ownsRow_setCell_below h.own (Nat.lt_succ_self J) _, h.base.trans ⟨rfl, rfl, rfl, by simp, fun k hk => Below.heap_setCell _ _ _ _ (show k ≠ J by omega)⟩⟩
  · rw [World.cell?_setCell_other _ _ _ _ (by simp)]; exact h.c0
  · rw [World.cell?_setCell_other _ _ _ _ (by simp)]; exact h.c2
  · rw [World.frozen?_setCell]; exact h.z o
theorem InJ.ends {w2 wi : World} {J N kd q : Nat} {nm : ByteArray} {xe : Option Addr} {ye : Nat} {es : List MEnd} (h : InJ w2 wi J kd q nm xe ye es) (hN : N < J) (hq : q ≤ 4) (kk : Int) : EndsIn wi N (xe, ye, ⟨kk, nm, es⟩) := by
  have hl := h.len
  obtain ⟨a, cap, e1, e2, _, _⟩ := ownE (es := es) (by rw [hl]; exact h.own) (by rw [hl]; unfold maxLen; omega)
  injection e1 with e1 _ _
  subst e1
  refine ⟨e2, Or.inr (fun b off e => ?_), by show es.length ≤ 4; omega⟩
  subst e
  have hT := owns_isT h.own (b := b) rfl
  exact ⟨by have := (h.own.lt b rfl).1; omega, hT⟩
end Go.Proofs.Ytmkdgnmmebldgaa
