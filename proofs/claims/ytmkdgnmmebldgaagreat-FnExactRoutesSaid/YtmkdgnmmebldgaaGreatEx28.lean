import Derived.Test.YtmkdgnmmebldgaaGreatEx23
import Derived.Test.YtmkdgnmmebldgaaGreatEx27
import Derived.Test.YtmkdgnmmebldgaaGreatEx20
import Derived.Test.YtmkdgnmmebldgaaGreatEx15
import Derived.Test.YtmkdgnmmebldgaaGreatEx21
import Derived.Test.YtmkdgnmmebldgaaGreatEx26
import Derived.Test.YtmkdgnmmebldgaaGreatEx19
namespace Go.Proofs.YtmkdgnmmebldgaaGreat
open Go.RowKit Go.Deep

/-! What stands in memory while a walk goes on. -/

/-- The eight cells of a route. -/
def encR (x : RAddr × MRoute) : List Value := [.int .i64 x.2.start, .int .i64 x.2.stop, .slice x.1.a0 x.2.steps.length x.1.c0, .slice x.1.a1 x.2.lies.length x.1.c1, .slice x.1.a2 x.2.crosses.length x.1.c2, .slice x.1.a3 x.2.parts.length x.1.c3, .slice x.1.a4 x.2.over.length x.1.c4, .slice x.1.a5 x.2.flanks.length x.1.c5]
def flatR (pr : List (RAddr × MRoute)) : List Value := pr.flatMap encR
theorem flatR_snoc (pr : List (RAddr × MRoute)) (x : RAddr × MRoute) : flatR (pr ++ [x]) = flatR pr ++ encR x := by simp [flatR]

/-- A row of routes of one's own lies there. -/
def IsRow (w : World) (k : Nat) : Prop := ∃ cur, w.heap[k]? = some (.cells cur 64 (0, 0))
/-- A list lies neither in the finder nor in a row of routes. -/
def NotR (w : World) (F : Nat) (a : Option Addr) (n : Nat) : Prop := n = 0 ∨ ∀ b off, a = some ⟨b, off, none⟩ → b ≠ F ∧ b < w.heap.size ∧ ¬ IsRow w b
/-- What a walk may turn: the finder, and its own row of routes, which lies there behind where it lay, or in a new block. -/
structure Eff (F : Nat) (v v' : Value) (w w' : World) : Prop where
  only : Only (fun k => k = F ∨ v.ownBlock = some k) w w'
  tame : Tame w v v'
  rows : ∀ k, v.ownBlock = some k → F < k ∧ IsRow w k

abbrev noRow : Value := .slice none 0 0
theorem Eff.of_below {F : Nat} {w w' : World} (h : Below w.heap.size w w') : Eff F noRow noRow w w' := ⟨Only.of_below h, Tame.refl _ _, fun _ h => by cases h⟩
theorem Eff.size {F : Nat} {v v' : Value} {w w' : World} (h : Eff F v v' w w') : w.heap.size ≤ w'.heap.size := Only.size h.only
theorem Eff.trans {F : Nat} {v v1 v2 : Value} {a b c : World} (h : Eff F v v1 a b) (k : Eff F v1 v2 b c) : Eff F v v2 a c :=
  ⟨⟨k.only.os.trans h.only.os, k.only.tape.trans h.only.tape, k.only.output.trans h.only.output, Nat.le_trans h.size k.size, fun x hx hn => by
    refine (k.only.block x (Nat.lt_of_lt_of_le hx h.size) ?_).trans (h.only.block x hx hn)
    rintro (h1 | h1)
    · exact hn (Or.inl h1)
    · rcases h.tame x h1 with h2 | h2
      · exact hn (Or.inr h2)
      · omega⟩, h.tame.trans k.tame h.size, h.rows⟩
theorem Eff.later {F : Nat} {v v1 : Value} {a b c : World} (h : Eff F v v1 a b) (k : Below b.heap.size b c) : Eff F v v1 a c :=
  ⟨h.only.trans (Only.of_below k), h.tame, h.rows⟩
theorem Eff.set {F : Nat} {w : World} (o : Nat) (u : Value) : Eff F noRow noRow w (w.setCell ⟨F, o, none⟩ u) := ⟨Only.setCell (Only.refl _ _) (p := ⟨F, o, none⟩) (Or.inl (Or.inl rfl)) u, Tame.refl _ _, fun _ h => by cases h⟩
theorem Eff.below {F : Nat} {v v' : Value} {w w' : World} {B : Nat} (h : Eff F v v' w w') (hB : B ≤ F) (hz : F < w.heap.size) : Below B w w' :=
  ⟨h.only.os, h.only.tape, h.only.output, h.size, fun x hx => h.only.block x (by omega) (by
    rintro (h1 | h1)
    · omega
    · have := (h.rows x h1).1
      omega)⟩
theorem Eff.block {F : Nat} {v v' : Value} {w w' : World} (h : Eff F v v' w w') {b : Nat} (h1 : b ≠ F) (h2 : b < w.heap.size) (h3 : v.ownBlock ≠ some b) : w'.heap[b]? = w.heap[b]? := h.only.block b h2 (by
  rintro (h4 | h4)
  · exact h1 h4
  · exact h3 h4)
theorem Eff.blockR {F : Nat} {v v' : Value} {w w' : World} (h : Eff F v v' w w') {b : Nat} (h1 : b ≠ F) (h2 : b < w.heap.size) (h3 : ¬ IsRow w b) : w'.heap[b]? = w.heap[b]? := h.block h1 h2 (fun e => h3 (h.rows b e).2)

theorem NotR.kept {F : Nat} {v v' : Value} {w w' : World} {a : Option Addr} {n : Nat} (h : NotR w F a n) (he : Eff F v v' w w') : NotR w' F a n := by
  rcases h with h | h
  · exact Or.inl h
  · refine Or.inr (fun b off e => ?_)
    obtain ⟨h1, h2, h3⟩ := h b off e
    have hb := he.blockR h1 h2 h3
    exact ⟨h1, Nat.lt_of_lt_of_le h2 he.size, fun ⟨cur, hc⟩ => h3 ⟨cur, by rw [← hb]; exact hc⟩⟩
theorem notR_nil (w : World) (F : Nat) (a : Option Addr) : NotR w F a 0 := Or.inl rfl
theorem notR_own {w : World} {F B e s n : Nat} {a : Option Addr} {c : Nat} {xs : List Value} (h : w.ownsRow B e s (.slice a n c) n xs) (he : e ≠ 64) (hB : F < B) : NotR w F a n := by
  rcases h.2 with ⟨h1, h2⟩ | ⟨g, cap, cur, h1, h2, h3, _⟩
  · exact Or.inl h2
  · refine Or.inr (fun b off ea => ?_)
    cases h1
    cases ea
    refine ⟨by omega, (Array.getElem?_eq_some_iff.1 h3).1, fun ⟨cur', h4⟩ => ?_⟩
    rw [h3] at h4
    simp only [Option.some.injEq, Obj.cells.injEq] at h4
    exact he h4.2.1
theorem isRow_own {w : World} {B s n : Nat} {v : Value} {xs : List Value} (h : w.ownsRow B 64 s v n xs) {k : Nat} (hk : v.ownBlock = some k) : B ≤ k ∧ IsRow w k := by
  rcases h.2 with ⟨h1, h2⟩ | ⟨g, cap, cur, h1, h2, h3, _⟩
  · rw [h1] at hk; cases hk
  · rw [h1] at hk
    simp only [Value.ownBlock, Option.some.injEq] at hk
    subst hk
    exact ⟨h2, cur, h3⟩

/-- The lists of a route lie there, and no walk turns them. -/
structure RKeep (w : World) (F : Nat) (d : RAddr) (r : MRoute) : Prop where
  lists : RListsAt w d r
  n0 : NotR w F d.a0 r.steps.length
  n1 : NotR w F d.a1 r.lies.length
  n2 : NotR w F d.a2 r.crosses.length
  n3 : NotR w F d.a3 r.parts.length
  n4 : NotR w F d.a4 r.over.length
  n5 : NotR w F d.a5 r.flanks.length

theorem NotR.same {α : Type} {F : Nat} {v v' : Value} {w w' : World} {a : Option Addr} {L : List α} (h : NotR w F a L.length) (he : Eff F v v' w w') : L = [] ∨ ∀ b off, a = some ⟨b, off, none⟩ → w'.heap[b]? = w.heap[b]? := by
  rcases h with h | h
  · exact Or.inl (List.eq_nil_of_length_eq_zero h)
  · exact Or.inr (fun b off e => by obtain ⟨h1, h2, h3⟩ := h b off e; exact he.blockR h1 h2 h3)
theorem RKeep.kept {w w' : World} {F : Nat} {v v' : Value} {d : RAddr} {r : MRoute} (h : RKeep w F d r) (he : Eff F v v' w w') : RKeep w' F d r :=
  ⟨⟨h.lists.steps.kept (h.n0.same he), h.lists.lies.kept (h.n1.same he), h.lists.crosses.kept (h.n2.same he), h.lists.parts.kept (h.n3.same he), h.lists.over.kept (h.n4.same he), h.lists.flanks.kept (h.n5.same he), h.lists.nil1⟩, h.n0.kept he, h.n1.kept he, h.n2.kept he, h.n3.kept he, h.n4.kept he, h.n5.kept he⟩

/-- What stands while a walk goes on. -/
structure WS (w0 w : World) (F : Nat) (pa ja sa : Option Addr) (pc jc sc np nj ns : Nat) (over : Int) (xo : Option Addr) (yo t : Nat) (pr : List (RAddr × MRoute)) : Prop where
  base : Below w0.heap.size w0 w
  f : w0.heap.size ≤ F
  c0 : w.cell? ⟨F, 0, none⟩ = some (.slice pa np pc)
  c1 : w.cell? ⟨F, 1, none⟩ = some (.slice ja nj jc)
  c2 : w.cell? ⟨F, 2, none⟩ = some (.slice sa ns sc)
  c3 : w.cell? ⟨F, 3, none⟩ = some (.int .i64 over)
  c4 : w.cell? ⟨F, 4, none⟩ = some (.slice xo pr.length yo)
  z4 : w.frozen? ⟨F, 4, none⟩ = false
  c5 : w.cell? ⟨F, 5, none⟩ = some (.int .i64 (t : Int))
  z5 : w.frozen? ⟨F, 5, none⟩ = false
  s6 : ∃ v, w.cell? ⟨F, 6, none⟩ = some v
  z6 : w.frozen? ⟨F, 6, none⟩ = false
  own : w.ownsRow (F + 1) 64 8 (.slice xo pr.length yo) pr.length (flatR pr)
  keep : ∀ x ∈ pr, RKeep w F x.1 x.2

section
variable {w0 w w' : World} {F : Nat} {pa ja sa : Option Addr} {pc jc sc np nj ns : Nat} {over : Int} {xo : Option Addr} {yo t : Nat} {pr : List (RAddr × MRoute)}
theorem WS.lt (h : WS w0 w F pa ja sa pc jc sc np nj ns over xo yo t pr) : F < w.heap.size := cellLt h.c0
theorem WS.below (h : WS w0 w F pa ja sa pc jc sc np nj ns over xo yo t pr) (hb : Below w.heap.size w w') : WS w0 w' F pa ja sa pc jc sc np nj ns over xo yo t pr := by
  obtain ⟨v, hv⟩ := h.s6
  exact ⟨h.base.trans (hb.mono h.base.size), h.f, cell_later hb h.c0, cell_later hb h.c1, cell_later hb h.c2, cell_later hb h.c3, cell_later hb h.c4, (hb.frozen (p := ⟨F, 4, none⟩) h.lt).trans h.z4, cell_later hb h.c5, (hb.frozen (p := ⟨F, 5, none⟩) h.lt).trans h.z5, ⟨v, cell_later hb hv⟩, (hb.frozen (p := ⟨F, 6, none⟩) h.lt).trans h.z6, owns_below h.own hb, fun x hx => (h.keep x hx).kept (Eff.of_below hb)⟩
/-- 'f.tries++'. -/
theorem WS.inc (h : WS w0 w F pa ja sa pc jc sc np nj ns over xo yo t pr) (t' : Nat) : WS w0 (w.setCell ⟨F, 5, none⟩ (.int .i64 (t' : Int))) F pa ja sa pc jc sc np nj ns over xo yo t' pr := by
  obtain ⟨v, hv⟩ := h.s6
  have hc : ∀ {o : Nat} {u : Value}, o ≠ 5 → w.cell? ⟨F, o, none⟩ = some u → (w.setCell ⟨F, 5, none⟩ (.int .i64 (t' : Int))).cell? ⟨F, o, none⟩ = some u := fun ho hc => by
    rw [World.cell?_setCell_other _ _ _ _ (by first | (simp; done) | (simp; omega))]
    exact hc
  refine ⟨h.base.setCell (p := ⟨F, 5, none⟩) h.f _, h.f, hc (by omega) h.c0, hc (by omega) h.c1, hc (by omega) h.c2, hc (by omega) h.c3, hc (by omega) h.c4, ?_, World.cell?_setCell_same _ _ _ h.c5, ?_, ⟨v, hc (by omega) hv⟩, ?_, ownsRow_setCell_below h.own (Nat.lt_succ_self F) _, fun x hx => (h.keep x hx).kept (Eff.set 5 _)⟩
  · rw [World.frozen?_setCell]; exact h.z4
  · rw [World.frozen?_setCell]; exact h.z5
  · rw [World.frozen?_setCell]; exact h.z6
theorem WS.rows (h : WS w0 w F pa ja sa pc jc sc np nj ns over xo yo t pr) : ∀ k, (Value.slice xo pr.length yo).ownBlock = some k → F < k ∧ IsRow w k := fun _ hk => isRow_own h.own hk
theorem WS.eff0 (h : WS w0 w F pa ja sa pc jc sc np nj ns over xo yo t pr) (hb : Below w.heap.size w w') : Eff F (.slice xo pr.length yo) (.slice xo pr.length yo) w w' := ⟨Only.of_below hb, Tame.refl _ _, h.rows⟩
theorem WS.effI (h : WS w0 w F pa ja sa pc jc sc np nj ns over xo yo t pr) (u : Value) : Eff F (.slice xo pr.length yo) (.slice xo pr.length yo) w (w.setCell ⟨F, 5, none⟩ u) := ⟨Only.setCell (Only.refl _ _) (p := ⟨F, 5, none⟩) (Or.inl (Or.inl rfl)) u, Tame.refl _ _, h.rows⟩
/-- One route more. -/
theorem WS.more (h : WS w0 w F pa ja sa pc jc sc np nj ns over xo yo t pr) {fl : List MFlank} {news : Option Addr → Nat → List Value} {e : Ending} (hd : DonePost F (F + 1) pr.length (.slice xo pr.length yo) (flatR pr) w fl news e w')
    (d : Option Addr → Nat → RAddr) (r : MRoute) (hn : ∀ a c, news a c = encR (d a c, r)) (hk : ∀ a c v', w'.ownsRow w.heap.size 146 4 (.slice a fl.length c) fl.length (flatF fl) → Eff F (.slice xo pr.length yo) v' w w' → RKeep w' F (d a c) r) :
    e = .returned (.tuple #[]) ∧ ∃ x' y' dd, WS w0 w' F pa ja sa pc jc sc np nj ns over x' y' t (pr ++ [(dd, r)]) ∧ Eff F (.slice xo pr.length yo) (.slice x' (pr.length + 1) y') w w' := by
  obtain ⟨he, x', y', xf, yf, h4, ho, hf, hT, hc, hz, h6, hO⟩ := hd
  have hE : Eff F (.slice xo pr.length yo) (.slice x' (pr.length + 1) y') w w' := ⟨hO, hT, h.rows⟩
  have el : (pr ++ [(d xf yf, r)]).length = pr.length + 1 := by simp
  rw [hn, ← flatR_snoc] at ho
  refine ⟨he, x', y', d xf yf, ⟨h.base.trans (hE.below h.f h.lt), h.f, ?_, ?_, ?_, ?_, ?_, ?_, ?_, ?_, h6, ?_, ?_, ?_⟩, hE⟩
  · rw [hc 0 (by omega) (by omega)]; exact h.c0
  · rw [hc 1 (by omega) (by omega)]; exact h.c1
  · rw [hc 2 (by omega) (by omega)]; exact h.c2
  · rw [hc 3 (by omega) (by omega)]; exact h.c3
  · rw [el]; exact h4
  · rw [hz 4]; exact h.z4
  · rw [hc 5 (by omega) (by omega)]; exact h.c5
  · rw [hz 5]; exact h.z5
  · rw [hz 6]; exact h.z6
  · rw [el]; exact ho
  · intro x hx
    rcases List.mem_append.1 hx with hx | hx
    · exact (h.keep x hx).kept hE
    · have : x = (d xf yf, r) := by simpa using hx
      rw [this]
      exact hk xf yf _ hf hE
end

/-- The route that a walk is handed. -/
def walkR (ps : List MPiece) (ss : List MPiece) (i : Nat) (pre : List MStep) (lies : List MLie) (crosses : List Int) : MRoute := ⟨i, 0, pre, lies, crosses, fullParts ps (sigAt ss i) pre, [], []⟩

/-- What a walk leaves. -/
def WalkPost (w0 w : World) (F : Nat) (pa ja sa : Option Addr) (pc jc sc : Nat) (ps : List MPiece) (js : List MJoint) (ss : List MPiece) (over : Int) (n t : Nat) (vo : Value) (rs : List MRoute) (E : List MPath) (e : Ending) (w' : World) : Prop :=
  e = .returned (.tuple #[]) ∧ ∃ xo yo t' pr, WS w0 w' F pa ja sa pc jc sc ps.length js.length ss.length over xo yo t' pr ∧ Eff F vo (.slice xo pr.length yo) w w' ∧ Went (routeF ps js ss over) t rs E t' (pr.map Prod.snd) ∧ t' ≤ max (t + 1) (20000 + n) ∧ pr.length ≤ 301

def WalkSpec (w0 : World) (F : Nat) (pa ja sa : Option Addr) (pc jc sc : Nat) (ps : List MPiece) (js : List MJoint) (ss : List MPiece) (over : Int) (n : Nat) : Prop :=
  ∀ (a0 : Option Addr) (k0 : Nat) (a1 : Option Addr) (k1 : Nat) (a2 : Option Addr) (k2 : Nat) (a3 : Option Addr) (k3 : Nat) (i : Nat) (pre : List MStep) (p : Nat) (way : Int) (lies : List MLie) (crosses : List Int) (pos : Int) (xo : Option Addr) (yo t : Nat) (pr : List (RAddr × MRoute)) (w : World), WalkOk ps js ss i pre ⟨p, way⟩ lies crosses pos → n + pre.length = 2 * ps.length + 2 →
    WS w0 w F pa ja sa pc jc sc ps.length js.length ss.length over xo yo t pr → RKeep w F ⟨a0, k0, a1, k1, a2, k2, a3, k3, none, 0, none, 0⟩ (walkR ps ss i pre lies crosses) → NilR ⟨a0, k0, a1, k1, a2, k2, a3, k3, none, 0, none, 0⟩ (walkR ps ss i pre lies crosses) → t ≤ 100000 → pr.length ≤ 301 →
    Calls Tryz.prog 22 #[.pointer (some ⟨F, 0, none⟩), .agg #[.int .i64 i, .int .i64 0, .slice a0 pre.length k0, .slice a1 lies.length k1, .slice a2 crosses.length k2, .slice a3 pre.length k3, .slice none 0 0, .slice none 0 0], .int .i64 p, .int .i64 way, .int .i64 (farI ps p pos way)] w (WalkPost w0 w F pa ja sa pc jc sc ps js ss over n t (.slice xo pr.length yo) (pr.map Prod.snd) (evs ps js ss n (pathOf i (pre ++ [⟨p, way⟩]) lies crosses) pos))

end Go.Proofs.YtmkdgnmmebldgaaGreat

namespace Go.Proofs.YtmkdgnmmebldgaaGreat
open Go.RowKit Go.Deep

/-! The route that a walk builds, in a block of its own, its lists in rows of their own. -/

/-- The eight cells of a route's own block. -/
structure QC (W : World) (Q : Nat) (u0 u1 u2 u3 u4 u5 u6 u7 : Value) : Prop where
  q0 : W.cell? ⟨Q, 0, none⟩ = some u0
  q1 : W.cell? ⟨Q, 1, none⟩ = some u1
  q2 : W.cell? ⟨Q, 2, none⟩ = some u2
  q3 : W.cell? ⟨Q, 3, none⟩ = some u3
  q4 : W.cell? ⟨Q, 4, none⟩ = some u4
  q5 : W.cell? ⟨Q, 5, none⟩ = some u5
  q6 : W.cell? ⟨Q, 6, none⟩ = some u6
  q7 : W.cell? ⟨Q, 7, none⟩ = some u7
  z : ∀ o, W.frozen? ⟨Q, o, none⟩ = false
  ty : IsRow W Q

section
variable {W W' : World} {Q : Nat} {u0 u1 u2 u3 u4 u5 u6 u7 : Value}
theorem QC.lt (h : QC W Q u0 u1 u2 u3 u4 u5 u6 u7) : Q < W.heap.size := cellLt h.q0
theorem QC.of_block (h : QC W Q u0 u1 u2 u3 u4 u5 u6 u7) (e : W'.heap[Q]? = W.heap[Q]?) : QC W' Q u0 u1 u2 u3 u4 u5 u6 u7 :=
  ⟨(World.cell?_of_block (w := W) e).trans h.q0, (World.cell?_of_block (w := W) e).trans h.q1, (World.cell?_of_block (w := W) e).trans h.q2, (World.cell?_of_block (w := W) e).trans h.q3, (World.cell?_of_block (w := W) e).trans h.q4, (World.cell?_of_block (w := W) e).trans h.q5, (World.cell?_of_block (w := W) e).trans h.q6, (World.cell?_of_block (w := W) e).trans h.q7, fun o => (World.frozen?_of_block e).trans (h.z o), (by obtain ⟨cur, hc⟩ := h.ty; exact ⟨cur, e.trans hc⟩)⟩
theorem QC.below (h : QC W Q u0 u1 u2 u3 u4 u5 u6 u7) (hb : Below W.heap.size W W') : QC W' Q u0 u1 u2 u3 u4 u5 u6 u7 := h.of_block (hb.block Q h.lt)
theorem ty_set {W : World} {Q o : Nat} {v : Value} (h : IsRow W Q) : IsRow (W.setCell ⟨Q, o, none⟩ v) Q := by
  obtain ⟨cur, hb⟩ := h
  exact ⟨cur.setIfInBounds o v, by simp [World.setCell, Array.getElem?_modify, hb]⟩
theorem qc_alloc (W : World) (u0 u1 u2 u3 u4 u5 u6 u7 : Value) : QC (W.alloc (.cells #[u0, u1, u2, u3, u4, u5, u6, u7] 64)) W.heap.size u0 u1 u2 u3 u4 u5 u6 u7 := by
  have h := row_of_alloc2 W #[u0, u1, u2, u3, u4, u5, u6, u7] 64
  exact ⟨h.cell (i := 0) (by simp), h.cell (i := 1) (by simp), h.cell (i := 2) (by simp), h.cell (i := 3) (by simp), h.cell (i := 4) (by simp), h.cell (i := 5) (by simp), h.cell (i := 6) (by simp), h.cell (i := 7) (by simp), fun o => h.frozen o, (by obtain ⟨c, hc, _⟩ := h; exact ⟨c, hc⟩)⟩
theorem qc_setOther {o o' : Nat} {v u : Value} (ho : o ≠ o') (h : W.cell? ⟨Q, o, none⟩ = some u) : (W.setCell ⟨Q, o', none⟩ v).cell? ⟨Q, o, none⟩ = some u := by
  rw [World.cell?_setCell_other _ _ _ _ (by first | (simp; done) | (simp; omega))]
  exact h
theorem QC.set0 (h : QC W Q u0 u1 u2 u3 u4 u5 u6 u7) (v : Value) : QC (W.setCell ⟨Q, 0, none⟩ v) Q v u1 u2 u3 u4 u5 u6 u7 :=
  ⟨World.cell?_setCell_same _ _ _ h.q0, qc_setOther (by omega) h.q1, qc_setOther (by omega) h.q2, qc_setOther (by omega) h.q3, qc_setOther (by omega) h.q4, qc_setOther (by omega) h.q5, qc_setOther (by omega) h.q6, qc_setOther (by omega) h.q7, fun o => (by rw [World.frozen?_setCell]; exact h.z o), ty_set h.ty⟩
theorem QC.set1 (h : QC W Q u0 u1 u2 u3 u4 u5 u6 u7) (v : Value) : QC (W.setCell ⟨Q, 1, none⟩ v) Q u0 v u2 u3 u4 u5 u6 u7 :=
  ⟨qc_setOther (by omega) h.q0, World.cell?_setCell_same _ _ _ h.q1, qc_setOther (by omega) h.q2, qc_setOther (by omega) h.q3, qc_setOther (by omega) h.q4, qc_setOther (by omega) h.q5, qc_setOther (by omega) h.q6, qc_setOther (by omega) h.q7, fun o => (by rw [World.frozen?_setCell]; exact h.z o), ty_set h.ty⟩
theorem QC.set2 (h : QC W Q u0 u1 u2 u3 u4 u5 u6 u7) (v : Value) : QC (W.setCell ⟨Q, 2, none⟩ v) Q u0 u1 v u3 u4 u5 u6 u7 :=
  ⟨qc_setOther (by omega) h.q0, qc_setOther (by omega) h.q1, World.cell?_setCell_same _ _ _ h.q2, qc_setOther (by omega) h.q3, qc_setOther (by omega) h.q4, qc_setOther (by omega) h.q5, qc_setOther (by omega) h.q6, qc_setOther (by omega) h.q7, fun o => (by rw [World.frozen?_setCell]; exact h.z o), ty_set h.ty⟩
theorem QC.set3 (h : QC W Q u0 u1 u2 u3 u4 u5 u6 u7) (v : Value) : QC (W.setCell ⟨Q, 3, none⟩ v) Q u0 u1 u2 v u4 u5 u6 u7 :=
  ⟨qc_setOther (by omega) h.q0, qc_setOther (by omega) h.q1, qc_setOther (by omega) h.q2, World.cell?_setCell_same _ _ _ h.q3, qc_setOther (by omega) h.q4, qc_setOther (by omega) h.q5, qc_setOther (by omega) h.q6, qc_setOther (by omega) h.q7, fun o => (by rw [World.frozen?_setCell]; exact h.z o), ty_set h.ty⟩
theorem QC.set4 (h : QC W Q u0 u1 u2 u3 u4 u5 u6 u7) (v : Value) : QC (W.setCell ⟨Q, 4, none⟩ v) Q u0 u1 u2 u3 v u5 u6 u7 :=
  ⟨qc_setOther (by omega) h.q0, qc_setOther (by omega) h.q1, qc_setOther (by omega) h.q2, qc_setOther (by omega) h.q3, World.cell?_setCell_same _ _ _ h.q4, qc_setOther (by omega) h.q5, qc_setOther (by omega) h.q6, qc_setOther (by omega) h.q7, fun o => (by rw [World.frozen?_setCell]; exact h.z o), ty_set h.ty⟩
theorem QC.set5 (h : QC W Q u0 u1 u2 u3 u4 u5 u6 u7) (v : Value) : QC (W.setCell ⟨Q, 5, none⟩ v) Q u0 u1 u2 u3 u4 v u6 u7 :=
  ⟨qc_setOther (by omega) h.q0, qc_setOther (by omega) h.q1, qc_setOther (by omega) h.q2, qc_setOther (by omega) h.q3, qc_setOther (by omega) h.q4, World.cell?_setCell_same _ _ _ h.q5, qc_setOther (by omega) h.q6, qc_setOther (by omega) h.q7, fun o => (by rw [World.frozen?_setCell]; exact h.z o), ty_set h.ty⟩
theorem QC.set6 (h : QC W Q u0 u1 u2 u3 u4 u5 u6 u7) (v : Value) : QC (W.setCell ⟨Q, 6, none⟩ v) Q u0 u1 u2 u3 u4 u5 v u7 :=
  ⟨qc_setOther (by omega) h.q0, qc_setOther (by omega) h.q1, qc_setOther (by omega) h.q2, qc_setOther (by omega) h.q3, qc_setOther (by omega) h.q4, qc_setOther (by omega) h.q5, World.cell?_setCell_same _ _ _ h.q6, qc_setOther (by omega) h.q7, fun o => (by rw [World.frozen?_setCell]; exact h.z o), ty_set h.ty⟩
theorem QC.set7 (h : QC W Q u0 u1 u2 u3 u4 u5 u6 u7) (v : Value) : QC (W.setCell ⟨Q, 7, none⟩ v) Q u0 u1 u2 u3 u4 u5 u6 v :=
  ⟨qc_setOther (by omega) h.q0, qc_setOther (by omega) h.q1, qc_setOther (by omega) h.q2, qc_setOther (by omega) h.q3, qc_setOther (by omega) h.q4, qc_setOther (by omega) h.q5, qc_setOther (by omega) h.q6, World.cell?_setCell_same _ _ _ h.q7, fun o => (by rw [World.frozen?_setCell]; exact h.z o), ty_set h.ty⟩
/-- A whole route stored into its block. -/
theorem QC.store8 (h : QC W Q u0 u1 u2 u3 u4 u5 u6 u7) (v0 v1 v2 v3 v4 v5 v6 v7 : Value) : ∃ U, U = ((((((((W.setCell ⟨Q, 0, none⟩ v0).setCell ⟨Q, 1, none⟩ v1).setCell ⟨Q, 2, none⟩ v2).setCell ⟨Q, 3, none⟩ v3).setCell ⟨Q, 4, none⟩ v4).setCell ⟨Q, 5, none⟩ v5).setCell ⟨Q, 6, none⟩ v6).setCell ⟨Q, 7, none⟩ v7) ∧ QC U Q v0 v1 v2 v3 v4 v5 v6 v7 ∧ (∀ k, k ≠ Q → U.heap[k]? = W.heap[k]?) ∧ (∀ (B0 : Nat) (w0 : World), B0 ≤ Q → Below B0 w0 W → Below B0 w0 U) ∧ W.heap.size ≤ U.heap.size := by
  refine ⟨_, rfl, ((((((((h.set0 v0).set1 v1).set2 v2).set3 v3).set4 v4).set5 v5).set6 v6).set7 v7), ?_, ?_, by simp⟩
  · intro k hk
    iterate 8 rw [Below.heap_setCell _ _ _ _ hk]
  · intro B0 w0 hB hb
    exact ((((((((hb.setCell (show B0 ≤ (⟨Q, 0, none⟩ : Addr).block from hB) v0).setCell (show B0 ≤ (⟨Q, 1, none⟩ : Addr).block from hB) v1).setCell (show B0 ≤ (⟨Q, 2, none⟩ : Addr).block from hB) v2).setCell (show B0 ≤ (⟨Q, 3, none⟩ : Addr).block from hB) v3).setCell (show B0 ≤ (⟨Q, 4, none⟩ : Addr).block from hB) v4).setCell (show B0 ≤ (⟨Q, 5, none⟩ : Addr).block from hB) v5).setCell (show B0 ≤ (⟨Q, 6, none⟩ : Addr).block from hB) v6).setCell (show B0 ≤ (⟨Q, 7, none⟩ : Addr).block from hB) v7)
end

/-- A route under way: its block Q, its four lists from B on; w1 is an older world, nothing below A has turned since. -/
structure RB (w1 W : World) (A Q B : Nat) (x0 : Option Addr) (y0 : Nat) (x1 : Option Addr) (y1 : Nat) (x2 : Option Addr) (y2 : Nat) (x3 : Option Addr) (y3 : Nat) (v6 v7 : Value) (r : MRoute) : Prop where
  hB : Below A w1 W
  AQ : A ≤ Q
  AB : A ≤ B
  BW : B ≤ W.heap.size
  qc : QC W Q (.int .i64 r.start) (.int .i64 r.stop) (.slice x0 r.steps.length y0) (.slice x1 r.lies.length y1) (.slice x2 r.crosses.length y2) (.slice x3 r.parts.length y3) v6 v7
  own : OwnR W B (.slice x0 r.steps.length y0) (.slice x1 r.lies.length y1) (.slice x2 r.crosses.length y2) (.slice x3 r.parts.length y3) r

theorem row_ne_ty {W : World} {Q b e s n : Nat} {v : Value} {xs : List Value} (ty : IsRow W Q) (ho : W.ownsRow b e s v n xs) (he : e ≠ 64) : ¬ v.ownBlock = some Q := fun eq => by
  obtain ⟨cur, hc⟩ := ty
  rcases ho.2 with ⟨h1, _⟩ | ⟨g, cap, cur', h1, _, h3, _⟩
  · rw [h1] at eq; cases eq
  · rw [h1] at eq
    simp only [Value.ownBlock, Option.some.injEq] at eq
    rw [eq, hc] at h3
    simp only [Option.some.injEq, Obj.cells.injEq] at h3
    exact he h3.2.1.symm
theorem OwnR.below {W W' : World} {B : Nat} {v0 v1 v2 v3 : Value} {r : MRoute} (h : OwnR W B v0 v1 v2 v3 r) (hb : Below W.heap.size W W') : OwnR W' B v0 v1 v2 v3 r := ⟨owns_below h.o0 hb, owns_below h.o1 hb, owns_below h.o2 hb, owns_below h.o3 hb⟩

section
variable {w1 W W' : World} {A Q B : Nat} {x0 x1 x2 x3 : Option Addr} {y0 y1 y2 y3 : Nat} {v6 v7 : Value} {r : MRoute}
theorem RB.below (h : RB w1 W A Q B x0 y0 x1 y1 x2 y2 x3 y3 v6 v7 r) (hb : Below W.heap.size W W') : RB w1 W' A Q B x0 y0 x1 y1 x2 y2 x3 y3 v6 v7 r :=
  ⟨h.hB.trans (hb.mono (Nat.le_trans h.AQ (Nat.le_of_lt h.qc.lt))), h.AQ, h.AB, Nat.le_trans h.BW hb.size, h.qc.below hb, h.own.below hb⟩
theorem RB.nQ (h : RB w1 W A Q B x0 y0 x1 y1 x2 y2 x3 y3 v6 v7 r) {b e s n : Nat} {v : Value} {xs : List Value} (ho : W.ownsRow b e s v n xs) (he : e ≠ 64) : some Q ≠ v.ownBlock := fun eq => by
  obtain ⟨cur, hc⟩ := h.qc.ty
  rcases ho.2 with ⟨h1, _⟩ | ⟨g, cap, cur', h1, _, h3, _⟩
  · rw [h1] at eq; cases eq
  · rw [h1] at eq
    simp only [Value.ownBlock, Option.some.injEq] at eq
    rw [← eq, hc] at h3
    simp only [Option.some.injEq, Obj.cells.injEq] at h3
    exact he h3.2.1.symm
/-- Past a push onto one of the lists: all blocks but that row's stay. -/
theorem RB.hBg (h : RB w1 W A Q B x0 y0 x1 y1 x2 y2 x3 y3 v6 v7 r) {e s n : Nat} {v : Value} {xs : List Value} (ho : W.ownsRow B e s v n xs) {w2 : World} (hg : W.grownBy w2 v.ownBlock) (o : Nat) (u : Value) : Below A w1 (w2.setCell ⟨Q, o, none⟩ u) :=
  (h.hB.trans ((Only.of_grown (S := fun k => B ≤ k) hg (fun k e => (ho.lt k e).1)).below (Nat.le_trans h.AQ (Nat.le_of_lt h.qc.lt)) (fun k hk hs => by have := h.AB; omega))).setCell h.AQ _
theorem RB.set1 (h : RB w1 W A Q B x0 y0 x1 y1 x2 y2 x3 y3 v6 v7 r) (sp : Int) : RB w1 (W.setCell ⟨Q, 1, none⟩ (.int .i64 sp)) A Q B x0 y0 x1 y1 x2 y2 x3 y3 v6 v7 { r with stop := sp } :=
  ⟨h.hB.setCell h.AQ _, h.AQ, h.AB, by simpa using h.BW, h.qc.set1 _, ⟨ownsRow_setCell_other h.own.o0 (a := ⟨Q, _, none⟩) (fun e => h.nQ h.own.o0 (by decide) e.symm) _, ownsRow_setCell_other h.own.o1 (a := ⟨Q, _, none⟩) (fun e => h.nQ h.own.o1 (by decide) e.symm) _, ownsRow_setCell_other h.own.o2 (a := ⟨Q, _, none⟩) (fun e => h.nQ h.own.o2 (by decide) e.symm) _, ownsRow_setCell_other h.own.o3 (a := ⟨Q, _, none⟩) (fun e => h.nQ h.own.o3 (by decide) e.symm) _⟩⟩
theorem RB.set6 (h : RB w1 W A Q B x0 y0 x1 y1 x2 y2 x3 y3 v6 v7 r) (v : Value) : RB w1 (W.setCell ⟨Q, 6, none⟩ v) A Q B x0 y0 x1 y1 x2 y2 x3 y3 v v7 r :=
  ⟨h.hB.setCell h.AQ _, h.AQ, h.AB, by simpa using h.BW, h.qc.set6 _, ⟨ownsRow_setCell_other h.own.o0 (a := ⟨Q, _, none⟩) (fun e => h.nQ h.own.o0 (by decide) e.symm) _, ownsRow_setCell_other h.own.o1 (a := ⟨Q, _, none⟩) (fun e => h.nQ h.own.o1 (by decide) e.symm) _, ownsRow_setCell_other h.own.o2 (a := ⟨Q, _, none⟩) (fun e => h.nQ h.own.o2 (by decide) e.symm) _, ownsRow_setCell_other h.own.o3 (a := ⟨Q, _, none⟩) (fun e => h.nQ h.own.o3 (by decide) e.symm) _⟩⟩
theorem RB.over (h : RB w1 W A Q B x0 y0 x1 y1 x2 y2 x3 y3 v6 v7 r) (ov : List MPart) : RB w1 W A Q B x0 y0 x1 y1 x2 y2 x3 y3 v6 v7 { r with over := ov } := ⟨h.hB, h.AQ, h.AB, h.BW, h.qc, ⟨h.own.o0, h.own.o1, h.own.o2, h.own.o3⟩⟩
theorem RB.push0 (h : RB w1 W A Q B x0 y0 x1 y1 x2 y2 x3 y3 v6 v7 r) {e : MStep} {x' : Option Addr} {y' : Nat} {w2 : World} (hg : W.grownBy w2 (Value.slice x0 r.steps.length y0).ownBlock)
    (ho : w2.ownsRow B 100 2 (.slice x' (r.steps.length + 1) y') (r.steps.length + 1) (flatE (r.steps ++ [e]))) :
    RB w1 (w2.setCell ⟨Q, 2, none⟩ (.slice x' (r.steps.length + 1) y')) A Q B x' y' x1 y1 x2 y2 x3 y3 v6 v7 { r with steps := r.steps ++ [e] } := by
  have hq : QC w2 Q _ _ _ _ _ _ _ _ := h.qc.of_block (hg.block Q h.qc.lt (h.nQ h.own.o0 (by decide)))
  have hnQ : ∀ {b e s n : Nat} {v : Value} {xs : List Value}, w2.ownsRow b e s v n xs → e ≠ 64 → ¬ v.ownBlock = some Q := fun {b e s n v xs} hoo he eq => row_ne_ty hq.ty hoo he eq
  have hq2 := hq.set2 (.slice x' (r.steps.length + 1) y')
  refine ⟨h.hBg h.own.o0 hg _ _, h.AQ, h.AB, by have := hg.size; have := h.BW; simp; omega, ?_, ⟨(by simp only [List.length_append, List.length_singleton]; exact ownsRow_setCell_other ho (a := ⟨Q, _, none⟩) (hnQ ho (by decide)) _), ownsRow_setCell_other (h.own.o1.kept hg (owns_ne (by decide) h.own.o1 h.own.o0)) (a := ⟨Q, _, none⟩) (hnQ (h.own.o1.kept hg (owns_ne (by decide) h.own.o1 h.own.o0)) (by decide)) _, ownsRow_setCell_other (h.own.o2.kept hg (owns_ne (by decide) h.own.o2 h.own.o0)) (a := ⟨Q, _, none⟩) (hnQ (h.own.o2.kept hg (owns_ne (by decide) h.own.o2 h.own.o0)) (by decide)) _, ownsRow_setCell_other (h.own.o3.kept hg (owns_ne (by decide) h.own.o3 h.own.o0)) (a := ⟨Q, _, none⟩) (hnQ (h.own.o3.kept hg (owns_ne (by decide) h.own.o3 h.own.o0)) (by decide)) _⟩⟩
  simp only [List.length_append, List.length_singleton]
  exact hq2
theorem RB.push1 (h : RB w1 W A Q B x0 y0 x1 y1 x2 y2 x3 y3 v6 v7 r) {e : MLie} {x' : Option Addr} {y' : Nat} {w2 : World} (hg : W.grownBy w2 (Value.slice x1 r.lies.length y1).ownBlock)
    (ho : w2.ownsRow B 144 2 (.slice x' (r.lies.length + 1) y') (r.lies.length + 1) (flatE (r.lies ++ [e]))) :
    RB w1 (w2.setCell ⟨Q, 3, none⟩ (.slice x' (r.lies.length + 1) y')) A Q B x0 y0 x' y' x2 y2 x3 y3 v6 v7 { r with lies := r.lies ++ [e] } := by
  have hq : QC w2 Q _ _ _ _ _ _ _ _ := h.qc.of_block (hg.block Q h.qc.lt (h.nQ h.own.o1 (by decide)))
  have hnQ : ∀ {b e s n : Nat} {v : Value} {xs : List Value}, w2.ownsRow b e s v n xs → e ≠ 64 → ¬ v.ownBlock = some Q := fun {b e s n v xs} hoo he eq => row_ne_ty hq.ty hoo he eq
  have hq2 := hq.set3 (.slice x' (r.lies.length + 1) y')
  refine ⟨h.hBg h.own.o1 hg _ _, h.AQ, h.AB, by have := hg.size; have := h.BW; simp; omega, ?_, ⟨ownsRow_setCell_other (h.own.o0.kept hg (owns_ne (by decide) h.own.o0 h.own.o1)) (a := ⟨Q, _, none⟩) (hnQ (h.own.o0.kept hg (owns_ne (by decide) h.own.o0 h.own.o1)) (by decide)) _, (by simp only [List.length_append, List.length_singleton]; exact ownsRow_setCell_other ho (a := ⟨Q, _, none⟩) (hnQ ho (by decide)) _), ownsRow_setCell_other (h.own.o2.kept hg (owns_ne (by decide) h.own.o2 h.own.o1)) (a := ⟨Q, _, none⟩) (hnQ (h.own.o2.kept hg (owns_ne (by decide) h.own.o2 h.own.o1)) (by decide)) _, ownsRow_setCell_other (h.own.o3.kept hg (owns_ne (by decide) h.own.o3 h.own.o1)) (a := ⟨Q, _, none⟩) (hnQ (h.own.o3.kept hg (owns_ne (by decide) h.own.o3 h.own.o1)) (by decide)) _⟩⟩
  simp only [List.length_append, List.length_singleton]
  exact hq2
theorem RB.push2 (h : RB w1 W A Q B x0 y0 x1 y1 x2 y2 x3 y3 v6 v7 r) {e : Int} {x' : Option Addr} {y' : Nat} {w2 : World} (hg : W.grownBy w2 (Value.slice x2 r.crosses.length y2).ownBlock)
    (ho : w2.ownsRow B 3 1 (.slice x' (r.crosses.length + 1) y') (r.crosses.length + 1) (flatN (r.crosses ++ [e]))) :
    RB w1 (w2.setCell ⟨Q, 4, none⟩ (.slice x' (r.crosses.length + 1) y')) A Q B x0 y0 x1 y1 x' y' x3 y3 v6 v7 { r with crosses := r.crosses ++ [e] } := by
  have hq : QC w2 Q _ _ _ _ _ _ _ _ := h.qc.of_block (hg.block Q h.qc.lt (h.nQ h.own.o2 (by decide)))
  have hnQ : ∀ {b e s n : Nat} {v : Value} {xs : List Value}, w2.ownsRow b e s v n xs → e ≠ 64 → ¬ v.ownBlock = some Q := fun {b e s n v xs} hoo he eq => row_ne_ty hq.ty hoo he eq
  have hq2 := hq.set4 (.slice x' (r.crosses.length + 1) y')
  refine ⟨h.hBg h.own.o2 hg _ _, h.AQ, h.AB, by have := hg.size; have := h.BW; simp; omega, ?_, ⟨ownsRow_setCell_other (h.own.o0.kept hg (owns_ne (by decide) h.own.o0 h.own.o2)) (a := ⟨Q, _, none⟩) (hnQ (h.own.o0.kept hg (owns_ne (by decide) h.own.o0 h.own.o2)) (by decide)) _, ownsRow_setCell_other (h.own.o1.kept hg (owns_ne (by decide) h.own.o1 h.own.o2)) (a := ⟨Q, _, none⟩) (hnQ (h.own.o1.kept hg (owns_ne (by decide) h.own.o1 h.own.o2)) (by decide)) _, (by simp only [List.length_append, List.length_singleton]; exact ownsRow_setCell_other ho (a := ⟨Q, _, none⟩) (hnQ ho (by decide)) _), ownsRow_setCell_other (h.own.o3.kept hg (owns_ne (by decide) h.own.o3 h.own.o2)) (a := ⟨Q, _, none⟩) (hnQ (h.own.o3.kept hg (owns_ne (by decide) h.own.o3 h.own.o2)) (by decide)) _⟩⟩
  simp only [List.length_append, List.length_singleton]
  exact hq2
theorem RB.push3 (h : RB w1 W A Q B x0 y0 x1 y1 x2 y2 x3 y3 v6 v7 r) {e : MPart} {x' : Option Addr} {y' : Nat} {w2 : World} (hg : W.grownBy w2 (Value.slice x3 r.parts.length y3).ownBlock)
    (ho : w2.ownsRow B 104 3 (.slice x' (r.parts.length + 1) y') (r.parts.length + 1) (flatP (r.parts ++ [e]))) :
    RB w1 (w2.setCell ⟨Q, 5, none⟩ (.slice x' (r.parts.length + 1) y')) A Q B x0 y0 x1 y1 x2 y2 x' y' v6 v7 { r with parts := r.parts ++ [e] } := by
  have hq : QC w2 Q _ _ _ _ _ _ _ _ := h.qc.of_block (hg.block Q h.qc.lt (h.nQ h.own.o3 (by decide)))
  have hnQ : ∀ {b e s n : Nat} {v : Value} {xs : List Value}, w2.ownsRow b e s v n xs → e ≠ 64 → ¬ v.ownBlock = some Q := fun {b e s n v xs} hoo he eq => row_ne_ty hq.ty hoo he eq
  have hq2 := hq.set5 (.slice x' (r.parts.length + 1) y')
  refine ⟨h.hBg h.own.o3 hg _ _, h.AQ, h.AB, by have := hg.size; have := h.BW; simp; omega, ?_, ⟨ownsRow_setCell_other (h.own.o0.kept hg (owns_ne (by decide) h.own.o0 h.own.o3)) (a := ⟨Q, _, none⟩) (hnQ (h.own.o0.kept hg (owns_ne (by decide) h.own.o0 h.own.o3)) (by decide)) _, ownsRow_setCell_other (h.own.o1.kept hg (owns_ne (by decide) h.own.o1 h.own.o3)) (a := ⟨Q, _, none⟩) (hnQ (h.own.o1.kept hg (owns_ne (by decide) h.own.o1 h.own.o3)) (by decide)) _, ownsRow_setCell_other (h.own.o2.kept hg (owns_ne (by decide) h.own.o2 h.own.o3)) (a := ⟨Q, _, none⟩) (hnQ (h.own.o2.kept hg (owns_ne (by decide) h.own.o2 h.own.o3)) (by decide)) _, (by simp only [List.length_append, List.length_singleton]; exact ownsRow_setCell_other ho (a := ⟨Q, _, none⟩) (hnQ ho (by decide)) _)⟩⟩
  simp only [List.length_append, List.length_singleton]
  exact hq2
end

/-- 'append(v, x)' of one element onto a row of one's own, in a region that has drawn before. -/
theorem step_push0 {P : Program} {Wp : World} {ops : Array Oper} {o : Oper} {a : Act} {K : Act → World → Prop} {Q : Exit → Act → World → Prop} {E : Prop} (hgd : o.guard = none) (s x : Operand) (t : TypeId)
    (ho : o.op = .call { callee := .builtin .append, args := #[s, x], argTypes := #[t, t] })
    (B : Nat) (e : TypeId) (z : Value) (size bytes : Nat) (ht : P.underlying t = some (.slice e)) (hi : (P.info? e).map (fun i => (i.zero, i.size, i.bytes)) = some (some z, size, bytes)) (hzs : z.cells.size = size) (hsz : 0 < size)
    (v : Value) (n : Nat) (xs : List Value) (hs : a.eval s = v) (hown : Wp.ownsRow B e size v n xs)
    (g : Nat) (hgs : g = Wp.heap.size) (news : List Value) (hx : a.eval x = .slice (some ⟨g, 0, none⟩) 1 1) (hl : news.length = size) (h1 : ∀ u ∈ news, u.oneCell' = true)
    (h63 : n + 1 ≤ maxLen) (hbytes : (n + 1) * bytes ≤ 140737488355328) (hB : B ≤ Wp.heap.size)
    (h : ∀ x' y' w', w'.ownsRow B e size (.slice x' (n + 1) y') (n + 1) (xs ++ news) → Wp.grownBy w' v.ownBlock → K (a.put o.dst (.slice x' (n + 1) y')) w') :
    if Region.wanted o (yielded ops a.tmps) = true then Oper.wp P o a (Wp.alloc (.cells news.toArray e)) K Q else E := by
  subst hgs
  obtain ⟨i, hi1, hi2, hi3, hi4⟩ := info_parts hi
  refine step_append_lies _ hgd s x t ho B e i z size bytes ht hi1 hi2 hi3 hi4 hzs hsz v n xs hs (hown.alloc _) ⟨Wp.heap.size, 0, none⟩ 1 1 news hx (by omega) ?_ h1 (by omega) h63 hbytes (by simp; omega) _ rfl ?_
  · intro j u hu
    rw [addr_at, Nat.zero_add]
    have := cell_of_row (Wp.alloc (.cells news.toArray e)) Wp.heap.size j news.toArray e (0, 0) (heap_alloc_new Wp _)
    refine Eq.trans this ?_
    simpa using hu
  · intro g cap w' ho' hg' hq _
    refine h _ _ w' ho' ⟨hg'.os, hg'.tape, hg'.output, Nat.le_trans (by simp) hg'.size, fun k hk hne => ?_⟩
    exact (hg'.block k (by simp; omega) hne).trans (Below.heap_alloc _ _ _ hk)
theorem owns_max {w : World} {B e s n : Nat} {v : Value} {xs : List Value} (h : w.ownsRow B e s v n xs) : n ≤ maxLen := by
  rcases h.2 with ⟨_, h2⟩ | ⟨g, cap, cur, _, _, _, h3, h4, _⟩
  · rw [h2]; exact Nat.zero_le _
  · exact Nat.le_trans h3 h4
theorem own_listE {w : World} {B e : Nat} {x : Option Addr} {y : Nat} {es : List MEnd} (h : w.ownsRow B e 2 (.slice x es.length y) es.length (flatE es)) : EndsAt w x es ∧ (x = none → es.length = 0 ∧ y = 0) := by
  obtain ⟨a, c, e1, e2, e3, _⟩ := ownE h (owns_max h)
  cases e1
  exact ⟨e2, e3⟩
theorem own_listN {w : World} {B e : Nat} {x : Option Addr} {y : Nat} {es : List Int} (h : w.ownsRow B e 1 (.slice x es.length y) es.length (flatN es)) : NumsAt w x es ∧ (x = none → es.length = 0 ∧ y = 0) := by
  obtain ⟨a, c, e1, e2, e3, _⟩ := ownN h (owns_max h)
  cases e1
  exact ⟨e2, e3⟩
theorem own_listP {w : World} {B e : Nat} {x : Option Addr} {y : Nat} {es : List MPart} (h : w.ownsRow B e 3 (.slice x es.length y) es.length (flatP es)) : PartsAt w x es ∧ (x = none → es.length = 0 ∧ y = 0) := by
  obtain ⟨a, c, e1, e2, e3, _⟩ := ownP h (owns_max h)
  cases e1
  exact ⟨e2, e3⟩
theorem own_listF {w : World} {B e : Nat} {x : Option Addr} {y : Nat} {es : List MFlank} (h : w.ownsRow B e 4 (.slice x es.length y) es.length (flatF es)) : FlanksAt w x es ∧ (x = none → es.length = 0 ∧ y = 0) := by
  obtain ⟨a, c, e1, e2, e3, _⟩ := ownF h (owns_max h)
  cases e1
  exact ⟨e2, e3⟩

/-- A route that is whole is kept. -/
theorem keep_of {w1 w w' : World} {F A Q B B4 B5 : Nat} {x0 x1 x2 x3 x4 x5 : Option Addr} {y0 y1 y2 y3 y4 y5 : Nat} {v v' v7 : Value} {r : MRoute} {ov : List MPart} {fl : List MFlank} (h : RB w1 w A Q B x0 y0 x1 y1 x2 y2 x3 y3 (.slice x4 ov.length y4) v7 r) (hF : F < B)
    (h4 : w.ownsRow B4 104 3 (.slice x4 ov.length y4) ov.length (flatP ov)) (hF4 : F < B4) (he : Eff F v v' w w') (h5 : w'.ownsRow B5 146 4 (.slice x5 fl.length y5) fl.length (flatF fl)) (hF5 : F < B5) :
    RKeep w' F ⟨x0, y0, x1, y1, x2, y2, x3, y3, x4, y4, x5, y5⟩ { r with over := ov, flanks := fl } := by
  have n0 := notR_own h.own.o0 (by decide) hF
  have n1 := notR_own h.own.o1 (by decide) hF
  have n2 := notR_own h.own.o2 (by decide) hF
  have n3 := notR_own h.own.o3 (by decide) hF
  have n4 := notR_own h4 (by decide) hF4
  have n5 := notR_own h5 (by decide) hF5
  refine ⟨⟨(own_listE h.own.o0).1.kept (n0.same he), (own_listE h.own.o1).1.kept (n1.same he), (own_listN h.own.o2).1.kept (n2.same he), (own_listP h.own.o3).1.kept (n3.same he), (own_listP h4).1.kept (n4.same he), (own_listF h5).1, fun e => ((own_listE h.own.o1).2 e).2⟩, n0.kept he, n1.kept he, n2.kept he, n3.kept he, n4.kept he, n5⟩

/-- A walk that ends with a route. -/
theorem walk_end {w0 w w1 W w' : World} {F A Q B B4 : Nat} {pa ja sa : Option Addr} {pc jc sc : Nat} {ps : List MPiece} {js : List MJoint} {ss : List MPiece} {over : Int} {n t : Nat} {xo : Option Addr} {yo : Nat} {pr : List (RAddr × MRoute)} {x0 x1 x2 x3 x4 : Option Addr} {y0 y1 y2 y3 y4 : Nat} {v7 : Value} {st sp : Int} {steps : List MStep} {lies : List MLie} {crosses : List Int} {parts ov : List MPart} {e : Ending}
    (hs : WS w0 W F pa ja sa pc jc sc ps.length js.length ss.length over xo yo (t + 1) pr) (hE : Eff F (.slice xo pr.length yo) (.slice xo pr.length yo) w W) (h : RB w1 W A Q B x0 y0 x1 y1 x2 y2 x3 y3 (.slice x4 ov.length y4) v7 ⟨st, sp, steps, lies, crosses, parts, ov, []⟩) (hF : F < B)
    (h4 : W.ownsRow B4 104 3 (.slice x4 ov.length y4) ov.length (flatP ov)) (hF4 : F < B4)
    (hd : DonePost F (F + 1) pr.length (.slice xo pr.length yo) (flatR pr) W (flanksF ps js ss lies lies) (fun xf yf => [.int .i64 st, .int .i64 sp, .slice x0 steps.length y0, .slice x1 lies.length y1, .slice x2 crosses.length y2, .slice x3 parts.length y3, .slice x4 ov.length y4, .slice xf (flanksF ps js ss lies lies).length yf]) e w')
    {p' : MPath} (hp' : p'.ended = true) (hr : (⟨st, sp, steps, lies, crosses, parts, ov, flanksF ps js ss lies lies⟩ : MRoute) = routeF ps js ss over p') (ht : t + 1 ≤ 20000) (hpr : pr.length ≤ 300) :
    WalkPost w0 w F pa ja sa pc jc sc ps js ss over (n + 1) t (.slice xo pr.length yo) (pr.map Prod.snd) [p'] e w' := by
  obtain ⟨he, x', y', dd, hw, hE'⟩ := hs.more hd (fun a c => ⟨x0, y0, x1, y1, x2, y2, x3, y3, x4, y4, a, c⟩) ⟨st, sp, steps, lies, crosses, parts, ov, flanksF ps js ss lies lies⟩ (fun a c => rfl) (fun a c v' h5 hE2 => keep_of h hF h4 hF4 hE2 h5 (by have := hs.lt; omega))
  refine ⟨he, x', y', t + 1, pr ++ [(dd, _)], hw, ?_, ?_, by omega, by simp; omega⟩
  · have el : (pr ++ [(dd, (⟨st, sp, steps, lies, crosses, parts, ov, flanksF ps js ss lies lies⟩ : MRoute))]).length = pr.length + 1 := by simp
    rw [el]
    exact hE.trans hE'
  · rw [List.map_append]
    exact Went.made hp' ht hr

end Go.Proofs.YtmkdgnmmebldgaaGreat

namespace Go.Proofs.YtmkdgnmmebldgaaGreat
open Go.RowKit Go.Deep Go.Maps

/-- 'append([]T(nil), xs...)': a new row of one's own with xs in it. -/
theorem wpList_copy0 {P : Program} {u : World} {ops : Array Oper} {rest : List Oper} {o : Oper} {a : Act} {Q : Exit → Act → World → Prop} (hgd : o.guard = none) (x : Operand) (t : TypeId)
    (ho : o.op = .call { callee := .builtin .append, args := #[.const (.slice none 0 0), x], argTypes := #[t, t] })
    (e : TypeId) (z : Value) (size bytes : Nat) (ht : P.underlying t = some (.slice e)) (hi : (P.info? e).map (fun i => (i.zero, i.size, i.bytes)) = some (some z, size, bytes)) (hzs : z.cells.size = size) (hsz : 0 < size)
    (av : Option Addr) (m c : Nat) (news : List Value) (hx : a.eval x = .slice av m c) (hav : av = none → m = 0 ∧ c = 0) (hl : news.length = m * size) (hnews : ∀ ad, av = some ad → ∀ j v, news[j]? = some v → u.cell? (ad.add j) = some v) (h1 : ∀ v ∈ news, v.oneCell' = true)
    (h63 : m ≤ maxLen) (hbytes : m * bytes ≤ 140737488355328)
    (h : ∀ x' y' w', w'.ownsRow u.heap.size e size (.slice x' m y') m news → Below u.heap.size u w' → wpList P ops Q rest (a.put o.dst (.slice x' m y')) w') : wpList P ops Q (o :: rest) a u := by
  refine wpList_append_list hgd (.const (.slice none 0 0)) x t ho u.heap.size e z size bytes ht hi hzs hsz (.slice none 0 0) 0 [] rfl (World.ownsRow_nil _ _ _ _) av m c news hx (fun h => (hav h).2) hl hnews (fun h => (hav h).1) h1 (by rw [Nat.zero_add]; exact h63) (by rw [Nat.zero_add]; exact hbytes) (Nat.le_refl _) ?_
  intro v' w' ho' hg'
  rw [Nat.zero_add, List.nil_append] at ho'
  obtain ⟨x', y', rfl, _⟩ := owns_shape ho'
  exact h x' y' w' ho' (Below.grown (Below.refl _ _) hg' (Nat.le_refl _) (fun j hj => by cases hj))

/-- 'append(xs, ys...)' onto a row of one's own, ys lying anywhere. -/
theorem wpList_onto {P : Program} {u : World} {ops : Array Oper} {rest : List Oper} {o : Oper} {a : Act} {Q : Exit → Act → World → Prop} (hgd : o.guard = none) (s x : Operand) (t : TypeId)
    (ho : o.op = .call { callee := .builtin .append, args := #[s, x], argTypes := #[t, t] })
    (B : Nat) (e : TypeId) (z : Value) (size bytes : Nat) (ht : P.underlying t = some (.slice e)) (hi : (P.info? e).map (fun i => (i.zero, i.size, i.bytes)) = some (some z, size, bytes)) (hzs : z.cells.size = size) (hsz : 0 < size)
    (v : Value) (n : Nat) (xs : List Value) (hs : a.eval s = v) (hown : u.ownsRow B e size v n xs)
    (ad : Addr) (m c : Nat) (news : List Value) (hx : a.eval x = .slice (some ad) m c) (hl : news.length = m * size) (hnews : ∀ j v, news[j]? = some v → u.cell? (ad.add j) = some v) (h1 : ∀ v ∈ news, v.oneCell' = true)
    (h63 : n + m ≤ maxLen) (hbytes : (n + m) * bytes ≤ 140737488355328) (hB : B ≤ u.heap.size)
    (h : ∀ x' y' w', w'.ownsRow B e size (.slice x' (n + m) y') (n + m) (xs ++ news) → Below B u w' → wpList P ops Q rest (a.put o.dst (.slice x' (n + m) y')) w') : wpList P ops Q (o :: rest) a u := by
  refine wpList_append_list hgd s x t ho B e z size bytes ht hi hzs hsz v n xs hs hown (some ad) m c news hx (fun h => by cases h) hl (fun ad' e => by cases e; exact hnews) (fun h => by cases h) h1 h63 hbytes hB ?_
  intro v' w' ho' hg'
  obtain ⟨x', y', rfl, _⟩ := owns_shape ho'
  exact h x' y' w' ho' (push_below (Below.refl _ _) hown hg' hB)

end Go.Proofs.YtmkdgnmmebldgaaGreat

namespace Go.Proofs.YtmkdgnmmebldgaaGreat
open Go.RowKit Go.Deep

theorem nextB_ahead (ss : List MPiece) (p way pos : Int) : ∀ k, k ≤ ss.length → nextB ss p way pos k = -1 ∨ ∃ (b : Nat) (hb : b < ss.length), nextB ss p way pos k = b ∧ 0 < (ss[b].speed - pos) * way
  | 0, _ => Or.inl rfl
  | k + 1, hk => by
    have ih := nextB_ahead ss p way pos k (by omega)
    have hk' : k < ss.length := by omega
    by_cases h : ss[k].len ≠ p ∨ ss[k].brake ≠ way ∨ (ss[k].speed - pos) * way ≤ 0
    · rw [nextB_skip hk' h]; exact ih
    · by_cases h2 : nextB ss p way pos k < 0 ∨ (ss[k].speed - sigAt ss (nextB ss p way pos k)) * way < 0
      · rw [nextB_take hk' h h2]
        exact Or.inr ⟨k, hk', rfl, by omega⟩
      · rw [nextB_leave hk' h h2]; exact ih

section
variable {ps : List MPiece} {js : List MJoint} {ss : List MPiece} {i p : Nat} {pre : List MStep} {way pos over : Int} {lies : List MLie} {crosses : List Int}

theorem route_signal (ok : WalkOk ps js ss i pre ⟨p, way⟩ lies crosses pos) (hway : way = 1 ∨ way = -1) {b : Nat} (hb : b < ss.length) (hn : nextB ss p way pos ss.length = b) (h1 : ss[b].len = p) (h2 : ss[b].brake = way) :
    (⟨i, b, pre ++ [⟨p, way⟩], lies, crosses, fullParts ps (sigAt ss i) pre ++ [specPart ps p way (farI ps p pos way) (farI ps p ss[b].speed way)], behindF ps js (over.toNat + 1) ⟨p, way⟩ ss[b].speed over, flanksF ps js ss lies lies⟩ : MRoute) = routeF ps js ss over (endP i b (pre ++ [⟨p, way⟩]) lies crosses) := by
  have ha : 0 < (ss[b].speed - pos) * way := by
    rcases nextB_ahead ss p way pos ss.length (Nat.le_refl _) with h | ⟨b', hb', h, h3⟩
    · rw [hn] at h; omega
    · rw [hn] at h
      have : b = b' := by omega
      subst this
      exact h3
  have hq : specPart ps p way (farI ps p pos way) (farI ps p ss[b].speed way) = partI p pos ss[b].speed := specPart_farI hway (by rcases hway with rfl | rfl <;> omega)
  have ho : overF ps js ss (b : Int) over = behindF ps js (over.toNat + 1) ⟨p, way⟩ ss[b].speed over := by
    unfold overF
    rw [if_neg (by omega), Int.toNat_natCast, List.getElem?_eq_getElem hb]
    simp only [h1, h2]
  unfold routeF
  rw [partsF_end ok, if_pos (by omega), sigAt_at hb]
  rw [hq]
  show _ = (⟨i, b, pre ++ [⟨p, way⟩], lies, crosses, _, overF ps js ss (b : Int) over, _⟩ : MRoute)
  rw [ho]
  rfl
theorem route_buffer (ok : WalkOk ps js ss i pre ⟨p, way⟩ lies crosses pos) (hway : way = 1 ∨ way = -1) (hp : p < ps.length) :
    (⟨i, -1, pre ++ [⟨p, way⟩], lies, crosses, fullParts ps (sigAt ss i) pre ++ [specPart ps p way (farI ps p pos way) ps[p].len], [], flanksF ps js ss lies lies⟩ : MRoute) = routeF ps js ss over (endP i (-1) (pre ++ [⟨p, way⟩]) lies crosses) := by
  have h0 := ok.p0
  have h1 := ok.p1
  dsimp only at h1
  rw [lenI_at hp] at h1
  have hq : specPart ps p way (farI ps p pos way) ps[p].len = partI p pos (endAt ps (aheadE ⟨p, way⟩)) := by
    rw [← farI_end hp hway]
    refine specPart_farI hway ?_
    rcases hway with rfl | rfl
    · have he : endAt ps (aheadE ⟨(p : Int), 1⟩) = ps[p].len := by simp [endAt, aheadE, lenI_at hp]
      rw [he]; omega
    · have he : endAt ps (aheadE ⟨(p : Int), -1⟩) = 0 := by simp [endAt, aheadE]
      rw [he]; omega
  unfold routeF
  rw [partsF_end ok, if_neg (by omega), hq]
  rfl
theorem parts_on (ok : WalkOk ps js ss i pre ⟨p, way⟩ lies crosses pos) (hway : way = 1 ∨ way = -1) (hp : p < ps.length) : fullParts ps (sigAt ss i) pre ++ [specPart ps p way (farI ps p pos way) ps[p].len] = fullParts ps (sigAt ss i) (pre ++ [⟨p, way⟩]) := by
  have h0 := ok.p0
  have h1 := ok.p1
  dsimp only at h1
  rw [lenI_at hp] at h1
  have hq : specPart ps p way (farI ps p pos way) ps[p].len = partI p pos (endAt ps (aheadE ⟨p, way⟩)) := by
    rw [← farI_end hp hway]
    refine specPart_farI hway ?_
    rcases hway with rfl | rfl
    · have he : endAt ps (aheadE ⟨(p : Int), 1⟩) = ps[p].len := by simp [endAt, aheadE, lenI_at hp]
      rw [he]; omega
    · have he : endAt ps (aheadE ⟨(p : Int), -1⟩) = 0 := by simp [endAt, aheadE]
      rw [he]; omega
  rw [hq]
  exact fullParts_on ok
end

/-- The net as the finder holds it. -/
theorem WS.net {w0 w : World} {F : Nat} {pa ja sa : Option Addr} {pc jc sc : Nat} {ps : List MPiece} {js : List MJoint} {ss : List MPiece} {over : Int} {xo : Option Addr} {yo t : Nat} {pr : List (RAddr × MRoute)} (h : WS w0 w F pa ja sa pc jc sc ps.length js.length ss.length over xo yo t pr) (HP : PiecesAt w0 pa ps) (HJ : JointsAt w0 ja js) (HS : PiecesAt w0 sa ss) : FNet w F pa ja sa pc jc sc ps js ss over :=
  ⟨h.c0, h.c1, h.c2, h.c3, HP.below h.base, HJ.below h.base, HS.below h.base⟩

/-- 'done', of a route that is built. -/
theorem done_rb {w0 w1 W : World} {F A Q B : Nat} {pa ja sa : Option Addr} {pc jc sc : Nat} {ps : List MPiece} {js : List MJoint} {ss : List MPiece} {over : Int} {t : Nat} {xo : Option Addr} {yo : Nat} {pr : List (RAddr × MRoute)} {x0 x1 x2 x3 x4 : Option Addr} {y0 y1 y2 y3 y4 : Nat} {v7 : Value} {st sp : Int} {steps : List MStep} {lies : List MLie} {crosses : List Int} {parts ov : List MPart}
    (R : Hid (Right ps js ss)) (HP : Hid (PiecesAt w0 pa ps)) (HJ : Hid (JointsAt w0 ja js)) (HS : Hid (PiecesAt w0 sa ss))
    (hfl : Hid (∀ (B Q : Nat) (la : Option Addr) (lc : Nat) (lies : List MLie) (pl : Int) (n : Nat), LB w0 B F Q pa ja sa la ps js ss lies → LookSpec w0 B F Q pa ja sa la pc jc sc lc ps js ss lies pl n))
    (hs : WS w0 W F pa ja sa pc jc sc ps.length js.length ss.length over xo yo t pr) (h : RB w1 W A Q B x0 y0 x1 y1 x2 y2 x3 y3 (.slice x4 ov.length y4) v7 ⟨st, sp, steps, lies, crosses, parts, ov, []⟩) (hF : F < B) (hpr : pr.length ≤ 300)
    (lv : ∀ l ∈ lies, ∃ (j : Nat) (hj : j < js.length), l.piece = j ∧ js[j].kind = 3 ∧ (l.side = 1 ∨ l.side = 2)) (ld : (lies.map MEnd.piece).Nodup) :
    Calls Tryz.prog 55 #[.pointer (some ⟨F, 0, none⟩), .agg #[.int .i64 st, .int .i64 sp, .slice x0 steps.length y0, .slice x1 lies.length y1, .slice x2 crosses.length y2, .slice x3 parts.length y3, .slice x4 ov.length y4, .slice none 0 0]] W (DonePost F (F + 1) pr.length (.slice xo pr.length yo) (flatR pr) W (flanksF ps js ss lies lies) (fun xf yf => [.int .i64 st, .int .i64 sp, .slice x0 steps.length y0, .slice x1 lies.length y1, .slice x2 crosses.length y2, .slice x3 parts.length y3, .slice x4 ov.length y4, .slice xf (flanksF ps js ss lies lies).length yf])) := by
  have hn : NotR W F x1 lies.length := notR_own h.own.o1 (by decide) hF
  refine done_any w0 F pa ja sa pc jc sc ps js ss R HP HJ HS hs.f hfl x0 x1 x2 x3 x4 y0 y1 y2 y3 y4 st sp steps lies crosses parts ov xo yo pr.length (F + 1) (flatR pr) W hs.base hs.c0 hs.c1 hs.c2 hs.c4 hs.z4 hs.s6 hs.z6 (own_listE h.own.o1).1 ?_ (Nat.le_trans (lies_few lv ld) R.out.nj) lv (lies_like ld) hs.own (by omega) hs.lt (fun e => by have := (hs.rows F e).1; omega)
  rcases hn with hn | hn
  · exact Or.inl (List.eq_nil_of_length_eq_zero hn)
  · exact Or.inr (fun b off e => (hn b off e).1)

end Go.Proofs.YtmkdgnmmebldgaaGreat

namespace Go.Proofs.YtmkdgnmmebldgaaGreat
open Go.RowKit Go.Deep

/-! The ways on over a joint, in a row that is new. -/

def AcrossPostN (w : World) (L : List MEnd) (e : Ending) (w' : World) : Prop := ∃ g, e = .returned (.slice (some ⟨g, 0, none⟩) L.length L.length) ∧ EndCells w' g 0 L ∧ w.heap.size ≤ g ∧ Below w.heap.size w w'

theorem across_postN {w w' : World} {L : List MEnd} {g n : Nat} (hn : n = L.length) (hc : EndCells w' g 0 L) (hg : w.heap.size ≤ g) (hb : Below w.heap.size w w') : AcrossPostN w L (.returned (.slice (some ⟨g, 0, none⟩) n n)) w' := by
  subst hn
  exact ⟨g, rfl, hc, hg, hb⟩

set_option maxHeartbeats 1000000 in
theorem l1acrossN_2_0 (s : ByteArray) (x0 x1 : MEnd) (ea : Option Addr) (ec : Nat) (w : World) (he : Hid (EndsAt w ea [x0, x1])) :
    Calls Tryz.prog 58 #[.agg #[.int .i64 2, .string s, .slice ea 2 ec], .int .i64 0] w (AcrossPostN w [x1]) := by
  obtain ⟨b, off, rfl, hpc⟩ := he.out.2.resolve_left (fun h => by simp at h)
  obtain ⟨c0, d0⟩ := hpc 0 (by simp)
  obtain ⟨c1, d1⟩ := hpc 1 (by simp)
  simp only [Nat.zero_mul, Nat.one_mul, Nat.add_zero, List.getElem_cons_zero, List.getElem_cons_succ] at c0 d0 c1 d1
  have hz := cellLt c0
  clear hpc
  go_enter Tryz.func58, Tryz.ntmps58
  go_wp2_with fail
  go_ret
  exact across_postN rfl (endCells_1 (by simp [go_sem]) (by simp [go_sem])) (by first | omega | (simp; done) | (simp; omega)) (by repeat (first | exact Below.refl _ _ | assumption | refine Below.drew ?_ | refine bdrewN ?_ _ | refine Below.setCell ?_ (by first | omega | (simp; done) | (simp; omega)) _ | refine Below.alloc ?_ (by first | omega | (simp; done) | (simp; omega)) _))

set_option maxHeartbeats 1000000 in
theorem l1acrossN_2_1 (s : ByteArray) (x0 x1 : MEnd) (ea : Option Addr) (ec : Nat) (w : World) (he : Hid (EndsAt w ea [x0, x1])) :
    Calls Tryz.prog 58 #[.agg #[.int .i64 2, .string s, .slice ea 2 ec], .int .i64 1] w (AcrossPostN w [x0]) := by
  obtain ⟨b, off, rfl, hpc⟩ := he.out.2.resolve_left (fun h => by simp at h)
  obtain ⟨c0, d0⟩ := hpc 0 (by simp)
  obtain ⟨c1, d1⟩ := hpc 1 (by simp)
  simp only [Nat.zero_mul, Nat.one_mul, Nat.add_zero, List.getElem_cons_zero, List.getElem_cons_succ] at c0 d0 c1 d1
  have hz := cellLt c0
  clear hpc
  go_enter Tryz.func58, Tryz.ntmps58
  go_wp2_with fail
  go_ret
  exact across_postN rfl (endCells_1 (by simp [go_sem]) (by simp [go_sem])) (by first | omega | (simp; done) | (simp; omega)) (by repeat (first | exact Below.refl _ _ | assumption | refine Below.drew ?_ | refine bdrewN ?_ _ | refine Below.setCell ?_ (by first | omega | (simp; done) | (simp; omega)) _ | refine Below.alloc ?_ (by first | omega | (simp; done) | (simp; omega)) _))

set_option maxHeartbeats 1000000 in
theorem l1acrossN_3_0 (s : ByteArray) (x0 x1 x2 : MEnd) (ea : Option Addr) (ec : Nat) (w : World) (he : Hid (EndsAt w ea [x0, x1, x2])) :
    Calls Tryz.prog 58 #[.agg #[.int .i64 3, .string s, .slice ea 3 ec], .int .i64 0] w (AcrossPostN w [x1, x2]) := by
  obtain ⟨b, off, rfl, hpc⟩ := he.out.2.resolve_left (fun h => by simp at h)
  obtain ⟨c0, d0⟩ := hpc 0 (by simp)
  obtain ⟨c1, d1⟩ := hpc 1 (by simp)
  obtain ⟨c2, d2⟩ := hpc 2 (by simp)
  simp only [Nat.zero_mul, Nat.one_mul, Nat.reduceMul, Nat.add_zero, List.getElem_cons_zero, List.getElem_cons_succ] at c0 d0 c1 d1 c2 d2
  have hz := cellLt c0
  clear hpc
  go_enter Tryz.func58, Tryz.ntmps58
  go_wp2_with fail
  go_region
  all_goals
    go_wp2_with fail
    go_ret
    exact across_postN rfl (endCells_2 (by simp [go_sem]) (by simp [go_sem]) (by simp [go_sem]) (by simp [go_sem])) (by first | omega | (simp; done) | (simp; omega)) (by repeat (first | exact Below.refl _ _ | assumption | refine Below.drew ?_ | refine bdrewN ?_ _ | refine Below.setCell ?_ (by first | omega | (simp; done) | (simp; omega)) _ | refine Below.alloc ?_ (by first | omega | (simp; done) | (simp; omega)) _))

set_option maxHeartbeats 1000000 in
theorem l1acrossN_3_1 (s : ByteArray) (x0 x1 x2 : MEnd) (ea : Option Addr) (ec : Nat) (w : World) (he : Hid (EndsAt w ea [x0, x1, x2])) :
    Calls Tryz.prog 58 #[.agg #[.int .i64 3, .string s, .slice ea 3 ec], .int .i64 1] w (AcrossPostN w [x0]) := by
  obtain ⟨b, off, rfl, hpc⟩ := he.out.2.resolve_left (fun h => by simp at h)
  obtain ⟨c0, d0⟩ := hpc 0 (by simp)
  obtain ⟨c1, d1⟩ := hpc 1 (by simp)
  obtain ⟨c2, d2⟩ := hpc 2 (by simp)
  simp only [Nat.zero_mul, Nat.one_mul, Nat.reduceMul, Nat.add_zero, List.getElem_cons_zero, List.getElem_cons_succ] at c0 d0 c1 d1 c2 d2
  have hz := cellLt c0
  clear hpc
  go_enter Tryz.func58, Tryz.ntmps58
  go_wp2_with fail
  go_ret
  exact across_postN rfl (endCells_1 (by simp [go_sem]) (by simp [go_sem])) (by first | omega | (simp; done) | (simp; omega)) (by repeat (first | exact Below.refl _ _ | assumption | refine Below.drew ?_ | refine bdrewN ?_ _ | refine Below.setCell ?_ (by first | omega | (simp; done) | (simp; omega)) _ | refine Below.alloc ?_ (by first | omega | (simp; done) | (simp; omega)) _))

set_option maxHeartbeats 1000000 in
theorem l1acrossN_3_2 (s : ByteArray) (x0 x1 x2 : MEnd) (ea : Option Addr) (ec : Nat) (w : World) (he : Hid (EndsAt w ea [x0, x1, x2])) :
    Calls Tryz.prog 58 #[.agg #[.int .i64 3, .string s, .slice ea 3 ec], .int .i64 2] w (AcrossPostN w [x0]) := by
  obtain ⟨b, off, rfl, hpc⟩ := he.out.2.resolve_left (fun h => by simp at h)
  obtain ⟨c0, d0⟩ := hpc 0 (by simp)
  obtain ⟨c1, d1⟩ := hpc 1 (by simp)
  obtain ⟨c2, d2⟩ := hpc 2 (by simp)
  simp only [Nat.zero_mul, Nat.one_mul, Nat.reduceMul, Nat.add_zero, List.getElem_cons_zero, List.getElem_cons_succ] at c0 d0 c1 d1 c2 d2
  have hz := cellLt c0
  clear hpc
  go_enter Tryz.func58, Tryz.ntmps58
  go_wp2_with fail
  go_ret
  exact across_postN rfl (endCells_1 (by simp [go_sem]) (by simp [go_sem])) (by first | omega | (simp; done) | (simp; omega)) (by repeat (first | exact Below.refl _ _ | assumption | refine Below.drew ?_ | refine bdrewN ?_ _ | refine Below.setCell ?_ (by first | omega | (simp; done) | (simp; omega)) _ | refine Below.alloc ?_ (by first | omega | (simp; done) | (simp; omega)) _))

set_option maxHeartbeats 1000000 in
theorem l1acrossN_4_0 (s : ByteArray) (x0 x1 x2 x3 : MEnd) (ea : Option Addr) (ec : Nat) (w : World) (he : Hid (EndsAt w ea [x0, x1, x2, x3])) :
    Calls Tryz.prog 58 #[.agg #[.int .i64 4, .string s, .slice ea 4 ec], .int .i64 0] w (AcrossPostN w [x1]) := by
  obtain ⟨b, off, rfl, hpc⟩ := he.out.2.resolve_left (fun h => by simp at h)
  obtain ⟨c0, d0⟩ := hpc 0 (by simp)
  obtain ⟨c1, d1⟩ := hpc 1 (by simp)
  obtain ⟨c2, d2⟩ := hpc 2 (by simp)
  obtain ⟨c3, d3⟩ := hpc 3 (by simp)
  simp only [Nat.zero_mul, Nat.one_mul, Nat.reduceMul, Nat.add_zero, List.getElem_cons_zero, List.getElem_cons_succ] at c0 d0 c1 d1 c2 d2 c3 d3
  have hz := cellLt c0
  clear hpc
  go_enter Tryz.func58, Tryz.ntmps58
  go_wp2_with fail
  go_region
  all_goals
    go_wp2_with fail
    go_ret
    exact across_postN rfl (endCells_1 (by simp [go_sem]) (by simp [go_sem])) (by first | omega | (simp; done) | (simp; omega)) (by repeat (first | exact Below.refl _ _ | assumption | refine Below.drew ?_ | refine bdrewN ?_ _ | refine Below.setCell ?_ (by first | omega | (simp; done) | (simp; omega)) _ | refine Below.alloc ?_ (by first | omega | (simp; done) | (simp; omega)) _))

set_option maxHeartbeats 1000000 in
theorem l1acrossN_4_1 (s : ByteArray) (x0 x1 x2 x3 : MEnd) (ea : Option Addr) (ec : Nat) (w : World) (he : Hid (EndsAt w ea [x0, x1, x2, x3])) :
    Calls Tryz.prog 58 #[.agg #[.int .i64 4, .string s, .slice ea 4 ec], .int .i64 1] w (AcrossPostN w [x0]) := by
  obtain ⟨b, off, rfl, hpc⟩ := he.out.2.resolve_left (fun h => by simp at h)
  obtain ⟨c0, d0⟩ := hpc 0 (by simp)
  obtain ⟨c1, d1⟩ := hpc 1 (by simp)
  obtain ⟨c2, d2⟩ := hpc 2 (by simp)
  obtain ⟨c3, d3⟩ := hpc 3 (by simp)
  simp only [Nat.zero_mul, Nat.one_mul, Nat.reduceMul, Nat.add_zero, List.getElem_cons_zero, List.getElem_cons_succ] at c0 d0 c1 d1 c2 d2 c3 d3
  have hz := cellLt c0
  clear hpc
  go_enter Tryz.func58, Tryz.ntmps58
  go_wp2_with fail
  go_region
  all_goals
    go_wp2_with fail
    go_ret
    exact across_postN rfl (endCells_1 (by simp [go_sem]) (by simp [go_sem])) (by first | omega | (simp; done) | (simp; omega)) (by repeat (first | exact Below.refl _ _ | assumption | refine Below.drew ?_ | refine bdrewN ?_ _ | refine Below.setCell ?_ (by first | omega | (simp; done) | (simp; omega)) _ | refine Below.alloc ?_ (by first | omega | (simp; done) | (simp; omega)) _))

set_option maxHeartbeats 1000000 in
theorem l1acrossN_4_2 (s : ByteArray) (x0 x1 x2 x3 : MEnd) (ea : Option Addr) (ec : Nat) (w : World) (he : Hid (EndsAt w ea [x0, x1, x2, x3])) :
    Calls Tryz.prog 58 #[.agg #[.int .i64 4, .string s, .slice ea 4 ec], .int .i64 2] w (AcrossPostN w [x3]) := by
  obtain ⟨b, off, rfl, hpc⟩ := he.out.2.resolve_left (fun h => by simp at h)
  obtain ⟨c0, d0⟩ := hpc 0 (by simp)
  obtain ⟨c1, d1⟩ := hpc 1 (by simp)
  obtain ⟨c2, d2⟩ := hpc 2 (by simp)
  obtain ⟨c3, d3⟩ := hpc 3 (by simp)
  simp only [Nat.zero_mul, Nat.one_mul, Nat.reduceMul, Nat.add_zero, List.getElem_cons_zero, List.getElem_cons_succ] at c0 d0 c1 d1 c2 d2 c3 d3
  have hz := cellLt c0
  clear hpc
  go_enter Tryz.func58, Tryz.ntmps58
  go_wp2_with fail
  go_region
  all_goals
    go_wp2_with fail
    go_ret
    exact across_postN rfl (endCells_1 (by simp [go_sem]) (by simp [go_sem])) (by first | omega | (simp; done) | (simp; omega)) (by repeat (first | exact Below.refl _ _ | assumption | refine Below.drew ?_ | refine bdrewN ?_ _ | refine Below.setCell ?_ (by first | omega | (simp; done) | (simp; omega)) _ | refine Below.alloc ?_ (by first | omega | (simp; done) | (simp; omega)) _))

set_option maxHeartbeats 1000000 in
theorem l1acrossN_4_3 (s : ByteArray) (x0 x1 x2 x3 : MEnd) (ea : Option Addr) (ec : Nat) (w : World) (he : Hid (EndsAt w ea [x0, x1, x2, x3])) :
    Calls Tryz.prog 58 #[.agg #[.int .i64 4, .string s, .slice ea 4 ec], .int .i64 3] w (AcrossPostN w [x2]) := by
  obtain ⟨b, off, rfl, hpc⟩ := he.out.2.resolve_left (fun h => by simp at h)
  obtain ⟨c0, d0⟩ := hpc 0 (by simp)
  obtain ⟨c1, d1⟩ := hpc 1 (by simp)
  obtain ⟨c2, d2⟩ := hpc 2 (by simp)
  obtain ⟨c3, d3⟩ := hpc 3 (by simp)
  simp only [Nat.zero_mul, Nat.one_mul, Nat.reduceMul, Nat.add_zero, List.getElem_cons_zero, List.getElem_cons_succ] at c0 d0 c1 d1 c2 d2 c3 d3
  have hz := cellLt c0
  clear hpc
  go_enter Tryz.func58, Tryz.ntmps58
  go_wp2_with fail
  go_region
  all_goals
    go_wp2_with fail
    go_ret
    exact across_postN rfl (endCells_1 (by simp [go_sem]) (by simp [go_sem])) (by first | omega | (simp; done) | (simp; omega)) (by repeat (first | exact Below.refl _ _ | assumption | refine Below.drew ?_ | refine bdrewN ?_ _ | refine Below.setCell ?_ (by first | omega | (simp; done) | (simp; omega)) _ | refine Below.alloc ?_ (by first | omega | (simp; done) | (simp; omega)) _))

/-- Over a plain joint and a crossing there is one way on. -/
theorem l1acrossN_one (kind : Int) (nm : ByteArray) (es : List MEnd) (k : Nat) (hk : k < es.length) (hl : (es.length : Int) = kind) (hkd : kind = 2 ∨ kind = 4) (ea : Option Addr) (ec : Nat) (w : World) (he : Hid (EndsAt w ea es)) :
    ∃ (t : Nat) (ht : t < es.length), beyondF kind k = [t] ∧ Calls Tryz.prog 58 #[.agg #[.int .i64 kind, .string nm, .slice ea es.length ec], .int .i64 k] w (AcrossPostN w [es[t]]) := by
  rcases hkd with rfl | rfl
  · obtain ⟨a, b, rfl⟩ := list2 (show es.length = 2 by omega)
    have hk2 : k = 0 ∨ k = 1 := by simp at hk; omega
    rcases hk2 with rfl | rfl
    · exact ⟨1, by simp, rfl, l1acrossN_2_0 nm a b ea ec w he⟩
    · exact ⟨0, by simp, rfl, l1acrossN_2_1 nm a b ea ec w he⟩
  · obtain ⟨a, b, c, d, rfl⟩ := list4 (show es.length = 4 by omega)
    have hk4 : k = 0 ∨ k = 1 ∨ k = 2 ∨ k = 3 := by simp at hk; omega
    rcases hk4 with rfl | rfl | rfl | rfl
    · exact ⟨1, by simp, rfl, l1acrossN_4_0 nm a b c d ea ec w he⟩
    · exact ⟨0, by simp, rfl, l1acrossN_4_1 nm a b c d ea ec w he⟩
    · exact ⟨3, by simp, rfl, l1acrossN_4_2 nm a b c d ea ec w he⟩
    · exact ⟨2, by simp, rfl, l1acrossN_4_3 nm a b c d ea ec w he⟩

end Go.Proofs.YtmkdgnmmebldgaaGreat

namespace Go.Proofs.YtmkdgnmmebldgaaGreat
open Go.RowKit Go.Deep

/-! The ways on from a joint: what the loop over them keeps. -/

theorem list3 {α : Type} {l : List α} (h : l.length = 3) : ∃ a b c, l = [a, b, c] := by
  match l, h with
  | [a, b, c], _ => exact ⟨a, b, c, rfl⟩

theorem l1acrossN_any (kind : Int) (nm : ByteArray) (es : List MEnd) (k : Nat) (hk : k < es.length) (hl : (es.length : Int) = kind) (hkd : kind = 2 ∨ kind = 3 ∨ kind = 4) (ea : Option Addr) (ec : Nat) (w : World) (he : Hid (EndsAt w ea es)) :
    Calls Tryz.prog 58 #[.agg #[.int .i64 kind, .string nm, .slice ea es.length ec], .int .i64 k] w (AcrossPostN w ((beyondF kind k).map (fun t => es.getD t ⟨0, 0⟩))) := by
  have hc : (kind = 2 ∨ kind = 4) ∨ kind = 3 := by omega
  rcases hc with hc | rfl
  · obtain ⟨t, ht, hb, h⟩ := l1acrossN_one kind nm es k hk hl hc ea ec w he
    rw [hb]
    have e : [t].map (fun t => es.getD t ⟨0, 0⟩) = [es[t]] := by simp [ht]
    rw [e]
    exact h
  · obtain ⟨a, b, c, rfl⟩ := list3 (show es.length = 3 by omega)
    have hk3 : k = 0 ∨ k = 1 ∨ k = 2 := by simp at hk; omega
    rcases hk3 with rfl | rfl | rfl
    · exact l1acrossN_3_0 nm a b c ea ec w he
    · exact l1acrossN_3_1 nm a b c ea ec w he
    · exact l1acrossN_3_2 nm a b c ea ec w he

theorem beyondF_few (kind : Int) (k : Nat) : (beyondF kind k).length ≤ 2 := by
  unfold beyondF
  split
  · simp
  · split
    · split <;> simp
    · split <;> simp

section
variable {w1 W : World} {F A Q B : Nat} {x0 x1 x2 x3 : Option Addr} {y0 y1 y2 y3 : Nat} {v7 : Value} {st sp : Int} {steps : List MStep} {lies : List MLie} {crosses : List Int} {parts : List MPart}
theorem keep_rb (h : RB w1 W A Q B x0 y0 x1 y1 x2 y2 x3 y3 (.slice none 0 0) v7 ⟨st, sp, steps, lies, crosses, parts, [], []⟩) (hF : F < B) : RKeep W F ⟨x0, y0, x1, y1, x2, y2, x3, y3, none, 0, none, 0⟩ ⟨st, sp, steps, lies, crosses, parts, [], []⟩ :=
  keep_of (ov := []) (fl := []) (x4 := none) (y4 := 0) (x5 := none) (y5 := 0) (v := noRow) (v' := noRow) (B4 := F + 1) (B5 := F + 1) h hF (World.ownsRow_nil _ _ _ _) (Nat.lt_succ_self F) (Eff.of_below (Below.refl _ _)) (World.ownsRow_nil _ _ _ _) (Nat.lt_succ_self F)
theorem nil_rb (h : RB w1 W A Q B x0 y0 x1 y1 x2 y2 x3 y3 (.slice none 0 0) v7 ⟨st, sp, steps, lies, crosses, parts, [], []⟩) : NilR ⟨x0, y0, x1, y1, x2, y2, x3, y3, none, 0, none, 0⟩ ⟨st, sp, steps, lies, crosses, parts, [], []⟩ :=
  ⟨(own_listE h.own.o0).2, (own_listE h.own.o1).2, (own_listN h.own.o2).2, (own_listP h.own.o3).2⟩
end

/-- What stands behind m of the ways on. -/
def LoopInv (w0 Wl wr : World) (F : Nat) (pa ja sa : Option Addr) (pc jc sc : Nat) (ps : List MPiece) (js : List MJoint) (ss : List MPiece) (over : Int) (n t : Nat) (vo : Value) (rs : List MRoute) (path : MPath) (j k : Nat) (T : List Nat) (m : Nat) : Prop :=
  ∃ xo yo t' pr, WS w0 wr F pa ja sa pc jc sc ps.length js.length ss.length over xo yo t' pr ∧ Eff F vo (.slice xo pr.length yo) Wl wr ∧ Went (routeF ps js ss over) t rs (path :: kidsF ps js ss n path j k (T.take m)) t' (pr.map Prod.snd) ∧ t' + 1 ≤ 20000 + n + m ∧ pr.length ≤ 301

section
variable {w0 Wl wr W w' : World} {F : Nat} {pa ja sa : Option Addr} {pc jc sc : Nat} {ps : List MPiece} {js : List MJoint} {ss : List MPiece} {over : Int} {n t : Nat} {vo : Value} {rs : List MRoute} {path : MPath} {j k m : Nat} {T : List Nat}
theorem LoopInv.start {xo : Option Addr} {yo : Nat} {pr : List (RAddr × MRoute)} (h : WS w0 Wl F pa ja sa pc jc sc ps.length js.length ss.length over xo yo (t + 1) pr) (hn : 1 ≤ n) (ht : t + 1 ≤ 20000) (hp : path.ended = false) (hpr : pr.length ≤ 301) : LoopInv w0 Wl Wl F pa ja sa pc jc sc ps js ss over n t (.slice xo pr.length yo) (pr.map Prod.snd) path j k T 0 :=
  ⟨xo, yo, t + 1, pr, h, h.eff0 (Below.refl _ _), Went.one hp, by omega, hpr⟩
theorem LoopInv.below (h : LoopInv w0 Wl wr F pa ja sa pc jc sc ps js ss over n t vo rs path j k T m) (hb : Below wr.heap.size wr W) : LoopInv w0 Wl W F pa ja sa pc jc sc ps js ss over n t vo rs path j k T m := by
  obtain ⟨xo, yo, t', pr, h1, h2, h3, h4, h5⟩ := h
  exact ⟨xo, yo, t', pr, h1.below hb, h2.later hb, h3, h4, h5⟩
/-- A way that is barred. -/
theorem LoopInv.none (h : LoopInv w0 Wl wr F pa ja sa pc jc sc ps js ss over n t vo rs path j k T m) (hm : m < T.length) (hk : overP js path j k T[m] = none) : LoopInv w0 Wl wr F pa ja sa pc jc sc ps js ss over n t vo rs path j k T (m + 1) := by
  obtain ⟨xo, yo, t', pr, h1, h2, h3, h4, h5⟩ := h
  refine ⟨xo, yo, t', pr, h1, h2, ?_, by omega, h5⟩
  rw [List.take_succ_eq_append_getElem hm, kidsF_snoc]
  have hkk : kidF ps js ss n path j k T[m] = [] := by unfold kidF; rw [hk]
  rw [hkk, List.append_nil]
  exact h3
/-- A way that is gone. -/
theorem LoopInv.gone {xo : Option Addr} {yo t' : Nat} {pr : List (RAddr × MRoute)} (h2 : Eff F vo (.slice xo pr.length yo) Wl wr) (h3 : Went (routeF ps js ss over) t rs (path :: kidsF ps js ss n path j k (T.take m)) t' (pr.map Prod.snd)) (h4 : t' + 1 ≤ 20000 + n + m) (hb : Below wr.heap.size wr W) (hm : m < T.length) {q : MPath} (hk : overP js path j k T[m] = some q)
    {e : Ending} (hw : WalkPost w0 W F pa ja sa pc jc sc ps js ss over n t' (.slice xo pr.length yo) (pr.map Prod.snd) (evs ps js ss n q (endAt ps (endE js j T[m]))) e w') : e = .returned (.tuple #[]) ∧ LoopInv w0 Wl w' F pa ja sa pc jc sc ps js ss over n t vo rs path j k T (m + 1) := by
  obtain ⟨he, xo', yo', t'', pr', k1, k2, k3, k4, k5⟩ := hw
  refine ⟨he, xo', yo', t'', pr', k1, (h2.later hb).trans k2, ?_, by omega, k5⟩
  rw [List.take_succ_eq_append_getElem hm, kidsF_snoc]
  have hkk : kidF ps js ss n path j k T[m] = evs ps js ss n q (endAt ps (endE js j T[m])) := by unfold kidF; rw [hk]
  rw [hkk]
  exact h3.app k3
theorem LoopInv.stop {w : World} {xo : Option Addr} {yo : Nat} {pr : List (RAddr × MRoute)} {E : List MPath} (h : LoopInv w0 Wl wr F pa ja sa pc jc sc ps js ss over n t (.slice xo pr.length yo) (pr.map Prod.snd) path j k T m) (hm : m = T.length) (hT : T.length ≤ 2) (hE : Eff F (.slice xo pr.length yo) (.slice xo pr.length yo) w Wl) (hev : E = path :: kidsF ps js ss n path j k T) :
    WalkPost w0 w F pa ja sa pc jc sc ps js ss over (n + 1) t (.slice xo pr.length yo) (pr.map Prod.snd) E (.returned (.tuple #[])) wr := by
  obtain ⟨xo', yo', t', pr', h1, h2, h3, h4, h5⟩ := h
  refine ⟨rfl, xo', yo', t', pr', h1, hE.trans h2, ?_, by omega, h5⟩
  rw [hm, List.take_length] at h3
  rw [hev]
  exact h3
end

/-- The walk on from the next piece. -/
theorem child_call {w0 w1 W : World} {F A Q B : Nat} {pa ja sa : Option Addr} {pc jc sc : Nat} {ps : List MPiece} {js : List MJoint} {ss : List MPiece} {over : Int} {n t i p pe : Nat} {way pos : Int} {xo : Option Addr} {yo : Nat} {pr : List (RAddr × MRoute)} {x0 x1 x2 x3 : Option Addr} {y0 y1 y2 y3 : Nat} {v7 : Value} {pre L : List MStep} {lies lies' : List MLie} {crosses crosses' : List Int} {PL : List MPart} {e : MEnd}
    (ih : WalkSpec w0 F pa ja sa pc jc sc ps js ss over n) (R : Right ps js ss) (ok : WalkOk ps js ss i pre ⟨p, way⟩ lies crosses pos) (hnot : (⟨(p : Int), way⟩ : MStep) ∉ pre) (hn : n + 1 + pre.length = 2 * ps.length + 2) (hL : pre ++ [(⟨(p : Int), way⟩ : MStep)] = L) (hPL : PL = fullParts ps (sigAt ss i) L)
    (hv : ValidE ps e) (hpe : e.piece = pe) (lv : ∀ l ∈ lies', ∃ (j : Nat) (hj : j < js.length), l.piece = j ∧ js[j].kind = 3 ∧ (l.side = 1 ∨ l.side = 2)) (ld : (lies'.map MEnd.piece).Nodup) (cl : crosses'.length ≤ pre.length + 1)
    (hs : WS w0 W F pa ja sa pc jc sc ps.length js.length ss.length over xo yo t pr) (h : RB w1 W A Q B x0 y0 x1 y1 x2 y2 x3 y3 (.slice none 0 0) v7 ⟨i, 0, L, lies', crosses', PL, [], []⟩) (hF : F < B) (ht : t ≤ 100000) (hpr : pr.length ≤ 301) {wy : Int} (hwy : (stepFromE e).side = wy) :
    Calls Tryz.prog 22 #[.pointer (some ⟨F, 0, none⟩), .agg #[.int .i64 i, .int .i64 0, .slice x0 L.length y0, .slice x1 lies'.length y1, .slice x2 crosses'.length y2, .slice x3 PL.length y3, .slice none 0 0, .slice none 0 0], .int .i64 pe, .int .i64 wy, .int .i64 0] W
      (WalkPost w0 W F pa ja sa pc jc sc ps js ss over n t (.slice xo pr.length yo) (pr.map Prod.snd) (evs ps js ss n (pathOf i (L ++ [stepFromE e]) lies' crosses') (endAt ps e))) := by
  have hw := ok.next R hnot hv lv ld cl
  have hse : stepFromE e = ⟨(pe : Int), wy⟩ := by
    have h1 := stepFromE_piece e
    generalize stepFromE e = s at h1 hwy
    cases s
    simp only at h1 hwy
    rw [h1, hwy, hpe]
  have hf := (farI_begin hv).1
  rw [hse] at hf hw ⊢
  dsimp only at hf
  rw [hL] at hw
  have hk := keep_rb h hF
  have hni := nil_rb h
  have hlen : PL.length = L.length := by rw [hPL, fullParts_len]
  have hag : (Value.agg #[.int .i64 i, .int .i64 0, .slice x0 L.length y0, .slice x1 lies'.length y1, .slice x2 crosses'.length y2, .slice x3 L.length y3, .slice none 0 0, .slice none 0 0]) = .agg #[.int .i64 i, .int .i64 0, .slice x0 L.length y0, .slice x1 lies'.length y1, .slice x2 crosses'.length y2, .slice x3 PL.length y3, .slice none 0 0, .slice none 0 0] := by rw [hlen]
  subst hPL
  have hc := ih x0 y0 x1 y1 x2 y2 x3 y3 i L pe wy lies' crosses' (endAt ps e) xo yo t pr W hw (by rw [← hL]; simp; omega) hs hk hni ht hpr
  rw [hag, hf] at hc
  exact hc

theorem stepFrom_side0 {e : MEnd} (h : e.side = 0) : (stepFromE e).side = 1 := by unfold stepFromE; rw [if_pos h]
theorem stepFrom_side1 {e : MEnd} (h : e.side = 1) : (stepFromE e).side = -1 := by unfold stepFromE; rw [if_neg (by omega)]

/-- A copied route in a new block. -/
theorem rb_new {wr w5 : World} {z0 z1 z2 z3 : Option Addr} {t0 t1 t2 t3 : Nat} {st sp : Int} {steps : List MStep} {lies : List MLie} {crosses : List Int} {parts : List MPart} (hb : Below wr.heap.size wr w5) (hz : wr.heap.size + 1 ≤ w5.heap.size)
    (ho : OwnR w5 (wr.heap.size + 1) (.slice z0 steps.length t0) (.slice z1 lies.length t1) (.slice z2 crosses.length t2) (.slice z3 parts.length t3) ⟨st, sp, steps, lies, crosses, parts, [], []⟩) :
    RB wr (w5.alloc (.cells #[.int .i64 st, .int .i64 sp, .slice z0 steps.length t0, .slice z1 lies.length t1, .slice z2 crosses.length t2, .slice z3 parts.length t3, .slice none 0 0, .slice none 0 0] 64)) wr.heap.size w5.heap.size (wr.heap.size + 1) z0 t0 z1 t1 z2 t2 z3 t3 (.slice none 0 0) (.slice none 0 0) ⟨st, sp, steps, lies, crosses, parts, [], []⟩ :=
  ⟨hb.alloc (by omega) _, by omega, by omega, by simp; omega, qc_alloc _ _ _ _ _ _ _ _ _, ho.below ((Below.refl _ _).alloc (Nat.le_refl _) _)⟩
theorem flatN_push (cs : List Int) (x : Int) : flatN cs ++ [.int .i64 x] = flatN (cs ++ [x]) := by
  rw [flatN_snoc]
  rfl

end Go.Proofs.YtmkdgnmmebldgaaGreat
