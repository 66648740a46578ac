import Derived.Test.YtmkdgnmmebldgaaPn35
import Derived.Test.YtmkdgnmmebldgaaPn34
import Derived.Test.YtmkdgnmmebldgaaPn18
import Derived.Test.YtmkdgnmmebldgaaPn13
import Derived.Test.YtmkdgnmmebldgaaPn7
import Derived.Test.YtmkdgnmmebldgaaPn15
namespace Go.Proofs.Ytmkdgnmmebldgaa
open Go.RowKit Go.Deep Go.Maps
structure KC (w : World) (K M : Nat) (pa ja sa : Option Addr) (pc jc sc pl jl sl : Nat) : Prop where
  c0 : w.cell? ⟨K, 0, none⟩ = some (.slice pa pl pc)
  c1 : w.cell? ⟨K, 1, none⟩ = some (.slice ja jl jc)
  c2 : w.cell? ⟨K, 2, none⟩ = some (.slice sa sl sc)
  c3 : w.cell? ⟨K, 3, none⟩ = some (.map (some M))
theorem KC.below {w w' : World} {K M : Nat} {pa ja sa : Option Addr} {pc jc sc pl jl sl : Nat} (h : KC w K M pa ja sa pc jc sc pl jl sl) (hb : Below w.heap.size w w') : KC w' K M pa ja sa pc jc sc pl jl sl :=
  ⟨cell_later hb h.c0, cell_later hb h.c1, cell_later hb h.c2, cell_later hb h.c3⟩
theorem KC.grown {w w' : World} {K M : Nat} {pa ja sa : Option Addr} {pc jc sc pl jl sl : Nat} (h : KC w K M pa ja sa pc jc sc pl jl sl) (hg : w.grownBy w' (some M)) (hne : K ≠ M) : KC w' K M pa ja sa pc jc sc pl jl sl :=
  ⟨hg.cell h.c0 (by simpa using hne), hg.cell h.c1 (by simpa using hne), hg.cell h.c2 (by simpa using hne), hg.cell h.c3 (by simpa using hne)⟩
end Go.Proofs.Ytmkdgnmmebldgaa

namespace Go.Proofs.Ytmkdgnmmebldgaa
open Go.RowKit Go.Deep Go.Maps
def overPlainF (js : List MJoint) (s : MStep) : MStep × Bool :=
  if kindE js (spotE js (aheadE s)).1 = 2 then (stepFromE (endE js (spotE js (aheadE s)).1 (1 - (spotE js (aheadE s)).2)), true) else (⟨0, 0⟩, false)
end Go.Proofs.Ytmkdgnmmebldgaa

namespace Go.Proofs.Ytmkdgnmmebldgaa
open Go.RowKit Go.Deep Go.Maps
end Go.Proofs.Ytmkdgnmmebldgaa

namespace Go.Proofs.Ytmkdgnmmebldgaa
open Go.RowKit Go.Deep
def encR (x : RAddr × MRoute) : List Value := [.int .i64 x.2.start, .int .i64 x.2.stop, .slice x.1.a0 x.2.steps.length x.1.c0, .slice x.1.a1 x.2.lies.length x.1.c1, .slice x.1.a2 x.2.crosses.length x.1.c2, .slice x.1.a3 x.2.parts.length x.1.c3, .slice x.1.a4 x.2.over.length x.1.c4, .slice x.1.a5 x.2.flanks.length x.1.c5]
def flatR (pr : List (RAddr × MRoute)) : List Value := pr.flatMap encR
theorem flatR_snoc (pr : List (RAddr × MRoute)) (x : RAddr × MRoute) : flatR (pr ++ [x]) = flatR pr ++ encR x := by simp [flatR]
def IsRow (w : World) (k : Nat) : Prop := ∃ cur, w.heap[k]? = some (.cells cur 42 (0, 0))
def NotR (w : World) (F : Nat) (a : Option Addr) (n : Nat) : Prop := n = 0 ∨ ∀ b off, a = some ⟨b, off, none⟩ → b ≠ F ∧ b < w.heap.size ∧ ¬ IsRow w b
structure Eff (F : Nat) (v v' : Value) (w w' : World) : Prop where
  only : Only (fun k => k = F ∨ v.ownBlock = some k) w w'
  tame : Tame w v v'
  rows : ∀ k, v.ownBlock = some k → F < k ∧ IsRow w k
abbrev noRow : Value := .slice none 0 0
theorem Eff.of_below {F : Nat} {w w' : World} (h : Below w.heap.size w w') : Eff F noRow noRow w w' := ⟨Only.of_below h, Tame.refl _ _, fun _ h => by cases h⟩
theorem Eff.size {F : Nat} {v v' : Value} {w w' : World} (h : Eff F v v' w w') : w.heap.size ≤ w'.heap.size := Only.size h.only
theorem Eff.trans {F : Nat} {v v1 v2 : Value} {a b c : World} (h : Eff F v v1 a b) (k : Eff F v1 v2 b c) : Eff F v v2 a c :=
  ⟨⟨k.only.os.trans h.only.os, k.only.tape.trans h.only.tape, k.only.output.trans h.only.output, Nat.le_trans h.size k.size, fun x hx hn => by
    refine (k.only.block x (Nat.lt_of_lt_of_le hx h.size) ?_).trans (h.only.block x hx hn)
    rintro (h1 | h1)
    · exact hn (Or.inl h1)
    · rcases h.tame x h1 with h2 | h2
      · exact hn (Or.inr h2)
      · omega⟩, h.tame.trans k.tame h.size, h.rows⟩
theorem Eff.later {F : Nat} {v v1 : Value} {a b c : World} (h : Eff F v v1 a b) (k : Below b.heap.size b c) : Eff F v v1 a c :=
  ⟨h.only.trans (Only.of_below k), h.tame, h.rows⟩
theorem Eff.set {F : Nat} {w : World} (o : Nat) (u : Value) : Eff F noRow noRow w (w.setCell ⟨F, o, none⟩ u) := ⟨Only.setCell (Only.refl _ _) (p := ⟨F, o, none⟩) (Or.inl (Or.inl rfl)) u, Tame.refl _ _, fun _ h => by cases h⟩
theorem Eff.below {F : Nat} {v v' : Value} {w w' : World} {B : Nat} (h : Eff F v v' w w') (hB : B ≤ F) (hz : F < w.heap.size) : Below B w w' :=
  ⟨h.only.os, h.only.tape, h.only.output, h.size, fun x hx => h.only.block x (by omega) (by
    rintro (h1 | h1)
    · omega
    · have := (h.rows x h1).1
      omega)⟩
theorem Eff.block {F : Nat} {v v' : Value} {w w' : World} (h : Eff F v v' w w') {b : Nat} (h1 : b ≠ F) (h2 : b < w.heap.size) (h3 : v.ownBlock ≠ some b) : w'.heap[b]? = w.heap[b]? := h.only.block b h2 (by
  rintro (h4 | h4)
  · exact h1 h4
  · exact h3 h4)
theorem Eff.blockR {F : Nat} {v v' : Value} {w w' : World} (h : Eff F v v' w w') {b : Nat} (h1 : b ≠ F) (h2 : b < w.heap.size) (h3 : ¬ IsRow w b) : w'.heap[b]? = w.heap[b]? := h.block h1 h2 (fun e => h3 (h.rows b e).2)
theorem NotR.kept {F : Nat} {v v' : Value} {w w' : World} {a : Option Addr} {n : Nat} (h : NotR w F a n) (he : Eff F v v' w w') : NotR w' F a n := by
  rcases h with h | h
  · exact Or.inl h
  · refine Or.inr (fun b off e => ?_)
    obtain ⟨h1, h2, h3⟩ := h b off e
    have hb := he.blockR h1 h2 h3
    exact ⟨h1, Nat.lt_of_lt_of_le h2 he.size, fun ⟨cur, hc⟩ => h3 ⟨cur, by rw [← hb]; exact hc⟩⟩
theorem notR_own {w : World} {F B e s n : Nat} {a : Option Addr} {c : Nat} {xs : List Value} (h : w.ownsRow B e s (.slice a n c) n xs) (he : e ≠ 42) (hB : F < B) : NotR w F a n := by
  rcases h.2 with ⟨h1, h2⟩ | ⟨g, cap, cur, h1, h2, h3, _⟩
  · exact Or.inl h2
  · refine Or.inr (fun b off ea => ?_)
    cases h1
    cases ea
    refine ⟨by omega, (Array.getElem?_eq_some_iff.1 h3).1, fun ⟨cur', h4⟩ => ?_⟩
    rw [h3] at h4
    simp only [Option.some.injEq, Obj.cells.injEq] at h4
    exact he h4.2.1
theorem isRow_own {w : World} {B s n : Nat} {v : Value} {xs : List Value} (h : w.ownsRow B 42 s v n xs) {k : Nat} (hk : v.ownBlock = some k) : B ≤ k ∧ IsRow w k := by
  rcases h.2 with ⟨h1, h2⟩ | ⟨g, cap, cur, h1, h2, h3, _⟩
  · rw [h1] at hk; cases hk
  · rw [h1] at hk
    simp only [Value.ownBlock, Option.some.injEq] at hk
    subst hk
    exact ⟨h2, cur, h3⟩
structure RKeep (w : World) (F : Nat) (d : RAddr) (r : MRoute) : Prop where
  lists : RListsAt w d r
  n0 : NotR w F d.a0 r.steps.length
  n1 : NotR w F d.a1 r.lies.length
  n2 : NotR w F d.a2 r.crosses.length
  n3 : NotR w F d.a3 r.parts.length
  n4 : NotR w F d.a4 r.over.length
  n5 : NotR w F d.a5 r.flanks.length
theorem NotR.same {α : Type} {F : Nat} {v v' : Value} {w w' : World} {a : Option Addr} {L : List α} (h : NotR w F a L.length) (he : Eff F v v' w w') : L = [] ∨ ∀ b off, a = some ⟨b, off, none⟩ → w'.heap[b]? = w.heap[b]? := by
  rcases h with h | h
  · exact Or.inl (List.eq_nil_of_length_eq_zero h)
  · exact Or.inr (fun b off e => by obtain ⟨h1, h2, h3⟩ := h b off e; exact he.blockR h1 h2 h3)
theorem RKeep.kept {w w' : World} {F : Nat} {v v' : Value} {d : RAddr} {r : MRoute} (h : RKeep w F d r) (he : Eff F v v' w w') : RKeep w' F d r :=
  ⟨⟨h.lists.steps.kept (h.n0.same he), h.lists.lies.kept (h.n1.same he), h.lists.crosses.kept (h.n2.same he), h.lists.parts.kept (h.n3.same he), h.lists.over.kept (h.n4.same he), h.lists.flanks.kept (h.n5.same he), h.lists.nil1⟩, h.n0.kept he, h.n1.kept he, h.n2.kept he, h.n3.kept he, h.n4.kept he, h.n5.kept he⟩
structure WS (w0 w : World) (F : Nat) (pa ja sa : Option Addr) (pc jc sc np nj ns : Nat) (over : Int) (xo : Option Addr) (yo t : Nat) (pr : List (RAddr × MRoute)) : Prop where
  base : Below w0.heap.size w0 w
  f : w0.heap.size ≤ F
  c0 : w.cell? ⟨F, 0, none⟩ = some (.slice pa np pc)
  c1 : w.cell? ⟨F, 1, none⟩ = some (.slice ja nj jc)
  c2 : w.cell? ⟨F, 2, none⟩ = some (.slice sa ns sc)
  c3 : w.cell? ⟨F, 3, none⟩ = some (.int .i64 over)
  c4 : w.cell? ⟨F, 4, none⟩ = some (.slice xo pr.length yo)
  z4 : w.frozen? ⟨F, 4, none⟩ = false
  c5 : w.cell? ⟨F, 5, none⟩ = some (.int .i64 (t : Int))
  z5 : w.frozen? ⟨F, 5, none⟩ = false
  s6 : ∃ v, w.cell? ⟨F, 6, none⟩ = some v
  z6 : w.frozen? ⟨F, 6, none⟩ = false
  own : w.ownsRow (F + 1) 42 8 (.slice xo pr.length yo) pr.length (flatR pr)
  keep : ∀ x ∈ pr, RKeep w F x.1 x.2
section
variable {w0 w w' : World} {F : Nat} {pa ja sa : Option Addr} {pc jc sc np nj ns : Nat} {over : Int} {xo : Option Addr} {yo t : Nat} {pr : List (RAddr × MRoute)}
theorem WS.lt (h : WS w0 w F pa ja sa pc jc sc np nj ns over xo yo t pr) : F < w.heap.size := cellLt h.c0
theorem WS.below (h : WS w0 w F pa ja sa pc jc sc np nj ns over xo yo t pr) (hb : Below w.heap.size w w') : WS w0 w' F pa ja sa pc jc sc np nj ns over xo yo t pr := by
  obtain ⟨v, hv⟩ := h.s6
  exact ⟨h.base.trans (hb.mono h.base.size), h.f, cell_later hb h.c0, cell_later hb h.c1, cell_later hb h.c2, cell_later hb h.c3, cell_later hb h.c4, (hb.frozen (p := ⟨F, 4, none⟩) h.lt).trans h.z4, cell_later hb h.c5, (hb.frozen (p := ⟨F, 5, none⟩) h.lt).trans h.z5, ⟨v, cell_later hb hv⟩, (hb.frozen (p := ⟨F, 6, none⟩) h.lt).trans h.z6, owns_below h.own hb, fun x hx => (h.keep x hx).kept (Eff.of_below hb)⟩
theorem WS.inc (h : WS w0 w F pa ja sa pc jc sc np nj ns over xo yo t pr) (t' : Nat) : WS w0 (w.setCell ⟨F, 5, none⟩ (.int .i64 (t' : Int))) F pa ja sa pc jc sc np nj ns over xo yo t' pr := by
  obtain ⟨v, hv⟩ := h.s6
  have hc : ∀ {o : Nat} {u : Value}, o ≠ 5 → w.cell? ⟨F, o, none⟩ = some u → (w.setCell ⟨F, 5, none⟩ (.int .i64 (t' : Int))).cell? ⟨F, o, none⟩ = some u := fun ho hc => by
    rw [World.cell?_setCell_other _ _ _ _ (by first | (simp; done) | (simp; omega))]
    exact hc
  refine ⟨h.base.setCell (p := ⟨F, 5, none⟩) h.f _, h.f, hc (by omega) h.c0, hc (by omega) h.c1, hc (by omega) h.c2, hc (by omega) h.c3, hc (by omega) h.c4, ?_, World.cell?_setCell_same _ _ _ h.c5, ?_, ⟨v, hc (by omega) hv⟩, ?_, ownsRow_setCell_below h.own (Nat.lt_succ_self F) _, fun x hx => (h.keep x hx).kept (Eff.set 5 _)⟩
  · rw [World.frozen?_setCell]; exact h.z4
  · rw [World.frozen?_setCell]; exact h.z5
  · rw [World.frozen?_setCell]; exact h.z6
theorem WS.rows (h : WS w0 w F pa ja sa pc jc sc np nj ns over xo yo t pr) : ∀ k, (Value.slice xo pr.length yo).ownBlock = some k → F < k ∧ IsRow w k := fun _ hk => isRow_own h.own hk
theorem WS.eff0 (h : WS w0 w F pa ja sa pc jc sc np nj ns over xo yo t pr) (hb : Below w.heap.size w w') : Eff F (.slice xo pr.length yo) (.slice xo pr.length yo) w w' := ⟨Only.of_below hb, Tame.refl _ _, h.rows⟩
theorem WS.effI (h : WS w0 w F pa ja sa pc jc sc np nj ns over xo yo t pr) (u : Value) : Eff F (.slice xo pr.length yo) (.slice xo pr.length yo) w (w.setCell ⟨F, 5, none⟩ u) := ⟨Only.setCell (Only.refl _ _) (p := ⟨F, 5, none⟩) (Or.inl (Or.inl rfl)) u, Tame.refl _ _, h.rows⟩
theorem WS.more (h : WS w0 w F pa ja sa pc jc sc np nj ns over xo yo t pr) {fl : List MFlank} {news : Option Addr → Nat → List Value} {e : Ending} (hd : DonePost F (F + 1) pr.length (.slice xo pr.length yo) (flatR pr) w fl news e w')
    (d : Option Addr → Nat → RAddr) (r : MRoute) (hn : ∀ a c, news a c = encR (d a c, r)) (hk : ∀ a c v', w'.ownsRow w.heap.size 57 4 (.slice a fl.length c) fl.length (flatF fl) → Eff F (.slice xo pr.length yo) v' w w' → RKeep w' F (d a c) r) :
    e = .returned (.tuple #[]) ∧ ∃ x' y' dd, WS w0 w' F pa ja sa pc jc sc np nj ns over x' y' t (pr ++ [(dd, r)]) ∧ Eff F (.slice xo pr.length yo) (.slice x' (pr.length + 1) y') w w' := by
  obtain ⟨he, x', y', xf, yf, h4, ho, hf, hT, hc, hz, h6, hO⟩ := hd
  have hE : Eff F (.slice xo pr.length yo) (.slice x' (pr.length + 1) y') w w' := ⟨hO, hT, h.rows⟩
  have el : (pr ++ [(d xf yf, r)]).length = pr.length + 1 := by simp
  rw [hn, ← flatR_snoc] at ho
  refine ⟨he, x', y', d xf yf, ⟨h.base.trans (hE.below h.f h.lt), h.f, ?_, ?_, ?_, ?_, ?_, ?_, ?_, ?_, h6, ?_, ?_, ?_⟩, hE⟩
  · rw [hc 0 (by omega) (by omega)]; exact h.c0
  · rw [hc 1 (by omega) (by omega)]; exact h.c1
  · rw [hc 2 (by omega) (by omega)]; exact h.c2
  · rw [hc 3 (by omega) (by omega)]; exact h.c3
  · rw [el]; exact h4
  · rw [hz 4]; exact h.z4
  · rw [hc 5 (by omega) (by omega)]; exact h.c5
  · rw [hz 5]; exact h.z5
  · rw [hz 6]; exact h.z6
  · rw [el]; exact ho
  · intro x hx
    rcases List.mem_append.1 hx with hx | hx
    · exact (h.keep x hx).kept hE
    · have : x = (d xf yf, r) := by simpa using hx
      rw [this]
      exact hk xf yf _ hf hE
end
def walkR (ps : List MPiece) (ss : List MPiece) (i : Nat) (pre : List MStep) (lies : List MLie) (crosses : List Int) : MRoute := ⟨i, 0, pre, lies, crosses, fullParts ps (sigAt ss i) pre, [], []⟩
def WalkPost (w0 w : World) (F : Nat) (pa ja sa : Option Addr) (pc jc sc : Nat) (ps : List MPiece) (js : List MJoint) (ss : List MPiece) (over : Int) (n t : Nat) (vo : Value) (rs : List MRoute) (E : List MPath) (e : Ending) (w' : World) : Prop :=
  e = .returned (.tuple #[]) ∧ ∃ xo yo t' pr, WS w0 w' F pa ja sa pc jc sc ps.length js.length ss.length over xo yo t' pr ∧ Eff F vo (.slice xo pr.length yo) w w' ∧ Went (routeF ps js ss over) t rs E t' (pr.map Prod.snd) ∧ t' ≤ max (t + 1) (20000 + n) ∧ pr.length ≤ 301
def WalkSpec (w0 : World) (F : Nat) (pa ja sa : Option Addr) (pc jc sc : Nat) (ps : List MPiece) (js : List MJoint) (ss : List MPiece) (over : Int) (n : Nat) : Prop :=
  ∀ (a0 : Option Addr) (k0 : Nat) (a1 : Option Addr) (k1 : Nat) (a2 : Option Addr) (k2 : Nat) (a3 : Option Addr) (k3 : Nat) (i : Nat) (pre : List MStep) (p : Nat) (way : Int) (lies : List MLie) (crosses : List Int) (pos : Int) (xo : Option Addr) (yo t : Nat) (pr : List (RAddr × MRoute)) (w : World), WalkOk ps js ss i pre ⟨p, way⟩ lies crosses pos → n + pre.length = 2 * ps.length + 2 →
    WS w0 w F pa ja sa pc jc sc ps.length js.length ss.length over xo yo t pr → RKeep w F ⟨a0, k0, a1, k1, a2, k2, a3, k3, none, 0, none, 0⟩ (walkR ps ss i pre lies crosses) → NilR ⟨a0, k0, a1, k1, a2, k2, a3, k3, none, 0, none, 0⟩ (walkR ps ss i pre lies crosses) → t ≤ 100000 → pr.length ≤ 301 →
    Calls Try.prog 44 #[.pointer (some ⟨F, 0, none⟩), .agg #[.int .i64 i, .int .i64 0, .slice a0 pre.length k0, .slice a1 lies.length k1, .slice a2 crosses.length k2, .slice a3 pre.length k3, .slice none 0 0, .slice none 0 0], .int .i64 p, .int .i64 way, .int .i64 (farI ps p pos way)] w (WalkPost w0 w F pa ja sa pc jc sc ps js ss over n t (.slice xo pr.length yo) (pr.map Prod.snd) (evs ps js ss n (pathOf i (pre ++ [⟨p, way⟩]) lies crosses) pos))
end Go.Proofs.Ytmkdgnmmebldgaa
