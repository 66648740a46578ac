import Derived.Test.YtmkdgnmmebldgaaPn26
import Derived.Test.YtmkdgnmmebldgaaPn1
import Derived.WalkKit
import Derived.ProofKit
import Derived.OpenShut
import Derived.ShutString
import Derived.ChangeOld
import Derived.Below
namespace Go.Proofs.Ytmkdgnmmebldgaa
open Go.RowKit Go.Deep
theorem SigKeep.go {B : Nat} {w' u : World} {xs : Option Addr} {ss : List MPiece} (h : SigKeep B w' xs ss) (hz : w'.heap.size ≤ u.heap.size) (hk : ∀ b, B ≤ b → b < w'.heap.size → u.heap[b]? = w'.heap[b]?) : SigKeep B u xs ss :=
  fun v hv => h v (fun b h1 h2 => (hv b h1 (by omega)).trans (hk b h1 h2))
end Go.Proofs.Ytmkdgnmmebldgaa

namespace Go.Proofs.Ytmkdgnmmebldgaa
open Go.RowKit Go.Deep
structure BytesAt (w : World) (a : Option Addr) (bs : List Int) : Prop where
  len : bs.length ≤ maxLen
  lie : bs = [] ∨ ∃ b off, a = some ⟨b, off, none⟩ ∧ ByteCells w b off bs
  small : ∀ x ∈ bs, 0 ≤ x ∧ x < 256
theorem BytesAt.below {w w' : World} {a : Option Addr} {bs : List Int} (h : BytesAt w a bs) (hb : Below w.heap.size w w') : BytesAt w' a bs :=
  ⟨h.len, h.lie.imp id (fun ⟨b, off, h1, h2⟩ => ⟨b, off, h1, fun i hi => cell_later hb (h2 i hi)⟩), h.small⟩
end Go.Proofs.Ytmkdgnmmebldgaa

namespace Go.Proofs.Ytmkdgnmmebldgaa
open Go.ChangeShapes Go.WideShapes Go.ChangeAt Go.RowKit Go.Deep
theorem Try.cellsU8 : Try.prog.cellsOf 5 = 1 := by kernel_rfl
theorem u8_small {x : Int} (h : (Lit.int .u8 x).wf = true) : 0 ≤ x ∧ x < 256 := by
  have e1 : IntKind.u8.min = 0 := by decide
  have e2 : IntKind.u8.max = 255 := by decide
  simp only [Lit.wf, e1, e2] at h
  simp at h
  omega
section
variable {H : Type} {enc : TypeId × Value → H} {w : World}
theorem openByteS {fuel : Nat} {cs : List Value} {y : DataW H × List MemPlace} (h : DataW.trod enc Try.prog w 0 (fun _ => true) true fuel 22 cs = some y) :
    ∃ (a : Option Addr) (cap : Nat) (bs : List Int), cs = [.slice a bs.length cap] ∧ BytesAt w a bs := by
  rcases open_slice Try.underlying22 h with ⟨hcs, _⟩ | ⟨a, len, cap, m, n, D, Pl, hcs, _, hl, hm, hmm, _, hx⟩
  · exact ⟨none, 0, [], hcs, by simp [maxLen], Or.inl rfl, fun x hx => by cases hx⟩
  · rw [if_pos rfl] at hmm
    subst hmm
    by_cases hl0 : len = 0
    · subst hl0
      exact ⟨some a, m, [], hcs, by simp [maxLen], Or.inl rfl, fun x hx => by cases hx⟩
    obtain ⟨cs0, hcs0, _⟩ := hx 0 (by omega)
    have hspot := spotOfB hcs0 (by rw [Try.cellsU8]; omega)
    clear hcs0
    obtain ⟨ab, ao, asp⟩ := a
    simp only at hspot
    subst hspot
    have hi : ∀ i, i < len → ∃ p : Int, w.cell? ⟨ab, ao + i, none⟩ = some (.int .u8 p) ∧ 0 ≤ p ∧ p < 256 := by
      intro i hi
      obtain ⟨cs', h1, h2⟩ := hx i (by omega)
      rw [Try.cellsU8] at h1
      obtain ⟨_, hlen, hc⟩ := World.cells?_some h1
      match cs', hlen with
      | [c0], _ =>
        obtain ⟨x0, e0, _, hw⟩ := DataW.trod_int Try.underlying5 h2
        simp at e0
        subst e0
        have k0 := hc 0 (by omega)
        rw [addrAddB] at k0
        simp at k0
        exact ⟨x0, k0, u8_small hw⟩
    obtain ⟨ps, hpl, hp⟩ := chooseB len hi
    subst hpl
    refine ⟨_, m, ps, hcs, by omega, Or.inr ⟨ab, ao, rfl, fun i hi' => (hp i hi').1⟩, fun x hx' => ?_⟩
    obtain ⟨i, hi', rfl⟩ := List.getElem_of_mem hx'
    exact (hp i hi').2
set_option maxRecDepth 100000 in
theorem openBytesV {r0 : Reach} {b0 : Nat} {v : Value} {d : DataW H} {p : List MemPlace} (hv : Value.okWide Try.prog w r0 b0 22 v) (h : DataW.Trod enc Try.prog w 0 (fun _ => true) true 22 v d p) :
    ∃ (a : Option Addr) (cap : Nat) (bs : List Int), v = .slice a bs.length cap ∧ BytesAt w a bs := by
  obtain ⟨a0, len, cap, rfl⟩ := okWide_slice Try.underlying22 hv
  obtain ⟨fuel, hf⟩ := h
  obtain ⟨a, c, bs, hcs, hb⟩ := openByteS (by simpa [Value.cells] using hf)
  refine ⟨a, c, bs, ?_, hb⟩
  simpa using hcs
end
end Go.Proofs.Ytmkdgnmmebldgaa

namespace Go.Proofs.Ytmkdgnmmebldgaa
open Go.RowKit Go.Deep
def ownJ (x : MJ) : Option Nat := (Value.slice x.1 x.2.2.ends.length x.2.1).ownBlock
def EndsO (w : World) (N : Nat) (x : MJ) : Prop := w.ownsRow N 139 2 (.slice x.1 x.2.2.ends.length x.2.1) x.2.2.ends.length (flatE x.2.2.ends) ∧ x.2.2.ends.length ≤ 5
theorem EndsO.kept {w w' : World} {N : Nat} {x : MJ} (h : EndsO w N x) (hk : ∀ b, N ≤ b → IsT w 139 b → w'.heap[b]? = w.heap[b]?) : EndsO w' N x :=
  ⟨owns_kept2 h.1 (fun b hb => hk b (h.1.lt b hb).1 (owns_isT h.1 hb)), h.2⟩
theorem EndsO.at {w : World} {N : Nat} {x : MJ} (h : EndsO w N x) : EndsAt w x.1 x.2.2.ends := by
  obtain ⟨a, cap, e1, e2, _, _⟩ := ownE (es := x.2.2.ends) h.1 (by have := h.2; unfold maxLen; omega)
  injection e1 with e1 _ _
  rw [e1]
  exact e2
theorem EndsO.base {w : World} {N M : Nat} {x : MJ} (h : EndsO w N x) (hM : M ≤ N) : EndsO w M x := ⟨owns_base h.1 hM, h.2⟩
structure NetG (w : World) (C N B : Nat) (xp : Option Addr) (yp : Nat) (xj : Option Addr) (yj : Nat) (ps : List MPiece) (js : List MJ) : Prop where
  cn : C < N
  nb : N < B
  c0 : w.cell? ⟨N, 0, none⟩ = some (.slice xp ps.length yp)
  c1 : w.cell? ⟨N, 1, none⟩ = some (.slice xj js.length yj)
  z : ∀ o, w.frozen? ⟨N, o, none⟩ = false
  op : w.ownsRow B 55 4 (.slice xp ps.length yp) ps.length (flatPc ps)
  oj : w.ownsRow B 182 3 (.slice xj js.length yj) js.length (flatJ js)
  je : ∀ x ∈ js, EndsO w B x
  ap : js.Pairwise (fun a b => ownJ a = none ∨ ownJ a ≠ ownJ b)
  pn : ∀ p ∈ ps, p.name.size ≤ maxLen
  jn : ∀ x ∈ js, x.2.2.name.size ≤ maxLen
section
variable {w w' : World} {C N B : Nat} {xp xj : Option Addr} {yp yj : Nat} {ps : List MPiece} {js : List MJ}
theorem NetG.lt (h : NetG w C N B xp yp xj yj ps js) : N < w.heap.size := cellLt h.c0
theorem NetG.kept (h : NetG w C N B xp yp xj yj ps js) (hN : w'.heap[N]? = w.heap[N]?) (hk : ∀ b, B ≤ b → b < w.heap.size → w'.heap[b]? = w.heap[b]?) : NetG w' C N B xp yp xj yj ps js := by
  refine ⟨h.cn, h.nb, (World.cell?_of_block (w := w) hN).trans h.c0, (World.cell?_of_block (w := w) hN).trans h.c1, fun o => ?_, owns_kept2 h.op (fun b hb => hk b (h.op.lt b hb).1 (h.op.lt b hb).2), owns_kept2 h.oj (fun b hb => hk b (h.oj.lt b hb).1 (h.oj.lt b hb).2), fun x hx => (h.je x hx).kept (fun b h1 h2 => hk b h1 h2.lt), h.ap, h.pn, h.jn⟩
  exact (World.frozen?_of_block (w := w) hN).trans (h.z o)
theorem NetG.below (h : NetG w C N B xp yp xj yj ps js) (hb : Below w.heap.size w w') : NetG w' C N B xp yp xj yj ps js := h.kept (hb.block N h.lt) (fun b _ hz => hb.block b hz)
theorem NetG.only (h : NetG w C N B xp yp xj yj ps js) (hb : Only (fun k => k = C) w w') : NetG w' C N B xp yp xj yj ps js := h.kept (hb.block N h.lt (by have := h.cn; omega)) (fun b h1 hz => hb.block b hz (by have := h.cn; have := h.nb; omega))
theorem NetG.pushP (h : NetG w C N B xp yp xj yj ps js) {p : MPiece} {x' : Option Addr} {y' : Nat} (hg : w.grownBy w' (Value.slice xp ps.length yp).ownBlock) (ho : w'.ownsRow B 55 4 (.slice x' (ps.length + 1) y') (ps.length + 1) (flatPc (ps ++ [p]))) (hp : p.name.size ≤ maxLen) :
    NetG (w'.setCell ⟨N, 0, none⟩ (.slice x' (ps.length + 1) y')) C N B x' y' xj yj (ps ++ [p]) js := by
  have hl := h.lt
  have hN : w'.heap[N]? = w.heap[N]? := hg.block N h.lt (fun e => by have := (h.op.lt N e.symm).1; have := h.nb; omega)
  have el : (ps ++ [p]).length = ps.length + 1 := by simp
  have hset : ∀ b, N ≠ b → (w'.setCell ⟨N, 0, none⟩ (.slice x' (ps.length + 1) y')).heap[b]? = w'.heap[b]? := fun b hb => Below.heap_setCell _ _ _ _ (fun e => hb e.symm)
  refine ⟨h.cn, h.nb, ?_, ?_, fun o => ?_, ?_, ?_, fun x hx => ?_, h.ap, ?_, h.jn⟩
  · rw [el]
    exact World.cell?_setCell_same _ _ _ ((World.cell?_of_block (w := w) hN).trans h.c0)
  · rw [World.cell?_setCell_other _ _ _ _ (by simp)]
    exact (World.cell?_of_block (w := w) hN).trans h.c1
  · rw [World.frozen?_setCell]
    exact (World.frozen?_of_block (w := w) hN).trans (h.z o)
  · rw [el]
    exact ownsRow_setCell_below ho h.nb _
  · refine ownsRow_setCell_below (owns_kept2 h.oj (fun b hb => hg.block b (h.oj.lt b hb).2 (fun e => ?_))) h.nb _
    rcases owns_ne (e := 182) (e' := 55) (by decide) h.oj h.op with h1 | h1
    · rw [h1] at hb; cases hb
    · exact h1 (hb.trans e)
  · refine (h.je x hx).kept (fun b h1 h2 => (hset b (by have := h.nb; omega)).trans (hg.block b h2.lt (fun e => h2.ne h.op (by decide) e.symm)))
  · intro q hq
    rcases List.mem_append.1 hq with hq | hq
    · exact h.pn q hq
    · have : q = p := by simpa using hq
      rw [this]; exact hp
theorem NetG.pushJ (h : NetG w C N B xp yp xj yj ps js) {x : MJ} {x' : Option Addr} {y' : Nat} (hg : w.grownBy w' (Value.slice xj js.length yj).ownBlock) (ho : w'.ownsRow B 182 3 (.slice x' (js.length + 1) y') (js.length + 1) (flatJ (js ++ [x]))) (hx : x.2.2.name.size ≤ maxLen) (hE : EndsO w B x) (hap : ∀ y ∈ js, ownJ y = none ∨ ownJ y ≠ ownJ x) :
    NetG (w'.setCell ⟨N, 1, none⟩ (.slice x' (js.length + 1) y')) C N B xp yp x' y' ps (js ++ [x]) := by
  have hl := h.lt
  have hN : w'.heap[N]? = w.heap[N]? := hg.block N h.lt (fun e => by have := (h.oj.lt N e.symm).1; have := h.nb; omega)
  have el : (js ++ [x]).length = js.length + 1 := by simp
  have hset : ∀ b, N ≠ b → (w'.setCell ⟨N, 1, none⟩ (.slice x' (js.length + 1) y')).heap[b]? = w'.heap[b]? := fun b hb => Below.heap_setCell _ _ _ _ (fun e => hb e.symm)
  have hend : ∀ b, B ≤ b → IsT w 139 b → (w'.setCell ⟨N, 1, none⟩ (.slice x' (js.length + 1) y')).heap[b]? = w.heap[b]? := fun b h1 h2 => (hset b (by have := h.nb; omega)).trans (hg.block b h2.lt (fun e => h2.ne h.oj (by decide) e.symm))
  refine ⟨h.cn, h.nb, ?_, ?_, fun o => ?_, ?_, ?_, fun z hz => ?_, ?_, h.pn, ?_⟩
  · rw [World.cell?_setCell_other _ _ _ _ (by simp)]
    exact (World.cell?_of_block (w := w) hN).trans h.c0
  · rw [el]
    exact World.cell?_setCell_same _ _ _ ((World.cell?_of_block (w := w) hN).trans h.c1)
  · rw [World.frozen?_setCell]
    exact (World.frozen?_of_block (w := w) hN).trans (h.z o)
  · refine ownsRow_setCell_below (owns_kept2 h.op (fun b hb => hg.block b (h.op.lt b hb).2 (fun e => ?_))) h.nb _
    rcases owns_ne (e := 55) (e' := 182) (by decide) h.op h.oj with h1 | h1
    · rw [h1] at hb; cases hb
    · exact h1 (hb.trans e)
  · rw [el]
    exact ownsRow_setCell_below ho h.nb _
  · rcases List.mem_append.1 hz with hz | hz
    · exact (h.je z hz).kept hend
    · have : z = x := by simpa using hz
      rw [this]; exact hE.kept hend
  · exact List.pairwise_append.2 ⟨h.ap, List.pairwise_singleton _ _, fun a ha b hb => by
      have : b = x := by simpa using hb
      rw [this]; exact hap a ha⟩
  · intro q hq
    rcases List.mem_append.1 hq with hq | hq
    · exact h.jn q hq
    · have : q = x := by simpa using hq
      rw [this]; exact hx
end
theorem NetG.rowJ {w w' : World} {C N B : Nat} {xp xj : Option Addr} {yp yj : Nat} {ps : List MPiece} {js : List MJ} (h : NetG w C N B xp yp xj yj ps js) (hg : w.grownBy w' (Value.slice xj js.length yj).ownBlock) : w'.cell? ⟨N, 1, none⟩ = some (.slice xj js.length yj) ∧ w'.frozen? ⟨N, 1, none⟩ = false := by
  have hN : w'.heap[N]? = w.heap[N]? := hg.block N h.lt (fun e => by have := (h.oj.lt N e.symm).1; have := h.nb; omega)
  exact ⟨(World.cell?_of_block (w := w) hN).trans h.c1, (World.frozen?_of_block (w := w) hN).trans (h.z 1)⟩
theorem NetG.rowP {w w' : World} {C N B : Nat} {xp xj : Option Addr} {yp yj : Nat} {ps : List MPiece} {js : List MJ} (h : NetG w C N B xp yp xj yj ps js) (hg : w.grownBy w' (Value.slice xp ps.length yp).ownBlock) : w'.cell? ⟨N, 0, none⟩ = some (.slice xp ps.length yp) ∧ w'.frozen? ⟨N, 0, none⟩ = false := by
  have hN : w'.heap[N]? = w.heap[N]? := hg.block N h.lt (fun e => by have := (h.op.lt N e.symm).1; have := h.nb; omega)
  exact ⟨(World.cell?_of_block (w := w) hN).trans h.c0, (World.frozen?_of_block (w := w) hN).trans (h.z 0)⟩
theorem piecesAtG {w : World} {N : Nat} {x : Option Addr} {y : Nat} {ps : List MPiece} (h : w.ownsRow N 55 4 (.slice x ps.length y) ps.length (flatPc ps)) (hn : ∀ p ∈ ps, p.name.size ≤ maxLen) : PiecesAt w x ps := by
  rcases h.2 with ⟨h1, h2⟩ | ⟨g, cap, cur, h1, h2, h3, h4, h5, _⟩
  · have : ps = [] := List.eq_nil_of_length_eq_zero h2
    subst this
    exact ⟨Nat.zero_le _, fun p hp => (by cases hp), Or.inl rfl⟩
  · cases h1
    refine ⟨Nat.le_trans h4 h5, hn, Or.inr ⟨g, 0, rfl, fun i hi => ?_⟩⟩
    have hc := h.cells (g := g) rfl
    have hg : ∀ j, j < 4 → ∀ u, (encPc ps[i])[j]? = some u → w.cell? ⟨g, 0 + i * 4 + j, none⟩ = some u := by
      intro j hj u hu
      have := hc (i * 4 + j) u ((flat_get encPc 4 (fun _ => rfl) ps i j hi hj).trans hu)
      rw [addr_at] at this
      have e : 0 + (i * 4 + j) = 0 + i * 4 + j := by omega
      rw [e] at this
      exact this
    exact ⟨hg 0 (by omega) _ rfl, hg 1 (by omega) _ rfl, hg 2 (by omega) _ rfl, hg 3 (by omega) _ rfl⟩
theorem jointsAtG {w : World} {N : Nat} {x : Option Addr} {y : Nat} {js : List MJ} (h : w.ownsRow N 182 3 (.slice x js.length y) js.length (flatJ js)) (hn : ∀ z ∈ js, z.2.2.name.size ≤ maxLen) (he : ∀ z ∈ js, EndsAt w z.1 z.2.2.ends) : JointsAt w x (js.map (fun z => z.2.2)) := by
  rcases h.2 with ⟨h1, h2⟩ | ⟨g, cap, cur, h1, h2, h3, h4, h5, _⟩
  · have : js = [] := List.eq_nil_of_length_eq_zero h2
    subst this
    exact ⟨Nat.zero_le _, fun p hp => (by cases hp), Or.inl rfl⟩
  · cases h1
    refine ⟨by rw [List.length_map]; exact Nat.le_trans h4 h5, fun p hp => ?_, Or.inr ⟨g, 0, rfl, fun i hi => ?_⟩⟩
    · obtain ⟨z, hz, rfl⟩ := List.mem_map.1 hp
      exact hn z hz
    · rw [List.length_map] at hi
      have hc := h.cells (g := g) rfl
      have hg : ∀ j, j < 3 → ∀ u, (encJ js[i])[j]? = some u → w.cell? ⟨g, 0 + i * 3 + j, none⟩ = some u := by
        intro j hj u hu
        have := hc (i * 3 + j) u ((flat_get encJ 3 (fun _ => rfl) js i j hi hj).trans hu)
        rw [addr_at] at this
        have e : 0 + (i * 3 + j) = 0 + i * 3 + j := by omega
        rw [e] at this
        exact this
      rw [List.getElem_map]
      exact ⟨hg 0 (by omega) _ rfl, hg 1 (by omega) _ rfl, _, _, hg 2 (by omega) _ rfl, he js[i] (List.getElem_mem hi)⟩
structure InK (w2 wi : World) (J q : Nat) (kd : Int) (nm : ByteArray) (xe : Option Addr) (ye : Nat) (es : List MEnd) : Prop where
  c0 : wi.cell? ⟨J, 0, none⟩ = some (.int .i64 kd)
  c1 : wi.cell? ⟨J, 1, none⟩ = some (.string nm)
  c2 : wi.cell? ⟨J, 2, none⟩ = some (.slice xe q ye)
  z : ∀ o, wi.frozen? ⟨J, o, none⟩ = false
  len : es.length = q
  own : wi.ownsRow (J + 1) 139 2 (.slice xe q ye) q (flatE es)
  base : Below J w2 wi
theorem InK.lt {w2 wi : World} {J q : Nat} {kd : Int} {nm : ByteArray} {xe : Option Addr} {ye : Nat} {es : List MEnd} (h : InK w2 wi J q kd nm xe ye es) : J < wi.heap.size := cellLt h.c0
theorem InK.below {w2 wi wi' : World} {J q : Nat} {kd : Int} {nm : ByteArray} {xe : Option Addr} {ye : Nat} {es : List MEnd} (h : InK w2 wi J q kd nm xe ye es) (hb : Below wi.heap.size wi wi') : InK w2 wi' J q kd nm xe ye es :=
  ⟨cell_later hb h.c0, cell_later hb h.c1, cell_later hb h.c2, fun o => (hb.frozen (p := ⟨J, o, none⟩) h.lt).trans (h.z o), h.len, owns_below h.own hb, h.base.trans (hb.mono (Nat.le_of_lt h.lt))⟩
theorem InK.push {w2 wi w' : World} {J q : Nat} {kd : Int} {nm : ByteArray} {xe x' : Option Addr} {ye y' : Nat} {es : List MEnd} (h : InK w2 wi J q kd nm xe ye es) {e : MEnd} (hg : wi.grownBy w' (Value.slice xe q ye).ownBlock) (ho : w'.ownsRow (J + 1) 139 2 (.slice x' (q + 1) y') (q + 1) (flatE (es ++ [e]))) :
    InK w2 (w'.setCell ⟨J, 2, none⟩ (.slice x' (q + 1) y')) J (q + 1) kd nm x' y' (es ++ [e]) := by
  have hJ : w'.heap[J]? = wi.heap[J]? := hg.block J h.lt (fun e => by have := (h.own.lt J e.symm).1; omega)
  refine ⟨?_, ?_, World.cell?_setCell_same _ _ _ ((World.cell?_of_block (w := wi) hJ).trans h.c2), fun o => ?_, by simp [h.len], ownsRow_setCell_below ho (Nat.lt_succ_self J) _, ?_⟩
  · rw [World.cell?_setCell_other _ _ _ _ (by simp)]
    exact (World.cell?_of_block (w := wi) hJ).trans h.c0
  · rw [World.cell?_setCell_other _ _ _ _ (by simp)]
    exact (World.cell?_of_block (w := wi) hJ).trans h.c1
  · rw [World.frozen?_setCell]
    exact (World.frozen?_of_block (w := wi) hJ).trans (h.z o)
  · refine (h.base.trans ⟨hg.os, hg.tape, hg.output, hg.size, fun k hk => hg.block k (by have := h.lt; omega) (fun e => by have := (h.own.lt k e.symm).1; omega)⟩).trans ⟨rfl, rfl, rfl, by simp, fun k hk => Below.heap_setCell _ _ _ _ (show k ≠ J by omega)⟩
theorem InK.name {w2 wi : World} {J q : Nat} {kd : Int} {nm : ByteArray} {xe : Option Addr} {ye : Nat} {es : List MEnd} (h : InK w2 wi J q kd nm xe ye es) (nm' : ByteArray) : InK w2 (wi.setCell ⟨J, 1, none⟩ (.string nm')) J q kd nm' xe ye es := by
  refine ⟨?_, World.cell?_setCell_same _ _ _ h.c1, ?_, fun o => ?_, h.len, ownsRow_setCell_below h.own (Nat.lt_succ_self J) _, h.base.trans ⟨rfl, rfl, rfl, by simp, fun k hk => Below.heap_setCell _ _ _ _ (show k ≠ J by omega)⟩⟩
  · rw [World.cell?_setCell_other _ _ _ _ (by simp)]; exact h.c0
  · rw [World.cell?_setCell_other _ _ _ _ (by simp)]; exact h.c2
  · rw [World.frozen?_setCell]; exact h.z o
theorem InK.ends {w2 wi : World} {J N q : Nat} {kd : Int} {nm : ByteArray} {xe : Option Addr} {ye : Nat} {es : List MEnd} (h : InK w2 wi J q kd nm xe ye es) (hN : N < J) (hq : q ≤ 4) (kk : Int) : EndsO wi (N + 1) (xe, ye, ⟨kk, nm, es⟩) := by
  have hl := h.len
  exact ⟨by rw [show (es : List MEnd).length = q from hl]; exact owns_base h.own (by omega), by show es.length ≤ 5; omega⟩
structure OwnNet (w : World) (B : Nat) (xp : Option Addr) (yp : Nat) (xj : Option Addr) (yj : Nat) (ps : List MPiece) (js : List MJ) : Prop where
  op : w.ownsRow B 55 4 (.slice xp ps.length yp) ps.length (flatPc ps)
  oj : w.ownsRow B 182 3 (.slice xj js.length yj) js.length (flatJ js)
  je : ∀ x ∈ js, EndsO w B x
  ap : js.Pairwise (fun a b => ownJ a = none ∨ ownJ a ≠ ownJ b)
end Go.Proofs.Ytmkdgnmmebldgaa
