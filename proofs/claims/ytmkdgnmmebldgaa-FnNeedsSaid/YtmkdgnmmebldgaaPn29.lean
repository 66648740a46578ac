import Derived.Test.YtmkdgnmmebldgaaPn28
import Derived.Laws.OwnMore
namespace Go.Proofs.Ytmkdgnmmebldgaa
open Go.RowKit Go.Deep
theorem Only.grown {S : Nat → Prop} {w w' : World} {row : Option Nat} (hg : w.grownBy w' row) (hr : ∀ b, row = some b → S b) : Only S w w' :=
  ⟨hg.os, hg.tape, hg.output, hg.size, fun b hb hn => hg.block b hb (fun e => hn (hr b e.symm))⟩
section
variable {w w' : World} {C N B : Nat} {xp xj : Option Addr} {yp yj : Nat} {ps : List MPiece} {js : List MJ}
theorem NetG.turnP (h : NetG w C N B xp yp xj yj ps js) {ps' : List MPiece} (hl : ps'.length = ps.length) (hg : w.grownBy w' (Value.slice xp ps.length yp).ownBlock) (ho : w'.ownsRow B 55 4 (.slice xp ps.length yp) ps.length (flatPc ps')) (hn : ∀ p ∈ ps', p.name.size ≤ maxLen) : NetG w' C N B xp yp xj yj ps' js := by
  have hN : w'.heap[N]? = w.heap[N]? := hg.block N h.lt (fun e => by have := (h.op.lt N e.symm).1; have := h.nb; omega)
  refine ⟨h.cn, h.nb, by rw [hl]; exact (World.cell?_of_block (w := w) hN).trans h.c0, (World.cell?_of_block (w := w) hN).trans h.c1, fun o => (World.frozen?_of_block (w := w) hN).trans (h.z o), by rw [hl]; exact ho, h.oj.kept hg ?_, fun x hx => (h.je x hx).kept (fun b h1 h2 => hg.block b h2.lt (fun e => h2.ne h.op (by decide) e.symm)), h.ap, hn, h.jn⟩
  exact owns_ne (e := 182) (e' := 55) (by decide) h.oj h.op
theorem NetG.turnJ (h : NetG w C N B xp yp xj yj ps js) {js' : List MJ} (hl : js'.length = js.length) (hg : w.grownBy w' (Value.slice xj js.length yj).ownBlock) (ho : w'.ownsRow B 182 3 (.slice xj js.length yj) js.length (flatJ js')) (hn : ∀ x ∈ js', x.2.2.name.size ≤ maxLen) (he : ∀ x ∈ js', EndsO w B x) (ha : js'.Pairwise (fun a b => ownJ a = none ∨ ownJ a ≠ ownJ b)) : NetG w' C N B xp yp xj yj ps js' := by
  have hN : w'.heap[N]? = w.heap[N]? := hg.block N h.lt (fun e => by have := (h.oj.lt N e.symm).1; have := h.nb; omega)
  refine ⟨h.cn, h.nb, (World.cell?_of_block (w := w) hN).trans h.c0, by rw [hl]; exact (World.cell?_of_block (w := w) hN).trans h.c1, fun o => (World.frozen?_of_block (w := w) hN).trans (h.z o), h.op.kept hg ?_, by rw [hl]; exact ho, fun x hx => (he x hx).kept (fun b h1 h2 => hg.block b h2.lt (fun e => h2.ne h.oj (by decide) e.symm)), ha, h.pn, hn⟩
  exact owns_ne (e := 55) (e' := 182) (by decide) h.op h.oj
theorem NetG.setP {g : Nat} (h : NetG w C N B (some ⟨g, 0, none⟩) yp xj yj ps js) {i j : Nat} (hi : i < ps.length) (hj : j < 4) {p' : MPiece} {u : Value} (he : encPc p' = (encPc ps[i]).set j u) (hn : p'.name.size ≤ maxLen) : NetG (w.setCell ⟨g, i * 4 + j, none⟩ u) C N B (some ⟨g, 0, none⟩) yp xj yj (ps.set i p') js ∧ w.grownBy (w.setCell ⟨g, i * 4 + j, none⟩ u) (some g) := by
  obtain ⟨h1, h2⟩ := h.op.stored (i * 4 + j) u
  rw [show (flatPc ps).set (i * 4 + j) u = flatPc (ps.set i p') from (flat_set encPc 4 (fun _ => rfl) ps i j hi hj p' u he).symm] at h1
  refine ⟨h.turnP (by simp) h2 h1 (fun p hp => ?_), h2⟩
  rcases List.mem_or_eq_of_mem_set hp with hp | rfl
  · exact h.pn p hp
  · exact hn
theorem pairwise_set {js : List MJ} (h : js.Pairwise (fun a b => ownJ a = none ∨ ownJ a ≠ ownJ b)) {x' : MJ} : ∀ (i : Nat), (∀ k (_ : k < js.length), k ≠ i → ownJ js[k] = none ∨ ownJ x' = none ∨ ownJ js[k] ≠ ownJ x') → (js.set i x').Pairwise (fun a b => ownJ a = none ∨ ownJ a ≠ ownJ b) := by
  intro i hx
  rw [List.pairwise_iff_getElem] at h ⊢
  intro a b ha hb hab
  simp only [List.length_set] at ha hb
  rw [List.getElem_set, List.getElem_set]
  by_cases h1 : i = a
  · rw [if_pos h1, if_neg (by omega)]
    rcases hx b hb (by omega) with h2 | h2 | h2
    · by_cases h3 : ownJ x' = none
      · exact Or.inl h3
      · exact Or.inr (fun e => h3 (e.trans h2))
    · exact Or.inl h2
    · exact Or.inr (fun e => h2 e.symm)
  · rw [if_neg h1]
    by_cases h2 : i = b
    · rw [if_pos h2]
      rcases hx a ha (by omega) with h3 | h3 | h3
      · exact Or.inl h3
      · by_cases h4 : ownJ js[a] = none
        · exact Or.inl h4
        · exact Or.inr (fun e => h4 (e.trans h3))
      · exact Or.inr h3
    · rw [if_neg h2]
      exact h a b ha hb hab
theorem NetG.apart (h : NetG w C N B xp yp xj yj ps js) {i k : Nat} (hi : i < js.length) (hk : k < js.length) (hne : k ≠ i) : ownJ js[k] = none ∨ ownJ js[k] ≠ ownJ js[i] := by
  have hp := List.pairwise_iff_getElem.1 h.ap
  by_cases h1 : k < i
  · exact hp k i hk hi h1
  · rcases hp i k hi hk (by omega) with h2 | h2
    · by_cases h3 : ownJ js[k] = none
      · exact Or.inl h3
      · exact Or.inr (fun e => h3 (e.trans h2))
    · exact Or.inr (fun e => h2 e.symm)
theorem NetG.setJ {g : Nat} (h : NetG w C N B xp yp (some ⟨g, 0, none⟩) yj ps js) {i j : Nat} (hi : i < js.length) (hj : j < 3) {x' : MJ} {u : Value} (he : encJ x' = (encJ js[i]).set j u) (hn : x'.2.2.name.size ≤ maxLen) (hE : EndsO w B x') (hap : ∀ k (_ : k < js.length), k ≠ i → ownJ js[k] = none ∨ ownJ x' = none ∨ ownJ js[k] ≠ ownJ x') : NetG (w.setCell ⟨g, i * 3 + j, none⟩ u) C N B xp yp (some ⟨g, 0, none⟩) yj ps (js.set i x') ∧ w.grownBy (w.setCell ⟨g, i * 3 + j, none⟩ u) (some g) := by
  obtain ⟨h1, h2⟩ := h.oj.stored (i * 3 + j) u
  rw [show (flatJ js).set (i * 3 + j) u = flatJ (js.set i x') from (flat_set encJ 3 (fun _ => rfl) js i j hi hj x' u he).symm] at h1
  refine ⟨h.turnJ (by simp) h2 h1 (fun p hp => ?_) (fun p hp => ?_) (pairwise_set h.ap i hap), h2⟩
  · rcases List.mem_or_eq_of_mem_set hp with hp | rfl
    · exact h.jn p hp
    · exact hn
  · rcases List.mem_or_eq_of_mem_set hp with hp | rfl
    · exact h.je p hp
    · exact hE
theorem NetG.turnE (h : NetG w C N B xp yp xj yj ps js) {i : Nat} (hi : i < js.length) (hg : w.grownBy w' (ownJ js[i])) : (w'.cell? ⟨N, 0, none⟩ = some (.slice xp ps.length yp)) ∧ (w'.cell? ⟨N, 1, none⟩ = some (.slice xj js.length yj)) ∧ (∀ o, w'.frozen? ⟨N, o, none⟩ = false) ∧ w'.ownsRow B 55 4 (.slice xp ps.length yp) ps.length (flatPc ps) ∧ w'.ownsRow B 182 3 (.slice xj js.length yj) js.length (flatJ js) ∧ ∀ k (hk : k < js.length), k ≠ i → EndsO w' B js[k] := by
  have hE := h.je _ (List.getElem_mem hi)
  have hN : w'.heap[N]? = w.heap[N]? := hg.block N h.lt (fun e => by have := (hE.1.lt N e.symm).1; have := h.nb; omega)
  refine ⟨(World.cell?_of_block (w := w) hN).trans h.c0, (World.cell?_of_block (w := w) hN).trans h.c1, fun o => (World.frozen?_of_block (w := w) hN).trans (h.z o), h.op.kept hg ?_, h.oj.kept hg ?_, fun k hk hne => ⟨(h.je _ (List.getElem_mem hk)).1.kept hg (h.apart hi hk hne), (h.je _ (List.getElem_mem hk)).2⟩⟩
  · exact owns_ne (e := 55) (e' := 139) (by decide) h.op hE.1
  · exact owns_ne (e := 182) (e' := 139) (by decide) h.oj hE.1
theorem NetG.setE (h : NetG w C N B xp yp xj yj ps js) {i q j : Nat} (hi : i < js.length) (hq : q < js[i].2.2.ends.length) (hj : j < 2) {g : Nat} (hx : js[i].1 = some ⟨g, 0, none⟩) {e' : MEnd} {u : Value} (he : encE e' = (encE js[i].2.2.ends[q]).set j u) : NetG (w.setCell ⟨g, q * 2 + j, none⟩ u) C N B xp yp xj yj ps (js.set i (js[i].1, js[i].2.1, ⟨js[i].2.2.kind, js[i].2.2.name, js[i].2.2.ends.set q e'⟩)) ∧ w.grownBy (w.setCell ⟨g, q * 2 + j, none⟩ u) (some g) := by
  have hE := h.je _ (List.getElem_mem hi)
  have hrow := hE.1
  rw [hx] at hrow
  obtain ⟨h1, h2⟩ := hrow.stored (q * 2 + j) u
  have hg : w.grownBy (w.setCell ⟨g, q * 2 + j, none⟩ u) (ownJ js[i]) := by unfold ownJ; rw [hx]; exact h2
  obtain ⟨a0, a1, a2, a3, a4, a5⟩ := h.turnE hi hg
  rw [show (flatE js[i].2.2.ends).set (q * 2 + j) u = flatE (js[i].2.2.ends.set q e') from (flat_set encE 2 (fun _ => rfl) js[i].2.2.ends q j hq hj e' u he).symm] at h1
  have hj2 : flatJ (js.set i (js[i].1, js[i].2.1, ⟨js[i].2.2.kind, js[i].2.2.name, js[i].2.2.ends.set q e'⟩)) = flatJ js := by
    have := flat_set encJ 3 (fun _ => rfl) js i 0 hi (by omega) (js[i].1, js[i].2.1, ⟨js[i].2.2.kind, js[i].2.2.name, js[i].2.2.ends.set q e'⟩) (.int .i64 js[i].2.2.kind) (by simp [encJ])
    refine this.trans ?_
    rw [← flat_set encJ 3 (fun _ => rfl) js i 0 hi (by omega) js[i] (.int .i64 js[i].2.2.kind) (by simp [encJ]), List.set_getElem_self]
    rfl
  have hlen : (js.set i (js[i].1, js[i].2.1, ⟨js[i].2.2.kind, js[i].2.2.name, js[i].2.2.ends.set q e'⟩)).length = js.length := by simp
  refine ⟨⟨h.cn, h.nb, a0, by rw [hlen]; exact a1, a2, a3, by rw [hlen, hj2]; exact a4, fun x hm => ?_, ?_, h.pn, fun x hm => ?_⟩, h2⟩
  · obtain ⟨k, hk, rfl⟩ := List.getElem_of_mem hm
    rw [List.getElem_set]
    split
    · refine ⟨?_, by simpa using hE.2⟩
      show World.ownsRow _ _ _ _ (.slice js[i].1 (js[i].2.2.ends.set q e').length js[i].2.1) _ _
      rw [List.length_set, hx]
      exact h1
    · exact a5 k (by simpa using hk) (by omega)
  · refine pairwise_set h.ap i (fun k hk hne => ?_)
    rcases h.apart hi hk hne with h3 | h3
    · exact Or.inl h3
    · refine Or.inr (Or.inr ?_)
      simpa [ownJ] using h3
  · rcases List.mem_or_eq_of_mem_set hm with hm | rfl
    · exact h.jn x hm
    · have h9 := h.jn js[i] (List.getElem_mem hi)
      exact h9
end
end Go.Proofs.Ytmkdgnmmebldgaa
