import Derived.Test.YtmkdgnmmebldgaaLawNet
import Derived.ProofKit
import Derived.Deep.Slices
import Derived.Deep.Strs
import Derived.Lib.SmallJoins
namespace Go.Proofs.Ytmkdgnmmebldgaa
open Go.RowKit Go.Deep Go.ChangeShapes Go.WideShapes

theorem choose_list {α : Type} {p : Nat → α → Prop} : ∀ (n : Nat), (∀ i, i < n → ∃ x, p i x) → ∃ l : List α, l.length = n ∧ ∀ i (hi : i < l.length), p i l[i]
  | 0, _ => ⟨[], rfl, fun i hi => absurd hi (Nat.not_lt_zero i)⟩
  | n + 1, h => by
    obtain ⟨l, hl, hp⟩ := choose_list n (fun i hi => h i (by omega))
    obtain ⟨x, hx⟩ := h n (by omega)
    refine ⟨l ++ [x], by simp [hl], fun i hi => ?_⟩
    by_cases e : i < l.length
    · rw [List.getElem_append_left e]; exact hp i e
    · have : i = n := by simp at hi; omega
      subst this
      simp [hl]
      exact hx

theorem addr_add2 (b o n m : Nat) : (Addr.add ⟨b, o, none⟩ n).add m = ⟨b, o + n + m, none⟩ := by
  unfold Addr.add
  by_cases h1 : n = 0 <;> by_cases h2 : m = 0 <;> simp [h1, h2]

/-- A slice with an element leads to a place that is none of a packed cell's. -/
theorem spot_of {w : World} {a : Addr} {k n : Nat} {cs : List Value} (h : w.cells? 0 (a.add (0 * k)) n = some cs) (hn : 0 < n) : a.spot = none := by
  obtain ⟨_, hlen, hc⟩ := World.cells?_some h
  have k0 := hc 0 hn
  rw [List.getElem?_eq_getElem (by omega)] at k0
  have := World.cell?_spot k0
  simpa [Addr.add] using this

theorem Try.cellsLPiece : Try.prog.cellsOf 214 = 4 := by kernel_rfl
theorem Try.cellsLEnd : Try.prog.cellsOf 294 = 2 := by kernel_rfl
theorem Try.cellsLJoint : Try.prog.cellsOf 218 = 3 := by kernel_rfl
theorem Try.cellsStr : Try.prog.cellsOf 9 = 1 := by kernel_rfl
theorem Try.cellsLEndS : Try.prog.cellsOf 216 = 1 := by kernel_rfl

section
variable {H : Type} {enc : TypeId × Value → H} {w : World}

theorem open_pieces {fuel : Nat} {cs : List Value} {y : DataW H × List MemPlace} (h : DataW.trod enc Try.prog w 0 (fun _ => true) true fuel 60 cs = some y) :
    ∃ (a : Option Addr) (cap : Nat) (ps : List MPiece), cs = [.slice a ps.length cap] ∧ PiecesAt w a ps := by
  rcases open_slice Try.underlying60 h with ⟨hcs, _⟩ | ⟨a, len, cap, m, n, D, Pl, hcs, _, hl, hm, hmm, _, hx⟩
  · exact ⟨none, 0, [], hcs, by simp [maxLen], by simp, Or.inl rfl⟩
  · rw [if_pos rfl] at hmm
    subst hmm
    by_cases hl0 : len = 0
    · subst hl0
      exact ⟨some a, m, [], hcs, by simp [maxLen], by simp, Or.inl rfl⟩
    obtain ⟨cs0, hcs0, _⟩ := hx 0 (by omega)
    have hspot := spot_of hcs0 (by rw [Try.cellsLPiece]; omega)
    clear hcs0
    obtain ⟨ab, ao, asp⟩ := a
    simp only at hspot
    subst hspot
    have hi : ∀ i, i < len → ∃ p : MPiece, p.name.size ≤ maxLen ∧ w.cell? ⟨ab, ao + i * 4, none⟩ = some (.string p.name) ∧ w.cell? ⟨ab, ao + i * 4 + 1, none⟩ = some (.int .i64 p.len) ∧
        w.cell? ⟨ab, ao + i * 4 + 2, none⟩ = some (.int .i64 p.speed) ∧ w.cell? ⟨ab, ao + i * 4 + 3, none⟩ = some (.int .i64 p.brake) := by
      intro i hi
      obtain ⟨cs', h1, h2⟩ := hx i (by omega)
      rw [Try.cellsLPiece] at h1
      obtain ⟨_, hlen, hc⟩ := World.cells?_some h1
      match cs', hlen with
      | [c0, c1, c2, c3], _ =>
        obtain ⟨y0, y1, y2, y3, n', _, _, t0, t1, t2, t3⟩ := Joins.trod_struct4 Try.underlying214 h2
        simp [Try.cellsStr, Try.cellsInt] at t0 t1 t2 t3
        obtain ⟨s, e0, _, hs⟩ := DataW.trod_string Try.underlying9 t0
        obtain ⟨x1, e1, _, _⟩ := DataW.trod_int Try.underlying3 t1
        obtain ⟨x2, e2, _, _⟩ := DataW.trod_int Try.underlying3 t2
        obtain ⟨x3, e3, _, _⟩ := DataW.trod_int Try.underlying3 t3
        simp at e0 e1 e2 e3
        subst e0 e1 e2 e3
        have k0 := hc 0 (by omega)
        have k1 := hc 1 (by omega)
        have k2 := hc 2 (by omega)
        have k3 := hc 3 (by omega)
        rw [addr_add2] at k0 k1 k2 k3
        simp at k0 k1 k2 k3
        exact ⟨⟨s, x1, x2, x3⟩, hs, k0, k1, k2, k3⟩
    obtain ⟨ps, hpl, hp⟩ := choose_list len hi
    subst hpl
    refine ⟨_, m, ps, hcs, by omega, ?_, ?_⟩
    · intro p hp'
      obtain ⟨i, hi', rfl⟩ := List.getElem_of_mem hp'
      exact (hp i hi').1
    · exact Or.inr ⟨ab, ao, rfl, fun i hi' => (hp i hi').2⟩

theorem open_ends {fuel : Nat} {cs : List Value} {y : DataW H × List MemPlace} (h : DataW.trod enc Try.prog w 0 (fun _ => true) true fuel 216 cs = some y) :
    ∃ (a : Option Addr) (cap : Nat) (ps : List MEnd), cs = [.slice a ps.length cap] ∧ EndsAt w a ps := by
  rcases open_slice Try.underlying216 h with ⟨hcs, _⟩ | ⟨a, len, cap, m, n, D, Pl, hcs, _, hl, hm, hmm, _, hx⟩
  · exact ⟨none, 0, [], hcs, by simp [maxLen], Or.inl rfl⟩
  · rw [if_pos rfl] at hmm
    subst hmm
    by_cases hl0 : len = 0
    · subst hl0
      exact ⟨some a, m, [], hcs, by simp [maxLen], Or.inl rfl⟩
    obtain ⟨cs0, hcs0, _⟩ := hx 0 (by omega)
    have hspot := spot_of hcs0 (by rw [Try.cellsLEnd]; omega)
    clear hcs0
    obtain ⟨ab, ao, asp⟩ := a
    simp only at hspot
    subst hspot
    have hi : ∀ i, i < len → ∃ p : MEnd, w.cell? ⟨ab, ao + i * 2, none⟩ = some (.int .i64 p.piece) ∧ w.cell? ⟨ab, ao + i * 2 + 1, none⟩ = some (.int .i64 p.side) := by
      intro i hi
      obtain ⟨cs', h1, h2⟩ := hx i (by omega)
      rw [Try.cellsLEnd] at h1
      obtain ⟨_, hlen, hc⟩ := World.cells?_some h1
      match cs', hlen with
      | [c0, c1], _ =>
        obtain ⟨y0, y1, n', _, _, t0, t1⟩ := trod_struct2 Try.underlying294 h2
        simp [Try.cellsInt] at t0 t1
        obtain ⟨x0, e0, _, _⟩ := DataW.trod_int Try.underlying3 t0
        obtain ⟨x1, e1, _, _⟩ := DataW.trod_int Try.underlying3 t1
        simp at e0 e1
        subst e0 e1
        have k0 := hc 0 (by omega)
        have k1 := hc 1 (by omega)
        rw [addr_add2] at k0 k1
        simp at k0 k1
        exact ⟨⟨x0, x1⟩, k0, k1⟩
    obtain ⟨ps, hpl, hp⟩ := choose_list len hi
    subst hpl
    refine ⟨_, m, ps, hcs, by omega, ?_⟩
    exact Or.inr ⟨ab, ao, rfl, fun i hi' => hp i hi'⟩

theorem open_joints {fuel : Nat} {cs : List Value} {y : DataW H × List MemPlace} (h : DataW.trod enc Try.prog w 0 (fun _ => true) true fuel 61 cs = some y) :
    ∃ (a : Option Addr) (cap : Nat) (ps : List MJoint), cs = [.slice a ps.length cap] ∧ JointsAt w a ps := by
  rcases open_slice Try.underlying61 h with ⟨hcs, _⟩ | ⟨a, len, cap, m, n, D, Pl, hcs, _, hl, hm, hmm, _, hx⟩
  · exact ⟨none, 0, [], hcs, by simp [maxLen], by simp, Or.inl rfl⟩
  · rw [if_pos rfl] at hmm
    subst hmm
    by_cases hl0 : len = 0
    · subst hl0
      exact ⟨some a, m, [], hcs, by simp [maxLen], by simp, Or.inl rfl⟩
    obtain ⟨cs0, hcs0, _⟩ := hx 0 (by omega)
    have hspot := spot_of hcs0 (by rw [Try.cellsLJoint]; omega)
    clear hcs0
    obtain ⟨ab, ao, asp⟩ := a
    simp only at hspot
    subst hspot
    have hi : ∀ i, i < len → ∃ p : MJoint, p.name.size ≤ maxLen ∧ w.cell? ⟨ab, ao + i * 3, none⟩ = some (.int .i64 p.kind) ∧ w.cell? ⟨ab, ao + i * 3 + 1, none⟩ = some (.string p.name) ∧
        ∃ ea ec, w.cell? ⟨ab, ao + i * 3 + 2, none⟩ = some (.slice ea p.ends.length ec) ∧ EndsAt w ea p.ends := by
      intro i hi
      obtain ⟨cs', h1, h2⟩ := hx i (by omega)
      rw [Try.cellsLJoint] at h1
      obtain ⟨_, hlen, hc⟩ := World.cells?_some h1
      match cs', hlen with
      | [c0, c1, c2], _ =>
        obtain ⟨y0, y1, y2, n', _, _, t0, t1, t2⟩ := trod_struct3 Try.underlying218 h2
        simp [Try.cellsStr, Try.cellsInt, Try.cellsLEndS] at t0 t1 t2
        obtain ⟨x0, e0, _, _⟩ := DataW.trod_int Try.underlying3 t0
        obtain ⟨s, e1, _, hs⟩ := DataW.trod_string Try.underlying9 t1
        obtain ⟨ea, ec, es, e2, he⟩ := open_ends t2
        simp at e0 e1 e2
        subst e0 e1 e2
        have k0 := hc 0 (by omega)
        have k1 := hc 1 (by omega)
        have k2 := hc 2 (by omega)
        rw [addr_add2] at k0 k1 k2
        simp at k0 k1 k2
        exact ⟨⟨x0, s, es⟩, hs, k0, k1, ea, ec, k2, he⟩
    obtain ⟨ps, hpl, hp⟩ := choose_list len hi
    subst hpl
    refine ⟨_, m, ps, hcs, by omega, ?_, ?_⟩
    · intro p hp'
      obtain ⟨i, hi', rfl⟩ := List.getElem_of_mem hp'
      exact (hp i hi').1
    · exact Or.inr ⟨ab, ao, rfl, fun i hi' => (hp i hi').2⟩
end

end Go.Proofs.Ytmkdgnmmebldgaa
