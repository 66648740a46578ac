import Derived.Test.YtmkdgnmmebldgaaGreatEx15
import Derived.Test.YtmkdgnmmebldgaaGreatEx16
import Derived.Test.YtmkdgnmmebldgaaGreatEx11
namespace Go.Proofs.YtmkdgnmmebldgaaGreat
open Go.RowKit Go.Deep

def endV (e : MEnd) : Value := .agg #[.int .i64 e.piece, .int .i64 e.side]
def partV (p : MPart) : Value := .agg #[.int .i64 p.piece, .int .i64 p.lo, .int .i64 p.hi]

theorem ret_end {e e' : MEnd} (h : e = e') : Ending.returned (endV e) = .returned (endV e') := by rw [h]

set_option maxHeartbeats 400000 in
theorem l2head_any (p way : Int) (w : World) :
    Calls Tryz.prog 57 #[.int .i64 p, .int .i64 way] w fun e w' => e = .returned (endV (aheadE ⟨p, way⟩)) ∧ Below w.heap.size w w' := by
  by_cases h : way = 1
  · have HE : Hid (aheadE ⟨p, way⟩ = ⟨p, 1⟩) := by unfold Hid aheadE; rw [if_pos h]
    have h1 : (way == 1) = true := by simp [h]
    clear h
    go_enter Tryz.func57, Tryz.ntmps57
    go_wp2_with fail
    exact bodyPost_ret (v := .agg #[.int .i64 p, .int .i64 1]) (by simp [results, Tryz.results57, go_sem]) rfl ⟨(ret_end HE.out).symm, (by repeat (first | exact Below.refl _ _ | assumption | refine Below.drew ?_ | refine bdrewN ?_ _ | refine Below.setCell ?_ (by first | omega | (simp; done) | (simp; omega)) _ | refine Below.alloc ?_ (by first | omega | (simp; done) | (simp; omega)) _))⟩
  · have HE : Hid (aheadE ⟨p, way⟩ = ⟨p, 0⟩) := by unfold Hid aheadE; rw [if_neg h]
    have h1 : (way == 1) = false := by simp [h]
    clear h
    go_enter Tryz.func57, Tryz.ntmps57
    go_wp2_with fail
    exact bodyPost_ret (v := .agg #[.int .i64 p, .int .i64 0]) (by simp [results, Tryz.results57, go_sem]) rfl ⟨(ret_end HE.out).symm, (by repeat (first | exact Below.refl _ _ | assumption | refine Below.drew ?_ | refine bdrewN ?_ _ | refine Below.setCell ?_ (by first | omega | (simp; done) | (simp; omega)) _ | refine Below.alloc ?_ (by first | omega | (simp; done) | (simp; omega)) _))⟩

/-- How far a place is along a piece. -/
def farI (ps : List MPiece) (p pos way : Int) : Int := if way = 1 then pos else lenI ps p - pos

set_option maxHeartbeats 400000 in
theorem l2far_any (pa ja : Option Addr) (pc jl jc : Nat) (ps : List MPiece) (i : Nat) (pos way : Int) (w : World) (hp : Hid (PiecesAt w pa ps)) (hi : i < ps.length) (hl : 1 ≤ ps[i].len ∧ ps[i].len ≤ 10000000) (h0 : 0 ≤ pos) (h1 : pos ≤ 10000000) :
    Calls Tryz.prog 23 #[.agg #[.slice pa ps.length pc, .slice ja jl jc], .int .i64 i, .int .i64 pos, .int .i64 way] w fun e w' => e = .returned (.int .i64 (farI ps i pos way)) ∧ Below w.heap.size w w' := by
  have hlen := hp.out.1
  unfold maxLen at hlen
  by_cases h : way = 1
  · have HE : Hid (farI ps i pos way = pos) := by unfold Hid farI; rw [if_pos h]
    have h1 : (way == 1) = true := by simp [h]
    clear h
    go_enter Tryz.func23, Tryz.ntmps23
    go_wp2_with fail
    go_ret
    exact ⟨ret_int HE.out.symm, (by repeat (first | exact Below.refl _ _ | assumption | refine Below.drew ?_ | refine bdrewN ?_ _ | refine Below.setCell ?_ (by first | omega | (simp; done) | (simp; omega)) _ | refine Below.alloc ?_ (by first | omega | (simp; done) | (simp; omega)) _))⟩
  · have HE : Hid (farI ps i pos way = ps[i].len - pos) := by unfold Hid farI; rw [if_neg h, lenI_at hi]
    have h1 : (way == 1) = false := by simp [h]
    obtain ⟨b1, off1, rfl, hpc⟩ := hp.out.2.2.resolve_left (fun h => by rw [h] at hi; exact absurd hi (Nat.not_lt_zero _))
    obtain ⟨c1, c2, c3, c4⟩ := hpc i hi
    have hz := cellLt c2
    clear h hpc c1 c3 c4
    go_enter Tryz.func23, Tryz.ntmps23
    go_wp2_with fail
    go_ret
    exact ⟨ret_int HE.out.symm, (by repeat (first | exact Below.refl _ _ | assumption | refine Below.drew ?_ | refine bdrewN ?_ _ | refine Below.setCell ?_ (by first | omega | (simp; done) | (simp; omega)) _ | refine Below.alloc ?_ (by first | omega | (simp; done) | (simp; omega)) _))⟩

def specPart (ps : List MPiece) (p way a b : Int) : MPart := if way = -1 then ⟨p, lenI ps p - b, lenI ps p - a⟩ else ⟨p, a, b⟩
theorem ret_part {e e' : MPart} (h : e = e') : Ending.returned (partV e) = .returned (partV e') := by rw [h]

set_option maxHeartbeats 400000 in
theorem l2part_any (pa ja : Option Addr) (pc jl jc : Nat) (ps : List MPiece) (i : Nat) (way a b : Int) (w : World) (hp : Hid (PiecesAt w pa ps)) (hi : i < ps.length) (hl : 1 ≤ ps[i].len ∧ ps[i].len ≤ 10000000) (h0 : 0 ≤ a) (h1 : a ≤ 10000000) (h2 : 0 ≤ b) (h3 : b ≤ 10000000) :
    Calls Tryz.prog 53 #[.agg #[.slice pa ps.length pc, .slice ja jl jc], .int .i64 i, .int .i64 way, .int .i64 a, .int .i64 b] w fun e w' => e = .returned (partV (specPart ps i way a b)) ∧ Below w.heap.size w w' := by
  have hlen := hp.out.1
  unfold maxLen at hlen
  by_cases h : way = -1
  · have HE : Hid (specPart ps i way a b = ⟨i, ps[i].len - b, ps[i].len - a⟩) := by unfold Hid specPart; rw [if_pos h, lenI_at hi]
    have h4 : (way == -1) = true := by simp [h]
    obtain ⟨b1, off1, rfl, hpc⟩ := hp.out.2.2.resolve_left (fun h => by rw [h] at hi; exact absurd hi (Nat.not_lt_zero _))
    obtain ⟨c1, c2, c3, c4⟩ := hpc i hi
    have hz := cellLt c2
    clear h hpc c1 c3 c4
    go_enter Tryz.func53, Tryz.ntmps53
    go_wp2_with fail
    exact bodyPost_ret (v := .agg #[.int .i64 i, .int .i64 (ps[i].len - b), .int .i64 (ps[i].len - a)]) (by simp [results, Tryz.results53, go_sem]) rfl ⟨(ret_part HE.out).symm, (by repeat (first | exact Below.refl _ _ | assumption | refine Below.drew ?_ | refine bdrewN ?_ _ | refine Below.setCell ?_ (by first | omega | (simp; done) | (simp; omega)) _ | refine Below.alloc ?_ (by first | omega | (simp; done) | (simp; omega)) _))⟩
  · have HE : Hid (specPart ps i way a b = ⟨i, a, b⟩) := by unfold Hid specPart; rw [if_neg h]
    have h4 : (way == -1) = false := by simp [h]
    clear h
    go_enter Tryz.func53, Tryz.ntmps53
    go_wp2_with fail
    exact bodyPost_ret (v := .agg #[.int .i64 i, .int .i64 a, .int .i64 b]) (by simp [results, Tryz.results53, go_sem]) rfl ⟨(ret_part HE.out).symm, (by repeat (first | exact Below.refl _ _ | assumption | refine Below.drew ?_ | refine bdrewN ?_ _ | refine Below.setCell ?_ (by first | omega | (simp; done) | (simp; omega)) _ | refine Below.alloc ?_ (by first | omega | (simp; done) | (simp; omega)) _))⟩

theorem nextB_range (ss : List MPiece) (p way pos : Int) : ∀ k, k ≤ ss.length → nextB ss p way pos k = -1 ∨ ∃ (b : Nat) (hb : b < ss.length), b < k ∧ nextB ss p way pos k = b ∧ ss[b].len = p ∧ ss[b].brake = way
  | 0, _ => Or.inl rfl
  | k + 1, h => by
    have hk : k < ss.length := by omega
    have ih := nextB_range ss p way pos k (by omega)
    have ih' : nextB ss p way pos k = -1 ∨ ∃ (b : Nat) (hb : b < ss.length), b < k + 1 ∧ nextB ss p way pos k = b ∧ ss[b].len = p ∧ ss[b].brake = way := by
      rcases ih with ih | ⟨b, h1, h2, h3⟩
      · exact Or.inl ih
      · exact Or.inr ⟨b, h1, by omega, h3⟩
    simp only [nextB, List.getElem?_eq_getElem hk]
    split
    · exact ih'
    · split
      · rename_i h1 _
        refine Or.inr ⟨k, hk, by omega, rfl, ?_⟩
        constructor
        · by_cases e : ss[k].len = p
          · exact e
          · exact absurd (Or.inl e) h1
        · by_cases e : ss[k].brake = way
          · exact e
          · exact absurd (Or.inr (Or.inl e)) h1
      · exact ih'

section
variable {ss : List MPiece} {p way pos : Int} {k : Nat}
theorem nextB_skip (hk : k < ss.length) (h : ss[k].len ≠ p ∨ ss[k].brake ≠ way ∨ (ss[k].speed - pos) * way ≤ 0) : nextB ss p way pos (k + 1) = nextB ss p way pos k := by
  simp only [nextB, List.getElem?_eq_getElem hk, if_pos h]
theorem nextB_take (hk : k < ss.length) (h : ¬ (ss[k].len ≠ p ∨ ss[k].brake ≠ way ∨ (ss[k].speed - pos) * way ≤ 0)) (h2 : nextB ss p way pos k < 0 ∨ (ss[k].speed - sigAt ss (nextB ss p way pos k)) * way < 0) : nextB ss p way pos (k + 1) = k := by
  simp only [nextB, List.getElem?_eq_getElem hk, if_neg h, if_pos h2]
theorem nextB_leave (hk : k < ss.length) (h : ¬ (ss[k].len ≠ p ∨ ss[k].brake ≠ way ∨ (ss[k].speed - pos) * way ≤ 0)) (h2 : ¬ (nextB ss p way pos k < 0 ∨ (ss[k].speed - sigAt ss (nextB ss p way pos k)) * way < 0)) : nextB ss p way pos (k + 1) = nextB ss p way pos k := by
  simp only [nextB, List.getElem?_eq_getElem hk, if_neg h, if_neg h2]
theorem farI_le {ps : List MPiece} {q : Int} (h : way = 1 ∨ way = -1) {a b : Int} : farI ps q a way ≤ farI ps q b way ↔ (a - b) * way ≤ 0 := by
  unfold farI
  rcases h with rfl | rfl
  · first | (simp; done) | (simp; omega)
  · first | (simp; done) | (simp; omega)
theorem farI_lt {ps : List MPiece} {q : Int} (h : way = 1 ∨ way = -1) {a b : Int} : farI ps q a way < farI ps q b way ↔ (a - b) * way < 0 := by
  unfold farI
  rcases h with rfl | rfl
  · first | (simp; done) | (simp; omega)
  · first | (simp; done) | (simp; omega)
end

end Go.Proofs.YtmkdgnmmebldgaaGreat
