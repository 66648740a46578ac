import Derived.Test.YtmkdgnmmebldgaaMath
namespace Go.Proofs.Ytmkdgnmmebldgaa
open Go.RowKit

/-- The length of a piece, by its number. -/
def lenAt (ps : List MPiece) (i : Int) : Int := match ps[i.toNat]? with | some p => p.len | none => 0
theorem lenAt_at {ps : List MPiece} {k : Nat} (h : k < ps.length) : lenAt ps (k : Int) = ps[k].len := by simp [lenAt, h]
def wayB (x : Int) : Bool := (x == 1) || (x == -1)
/-- A signal that is as said: its name, its piece, its place, its way. -/
def okSigC (ps : List MPiece) (s : ByteArray) (pi pl wy : Int) : Bool := nameB s && inB pi 0 ((ps.length : Int) - 1) && wayB wy && inB pl 1 (lenAt ps pi - 1)
def okSig (ps : List MPiece) (s : MPiece) : Bool := okSigC ps s.name s.len s.speed s.brake
def badS3 (ps ss : List MPiece) (i : Nat) : Bool := match ss[i]? with | some s => !okSig ps s | none => false
def same4 (a b : MPiece) : Bool := decide (a.name = b.name) || (a.len == b.len && a.speed == b.speed && a.brake == b.brake)
def beforeB (ss : List MPiece) (i : Nat) (s : MPiece) : Bool := (ss.take i).any fun a => same4 a s
def badS4 (ss : List MPiece) (i : Nat) : Bool := match ss[i]? with | some s => beforeB ss i s | none => false

theorem badS3_at {ps ss : List MPiece} {i : Nat} (h : i < ss.length) : badS3 ps ss i = !okSig ps ss[i] := by simp [badS3, h]
theorem badS4_at {ss : List MPiece} {i : Nat} (h : i < ss.length) : badS4 ss i = beforeB ss i ss[i] := by simp [badS4, h]

theorem beforeB_hit {ss : List MPiece} {i m : Nat} {s : MPiece} (hm : m < i) (hi : m < ss.length) (h : same4 ss[m] s = true) : beforeB ss i s = true := by
  unfold beforeB
  rw [List.any_eq_true]
  refine ⟨ss[m], ?_, h⟩
  rw [List.mem_take_iff_getElem]
  exact ⟨m, by omega, rfl⟩
theorem beforeB_none {ss : List MPiece} {i : Nat} {s : MPiece} (h : ∀ m (hm : m < ss.length), m < i → same4 ss[m] s = false) : beforeB ss i s = false := by
  unfold beforeB
  rw [List.any_eq_false]
  intro t ht
  rw [List.mem_take_iff_getElem] at ht
  obtain ⟨m, hm, rfl⟩ := ht
  rw [h m (by omega) (by omega)]
  simp

/-- The fault of signals. -/
def sigF (ps : List MPiece) (js : List MJoint) (ss : List MPiece) : Int × Int :=
  if netF ps js = (0, 0) then
    if 60 < ss.length then (2, 0)
    else if 0 ≤ firstBad (badS3 ps ss) ss.length then (3, firstBad (badS3 ps ss) ss.length)
    else if 0 ≤ firstBad (badS4 ss) ss.length then (4, firstBad (badS4 ss) ss.length)
    else (0, 0)
  else (1, 0)

theorem netF_code (ps : List MPiece) (js : List MJoint) : netF ps js = (0, 0) ∨ ((netF ps js).1 == 0) = false := by
  unfold netF
  repeat' split
  all_goals first | (left; rfl) | (right; rfl)

section
variable {ps ss : List MPiece} {js : List MJoint}
theorem sigF_1 (h : netF ps js ≠ (0, 0)) : sigF ps js ss = (1, 0) := by simp [sigF, h]
theorem sigF_2 (h : netF ps js = (0, 0)) (h2 : 60 < ss.length) : sigF ps js ss = (2, 0) := by simp [sigF, h, h2]
theorem sigF_3 (h : netF ps js = (0, 0)) (h2 : ¬ 60 < ss.length) {i : Nat} (hi : i < ss.length) (hb : badS3 ps ss i = true) (hk : ∀ k, k < i → badS3 ps ss k = false) : sigF ps js ss = (3, (i : Int)) := by
  have e := firstBad_hit hi hb hk
  unfold sigF
  rw [if_pos h, if_neg h2, e, if_pos (by omega)]
theorem sigF_4 (h : netF ps js = (0, 0)) (h2 : ¬ 60 < ss.length) (h3 : ∀ k, k < ss.length → badS3 ps ss k = false) {i : Nat} (hi : i < ss.length) (hb : badS4 ss i = true) (hk : ∀ k, k < i → badS4 ss k = false) : sigF ps js ss = (4, (i : Int)) := by
  have e := firstBad_hit hi hb hk
  unfold sigF
  rw [if_pos h, if_neg h2, firstBad_none h3, if_neg (by omega), e, if_pos (by omega)]
theorem sigF_0 (h : netF ps js = (0, 0)) (h2 : ¬ 60 < ss.length) (h3 : ∀ k, k < ss.length → badS3 ps ss k = false) (h4 : ∀ k, k < ss.length → badS4 ss k = false) : sigF ps js ss = (0, 0) := by
  unfold sigF
  rw [if_pos h, if_neg h2, firstBad_none h3, if_neg (by omega), firstBad_none h4, if_neg (by omega)]
end

/-- In a net that is right the pieces are as said, and they are few. -/
theorem net_ok_pieces {ps : List MPiece} {js : List MJoint} (h : netF ps js = (0, 0)) : ps.length ≤ 100 ∧ ∀ k (hk : k < ps.length), 1 ≤ ps[k].len ∧ ps[k].len ≤ 10000000 := by
  cases hs : sizeB ps.length js.length
  · rw [netF_1 hs] at h
    simp at h
  · refine ⟨?_, fun k hk => ?_⟩
    · unfold sizeB at hs
      simp at hs
      omega
    · rcases firstBad_cases (badPi ps) ps.length with ⟨_, h2⟩ | ⟨i, hi, _, hb, hm⟩
      · have h3 := h2 k hk
        rw [badPi_at hk] at h3
        simp [okP, pieceB, inB] at h3
        omega
      · rw [netF_2 hs hi hb hm] at h
        simp at h

theorem okSigC_1 {ps : List MPiece} {s : ByteArray} {pi pl wy : Int} (h : nameB s = false) : okSigC ps s pi pl wy = false := by simp [okSigC, h]
theorem okSigC_2 {ps : List MPiece} {s : ByteArray} {pi pl wy : Int} (h : inB pi 0 ((ps.length : Int) - 1) = false) : okSigC ps s pi pl wy = false := by simp [okSigC, h]
theorem okSigC_3 {ps : List MPiece} {s : ByteArray} {pi pl wy : Int} (h : wayB wy = false) : okSigC ps s pi pl wy = false := by simp [okSigC, h]
theorem okSigC_4 {ps : List MPiece} {s : ByteArray} {pi pl wy : Int} (h1 : nameB s = true) (h2 : inB pi 0 ((ps.length : Int) - 1) = true) (h3 : wayB wy = true) : okSigC ps s pi pl wy = inB pl 1 (lenAt ps pi - 1) := by simp [okSigC, h1, h2, h3]
theorem okSig_range {ps : List MPiece} {s : MPiece} (hps : ps.length ≤ 100) (hpl : ∀ k (hk : k < ps.length), 1 ≤ ps[k].len ∧ ps[k].len ≤ 10000000) (h : okSig ps s = true) :
    0 ≤ s.len ∧ s.len ≤ 100 ∧ 0 ≤ s.speed ∧ s.speed ≤ 10000000 ∧ -1 ≤ s.brake ∧ s.brake ≤ 1 := by
  unfold okSig okSigC at h
  simp only [Bool.and_eq_true] at h
  obtain ⟨⟨⟨_, h2⟩, h3⟩, h4⟩ := h
  unfold inB at h2 h4
  unfold wayB at h3
  simp at h2 h3 h4
  obtain ⟨k, hk⟩ := Int.eq_ofNat_of_zero_le h2.1
  have hkl : k < ps.length := by omega
  rw [hk, lenAt_at hkl] at h4
  have := hpl k hkl
  omega

end Go.Proofs.Ytmkdgnmmebldgaa
