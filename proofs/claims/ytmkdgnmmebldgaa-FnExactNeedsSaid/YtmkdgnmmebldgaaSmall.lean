import Derived.Test.YtmkdgnmmebldgaaName
namespace Go.Proofs.Ytmkdgnmmebldgaa
open Go.RowKit

def pieceB (s : ByteArray) (l sp br : Int) : Bool := nameB s && inB l 1 10000000 && inB sp 1 10000 && inB br 1 1000

theorem pieceB_1 {s : ByteArray} {l sp br : Int} (h : nameB s = false) : pieceB s l sp br = false := by simp [pieceB, h]
theorem pieceB_2 {s : ByteArray} {l sp br : Int} (h : inB l 1 10000000 = false) : pieceB s l sp br = false := by simp [pieceB, h]
theorem pieceB_3 {s : ByteArray} {l sp br : Int} (h : inB sp 1 10000 = false) : pieceB s l sp br = false := by simp [pieceB, h]
theorem pieceB_4 {s : ByteArray} {l sp br : Int} (h : inB br 1 1000 = false) : pieceB s l sp br = false := by simp [pieceB, h]
theorem pieceB_t {s : ByteArray} {l sp br : Int} (h1 : nameB s = true) (h2 : inB l 1 10000000 = true) (h3 : inB sp 1 10000 = true) (h4 : inB br 1 1000 = true) : pieceB s l sp br = true := by simp [pieceB, h1, h2, h3, h4]

set_option maxHeartbeats 400000 in
theorem pieceOk_any (s : ByteArray) (l sp br : Int) (w : World) (hs : s.size ≤ maxLen) :
    Calls Try.prog 134 #[.agg #[.string s, .int .i64 l, .int .i64 sp, .int .i64 br]] w fun e w' => e = .returned (.bool (pieceB s l sp br)) ∧ Below w.heap.size w w' := by
  cases h1 : nameB s
  · have HB : Hid (pieceB s l sp br = false) := pieceB_1 h1
    go_enter Try.func134, Try.ntmps134
    go_wp2_with (first | (go_at_call 165; refine (nameOk_any _ _ hs).mono ?_; rintro e w' ⟨rfl, rfl⟩) | (go_at_call 121; refine (within_any _ _ _ _).mono ?_; rintro e w' ⟨rfl, rfl⟩))
    go_ret
    exact ⟨ret_bool HB.out.symm, (Below.refl _ _).alloc (Nat.le_refl _) _⟩
  · cases h2 : inB l 1 10000000
    · have HB : Hid (pieceB s l sp br = false) := pieceB_2 h2
      go_enter Try.func134, Try.ntmps134
      go_wp2_with (first | (go_at_call 165; refine (nameOk_any _ _ hs).mono ?_; rintro e w' ⟨rfl, rfl⟩) | (go_at_call 121; refine (within_any _ _ _ _).mono ?_; rintro e w' ⟨rfl, rfl⟩))
      go_ret
      exact ⟨ret_bool HB.out.symm, (Below.refl _ _).alloc (Nat.le_refl _) _⟩
    · cases h3 : inB sp 1 10000
      · have HB : Hid (pieceB s l sp br = false) := pieceB_3 h3
        go_enter Try.func134, Try.ntmps134
        go_wp2_with (first | (go_at_call 165; refine (nameOk_any _ _ hs).mono ?_; rintro e w' ⟨rfl, rfl⟩) | (go_at_call 121; refine (within_any _ _ _ _).mono ?_; rintro e w' ⟨rfl, rfl⟩))
        go_ret
        exact ⟨ret_bool HB.out.symm, (Below.refl _ _).alloc (Nat.le_refl _) _⟩
      · cases h4 : inB br 1 1000
        · have HB : Hid (pieceB s l sp br = false) := pieceB_4 h4
          go_enter Try.func134, Try.ntmps134
          go_wp2_with (first | (go_at_call 165; refine (nameOk_any _ _ hs).mono ?_; rintro e w' ⟨rfl, rfl⟩) | (go_at_call 121; refine (within_any _ _ _ _).mono ?_; rintro e w' ⟨rfl, rfl⟩))
          go_ret
          exact ⟨ret_bool HB.out.symm, (Below.refl _ _).alloc (Nat.le_refl _) _⟩
        · have HB : Hid (pieceB s l sp br = true) := pieceB_t h1 h2 h3 h4
          go_enter Try.func134, Try.ntmps134
          go_wp2_with (first | (go_at_call 165; refine (nameOk_any _ _ hs).mono ?_; rintro e w' ⟨rfl, rfl⟩) | (go_at_call 121; refine (within_any _ _ _ _).mono ?_; rintro e w' ⟨rfl, rfl⟩))
          go_ret
          exact ⟨ret_bool HB.out.symm, (Below.refl _ _).alloc (Nat.le_refl _) _⟩

set_option maxHeartbeats 400000 in
theorem szPiece_any (s : ByteArray) (l sp br left : Int) (w : World) (hs : s.size ≤ maxLen) (h0 : 0 ≤ left) (h1 : left ≤ 1048576) :
    Calls Try.prog 129 #[.agg #[.string s, .int .i64 l, .int .i64 sp, .int .i64 br], .int .i64 left] w fun e w' => e = .returned (.int .i64 (if left < s.size then -1 else left - s.size)) ∧ Below w.heap.size w w' := by
  unfold maxLen at hs
  by_cases hl : left < s.size
  · rw [if_pos hl]
    go_enter Try.func129, Try.ntmps129
    go_wp2
    go_ret
    exact ⟨rfl, (Below.refl _ _).alloc (Nat.le_refl _) _⟩
  · rw [if_neg hl]
    go_enter Try.func129, Try.ntmps129
    go_wp2
    go_ret
    exact ⟨rfl, (Below.refl _ _).alloc (Nat.le_refl _) _⟩

set_option maxHeartbeats 400000 in
theorem toPiece_any (s : ByteArray) (l sp br : Int) (w : World) :
    Calls Try.prog 132 #[.agg #[.string s, .int .i64 l, .int .i64 sp, .int .i64 br]] w fun e w' => e = .returned (.agg #[.string s, .int .i64 l, .int .i64 sp, .int .i64 br]) ∧ Below w.heap.size w w' := by
  go_enter Try.func132, Try.ntmps132
  go_wp2
  exact bodyPost_ret (v := .agg #[.string s, .int .i64 l, .int .i64 sp, .int .i64 br]) (by simp [results, Try.results132, go_sem]) rfl ⟨rfl, (by repeat (first | exact Below.refl _ _ | assumption | refine Below.drew ?_ | refine bdrewN ?_ _ | refine Below.setCell ?_ (by first | omega | (simp; done) | (simp; omega)) _ | refine Below.alloc ?_ (by first | omega | (simp; done) | (simp; omega)) _))⟩

set_option maxHeartbeats 400000 in
theorem toEnd_any (p s : Int) (w : World) :
    Calls Try.prog 179 #[.agg #[.int .i64 p, .int .i64 s]] w fun e w' => e = .returned (.agg #[.int .i64 p, .int .i64 s]) ∧ Below w.heap.size w w' := by
  go_enter Try.func179, Try.ntmps179
  go_wp2
  exact bodyPost_ret (v := .agg #[.int .i64 p, .int .i64 s]) (by simp [results, Try.results179, go_sem]) rfl ⟨rfl, (by repeat (first | exact Below.refl _ _ | assumption | refine Below.drew ?_ | refine bdrewN ?_ _ | refine Below.setCell ?_ (by first | omega | (simp; done) | (simp; omega)) _ | refine Below.alloc ?_ (by first | omega | (simp; done) | (simp; omega)) _))⟩

set_option maxHeartbeats 400000 in
theorem eqFault_any (a b : Int) (w : World) :
    Calls Try.prog 24 #[.agg #[.int .i64 a, .int .i64 b], .agg #[.int .i64 a, .int .i64 b]] w fun e w' => e = .returned (.bool true) ∧ Below w.heap.size w w' := by
  go_enter Try.func24, Try.ntmps24
  go_wp2
  go_ret
  exact ⟨rfl, (by repeat (first | exact Below.refl _ _ | assumption | refine Below.drew ?_ | refine bdrewN ?_ _ | refine Below.setCell ?_ (by first | omega | (simp; done) | (simp; omega)) _ | refine Below.alloc ?_ (by first | omega | (simp; done) | (simp; omega)) _))⟩

set_option maxHeartbeats 400000 in
theorem eqEnd_any (a b : Int) (w : World) :
    Calls Try.prog 181 #[.agg #[.int .i64 a, .int .i64 b], .agg #[.int .i64 a, .int .i64 b]] w fun e w' => e = .returned (.bool true) ∧ Below w.heap.size w w' := by
  go_enter Try.func181, Try.ntmps181
  go_wp2
  go_ret
  exact ⟨rfl, (by repeat (first | exact Below.refl _ _ | assumption | refine Below.drew ?_ | refine bdrewN ?_ _ | refine Below.setCell ?_ (by first | omega | (simp; done) | (simp; omega)) _ | refine Below.alloc ?_ (by first | omega | (simp; done) | (simp; omega)) _))⟩

set_option maxHeartbeats 400000 in
theorem eqPiece_any (s : ByteArray) (l sp br : Int) (w : World) :
    Calls Try.prog 137 #[.agg #[.string s, .int .i64 l, .int .i64 sp, .int .i64 br], .agg #[.string s, .int .i64 l, .int .i64 sp, .int .i64 br]] w fun e w' => e = .returned (.bool true) ∧ Below w.heap.size w w' := by
  go_enter Try.func137, Try.ntmps137
  go_wp2
  go_ret
  exact ⟨rfl, (by repeat (first | exact Below.refl _ _ | assumption | refine Below.drew ?_ | refine bdrewN ?_ _ | refine Below.setCell ?_ (by first | omega | (simp; done) | (simp; omega)) _ | refine Below.alloc ?_ (by first | omega | (simp; done) | (simp; omega)) _))⟩

set_option maxHeartbeats 400000 in
theorem szEndS_any (a : Option Addr) (len cap : Nat) (left : Int) (w : World) (hs : len ≤ maxLen) (h0 : 0 ≤ left) (h1 : left ≤ 1048576) :
    Calls Try.prog 163 #[.slice a len cap, .int .i64 left] w fun e w' => e = .returned (.int .i64 (if left < len then -1 else left - len)) ∧ Below w.heap.size w w' := by
  unfold maxLen at hs
  by_cases hl : left < len
  · rw [if_pos hl]
    go_enter Try.func163, Try.ntmps163
    go_wp2
    go_ret
    exact ⟨rfl, (by repeat (first | exact Below.refl _ _ | assumption | refine Below.drew ?_ | refine bdrewN ?_ _ | refine Below.setCell ?_ (by first | omega | (simp; done) | (simp; omega)) _ | refine Below.alloc ?_ (by first | omega | (simp; done) | (simp; omega)) _))⟩
  · rw [if_neg hl]
    go_enter Try.func163, Try.ntmps163
    go_wp2
    go_ret
    exact ⟨rfl, (by repeat (first | exact Below.refl _ _ | assumption | refine Below.drew ?_ | refine bdrewN ?_ _ | refine Below.setCell ?_ (by first | omega | (simp; done) | (simp; omega)) _ | refine Below.alloc ?_ (by first | omega | (simp; done) | (simp; omega)) _))⟩

def sizeB (np nj : Nat) : Bool := decide (0 < np ∧ np ≤ 100 ∧ nj ≤ 120)

set_option maxHeartbeats 400000 in
theorem netSizeOk_any (pa ja : Option Addr) (pl pc jl jc : Nat) (w : World) (hp : pl ≤ maxLen) (hj : jl ≤ maxLen) :
    Calls Try.prog 63 #[.agg #[.slice pa pl pc, .slice ja jl jc]] w fun e w' => e = .returned (.bool (sizeB pl jl)) ∧ Below w.heap.size w w' := by
  unfold maxLen at hp hj
  by_cases h1 : 0 < pl
  · by_cases h2 : pl ≤ 100
    · go_enter Try.func63, Try.ntmps63
      go_wp2
      go_ret
      exact ⟨ret_bool (by unfold sizeB; rw [Bool.eq_iff_iff]; simp; omega), (by repeat (first | exact Below.refl _ _ | assumption | refine Below.drew ?_ | refine bdrewN ?_ _ | refine Below.setCell ?_ (by first | omega | (simp; done) | (simp; omega)) _ | refine Below.alloc ?_ (by first | omega | (simp; done) | (simp; omega)) _))⟩
    · have HB : Hid (sizeB pl jl = false) := by unfold Hid sizeB; simp; omega
      go_enter Try.func63, Try.ntmps63
      go_wp2
      go_ret
      exact ⟨ret_bool HB.out.symm, (by repeat (first | exact Below.refl _ _ | assumption | refine Below.drew ?_ | refine bdrewN ?_ _ | refine Below.setCell ?_ (by first | omega | (simp; done) | (simp; omega)) _ | refine Below.alloc ?_ (by first | omega | (simp; done) | (simp; omega)) _))⟩
  · have HB : Hid (sizeB pl jl = false) := by unfold Hid sizeB; simp; omega
    go_enter Try.func63, Try.ntmps63
    go_wp2
    go_ret
    exact ⟨ret_bool HB.out.symm, (by repeat (first | exact Below.refl _ _ | assumption | refine Below.drew ?_ | refine bdrewN ?_ _ | refine Below.setCell ?_ (by first | omega | (simp; done) | (simp; omega)) _ | refine Below.alloc ?_ (by first | omega | (simp; done) | (simp; omega)) _))⟩

def endB (np : Nat) (p s : Int) : Bool := inB p 0 ((np : Int) - 1) && inB s 0 1

set_option maxHeartbeats 400000 in
theorem l1end_any (pa ja : Option Addr) (pl pc jl jc : Nat) (p s : Int) (w : World) (hp : pl ≤ maxLen) :
    Calls Try.prog 131 #[.agg #[.slice pa pl pc, .slice ja jl jc], .agg #[.int .i64 p, .int .i64 s]] w fun e w' => e = .returned (.bool (endB pl p s)) ∧ Below w.heap.size w w' := by
  unfold maxLen at hp
  cases h1 : inB p 0 ((pl : Int) - 1)
  · have HB : Hid (endB pl p s = false) := by unfold Hid endB; simp [h1]
    go_enter Try.func131, Try.ntmps131
    go_wp2_with (go_at_call 43; refine (l1in_any _ _ _ _).mono ?_; rintro e w' ⟨rfl, rfl⟩)
    go_ret
    exact ⟨ret_bool HB.out.symm, (by repeat (first | exact Below.refl _ _ | assumption | refine Below.drew ?_ | refine bdrewN ?_ _ | refine Below.setCell ?_ (by first | omega | (simp; done) | (simp; omega)) _ | refine Below.alloc ?_ (by first | omega | (simp; done) | (simp; omega)) _))⟩
  · have HB : Hid (inB s 0 1 = endB pl p s) := by unfold Hid endB; simp [h1]
    go_enter Try.func131, Try.ntmps131
    go_wp2_with (go_at_call 43; refine (l1in_any _ _ _ _).mono ?_; rintro e w' ⟨rfl, rfl⟩)
    go_ret
    exact ⟨ret_bool HB.out, (by repeat (first | exact Below.refl _ _ | assumption | refine Below.drew ?_ | refine bdrewN ?_ _ | refine Below.setCell ?_ (by first | omega | (simp; done) | (simp; omega)) _ | refine Below.alloc ?_ (by first | omega | (simp; done) | (simp; omega)) _))⟩

end Go.Proofs.Ytmkdgnmmebldgaa
