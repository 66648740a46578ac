import Derived.Test.YtjhoklimibieoabName
namespace Go.Proofs.Ytjhoklimibieoab
open Go.RowKit

def pieceB (s : ByteArray) (l sp br : Int) : Bool := nameB s && inB l 1 10000000 && inB sp 1 10000 && inB br 1 1000

theorem pieceB_1 {s : ByteArray} {l sp br : Int} (h : nameB s = false) : pieceB s l sp br = false := by simp [pieceB, h]
theorem pieceB_2 {s : ByteArray} {l sp br : Int} (h : inB l 1 10000000 = false) : pieceB s l sp br = false := by simp [pieceB, h]
theorem pieceB_3 {s : ByteArray} {l sp br : Int} (h : inB sp 1 10000 = false) : pieceB s l sp br = false := by simp [pieceB, h]
theorem pieceB_4 {s : ByteArray} {l sp br : Int} (h : inB br 1 1000 = false) : pieceB s l sp br = false := by simp [pieceB, h]
theorem pieceB_t {s : ByteArray} {l sp br : Int} (h1 : nameB s = true) (h2 : inB l 1 10000000 = true) (h3 : inB sp 1 10000 = true) (h4 : inB br 1 1000 = true) : pieceB s l sp br = true := by simp [pieceB, h1, h2, h3, h4]

set_option maxHeartbeats 400000 in
theorem szPiece_any (s : ByteArray) (l sp br left : Int) (w : World) (hs : s.size ≤ maxLen) (h0 : 0 ≤ left) (h1 : left ≤ 1048576) :
    Calls Try.prog 87 #[.agg #[.string s, .int .i64 l, .int .i64 sp, .int .i64 br], .int .i64 left] w fun e w' => e = .returned (.int .i64 (if left < s.size then -1 else left - s.size)) ∧ Below w.heap.size w w' := by
  unfold maxLen at hs
  by_cases hl : left < s.size
  · rw [if_pos hl]
    go_enter Try.func87, Try.ntmps87
    go_wp2
    go_ret
    exact ⟨rfl, (Below.refl _ _).alloc (Nat.le_refl _) _⟩
  · rw [if_neg hl]
    go_enter Try.func87, Try.ntmps87
    go_wp2
    go_ret
    exact ⟨rfl, (Below.refl _ _).alloc (Nat.le_refl _) _⟩

set_option maxHeartbeats 400000 in
theorem toPiece_any (s : ByteArray) (l sp br : Int) (w : World) :
    Calls Try.prog 93 #[.agg #[.string s, .int .i64 l, .int .i64 sp, .int .i64 br]] w fun e w' => e = .returned (.agg #[.string s, .int .i64 l, .int .i64 sp, .int .i64 br]) ∧ Below w.heap.size w w' := by
  go_enter Try.func93, Try.ntmps93
  go_wp2
  exact bodyPost_ret (v := .agg #[.string s, .int .i64 l, .int .i64 sp, .int .i64 br]) (by simp [results, Try.results93, go_sem]) rfl ⟨rfl, (by repeat (first | exact Below.refl _ _ | assumption | refine Below.drew ?_ | refine bdrewN ?_ _ | refine Below.setCell ?_ (by first | omega | (simp; done) | (simp; omega)) _ | refine Below.alloc ?_ (by first | omega | (simp; done) | (simp; omega)) _))⟩

set_option maxHeartbeats 400000 in
theorem toEnd_any (p s : Int) (w : World) :
    Calls Try.prog 120 #[.agg #[.int .i64 p, .int .i64 s]] w fun e w' => e = .returned (.agg #[.int .i64 p, .int .i64 s]) ∧ Below w.heap.size w w' := by
  go_enter Try.func120, Try.ntmps120
  go_wp2
  exact bodyPost_ret (v := .agg #[.int .i64 p, .int .i64 s]) (by simp [results, Try.results120, go_sem]) rfl ⟨rfl, (by repeat (first | exact Below.refl _ _ | assumption | refine Below.drew ?_ | refine bdrewN ?_ _ | refine Below.setCell ?_ (by first | omega | (simp; done) | (simp; omega)) _ | refine Below.alloc ?_ (by first | omega | (simp; done) | (simp; omega)) _))⟩

set_option maxHeartbeats 400000 in
theorem eqEnd_any (a b : Int) (w : World) :
    Calls Try.prog 121 #[.agg #[.int .i64 a, .int .i64 b], .agg #[.int .i64 a, .int .i64 b]] w fun e w' => e = .returned (.bool true) ∧ Below w.heap.size w w' := by
  go_enter Try.func121, Try.ntmps121
  go_wp2
  go_ret
  exact ⟨rfl, (by repeat (first | exact Below.refl _ _ | assumption | refine Below.drew ?_ | refine bdrewN ?_ _ | refine Below.setCell ?_ (by first | omega | (simp; done) | (simp; omega)) _ | refine Below.alloc ?_ (by first | omega | (simp; done) | (simp; omega)) _))⟩

set_option maxHeartbeats 400000 in
theorem eqPiece_any (s : ByteArray) (l sp br : Int) (w : World) :
    Calls Try.prog 95 #[.agg #[.string s, .int .i64 l, .int .i64 sp, .int .i64 br], .agg #[.string s, .int .i64 l, .int .i64 sp, .int .i64 br]] w fun e w' => e = .returned (.bool true) ∧ Below w.heap.size w w' := by
  go_enter Try.func95, Try.ntmps95
  go_wp2
  go_ret
  exact ⟨rfl, (by repeat (first | exact Below.refl _ _ | assumption | refine Below.drew ?_ | refine bdrewN ?_ _ | refine Below.setCell ?_ (by first | omega | (simp; done) | (simp; omega)) _ | refine Below.alloc ?_ (by first | omega | (simp; done) | (simp; omega)) _))⟩

set_option maxHeartbeats 400000 in
theorem szEndS_any (a : Option Addr) (len cap : Nat) (left : Int) (w : World) (hs : len ≤ maxLen) (h0 : 0 ≤ left) (h1 : left ≤ 1048576) :
    Calls Try.prog 99 #[.slice a len cap, .int .i64 left] w fun e w' => e = .returned (.int .i64 (if left < len then -1 else left - len)) ∧ Below w.heap.size w w' := by
  unfold maxLen at hs
  by_cases hl : left < len
  · rw [if_pos hl]
    go_enter Try.func99, Try.ntmps99
    go_wp2
    go_ret
    exact ⟨rfl, (by repeat (first | exact Below.refl _ _ | assumption | refine Below.drew ?_ | refine bdrewN ?_ _ | refine Below.setCell ?_ (by first | omega | (simp; done) | (simp; omega)) _ | refine Below.alloc ?_ (by first | omega | (simp; done) | (simp; omega)) _))⟩
  · rw [if_neg hl]
    go_enter Try.func99, Try.ntmps99
    go_wp2
    go_ret
    exact ⟨rfl, (by repeat (first | exact Below.refl _ _ | assumption | refine Below.drew ?_ | refine bdrewN ?_ _ | refine Below.setCell ?_ (by first | omega | (simp; done) | (simp; omega)) _ | refine Below.alloc ?_ (by first | omega | (simp; done) | (simp; omega)) _))⟩

def sizeB (np nj : Nat) : Bool := decide (0 < np ∧ np ≤ 100 ∧ nj ≤ 120)

def endB (np : Nat) (p s : Int) : Bool := inB p 0 ((np : Int) - 1) && inB s 0 1

set_option maxHeartbeats 400000 in
theorem l1end_any (pa ja : Option Addr) (pl pc jl jc : Nat) (p s : Int) (w : World) (hp : pl ≤ maxLen) :
    Calls Try.prog 126 #[.agg #[.slice pa pl pc, .slice ja jl jc], .agg #[.int .i64 p, .int .i64 s]] w fun e w' => e = .returned (.bool (endB pl p s)) ∧ Below w.heap.size w w' := by
  unfold maxLen at hp
  cases h1 : inB p 0 ((pl : Int) - 1)
  · have HB : Hid (endB pl p s = false) := by unfold Hid endB; simp [h1]
    go_enter Try.func126, Try.ntmps126
    go_wp2_with (go_at_call 101; refine (l1in_any _ _ _ _).mono ?_; rintro e w' ⟨rfl, rfl⟩)
    go_ret
    exact ⟨ret_bool HB.out.symm, (by repeat (first | exact Below.refl _ _ | assumption | refine Below.drew ?_ | refine bdrewN ?_ _ | refine Below.setCell ?_ (by first | omega | (simp; done) | (simp; omega)) _ | refine Below.alloc ?_ (by first | omega | (simp; done) | (simp; omega)) _))⟩
  · have HB : Hid (inB s 0 1 = endB pl p s) := by unfold Hid endB; simp [h1]
    go_enter Try.func126, Try.ntmps126
    go_wp2_with (go_at_call 101; refine (l1in_any _ _ _ _).mono ?_; rintro e w' ⟨rfl, rfl⟩)
    go_ret
    exact ⟨ret_bool HB.out, (by repeat (first | exact Below.refl _ _ | assumption | refine Below.drew ?_ | refine bdrewN ?_ _ | refine Below.setCell ?_ (by first | omega | (simp; done) | (simp; omega)) _ | refine Below.alloc ?_ (by first | omega | (simp; done) | (simp; omega)) _))⟩

end Go.Proofs.Ytjhoklimibieoab
