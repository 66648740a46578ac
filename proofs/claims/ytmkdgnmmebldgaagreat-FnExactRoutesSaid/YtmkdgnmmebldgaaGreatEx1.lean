import Derived.Test.YtmkdgnmmebldgaaGreatProg
import Derived.WalkKit
import Derived.WalkSpells
import Derived.WalkLawsBesides
namespace Go.Proofs.YtmkdgnmmebldgaaGreat
open Go.RowKit

theorem ret_int {k : IntKind} {a b : Int} (h : a = b) : Ending.returned (.int k a) = .returned (.int k b) := by rw [h]
theorem ret_bool {a b : Bool} (h : a = b) : Ending.returned (.bool a) = .returned (.bool b) := by rw [h]

theorem bdrewN {B : Nat} {a w : World} (h : Below B a w) (n : Nat) : Below B a (w.drewN n) := h.trans ⟨rfl, rfl, rfl, Nat.le_refl _, fun _ _ => rfl⟩
theorem beqS_ne {a b : ByteArray} (h : a ≠ b) : (a.toList == b.toList) = false := by
  rw [ByteArray.toList_eq, ByteArray.toList_eq, beq_eq_false_iff_ne]
  intro e
  apply h
  obtain ⟨⟨x⟩⟩ := a
  obtain ⟨⟨y⟩⟩ := b
  simp at e
  rw [e]
theorem emptyS_ne {a : ByteArray} (h : a ≠ ⟨#[]⟩) : a.toList.isEmpty = false := by
  rw [ByteArray.toList_eq]
  obtain ⟨⟨x⟩⟩ := a
  cases x with
  | nil => exact absurd rfl h
  | cons c r => rfl

def inB (x a b : Int) : Bool := decide (a ≤ x ∧ x ≤ b)
theorem inB_t {x a b : Int} (h1 : a ≤ x) (h2 : x ≤ b) : inB x a b = true := by simp [inB, h1, h2]
theorem inB_f1 {x a b : Int} (h1 : ¬ a ≤ x) : inB x a b = false := by simp [inB, h1]
theorem inB_f2 {x a b : Int} (h2 : ¬ x ≤ b) : inB x a b = false := by simp [inB, h2]

set_option maxHeartbeats 400000 in
theorem within_any (x a b : Int) (w : World) :
    Calls Tryz.prog 63 #[.int .i64 x, .int .i64 a, .int .i64 b] w fun e w' => e = .returned (.bool (inB x a b)) ∧ w' = w := by
  by_cases h1 : a ≤ x
  · by_cases h2 : x ≤ b
    · rw [inB_t h1 h2]
      go_enter Tryz.func63, Tryz.ntmps63
      go_wp2
      go_ret
      exact ⟨rfl, rfl⟩
    · rw [inB_f2 h2]
      go_enter Tryz.func63, Tryz.ntmps63
      go_wp2
      go_ret
      exact ⟨rfl, rfl⟩
  · rw [inB_f1 h1]
    go_enter Tryz.func63, Tryz.ntmps63
    go_wp2
    go_ret
    exact ⟨rfl, rfl⟩

set_option maxHeartbeats 400000 in
theorem l1in_any (x a b : Int) (w : World) :
    Calls Tryz.prog 21 #[.int .i64 x, .int .i64 a, .int .i64 b] w fun e w' => e = .returned (.bool (inB x a b)) ∧ w' = w := by
  by_cases h1 : a ≤ x
  · by_cases h2 : x ≤ b
    · rw [inB_t h1 h2]
      go_enter Tryz.func21, Tryz.ntmps21
      go_wp2
      go_ret
      exact ⟨rfl, rfl⟩
    · rw [inB_f2 h2]
      go_enter Tryz.func21, Tryz.ntmps21
      go_wp2
      go_ret
      exact ⟨rfl, rfl⟩
  · rw [inB_f1 h1]
    go_enter Tryz.func21, Tryz.ntmps21
    go_wp2
    go_ret
    exact ⟨rfl, rfl⟩

def signI (n : Int) : Bool := decide (97 ≤ n ∧ n ≤ 122 ∨ 48 ≤ n ∧ n ≤ 57 ∨ n = 95)

set_option maxHeartbeats 400000 in
theorem nameSign_any (n : Int) (w : World) :
    Calls Tryz.prog 132 #[.int .u8 n] w fun e w' => e = .returned (.bool (signI n)) ∧ w' = w := by
  go_enter Tryz.func132, Tryz.ntmps132
  go_wp2
  all_goals
    go_ret
    refine ⟨ret_bool ?_, rfl⟩
    unfold signI
    first | (symm; simp; omega) | (symm; rw [decide_eq_false_iff_not]; omega) | (rw [Bool.eq_iff_iff]; simp; omega)

/-- The first k bytes are all signs of a name. -/
def nameTo (s : ByteArray) (k : Nat) : Bool := (s.data.toList.take k).all fun c => signI (c.toNat : Int)
def nameB (s : ByteArray) : Bool := decide (1 ≤ s.size ∧ s.size ≤ 20) && nameTo s s.size

theorem nameTo_succ (s : ByteArray) (k : Nat) (h : k < s.size) : nameTo s (k + 1) = (nameTo s k && signI (s[k].toNat : Int)) := by
  unfold nameTo
  rw [List.take_succ_eq_append_getElem (by simpa using h)]
  simp
  rfl
theorem nameTo_false (s : ByteArray) (k : Nat) (h : k < s.size) (h1 : signI (s[k].toNat : Int) = false) : nameTo s s.size = false := by
  unfold nameTo
  rw [List.take_of_length_le (by simp), List.all_eq_false]
  refine ⟨s[k], ?_, by simp [h1]⟩
  exact List.getElem_mem (l := s.data.toList) (by simpa using h)

end Go.Proofs.YtmkdgnmmebldgaaGreat

namespace Go.Proofs.YtmkdgnmmebldgaaGreat
open Go.RowKit

theorem nameB_of_size {s : ByteArray} (h : ¬ (1 ≤ s.size ∧ s.size ≤ 20)) : nameB s = false := by simp [nameB, h]
theorem nameB_of_to {s : ByteArray} (h : 1 ≤ s.size ∧ s.size ≤ 20) (h2 : nameTo s s.size = true) : nameB s = true := by simp [nameB, h, h2]
theorem nameB_of_sign {s : ByteArray} (k : Nat) (h : k < s.size) (h1 : signI (s[k].toNat : Int) = false) : nameB s = false := by
  simp [nameB, nameTo_false s k h h1]
theorem sign_cases (c : Int) : signI c = true ∧ (97 ≤ c ∧ c ≤ 122 ∨ ¬ 97 ≤ c ∧ 48 ≤ c ∧ c ≤ 57 ∨ ¬ 97 ≤ c ∧ 48 ≤ c ∧ ¬ c ≤ 57 ∧ (c == 95) = true) ∨
    signI c = false ∧ (c == 95) = false ∧ (¬ c ≤ 122 ∧ decide (c ≤ 57) = false ∨ ¬ 97 ≤ c ∧ ¬ c ≤ 57 ∨ ¬ 48 ≤ c) := by
  unfold signI
  simp only [decide_eq_true_eq, decide_eq_false_iff_not, beq_iff_eq, beq_eq_false_iff_ne]
  omega
theorem nameTo_zero (s : ByteArray) : nameTo s 0 = true := by simp [nameTo]

set_option maxHeartbeats 400000 in
theorem l1name_any (s : ByteArray) (w : World) (hs : s.size ≤ maxLen) :
    Calls Tryz.prog 79 #[.string s] w fun e w' => e = .returned (.bool (nameB s)) ∧ w' = w := by
  unfold maxLen at hs
  go_enter Tryz.func79, Tryz.ntmps79
  go_wp2
  go_loop [3] (fun i => ∃ k : Nat, k ≤ s.size ∧ i = .int .i64 k ∧ Hid (nameTo s k = true)) (fun i => s.size - (intOf i).toNat)
  case atStart => exact ⟨0, Nat.zero_le _, rfl, nameTo_zero s⟩
  case round =>
    obtain ⟨k, hk, rfl, hn⟩ := hrel
    by_cases hlt : k < s.size
    · have HS : Hid (nameTo s (k + 1) = (nameTo s k && signI (s[k].toNat : Int))) := nameTo_succ s k hlt
      have HF : Hid (signI (s[k].toNat : Int) = false → nameB s = false) := nameB_of_sign k hlt
      have hcl : signI (s[k].toNat : Int) = true ∧ (97 ≤ (s[k].toNat : Int) ∧ (s[k].toNat : Int) ≤ 122 ∨ ¬ 97 ≤ (s[k].toNat : Int) ∧ 48 ≤ (s[k].toNat : Int) ∧ (s[k].toNat : Int) ≤ 57 ∨ ¬ 97 ≤ (s[k].toNat : Int) ∧ 48 ≤ (s[k].toNat : Int) ∧ ¬ (s[k].toNat : Int) ≤ 57 ∧ ((s[k].toNat : Int) == 95) = true) ∨
          signI (s[k].toNat : Int) = false ∧ ((s[k].toNat : Int) == 95) = false ∧ (¬ (s[k].toNat : Int) ≤ 122 ∧ decide ((s[k].toNat : Int) ≤ 57) = false ∨ ¬ 97 ≤ (s[k].toNat : Int) ∧ ¬ (s[k].toNat : Int) ≤ 57 ∨ ¬ 48 ≤ (s[k].toNat : Int)) := sign_cases _
      rcases hcl with ⟨hT, hcl⟩ | ⟨hT, h95, hcl⟩
      · have HT : Hid (nameTo s (k + 1) = true) := by
          have h1 := HS.out
          rw [hn.out, hT] at h1
          exact h1
        clear hT HS HF hn
        rcases hcl with hcl | hcl | hcl
        all_goals
          go_wp2
          go_round
          case rel => exact ⟨k + 1, by omega, by go_num, HT⟩
          case measure => simp [intOf]; omega
      · have HB : Hid (nameB s = false) := HF.out hT
        clear hT HS HF hn
        rcases hcl with hcl | hcl | hcl
        all_goals
          go_wp2
          go_ret
          exact ⟨ret_bool HB.out.symm, rfl⟩
    · have hk' : k = s.size := by omega
      have HN : Hid (nameTo s s.size = true) := hk' ▸ hn
      clear hn hk'
      by_cases h20 : 1 ≤ s.size ∧ s.size ≤ 20
      · have HB : Hid (nameB s = true) := nameB_of_to h20 HN.out
        go_wp2
        go_ret
        exact ⟨ret_bool (by rw [HB.out]; simp; omega), rfl⟩
      · have HB : Hid (nameB s = false) := nameB_of_size h20
        go_wp2
        all_goals
          go_ret
          exact ⟨ret_bool (by rw [HB.out]; try simp; try omega), rfl⟩

set_option maxHeartbeats 400000 in
theorem nameOk_any (s : ByteArray) (w : World) (hs : s.size ≤ maxLen) :
    Calls Tryz.prog 123 #[.string s] w fun e w' => e = .returned (.bool (nameB s)) ∧ w' = w := by
  unfold maxLen at hs
  by_cases h20 : 1 ≤ s.size ∧ s.size ≤ 20
  · have hin : inB (s.size : Int) 1 20 = true := inB_t (by omega) (by omega)
    go_enter Tryz.func123, Tryz.ntmps123
    go_wp2_with (go_at_call 63; refine (within_any _ _ _ _).mono ?_; rintro e w' ⟨rfl, rfl⟩)
    go_loop [3, 10] (fun _ i => ∃ k : Nat, k ≤ s.size ∧ i = .int .i64 k ∧ Hid (nameTo s k = true)) (fun _ i => s.size - (intOf i).toNat)
    case atStart => exact ⟨0, Nat.zero_le _, rfl, nameTo_zero s⟩
    case round =>
      obtain ⟨k, hk, rfl, hn⟩ := hrel
      by_cases hlt : k < s.size
      · have HS : Hid (nameTo s (k + 1) = (nameTo s k && signI (s[k].toNat : Int))) := nameTo_succ s k hlt
        have HF : Hid (signI (s[k].toNat : Int) = false → nameB s = false) := nameB_of_sign k hlt
        cases hT : signI (s[k].toNat : Int)
        · have HB : Hid (nameB s = false) := HF.out hT
          clear HS HF hn
          go_wp2_with (go_at_call 132; refine (nameSign_any _ _).mono ?_; rintro e w' ⟨rfl, rfl⟩)
          go_ret
          exact ⟨ret_bool HB.out.symm, rfl⟩
        · have HT : Hid (nameTo s (k + 1) = true) := by
            have h1 := HS.out
            rw [hn.out, hT] at h1
            exact h1
          clear HS HF hn
          go_wp2_with (go_at_call 132; refine (nameSign_any _ _).mono ?_; rintro e w' ⟨rfl, rfl⟩)
          go_round
          case rel => exact ⟨k + 1, by omega, by go_num, HT⟩
          case measure => simp [intOf]; omega
      · have hk' : k = s.size := by omega
        have HN : Hid (nameTo s s.size = true) := hk' ▸ hn
        clear hn hk'
        have HB : Hid (nameB s = true) := nameB_of_to h20 HN.out
        go_wp2
        go_ret
        exact ⟨ret_bool HB.out.symm, rfl⟩
  · have hin : inB (s.size : Int) 1 20 = false := by unfold inB; simp; omega
    have HB : Hid (nameB s = false) := nameB_of_size h20
    go_enter Tryz.func123, Tryz.ntmps123
    go_wp2_with (go_at_call 63; refine (within_any _ _ _ _).mono ?_; rintro e w' ⟨rfl, rfl⟩)
    go_ret
    exact ⟨ret_bool HB.out.symm, rfl⟩

end Go.Proofs.YtmkdgnmmebldgaaGreat

namespace Go.Proofs.YtmkdgnmmebldgaaGreat
open Go.RowKit

def pieceB (s : ByteArray) (l sp br : Int) : Bool := nameB s && inB l 1 10000000 && inB sp 1 10000 && inB br 1 1000

theorem pieceB_1 {s : ByteArray} {l sp br : Int} (h : nameB s = false) : pieceB s l sp br = false := by simp [pieceB, h]
theorem pieceB_2 {s : ByteArray} {l sp br : Int} (h : inB l 1 10000000 = false) : pieceB s l sp br = false := by simp [pieceB, h]
theorem pieceB_3 {s : ByteArray} {l sp br : Int} (h : inB sp 1 10000 = false) : pieceB s l sp br = false := by simp [pieceB, h]
theorem pieceB_4 {s : ByteArray} {l sp br : Int} (h : inB br 1 1000 = false) : pieceB s l sp br = false := by simp [pieceB, h]
theorem pieceB_t {s : ByteArray} {l sp br : Int} (h1 : nameB s = true) (h2 : inB l 1 10000000 = true) (h3 : inB sp 1 10000 = true) (h4 : inB br 1 1000 = true) : pieceB s l sp br = true := by simp [pieceB, h1, h2, h3, h4]

set_option maxHeartbeats 400000 in
theorem pieceOk_any (s : ByteArray) (l sp br : Int) (w : World) (hs : s.size ≤ maxLen) :
    Calls Tryz.prog 120 #[.agg #[.string s, .int .i64 l, .int .i64 sp, .int .i64 br]] w fun e w' => e = .returned (.bool (pieceB s l sp br)) ∧ Below w.heap.size w w' := by
  cases h1 : nameB s
  · have HB : Hid (pieceB s l sp br = false) := pieceB_1 h1
    go_enter Tryz.func120, Tryz.ntmps120
    go_wp2_with (first | (go_at_call 123; refine (nameOk_any _ _ hs).mono ?_; rintro e w' ⟨rfl, rfl⟩) | (go_at_call 63; refine (within_any _ _ _ _).mono ?_; rintro e w' ⟨rfl, rfl⟩))
    go_ret
    exact ⟨ret_bool HB.out.symm, (Below.refl _ _).alloc (Nat.le_refl _) _⟩
  · cases h2 : inB l 1 10000000
    · have HB : Hid (pieceB s l sp br = false) := pieceB_2 h2
      go_enter Tryz.func120, Tryz.ntmps120
      go_wp2_with (first | (go_at_call 123; refine (nameOk_any _ _ hs).mono ?_; rintro e w' ⟨rfl, rfl⟩) | (go_at_call 63; refine (within_any _ _ _ _).mono ?_; rintro e w' ⟨rfl, rfl⟩))
      go_ret
      exact ⟨ret_bool HB.out.symm, (Below.refl _ _).alloc (Nat.le_refl _) _⟩
    · cases h3 : inB sp 1 10000
      · have HB : Hid (pieceB s l sp br = false) := pieceB_3 h3
        go_enter Tryz.func120, Tryz.ntmps120
        go_wp2_with (first | (go_at_call 123; refine (nameOk_any _ _ hs).mono ?_; rintro e w' ⟨rfl, rfl⟩) | (go_at_call 63; refine (within_any _ _ _ _).mono ?_; rintro e w' ⟨rfl, rfl⟩))
        go_ret
        exact ⟨ret_bool HB.out.symm, (Below.refl _ _).alloc (Nat.le_refl _) _⟩
      · cases h4 : inB br 1 1000
        · have HB : Hid (pieceB s l sp br = false) := pieceB_4 h4
          go_enter Tryz.func120, Tryz.ntmps120
          go_wp2_with (first | (go_at_call 123; refine (nameOk_any _ _ hs).mono ?_; rintro e w' ⟨rfl, rfl⟩) | (go_at_call 63; refine (within_any _ _ _ _).mono ?_; rintro e w' ⟨rfl, rfl⟩))
          go_ret
          exact ⟨ret_bool HB.out.symm, (Below.refl _ _).alloc (Nat.le_refl _) _⟩
        · have HB : Hid (pieceB s l sp br = true) := pieceB_t h1 h2 h3 h4
          go_enter Tryz.func120, Tryz.ntmps120
          go_wp2_with (first | (go_at_call 123; refine (nameOk_any _ _ hs).mono ?_; rintro e w' ⟨rfl, rfl⟩) | (go_at_call 63; refine (within_any _ _ _ _).mono ?_; rintro e w' ⟨rfl, rfl⟩))
          go_ret
          exact ⟨ret_bool HB.out.symm, (Below.refl _ _).alloc (Nat.le_refl _) _⟩

set_option maxHeartbeats 400000 in
theorem szPiece_any (s : ByteArray) (l sp br left : Int) (w : World) (hs : s.size ≤ maxLen) (h0 : 0 ≤ left) (h1 : left ≤ 1048576) :
    Calls Tryz.prog 48 #[.agg #[.string s, .int .i64 l, .int .i64 sp, .int .i64 br], .int .i64 left] w fun e w' => e = .returned (.int .i64 (if left < s.size then -1 else left - s.size)) ∧ Below w.heap.size w w' := by
  unfold maxLen at hs
  by_cases hl : left < s.size
  · rw [if_pos hl]
    go_enter Tryz.func48, Tryz.ntmps48
    go_wp2
    go_ret
    exact ⟨rfl, (Below.refl _ _).alloc (Nat.le_refl _) _⟩
  · rw [if_neg hl]
    go_enter Tryz.func48, Tryz.ntmps48
    go_wp2
    go_ret
    exact ⟨rfl, (Below.refl _ _).alloc (Nat.le_refl _) _⟩

set_option maxHeartbeats 400000 in
theorem toPiece_any (s : ByteArray) (l sp br : Int) (w : World) :
    Calls Tryz.prog 60 #[.agg #[.string s, .int .i64 l, .int .i64 sp, .int .i64 br]] w fun e w' => e = .returned (.agg #[.string s, .int .i64 l, .int .i64 sp, .int .i64 br]) ∧ Below w.heap.size w w' := by
  go_enter Tryz.func60, Tryz.ntmps60
  go_wp2
  exact bodyPost_ret (v := .agg #[.string s, .int .i64 l, .int .i64 sp, .int .i64 br]) (by simp [results, Tryz.results60, go_sem]) rfl ⟨rfl, (by repeat (first | exact Below.refl _ _ | assumption | refine Below.drew ?_ | refine bdrewN ?_ _ | refine Below.setCell ?_ (by first | omega | (simp; done) | (simp; omega)) _ | refine Below.alloc ?_ (by first | omega | (simp; done) | (simp; omega)) _))⟩

set_option maxHeartbeats 400000 in
theorem toEnd_any (p s : Int) (w : World) :
    Calls Tryz.prog 100 #[.agg #[.int .i64 p, .int .i64 s]] w fun e w' => e = .returned (.agg #[.int .i64 p, .int .i64 s]) ∧ Below w.heap.size w w' := by
  go_enter Tryz.func100, Tryz.ntmps100
  go_wp2
  exact bodyPost_ret (v := .agg #[.int .i64 p, .int .i64 s]) (by simp [results, Tryz.results100, go_sem]) rfl ⟨rfl, (by repeat (first | exact Below.refl _ _ | assumption | refine Below.drew ?_ | refine bdrewN ?_ _ | refine Below.setCell ?_ (by first | omega | (simp; done) | (simp; omega)) _ | refine Below.alloc ?_ (by first | omega | (simp; done) | (simp; omega)) _))⟩

set_option maxHeartbeats 400000 in
theorem eqEnd_any (a b : Int) (w : World) :
    Calls Tryz.prog 117 #[.agg #[.int .i64 a, .int .i64 b], .agg #[.int .i64 a, .int .i64 b]] w fun e w' => e = .returned (.bool true) ∧ Below w.heap.size w w' := by
  go_enter Tryz.func117, Tryz.ntmps117
  go_wp2
  go_ret
  exact ⟨rfl, (by repeat (first | exact Below.refl _ _ | assumption | refine Below.drew ?_ | refine bdrewN ?_ _ | refine Below.setCell ?_ (by first | omega | (simp; done) | (simp; omega)) _ | refine Below.alloc ?_ (by first | omega | (simp; done) | (simp; omega)) _))⟩

set_option maxHeartbeats 400000 in
theorem eqPiece_any (s : ByteArray) (l sp br : Int) (w : World) :
    Calls Tryz.prog 74 #[.agg #[.string s, .int .i64 l, .int .i64 sp, .int .i64 br], .agg #[.string s, .int .i64 l, .int .i64 sp, .int .i64 br]] w fun e w' => e = .returned (.bool true) ∧ Below w.heap.size w w' := by
  go_enter Tryz.func74, Tryz.ntmps74
  go_wp2
  go_ret
  exact ⟨rfl, (by repeat (first | exact Below.refl _ _ | assumption | refine Below.drew ?_ | refine bdrewN ?_ _ | refine Below.setCell ?_ (by first | omega | (simp; done) | (simp; omega)) _ | refine Below.alloc ?_ (by first | omega | (simp; done) | (simp; omega)) _))⟩

set_option maxHeartbeats 400000 in
theorem szEndS_any (a : Option Addr) (len cap : Nat) (left : Int) (w : World) (hs : len ≤ maxLen) (h0 : 0 ≤ left) (h1 : left ≤ 1048576) :
    Calls Tryz.prog 77 #[.slice a len cap, .int .i64 left] w fun e w' => e = .returned (.int .i64 (if left < len then -1 else left - len)) ∧ Below w.heap.size w w' := by
  unfold maxLen at hs
  by_cases hl : left < len
  · rw [if_pos hl]
    go_enter Tryz.func77, Tryz.ntmps77
    go_wp2
    go_ret
    exact ⟨rfl, (by repeat (first | exact Below.refl _ _ | assumption | refine Below.drew ?_ | refine bdrewN ?_ _ | refine Below.setCell ?_ (by first | omega | (simp; done) | (simp; omega)) _ | refine Below.alloc ?_ (by first | omega | (simp; done) | (simp; omega)) _))⟩
  · rw [if_neg hl]
    go_enter Tryz.func77, Tryz.ntmps77
    go_wp2
    go_ret
    exact ⟨rfl, (by repeat (first | exact Below.refl _ _ | assumption | refine Below.drew ?_ | refine bdrewN ?_ _ | refine Below.setCell ?_ (by first | omega | (simp; done) | (simp; omega)) _ | refine Below.alloc ?_ (by first | omega | (simp; done) | (simp; omega)) _))⟩

def sizeB (np nj : Nat) : Bool := decide (0 < np ∧ np ≤ 100 ∧ nj ≤ 120)

set_option maxHeartbeats 400000 in
theorem netSizeOk_any (pa ja : Option Addr) (pl pc jl jc : Nat) (w : World) (hp : pl ≤ maxLen) (hj : jl ≤ maxLen) :
    Calls Tryz.prog 101 #[.agg #[.slice pa pl pc, .slice ja jl jc]] w fun e w' => e = .returned (.bool (sizeB pl jl)) ∧ Below w.heap.size w w' := by
  unfold maxLen at hp hj
  by_cases h1 : 0 < pl
  · by_cases h2 : pl ≤ 100
    · go_enter Tryz.func101, Tryz.ntmps101
      go_wp2
      go_ret
      exact ⟨ret_bool (by unfold sizeB; rw [Bool.eq_iff_iff]; simp; omega), (by repeat (first | exact Below.refl _ _ | assumption | refine Below.drew ?_ | refine bdrewN ?_ _ | refine Below.setCell ?_ (by first | omega | (simp; done) | (simp; omega)) _ | refine Below.alloc ?_ (by first | omega | (simp; done) | (simp; omega)) _))⟩
    · have HB : Hid (sizeB pl jl = false) := by unfold Hid sizeB; simp; omega
      go_enter Tryz.func101, Tryz.ntmps101
      go_wp2
      go_ret
      exact ⟨ret_bool HB.out.symm, (by repeat (first | exact Below.refl _ _ | assumption | refine Below.drew ?_ | refine bdrewN ?_ _ | refine Below.setCell ?_ (by first | omega | (simp; done) | (simp; omega)) _ | refine Below.alloc ?_ (by first | omega | (simp; done) | (simp; omega)) _))⟩
  · have HB : Hid (sizeB pl jl = false) := by unfold Hid sizeB; simp; omega
    go_enter Tryz.func101, Tryz.ntmps101
    go_wp2
    go_ret
    exact ⟨ret_bool HB.out.symm, (by repeat (first | exact Below.refl _ _ | assumption | refine Below.drew ?_ | refine bdrewN ?_ _ | refine Below.setCell ?_ (by first | omega | (simp; done) | (simp; omega)) _ | refine Below.alloc ?_ (by first | omega | (simp; done) | (simp; omega)) _))⟩

def endB (np : Nat) (p s : Int) : Bool := inB p 0 ((np : Int) - 1) && inB s 0 1

set_option maxHeartbeats 400000 in
theorem l1end_any (pa ja : Option Addr) (pl pc jl jc : Nat) (p s : Int) (w : World) (hp : pl ≤ maxLen) :
    Calls Tryz.prog 130 #[.agg #[.slice pa pl pc, .slice ja jl jc], .agg #[.int .i64 p, .int .i64 s]] w fun e w' => e = .returned (.bool (endB pl p s)) ∧ Below w.heap.size w w' := by
  unfold maxLen at hp
  cases h1 : inB p 0 ((pl : Int) - 1)
  · have HB : Hid (endB pl p s = false) := by unfold Hid endB; simp [h1]
    go_enter Tryz.func130, Tryz.ntmps130
    go_wp2_with (go_at_call 21; refine (l1in_any _ _ _ _).mono ?_; rintro e w' ⟨rfl, rfl⟩)
    go_ret
    exact ⟨ret_bool HB.out.symm, (by repeat (first | exact Below.refl _ _ | assumption | refine Below.drew ?_ | refine bdrewN ?_ _ | refine Below.setCell ?_ (by first | omega | (simp; done) | (simp; omega)) _ | refine Below.alloc ?_ (by first | omega | (simp; done) | (simp; omega)) _))⟩
  · have HB : Hid (inB s 0 1 = endB pl p s) := by unfold Hid endB; simp [h1]
    go_enter Tryz.func130, Tryz.ntmps130
    go_wp2_with (go_at_call 21; refine (l1in_any _ _ _ _).mono ?_; rintro e w' ⟨rfl, rfl⟩)
    go_ret
    exact ⟨ret_bool HB.out, (by repeat (first | exact Below.refl _ _ | assumption | refine Below.drew ?_ | refine bdrewN ?_ _ | refine Below.setCell ?_ (by first | omega | (simp; done) | (simp; omega)) _ | refine Below.alloc ?_ (by first | omega | (simp; done) | (simp; omega)) _))⟩

end Go.Proofs.YtmkdgnmmebldgaaGreat
