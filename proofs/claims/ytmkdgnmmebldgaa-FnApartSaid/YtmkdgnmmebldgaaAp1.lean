import Derived.Test.YtmkdgnmmebldgaaProg
import Derived.WalkKit
import Derived.WalkSpells
import Derived.WalkLawsBesides
import Derived.ProofKit
import Derived.Deep.Slices
import Derived.Deep.Strs
import Derived.Lib.SmallJoins
import Derived.Deep.OwnRows
namespace Go.Proofs.Ytmkdgnmmebldgaa
open Go.RowKit

theorem ret_int {k : IntKind} {a b : Int} (h : a = b) : Ending.returned (.int k a) = .returned (.int k b) := by rw [h]
theorem ret_bool {a b : Bool} (h : a = b) : Ending.returned (.bool a) = .returned (.bool b) := by rw [h]

theorem bdrewN {B : Nat} {a w : World} (h : Below B a w) (n : Nat) : Below B a (w.drewN n) := h.trans ⟨rfl, rfl, rfl, Nat.le_refl _, fun _ _ => rfl⟩
theorem beqS_ne {a b : ByteArray} (h : a ≠ b) : (a.toList == b.toList) = false := by
  rw [ByteArray.toList_eq, ByteArray.toList_eq, beq_eq_false_iff_ne]
  intro e
  apply h
  obtain ⟨⟨x⟩⟩ := a
  obtain ⟨⟨y⟩⟩ := b
  simp at e
  rw [e]
theorem emptyS_ne {a : ByteArray} (h : a ≠ ⟨#[]⟩) : a.toList.isEmpty = false := by
  rw [ByteArray.toList_eq]
  obtain ⟨⟨x⟩⟩ := a
  cases x with
  | nil => exact absurd rfl h
  | cons c r => rfl

def inB (x a b : Int) : Bool := decide (a ≤ x ∧ x ≤ b)
theorem inB_t {x a b : Int} (h1 : a ≤ x) (h2 : x ≤ b) : inB x a b = true := by simp [inB, h1, h2]
theorem inB_f1 {x a b : Int} (h1 : ¬ a ≤ x) : inB x a b = false := by simp [inB, h1]
theorem inB_f2 {x a b : Int} (h2 : ¬ x ≤ b) : inB x a b = false := by simp [inB, h2]

set_option maxHeartbeats 400000 in
theorem within_any (x a b : Int) (w : World) :
    Calls Try.prog 121 #[.int .i64 x, .int .i64 a, .int .i64 b] w fun e w' => e = .returned (.bool (inB x a b)) ∧ w' = w := by
  by_cases h1 : a ≤ x
  · by_cases h2 : x ≤ b
    · rw [inB_t h1 h2]
      go_enter Try.func121, Try.ntmps121
      go_wp2
      go_ret
      exact ⟨rfl, rfl⟩
    · rw [inB_f2 h2]
      go_enter Try.func121, Try.ntmps121
      go_wp2
      go_ret
      exact ⟨rfl, rfl⟩
  · rw [inB_f1 h1]
    go_enter Try.func121, Try.ntmps121
    go_wp2
    go_ret
    exact ⟨rfl, rfl⟩

set_option maxHeartbeats 400000 in
theorem l1in_any (x a b : Int) (w : World) :
    Calls Try.prog 43 #[.int .i64 x, .int .i64 a, .int .i64 b] w fun e w' => e = .returned (.bool (inB x a b)) ∧ w' = w := by
  by_cases h1 : a ≤ x
  · by_cases h2 : x ≤ b
    · rw [inB_t h1 h2]
      go_enter Try.func43, Try.ntmps43
      go_wp2
      go_ret
      exact ⟨rfl, rfl⟩
    · rw [inB_f2 h2]
      go_enter Try.func43, Try.ntmps43
      go_wp2
      go_ret
      exact ⟨rfl, rfl⟩
  · rw [inB_f1 h1]
    go_enter Try.func43, Try.ntmps43
    go_wp2
    go_ret
    exact ⟨rfl, rfl⟩

def signI (n : Int) : Bool := decide (97 ≤ n ∧ n ≤ 122 ∨ 48 ≤ n ∧ n ≤ 57 ∨ n = 95)

set_option maxHeartbeats 400000 in
theorem nameSign_any (n : Int) (w : World) :
    Calls Try.prog 180 #[.int .u8 n] w fun e w' => e = .returned (.bool (signI n)) ∧ w' = w := by
  go_enter Try.func180, Try.ntmps180
  go_wp2
  all_goals
    go_ret
    refine ⟨ret_bool ?_, rfl⟩
    unfold signI
    first | (symm; simp; omega) | (symm; rw [decide_eq_false_iff_not]; omega) | (rw [Bool.eq_iff_iff]; simp; omega)

/-- The first k bytes are all signs of a name. -/
def nameTo (s : ByteArray) (k : Nat) : Bool := (s.data.toList.take k).all fun c => signI (c.toNat : Int)
def nameB (s : ByteArray) : Bool := decide (1 ≤ s.size ∧ s.size ≤ 20) && nameTo s s.size

theorem nameTo_succ (s : ByteArray) (k : Nat) (h : k < s.size) : nameTo s (k + 1) = (nameTo s k && signI (s[k].toNat : Int)) := by
  unfold nameTo
  rw [List.take_succ_eq_append_getElem (by simpa using h)]
  simp
  rfl
theorem nameTo_false (s : ByteArray) (k : Nat) (h : k < s.size) (h1 : signI (s[k].toNat : Int) = false) : nameTo s s.size = false := by
  unfold nameTo
  rw [List.take_of_length_le (by simp), List.all_eq_false]
  refine ⟨s[k], ?_, by simp [h1]⟩
  exact List.getElem_mem (l := s.data.toList) (by simpa using h)

end Go.Proofs.Ytmkdgnmmebldgaa

namespace Go.Proofs.Ytmkdgnmmebldgaa
open Go.RowKit Go.Deep Go.ChangeShapes Go.WideShapes

theorem chooseB {α : Type} {p : Nat → α → Prop} : ∀ (n : Nat), (∀ i, i < n → ∃ x, p i x) → ∃ l : List α, l.length = n ∧ ∀ i (hi : i < l.length), p i l[i]
  | 0, _ => ⟨[], rfl, fun i hi => absurd hi (Nat.not_lt_zero i)⟩
  | n + 1, h => by
    obtain ⟨l, hl, hp⟩ := chooseB n (fun i hi => h i (by omega))
    obtain ⟨x, hx⟩ := h n (by omega)
    refine ⟨l ++ [x], by simp [hl], fun i hi => ?_⟩
    by_cases e : i < l.length
    · rw [List.getElem_append_left e]; exact hp i e
    · have : i = n := by simp at hi; omega
      subst this
      simp [hl]
      exact hx

theorem addrAddB (b o n m : Nat) : (Addr.add ⟨b, o, none⟩ n).add m = ⟨b, o + n + m, none⟩ := by
  unfold Addr.add
  by_cases h1 : n = 0 <;> by_cases h2 : m = 0 <;> simp [h1, h2]

/-- A slice with an element leads to a place that is none of a packed cell's. -/
theorem spotOfB {w : World} {a : Addr} {k n : Nat} {cs : List Value} (h : w.cells? 0 (a.add (0 * k)) n = some cs) (hn : 0 < n) : a.spot = none := by
  obtain ⟨_, hlen, hc⟩ := World.cells?_some h
  have k0 := hc 0 hn
  rw [List.getElem?_eq_getElem (by omega)] at k0
  have := World.cell?_spot k0
  simpa [Addr.add] using this

theorem Try.laidOutD : Go.laidOutB Try.prog = true := by kernel_rfl
theorem ownDraws : ownKnob Try.prog.godebug = none := by kernel_rfl

end Go.Proofs.Ytmkdgnmmebldgaa

namespace Go.Proofs.Ytmkdgnmmebldgaa
open Go.RowKit

theorem nameB_of_size {s : ByteArray} (h : ¬ (1 ≤ s.size ∧ s.size ≤ 20)) : nameB s = false := by simp [nameB, h]
theorem nameB_of_to {s : ByteArray} (h : 1 ≤ s.size ∧ s.size ≤ 20) (h2 : nameTo s s.size = true) : nameB s = true := by simp [nameB, h, h2]
theorem nameB_of_sign {s : ByteArray} (k : Nat) (h : k < s.size) (h1 : signI (s[k].toNat : Int) = false) : nameB s = false := by
  simp [nameB, nameTo_false s k h h1]
theorem sign_cases (c : Int) : signI c = true ∧ (97 ≤ c ∧ c ≤ 122 ∨ ¬ 97 ≤ c ∧ 48 ≤ c ∧ c ≤ 57 ∨ ¬ 97 ≤ c ∧ 48 ≤ c ∧ ¬ c ≤ 57 ∧ (c == 95) = true) ∨
    signI c = false ∧ (c == 95) = false ∧ (¬ c ≤ 122 ∧ decide (c ≤ 57) = false ∨ ¬ 97 ≤ c ∧ ¬ c ≤ 57 ∨ ¬ 48 ≤ c) := by
  unfold signI
  simp only [decide_eq_true_eq, decide_eq_false_iff_not, beq_iff_eq, beq_eq_false_iff_ne]
  omega
theorem nameTo_zero (s : ByteArray) : nameTo s 0 = true := by simp [nameTo]

set_option maxHeartbeats 400000 in
theorem l1name_any (s : ByteArray) (w : World) (hs : s.size ≤ maxLen) :
    Calls Try.prog 58 #[.string s] w fun e w' => e = .returned (.bool (nameB s)) ∧ w' = w := by
  unfold maxLen at hs
  go_enter Try.func58, Try.ntmps58
  go_wp2
  go_loop [3] (fun i => ∃ k : Nat, k ≤ s.size ∧ i = .int .i64 k ∧ Hid (nameTo s k = true)) (fun i => s.size - (intOf i).toNat)
  case atStart => exact ⟨0, Nat.zero_le _, rfl, nameTo_zero s⟩
  case round =>
    obtain ⟨k, hk, rfl, hn⟩ := hrel
    by_cases hlt : k < s.size
    · have HS : Hid (nameTo s (k + 1) = (nameTo s k && signI (s[k].toNat : Int))) := nameTo_succ s k hlt
      have HF : Hid (signI (s[k].toNat : Int) = false → nameB s = false) := nameB_of_sign k hlt
      have hcl : signI (s[k].toNat : Int) = true ∧ (97 ≤ (s[k].toNat : Int) ∧ (s[k].toNat : Int) ≤ 122 ∨ ¬ 97 ≤ (s[k].toNat : Int) ∧ 48 ≤ (s[k].toNat : Int) ∧ (s[k].toNat : Int) ≤ 57 ∨ ¬ 97 ≤ (s[k].toNat : Int) ∧ 48 ≤ (s[k].toNat : Int) ∧ ¬ (s[k].toNat : Int) ≤ 57 ∧ ((s[k].toNat : Int) == 95) = true) ∨
          signI (s[k].toNat : Int) = false ∧ ((s[k].toNat : Int) == 95) = false ∧ (¬ (s[k].toNat : Int) ≤ 122 ∧ decide ((s[k].toNat : Int) ≤ 57) = false ∨ ¬ 97 ≤ (s[k].toNat : Int) ∧ ¬ (s[k].toNat : Int) ≤ 57 ∨ ¬ 48 ≤ (s[k].toNat : Int)) := sign_cases _
      rcases hcl with ⟨hT, hcl⟩ | ⟨hT, h95, hcl⟩
      · have HT : Hid (nameTo s (k + 1) = true) := by
          have h1 := HS.out
          rw [hn.out, hT] at h1
          exact h1
        clear hT HS HF hn
        rcases hcl with hcl | hcl | hcl
        all_goals
          go_wp2
          go_round
          case rel => exact ⟨k + 1, by omega, by go_num, HT⟩
          case measure => simp [intOf]; omega
      · have HB : Hid (nameB s = false) := HF.out hT
        clear hT HS HF hn
        rcases hcl with hcl | hcl | hcl
        all_goals
          go_wp2
          go_ret
          exact ⟨ret_bool HB.out.symm, rfl⟩
    · have hk' : k = s.size := by omega
      have HN : Hid (nameTo s s.size = true) := hk' ▸ hn
      clear hn hk'
      by_cases h20 : 1 ≤ s.size ∧ s.size ≤ 20
      · have HB : Hid (nameB s = true) := nameB_of_to h20 HN.out
        go_wp2
        go_ret
        exact ⟨ret_bool (by rw [HB.out]; simp; omega), rfl⟩
      · have HB : Hid (nameB s = false) := nameB_of_size h20
        go_wp2
        all_goals
          go_ret
          exact ⟨ret_bool (by rw [HB.out]; try simp; try omega), rfl⟩

set_option maxHeartbeats 400000 in
theorem nameOk_any (s : ByteArray) (w : World) (hs : s.size ≤ maxLen) :
    Calls Try.prog 165 #[.string s] w fun e w' => e = .returned (.bool (nameB s)) ∧ w' = w := by
  unfold maxLen at hs
  by_cases h20 : 1 ≤ s.size ∧ s.size ≤ 20
  · have hin : inB (s.size : Int) 1 20 = true := inB_t (by omega) (by omega)
    go_enter Try.func165, Try.ntmps165
    go_wp2_with (go_at_call 121; refine (within_any _ _ _ _).mono ?_; rintro e w' ⟨rfl, rfl⟩)
    go_loop [3, 10] (fun _ i => ∃ k : Nat, k ≤ s.size ∧ i = .int .i64 k ∧ Hid (nameTo s k = true)) (fun _ i => s.size - (intOf i).toNat)
    case atStart => exact ⟨0, Nat.zero_le _, rfl, nameTo_zero s⟩
    case round =>
      obtain ⟨k, hk, rfl, hn⟩ := hrel
      by_cases hlt : k < s.size
      · have HS : Hid (nameTo s (k + 1) = (nameTo s k && signI (s[k].toNat : Int))) := nameTo_succ s k hlt
        have HF : Hid (signI (s[k].toNat : Int) = false → nameB s = false) := nameB_of_sign k hlt
        cases hT : signI (s[k].toNat : Int)
        · have HB : Hid (nameB s = false) := HF.out hT
          clear HS HF hn
          go_wp2_with (go_at_call 180; refine (nameSign_any _ _).mono ?_; rintro e w' ⟨rfl, rfl⟩)
          go_ret
          exact ⟨ret_bool HB.out.symm, rfl⟩
        · have HT : Hid (nameTo s (k + 1) = true) := by
            have h1 := HS.out
            rw [hn.out, hT] at h1
            exact h1
          clear HS HF hn
          go_wp2_with (go_at_call 180; refine (nameSign_any _ _).mono ?_; rintro e w' ⟨rfl, rfl⟩)
          go_round
          case rel => exact ⟨k + 1, by omega, by go_num, HT⟩
          case measure => simp [intOf]; omega
      · have hk' : k = s.size := by omega
        have HN : Hid (nameTo s s.size = true) := hk' ▸ hn
        clear hn hk'
        have HB : Hid (nameB s = true) := nameB_of_to h20 HN.out
        go_wp2
        go_ret
        exact ⟨ret_bool HB.out.symm, rfl⟩
  · have hin : inB (s.size : Int) 1 20 = false := by unfold inB; simp; omega
    have HB : Hid (nameB s = false) := nameB_of_size h20
    go_enter Try.func165, Try.ntmps165
    go_wp2_with (go_at_call 121; refine (within_any _ _ _ _).mono ?_; rintro e w' ⟨rfl, rfl⟩)
    go_ret
    exact ⟨ret_bool HB.out.symm, rfl⟩

end Go.Proofs.Ytmkdgnmmebldgaa

namespace Go.Proofs.Ytmkdgnmmebldgaa
open Go.RowKit

def pieceB (s : ByteArray) (l sp br : Int) : Bool := nameB s && inB l 1 10000000 && inB sp 1 10000 && inB br 1 1000

theorem pieceB_1 {s : ByteArray} {l sp br : Int} (h : nameB s = false) : pieceB s l sp br = false := by simp [pieceB, h]
theorem pieceB_2 {s : ByteArray} {l sp br : Int} (h : inB l 1 10000000 = false) : pieceB s l sp br = false := by simp [pieceB, h]
theorem pieceB_3 {s : ByteArray} {l sp br : Int} (h : inB sp 1 10000 = false) : pieceB s l sp br = false := by simp [pieceB, h]
theorem pieceB_4 {s : ByteArray} {l sp br : Int} (h : inB br 1 1000 = false) : pieceB s l sp br = false := by simp [pieceB, h]
theorem pieceB_t {s : ByteArray} {l sp br : Int} (h1 : nameB s = true) (h2 : inB l 1 10000000 = true) (h3 : inB sp 1 10000 = true) (h4 : inB br 1 1000 = true) : pieceB s l sp br = true := by simp [pieceB, h1, h2, h3, h4]

set_option maxHeartbeats 400000 in
theorem pieceOk_any (s : ByteArray) (l sp br : Int) (w : World) (hs : s.size ≤ maxLen) :
    Calls Try.prog 134 #[.agg #[.string s, .int .i64 l, .int .i64 sp, .int .i64 br]] w fun e w' => e = .returned (.bool (pieceB s l sp br)) ∧ Below w.heap.size w w' := by
  cases h1 : nameB s
  · have HB : Hid (pieceB s l sp br = false) := pieceB_1 h1
    go_enter Try.func134, Try.ntmps134
    go_wp2_with (first | (go_at_call 165; refine (nameOk_any _ _ hs).mono ?_; rintro e w' ⟨rfl, rfl⟩) | (go_at_call 121; refine (within_any _ _ _ _).mono ?_; rintro e w' ⟨rfl, rfl⟩))
    go_ret
    exact ⟨ret_bool HB.out.symm, (Below.refl _ _).alloc (Nat.le_refl _) _⟩
  · cases h2 : inB l 1 10000000
    · have HB : Hid (pieceB s l sp br = false) := pieceB_2 h2
      go_enter Try.func134, Try.ntmps134
      go_wp2_with (first | (go_at_call 165; refine (nameOk_any _ _ hs).mono ?_; rintro e w' ⟨rfl, rfl⟩) | (go_at_call 121; refine (within_any _ _ _ _).mono ?_; rintro e w' ⟨rfl, rfl⟩))
      go_ret
      exact ⟨ret_bool HB.out.symm, (Below.refl _ _).alloc (Nat.le_refl _) _⟩
    · cases h3 : inB sp 1 10000
      · have HB : Hid (pieceB s l sp br = false) := pieceB_3 h3
        go_enter Try.func134, Try.ntmps134
        go_wp2_with (first | (go_at_call 165; refine (nameOk_any _ _ hs).mono ?_; rintro e w' ⟨rfl, rfl⟩) | (go_at_call 121; refine (within_any _ _ _ _).mono ?_; rintro e w' ⟨rfl, rfl⟩))
        go_ret
        exact ⟨ret_bool HB.out.symm, (Below.refl _ _).alloc (Nat.le_refl _) _⟩
      · cases h4 : inB br 1 1000
        · have HB : Hid (pieceB s l sp br = false) := pieceB_4 h4
          go_enter Try.func134, Try.ntmps134
          go_wp2_with (first | (go_at_call 165; refine (nameOk_any _ _ hs).mono ?_; rintro e w' ⟨rfl, rfl⟩) | (go_at_call 121; refine (within_any _ _ _ _).mono ?_; rintro e w' ⟨rfl, rfl⟩))
          go_ret
          exact ⟨ret_bool HB.out.symm, (Below.refl _ _).alloc (Nat.le_refl _) _⟩
        · have HB : Hid (pieceB s l sp br = true) := pieceB_t h1 h2 h3 h4
          go_enter Try.func134, Try.ntmps134
          go_wp2_with (first | (go_at_call 165; refine (nameOk_any _ _ hs).mono ?_; rintro e w' ⟨rfl, rfl⟩) | (go_at_call 121; refine (within_any _ _ _ _).mono ?_; rintro e w' ⟨rfl, rfl⟩))
          go_ret
          exact ⟨ret_bool HB.out.symm, (Below.refl _ _).alloc (Nat.le_refl _) _⟩

set_option maxHeartbeats 400000 in
theorem szPiece_any (s : ByteArray) (l sp br left : Int) (w : World) (hs : s.size ≤ maxLen) (h0 : 0 ≤ left) (h1 : left ≤ 1048576) :
    Calls Try.prog 129 #[.agg #[.string s, .int .i64 l, .int .i64 sp, .int .i64 br], .int .i64 left] w fun e w' => e = .returned (.int .i64 (if left < s.size then -1 else left - s.size)) ∧ Below w.heap.size w w' := by
  unfold maxLen at hs
  by_cases hl : left < s.size
  · rw [if_pos hl]
    go_enter Try.func129, Try.ntmps129
    go_wp2
    go_ret
    exact ⟨rfl, (Below.refl _ _).alloc (Nat.le_refl _) _⟩
  · rw [if_neg hl]
    go_enter Try.func129, Try.ntmps129
    go_wp2
    go_ret
    exact ⟨rfl, (Below.refl _ _).alloc (Nat.le_refl _) _⟩

set_option maxHeartbeats 400000 in
theorem toPiece_any (s : ByteArray) (l sp br : Int) (w : World) :
    Calls Try.prog 132 #[.agg #[.string s, .int .i64 l, .int .i64 sp, .int .i64 br]] w fun e w' => e = .returned (.agg #[.string s, .int .i64 l, .int .i64 sp, .int .i64 br]) ∧ Below w.heap.size w w' := by
  go_enter Try.func132, Try.ntmps132
  go_wp2
  exact bodyPost_ret (v := .agg #[.string s, .int .i64 l, .int .i64 sp, .int .i64 br]) (by simp [results, Try.results132, go_sem]) rfl ⟨rfl, (by repeat (first | exact Below.refl _ _ | assumption | refine Below.drew ?_ | refine bdrewN ?_ _ | refine Below.setCell ?_ (by first | omega | (simp; done) | (simp; omega)) _ | refine Below.alloc ?_ (by first | omega | (simp; done) | (simp; omega)) _))⟩

set_option maxHeartbeats 400000 in
theorem toEnd_any (p s : Int) (w : World) :
    Calls Try.prog 179 #[.agg #[.int .i64 p, .int .i64 s]] w fun e w' => e = .returned (.agg #[.int .i64 p, .int .i64 s]) ∧ Below w.heap.size w w' := by
  go_enter Try.func179, Try.ntmps179
  go_wp2
  exact bodyPost_ret (v := .agg #[.int .i64 p, .int .i64 s]) (by simp [results, Try.results179, go_sem]) rfl ⟨rfl, (by repeat (first | exact Below.refl _ _ | assumption | refine Below.drew ?_ | refine bdrewN ?_ _ | refine Below.setCell ?_ (by first | omega | (simp; done) | (simp; omega)) _ | refine Below.alloc ?_ (by first | omega | (simp; done) | (simp; omega)) _))⟩

set_option maxHeartbeats 400000 in
theorem eqFault_any (a b : Int) (w : World) :
    Calls Try.prog 24 #[.agg #[.int .i64 a, .int .i64 b], .agg #[.int .i64 a, .int .i64 b]] w fun e w' => e = .returned (.bool true) ∧ Below w.heap.size w w' := by
  go_enter Try.func24, Try.ntmps24
  go_wp2
  go_ret
  exact ⟨rfl, (by repeat (first | exact Below.refl _ _ | assumption | refine Below.drew ?_ | refine bdrewN ?_ _ | refine Below.setCell ?_ (by first | omega | (simp; done) | (simp; omega)) _ | refine Below.alloc ?_ (by first | omega | (simp; done) | (simp; omega)) _))⟩

set_option maxHeartbeats 400000 in
theorem eqEnd_any (a b : Int) (w : World) :
    Calls Try.prog 181 #[.agg #[.int .i64 a, .int .i64 b], .agg #[.int .i64 a, .int .i64 b]] w fun e w' => e = .returned (.bool true) ∧ Below w.heap.size w w' := by
  go_enter Try.func181, Try.ntmps181
  go_wp2
  go_ret
  exact ⟨rfl, (by repeat (first | exact Below.refl _ _ | assumption | refine Below.drew ?_ | refine bdrewN ?_ _ | refine Below.setCell ?_ (by first | omega | (simp; done) | (simp; omega)) _ | refine Below.alloc ?_ (by first | omega | (simp; done) | (simp; omega)) _))⟩

set_option maxHeartbeats 400000 in
theorem eqPiece_any (s : ByteArray) (l sp br : Int) (w : World) :
    Calls Try.prog 137 #[.agg #[.string s, .int .i64 l, .int .i64 sp, .int .i64 br], .agg #[.string s, .int .i64 l, .int .i64 sp, .int .i64 br]] w fun e w' => e = .returned (.bool true) ∧ Below w.heap.size w w' := by
  go_enter Try.func137, Try.ntmps137
  go_wp2
  go_ret
  exact ⟨rfl, (by repeat (first | exact Below.refl _ _ | assumption | refine Below.drew ?_ | refine bdrewN ?_ _ | refine Below.setCell ?_ (by first | omega | (simp; done) | (simp; omega)) _ | refine Below.alloc ?_ (by first | omega | (simp; done) | (simp; omega)) _))⟩

set_option maxHeartbeats 400000 in
theorem szEndS_any (a : Option Addr) (len cap : Nat) (left : Int) (w : World) (hs : len ≤ maxLen) (h0 : 0 ≤ left) (h1 : left ≤ 1048576) :
    Calls Try.prog 163 #[.slice a len cap, .int .i64 left] w fun e w' => e = .returned (.int .i64 (if left < len then -1 else left - len)) ∧ Below w.heap.size w w' := by
  unfold maxLen at hs
  by_cases hl : left < len
  · rw [if_pos hl]
    go_enter Try.func163, Try.ntmps163
    go_wp2
    go_ret
    exact ⟨rfl, (by repeat (first | exact Below.refl _ _ | assumption | refine Below.drew ?_ | refine bdrewN ?_ _ | refine Below.setCell ?_ (by first | omega | (simp; done) | (simp; omega)) _ | refine Below.alloc ?_ (by first | omega | (simp; done) | (simp; omega)) _))⟩
  · rw [if_neg hl]
    go_enter Try.func163, Try.ntmps163
    go_wp2
    go_ret
    exact ⟨rfl, (by repeat (first | exact Below.refl _ _ | assumption | refine Below.drew ?_ | refine bdrewN ?_ _ | refine Below.setCell ?_ (by first | omega | (simp; done) | (simp; omega)) _ | refine Below.alloc ?_ (by first | omega | (simp; done) | (simp; omega)) _))⟩

def sizeB (np nj : Nat) : Bool := decide (0 < np ∧ np ≤ 100 ∧ nj ≤ 120)

set_option maxHeartbeats 400000 in
theorem netSizeOk_any (pa ja : Option Addr) (pl pc jl jc : Nat) (w : World) (hp : pl ≤ maxLen) (hj : jl ≤ maxLen) :
    Calls Try.prog 63 #[.agg #[.slice pa pl pc, .slice ja jl jc]] w fun e w' => e = .returned (.bool (sizeB pl jl)) ∧ Below w.heap.size w w' := by
  unfold maxLen at hp hj
  by_cases h1 : 0 < pl
  · by_cases h2 : pl ≤ 100
    · go_enter Try.func63, Try.ntmps63
      go_wp2
      go_ret
      exact ⟨ret_bool (by unfold sizeB; rw [Bool.eq_iff_iff]; simp; omega), (by repeat (first | exact Below.refl _ _ | assumption | refine Below.drew ?_ | refine bdrewN ?_ _ | refine Below.setCell ?_ (by first | omega | (simp; done) | (simp; omega)) _ | refine Below.alloc ?_ (by first | omega | (simp; done) | (simp; omega)) _))⟩
    · have HB : Hid (sizeB pl jl = false) := by unfold Hid sizeB; simp; omega
      go_enter Try.func63, Try.ntmps63
      go_wp2
      go_ret
      exact ⟨ret_bool HB.out.symm, (by repeat (first | exact Below.refl _ _ | assumption | refine Below.drew ?_ | refine bdrewN ?_ _ | refine Below.setCell ?_ (by first | omega | (simp; done) | (simp; omega)) _ | refine Below.alloc ?_ (by first | omega | (simp; done) | (simp; omega)) _))⟩
  · have HB : Hid (sizeB pl jl = false) := by unfold Hid sizeB; simp; omega
    go_enter Try.func63, Try.ntmps63
    go_wp2
    go_ret
    exact ⟨ret_bool HB.out.symm, (by repeat (first | exact Below.refl _ _ | assumption | refine Below.drew ?_ | refine bdrewN ?_ _ | refine Below.setCell ?_ (by first | omega | (simp; done) | (simp; omega)) _ | refine Below.alloc ?_ (by first | omega | (simp; done) | (simp; omega)) _))⟩

def endB (np : Nat) (p s : Int) : Bool := inB p 0 ((np : Int) - 1) && inB s 0 1

set_option maxHeartbeats 400000 in
theorem l1end_any (pa ja : Option Addr) (pl pc jl jc : Nat) (p s : Int) (w : World) (hp : pl ≤ maxLen) :
    Calls Try.prog 131 #[.agg #[.slice pa pl pc, .slice ja jl jc], .agg #[.int .i64 p, .int .i64 s]] w fun e w' => e = .returned (.bool (endB pl p s)) ∧ Below w.heap.size w w' := by
  unfold maxLen at hp
  cases h1 : inB p 0 ((pl : Int) - 1)
  · have HB : Hid (endB pl p s = false) := by unfold Hid endB; simp [h1]
    go_enter Try.func131, Try.ntmps131
    go_wp2_with (go_at_call 43; refine (l1in_any _ _ _ _).mono ?_; rintro e w' ⟨rfl, rfl⟩)
    go_ret
    exact ⟨ret_bool HB.out.symm, (by repeat (first | exact Below.refl _ _ | assumption | refine Below.drew ?_ | refine bdrewN ?_ _ | refine Below.setCell ?_ (by first | omega | (simp; done) | (simp; omega)) _ | refine Below.alloc ?_ (by first | omega | (simp; done) | (simp; omega)) _))⟩
  · have HB : Hid (inB s 0 1 = endB pl p s) := by unfold Hid endB; simp [h1]
    go_enter Try.func131, Try.ntmps131
    go_wp2_with (go_at_call 43; refine (l1in_any _ _ _ _).mono ?_; rintro e w' ⟨rfl, rfl⟩)
    go_ret
    exact ⟨ret_bool HB.out, (by repeat (first | exact Below.refl _ _ | assumption | refine Below.drew ?_ | refine bdrewN ?_ _ | refine Below.setCell ?_ (by first | omega | (simp; done) | (simp; omega)) _ | refine Below.alloc ?_ (by first | omega | (simp; done) | (simp; omega)) _))⟩

end Go.Proofs.Ytmkdgnmmebldgaa

namespace Go.Proofs.Ytmkdgnmmebldgaa
open Go.RowKit

structure MPiece where
  name : ByteArray
  len : Int
  speed : Int
  brake : Int
structure MEnd where
  piece : Int
  side : Int
structure MJoint where
  kind : Int
  name : ByteArray
  ends : List MEnd

theorem cellLt {w : World} {a : Addr} {v : Value} (h : w.cell? a = some v) : a.block < w.heap.size := World.block_lt_of_cell? _ _ h

/-- The cells of pieces, one after the other, from an address on. -/
def PieceCells (w : World) (b off : Nat) (ps : List MPiece) : Prop :=
  ∀ i (h : i < ps.length), w.cell? ⟨b, off + i * 4, none⟩ = some (.string ps[i].name) ∧ w.cell? ⟨b, off + i * 4 + 1, none⟩ = some (.int .i64 ps[i].len) ∧
    w.cell? ⟨b, off + i * 4 + 2, none⟩ = some (.int .i64 ps[i].speed) ∧ w.cell? ⟨b, off + i * 4 + 3, none⟩ = some (.int .i64 ps[i].brake)

theorem PieceCells.below {w w' : World} {b off : Nat} {ps : List MPiece} (h : PieceCells w b off ps) (hb : Below w.heap.size w w') : PieceCells w' b off ps := by
  intro i hi
  obtain ⟨h1, h2, h3, h4⟩ := h i hi
  exact ⟨cell_later hb h1, cell_later hb h2, cell_later hb h3, cell_later hb h4⟩

/-- A slice that reads as pieces. -/
def PiecesAt (w : World) (a : Option Addr) (ps : List MPiece) : Prop :=
  ps.length ≤ maxLen ∧ (∀ p, p ∈ ps → p.name.size ≤ maxLen) ∧ (ps = [] ∨ ∃ b off, a = some ⟨b, off, none⟩ ∧ PieceCells w b off ps)

theorem PiecesAt.below {w w' : World} {a : Option Addr} {ps : List MPiece} (h : PiecesAt w a ps) (hb : Below w.heap.size w w') : PiecesAt w' a ps := by
  obtain ⟨h1, h2, h3⟩ := h
  refine ⟨h1, h2, ?_⟩
  rcases h3 with h3 | ⟨b, off, h3, h4⟩
  · exact Or.inl h3
  · exact Or.inr ⟨b, off, h3, h4.below hb⟩

/-- What is left behind the first k pieces; -1 when it is used up. -/
def szP (left : Int) : List MPiece → Int
  | [] => left
  | p :: r => if left < p.name.size then -1 else szP (left - p.name.size) r

set_option maxHeartbeats 400000 in
theorem szPieceS_walk (b off cap : Nat) (ps : List MPiece) (left : Int) (w : World) (hl : ps.length ≤ maxLen) (hn : Hid (∀ p, p ∈ ps → p.name.size ≤ maxLen)) (hc : Hid (PieceCells w b off ps)) (h0 : 0 ≤ left) (h1 : left ≤ 1048576) :
    Calls Try.prog 56 #[.slice (some ⟨b, off, none⟩) ps.length cap, .int .i64 left] w fun e w' => e = .returned (.int .i64 (if left < ps.length then -1 else szP (left - ps.length) ps)) ∧ Below w.heap.size w w' := by
  unfold maxLen at hl


  by_cases hlt : left < ps.length
  · rw [if_pos hlt]
    go_enter Try.func56, Try.ntmps56
    go_wp2
    go_ret
    exact ⟨rfl, (by repeat (first | exact Below.refl _ _ | assumption | refine Below.drew ?_ | refine bdrewN ?_ _ | refine Below.setCell ?_ (by first | omega | (simp; done) | (simp; omega)) _ | refine Below.alloc ?_ (by first | omega | (simp; done) | (simp; omega)) _))⟩
  · rw [if_neg hlt]
    go_enter Try.func56, Try.ntmps56
    go_wp2_with fail
    go_loopw [1, 5] (fun l i wr => ∃ (k : Nat) (lf : Int), k ≤ ps.length ∧ i = .int .i64 k ∧ l = .int .i64 lf ∧ 0 ≤ lf ∧ lf ≤ 1048576 ∧ Hid (szP (left - ps.length) ps = szP lf (ps.drop k)) ∧ Below w.heap.size w wr) (fun _ i _ => ps.length - (intOf i).toNat)
    case atStart => exact ⟨0, left - ps.length, Nat.zero_le _, rfl, rfl, by omega, by omega, rfl, (by repeat (first | exact Below.refl _ _ | assumption | refine Below.drew ?_ | refine bdrewN ?_ _ | refine Below.setCell ?_ (by first | omega | (simp; done) | (simp; omega)) _ | refine Below.alloc ?_ (by first | omega | (simp; done) | (simp; omega)) _))⟩
    case round =>
      obtain ⟨k, lf, hk, rfl, rfl, hf0, hf1, HZ, hb⟩ := hrel
      by_cases hk' : k < ps.length
      · obtain ⟨c1, c2, c3, c4⟩ := (hc.out.below hb) k hk'
        have hsz : ps[k].name.size ≤ maxLen := hn.out _ (List.getElem_mem hk')
        have HD : Hid (szP lf (ps.drop k) = if lf < ps[k].name.size then -1 else szP (lf - ps[k].name.size) (ps.drop (k + 1))) := by
          unfold Hid
          rw [List.drop_eq_getElem_cons hk']
          rfl
        by_cases hs : lf < ps[k].name.size
        · have HE : Hid (szP (left - ps.length) ps = -1) := by
            have h := HD.out
            rw [if_pos hs] at h
            exact HZ.out.trans h
          clear HZ HD
          go_wp2_with (go_at_call 129; refine (szPiece_any _ _ _ _ _ _ hsz hf0 hf1).mono ?_; rintro e w1 ⟨rfl, hb1⟩; rw [if_pos hs])
          go_ret
          exact ⟨ret_int HE.out.symm, hb.trans (hb1.mono hb.size)⟩
        · have HE : Hid (szP (left - ps.length) ps = szP (lf - ps[k].name.size) (ps.drop (k + 1))) := by
            have h := HD.out
            rw [if_neg hs] at h
            exact HZ.out.trans h
          clear HZ HD
          go_wp2_with (go_at_call 129; refine (szPiece_any _ _ _ _ _ _ hsz hf0 hf1).mono ?_; rintro e w1 ⟨rfl, hb1⟩; rw [if_neg hs])
          go_roundw
          case rel => exact ⟨k + 1, _, by omega, by go_num, rfl, by omega, by omega, HE, hb.trans (hb1.mono hb.size)⟩
          case measure => simp [intOf]; omega
      · have HE : Hid (szP (left - ps.length) ps = lf) := by
          have h := HZ.out
          rw [List.drop_of_length_le (by omega)] at h
          exact h
        clear HZ
        go_wp2
        go_ret
        exact ⟨ret_int HE.out.symm, hb⟩

set_option maxHeartbeats 400000 in
theorem szPieceS_nil (a : Option Addr) (cap : Nat) (left : Int) (w : World) (h0 : 0 ≤ left) (h1 : left ≤ 1048576) :
    Calls Try.prog 56 #[.slice a 0 cap, .int .i64 left] w fun e w' => e = .returned (.int .i64 left) ∧ Below w.heap.size w w' := by
  go_enter Try.func56, Try.ntmps56
  go_wp2_with fail
  go_loopw [1, 5] (fun l i wr => i = .int .i64 0 ∧ l = .int .i64 left ∧ wr = w) (fun _ _ _ => 0)
  case atStart => exact ⟨rfl, by simp, rfl⟩
  case round =>
    obtain ⟨rfl, rfl, rfl⟩ := hrel
    go_wp2
    go_ret
    exact ⟨rfl, (by repeat (first | exact Below.refl _ _ | assumption | refine Below.drew ?_ | refine bdrewN ?_ _ | refine Below.setCell ?_ (by first | omega | (simp; done) | (simp; omega)) _ | refine Below.alloc ?_ (by first | omega | (simp; done) | (simp; omega)) _))⟩

theorem szPieceS_any (a : Option Addr) (cap : Nat) (ps : List MPiece) (left : Int) (w : World) (hp : PiecesAt w a ps) (h0 : 0 ≤ left) (h1 : left ≤ 1048576) :
    Calls Try.prog 56 #[.slice a ps.length cap, .int .i64 left] w fun e w' => e = .returned (.int .i64 (if left < ps.length then -1 else szP (left - ps.length) ps)) ∧ Below w.heap.size w w' := by
  obtain ⟨hl, hn, h⟩ := hp
  rcases h with rfl | ⟨b, off, rfl, hc⟩
  · rw [if_neg (by simp; omega)]
    have := szPieceS_nil a cap left w h0 h1
    simpa [szP] using this
  · exact szPieceS_walk b off cap ps left w hl hn hc h0 h1

/-- The cells of ends. -/
def EndCells (w : World) (b off : Nat) (es : List MEnd) : Prop :=
  ∀ i (h : i < es.length), w.cell? ⟨b, off + i * 2, none⟩ = some (.int .i64 es[i].piece) ∧ w.cell? ⟨b, off + i * 2 + 1, none⟩ = some (.int .i64 es[i].side)

theorem EndCells.below {w w' : World} {b off : Nat} {es : List MEnd} (h : EndCells w b off es) (hb : Below w.heap.size w w') : EndCells w' b off es := by
  intro i hi
  obtain ⟨h1, h2⟩ := h i hi
  exact ⟨cell_later hb h1, cell_later hb h2⟩

def EndsAt (w : World) (a : Option Addr) (es : List MEnd) : Prop :=
  es.length ≤ maxLen ∧ (es = [] ∨ ∃ b off, a = some ⟨b, off, none⟩ ∧ EndCells w b off es)

theorem EndsAt.below {w w' : World} {a : Option Addr} {es : List MEnd} (h : EndsAt w a es) (hb : Below w.heap.size w w') : EndsAt w' a es := by
  obtain ⟨h1, h3⟩ := h
  refine ⟨h1, ?_⟩
  rcases h3 with h3 | ⟨b, off, h3, h4⟩
  · exact Or.inl h3
  · exact Or.inr ⟨b, off, h3, h4.below hb⟩

/-- The cells of joints. -/
def JointCells (w : World) (b off : Nat) (js : List MJoint) : Prop :=
  ∀ i (h : i < js.length), w.cell? ⟨b, off + i * 3, none⟩ = some (.int .i64 js[i].kind) ∧ w.cell? ⟨b, off + i * 3 + 1, none⟩ = some (.string js[i].name) ∧
    ∃ ea ec, w.cell? ⟨b, off + i * 3 + 2, none⟩ = some (.slice ea js[i].ends.length ec) ∧ EndsAt w ea js[i].ends

theorem JointCells.below {w w' : World} {b off : Nat} {js : List MJoint} (h : JointCells w b off js) (hb : Below w.heap.size w w') : JointCells w' b off js := by
  intro i hi
  obtain ⟨h1, h2, ea, ec, h3, h4⟩ := h i hi
  exact ⟨cell_later hb h1, cell_later hb h2, ea, ec, cell_later hb h3, h4.below hb⟩

def JointsAt (w : World) (a : Option Addr) (js : List MJoint) : Prop :=
  js.length ≤ maxLen ∧ (∀ p, p ∈ js → p.name.size ≤ maxLen) ∧ (js = [] ∨ ∃ b off, a = some ⟨b, off, none⟩ ∧ JointCells w b off js)

theorem JointsAt.below {w w' : World} {a : Option Addr} {js : List MJoint} (h : JointsAt w a js) (hb : Below w.heap.size w w') : JointsAt w' a js := by
  obtain ⟨h1, h2, h3⟩ := h
  refine ⟨h1, h2, ?_⟩
  rcases h3 with h3 | ⟨b, off, h3, h4⟩
  · exact Or.inl h3
  · exact Or.inr ⟨b, off, h3, h4.below hb⟩

def szJ (left : Int) : List MJoint → Int
  | [] => left
  | p :: r => if left < p.name.size then -1 else if left - p.name.size < p.ends.length then -1 else szJ (left - p.name.size - p.ends.length) r

def szJ1 (left : Int) (a b : Nat) : Int := if left < a then -1 else if left - a < b then -1 else left - a - b

set_option maxHeartbeats 400000 in
theorem szJoint_any (kd : Int) (s : ByteArray) (ea : Option Addr) (el ec : Nat) (left : Int) (w : World) (hs : s.size ≤ maxLen) (he : el ≤ maxLen) (h0 : 0 ≤ left) (h1 : left ≤ 1048576) :
    Calls Try.prog 130 #[.agg #[.int .i64 kd, .string s, .slice ea el ec], .int .i64 left] w fun e w' => e = .returned (.int .i64 (szJ1 left s.size el)) ∧ Below w.heap.size w w' := by
  unfold maxLen at hs
  unfold szJ1
  by_cases hl : left < s.size
  · rw [if_pos hl]
    go_enter Try.func130, Try.ntmps130
    go_wp2
    go_ret
    exact ⟨rfl, (by repeat (first | exact Below.refl _ _ | assumption | refine Below.drew ?_ | refine bdrewN ?_ _ | refine Below.setCell ?_ (by first | omega | (simp; done) | (simp; omega)) _ | refine Below.alloc ?_ (by first | omega | (simp; done) | (simp; omega)) _))⟩
  · rw [if_neg hl]
    by_cases hl2 : left - s.size < el
    · rw [if_pos hl2]
      go_enter Try.func130, Try.ntmps130
      go_wp2_with (go_at_call 163; refine (szEndS_any _ _ _ _ _ he (by omega) (by omega)).mono ?_; rintro e w1 ⟨rfl, hb1⟩; rw [if_pos hl2])
      go_ret
      exact ⟨rfl, (show Below w.heap.size w (w.alloc _) from (by repeat (first | exact Below.refl _ _ | assumption | refine Below.drew ?_ | refine bdrewN ?_ _ | refine Below.setCell ?_ (by first | omega | (simp; done) | (simp; omega)) _ | refine Below.alloc ?_ (by first | omega | (simp; done) | (simp; omega)) _))).trans (hb1.mono (by simp))⟩
    · rw [if_neg hl2]
      go_enter Try.func130, Try.ntmps130
      go_wp2_with (go_at_call 163; refine (szEndS_any _ _ _ _ _ he (by omega) (by omega)).mono ?_; rintro e w1 ⟨rfl, hb1⟩; rw [if_neg hl2])
      go_ret
      exact ⟨rfl, (show Below w.heap.size w (w.alloc _) from (by repeat (first | exact Below.refl _ _ | assumption | refine Below.drew ?_ | refine bdrewN ?_ _ | refine Below.setCell ?_ (by first | omega | (simp; done) | (simp; omega)) _ | refine Below.alloc ?_ (by first | omega | (simp; done) | (simp; omega)) _))).trans (hb1.mono (by simp))⟩

theorem szJ1_cons (left : Int) (p : MJoint) (r : List MJoint) : szJ left (p :: r) = if szJ1 left p.name.size p.ends.length < 0 then -1 else szJ (szJ1 left p.name.size p.ends.length) r := by
  by_cases h : left < p.name.size
  · have e : szJ1 left p.name.size p.ends.length = -1 := by unfold szJ1; rw [if_pos h]
    rw [e]; simp [szJ, h]
  · by_cases h2 : left - p.name.size < p.ends.length
    · have e : szJ1 left p.name.size p.ends.length = -1 := by unfold szJ1; rw [if_neg h, if_pos h2]
      rw [e]; simp [szJ, h, h2]
    · have e : szJ1 left p.name.size p.ends.length = left - p.name.size - p.ends.length := by unfold szJ1; rw [if_neg h, if_neg h2]
      rw [e, if_neg (by omega)]
      simp [szJ, h, h2]
theorem szJ1_le (left : Int) (h0 : 0 ≤ left) (a b : Nat) : szJ1 left a b ≤ left := by
  unfold szJ1
  split
  · omega
  · split <;> omega
theorem szJ1_neg (left : Int) (a b : Nat) (h : szJ1 left a b < 0) : szJ1 left a b = -1 := by
  unfold szJ1 at h ⊢
  split
  · rfl
  · split
    · rfl
    · rename_i h1 h2
      rw [if_neg h1, if_neg h2] at h
      omega

set_option maxHeartbeats 400000 in
theorem szJointS_walk (b off cap : Nat) (ps : List MJoint) (left : Int) (w : World) (hl : ps.length ≤ maxLen) (hn : Hid (∀ p, p ∈ ps → p.name.size ≤ maxLen)) (hc : Hid (JointCells w b off ps)) (h0 : 0 ≤ left) (h1 : left ≤ 1048576) :
    Calls Try.prog 57 #[.slice (some ⟨b, off, none⟩) ps.length cap, .int .i64 left] w fun e w' => e = .returned (.int .i64 (if left < ps.length then -1 else szJ (left - ps.length) ps)) ∧ Below w.heap.size w w' := by
  unfold maxLen at hl
  by_cases hlt : left < ps.length
  · rw [if_pos hlt]
    go_enter Try.func57, Try.ntmps57
    go_wp2
    go_ret
    exact ⟨rfl, (by repeat (first | exact Below.refl _ _ | assumption | refine Below.drew ?_ | refine bdrewN ?_ _ | refine Below.setCell ?_ (by first | omega | (simp; done) | (simp; omega)) _ | refine Below.alloc ?_ (by first | omega | (simp; done) | (simp; omega)) _))⟩
  · rw [if_neg hlt]
    go_enter Try.func57, Try.ntmps57
    go_wp2_with fail
    go_loopw [1, 5] (fun l i wr => ∃ (k : Nat) (lf : Int), k ≤ ps.length ∧ i = .int .i64 k ∧ l = .int .i64 lf ∧ 0 ≤ lf ∧ lf ≤ 1048576 ∧ Hid (szJ (left - ps.length) ps = szJ lf (ps.drop k)) ∧ Below w.heap.size w wr) (fun _ i _ => ps.length - (intOf i).toNat)
    case atStart => exact ⟨0, left - ps.length, Nat.zero_le _, rfl, rfl, by omega, by omega, rfl, (by repeat (first | exact Below.refl _ _ | assumption | refine Below.drew ?_ | refine bdrewN ?_ _ | refine Below.setCell ?_ (by first | omega | (simp; done) | (simp; omega)) _ | refine Below.alloc ?_ (by first | omega | (simp; done) | (simp; omega)) _))⟩
    case round =>
      obtain ⟨k, lf, hk, rfl, rfl, hf0, hf1, HZ, hb⟩ := hrel
      by_cases hk' : k < ps.length
      · obtain ⟨c1, c2, ea, ec, c3, c4⟩ := (hc.out.below hb) k hk'
        have hel := c4.1
        clear c4
        have hsz : ps[k].name.size ≤ maxLen := hn.out _ (List.getElem_mem hk')
        have HD : Hid (szJ lf (ps.drop k) = if szJ1 lf ps[k].name.size ps[k].ends.length < 0 then -1 else szJ (szJ1 lf ps[k].name.size ps[k].ends.length) (ps.drop (k + 1))) := by
          unfold Hid
          rw [List.drop_eq_getElem_cons hk']
          exact szJ1_cons lf _ _
        have hle := szJ1_le lf hf0 ps[k].name.size ps[k].ends.length
        have HNEG : Hid (szJ1 lf ps[k].name.size ps[k].ends.length < 0 → szJ1 lf ps[k].name.size ps[k].ends.length = -1) := szJ1_neg lf _ _
        by_cases hs : szJ1 lf ps[k].name.size ps[k].ends.length < 0
        · have HE : Hid (szJ (left - ps.length) ps = -1) := by
            have h := HD.out
            rw [if_pos hs] at h
            exact HZ.out.trans h
          clear HZ HD
          go_wp2_with (go_at_call 130; refine (szJoint_any _ _ _ _ _ _ _ hsz hel hf0 hf1).mono ?_; rintro e w1 ⟨rfl, hb1⟩; rw [HNEG.out hs])
          go_ret
          exact ⟨ret_int HE.out.symm, hb.trans (hb1.mono hb.size)⟩
        · have HE : Hid (szJ (left - ps.length) ps = szJ (szJ1 lf ps[k].name.size ps[k].ends.length) (ps.drop (k + 1))) := by
            have h := HD.out
            rw [if_neg hs] at h
            exact HZ.out.trans h
          clear HZ HD
          go_wp2_with (go_at_call 130; refine (szJoint_any _ _ _ _ _ _ _ hsz hel hf0 hf1).mono ?_; rintro e w1 ⟨rfl, hb1⟩)
          go_roundw
          case rel => exact ⟨k + 1, _, by omega, by go_num, rfl, by omega, by omega, HE, hb.trans (hb1.mono hb.size)⟩
          case measure => simp [intOf]; omega
      · have HE : Hid (szJ (left - ps.length) ps = lf) := by
          have h := HZ.out
          rw [List.drop_of_length_le (by omega)] at h
          exact h
        clear HZ
        go_wp2
        go_ret
        exact ⟨ret_int HE.out.symm, hb⟩

set_option maxHeartbeats 400000 in
theorem szJointS_nil (a : Option Addr) (cap : Nat) (left : Int) (w : World) (h0 : 0 ≤ left) (h1 : left ≤ 1048576) :
    Calls Try.prog 57 #[.slice a 0 cap, .int .i64 left] w fun e w' => e = .returned (.int .i64 left) ∧ Below w.heap.size w w' := by
  go_enter Try.func57, Try.ntmps57
  go_wp2_with fail
  go_loopw [1, 5] (fun l i wr => i = .int .i64 0 ∧ l = .int .i64 left ∧ wr = w) (fun _ _ _ => 0)
  case atStart => exact ⟨rfl, by simp, rfl⟩
  case round =>
    obtain ⟨rfl, rfl, rfl⟩ := hrel
    go_wp2
    go_ret
    exact ⟨rfl, (by repeat (first | exact Below.refl _ _ | assumption | refine Below.drew ?_ | refine bdrewN ?_ _ | refine Below.setCell ?_ (by first | omega | (simp; done) | (simp; omega)) _ | refine Below.alloc ?_ (by first | omega | (simp; done) | (simp; omega)) _))⟩

theorem szJointS_any (a : Option Addr) (cap : Nat) (ps : List MJoint) (left : Int) (w : World) (hp : JointsAt w a ps) (h0 : 0 ≤ left) (h1 : left ≤ 1048576) :
    Calls Try.prog 57 #[.slice a ps.length cap, .int .i64 left] w fun e w' => e = .returned (.int .i64 (if left < ps.length then -1 else szJ (left - ps.length) ps)) ∧ Below w.heap.size w w' := by
  obtain ⟨hl, hn, h⟩ := hp
  rcases h with rfl | ⟨b, off, rfl, hc⟩
  · rw [if_neg (by simp; omega)]
    have := szJointS_nil a cap left w h0 h1
    simpa [szJ] using this
  · exact szJointS_walk b off cap ps left w hl hn hc h0 h1

end Go.Proofs.Ytmkdgnmmebldgaa

namespace Go.Proofs.Ytmkdgnmmebldgaa
open Go.RowKit Go.Deep

theorem Try.infoP : (Try.prog.info? 55).map (fun i => (i.zero, i.size, i.bytes)) = some (some (.agg #[.string ⟨#[]⟩, .int .i64 0, .int .i64 0, .int .i64 0]), 4, 40) := by kernel_rfl
theorem Try.infoE : (Try.prog.info? 139).map (fun i => (i.zero, i.size, i.bytes)) = some (some (.agg #[.int .i64 0, .int .i64 0]), 2, 16) := by kernel_rfl
theorem Try.infoJ : (Try.prog.info? 182).map (fun i => (i.zero, i.size, i.bytes)) = some (some (.agg #[.int .i64 0, .string ⟨#[]⟩, .slice none 0 0]), 3, 48) := by kernel_rfl

theorem bcell {W w1 : World} (hb : Below W.heap.size W w1) : (∀ b o, b < W.heap.size → w1.cell? ⟨b, o, none⟩ = W.cell? ⟨b, o, none⟩) ∧ (∀ b o, b < W.heap.size → w1.frozen? ⟨b, o, none⟩ = W.frozen? ⟨b, o, none⟩) :=
  ⟨fun b o h => hb.cell (p := ⟨b, o, none⟩) h, fun b o h => hb.frozen (p := ⟨b, o, none⟩) h⟩

theorem hidP {p : Prop} (h : p) : Hid p := h

theorem EndCells.setOther {w : World} {g off : Nat} {es : List MEnd} (h : EndCells w g off es) {b : Nat} (hb : b ≠ g) (o : Nat) (v : Value) : EndCells (w.setCell ⟨b, o, none⟩ v) g off es := by
  intro i hi
  obtain ⟨h1, h2⟩ := h i hi
  have e : (w.setCell ⟨b, o, none⟩ v).heap[g]? = w.heap[g]? := Below.heap_setCell _ _ _ _ (fun h => hb h.symm)
  exact ⟨(World.cell?_of_block (w := w) e).trans h1, (World.cell?_of_block (w := w) e).trans h2⟩

/-- A new row of structs. -/
theorem make_structs {P : Program} (w : World) (t e : TypeId) (z : Value) (size bytes : Nat) (ht : P.underlying t = some (.slice e)) (hinfo : (P.info? e).map (fun i => (i.zero, i.size, i.bytes)) = some (some z, size, bytes))
    (hb : bytes ≤ 100) (n : Nat) (hn : n ≤ 1048576) :
    ∃ w', (Instr.makeSlice t (.int .i64 (n : Int)) (.int .i64 (n : Int))).run P w = .ok (.slice (some ⟨w.heap.size, 0, none⟩) n n) w' ∧
      (∃ f, w'.rowIs w.heap.size e (n * size) f) ∧ Below w.heap.size w w' ∧ w'.heap.size = w.heap.size + 1 := by
  obtain ⟨i, hi, hi2⟩ := Option.map_eq_some_iff.1 hinfo
  simp only [Prod.mk.injEq] at hi2
  obtain ⟨hz, hs, hby⟩ := hi2
  have hlt : i.bytes * n ≤ 100 * 1048576 := Nat.mul_le_mul (by omega) hn
  have h2 : (i.bytes : Int) * (n : Int) = ((i.bytes * n : Nat) : Int) := by simp
  have h3 : (i.bytes : Int) * (n : Int) ≤ 281474976710656 := by rw [h2]; exact Int.le_trans (Int.ofNat_le.2 hlt) (by decide)
  have h := run_make (P := P) w t e i z ht hi hz .i64 .i64 (n : Int) (n : Int) (by omega) (by omega) h3 (by omega)
  refine ⟨_, h, ⟨fun j => (madeCells z.cells (n * size)).getD j (.bool false), ?_⟩, (Below.refl _ _).alloc (Nat.le_refl _) _, by simp⟩
  have hr := World.rowIs_alloc w (madeCells z.cells (n * size)) e (fun j => (madeCells z.cells (n * size)).getD j (.bool false)) (by intro j hj; simp only [Array.getD, hj, dite_true]; exact Array.getElem?_eq_getElem hj)
  rw [size_madeCells] at hr
  simp only [Int.toNat_natCast, hs]
  exact hr

/-- The first k pieces stand in a row. -/
def PieceRow (ps : List MPiece) (k : Nat) (f : Nat → Value) : Prop :=
  ∀ i (h : i < ps.length), i < k → f (i * 4) = .string ps[i].name ∧ f (i * 4 + 1) = .int .i64 ps[i].len ∧ f (i * 4 + 2) = .int .i64 ps[i].speed ∧ f (i * 4 + 3) = .int .i64 ps[i].brake

theorem PieceRow.next {ps : List MPiece} {k : Nat} {f : Nat → Value} (h : PieceRow ps k f) (hk : k < ps.length) :
    PieceRow ps (k + 1) (fun j => if j = k * 4 + 3 then .int .i64 ps[k].brake else if j = k * 4 + 2 then .int .i64 ps[k].speed else if j = k * 4 + 1 then .int .i64 ps[k].len else if j = k * 4 then .string ps[k].name else f j) := by
  intro i hi hik
  by_cases e : i = k
  · subst e
    simp
  · have h1 := h i hi (by omega)
    refine ⟨?_, ?_, ?_, ?_⟩
    · dsimp only; rw [if_neg (by omega), if_neg (by omega), if_neg (by omega), if_neg (by omega)]; exact h1.1
    · dsimp only; rw [if_neg (by omega), if_neg (by omega), if_neg (by omega), if_neg (by omega)]; exact h1.2.1
    · dsimp only; rw [if_neg (by omega), if_neg (by omega), if_neg (by omega), if_neg (by omega)]; exact h1.2.2.1
    · dsimp only; rw [if_neg (by omega), if_neg (by omega), if_neg (by omega), if_neg (by omega)]; exact h1.2.2.2

theorem pieceCells_of_row {w : World} {g : Nat} {t : TypeId} {ps : List MPiece} {f : Nat → Value} (h : w.rowIs g t (ps.length * 4) f) (hr : PieceRow ps ps.length f) : PieceCells w g 0 ps := by
  intro i hi
  obtain ⟨h1, h2, h3, h4⟩ := hr i hi hi
  simp only [Nat.zero_add]
  exact ⟨by rw [h.cell (by omega), h1], by rw [h.cell (by omega), h2], by rw [h.cell (by omega), h3], by rw [h.cell (by omega), h4]⟩

set_option maxHeartbeats 1000000 in
theorem toPieceS_walk (a : Option Addr) (cap : Nat) (ps : List MPiece) (w : World) (hp : Hid (PiecesAt w a ps)) (hl : ps.length ≤ 1048576) :
    Calls Try.prog 61 #[.slice a ps.length cap] w fun e w' => ∃ g, e = .returned (.slice (some ⟨g, 0, none⟩) ps.length ps.length) ∧ Hid (PieceCells w' g 0 ps) ∧ Below w.heap.size w w' ∧ w.heap.size ≤ g := by
  obtain ⟨w1, hm, hrow, hb1, hz1⟩ := make_structs (P := Try.prog) w 23 55 _ _ _ Try.underlying23 Try.infoP (by omega) ps.length hl
  have HROW : Hid (∃ f, w1.rowIs w.heap.size 55 (ps.length * 4) f) := hrow
  clear hrow
  go_enter Try.func61, Try.ntmps61
  go_wp2_with fail
  go_loopw [4] (fun i wr => ∃ (k : Nat) (f : Nat → Value), k ≤ ps.length ∧ i = .int .i64 k ∧ Hid (wr.rowIs w.heap.size 55 (ps.length * 4) f) ∧ Hid (PieceRow ps k f) ∧ Below w.heap.size w wr ∧ w.heap.size < wr.heap.size) (fun i _ => ps.length - (intOf i).toNat)
  case atStart =>
    obtain ⟨f, hf⟩ := HROW.out
    exact ⟨0, f, Nat.zero_le _, rfl, hf, (fun i _ h => absurd h (Nat.not_lt_zero i)), hb1, by omega⟩
  case round =>
    obtain ⟨k, f, hk, rfl, hrow, hpr, hb, hz⟩ := hrel
    clear hm HROW hb1 hz1
    by_cases hk' : k < ps.length
    · obtain ⟨b, off, rfl, hpc⟩ := hp.out.2.2.resolve_left (fun h => by rw [h] at hk'; exact absurd hk' (Nat.not_lt_zero _))
      obtain ⟨c1, c2, c3, c4⟩ := (hpc.below hb) k hk'
      clear hpc
      have HNX := hpr.out.next hk'
      have HNX' : Hid (PieceRow ps (k + 1) _) := HNX
      clear HNX hpr
      go_wp2_with fail
      refine (toPiece_any _ _ _ _ _).mono ?_
      rintro e w2 ⟨rfl, hb2⟩
      have hr2 : w2.rowIs w.heap.size 55 (ps.length * 4) f := hrow.out.of_block (hb2.block _ hz)
      have d0 := hr2.cell (i := k * 4) (by omega)
      have d1 := hr2.cell (i := k * 4 + 1) (by omega)
      have d2 := hr2.cell (i := k * 4 + 2) (by omega)
      have d3 := hr2.cell (i := k * 4 + 3) (by omega)
      have e0 := hr2.frozen (k * 4)
      have e1 := hr2.frozen (k * 4 + 1)
      have e2 := hr2.frozen (k * 4 + 2)
      have e3 := hr2.frozen (k * 4 + 3)
      have HR2 : Hid (w2.rowIs w.heap.size 55 (ps.length * 4) f) := hr2
      clear hr2 hrow
      have hb3 : Below w.heap.size w w2 := hb.trans (hb2.mono hb.size)
      have hz2 : w.heap.size < w2.heap.size := Nat.lt_of_lt_of_le hz hb2.size
      clear hb hb2 hz c1 c2 c3 c4
      go_wp2_with fail
      go_roundw
      case rel =>
        refine ⟨k + 1, _, by omega, by go_num, ((((HR2.out.set (k * 4) _).set (k * 4 + 1) _).set (k * 4 + 2) _).set (k * 4 + 3) _), HNX', (by repeat (first | exact Below.refl _ _ | assumption | refine Below.drew ?_ | refine bdrewN ?_ _ | refine Below.setCell ?_ (by first | omega | (simp; done) | (simp; omega)) _ | refine Below.alloc ?_ (by first | omega | (simp; done) | (simp; omega)) _)), by simpa using hz2⟩
      case measure => simp [intOf]; omega
    · have hkk : k = ps.length := by omega
      have HC : Hid (PieceCells wr w.heap.size 0 ps) := pieceCells_of_row hrow.out (hkk ▸ hpr.out)
      clear hrow hpr hkk
      go_wp2
      go_ret
      exact ⟨_, rfl, HC, hb, Nat.le_refl _⟩

theorem PieceCells.setOther {w : World} {g off : Nat} {es : List MPiece} (h : PieceCells w g off es) {b : Nat} (hb : b ≠ g) (o : Nat) (v : Value) : PieceCells (w.setCell ⟨b, o, none⟩ v) g off es := by
  intro i hi
  obtain ⟨h1, h2, h3, h4⟩ := h i hi
  have e : (w.setCell ⟨b, o, none⟩ v).heap[g]? = w.heap[g]? := Below.heap_setCell _ _ _ _ (fun h => hb h.symm)
  exact ⟨(World.cell?_of_block (w := w) e).trans h1, (World.cell?_of_block (w := w) e).trans h2, (World.cell?_of_block (w := w) e).trans h3, (World.cell?_of_block (w := w) e).trans h4⟩

def EndRow (ps : List MEnd) (k : Nat) (f : Nat → Value) : Prop :=
  ∀ i (h : i < ps.length), i < k → f (i * 2) = .int .i64 ps[i].piece ∧ f (i * 2 + 1) = .int .i64 ps[i].side

theorem EndRow.next {ps : List MEnd} {k : Nat} {f : Nat → Value} (h : EndRow ps k f) (hk : k < ps.length) :
    EndRow ps (k + 1) (fun j => if j = k * 2 + 1 then .int .i64 ps[k].side else if j = k * 2 then .int .i64 ps[k].piece else f j) := by
  intro i hi hik
  by_cases e : i = k
  · subst e
    simp
  · have h1 := h i hi (by omega)
    refine ⟨?_, ?_⟩
    · dsimp only; rw [if_neg (by omega), if_neg (by omega)]; exact h1.1
    · dsimp only; rw [if_neg (by omega), if_neg (by omega)]; exact h1.2

theorem endCells_of_row {w : World} {g : Nat} {t : TypeId} {ps : List MEnd} {f : Nat → Value} (h : w.rowIs g t (ps.length * 2) f) (hr : EndRow ps ps.length f) : EndCells w g 0 ps := by
  intro i hi
  obtain ⟨h1, h2⟩ := hr i hi hi
  simp only [Nat.zero_add]
  exact ⟨by rw [h.cell (by omega), h1], by rw [h.cell (by omega), h2]⟩

set_option maxHeartbeats 1000000 in
theorem toEndS_walk (a : Option Addr) (cap : Nat) (ps : List MEnd) (w : World) (hp : Hid (EndsAt w a ps)) (hl : ps.length ≤ 1048576) :
    Calls Try.prog 164 #[.slice a ps.length cap] w fun e w' => ∃ g, e = .returned (.slice (some ⟨g, 0, none⟩) ps.length ps.length) ∧ Hid (EndCells w' g 0 ps) ∧ Below w.heap.size w w' ∧ w.heap.size ≤ g := by
  obtain ⟨w1, hm, hrow, hb1, hz1⟩ := make_structs (P := Try.prog) w 101 139 _ _ _ Try.underlying101 Try.infoE (by omega) ps.length hl
  have HROW : Hid (∃ f, w1.rowIs w.heap.size 139 (ps.length * 2) f) := hrow
  clear hrow
  go_enter Try.func164, Try.ntmps164
  go_wp2_with fail
  go_loopw [4] (fun i wr => ∃ (k : Nat) (f : Nat → Value), k ≤ ps.length ∧ i = .int .i64 k ∧ Hid (wr.rowIs w.heap.size 139 (ps.length * 2) f) ∧ Hid (EndRow ps k f) ∧ Below w.heap.size w wr ∧ w.heap.size < wr.heap.size) (fun i _ => ps.length - (intOf i).toNat)
  case atStart =>
    obtain ⟨f, hf⟩ := HROW.out
    exact ⟨0, f, Nat.zero_le _, rfl, hf, (fun i _ h => absurd h (Nat.not_lt_zero i)), hb1, by omega⟩
  case round =>
    obtain ⟨k, f, hk, rfl, hrow, hpr, hb, hz⟩ := hrel
    clear hm HROW hb1 hz1
    by_cases hk' : k < ps.length
    · obtain ⟨b, off, rfl, hpc⟩ := hp.out.2.resolve_left (fun h => by rw [h] at hk'; exact absurd hk' (Nat.not_lt_zero _))
      obtain ⟨c1, c2⟩ := (hpc.below hb) k hk'
      clear hpc
      have HNX := hpr.out.next hk'
      have HNX' : Hid (EndRow ps (k + 1) _) := HNX
      clear HNX hpr
      go_wp2_with fail
      refine (toEnd_any _ _ _).mono ?_
      rintro e w2 ⟨rfl, hb2⟩
      have hr2 : w2.rowIs w.heap.size 139 (ps.length * 2) f := hrow.out.of_block (hb2.block _ hz)
      have d0 := hr2.cell (i := k * 2) (by omega)
      have d1 := hr2.cell (i := k * 2 + 1) (by omega)
      have e0 := hr2.frozen (k * 2)
      have e1 := hr2.frozen (k * 2 + 1)
      have HR2 : Hid (w2.rowIs w.heap.size 139 (ps.length * 2) f) := hr2
      clear hr2 hrow
      have hb3 : Below w.heap.size w w2 := hb.trans (hb2.mono hb.size)
      have hz2 : w.heap.size < w2.heap.size := Nat.lt_of_lt_of_le hz hb2.size
      clear hb hb2 hz c1 c2
      go_wp2_with fail
      go_roundw
      case rel =>
        refine ⟨k + 1, _, by omega, by go_num, ((HR2.out.set (k * 2) _).set (k * 2 + 1) _), HNX', (by repeat (first | exact Below.refl _ _ | assumption | refine Below.drew ?_ | refine bdrewN ?_ _ | refine Below.setCell ?_ (by first | omega | (simp; done) | (simp; omega)) _ | refine Below.alloc ?_ (by first | omega | (simp; done) | (simp; omega)) _)), by simpa using hz2⟩
      case measure => simp [intOf]; omega
    · have hkk : k = ps.length := by omega
      have HC : Hid (EndCells wr w.heap.size 0 ps) := endCells_of_row hrow.out (hkk ▸ hpr.out)
      clear hrow hpr hkk
      go_wp2
      go_ret
      exact ⟨_, rfl, HC, hb, Nat.le_refl _⟩

set_option maxHeartbeats 400000 in
theorem toJoint_any (kd : Int) (s : ByteArray) (ea : Option Addr) (ec : Nat) (es : List MEnd) (w : World) (hp : Hid (EndsAt w ea es)) (hl : es.length ≤ 1048576) :
    Calls Try.prog 133 #[.agg #[.int .i64 kd, .string s, .slice ea es.length ec]] w fun e w' => ∃ g, e = .returned (.agg #[.int .i64 kd, .string s, .slice (some ⟨g, 0, none⟩) es.length es.length]) ∧ Hid (EndCells w' g 0 es) ∧ Below w.heap.size w w' ∧ w.heap.size ≤ g := by
  go_enter Try.func133, Try.ntmps133
  go_wp2_with fail
  refine (toEndS_walk _ _ _ _ (hp.out.below (by repeat (first | exact Below.refl _ _ | assumption | refine Below.drew ?_ | refine bdrewN ?_ _ | refine Below.setCell ?_ (by first | omega | (simp; done) | (simp; omega)) _ | refine Below.alloc ?_ (by first | omega | (simp; done) | (simp; omega)) _))) hl).mono ?_
  rintro e w1 ⟨g, rfl, hq, hb, hg⟩
  obtain ⟨hc, hf⟩ := bcell hb
  have hbw : Below w.heap.size w w1 := Below.trans (by repeat (first | exact Below.refl _ _ | assumption | refine Below.drew ?_ | refine bdrewN ?_ _ | refine Below.setCell ?_ (by first | omega | (simp; done) | (simp; omega)) _ | refine Below.alloc ?_ (by first | omega | (simp; done) | (simp; omega)) _)) (hb.mono (by simp; omega))
  have hgw : w.heap.size + 3 ≤ g := by simpa using hg
  have hz : w.heap.size + 3 ≤ w1.heap.size := by have := hb.size; simpa using this
  clear hb hg
  go_wp2_with fail
  refine bodyPost_ret (v := .agg #[.int .i64 kd, .string s, .slice (some ⟨g, 0, none⟩) es.length es.length]) (by simp [results, Try.results133, go_sem, hc]) rfl ⟨g, rfl, ?_, ?_, by omega⟩
  · exact (((hq.out.setOther (by omega) _ _).setOther (by omega) _ _).setOther (by omega) _ _).setOther (by omega) _ _
  · exact (by repeat (first | exact Below.refl _ _ | assumption | refine Below.drew ?_ | refine bdrewN ?_ _ | refine Below.setCell ?_ (by first | omega | (simp; done) | (simp; omega)) _ | refine Below.alloc ?_ (by first | omega | (simp; done) | (simp; omega)) _))

/-- The first k joints stand in a row; their ends each in a row of their own behind it. -/
def JointRow (w : World) (B : Nat) (js : List MJoint) (k : Nat) (f : Nat → Value) : Prop :=
  ∀ i (h : i < js.length), i < k → f (i * 3) = .int .i64 js[i].kind ∧ f (i * 3 + 1) = .string js[i].name ∧
    ∃ g, f (i * 3 + 2) = .slice (some ⟨g, 0, none⟩) js[i].ends.length js[i].ends.length ∧ B < g ∧ EndCells w g 0 js[i].ends

theorem JointRow.below {w w' : World} {B : Nat} {js : List MJoint} {k : Nat} {f : Nat → Value} (h : JointRow w B js k f) (hb : Below w.heap.size w w') : JointRow w' B js k f := by
  intro i hi hk
  obtain ⟨h1, h2, g, h3, h4, h5⟩ := h i hi hk
  exact ⟨h1, h2, g, h3, h4, h5.below hb⟩

theorem JointRow.setCell {w : World} {B : Nat} {js : List MJoint} {k : Nat} {f : Nat → Value} (h : JointRow w B js k f) (o : Nat) (v : Value) : JointRow (w.setCell ⟨B, o, none⟩ v) B js k f := by
  intro i hi hk
  obtain ⟨h1, h2, g, h3, h4, h5⟩ := h i hi hk
  exact ⟨h1, h2, g, h3, h4, h5.setOther (by omega) o v⟩

theorem JointRow.next {w : World} {B : Nat} {js : List MJoint} {k : Nat} {f : Nat → Value} (h : JointRow w B js k f) (hk : k < js.length) (g : Nat) (hg : B < g) (he : EndCells w g 0 js[k].ends) :
    JointRow w B js (k + 1) (fun j => if j = k * 3 + 2 then .slice (some ⟨g, 0, none⟩) js[k].ends.length js[k].ends.length else if j = k * 3 + 1 then .string js[k].name else if j = k * 3 then .int .i64 js[k].kind else f j) := by
  intro i hi hik
  by_cases e : i = k
  · subst e
    refine ⟨by simp, by simp, g, by simp, hg, he⟩
  · obtain ⟨h1, h2, g', h3, h4, h5⟩ := h i hi (by omega)
    refine ⟨?_, ?_, g', ?_, h4, h5⟩
    · dsimp only; rw [if_neg (by omega), if_neg (by omega), if_neg (by omega)]; exact h1
    · dsimp only; rw [if_neg (by omega), if_neg (by omega), if_neg (by omega)]; exact h2
    · dsimp only; rw [if_neg (by omega), if_neg (by omega), if_neg (by omega)]; exact h3

/-- The cells of joints whose ends lie from block B on. -/
def JointCellsFrom (B : Nat) (w : World) (b off : Nat) (js : List MJoint) : Prop :=
  ∀ i (h : i < js.length), w.cell? ⟨b, off + i * 3, none⟩ = some (.int .i64 js[i].kind) ∧ w.cell? ⟨b, off + i * 3 + 1, none⟩ = some (.string js[i].name) ∧
    ∃ g ec, w.cell? ⟨b, off + i * 3 + 2, none⟩ = some (.slice (some ⟨g, 0, none⟩) js[i].ends.length ec) ∧ js[i].ends.length ≤ maxLen ∧ B ≤ g ∧ EndCells w g 0 js[i].ends

theorem JointCellsFrom.cells {B : Nat} {w : World} {b off : Nat} {js : List MJoint} (h : JointCellsFrom B w b off js) : JointCells w b off js := by
  intro i hi
  obtain ⟨h1, h2, g, ec, h3, h4, _, h5⟩ := h i hi
  exact ⟨h1, h2, _, ec, h3, h4, Or.inr ⟨g, 0, rfl, h5⟩⟩

theorem JointCellsFrom.setOther {B : Nat} {w : World} {g off : Nat} {es : List MJoint} (h : JointCellsFrom B w g off es) {b : Nat} (hb : b ≠ g) (hB : b < B) (o : Nat) (v : Value) : JointCellsFrom B (w.setCell ⟨b, o, none⟩ v) g off es := by
  intro i hi
  obtain ⟨h1, h2, g', ec, h3, h4, h5, h6⟩ := h i hi
  have e : (w.setCell ⟨b, o, none⟩ v).heap[g]? = w.heap[g]? := Below.heap_setCell _ _ _ _ (fun h => hb h.symm)
  exact ⟨(World.cell?_of_block (w := w) e).trans h1, (World.cell?_of_block (w := w) e).trans h2, g', ec, (World.cell?_of_block (w := w) e).trans h3, h4, h5, h6.setOther (by omega) o v⟩

theorem jointCells_of_row {w : World} {g : Nat} {t : TypeId} {js : List MJoint} {f : Nat → Value} (h : w.rowIs g t (js.length * 3) f) (hr : JointRow w g js js.length f) (hl : ∀ j, j ∈ js → j.ends.length ≤ 1048576) : JointCellsFrom g w g 0 js := by
  intro i hi
  obtain ⟨h1, h2, g', h3, h4, h5⟩ := hr i hi hi
  simp only [Nat.zero_add]
  refine ⟨by rw [h.cell (by omega), h1], by rw [h.cell (by omega), h2], g', _, by rw [h.cell (by omega), h3], ?_, by omega, h5⟩
  have := hl _ (List.getElem_mem hi)
  unfold maxLen
  omega

set_option maxHeartbeats 1000000 in
theorem toJointS_walk (a : Option Addr) (cap : Nat) (ps : List MJoint) (w : World) (hp : Hid (JointsAt w a ps)) (hl : ps.length ≤ 1048576) (hel : Hid (∀ j, j ∈ ps → j.ends.length ≤ 1048576)) :
    Calls Try.prog 62 #[.slice a ps.length cap] w fun e w' => ∃ g, e = .returned (.slice (some ⟨g, 0, none⟩) ps.length ps.length) ∧ Hid (JointCellsFrom g w' g 0 ps) ∧ Below w.heap.size w w' ∧ w.heap.size ≤ g := by
  obtain ⟨w1, hm, hrow, hb1, hz1⟩ := make_structs (P := Try.prog) w 24 182 _ _ _ Try.underlying24 Try.infoJ (by omega) ps.length hl
  have HROW : Hid (∃ f, w1.rowIs w.heap.size 182 (ps.length * 3) f) := hrow
  clear hrow
  go_enter Try.func62, Try.ntmps62
  go_wp2_with fail
  go_loopw [4] (fun i wr => ∃ (k : Nat) (f : Nat → Value), k ≤ ps.length ∧ i = .int .i64 k ∧ Hid (wr.rowIs w.heap.size 182 (ps.length * 3) f) ∧ Hid (JointRow wr w.heap.size ps k f) ∧ Below w.heap.size w wr ∧ w.heap.size < wr.heap.size) (fun i _ => ps.length - (intOf i).toNat)
  case atStart =>
    obtain ⟨f, hf⟩ := HROW.out
    exact ⟨0, f, Nat.zero_le _, rfl, hf, (fun i _ h => absurd h (Nat.not_lt_zero i)), hb1, by omega⟩
  case round =>
    obtain ⟨k, f, hk, rfl, hrow, hpr, hb, hz⟩ := hrel
    clear hm HROW hb1 hz1
    by_cases hk' : k < ps.length
    · obtain ⟨b, off, rfl, hpc⟩ := hp.out.2.2.resolve_left (fun h => by rw [h] at hk'; exact absurd hk' (Nat.not_lt_zero _))
      obtain ⟨c1, c2, ea, ec, c3, c4⟩ := (hpc.below hb) k hk'
      clear hpc
      have C4 : Hid (EndsAt wr ea ps[k].ends) := c4
      have hke : ps[k].ends.length ≤ 1048576 := hel.out _ (List.getElem_mem hk')
      clear c4
      go_wp2_with fail
      refine (toJoint_any _ _ _ _ _ _ C4 hke).mono ?_
      rintro e w2 ⟨g, rfl, hge, hb2, hgg⟩
      have hr2 : w2.rowIs w.heap.size 182 (ps.length * 3) f := hrow.out.of_block (hb2.block _ hz)
      have HNX := (hpr.out.below hb2).next hk' g (by omega) hge.out
      have HNX' : Hid (JointRow w2 w.heap.size ps (k + 1) _) := HNX
      have d0 := hr2.cell (i := k * 3) (by omega)
      have d1 := hr2.cell (i := k * 3 + 1) (by omega)
      have d2 := hr2.cell (i := k * 3 + 2) (by omega)
      have e0 := hr2.frozen (k * 3)
      have e1 := hr2.frozen (k * 3 + 1)
      have e2 := hr2.frozen (k * 3 + 2)
      have HR2 : Hid (w2.rowIs w.heap.size 182 (ps.length * 3) f) := hr2
      clear HNX hpr hr2 hrow
      have hb3 : Below w.heap.size w w2 := hb.trans (hb2.mono hb.size)
      have hz2 : w.heap.size < w2.heap.size := Nat.lt_of_lt_of_le hz hb2.size
      clear hb hb2 hz hge hgg C4 c1 c2 c3
      go_wp2_with fail
      go_roundw
      case rel =>
        refine ⟨k + 1, _, by omega, by go_num, (((HR2.out.set (k * 3) _).set (k * 3 + 1) _).set (k * 3 + 2) _), ((HNX'.out.setCell _ _).setCell _ _).setCell _ _, (by repeat (first | exact Below.refl _ _ | assumption | refine Below.drew ?_ | refine bdrewN ?_ _ | refine Below.setCell ?_ (by first | omega | (simp; done) | (simp; omega)) _ | refine Below.alloc ?_ (by first | omega | (simp; done) | (simp; omega)) _)), by simpa using hz2⟩
      case measure => simp [intOf]; omega
    · have hkk : k = ps.length := by omega
      have HC : Hid (JointCellsFrom w.heap.size wr w.heap.size 0 ps) := jointCells_of_row hrow.out (hkk ▸ hpr.out) hel.out
      clear hrow hpr hkk
      go_wp2
      go_ret
      exact ⟨_, rfl, HC, hb, Nat.le_refl _⟩

set_option maxHeartbeats 400000 in
theorem toNet_any (pa ja : Option Addr) (pc jc : Nat) (ps : List MPiece) (js : List MJoint) (w : World) (hp : Hid (PiecesAt w pa ps)) (hj : Hid (JointsAt w ja js)) (hpl : ps.length ≤ 1048576) (hjl : js.length ≤ 1048576) (hel : Hid (∀ j, j ∈ js → j.ends.length ≤ 1048576)) :
    Calls Try.prog 22 #[.agg #[.slice pa ps.length pc, .slice ja js.length jc]] w fun e w' => ∃ g h, e = .returned (.agg #[.slice (some ⟨g, 0, none⟩) ps.length ps.length, .slice (some ⟨h, 0, none⟩) js.length js.length]) ∧ Hid (PiecesAt w' (some ⟨g, 0, none⟩) ps) ∧ Hid (JointsAt w' (some ⟨h, 0, none⟩) js) ∧ Below w.heap.size w w' := by
  go_enter Try.func22, Try.ntmps22
  go_wp2_with fail
  refine (toPieceS_walk _ _ _ _ (hp.out.below (by repeat (first | exact Below.refl _ _ | assumption | refine Below.drew ?_ | refine bdrewN ?_ _ | refine Below.setCell ?_ (by first | omega | (simp; done) | (simp; omega)) _ | refine Below.alloc ?_ (by first | omega | (simp; done) | (simp; omega)) _))) hpl).mono ?_
  rintro e w1 ⟨g, rfl, hq, hb, hg⟩
  obtain ⟨hc, hf⟩ := bcell hb
  have hbw : Below w.heap.size w w1 := Below.trans (by repeat (first | exact Below.refl _ _ | assumption | refine Below.drew ?_ | refine bdrewN ?_ _ | refine Below.setCell ?_ (by first | omega | (simp; done) | (simp; omega)) _ | refine Below.alloc ?_ (by first | omega | (simp; done) | (simp; omega)) _)) (hb.mono (by simp; omega))
  have hz : w.heap.size + 3 ≤ w1.heap.size := by have := hb.size; simpa using this
  have hgw : w.heap.size + 3 ≤ g := by simpa using hg
  clear hb hg
  go_wp2_with fail
  refine (toJointS_walk _ _ _ _ (hj.out.below (by repeat (first | exact Below.refl _ _ | assumption | refine Below.drew ?_ | refine bdrewN ?_ _ | refine Below.setCell ?_ (by first | omega | (simp; done) | (simp; omega)) _ | refine Below.alloc ?_ (by first | omega | (simp; done) | (simp; omega)) _))) hjl hel).mono ?_
  rintro e w2 ⟨gj, rfl, hq2, hb, hg⟩
  have hz0 : w.heap.size + 1 + 1 < w1.heap.size := by omega
  have hz1 : w.heap.size + 1 < w1.heap.size := by omega
  obtain ⟨hc2, hf2⟩ := bcell hb
  have hbw2 : Below w.heap.size w w2 := Below.trans (by repeat (first | exact Below.refl _ _ | assumption | refine Below.drew ?_ | refine bdrewN ?_ _ | refine Below.setCell ?_ (by first | omega | (simp; done) | (simp; omega)) _ | refine Below.alloc ?_ (by first | omega | (simp; done) | (simp; omega)) _)) (hb.mono (by simp; omega))
  have hz2 : w.heap.size + 3 ≤ w2.heap.size := by have := hb.size; simp at this; omega
  have hhw : w.heap.size + 3 ≤ gj := by simp at hg; omega
  have HP2 : Hid (PieceCells w2 g 0 ps) := (hq.out.setOther (by omega) _ _).below hb
  clear hb hg hq
  go_wp2_with fail
  refine bodyPost_ret (v := .agg #[.slice (some ⟨g, 0, none⟩) ps.length ps.length, .slice (some ⟨gj, 0, none⟩) js.length js.length]) (by simp [results, Try.results22, go_sem, hc, hc2, hz1]) rfl ⟨g, gj, rfl, ?_, ?_, (by repeat (first | exact Below.refl _ _ | assumption | refine Below.drew ?_ | refine bdrewN ?_ _ | refine Below.setCell ?_ (by first | omega | (simp; done) | (simp; omega)) _ | refine Below.alloc ?_ (by first | omega | (simp; done) | (simp; omega)) _))⟩
  · exact ⟨hp.out.1, hp.out.2.1, Or.inr ⟨g, 0, rfl, ((HP2.out.setOther (by omega) _ _).setOther (by omega) _ _).setOther (by omega) _ _⟩⟩
  · exact ⟨hj.out.1, hj.out.2.1, Or.inr ⟨gj, 0, rfl, (((hq2.out.setOther (by omega) (by omega) _ _).setOther (by omega) (by omega) _ _).setOther (by omega) (by omega) _ _).cells⟩⟩

end Go.Proofs.Ytmkdgnmmebldgaa

namespace Go.Proofs.Ytmkdgnmmebldgaa
open Go.RowKit Go.Deep

/-! Lists of numbers, parts, flanks and routes in memory. -/

structure MPart where
  piece : Int
  lo : Int
  hi : Int
structure MFlank where
  place : Int
  kind : Int
  of : Int
  lie : Int

/-- Off the set S nothing that lay has turned. -/
structure Only (S : Nat → Prop) (w w' : World) : Prop where
  os : w'.os = w.os
  tape : w'.tape = w.tape
  output : w'.output = w.output
  size : w.heap.size ≤ w'.heap.size
  block : ∀ k, k < w.heap.size → ¬ S k → w'.heap[k]? = w.heap[k]?

theorem Only.refl (S : Nat → Prop) (w : World) : Only S w w := ⟨rfl, rfl, rfl, Nat.le_refl _, fun _ _ _ => rfl⟩
theorem Only.trans {S : Nat → Prop} {a b c : World} (h : Only S a b) (k : Only S b c) : Only S a c :=
  ⟨k.os.trans h.os, k.tape.trans h.tape, k.output.trans h.output, Nat.le_trans h.size k.size, fun i hi hs => (k.block i (Nat.lt_of_lt_of_le hi h.size) hs).trans (h.block i hi hs)⟩
theorem Only.mono {S S' : Nat → Prop} {w w' : World} (h : Only S w w') (hs : ∀ k, S k → S' k) : Only S' w w' := ⟨h.os, h.tape, h.output, h.size, fun k hk hn => h.block k hk (fun e => hn (hs k e))⟩
theorem Only.of_below {S : Nat → Prop} {w w' : World} (h : Below w.heap.size w w') : Only S w w' := ⟨h.os, h.tape, h.output, h.size, fun k hk _ => h.block k hk⟩
theorem Only.below {S : Nat → Prop} {B : Nat} {w w' : World} (h : Only S w w') (hB : B ≤ w.heap.size) (hs : ∀ k, k < B → ¬ S k) : Below B w w' := ⟨h.os, h.tape, h.output, h.size, fun k hk => h.block k (Nat.lt_of_lt_of_le hk hB) (hs k hk)⟩
theorem Only.of_grown {S : Nat → Prop} {w w' : World} {row : Option Nat} (h : w.grownBy w' row) (hs : ∀ k, row = some k → S k) : Only S w w' := ⟨h.os, h.tape, h.output, h.size, fun k hk hn => h.block k hk (fun e => hn (hs k e.symm))⟩
theorem Only.alloc {S : Nat → Prop} {a w : World} (h : Only S a w) (o : Obj) : Only S a (w.alloc o) :=
  h.trans ⟨rfl, rfl, rfl, by simp, fun k hk _ => Below.heap_alloc _ _ _ hk⟩
theorem Only.drew {S : Nat → Prop} {a w : World} (h : Only S a w) : Only S a w.drew := ⟨h.os, h.tape, h.output, h.size, h.block⟩
theorem Only.setCell {S : Nat → Prop} {a w : World} (h : Only S a w) {p : Addr} (hp : S p.block ∨ a.heap.size ≤ p.block) (u : Value) : Only S a (w.setCell p u) :=
  ⟨h.os, h.tape, h.output, by have := h.size; simpa [World.setCell] using this, fun k hk hn => (Below.heap_setCell _ _ _ _ (by rintro rfl; rcases hp with hp | hp; exact hn hp; omega)).trans (h.block k hk hn)⟩
theorem Only.cell {S : Nat → Prop} {w w' : World} (h : Only S w w') {p : Addr} {v : Value} (hc : w.cell? p = some v) (hs : ¬ S p.block) : w'.cell? p = some v :=
  (World.cell?_of_block (w := w) (h.block p.block (cellLt hc) hs)).trans hc

/-- The cells of numbers. -/
def NumCells (w : World) (b off : Nat) (es : List Int) : Prop := ∀ i (h : i < es.length), w.cell? ⟨b, off + i, none⟩ = some (.int .i64 es[i])

theorem NumCells.below {w w' : World} {b off : Nat} {es : List Int} (h : NumCells w b off es) (hb : Below w.heap.size w w') : NumCells w' b off es := by
  intro i hi
  have h0 := h i hi
  exact cell_later hb h0

def NumsAt (w : World) (a : Option Addr) (es : List Int) : Prop := es.length ≤ maxLen ∧ (es = [] ∨ ∃ b off, a = some ⟨b, off, none⟩ ∧ NumCells w b off es)

theorem NumsAt.below {w w' : World} {a : Option Addr} {es : List Int} (h : NumsAt w a es) (hb : Below w.heap.size w w') : NumsAt w' a es := by
  obtain ⟨h1, h3⟩ := h
  refine ⟨h1, ?_⟩
  rcases h3 with h3 | ⟨b, off, h3, h4⟩
  · exact Or.inl h3
  · exact Or.inr ⟨b, off, h3, h4.below hb⟩

/-- The cells of parts. -/
def PartCells (w : World) (b off : Nat) (es : List MPart) : Prop := ∀ i (h : i < es.length), w.cell? ⟨b, off + i * 3, none⟩ = some (.int .i64 es[i].piece) ∧ w.cell? ⟨b, off + i * 3 + 1, none⟩ = some (.int .i64 es[i].lo) ∧ w.cell? ⟨b, off + i * 3 + 2, none⟩ = some (.int .i64 es[i].hi)

theorem PartCells.below {w w' : World} {b off : Nat} {es : List MPart} (h : PartCells w b off es) (hb : Below w.heap.size w w') : PartCells w' b off es := by
  intro i hi
  obtain ⟨h0, h1, h2⟩ := h i hi
  exact ⟨cell_later hb h0, cell_later hb h1, cell_later hb h2⟩

def PartsAt (w : World) (a : Option Addr) (es : List MPart) : Prop := es.length ≤ maxLen ∧ (es = [] ∨ ∃ b off, a = some ⟨b, off, none⟩ ∧ PartCells w b off es)

theorem PartsAt.below {w w' : World} {a : Option Addr} {es : List MPart} (h : PartsAt w a es) (hb : Below w.heap.size w w') : PartsAt w' a es := by
  obtain ⟨h1, h3⟩ := h
  refine ⟨h1, ?_⟩
  rcases h3 with h3 | ⟨b, off, h3, h4⟩
  · exact Or.inl h3
  · exact Or.inr ⟨b, off, h3, h4.below hb⟩

/-- The cells of flanks. -/
def FlankCells (w : World) (b off : Nat) (es : List MFlank) : Prop := ∀ i (h : i < es.length), w.cell? ⟨b, off + i * 4, none⟩ = some (.int .i64 es[i].place) ∧ w.cell? ⟨b, off + i * 4 + 1, none⟩ = some (.int .i64 es[i].kind) ∧ w.cell? ⟨b, off + i * 4 + 2, none⟩ = some (.int .i64 es[i].of) ∧ w.cell? ⟨b, off + i * 4 + 3, none⟩ = some (.int .i64 es[i].lie)

theorem FlankCells.below {w w' : World} {b off : Nat} {es : List MFlank} (h : FlankCells w b off es) (hb : Below w.heap.size w w') : FlankCells w' b off es := by
  intro i hi
  obtain ⟨h0, h1, h2, h3⟩ := h i hi
  exact ⟨cell_later hb h0, cell_later hb h1, cell_later hb h2, cell_later hb h3⟩

def FlanksAt (w : World) (a : Option Addr) (es : List MFlank) : Prop := es.length ≤ maxLen ∧ (es = [] ∨ ∃ b off, a = some ⟨b, off, none⟩ ∧ FlankCells w b off es)

theorem FlanksAt.below {w w' : World} {a : Option Addr} {es : List MFlank} (h : FlanksAt w a es) (hb : Below w.heap.size w w') : FlanksAt w' a es := by
  obtain ⟨h1, h3⟩ := h
  refine ⟨h1, ?_⟩
  rcases h3 with h3 | ⟨b, off, h3, h4⟩
  · exact Or.inl h3
  · exact Or.inr ⟨b, off, h3, h4.below hb⟩

/-- A list of one kind reads the same while its block lies as it lay. -/
theorem EndsAt.kept {w w' : World} {a : Option Addr} {es : List MEnd} (h : EndsAt w a es) (hb : es = [] ∨ ∀ b off, a = some ⟨b, off, none⟩ → w'.heap[b]? = w.heap[b]?) : EndsAt w' a es := by
  obtain ⟨h1, h3⟩ := h
  refine ⟨h1, ?_⟩
  rcases h3 with h3 | ⟨b, off, h3, h4⟩
  · exact Or.inl h3
  · rcases hb with hb | hb
    · exact Or.inl hb
    · have e := hb b off h3
      exact Or.inr ⟨b, off, h3, fun i hi => by obtain ⟨c1, c2⟩ := h4 i hi; exact ⟨(World.cell?_of_block (w := w) e).trans c1, (World.cell?_of_block (w := w) e).trans c2⟩⟩
theorem NumsAt.kept {w w' : World} {a : Option Addr} {es : List Int} (h : NumsAt w a es) (hb : es = [] ∨ ∀ b off, a = some ⟨b, off, none⟩ → w'.heap[b]? = w.heap[b]?) : NumsAt w' a es := by
  obtain ⟨h1, h3⟩ := h
  refine ⟨h1, ?_⟩
  rcases h3 with h3 | ⟨b, off, h3, h4⟩
  · exact Or.inl h3
  · rcases hb with hb | hb
    · exact Or.inl hb
    · have e := hb b off h3
      exact Or.inr ⟨b, off, h3, fun i hi => (World.cell?_of_block (w := w) e).trans (h4 i hi)⟩
theorem PartsAt.kept {w w' : World} {a : Option Addr} {es : List MPart} (h : PartsAt w a es) (hb : es = [] ∨ ∀ b off, a = some ⟨b, off, none⟩ → w'.heap[b]? = w.heap[b]?) : PartsAt w' a es := by
  obtain ⟨h1, h3⟩ := h
  refine ⟨h1, ?_⟩
  rcases h3 with h3 | ⟨b, off, h3, h4⟩
  · exact Or.inl h3
  · rcases hb with hb | hb
    · exact Or.inl hb
    · have e := hb b off h3
      exact Or.inr ⟨b, off, h3, fun i hi => by obtain ⟨c0, c1, c2⟩ := h4 i hi; exact ⟨(World.cell?_of_block (w := w) e).trans c0, (World.cell?_of_block (w := w) e).trans c1, (World.cell?_of_block (w := w) e).trans c2⟩⟩
theorem FlanksAt.kept {w w' : World} {a : Option Addr} {es : List MFlank} (h : FlanksAt w a es) (hb : es = [] ∨ ∀ b off, a = some ⟨b, off, none⟩ → w'.heap[b]? = w.heap[b]?) : FlanksAt w' a es := by
  obtain ⟨h1, h3⟩ := h
  refine ⟨h1, ?_⟩
  rcases h3 with h3 | ⟨b, off, h3, h4⟩
  · exact Or.inl h3
  · rcases hb with hb | hb
    · exact Or.inl hb
    · have e := hb b off h3
      exact Or.inr ⟨b, off, h3, fun i hi => by obtain ⟨c0, c1, c2, c3⟩ := h4 i hi; exact ⟨(World.cell?_of_block (w := w) e).trans c0, (World.cell?_of_block (w := w) e).trans c1, (World.cell?_of_block (w := w) e).trans c2, (World.cell?_of_block (w := w) e).trans c3⟩⟩

structure MRoute where
  start : Int
  stop : Int
  steps : List MEnd
  lies : List MEnd
  crosses : List Int
  parts : List MPart
  over : List MPart
  flanks : List MFlank

/-- The lists of a route, by where each one begins. -/
structure RAddr where
  a0 : Option Addr
  c0 : Nat
  a1 : Option Addr
  c1 : Nat
  a2 : Option Addr
  c2 : Nat
  a3 : Option Addr
  c3 : Nat
  a4 : Option Addr
  c4 : Nat
  a5 : Option Addr
  c5 : Nat

/-- The lists of a route lie there. -/
structure RListsAt (w : World) (d : RAddr) (r : MRoute) : Prop where
  steps : EndsAt w d.a0 r.steps
  lies : EndsAt w d.a1 r.lies
  crosses : NumsAt w d.a2 r.crosses
  parts : PartsAt w d.a3 r.parts
  over : PartsAt w d.a4 r.over
  flanks : FlanksAt w d.a5 r.flanks
  nil1 : d.a1 = none → d.c1 = 0

theorem RListsAt.below {w w' : World} {d : RAddr} {r : MRoute} (h : RListsAt w d r) (hb : Below w.heap.size w w') : RListsAt w' d r :=
  ⟨h.steps.below hb, h.lies.below hb, h.crosses.below hb, h.parts.below hb, h.over.below hb, h.flanks.below hb, h.nil1⟩

/-- A route as a value. -/
def routeV (d : RAddr) (r : MRoute) : Value :=
  .agg #[.int .i64 r.start, .int .i64 r.stop, .slice d.a0 r.steps.length d.c0, .slice d.a1 r.lies.length d.c1, .slice d.a2 r.crosses.length d.c2, .slice d.a3 r.parts.length d.c3, .slice d.a4 r.over.length d.c4, .slice d.a5 r.flanks.length d.c5]

/-- The eight cells of a route. -/
structure RouteCell (w : World) (b o : Nat) (d : RAddr) (r : MRoute) : Prop where
  k0 : w.cell? ⟨b, o, none⟩ = some (.int .i64 r.start)
  k1 : w.cell? ⟨b, o + 1, none⟩ = some (.int .i64 r.stop)
  k2 : w.cell? ⟨b, o + 2, none⟩ = some (.slice d.a0 r.steps.length d.c0)
  k3 : w.cell? ⟨b, o + 3, none⟩ = some (.slice d.a1 r.lies.length d.c1)
  k4 : w.cell? ⟨b, o + 4, none⟩ = some (.slice d.a2 r.crosses.length d.c2)
  k5 : w.cell? ⟨b, o + 5, none⟩ = some (.slice d.a3 r.parts.length d.c3)
  k6 : w.cell? ⟨b, o + 6, none⟩ = some (.slice d.a4 r.over.length d.c4)
  k7 : w.cell? ⟨b, o + 7, none⟩ = some (.slice d.a5 r.flanks.length d.c5)

theorem RouteCell.kept {w w' : World} {b o : Nat} {d : RAddr} {r : MRoute} (h : RouteCell w b o d r) (e : w'.heap[b]? = w.heap[b]?) : RouteCell w' b o d r :=
  ⟨(World.cell?_of_block (w := w) e).trans h.k0, (World.cell?_of_block (w := w) e).trans h.k1, (World.cell?_of_block (w := w) e).trans h.k2, (World.cell?_of_block (w := w) e).trans h.k3,
   (World.cell?_of_block (w := w) e).trans h.k4, (World.cell?_of_block (w := w) e).trans h.k5, (World.cell?_of_block (w := w) e).trans h.k6, (World.cell?_of_block (w := w) e).trans h.k7⟩

theorem RouteCell.below {w w' : World} {b o : Nat} {d : RAddr} {r : MRoute} (h : RouteCell w b o d r) (hb : Below w.heap.size w w') : RouteCell w' b o d r :=
  h.kept (hb.block b (cellLt h.k0))

/-- The cells of routes. -/
def RouteCells (w : World) (b off : Nat) (rs : List MRoute) : Prop := ∀ i (h : i < rs.length), ∃ d, RouteCell w b (off + i * 8) d rs[i] ∧ RListsAt w d rs[i]

theorem RouteCells.below {w w' : World} {b off : Nat} {rs : List MRoute} (h : RouteCells w b off rs) (hb : Below w.heap.size w w') : RouteCells w' b off rs := by
  intro i hi
  obtain ⟨d, h1, h2⟩ := h i hi
  exact ⟨d, h1.below hb, h2.below hb⟩

def RoutesAt (w : World) (a : Option Addr) (rs : List MRoute) : Prop := rs.length ≤ maxLen ∧ (rs = [] ∨ ∃ b off, a = some ⟨b, off, none⟩ ∧ RouteCells w b off rs)

theorem RoutesAt.below {w w' : World} {a : Option Addr} {rs : List MRoute} (h : RoutesAt w a rs) (hb : Below w.heap.size w w') : RoutesAt w' a rs := by
  obtain ⟨h1, h3⟩ := h
  refine ⟨h1, ?_⟩
  rcases h3 with h3 | ⟨b, off, h3, h4⟩
  · exact Or.inl h3
  · exact Or.inr ⟨b, off, h3, h4.below hb⟩

end Go.Proofs.Ytmkdgnmmebldgaa
