import Derived.Test.YtmkdgnmmebldgabTTouch
import Derived.Test.YtmkdgnmmebldgabBMath
import Derived.Laws.ShiftsVarLaws
namespace Go.Proofs.Ytmkdgnmmebldgab
open Go.RowKit Go.Deep

def setV (s : MSet) : Value := .agg #[.int .u64 s.a, .int .u64 s.b]

theorem wrap_rem (n : Int) : (IntKind.u64.wrap n).tmod 128 = (bitN n : Nat) := by
  rw [IntKind.wrap_u64, tmod_of_emod]
  unfold bitN
  omega
theorem cast_pow (k : Nat) : (2 : Int) ^ k = ((2 ^ k : Nat) : Int) := by rw [Int.natCast_pow]; rfl
theorem wrap_pow (k : Nat) (h : k < 64) : IntKind.u64.wrap (2 ^ k) = ((2 ^ k : Nat) : Int) := by
  have hp := pow64 h
  rw [IntKind.wrap_u64, cast_pow]
  generalize 2 ^ k = p at hp ⊢
  omega
theorem or_pow {a k : Nat} (ha : a < 18446744073709551616) (hk : k < 64) : bits .or .u64 (a : Int) (2 ^ k) = ((a ||| 2 ^ k : Nat) : Int) := by
  rw [cast_pow]
  exact u64_or_nat a (2 ^ k) ha (pow64 hk)
theorem ret_set {a b a' b' : Int} (h1 : a = a') (h2 : b = b') : Ending.returned (.agg #[.int .u64 a, .int .u64 b]) = .returned (.agg #[.int .u64 a', .int .u64 b']) := by rw [h1, h2]

set_option maxHeartbeats 2000000 in
theorem with_any (s : MSet) (n : Int) (hs : s.Ok) (w : World) :
    Calls Try.prog 66 #[setV s, .int .i64 n] w fun e w' => e = .returned (setV (withF s n)) ∧ Below w.heap.size w w' := by
  unfold setV
  have h0 := wrap_rem n
  have hlt := bitN_lt n
  have HW : Hid (withF s n = if bitN n < 64 then ⟨s.a ||| 2 ^ (bitN n % 64), s.b⟩ else ⟨s.a, s.b ||| 2 ^ (bitN n % 64)⟩) := rfl
  generalize bitN n = c at h0 hlt HW
  have hk : c % 64 < 64 := Nat.mod_lt _ (by omega)
  by_cases hc : c < 64
  · have h1 : (c : Int) / 64 = 0 := by omega
    have h2 : c / 64 = 0 := by omega
    have h3 := wrap_pow (c % 64) hk
    have HA : Hid (bits .or .u64 (s.a : Int) (2 ^ (c % 64)) = ((withF s n).a : Nat)) := by unfold Hid; rw [HW.out, if_pos hc]; exact or_pow hs.1 hk
    have HB : Hid (((s.b : Nat) : Int) = ((withF s n).b : Nat)) := by unfold Hid; rw [HW.out, if_pos hc]
    go_enter Try.func66, Try.ntmps66
    go_wp2_with fail
    exact bodyPost_ret (v := .agg #[.int .u64 (bits .or .u64 (s.a : Int) (2 ^ (c % 64))), .int .u64 s.b]) (by simp [results, Try.results66, go_sem]) rfl ⟨ret_set HA.out HB.out, (by repeat (first | exact Below.refl _ _ | assumption | refine Below.drew ?_ | refine bdrewN ?_ _ | refine Below.setCell ?_ (by first | omega | (simp; done) | (simp; omega)) _ | refine Below.alloc ?_ (by first | omega | (simp; done) | (simp; omega)) _))⟩
  · have h1 : (c : Int) / 64 = 1 := by omega
    have h2 : c / 64 = 1 := by omega
    have h3 := wrap_pow (c % 64) hk
    have HA : Hid (((s.a : Nat) : Int) = ((withF s n).a : Nat)) := by unfold Hid; rw [HW.out, if_neg hc]
    have HB : Hid (bits .or .u64 (s.b : Int) (2 ^ (c % 64)) = ((withF s n).b : Nat)) := by unfold Hid; rw [HW.out, if_neg hc]; exact or_pow hs.2 hk
    go_enter Try.func66, Try.ntmps66
    go_wp2_with fail
    exact bodyPost_ret (v := .agg #[.int .u64 s.a, .int .u64 (bits .or .u64 (s.b : Int) (2 ^ (c % 64)))]) (by simp [results, Try.results66, go_sem]) rfl ⟨ret_set HA.out HB.out, (by repeat (first | exact Below.refl _ _ | assumption | refine Below.drew ?_ | refine bdrewN ?_ _ | refine Below.setCell ?_ (by first | omega | (simp; done) | (simp; omega)) _ | refine Below.alloc ?_ (by first | omega | (simp; done) | (simp; omega)) _))⟩

theorem and_nat {a b : Nat} (ha : a < 18446744073709551616) (hb : b < 18446744073709551616) : (bits .and .u64 (a : Int) (b : Int) != 0) = (a &&& b != 0) := by
  rw [u64_and_nat a b ha hb, Bool.eq_iff_iff]
  simp only [bne_iff_ne, ne_eq]
  omega

theorem index_set0 (a b : Int) (w : World) : (Instr.index 67 (.agg #[.int .u64 a, .int .u64 b]) (.int .i64 0)).run Try.prog w = .ok (.int .u64 a) w := by kernel_rfl
theorem index_set1 (a b : Int) (w : World) : (Instr.index 67 (.agg #[.int .u64 a, .int .u64 b]) (.int .i64 1)).run Try.prog w = .ok (.int .u64 b) w := by kernel_rfl

set_option maxRecDepth 10000 in
set_option maxHeartbeats 2000000 in
theorem meets_any (s t : MSet) (hs : s.Ok) (ht : t.Ok) (w : World) :
    Calls Try.prog 67 #[setV s, setV t] w fun e w' => e = .returned (.bool (meetsF s t)) ∧ Below w.heap.size w w' := by
  unfold setV
  have hi0 := index_set0 s.a s.b
  have hi1 := index_set1 s.a s.b
  have HA := hidP (and_nat hs.1 ht.1)
  have HB := hidP (and_nat hs.2 ht.2)
  go_enter Try.func67, Try.ntmps67
  go_wp2_with fail
  generalize hW : (w.alloc _).alloc _ = W
  have y0 : W.cell? ⟨w.heap.size + 1, 0, none⟩ = some (.int .u64 t.a) := by rw [← hW]; simp [go_sem]
  have y1 : W.cell? ⟨w.heap.size + 1, 1, none⟩ = some (.int .u64 t.b) := by rw [← hW]; simp [go_sem]
  have hz : w.heap.size + 1 < W.heap.size := cellLt y0
  have hbW : Below w.heap.size w W := by rw [← hW]; exact (by repeat (first | exact Below.refl _ _ | assumption | refine Below.drew ?_ | refine bdrewN ?_ _ | refine Below.setCell ?_ (by first | omega | (simp; done) | (simp; omega)) _ | refine Below.alloc ?_ (by first | omega | (simp; done) | (simp; omega)) _))
  clear hW
  go_loopw [8] (fun i wr => ∃ (k : Nat), k ≤ 2 ∧ i = .int .i64 k ∧ Hid (1 ≤ k → (s.a &&& t.a != 0) = false) ∧ Hid (2 ≤ k → (s.b &&& t.b != 0) = false) ∧ Below W.heap.size W wr) (fun i _ => 2 - (intOf i).toNat)
  case atStart => exact ⟨0, by omega, rfl, (fun h => absurd h (by omega)), (fun h => absurd h (by omega)), Below.refl _ _⟩
  case round =>
    obtain ⟨k, hk, rfl, H1, H2, hb⟩ := hrel
    have z0 := cell_later hb y0
    have z1 := cell_later hb y1
    have hzr := cellLt z0
    have hbF := hbW.trans (hb.mono hbW.size)
    have hk3 : k = 0 ∨ k = 1 ∨ k = 2 := by omega
    rcases hk3 with rfl | rfl | rfl
    · cases hA : (s.a &&& t.a != 0)
      · have hX : (bits .and .u64 (s.a : Int) (t.a : Int) != 0) = false := by rw [HA.out, hA]
        have H1' : Hid (1 ≤ 0 + 1 → (s.a &&& t.a != 0) = false) := fun _ => hA
        clear hA
        go_wp2_with fail
        go_roundw
        case rel => exact ⟨0 + 1, by omega, by go_num, (by first | exact H1' | exact fun _ => trivial), (fun h => absurd h (by omega)), hb⟩
        case measure => simp [intOf]
      · have hX : (bits .and .u64 (s.a : Int) (t.a : Int) != 0) = true := by rw [HA.out, hA]
        have HM : Hid (meetsF s t = true) := by unfold Hid meetsF; rw [hA]; rfl
        clear hA
        go_wp2_with fail
        go_ret
        exact ⟨ret_bool HM.out.symm, hbF⟩
    · cases hB : (s.b &&& t.b != 0)
      · have hX : (bits .and .u64 (s.b : Int) (t.b : Int) != 0) = false := by rw [HB.out, hB]
        have H2' : Hid (2 ≤ 1 + 1 → (s.b &&& t.b != 0) = false) := fun _ => hB
        have H1' : Hid (1 ≤ 1 + 1 → (s.a &&& t.a != 0) = false) := fun _ => H1.out (by omega)
        clear hB
        go_wp2_with fail
        go_roundw
        case rel => exact ⟨1 + 1, by omega, by go_num, H1', (by first | exact H2' | exact fun _ => trivial), hb⟩
        case measure => simp [intOf]
      · have hX : (bits .and .u64 (s.b : Int) (t.b : Int) != 0) = true := by rw [HB.out, hB]
        have HM : Hid (meetsF s t = true) := by unfold Hid meetsF; rw [hB]; simp
        clear hB
        go_wp2_with fail
        go_ret
        exact ⟨ret_bool HM.out.symm, hbF⟩
    · have HM : Hid (meetsF s t = false) := by unfold Hid meetsF; rw [H1.out (by omega), H2.out (by omega)]; rfl
      go_wp2_with fail
      go_ret
      exact ⟨ret_bool HM.out.symm, hbF⟩

/-! The small functions that are handed in. -/

def prtV (p : MPart) : Value := .agg #[.int .i64 p.piece, .int .i64 p.lo, .int .i64 p.hi]
def lieV (p : MEnd) : Value := .agg #[.int .i64 p.piece, .int .i64 p.side]

theorem partKey_any (p : MPart) (w : World) : Calls Try.prog 50 #[prtV p] w fun e w' => e = .returned (.int .i64 p.piece) ∧ Below w.heap.size w w' := by
  unfold prtV
  go_enter Try.func50, Try.ntmps50
  go_wp2_with fail
  go_ret
  exact ⟨rfl, (by repeat (first | exact Below.refl _ _ | assumption | refine Below.drew ?_ | refine bdrewN ?_ _ | refine Below.setCell ?_ (by first | omega | (simp; done) | (simp; omega)) _ | refine Below.alloc ?_ (by first | omega | (simp; done) | (simp; omega)) _))⟩
theorem lieKey_any (p : MEnd) (w : World) : Calls Try.prog 55 #[lieV p] w fun e w' => e = .returned (.int .i64 p.piece) ∧ Below w.heap.size w w' := by
  unfold lieV
  go_enter Try.func55, Try.ntmps55
  go_wp2_with fail
  go_ret
  exact ⟨rfl, (by repeat (first | exact Below.refl _ _ | assumption | refine Below.drew ?_ | refine bdrewN ?_ _ | refine Below.setCell ?_ (by first | omega | (simp; done) | (simp; omega)) _ | refine Below.alloc ?_ (by first | omega | (simp; done) | (simp; omega)) _))⟩
theorem ownKey_any (n : Int) (w : World) : Calls Try.prog 52 #[.int .i64 n] w fun e w' => e = .returned (.int .i64 n) ∧ Below w.heap.size w w' := by
  go_enter Try.func52, Try.ntmps52
  go_wp2_with fail
  go_ret
  exact ⟨rfl, (by repeat (first | exact Below.refl _ _ | assumption | refine Below.drew ?_ | refine bdrewN ?_ _ | refine Below.setCell ?_ (by first | omega | (simp; done) | (simp; omega)) _ | refine Below.alloc ?_ (by first | omega | (simp; done) | (simp; omega)) _))⟩
theorem sameNumber_any (n m : Int) (w : World) : Calls Try.prog 59 #[.int .i64 n, .int .i64 m] w fun e w' => e = .returned (.bool (n == m)) ∧ Below w.heap.size w w' := by
  go_enter Try.func59, Try.ntmps59
  go_wp2_with fail
  go_ret
  exact ⟨rfl, (by repeat (first | exact Below.refl _ _ | assumption | refine Below.drew ?_ | refine bdrewN ?_ _ | refine Below.setCell ?_ (by first | omega | (simp; done) | (simp; omega)) _ | refine Below.alloc ?_ (by first | omega | (simp; done) | (simp; omega)) _))⟩
theorem contradicts_any (x y : MEnd) (w : World) : Calls Try.prog 61 #[lieV x, lieV y] w fun e w' => e = .returned (.bool (x.piece == y.piece && x.side != y.side)) ∧ Below w.heap.size w w' := by
  unfold lieV
  go_enter Try.func61, Try.ntmps61
  cases t1 : (x.piece == y.piece) <;> cases t2 : (x.side != y.side)
  all_goals
    go_wp2_with fail
    go_ret
    exact ⟨rfl, (by repeat (first | exact Below.refl _ _ | assumption | refine Below.drew ?_ | refine bdrewN ?_ _ | refine Below.setCell ?_ (by first | omega | (simp; done) | (simp; omega)) _ | refine Below.alloc ?_ (by first | omega | (simp; done) | (simp; omega)) _))⟩
theorem touches_any (x y : MPart) (w : World) : Calls Try.prog 57 #[prtV x, prtV y] w fun e w' => e = .returned (.bool (touchP x y)) ∧ Below w.heap.size w w' := by
  unfold prtV touchP
  go_enter Try.func57, Try.ntmps57
  cases t1 : (x.piece == y.piece) <;> cases t2 : decide (x.lo ≤ y.hi) <;> cases t3 : decide (y.lo ≤ x.hi)
  all_goals
    go_wp2_with fail
    go_ret
    exact ⟨rfl, (by repeat (first | exact Below.refl _ _ | assumption | refine Below.drew ?_ | refine bdrewN ?_ _ | refine Below.setCell ?_ (by first | omega | (simp; done) | (simp; omega)) _ | refine Below.alloc ?_ (by first | omega | (simp; done) | (simp; omega)) _))⟩

end Go.Proofs.Ytmkdgnmmebldgab
