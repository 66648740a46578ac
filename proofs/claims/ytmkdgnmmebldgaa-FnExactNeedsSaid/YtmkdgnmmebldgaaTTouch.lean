import Derived.Test.YtmkdgnmmebldgaaTMath
import Derived.Test.YtmkdgnmmebldgaaEq
namespace Go.Proofs.Ytmkdgnmmebldgaa
open Go.RowKit Go.Deep

set_option maxHeartbeats 2000000 in
theorem l3touch_any (a b : Option Addr) (ac bc : Nat) (xs ys : List MPart) (w : World) (ha : Hid (PartsAt w a xs)) (hb : Hid (PartsAt w b ys)) :
    Calls Try.prog 49 #[.slice a xs.length ac, .slice b ys.length bc] w fun e w' => e = .returned (.bool (touchL xs ys)) ∧ Below w.heap.size w w' := by
  have hl := ha.out.1
  have hl2 := hb.out.1
  unfold maxLen at hl hl2
  go_enter Try.func49, Try.ntmps49
  go_wp2_with fail
  go_loopw [11] (fun i wr => ∃ (k : Nat), k ≤ xs.length ∧ i = .int .i64 k ∧ Hid (∀ q (hq : q < xs.length), q < k → (ys.any fun y => touchP xs[q] y) = false) ∧ Below w.heap.size w wr) (fun i _ => xs.length - (intOf i).toNat)
  case atStart => exact ⟨0, Nat.zero_le _, rfl, (fun q _ h => absurd h (Nat.not_lt_zero q)), Below.refl _ _⟩
  case round =>
    obtain ⟨k, hk, rfl, HQ, hbw⟩ := hrel
    have hbs := hbw.size
    by_cases hk' : k < xs.length
    · obtain ⟨b1, off1, rfl, hpc1⟩ := ha.out.2.resolve_left (fun h => by rw [h] at hk'; exact absurd hk' (Nat.not_lt_zero _))
      obtain ⟨c0, c1, c2⟩ := (hpc1.below hbw) k hk'
      clear hpc1
      go_wp2_with fail
      generalize hW : wr.alloc (Obj.cells #[Value.int IntKind.i64 xs[k].piece, Value.int IntKind.i64 xs[k].lo, Value.int IntKind.i64 xs[k].hi] 44) = W
      have p0 : W.cell? ⟨wr.heap.size, 0, none⟩ = some (.int .i64 xs[k].piece) := by rw [← hW]; simp [go_sem]
      have p1 : W.cell? ⟨wr.heap.size, 1, none⟩ = some (.int .i64 xs[k].lo) := by rw [← hW]; simp [go_sem]
      have p2 : W.cell? ⟨wr.heap.size, 2, none⟩ = some (.int .i64 xs[k].hi) := by rw [← hW]; simp [go_sem]
      have hbW : Below w.heap.size w W := by rw [← hW]; exact (by repeat (first | exact Below.refl _ _ | assumption | refine Below.drew ?_ | refine bdrewN ?_ _ | refine Below.setCell ?_ (by first | omega | (simp; done) | (simp; omega)) _ | refine Below.alloc ?_ (by first | omega | (simp; done) | (simp; omega)) _))
      have hzW : wr.heap.size < W.heap.size := by rw [← hW]; simp
      clear hW c0 c1 c2 hbw
      go_loopw [17] (fun i wr2 => ∃ (m : Nat), m ≤ ys.length ∧ i = .int .i64 m ∧ Hid (∀ q (hq : q < ys.length), q < m → touchP xs[k] ys[q] = false) ∧ Below W.heap.size W wr2) (fun i _ => ys.length - (intOf i).toNat)
      case atStart => exact ⟨0, Nat.zero_le _, rfl, (fun q _ h => absurd h (Nat.not_lt_zero q)), Below.refl _ _⟩
      case round =>
        obtain ⟨m, hm, rfl, HM, hb2⟩ := hrel
        have hbs2 := hb2.size
        have hbF := hbW.trans (hb2.mono hbW.size)
        have hbsF := hbF.size
        by_cases hm' : m < ys.length
        · obtain ⟨b3, off3, rfl, hpc3⟩ := hb.out.2.resolve_left (fun h => by rw [h] at hm'; exact absurd hm' (Nat.not_lt_zero _))
          obtain ⟨d0, d1, d2⟩ := (hpc3.below hbF) m hm'
          have q0 := cell_later hb2 p0
          have q1 := cell_later hb2 p1
          have q2 := cell_later hb2 p2
          have hz2 := Nat.lt_of_lt_of_le hzW hb2.size
          clear hpc3
          cases hT : touchP xs[k] ys[m]
          · have HM2 : Hid (∀ q (hq : q < ys.length), q < m + 1 → touchP xs[k] ys[q] = false) := by
              intro q hq hqm
              by_cases e : q < m
              · exact HM.out q hq e
              · have : q = m := by omega
                subst this; exact hT
            have hcs : (xs[k].piece == ys[m].piece) = false ∨ (xs[k].piece == ys[m].piece) = true ∧ (decide (xs[k].lo ≤ ys[m].hi) = false ∨ decide (xs[k].lo ≤ ys[m].hi) = true ∧ decide (ys[m].lo ≤ xs[k].hi) = false) := by
              unfold touchP at hT
              revert hT
              cases (xs[k].piece == ys[m].piece) <;> cases decide (xs[k].lo ≤ ys[m].hi) <;> cases decide (ys[m].lo ≤ xs[k].hi) <;> simp
            clear hT HM
            rcases hcs with t1 | ⟨t1, t2 | ⟨t2, t3⟩⟩
            all_goals
              go_wp2_with fail
              go_roundw
              case rel => exact ⟨m + 1, by omega, by go_num, HM2, (by repeat (first | exact Below.refl _ _ | assumption | refine Below.drew ?_ | refine bdrewN ?_ _ | refine Below.setCell ?_ (by first | omega | (simp; done) | (simp; omega)) _ | refine Below.alloc ?_ (by first | omega | (simp; done) | (simp; omega)) _))⟩
              case measure => simp [intOf]; omega
          · have HX : Hid (touchL xs ys = true) := any_hit hk' (any_hit hm' hT)
            obtain ⟨t1, t2, t3⟩ : (xs[k].piece == ys[m].piece) = true ∧ decide (xs[k].lo ≤ ys[m].hi) = true ∧ decide (ys[m].lo ≤ xs[k].hi) = true := by
              unfold touchP at hT
              simp only [Bool.and_eq_true] at hT
              exact ⟨hT.1.1, hT.1.2, hT.2⟩
            clear hT HM
            go_wp2_with fail
            go_ret
            exact ⟨ret_bool HX.out.symm, (by repeat (first | exact Below.refl _ _ | assumption | refine Below.drew ?_ | refine bdrewN ?_ _ | refine Below.setCell ?_ (by first | omega | (simp; done) | (simp; omega)) _ | refine Below.alloc ?_ (by first | omega | (simp; done) | (simp; omega)) _))⟩
        · have HQ2 : Hid (∀ q (hq : q < xs.length), q < k + 1 → (ys.any fun y => touchP xs[q] y) = false) := by
            intro q hq hqk
            by_cases e : q < k
            · exact HQ.out q hq e
            · have : q = k := by omega
              subst this
              exact any_none (fun i hi => HM.out i hi (by omega))
          clear HM HQ
          go_wp2_with fail
          go_roundw
          case rel => exact ⟨k + 1, by omega, by go_num, HQ2, hbF⟩
          case measure => simp [intOf]; omega
    · have HX : Hid (touchL xs ys = false) := any_none (fun i hi => HQ.out i hi (by omega))
      clear HQ
      go_wp2_with fail
      go_ret
      exact ⟨ret_bool HX.out.symm, hbw⟩

end Go.Proofs.Ytmkdgnmmebldgaa
