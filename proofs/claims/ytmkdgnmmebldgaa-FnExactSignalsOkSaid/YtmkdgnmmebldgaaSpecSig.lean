import Derived.Test.YtmkdgnmmebldgaaSigMath
import Derived.Test.YtmkdgnmmebldgaaSpecNet
namespace Go.Proofs.Ytmkdgnmmebldgaa
open Go.RowKit

set_option maxHeartbeats 1000000 in
theorem l1ok_any (pa ja : Option Addr) (pc jc : Nat) (ps : List MPiece) (js : List MJoint) (w : World) (hp : Hid (PiecesAt w pa ps)) (hj : Hid (JointsAt w ja js)) :
    Calls Try.prog 71 #[.agg #[.slice pa ps.length pc, .slice ja js.length jc]] w fun e w' => e = .returned (.bool ((netF ps js).1 == 0)) ∧ Below w.heap.size w w' := by
  go_enter Try.func71, Try.ntmps71
  go_wp2_with fail
  refine (specNetOk_any _ _ _ _ _ _ _ (hp.out.below (by repeat (first | exact Below.refl _ _ | assumption | refine Below.drew ?_ | refine bdrewN ?_ _ | refine Below.setCell ?_ (by first | omega | (simp; done) | (simp; omega)) _ | refine Below.alloc ?_ (by first | omega | (simp; done) | (simp; omega)) _))) (hj.out.below (by repeat (first | exact Below.refl _ _ | assumption | refine Below.drew ?_ | refine bdrewN ?_ _ | refine Below.setCell ?_ (by first | omega | (simp; done) | (simp; omega)) _ | refine Below.alloc ?_ (by first | omega | (simp; done) | (simp; omega)) _)))).mono ?_
  rintro e w1 ⟨rfl, hb1⟩
  obtain ⟨fc, fa, hf⟩ : ∃ fc fa, netF ps js = (fc, fa) := ⟨_, _, rfl⟩
  have HF := hidQ hf
  rw [hf]
  clear hf
  unfold faultV
  have hb2 : Below w.heap.size w w1 := Below.trans (by repeat (first | exact Below.refl _ _ | assumption | refine Below.drew ?_ | refine bdrewN ?_ _ | refine Below.setCell ?_ (by first | omega | (simp; done) | (simp; omega)) _ | refine Below.alloc ?_ (by first | omega | (simp; done) | (simp; omega)) _)) (hb1.mono (by simp))
  have hbs := hb2.size
  clear hb1
  go_wp2_with fail
  go_ret
  exact ⟨ret_bool (by rw [HF.out]), (by repeat (first | exact Below.refl _ _ | assumption | refine Below.drew ?_ | refine bdrewN ?_ _ | refine Below.setCell ?_ (by first | omega | (simp; done) | (simp; omega)) _ | refine Below.alloc ?_ (by first | omega | (simp; done) | (simp; omega)) _))⟩

set_option maxHeartbeats 2000000 in
theorem l1before_any (a : Option Addr) (cap : Nat) (ss : List MPiece) (i : Nat) (hi : i < ss.length) (w : World) (hp : Hid (PiecesAt w a ss)) :
    Calls Try.prog 72 #[.slice a ss.length cap, .int .i64 i] w fun e w' => e = .returned (.bool (beforeB ss i ss[i])) ∧ Below w.heap.size w w' := by
  have hl := hp.out.1
  unfold maxLen at hl
  obtain ⟨b1, off1, rfl, hpc⟩ := hp.out.2.2.resolve_left (fun h => by rw [h] at hi; exact absurd hi (Nat.not_lt_zero _))
  have HPC := hidQ hpc
  clear hpc
  go_enter Try.func72, Try.ntmps72
  go_wp2_with fail
  go_loopw [5] (fun c wr => ∃ (k : Nat), k ≤ i ∧ c = .int .i64 k ∧ Hid (∀ q (hq : q < ss.length), q < k → same4 ss[q] ss[i] = false) ∧ Below w.heap.size w wr) (fun c _ => i - (intOf c).toNat)
  case atStart => exact ⟨0, Nat.zero_le _, rfl, (fun q _ h => absurd h (Nat.not_lt_zero q)), (by repeat (first | exact Below.refl _ _ | assumption | refine Below.drew ?_ | refine bdrewN ?_ _ | refine Below.setCell ?_ (by first | omega | (simp; done) | (simp; omega)) _ | refine Below.alloc ?_ (by first | omega | (simp; done) | (simp; omega)) _))⟩
  case round =>
    obtain ⟨k, hk, rfl, HQ, hb⟩ := hrel
    have hbs := hb.size
    by_cases hk' : k < i
    · have hks : k < ss.length := by omega
      obtain ⟨c1, c2, c3, c4⟩ := (HPC.out.below hb) k hks
      obtain ⟨d1, d2, d3, d4⟩ := (HPC.out.below hb) i hi
      have hz1 : b1 < wr.heap.size := cellLt c1
      cases hS : same4 ss[k] ss[i]
      · have HQ2 : Hid (∀ q (hq : q < ss.length), q < k + 1 → same4 ss[q] ss[i] = false) := by
          intro q hq hqk
          by_cases e : q < k
          · exact HQ.out q hq e
          · have : q = k := by omega
            subst this; exact hS
        have hcs : (ss[k].name.toList == ss[i].name.toList) = false ∧ ((ss[k].len == ss[i].len) = false ∨ (ss[k].len == ss[i].len) = true ∧ ((ss[k].speed == ss[i].speed) = false ∨ (ss[k].speed == ss[i].speed) = true ∧ (ss[k].brake == ss[i].brake) = false)) := by
          unfold same4 at hS
          rw [Bool.or_eq_false_iff] at hS
          refine ⟨beqS_ne (by simpa using hS.1), ?_⟩
          have h2 := hS.2
          revert h2
          cases (ss[k].len == ss[i].len) <;> cases (ss[k].speed == ss[i].speed) <;> cases (ss[k].brake == ss[i].brake) <;> simp
        clear hS HQ
        obtain ⟨g1, g2 | ⟨g2, g3 | ⟨g3, g4⟩⟩⟩ := hcs
        all_goals
          go_wp2_with fail
          go_roundw
          case rel => exact ⟨k + 1, by omega, by go_num, HQ2, (by repeat (first | exact Below.refl _ _ | assumption | refine Below.drew ?_ | refine bdrewN ?_ _ | refine Below.setCell ?_ (by first | omega | (simp; done) | (simp; omega)) _ | refine Below.alloc ?_ (by first | omega | (simp; done) | (simp; omega)) _))⟩
          case measure => simp [intOf]; omega
      · have HX := hidQ (beforeB_hit hk' hks hS)
        have hcs : ss[k].name = ss[i].name ∨ (ss[k].name.toList == ss[i].name.toList) = false ∧ (ss[k].len == ss[i].len) = true ∧ (ss[k].speed == ss[i].speed) = true ∧ (ss[k].brake == ss[i].brake) = true := by
          by_cases e : ss[k].name = ss[i].name
          · exact Or.inl e
          · right
            unfold same4 at hS
            rw [decide_eq_false e, Bool.false_or] at hS
            simp only [Bool.and_eq_true] at hS
            exact ⟨beqS_ne e, hS.1.1, hS.1.2, hS.2⟩
        clear hS HQ
        rcases hcs with g1 | ⟨g1, g2, g3, g4⟩
        · rw [g1] at c1
          clear g1
          go_wp2_with fail
          go_ret
          exact ⟨ret_bool HX.out.symm, (by repeat (first | exact Below.refl _ _ | assumption | refine Below.drew ?_ | refine bdrewN ?_ _ | refine Below.setCell ?_ (by first | omega | (simp; done) | (simp; omega)) _ | refine Below.alloc ?_ (by first | omega | (simp; done) | (simp; omega)) _))⟩
        · go_wp2_with fail
          go_ret
          exact ⟨ret_bool HX.out.symm, (by repeat (first | exact Below.refl _ _ | assumption | refine Below.drew ?_ | refine bdrewN ?_ _ | refine Below.setCell ?_ (by first | omega | (simp; done) | (simp; omega)) _ | refine Below.alloc ?_ (by first | omega | (simp; done) | (simp; omega)) _))⟩
    · have HX := hidQ (beforeB_none (ss := ss) (i := i) (s := ss[i]) (fun q hq hqi => HQ.out q hq (by omega)))
      clear HQ
      go_wp2_with fail
      go_ret
      exact ⟨ret_bool HX.out.symm, hb⟩

end Go.Proofs.Ytmkdgnmmebldgaa
