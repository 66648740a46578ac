import Derived.Test.YtmkdgnmmebldgaaSpecSig2
import Derived.Test.YtmkdgnmmebldgaaLoose
namespace Go.Proofs.Ytmkdgnmmebldgaa
open Go.RowKit Go.Maps
open Go.WideMaps (KeyLaw)

theorem wayE_cases (x : Int) : wayB x = true ∧ ((x == 1) = true ∨ (x == 1) = false ∧ (x == -1) = true) ∨ wayB x = false ∧ (x == 1) = false ∧ (x == -1) = false := by
  unfold wayB
  cases (x == 1) <;> cases (x == -1) <;> simp

set_option maxHeartbeats 2000000 in
theorem signalOk_any (pa : Option Addr) (pc : Nat) (ps : List MPiece) (s : ByteArray) (pi pl wy : Int) (w : World) (hp : Hid (PiecesAt w pa ps)) (hs : s.size ≤ maxLen) (hp100 : ps.length ≤ 100) (hpl : Hid (∀ k (hk : k < ps.length), 1 ≤ ps[k].len ∧ ps[k].len ≤ 10000000)) :
    Calls Try.prog 139 #[.slice pa ps.length pc, .agg #[.string s, .int .i64 pi, .int .i64 pl, .int .i64 wy]] w fun e w' => e = .returned (.bool (okSigC ps s pi pl wy)) ∧ Below w.heap.size w w' := by
  cases q1 : nameB s
  · have HX := hidQ (okSigC_1 (ps := ps) (pi := pi) (pl := pl) (wy := wy) q1)
    go_enter Try.func139, Try.ntmps139
    go_wp2_with (first | (go_at_call 165; refine (nameOk_any _ _ hs).mono ?_; rintro e w' ⟨rfl, rfl⟩) | (go_at_call 121; refine (within_any _ _ _ _).mono ?_; rintro e w' ⟨rfl, rfl⟩))
    go_ret
    exact ⟨ret_bool HX.out.symm, (by repeat (first | exact Below.refl _ _ | assumption | refine Below.drew ?_ | refine bdrewN ?_ _ | refine Below.setCell ?_ (by first | omega | (simp; done) | (simp; omega)) _ | refine Below.alloc ?_ (by first | omega | (simp; done) | (simp; omega)) _))⟩
  cases q2 : inB pi 0 ((ps.length : Int) - 1)
  · have HX := hidQ (okSigC_2 (s := s) (pl := pl) (wy := wy) q2)
    go_enter Try.func139, Try.ntmps139
    go_wp2_with (first | (go_at_call 165; refine (nameOk_any _ _ hs).mono ?_; rintro e w' ⟨rfl, rfl⟩) | (go_at_call 121; refine (within_any _ _ _ _).mono ?_; rintro e w' ⟨rfl, rfl⟩))
    go_ret
    exact ⟨ret_bool HX.out.symm, (by repeat (first | exact Below.refl _ _ | assumption | refine Below.drew ?_ | refine bdrewN ?_ _ | refine Below.setCell ?_ (by first | omega | (simp; done) | (simp; omega)) _ | refine Below.alloc ?_ (by first | omega | (simp; done) | (simp; omega)) _))⟩
  rcases wayE_cases wy with ⟨q3, hw⟩ | ⟨q3, hw1, hw2⟩
  rotate_left
  · have HX := hidQ (okSigC_3 (ps := ps) (s := s) (pi := pi) (pl := pl) q3)
    clear q3
    go_enter Try.func139, Try.ntmps139
    go_wp2_with (first | (go_at_call 165; refine (nameOk_any _ _ hs).mono ?_; rintro e w' ⟨rfl, rfl⟩) | (go_at_call 121; refine (within_any _ _ _ _).mono ?_; rintro e w' ⟨rfl, rfl⟩))
    go_quiet ((go_at_call 121; exact Calls.quiet_of_same (within_any _ _ _ _)))
    go_wp2_with fail
    go_ret
    exact ⟨ret_bool HX.out.symm, (by repeat (first | exact Below.refl _ _ | assumption | refine Below.drew ?_ | refine bdrewN ?_ _ | refine Below.setCell ?_ (by first | omega | (simp; done) | (simp; omega)) _ | refine Below.alloc ?_ (by first | omega | (simp; done) | (simp; omega)) _))⟩
  have HO := hidQ (okSigC_4 (ps := ps) (pl := pl) q1 q2 q3)
  have hin : 0 ≤ pi ∧ pi < ps.length := by
    unfold inB at q2
    simp at q2
    omega
  obtain ⟨k, rfl⟩ := Int.eq_ofNat_of_zero_le hin.1
  have hkl : k < ps.length := by omega
  have hk0 : (0 : Int) ≤ (k : Int) := by omega
  have hk1 : (k : Int) < (ps.length : Int) := by omega
  obtain ⟨hpk1, hpk2⟩ := hpl.out k hkl
  have HLA : Hid (okSigC ps s (k : Int) pl wy = inB pl 1 (ps[k].len - 1)) := by
    have h := HO.out
    erw [lenAt_at hkl] at h
    exact h
  obtain ⟨b2, off2, rfl, hpp⟩ := hp.out.2.2.resolve_left (fun h => by rw [h] at hkl; exact absurd hkl (Nat.not_lt_zero _))
  obtain ⟨d1, d2, d3, d4⟩ := hpp k hkl
  have hzb2 : b2 < w.heap.size := cellLt d1
  clear hpp d1 d3 d4 hin q3 HO
  rcases hw with hw1 | ⟨hw1, hw2⟩
  all_goals
    go_enter Try.func139, Try.ntmps139
    go_wp2_with (first | (go_at_call 165; refine (nameOk_any _ _ hs).mono ?_; rintro e w' ⟨rfl, rfl⟩) | (go_at_call 121; refine (within_any _ _ _ _).mono ?_; rintro e w' ⟨rfl, rfl⟩))
    go_quiet ((go_at_call 121; exact Calls.quiet_of_same (within_any _ _ _ _)))
    go_wp2_with fail
    go_ret
    exact ⟨ret_bool HLA.out.symm, (by repeat (first | exact Below.refl _ _ | assumption | refine Below.drew ?_ | refine bdrewN ?_ _ | refine Below.setCell ?_ (by first | omega | (simp; done) | (simp; omega)) _ | refine Below.alloc ?_ (by first | omega | (simp; done) | (simp; omega)) _))⟩

set_option maxHeartbeats 2000000 in
theorem firstWrongSignal_any (pa sa : Option Addr) (pc sc : Nat) (ps ss : List MPiece) (w : World) (hp : Hid (PiecesAt w pa ps)) (hs : Hid (PiecesAt w sa ss)) (hp100 : ps.length ≤ 100) (hpl : Hid (∀ k (hk : k < ps.length), 1 ≤ ps[k].len ∧ ps[k].len ≤ 10000000)) :
    Calls Try.prog 74 #[.slice pa ps.length pc, .slice sa ss.length sc] w fun e w' => e = .returned (.int .i64 (firstBad (badS3 ps ss) ss.length)) ∧ Below w.heap.size w w' := by
  have hl := hs.out.1
  unfold maxLen at hl
  go_enter Try.func74, Try.ntmps74
  go_wp2_with fail
  go_loopw [9] (fun c wr => ∃ (i : Nat), i ≤ ss.length ∧ c = .int .i64 i ∧ Hid (∀ q, q < i → badS3 ps ss q = false) ∧ Below w.heap.size w wr) (fun c _ => ss.length - (intOf c).toNat)
  case atStart => exact ⟨0, Nat.zero_le _, rfl, (fun q h => absurd h (Nat.not_lt_zero q)), (by repeat (first | exact Below.refl _ _ | assumption | refine Below.drew ?_ | refine bdrewN ?_ _ | refine Below.setCell ?_ (by first | omega | (simp; done) | (simp; omega)) _ | refine Below.alloc ?_ (by first | omega | (simp; done) | (simp; omega)) _))⟩
  case round =>
    obtain ⟨i, hi, rfl, HQ, hb⟩ := hrel
    have hbs := hb.size
    by_cases hi' : i < ss.length
    · obtain ⟨b1, off1, rfl, hpc⟩ := hs.out.2.2.resolve_left (fun h => by rw [h] at hi'; exact absurd hi' (Nat.not_lt_zero _))
      obtain ⟨c1, c2, c3, c4⟩ := (hpc.below hb) i hi'
      have hsz : ss[i].name.size ≤ maxLen := hs.out.2.1 _ (List.getElem_mem hi')
      have HP := hidQ (hp.out.below hb)
      clear hpc
      go_wp2_with fail
      refine (signalOk_any _ _ _ _ _ _ _ _ (HP.out.below (by repeat (first | exact Below.refl _ _ | assumption | refine Below.drew ?_ | refine bdrewN ?_ _ | refine Below.setCell ?_ (by first | omega | (simp; done) | (simp; omega)) _ | refine Below.alloc ?_ (by first | omega | (simp; done) | (simp; omega)) _))) hsz hp100 hpl).mono ?_
      rintro e w2 ⟨rfl, hb2⟩
      have hb3 : Below w.heap.size w w2 := Below.trans (by repeat (first | exact Below.refl _ _ | assumption | refine Below.drew ?_ | refine bdrewN ?_ _ | refine Below.setCell ?_ (by first | omega | (simp; done) | (simp; omega)) _ | refine Below.alloc ?_ (by first | omega | (simp; done) | (simp; omega)) _)) (hb2.mono (by simp; omega))
      clear hb hb2 c1 c2 c3 c4 HP
      cases ho : okSigC ps ss[i].name ss[i].len ss[i].speed ss[i].brake
      · have HX := hidQ (firstBad_hit hi' (by rw [badS3_at hi', okSig, ho]; rfl) HQ.out)
        clear ho
        go_wp2_with fail
        go_ret
        exact ⟨ret_int HX.out.symm, hb3⟩
      · have HQ2 : Hid (∀ q, q < i + 1 → badS3 ps ss q = false) := by
          intro q hq
          by_cases e : q < i
          · exact HQ.out q e
          · have : q = i := by omega
            subst this
            rw [badS3_at hi', okSig, ho]; rfl
        clear ho HQ
        go_wp2_with fail
        go_roundw
        case rel => exact ⟨i + 1, by omega, by go_num, HQ2, hb3⟩
        case measure => simp [intOf]; omega
    · have HX := hidQ (firstBad_none (bad := badS3 ps ss) (n := ss.length) (fun q h => HQ.out q (by omega)))
      clear HQ
      go_wp2_with fail
      go_ret
      exact ⟨ret_int HX.out.symm, hb⟩

end Go.Proofs.Ytmkdgnmmebldgaa
