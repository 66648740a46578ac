import Derived.Test.YtmkdgnmmebldgaaMaps
import Derived.Test.YtmkdgnmmebldgaaKind
namespace Go.Proofs.Ytmkdgnmmebldgaa
open Go.RowKit

theorem bcellM {W w1 : World} (hb : Below W.heap.size W w1) : (∀ b o, b < W.heap.size → w1.cell? ⟨b, o, none⟩ = W.cell? ⟨b, o, none⟩) :=
  fun b o h => hb.cell (p := ⟨b, o, none⟩) h

theorem badPi_of_bad {ps : List MPiece} {i : Nat} (h : i < ps.length) (hp : pieceB ps[i].name ps[i].len ps[i].speed ps[i].brake = false) : badPi ps i = true := by
  rw [badPi_at h]; simp [okP, hp]
theorem namesP_succ {ps : List MPiece} {i : Nat} (h : i < ps.length) : namesP (ps.take (i + 1)) = namesP (ps.take i) ++ [ps[i].name] := by
  unfold namesP
  rw [List.take_succ_eq_append_getElem h, List.map_append]
  rfl

set_option maxHeartbeats 1000000 in
theorem firstWrongPiece_any (pa : Option Addr) (pc : Nat) (ps : List MPiece) (w : World) (hp : Hid (PiecesAt w pa ps)) (hl : ps.length ≤ 1000000) :
    Calls Try.prog 64 #[.slice pa ps.length pc] w fun e w' => e = .returned (.int .i64 (firstBad (badPi ps) ps.length)) ∧ Below w.heap.size w w' := by
  have hmm := @run_makeMap Try.prog
  go_enter Try.func64, Try.ntmps64
  go_wp2_with fail
  have HM := hidQ (CMap.made 9 w)
  rw [← fS_nil] at HM
  go_loopw [9] (fun c wr => ∃ (i : Nat), i ≤ ps.length ∧ c = .int .i64 i ∧ Hid (∀ q, q < i → badPi ps q = false) ∧ Hid (CMap 9 wr w.heap.size i (fS (namesP (ps.take i)))) ∧ Below w.heap.size w wr) (fun c _ => ps.length - (intOf c).toNat)
  case atStart => exact ⟨0, Nat.zero_le _, rfl, (fun q h => absurd h (Nat.not_lt_zero q)), HM.out, (by repeat (first | exact Below.refl _ _ | assumption | refine Below.drew ?_ | refine bdrewN ?_ _ | refine Below.setCell ?_ (by first | omega | (simp; done) | (simp; omega)) _ | refine Below.alloc ?_ (by first | omega | (simp; done) | (simp; omega)) _))⟩
  case round =>
    clear HM hmm
    obtain ⟨i, hi, rfl, HQ, HM, hb⟩ := hrel
    have hbs := hb.size
    by_cases hi' : i < ps.length
    · obtain ⟨b1, off1, rfl, hpc⟩ := hp.out.2.2.resolve_left (fun h => by rw [h] at hi'; exact absurd hi' (Nat.not_lt_zero _))
      obtain ⟨c1, c2, c3, c4⟩ := (hpc.below hb) i hi'
      have hsz : ps[i].name.size ≤ maxLen := hp.out.2.1 _ (List.getElem_mem hi')
      clear hpc
      go_wp2_with fail
      refine (pieceOk_any _ _ _ _ _ hsz).mono ?_
      rintro e w2 ⟨rfl, hb2⟩
      have hc2 := bcellM hb2
      have hb3 : Below w.heap.size w w2 := Below.trans (by repeat (first | exact Below.refl _ _ | assumption | refine Below.drew ?_ | refine bdrewN ?_ _ | refine Below.setCell ?_ (by first | omega | (simp; done) | (simp; omega)) _ | refine Below.alloc ?_ (by first | omega | (simp; done) | (simp; omega)) _)) (hb2.mono (by simp; omega))
      have hM2 : CMap 9 w2 w.heap.size i (fS (namesP (ps.take i))) := (HM.out.below (show Below wr.heap.size wr (wr.alloc _) from (by repeat (first | exact Below.refl _ _ | assumption | refine Below.drew ?_ | refine bdrewN ?_ _ | refine Below.setCell ?_ (by first | omega | (simp; done) | (simp; omega)) _ | refine Below.alloc ?_ (by first | omega | (simp; done) | (simp; omega)) _)))).below hb2
      clear hb hb2 c1 c2 c3 c4 HM
      cases hP : pieceB ps[i].name ps[i].len ps[i].speed ps[i].brake
      · have HX := hidQ (firstBad_hit hi' (badPi_of_bad hi' hP) HQ.out)
        clear hP hM2
        go_wp2_with fail
        go_ret
        exact ⟨ret_int HX.out.symm, hb3⟩
      · have hlk := hM2.lookup lawS Try.underlying222 (keyS hsz)
        cases hA : aheadB (namesP (ps.take i)) ps[i].name
        · have h0 : fS (namesP (ps.take i)) (.string ps[i].name) = 0 := by
            show ((cntS _ _ : Nat) : Int) = 0
            rw [(cntS_zero _ _).2 hA]; rfl
          rw [h0] at hlk
          obtain ⟨w3, hup, hM3, hg⟩ := hM2.update lawS Try.underlying222 (by unfold maxLen; omega) (keyS hsz) 1 (wf64 (by omega) (by omega)) (fS (namesP (ps.take (i + 1)))) (by rw [namesP_succ hi', fS_same, (cntS_zero _ _).2 hA]; rfl) (by rw [namesP_succ hi']; exact fS_other _ _)
          have HM3 := hidQ hM3
          have hb4 : Below w.heap.size w w3 := hb3.grown hg hb3.size (fun j hj => by cases hj; exact Nat.le_refl _)
          have HQ2 : Hid (∀ q, q < i + 1 → badPi ps q = false) := by
            intro q hq
            by_cases e : q < i
            · exact HQ.out q e
            · have : q = i := by omega
              subst this
              rw [badPi_at hi', okP, hP, hA]
              rfl
          clear hP hA h0 hM2 hM3 hg hb3 HQ
          go_wp2_with fail
          go_roundw
          case rel => exact ⟨i + 1, by omega, by go_num, HQ2, HM3, hb4⟩
          case measure => simp [intOf]; omega
        · have HX := hidQ (firstBad_hit hi' (by rw [badPi_at hi']; simp [okP, hA]) HQ.out)
          have hpos : 0 < fS (namesP (ps.take i)) (.string ps[i].name) := by
            show (0 : Int) < ((cntS _ _ : Nat) : Int)
            have : cntS (namesP (ps.take i)) ps[i].name ≠ 0 := fun h => by rw [cntS_zero, hA] at h; cases h
            omega
          generalize fS (namesP (ps.take i)) (.string ps[i].name) = c0 at hlk hpos
          clear hP hA hM2
          go_wp2_with fail
          go_ret
          exact ⟨ret_int HX.out.symm, hb3⟩
    · have HX := hidQ (firstBad_none (bad := badPi ps) (n := ps.length) (fun q h => HQ.out q (by omega)))
      clear HQ HM
      go_wp2_with fail
      go_ret
      exact ⟨ret_int HX.out.symm, hb⟩

end Go.Proofs.Ytmkdgnmmebldgaa
