import Derived.Test.YtmkdgnmmebldgaaImplSig2
import Derived.Test.YtmkdgnmmebldgaaSig
namespace Go.Proofs.Ytmkdgnmmebldgaa
open Go.RowKit

set_option maxHeartbeats 4000000 in
theorem lawSignalsOk_any (pa ja sa : Option Addr) (pc jc sc : Nat) (ps : List MPiece) (js : List MJoint) (ss : List MPiece) (w : World) (hp : Hid (PiecesAt w pa ps)) (hj : Hid (JointsAt w ja js)) (hs : Hid (PiecesAt w sa ss)) :
    Calls Try.prog 7 #[.agg #[.slice pa ps.length pc, .slice ja js.length jc], .slice sa ss.length sc] w fun e w' => e = .returned (.bool true) ∧ Below w.heap.size w w' := by
  go_enter Try.func7, Try.ntmps7
  go_wp2_with fail
  generalize hW : w.alloc (Obj.cells #[Value.slice pa ps.length pc, Value.slice ja js.length jc] 63) = W
  have e0 : W.cell? ⟨w.heap.size, 0, none⟩ = some (.slice pa ps.length pc) := by rw [← hW]; simp [go_sem]
  have e1 : W.cell? ⟨w.heap.size, 1, none⟩ = some (.slice ja js.length jc) := by rw [← hW]; simp [go_sem]
  have hz : w.heap.size + 1 = W.heap.size := by rw [← hW]; simp
  have hzA : w.heap.size < W.heap.size := by omega
  have hbW : Below w.heap.size w W := by rw [← hW]; exact (by repeat (first | exact Below.refl _ _ | assumption | refine Below.drew ?_ | refine bdrewN ?_ _ | refine Below.setCell ?_ (by first | omega | (simp; done) | (simp; omega)) _ | refine Below.alloc ?_ (by first | omega | (simp; done) | (simp; omega)) _))
  have HP := hidQ (hp.out.below hbW)
  have HJ := hidQ (hj.out.below hbW)
  have HS := hidQ (hs.out.below hbW)
  clear hW hz
  refine (szNet_any _ _ _ _ _ _ _ _ HP HJ (by omega) (by omega)).mono ?_
  rintro e w1 ⟨r, rfl, hr1, hr2, hb1⟩
  have HSZ := hidQ hr2
  clear hr2
  have e0' := cell_later hb1 e0
  have e1' := cell_later hb1 e1
  by_cases hr : r < 0
  · go_wp2_with fail
    go_ret
    exact ⟨rfl, hbW.trans (hb1.mono hbW.size)⟩
  obtain ⟨sz1, sz2, sz3⟩ := HSZ.out (by omega)
  have SZ3 := hidQ sz3
  clear sz3 HSZ
  have hrs : ∃ r2 : Int, (if r < ss.length then -1 else szP (r - ss.length) ss) = r2 ∧ (0 ≤ r2 → (ss.length : Int) ≤ 1048576) := by
    refine ⟨_, rfl, ?_⟩
    by_cases h : r < ss.length
    · rw [if_pos h]; exact fun h => absurd h (by omega)
    · exact fun _ => by omega
  obtain ⟨r2, hq1, hq2⟩ := hrs
  have HQ1 := hidQ hq1
  have HQ2 := hidQ hq2
  clear hq1 hq2
  go_wp2_with fail
  refine (szSignalS_any _ _ _ _ _ (HS.out.below hb1) (by omega) (by omega)).mono ?_
  rintro e w1b ⟨rfl, hb1b⟩
  rw [HQ1.out]
  have hb1' := hb1.trans (hb1b.mono hb1.size)
  replace e0' := cell_later hb1b e0'
  replace e1' := cell_later hb1b e1'
  clear hb1 hb1b
  by_cases hr3 : r2 < 0
  · go_wp2_with fail
    go_ret
    exact ⟨rfl, hbW.trans (hb1'.mono hbW.size)⟩
  have sz4 : ss.length ≤ 1048576 := by have := HQ2.out (by omega); omega
  clear HQ1 HQ2
  go_wp2_with fail
  refine (toNet_any _ _ _ _ _ _ _ (HP.out.below hb1') (HJ.out.below hb1') sz1 sz2 SZ3).mono ?_
  rintro e w2 ⟨g1, g2, rfl, HP2, HJ2, hb2⟩
  have hb2' := hb1'.trans (hb2.mono hb1'.size)
  replace e0' := cell_later hb2 e0'
  replace e1' := cell_later hb2 e1'
  clear hb1' hb2
  go_wp2_with fail
  refine (toSignalS_walk _ _ _ _ (HS.out.below hb2') sz4).mono ?_
  rintro e w2b ⟨g3, rfl, hq3, hb2b, _⟩
  have HS2 : Hid (PiecesAt w2b (some ⟨g3, 0, none⟩) ss) := ⟨HS.out.1, HS.out.2.1, Or.inr ⟨g3, 0, rfl, hq3.out⟩⟩
  have HP2b := hidQ (HP2.out.below hb2b)
  have HJ2b := hidQ (HJ2.out.below hb2b)
  have hb2b' := hb2'.trans (hb2b.mono hb2'.size)
  replace e0' := cell_later hb2b e0'
  replace e1' := cell_later hb2b e1'
  clear hb2' hb2b HP2 HJ2 hq3
  go_wp2_with fail
  refine (specSignalsOk_any _ _ _ _ _ _ _ _ _ _ HP2b HJ2b HS2).mono ?_
  rintro e w3 ⟨rfl, hb3⟩
  have hb3' := hb2b'.trans (hb3.mono hb2b'.size)
  replace e0' := cell_later hb3 e0'
  replace e1' := cell_later hb3 e1'
  clear hb2b' hb3 HP2b HJ2b HS2
  obtain ⟨fc, fa, hf⟩ : ∃ fc fa, sigF ps js ss = (fc, fa) := ⟨_, _, rfl⟩
  have HF := hidQ hf
  rw [hf]
  clear hf
  unfold faultV
  have hz3 : w.heap.size < w3.heap.size := Nat.lt_of_lt_of_le hzA hb3'.size
  go_wp2_with fail
  generalize hW4 : w3.alloc (Obj.cells #[Value.int IntKind.i64 fc, Value.int IntKind.i64 fa] 66) = W4
  have hb4 : Below W.heap.size W W4 := by rw [← hW4]; exact hb3'.alloc hb3'.size _
  have q0 : W4.cell? ⟨w3.heap.size, 0, none⟩ = some (.int .i64 fc) := by rw [← hW4]; simp [go_sem]
  have q1 : W4.cell? ⟨w3.heap.size, 1, none⟩ = some (.int .i64 fa) := by rw [← hW4]; simp [go_sem]
  have hz4 : w3.heap.size < W4.heap.size := by rw [← hW4]; simp
  generalize w3.heap.size = n4 at q0 q1 hz4 ⊢
  clear hW4 hb3' e0' e1' hz3
  refine (toNet_any _ _ _ _ _ _ _ (HP.out.below hb4) (HJ.out.below hb4) sz1 sz2 SZ3).mono ?_
  rintro e w5 ⟨g4, g5, rfl, HP5, HJ5, hb5⟩
  have hb5' := hb4.trans (hb5.mono hb4.size)
  replace q0 := cell_later hb5 q0
  replace q1 := cell_later hb5 q1
  have hz5 : n4 < w5.heap.size := Nat.lt_of_lt_of_le hz4 hb5.size
  clear hb4 hb5 hz4
  go_wp2_with fail
  generalize hW6 : w5.alloc (Obj.cells #[Value.slice (some ⟨g4, 0, none⟩) ps.length ps.length, Value.slice (some ⟨g5, 0, none⟩) js.length js.length] 26) = W6
  have hb6w : Below w5.heap.size w5 W6 := by rw [← hW6]; exact (by repeat (first | exact Below.refl _ _ | assumption | refine Below.drew ?_ | refine bdrewN ?_ _ | refine Below.setCell ?_ (by first | omega | (simp; done) | (simp; omega)) _ | refine Below.alloc ?_ (by first | omega | (simp; done) | (simp; omega)) _))
  have hb6 : Below W.heap.size W W6 := hb5'.trans (hb6w.mono hb5'.size)
  have x0 : W6.cell? ⟨w5.heap.size, 0, none⟩ = some (.slice (some ⟨g4, 0, none⟩) ps.length ps.length) := by rw [← hW6]; simp [go_sem]
  have x1 : W6.cell? ⟨w5.heap.size, 1, none⟩ = some (.slice (some ⟨g5, 0, none⟩) js.length js.length) := by rw [← hW6]; simp [go_sem]
  have hz6 : w5.heap.size < W6.heap.size := by rw [← hW6]; simp
  replace q0 := cell_later hb6w q0
  replace q1 := cell_later hb6w q1
  have HP6 := hidQ (HP5.out.below hb6w)
  have HJ6 := hidQ (HJ5.out.below hb6w)
  have hz6' : n4 < W6.heap.size := by omega
  generalize w5.heap.size = n6 at x0 x1 hz6 ⊢
  clear hW6 hb5' hb6w HP5 HJ5 hz5
  refine (toSignalS_walk _ _ _ _ (HS.out.below hb6) sz4).mono ?_
  rintro e w6b ⟨g6, rfl, hq6, hb6b, _⟩
  have HS6 : Hid (PiecesAt w6b (some ⟨g6, 0, none⟩) ss) := ⟨HS.out.1, HS.out.2.1, Or.inr ⟨g6, 0, rfl, hq6.out⟩⟩
  have hb6b' := hb6.trans (hb6b.mono hb6.size)
  replace q0 := cell_later hb6b q0
  replace q1 := cell_later hb6b q1
  replace x0 := cell_later hb6b x0
  replace x1 := cell_later hb6b x1
  have HP6b := hidQ (HP6.out.below hb6b)
  have HJ6b := hidQ (HJ6.out.below hb6b)
  have hz6b : n4 < w6b.heap.size := Nat.lt_of_lt_of_le hz6' hb6b.size
  have hz6c : n6 < w6b.heap.size := Nat.lt_of_lt_of_le hz6 hb6b.size
  clear hb6 hb6b HP6 HJ6 hz6 hz6' hq6
  go_wp2_with fail
  refine (implSignalsOk_any _ _ _ _ _ _ _ _ _ _ HP6b HJ6b HS6).mono ?_
  rintro e w7 ⟨rfl, hb7⟩
  rw [HF.out]
  unfold faultV
  have hb7' := hb6b'.trans (hb7.mono hb6b'.size)
  replace q0 := cell_later hb7 q0
  replace q1 := cell_later hb7 q1
  replace x0 := cell_later hb7 x0
  replace x1 := cell_later hb7 x1
  have HP7 := hidQ (HP6b.out.below hb7)
  have HJ7 := hidQ (HJ6b.out.below hb7)
  have HS7 := hidQ (HS6.out.below hb7)
  have hz7 : n4 < w7.heap.size := Nat.lt_of_lt_of_le hz6b hb7.size
  have hz8 : n6 < w7.heap.size := Nat.lt_of_lt_of_le hz6c hb7.size
  clear hb6b' hb7 HP6b HJ6b HS6 hz6b hz6c
  go_wp2_with fail
  refine (eqFault_any _ _ _).mono ?_
  rintro e w8 ⟨rfl, hb8⟩
  have hb8w : Below w7.heap.size w7 w8 := Below.trans (by repeat (first | exact Below.refl _ _ | assumption | refine Below.drew ?_ | refine bdrewN ?_ _ | refine Below.setCell ?_ (by first | omega | (simp; done) | (simp; omega)) _ | refine Below.alloc ?_ (by first | omega | (simp; done) | (simp; omega)) _)) (hb8.mono (by simp))
  have hb8' := hb7'.trans (hb8w.mono hb7'.size)
  replace x0 := cell_later hb8w x0
  replace x1 := cell_later hb8w x1
  have HP8 := hidQ (HP7.out.below hb8w)
  have HJ8 := hidQ (HJ7.out.below hb8w)
  have HS8 := hidQ (HS7.out.below hb8w)
  have e0'' := cell_later hb8' e0
  have e1'' := cell_later hb8' e1
  have hz9 : n6 < w8.heap.size := Nat.lt_of_lt_of_le hz8 hb8w.size
  have hz10 : w.heap.size < w8.heap.size := Nat.lt_of_lt_of_le hzA hb8'.size
  have HPa := hidQ (HP.out.below hb8')
  have HJa := hidQ (HJ.out.below hb8')
  clear hb7' hb8 hb8w HP7 HJ7 HS7 q0 q1 hz7 hz8
  go_wp2_with fail
  go_region_with (first
    | (go_at_call 22; refine (toNet_any _ _ _ _ _ _ _ (HPa.out.below (Below.refl _ _).drew) (HJa.out.below (Below.refl _ _).drew) sz1 sz2 SZ3).mono ?_; rintro e w9 ⟨g7, g8, rfl, HP9, HJ9, hb9⟩; have y0 := cell_later ((Below.refl _ _).drew.trans hb9) x0; have y1 := cell_later ((Below.refl _ _).drew.trans hb9) x1)
    | (go_at_call 25; refine (eqNet_any _ _ _ _ _ _ _ _ _ _ _ (HP8.out.below ((Below.refl _ _).drew.trans hb9)) (HJ8.out.below ((Below.refl _ _).drew.trans hb9)) HP9 HJ9).mono ?_; rintro e w10 ⟨rfl, hb10⟩))
  all_goals
    have hb810 : Below w8.heap.size w8 w10 := ((Below.refl _ _).drew.trans hb9).trans (hb10.mono hb9.size)
    have hbF : Below W.heap.size W w10 := hb8'.trans (hb810.mono hb8'.size)
    have HS10 := hidQ (HS8.out.below hb810)
    clear hb9 hb10 hb810
    go_wp2_with fail
    refine (toSignalS_walk _ _ _ _ (HS.out.below hbF) sz4).mono ?_
    rintro e w11 ⟨g9, rfl, hq9, hb11, _⟩
    have HS11 : Hid (PiecesAt w11 (some ⟨g9, 0, none⟩) ss) := ⟨HS.out.1, HS.out.2.1, Or.inr ⟨g9, 0, rfl, hq9.out⟩⟩
    have HS12 := hidQ (HS10.out.below hb11)
    have hb11' := hbF.trans (hb11.mono hbF.size)
    clear hb11 hbF hq9 HS10
    go_wp2_with fail
    refine (eqSignalS_walk _ _ _ _ _ _ HS12 HS11).mono ?_
    rintro e w12 ⟨rfl, hb12⟩
    have hb12' := hb11'.trans (hb12.mono hb11'.size)
    clear hb11' hb12
    go_wp2_with fail
    go_ret
    exact ⟨rfl, hbW.trans (hb12'.mono hbW.size)⟩

end Go.Proofs.Ytmkdgnmmebldgaa
