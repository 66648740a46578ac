import Derived.Test.YtmkdgnmmebldgaaGreatEx10
import Derived.RegionTactic
import Derived.Deep.RegionWith
import Derived.Deep.RegionHeld3
import Derived.Deep.QuietTactic
import Derived.BigQuiet
namespace Go.Proofs.YtmkdgnmmebldgaaGreat
open Go.RowKit Go.Deep

set_option maxHeartbeats 1000000 in
theorem eqPieceS_walk (a b : Option Addr) (ac bc : Nat) (ps : List MPiece) (w : World) (ha : Hid (PiecesAt w a ps)) (hb : Hid (PiecesAt w b ps)) :
    Calls Tryz.prog 32 #[.slice a ps.length ac, .slice b ps.length bc] w fun e w' => e = .returned (.bool true) ∧ Below w.heap.size w w' := by
  have hl := ha.out.1
  unfold maxLen at hl
  go_enter Tryz.func32, Tryz.ntmps32
  go_wp2_with fail
  go_loopw [5] (fun i wr => ∃ (k : Nat), k ≤ ps.length ∧ i = .int .i64 k ∧ Below w.heap.size w wr) (fun i _ => ps.length - (intOf i).toNat)
  case atStart => exact ⟨0, Nat.zero_le _, rfl, (by repeat (first | exact Below.refl _ _ | assumption | refine Below.drew ?_ | refine bdrewN ?_ _ | refine Below.setCell ?_ (by first | omega | (simp; done) | (simp; omega)) _ | refine Below.alloc ?_ (by first | omega | (simp; done) | (simp; omega)) _))⟩
  case round =>
    obtain ⟨k, hk, rfl, hbw⟩ := hrel
    by_cases hk' : k < ps.length
    · obtain ⟨b1, off1, rfl, hpc1⟩ := ha.out.2.2.resolve_left (fun h => by rw [h] at hk'; exact absurd hk' (Nat.not_lt_zero _))
      obtain ⟨b2, off2, rfl, hpc2⟩ := hb.out.2.2.resolve_left (fun h => by rw [h] at hk'; exact absurd hk' (Nat.not_lt_zero _))
      obtain ⟨c1, c2, c3, c4⟩ := (hpc1.below hbw) k hk'
      obtain ⟨d1, d2, d3, d4⟩ := (hpc2.below hbw) k hk'
      clear hpc1 hpc2
      go_wp2_with fail
      go_region_with (go_at_call 74; refine (eqPiece_any _ _ _ _ _).mono ?_; rintro e w2 ⟨rfl, hb2⟩)
      all_goals
        go_wp2_with fail
        go_roundw
        case rel => exact ⟨k + 1, by omega, by go_num, hbw.drew.trans (hb2.mono hbw.size)⟩
        case measure => simp [intOf]; omega
    · go_wp2
      go_ret
      exact ⟨rfl, hbw⟩

set_option maxHeartbeats 1000000 in
theorem eqEndS_walk (a b : Option Addr) (ac bc : Nat) (ps : List MEnd) (w : World) (ha : Hid (EndsAt w a ps)) (hb : Hid (EndsAt w b ps)) :
    Calls Tryz.prog 98 #[.slice a ps.length ac, .slice b ps.length bc] w fun e w' => e = .returned (.bool true) ∧ Below w.heap.size w w' := by
  have hl := ha.out.1
  unfold maxLen at hl
  go_enter Tryz.func98, Tryz.ntmps98
  go_wp2_with fail
  go_loopw [5] (fun i wr => ∃ (k : Nat), k ≤ ps.length ∧ i = .int .i64 k ∧ Below w.heap.size w wr) (fun i _ => ps.length - (intOf i).toNat)
  case atStart => exact ⟨0, Nat.zero_le _, rfl, (by repeat (first | exact Below.refl _ _ | assumption | refine Below.drew ?_ | refine bdrewN ?_ _ | refine Below.setCell ?_ (by first | omega | (simp; done) | (simp; omega)) _ | refine Below.alloc ?_ (by first | omega | (simp; done) | (simp; omega)) _))⟩
  case round =>
    obtain ⟨k, hk, rfl, hbw⟩ := hrel
    by_cases hk' : k < ps.length
    · obtain ⟨b1, off1, rfl, hpc1⟩ := ha.out.2.resolve_left (fun h => by rw [h] at hk'; exact absurd hk' (Nat.not_lt_zero _))
      obtain ⟨b2, off2, rfl, hpc2⟩ := hb.out.2.resolve_left (fun h => by rw [h] at hk'; exact absurd hk' (Nat.not_lt_zero _))
      obtain ⟨c1, c2⟩ := (hpc1.below hbw) k hk'
      obtain ⟨d1, d2⟩ := (hpc2.below hbw) k hk'
      clear hpc1 hpc2
      go_wp2_with fail
      go_region_with (go_at_call 117; refine (eqEnd_any _ _ _).mono ?_; rintro e w2 ⟨rfl, hb2⟩)
      all_goals
        go_wp2_with fail
        go_roundw
        case rel => exact ⟨k + 1, by omega, by go_num, hbw.drew.trans (hb2.mono hbw.size)⟩
        case measure => simp [intOf]; omega
    · go_wp2
      go_ret
      exact ⟨rfl, hbw⟩

set_option maxHeartbeats 1000000 in
theorem eqJoint_any (kd : Int) (s : ByteArray) (a b : Option Addr) (ac bc : Nat) (ps : List MEnd) (w : World) (ha : Hid (EndsAt w a ps)) (hb : Hid (EndsAt w b ps)) :
    Calls Tryz.prog 75 #[.agg #[.int .i64 kd, .string s, .slice a ps.length ac], .agg #[.int .i64 kd, .string s, .slice b ps.length bc]] w fun e w' => e = .returned (.bool true) ∧ Below w.heap.size w w' := by
  go_enter Tryz.func75, Tryz.ntmps75
  go_wp2_with fail
  refine (eqEndS_walk _ _ _ _ _ _ (ha.out.below (by repeat (first | exact Below.refl _ _ | assumption | refine Below.drew ?_ | refine bdrewN ?_ _ | refine Below.setCell ?_ (by first | omega | (simp; done) | (simp; omega)) _ | refine Below.alloc ?_ (by first | omega | (simp; done) | (simp; omega)) _))) (hb.out.below (by repeat (first | exact Below.refl _ _ | assumption | refine Below.drew ?_ | refine bdrewN ?_ _ | refine Below.setCell ?_ (by first | omega | (simp; done) | (simp; omega)) _ | refine Below.alloc ?_ (by first | omega | (simp; done) | (simp; omega)) _)))).mono ?_
  rintro e w2 ⟨rfl, hb2⟩
  have hb3 : Below w.heap.size w w2 := Below.trans (by repeat (first | exact Below.refl _ _ | assumption | refine Below.drew ?_ | refine bdrewN ?_ _ | refine Below.setCell ?_ (by first | omega | (simp; done) | (simp; omega)) _ | refine Below.alloc ?_ (by first | omega | (simp; done) | (simp; omega)) _)) (hb2.mono (by simp; omega))
  clear hb2
  go_wp2_with fail
  go_ret
  exact ⟨rfl, hb3⟩

set_option maxHeartbeats 1000000 in
theorem eqJointS_walk (a b : Option Addr) (ac bc : Nat) (ps : List MJoint) (w : World) (ha : Hid (JointsAt w a ps)) (hb : Hid (JointsAt w b ps)) :
    Calls Tryz.prog 33 #[.slice a ps.length ac, .slice b ps.length bc] w fun e w' => e = .returned (.bool true) ∧ Below w.heap.size w w' := by
  have hl := ha.out.1
  unfold maxLen at hl
  go_enter Tryz.func33, Tryz.ntmps33
  go_wp2_with fail
  go_loopw [5] (fun i wr => ∃ (k : Nat), k ≤ ps.length ∧ i = .int .i64 k ∧ Below w.heap.size w wr) (fun i _ => ps.length - (intOf i).toNat)
  case atStart => exact ⟨0, Nat.zero_le _, rfl, (by repeat (first | exact Below.refl _ _ | assumption | refine Below.drew ?_ | refine bdrewN ?_ _ | refine Below.setCell ?_ (by first | omega | (simp; done) | (simp; omega)) _ | refine Below.alloc ?_ (by first | omega | (simp; done) | (simp; omega)) _))⟩
  case round =>
    obtain ⟨k, hk, rfl, hbw⟩ := hrel
    by_cases hk' : k < ps.length
    · obtain ⟨b1, off1, rfl, hpc1⟩ := ha.out.2.2.resolve_left (fun h => by rw [h] at hk'; exact absurd hk' (Nat.not_lt_zero _))
      obtain ⟨b2, off2, rfl, hpc2⟩ := hb.out.2.2.resolve_left (fun h => by rw [h] at hk'; exact absurd hk' (Nat.not_lt_zero _))
      obtain ⟨c1, c2, ea, ec, c3, c4⟩ := (hpc1.below hbw) k hk'
      obtain ⟨d1, d2, eb, ed, d3, d4⟩ := (hpc2.below hbw) k hk'
      have C4 := hidP c4
      have D4 := hidP d4
      clear hpc1 hpc2 c4 d4
      go_wp2_with fail
      go_region_with (go_at_call 75; refine (eqJoint_any _ _ _ _ _ _ _ _ (C4.out.below (Below.refl _ _).drew) (D4.out.below (Below.refl _ _).drew)).mono ?_; rintro e w2 ⟨rfl, hb2⟩)
      all_goals
        go_wp2_with fail
        go_roundw
        case rel => exact ⟨k + 1, by omega, by go_num, hbw.drew.trans (hb2.mono hbw.size)⟩
        case measure => simp [intOf]; omega
    · go_wp2
      go_ret
      exact ⟨rfl, hbw⟩

set_option maxHeartbeats 1000000 in
theorem eqNet_any (pa ja pb jb : Option Addr) (pac jac pbc jbc : Nat) (ps : List MPiece) (js : List MJoint) (w : World) (hpa : Hid (PiecesAt w pa ps)) (hja : Hid (JointsAt w ja js)) (hpb : Hid (PiecesAt w pb ps)) (hjb : Hid (JointsAt w jb js)) :
    Calls Tryz.prog 11 #[.agg #[.slice pa ps.length pac, .slice ja js.length jac], .agg #[.slice pb ps.length pbc, .slice jb js.length jbc]] w fun e w' => e = .returned (.bool true) ∧ Below w.heap.size w w' := by
  go_enter Tryz.func11, Tryz.ntmps11
  go_wp2_with fail
  refine (eqPieceS_walk _ _ _ _ _ _ (hpa.out.below (by repeat (first | exact Below.refl _ _ | assumption | refine Below.drew ?_ | refine bdrewN ?_ _ | refine Below.setCell ?_ (by first | omega | (simp; done) | (simp; omega)) _ | refine Below.alloc ?_ (by first | omega | (simp; done) | (simp; omega)) _))) (hpb.out.below (by repeat (first | exact Below.refl _ _ | assumption | refine Below.drew ?_ | refine bdrewN ?_ _ | refine Below.setCell ?_ (by first | omega | (simp; done) | (simp; omega)) _ | refine Below.alloc ?_ (by first | omega | (simp; done) | (simp; omega)) _)))).mono ?_
  rintro e w2 ⟨rfl, hb2⟩
  have hb3 : Below w.heap.size w w2 := Below.trans (by repeat (first | exact Below.refl _ _ | assumption | refine Below.drew ?_ | refine bdrewN ?_ _ | refine Below.setCell ?_ (by first | omega | (simp; done) | (simp; omega)) _ | refine Below.alloc ?_ (by first | omega | (simp; done) | (simp; omega)) _)) (hb2.mono (by simp; omega))
  obtain ⟨hc, hf⟩ := bcell hb2
  have hz : w.heap.size + 2 ≤ w2.heap.size := by have := hb2.size; simpa using this
  clear hb2
  go_wp2_with fail
  refine (eqJointS_walk _ _ _ _ _ _ (hja.out.below hb3) (hjb.out.below hb3)).mono ?_
  rintro e w3 ⟨rfl, hb4⟩
  have hb5 : Below w.heap.size w w3 := hb3.trans (hb4.mono hb3.size)
  clear hb4 hc hf
  go_wp2_with fail
  go_ret
  exact ⟨rfl, hb5⟩

def SzOk (ps : List MPiece) (js : List MJoint) : Prop := ps.length ≤ 1048576 ∧ js.length ≤ 1048576 ∧ ∀ j, j ∈ js → j.ends.length ≤ 1048576

theorem szP_le : ∀ (ps : List MPiece) (left : Int), 0 ≤ left → szP left ps ≤ left ∧ -1 ≤ szP left ps
  | [], left, h => ⟨Int.le_refl _, by simp only [szP]; omega⟩
  | p :: r, left, h => by
    simp only [szP]
    by_cases h1 : left < p.name.size
    · rw [if_pos h1]; omega
    · rw [if_neg h1]
      have := szP_le r (left - p.name.size) (by omega)
      omega
theorem szJ_le : ∀ (ps : List MJoint) (left : Int), 0 ≤ left → szJ left ps ≤ left ∧ -1 ≤ szJ left ps ∧ (0 ≤ szJ left ps → ∀ j, j ∈ ps → (j.ends.length : Int) ≤ left)
  | [], left, h => ⟨Int.le_refl _, by simp only [szJ]; omega, fun _ j hj => absurd hj List.not_mem_nil⟩
  | p :: r, left, h => by
    simp only [szJ]
    by_cases h1 : left < p.name.size
    · rw [if_pos h1]; exact ⟨by omega, by omega, fun h => absurd h (by omega)⟩
    · rw [if_neg h1]
      by_cases h2 : left - p.name.size < p.ends.length
      · rw [if_pos h2]; exact ⟨by omega, by omega, fun h => absurd h (by omega)⟩
      · rw [if_neg h2]
        have := szJ_le r (left - p.name.size - p.ends.length) (by omega)
        refine ⟨by omega, by omega, fun h3 j hj => ?_⟩
        rcases List.mem_cons.1 hj with rfl | hj
        · omega
        · have := this.2.2 h3 j hj
          omega

set_option maxHeartbeats 1000000 in
theorem szNet_any (pa ja : Option Addr) (pc jc : Nat) (ps : List MPiece) (js : List MJoint) (left : Int) (w : World) (hp : Hid (PiecesAt w pa ps)) (hj : Hid (JointsAt w ja js)) (h0 : 0 ≤ left) (h1 : left ≤ 1048576) :
    Calls Tryz.prog 4 #[.agg #[.slice pa ps.length pc, .slice ja js.length jc], .int .i64 left] w fun e w' => ∃ r : Int, e = .returned (.int .i64 r) ∧ r ≤ 1048576 ∧ (0 ≤ r → SzOk ps js) ∧ Below w.heap.size w w' := by
  have hr : ∃ r1 : Int, (if left < ps.length then -1 else szP (left - ps.length) ps) = r1 ∧ r1 ≤ left ∧ -1 ≤ r1 ∧ (0 ≤ r1 → (ps.length : Int) ≤ 1048576) := by
    refine ⟨_, rfl, ?_⟩
    by_cases h : left < ps.length
    · rw [if_pos h]; exact ⟨by omega, by omega, fun h => absurd h (by omega)⟩
    · rw [if_neg h]
      have := szP_le ps (left - ps.length) (by omega)
      exact ⟨by omega, by omega, fun _ => by omega⟩
  obtain ⟨r1, hr1, hr2, hr3, hr4⟩ := hr
  have HR1 := hidP hr1
  have HR4 := hidP hr4
  clear hr1 hr4
  go_enter Tryz.func4, Tryz.ntmps4
  go_wp2_with fail
  refine (szPieceS_any _ _ _ _ _ (hp.out.below (by repeat (first | exact Below.refl _ _ | assumption | refine Below.drew ?_ | refine bdrewN ?_ _ | refine Below.setCell ?_ (by first | omega | (simp; done) | (simp; omega)) _ | refine Below.alloc ?_ (by first | omega | (simp; done) | (simp; omega)) _))) h0 h1).mono ?_
  rintro e w1 ⟨rfl, hb1⟩
  rw [HR1.out]
  have hb2 : Below w.heap.size w w1 := Below.trans (by repeat (first | exact Below.refl _ _ | assumption | refine Below.drew ?_ | refine bdrewN ?_ _ | refine Below.setCell ?_ (by first | omega | (simp; done) | (simp; omega)) _ | refine Below.alloc ?_ (by first | omega | (simp; done) | (simp; omega)) _)) (hb1.mono (by simp))
  obtain ⟨hc, hf⟩ := bcell hb1
  clear hb1
  by_cases hn : r1 < 0
  · go_wp2_with fail
    go_ret
    exact ⟨-1, rfl, by omega, fun h => absurd h (by omega), hb2⟩
  · have hs : ∃ r2 : Int, (if r1 < js.length then -1 else szJ (r1 - js.length) js) = r2 ∧ r2 ≤ r1 ∧ -1 ≤ r2 ∧ (0 ≤ r2 → (js.length : Int) ≤ 1048576 ∧ ∀ j, j ∈ js → (j.ends.length : Int) ≤ 1048576) := by
      refine ⟨_, rfl, ?_⟩
      by_cases h : r1 < js.length
      · rw [if_pos h]; exact ⟨by omega, by omega, fun h => absurd h (by omega)⟩
      · rw [if_neg h]
        have := szJ_le js (r1 - js.length) (by omega)
        exact ⟨by omega, by omega, fun h3 => ⟨by omega, fun j hj => by have := this.2.2 h3 j hj; omega⟩⟩
    obtain ⟨r2, hs1, hs2, hs3, hs4⟩ := hs
    have HS1 := hidP hs1
    have HS4 := hidP hs4
    clear hs1 hs4
    go_wp2_with fail
    refine (szJointS_any _ _ _ _ _ (hj.out.below hb2) (by omega) (by omega)).mono ?_
    rintro e w2 ⟨rfl, hb3⟩
    rw [HS1.out]
    have hb4 : Below w.heap.size w w2 := hb2.trans (hb3.mono hb2.size)
    clear hb3 hc hf
    by_cases hn2 : r2 < 0
    · go_wp2_with fail
      go_ret
      exact ⟨-1, rfl, by omega, fun h => absurd h (by omega), hb4⟩
    · go_wp2_with fail
      go_ret
      refine ⟨r2, rfl, by omega, fun h => ?_, hb4⟩
      have a1 := HR4.out (by omega)
      have a2 := HS4.out h
      exact ⟨by omega, by omega, fun j hj => by have := a2.2 j hj; omega⟩

end Go.Proofs.YtmkdgnmmebldgaaGreat
