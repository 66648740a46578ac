import Derived.Test.YtmkdgnmmebldgaaAp1
import Derived.RegionTactic
import Derived.Deep.RegionWith
import Derived.Deep.RegionHeld3
import Derived.Deep.QuietTactic
import Derived.BigQuiet
namespace Go.Proofs.Ytmkdgnmmebldgaa
open Go.RowKit Go.Deep

set_option maxHeartbeats 1000000 in
theorem eqPieceS_walk (a b : Option Addr) (ac bc : Nat) (ps : List MPiece) (w : World) (ha : Hid (PiecesAt w a ps)) (hb : Hid (PiecesAt w b ps)) :
    Calls Try.prog 68 #[.slice a ps.length ac, .slice b ps.length bc] w fun e w' => e = .returned (.bool true) ∧ Below w.heap.size w w' := by
  have hl := ha.out.1
  unfold maxLen at hl
  go_enter Try.func68, Try.ntmps68
  go_wp2_with fail
  go_loopw [5] (fun i wr => ∃ (k : Nat), k ≤ ps.length ∧ i = .int .i64 k ∧ Below w.heap.size w wr) (fun i _ => ps.length - (intOf i).toNat)
  case atStart => exact ⟨0, Nat.zero_le _, rfl, (by repeat (first | exact Below.refl _ _ | assumption | refine Below.drew ?_ | refine bdrewN ?_ _ | refine Below.setCell ?_ (by first | omega | (simp; done) | (simp; omega)) _ | refine Below.alloc ?_ (by first | omega | (simp; done) | (simp; omega)) _))⟩
  case round =>
    obtain ⟨k, hk, rfl, hbw⟩ := hrel
    by_cases hk' : k < ps.length
    · obtain ⟨b1, off1, rfl, hpc1⟩ := ha.out.2.2.resolve_left (fun h => by rw [h] at hk'; exact absurd hk' (Nat.not_lt_zero _))
      obtain ⟨b2, off2, rfl, hpc2⟩ := hb.out.2.2.resolve_left (fun h => by rw [h] at hk'; exact absurd hk' (Nat.not_lt_zero _))
      obtain ⟨c1, c2, c3, c4⟩ := (hpc1.below hbw) k hk'
      obtain ⟨d1, d2, d3, d4⟩ := (hpc2.below hbw) k hk'
      clear hpc1 hpc2
      go_wp2_with fail
      go_region_with (go_at_call 137; refine (eqPiece_any _ _ _ _ _).mono ?_; rintro e w2 ⟨rfl, hb2⟩)
      all_goals
        go_wp2_with fail
        go_roundw
        case rel => exact ⟨k + 1, by omega, by go_num, hbw.drew.trans (hb2.mono hbw.size)⟩
        case measure => simp [intOf]; omega
    · go_wp2
      go_ret
      exact ⟨rfl, hbw⟩

set_option maxHeartbeats 1000000 in
theorem eqEndS_walk (a b : Option Addr) (ac bc : Nat) (ps : List MEnd) (w : World) (ha : Hid (EndsAt w a ps)) (hb : Hid (EndsAt w b ps)) :
    Calls Try.prog 167 #[.slice a ps.length ac, .slice b ps.length bc] w fun e w' => e = .returned (.bool true) ∧ Below w.heap.size w w' := by
  have hl := ha.out.1
  unfold maxLen at hl
  go_enter Try.func167, Try.ntmps167
  go_wp2_with fail
  go_loopw [5] (fun i wr => ∃ (k : Nat), k ≤ ps.length ∧ i = .int .i64 k ∧ Below w.heap.size w wr) (fun i _ => ps.length - (intOf i).toNat)
  case atStart => exact ⟨0, Nat.zero_le _, rfl, (by repeat (first | exact Below.refl _ _ | assumption | refine Below.drew ?_ | refine bdrewN ?_ _ | refine Below.setCell ?_ (by first | omega | (simp; done) | (simp; omega)) _ | refine Below.alloc ?_ (by first | omega | (simp; done) | (simp; omega)) _))⟩
  case round =>
    obtain ⟨k, hk, rfl, hbw⟩ := hrel
    by_cases hk' : k < ps.length
    · obtain ⟨b1, off1, rfl, hpc1⟩ := ha.out.2.resolve_left (fun h => by rw [h] at hk'; exact absurd hk' (Nat.not_lt_zero _))
      obtain ⟨b2, off2, rfl, hpc2⟩ := hb.out.2.resolve_left (fun h => by rw [h] at hk'; exact absurd hk' (Nat.not_lt_zero _))
      obtain ⟨c1, c2⟩ := (hpc1.below hbw) k hk'
      obtain ⟨d1, d2⟩ := (hpc2.below hbw) k hk'
      clear hpc1 hpc2
      go_wp2_with fail
      go_region_with (go_at_call 181; refine (eqEnd_any _ _ _).mono ?_; rintro e w2 ⟨rfl, hb2⟩)
      all_goals
        go_wp2_with fail
        go_roundw
        case rel => exact ⟨k + 1, by omega, by go_num, hbw.drew.trans (hb2.mono hbw.size)⟩
        case measure => simp [intOf]; omega
    · go_wp2
      go_ret
      exact ⟨rfl, hbw⟩

set_option maxHeartbeats 1000000 in
theorem eqJoint_any (kd : Int) (s : ByteArray) (a b : Option Addr) (ac bc : Nat) (ps : List MEnd) (w : World) (ha : Hid (EndsAt w a ps)) (hb : Hid (EndsAt w b ps)) :
    Calls Try.prog 138 #[.agg #[.int .i64 kd, .string s, .slice a ps.length ac], .agg #[.int .i64 kd, .string s, .slice b ps.length bc]] w fun e w' => e = .returned (.bool true) ∧ Below w.heap.size w w' := by
  go_enter Try.func138, Try.ntmps138
  go_wp2_with fail
  refine (eqEndS_walk _ _ _ _ _ _ (ha.out.below (by repeat (first | exact Below.refl _ _ | assumption | refine Below.drew ?_ | refine bdrewN ?_ _ | refine Below.setCell ?_ (by first | omega | (simp; done) | (simp; omega)) _ | refine Below.alloc ?_ (by first | omega | (simp; done) | (simp; omega)) _))) (hb.out.below (by repeat (first | exact Below.refl _ _ | assumption | refine Below.drew ?_ | refine bdrewN ?_ _ | refine Below.setCell ?_ (by first | omega | (simp; done) | (simp; omega)) _ | refine Below.alloc ?_ (by first | omega | (simp; done) | (simp; omega)) _)))).mono ?_
  rintro e w2 ⟨rfl, hb2⟩
  have hb3 : Below w.heap.size w w2 := Below.trans (by repeat (first | exact Below.refl _ _ | assumption | refine Below.drew ?_ | refine bdrewN ?_ _ | refine Below.setCell ?_ (by first | omega | (simp; done) | (simp; omega)) _ | refine Below.alloc ?_ (by first | omega | (simp; done) | (simp; omega)) _)) (hb2.mono (by simp; omega))
  clear hb2
  go_wp2_with fail
  go_ret
  exact ⟨rfl, hb3⟩

set_option maxHeartbeats 1000000 in
theorem eqJointS_walk (a b : Option Addr) (ac bc : Nat) (ps : List MJoint) (w : World) (ha : Hid (JointsAt w a ps)) (hb : Hid (JointsAt w b ps)) :
    Calls Try.prog 69 #[.slice a ps.length ac, .slice b ps.length bc] w fun e w' => e = .returned (.bool true) ∧ Below w.heap.size w w' := by
  have hl := ha.out.1
  unfold maxLen at hl
  go_enter Try.func69, Try.ntmps69
  go_wp2_with fail
  go_loopw [5] (fun i wr => ∃ (k : Nat), k ≤ ps.length ∧ i = .int .i64 k ∧ Below w.heap.size w wr) (fun i _ => ps.length - (intOf i).toNat)
  case atStart => exact ⟨0, Nat.zero_le _, rfl, (by repeat (first | exact Below.refl _ _ | assumption | refine Below.drew ?_ | refine bdrewN ?_ _ | refine Below.setCell ?_ (by first | omega | (simp; done) | (simp; omega)) _ | refine Below.alloc ?_ (by first | omega | (simp; done) | (simp; omega)) _))⟩
  case round =>
    obtain ⟨k, hk, rfl, hbw⟩ := hrel
    by_cases hk' : k < ps.length
    · obtain ⟨b1, off1, rfl, hpc1⟩ := ha.out.2.2.resolve_left (fun h => by rw [h] at hk'; exact absurd hk' (Nat.not_lt_zero _))
      obtain ⟨b2, off2, rfl, hpc2⟩ := hb.out.2.2.resolve_left (fun h => by rw [h] at hk'; exact absurd hk' (Nat.not_lt_zero _))
      obtain ⟨c1, c2, ea, ec, c3, c4⟩ := (hpc1.below hbw) k hk'
      obtain ⟨d1, d2, eb, ed, d3, d4⟩ := (hpc2.below hbw) k hk'
      have C4 := hidP c4
      have D4 := hidP d4
      clear hpc1 hpc2 c4 d4
      go_wp2_with fail
      go_region_with (go_at_call 138; refine (eqJoint_any _ _ _ _ _ _ _ _ (C4.out.below (Below.refl _ _).drew) (D4.out.below (Below.refl _ _).drew)).mono ?_; rintro e w2 ⟨rfl, hb2⟩)
      all_goals
        go_wp2_with fail
        go_roundw
        case rel => exact ⟨k + 1, by omega, by go_num, hbw.drew.trans (hb2.mono hbw.size)⟩
        case measure => simp [intOf]; omega
    · go_wp2
      go_ret
      exact ⟨rfl, hbw⟩

set_option maxHeartbeats 1000000 in
theorem eqNet_any (pa ja pb jb : Option Addr) (pac jac pbc jbc : Nat) (ps : List MPiece) (js : List MJoint) (w : World) (hpa : Hid (PiecesAt w pa ps)) (hja : Hid (JointsAt w ja js)) (hpb : Hid (PiecesAt w pb ps)) (hjb : Hid (JointsAt w jb js)) :
    Calls Try.prog 25 #[.agg #[.slice pa ps.length pac, .slice ja js.length jac], .agg #[.slice pb ps.length pbc, .slice jb js.length jbc]] w fun e w' => e = .returned (.bool true) ∧ Below w.heap.size w w' := by
  go_enter Try.func25, Try.ntmps25
  go_wp2_with fail
  refine (eqPieceS_walk _ _ _ _ _ _ (hpa.out.below (by repeat (first | exact Below.refl _ _ | assumption | refine Below.drew ?_ | refine bdrewN ?_ _ | refine Below.setCell ?_ (by first | omega | (simp; done) | (simp; omega)) _ | refine Below.alloc ?_ (by first | omega | (simp; done) | (simp; omega)) _))) (hpb.out.below (by repeat (first | exact Below.refl _ _ | assumption | refine Below.drew ?_ | refine bdrewN ?_ _ | refine Below.setCell ?_ (by first | omega | (simp; done) | (simp; omega)) _ | refine Below.alloc ?_ (by first | omega | (simp; done) | (simp; omega)) _)))).mono ?_
  rintro e w2 ⟨rfl, hb2⟩
  have hb3 : Below w.heap.size w w2 := Below.trans (by repeat (first | exact Below.refl _ _ | assumption | refine Below.drew ?_ | refine bdrewN ?_ _ | refine Below.setCell ?_ (by first | omega | (simp; done) | (simp; omega)) _ | refine Below.alloc ?_ (by first | omega | (simp; done) | (simp; omega)) _)) (hb2.mono (by simp; omega))
  obtain ⟨hc, hf⟩ := bcell hb2
  have hz : w.heap.size + 2 ≤ w2.heap.size := by have := hb2.size; simpa using this
  clear hb2
  go_wp2_with fail
  refine (eqJointS_walk _ _ _ _ _ _ (hja.out.below hb3) (hjb.out.below hb3)).mono ?_
  rintro e w3 ⟨rfl, hb4⟩
  have hb5 : Below w.heap.size w w3 := hb3.trans (hb4.mono hb3.size)
  clear hb4 hc hf
  go_wp2_with fail
  go_ret
  exact ⟨rfl, hb5⟩

def SzOk (ps : List MPiece) (js : List MJoint) : Prop := ps.length ≤ 1048576 ∧ js.length ≤ 1048576 ∧ ∀ j, j ∈ js → j.ends.length ≤ 1048576

theorem szP_le : ∀ (ps : List MPiece) (left : Int), 0 ≤ left → szP left ps ≤ left ∧ -1 ≤ szP left ps
  | [], left, h => ⟨Int.le_refl _, by simp only [szP]; omega⟩
  | p :: r, left, h => by
    simp only [szP]
    by_cases h1 : left < p.name.size
    · rw [if_pos h1]; omega
    · rw [if_neg h1]
      have := szP_le r (left - p.name.size) (by omega)
      omega
theorem szJ_le : ∀ (ps : List MJoint) (left : Int), 0 ≤ left → szJ left ps ≤ left ∧ -1 ≤ szJ left ps ∧ (0 ≤ szJ left ps → ∀ j, j ∈ ps → (j.ends.length : Int) ≤ left)
  | [], left, h => ⟨Int.le_refl _, by simp only [szJ]; omega, fun _ j hj => absurd hj List.not_mem_nil⟩
  | p :: r, left, h => by
    simp only [szJ]
    by_cases h1 : left < p.name.size
    · rw [if_pos h1]; exact ⟨by omega, by omega, fun h => absurd h (by omega)⟩
    · rw [if_neg h1]
      by_cases h2 : left - p.name.size < p.ends.length
      · rw [if_pos h2]; exact ⟨by omega, by omega, fun h => absurd h (by omega)⟩
      · rw [if_neg h2]
        have := szJ_le r (left - p.name.size - p.ends.length) (by omega)
        refine ⟨by omega, by omega, fun h3 j hj => ?_⟩
        rcases List.mem_cons.1 hj with rfl | hj
        · omega
        · have := this.2.2 h3 j hj
          omega

set_option maxHeartbeats 1000000 in
theorem szNet_any (pa ja : Option Addr) (pc jc : Nat) (ps : List MPiece) (js : List MJoint) (left : Int) (w : World) (hp : Hid (PiecesAt w pa ps)) (hj : Hid (JointsAt w ja js)) (h0 : 0 ≤ left) (h1 : left ≤ 1048576) :
    Calls Try.prog 20 #[.agg #[.slice pa ps.length pc, .slice ja js.length jc], .int .i64 left] w fun e w' => ∃ r : Int, e = .returned (.int .i64 r) ∧ r ≤ 1048576 ∧ (0 ≤ r → SzOk ps js) ∧ Below w.heap.size w w' := by
  have hr : ∃ r1 : Int, (if left < ps.length then -1 else szP (left - ps.length) ps) = r1 ∧ r1 ≤ left ∧ -1 ≤ r1 ∧ (0 ≤ r1 → (ps.length : Int) ≤ 1048576) := by
    refine ⟨_, rfl, ?_⟩
    by_cases h : left < ps.length
    · rw [if_pos h]; exact ⟨by omega, by omega, fun h => absurd h (by omega)⟩
    · rw [if_neg h]
      have := szP_le ps (left - ps.length) (by omega)
      exact ⟨by omega, by omega, fun _ => by omega⟩
  obtain ⟨r1, hr1, hr2, hr3, hr4⟩ := hr
  have HR1 := hidP hr1
  have HR4 := hidP hr4
  clear hr1 hr4
  go_enter Try.func20, Try.ntmps20
  go_wp2_with fail
  refine (szPieceS_any _ _ _ _ _ (hp.out.below (by repeat (first | exact Below.refl _ _ | assumption | refine Below.drew ?_ | refine bdrewN ?_ _ | refine Below.setCell ?_ (by first | omega | (simp; done) | (simp; omega)) _ | refine Below.alloc ?_ (by first | omega | (simp; done) | (simp; omega)) _))) h0 h1).mono ?_
  rintro e w1 ⟨rfl, hb1⟩
  rw [HR1.out]
  have hb2 : Below w.heap.size w w1 := Below.trans (by repeat (first | exact Below.refl _ _ | assumption | refine Below.drew ?_ | refine bdrewN ?_ _ | refine Below.setCell ?_ (by first | omega | (simp; done) | (simp; omega)) _ | refine Below.alloc ?_ (by first | omega | (simp; done) | (simp; omega)) _)) (hb1.mono (by simp))
  obtain ⟨hc, hf⟩ := bcell hb1
  clear hb1
  by_cases hn : r1 < 0
  · go_wp2_with fail
    go_ret
    exact ⟨-1, rfl, by omega, fun h => absurd h (by omega), hb2⟩
  · have hs : ∃ r2 : Int, (if r1 < js.length then -1 else szJ (r1 - js.length) js) = r2 ∧ r2 ≤ r1 ∧ -1 ≤ r2 ∧ (0 ≤ r2 → (js.length : Int) ≤ 1048576 ∧ ∀ j, j ∈ js → (j.ends.length : Int) ≤ 1048576) := by
      refine ⟨_, rfl, ?_⟩
      by_cases h : r1 < js.length
      · rw [if_pos h]; exact ⟨by omega, by omega, fun h => absurd h (by omega)⟩
      · rw [if_neg h]
        have := szJ_le js (r1 - js.length) (by omega)
        exact ⟨by omega, by omega, fun h3 => ⟨by omega, fun j hj => by have := this.2.2 h3 j hj; omega⟩⟩
    obtain ⟨r2, hs1, hs2, hs3, hs4⟩ := hs
    have HS1 := hidP hs1
    have HS4 := hidP hs4
    clear hs1 hs4
    go_wp2_with fail
    refine (szJointS_any _ _ _ _ _ (hj.out.below hb2) (by omega) (by omega)).mono ?_
    rintro e w2 ⟨rfl, hb3⟩
    rw [HS1.out]
    have hb4 : Below w.heap.size w w2 := hb2.trans (hb3.mono hb2.size)
    clear hb3 hc hf
    by_cases hn2 : r2 < 0
    · go_wp2_with fail
      go_ret
      exact ⟨-1, rfl, by omega, fun h => absurd h (by omega), hb4⟩
    · go_wp2_with fail
      go_ret
      refine ⟨r2, rfl, by omega, fun h => ?_, hb4⟩
      have a1 := HR4.out (by omega)
      have a2 := HS4.out h
      exact ⟨by omega, by omega, fun j hj => by have := a2.2 j hj; omega⟩

end Go.Proofs.Ytmkdgnmmebldgaa

namespace Go.Proofs.Ytmkdgnmmebldgaa
open Go.RowKit Go.Deep

set_option maxHeartbeats 400000 in
theorem eqStep_any (x0 x1 : Int) (w : World) :
    Calls Try.prog 144 #[.agg #[.int .i64 x0, .int .i64 x1], .agg #[.int .i64 x0, .int .i64 x1]] w fun e w' => e = .returned (.bool true) ∧ Below w.heap.size w w' := by
  go_enter Try.func144, Try.ntmps144
  go_wp2
  go_ret
  exact ⟨rfl, (by repeat (first | exact Below.refl _ _ | assumption | refine Below.drew ?_ | refine bdrewN ?_ _ | refine Below.setCell ?_ (by first | omega | (simp; done) | (simp; omega)) _ | refine Below.alloc ?_ (by first | omega | (simp; done) | (simp; omega)) _))⟩

set_option maxHeartbeats 400000 in
theorem eqLie_any (x0 x1 : Int) (w : World) :
    Calls Try.prog 87 #[.agg #[.int .i64 x0, .int .i64 x1], .agg #[.int .i64 x0, .int .i64 x1]] w fun e w' => e = .returned (.bool true) ∧ Below w.heap.size w w' := by
  go_enter Try.func87, Try.ntmps87
  go_wp2
  go_ret
  exact ⟨rfl, (by repeat (first | exact Below.refl _ _ | assumption | refine Below.drew ?_ | refine bdrewN ?_ _ | refine Below.setCell ?_ (by first | omega | (simp; done) | (simp; omega)) _ | refine Below.alloc ?_ (by first | omega | (simp; done) | (simp; omega)) _))⟩

set_option maxHeartbeats 400000 in
theorem eqPart_any (x0 x1 x2 : Int) (w : World) :
    Calls Try.prog 145 #[.agg #[.int .i64 x0, .int .i64 x1, .int .i64 x2], .agg #[.int .i64 x0, .int .i64 x1, .int .i64 x2]] w fun e w' => e = .returned (.bool true) ∧ Below w.heap.size w w' := by
  go_enter Try.func145, Try.ntmps145
  go_wp2
  go_ret
  exact ⟨rfl, (by repeat (first | exact Below.refl _ _ | assumption | refine Below.drew ?_ | refine bdrewN ?_ _ | refine Below.setCell ?_ (by first | omega | (simp; done) | (simp; omega)) _ | refine Below.alloc ?_ (by first | omega | (simp; done) | (simp; omega)) _))⟩

set_option maxHeartbeats 400000 in
theorem eqFlank_any (x0 x1 x2 x3 : Int) (w : World) :
    Calls Try.prog 146 #[.agg #[.int .i64 x0, .int .i64 x1, .int .i64 x2, .int .i64 x3], .agg #[.int .i64 x0, .int .i64 x1, .int .i64 x2, .int .i64 x3]] w fun e w' => e = .returned (.bool true) ∧ Below w.heap.size w w' := by
  go_enter Try.func146, Try.ntmps146
  go_wp2
  go_ret
  exact ⟨rfl, (by repeat (first | exact Below.refl _ _ | assumption | refine Below.drew ?_ | refine bdrewN ?_ _ | refine Below.setCell ?_ (by first | omega | (simp; done) | (simp; omega)) _ | refine Below.alloc ?_ (by first | omega | (simp; done) | (simp; omega)) _))⟩

set_option maxHeartbeats 1000000 in
theorem eqStepS_walk (a b : Option Addr) (ac bc : Nat) (ps : List MEnd) (w : World) (ha : Hid (EndsAt w a ps)) (hb : Hid (EndsAt w b ps)) :
    Calls Try.prog 88 #[.slice a ps.length ac, .slice b ps.length bc] w fun e w' => e = .returned (.bool true) ∧ Below w.heap.size w w' := by
  have hl := ha.out.1
  unfold maxLen at hl
  go_enter Try.func88, Try.ntmps88
  go_wp2_with fail
  go_loopw [5] (fun i wr => ∃ (k : Nat), k ≤ ps.length ∧ i = .int .i64 k ∧ Below w.heap.size w wr) (fun i _ => ps.length - (intOf i).toNat)
  case atStart => exact ⟨0, Nat.zero_le _, rfl, (by repeat (first | exact Below.refl _ _ | assumption | refine Below.drew ?_ | refine bdrewN ?_ _ | refine Below.setCell ?_ (by first | omega | (simp; done) | (simp; omega)) _ | refine Below.alloc ?_ (by first | omega | (simp; done) | (simp; omega)) _))⟩
  case round =>
    obtain ⟨k, hk, rfl, hbw⟩ := hrel
    by_cases hk' : k < ps.length
    · obtain ⟨b1, off1, rfl, hpc1⟩ := ha.out.2.resolve_left (fun h => by rw [h] at hk'; exact absurd hk' (Nat.not_lt_zero _))
      obtain ⟨b2, off2, rfl, hpc2⟩ := hb.out.2.resolve_left (fun h => by rw [h] at hk'; exact absurd hk' (Nat.not_lt_zero _))
      obtain ⟨c0, c1⟩ := (hpc1.below hbw) k hk'
      obtain ⟨d0, d1⟩ := (hpc2.below hbw) k hk'
      clear hpc1 hpc2
      go_wp2_with fail
      go_region_with (go_at_call 144; refine (eqStep_any _ _ _).mono ?_; rintro e w2 ⟨rfl, hb2⟩)
      all_goals
        go_wp2_with fail
        go_roundw
        case rel => exact ⟨k + 1, by omega, by go_num, hbw.drew.trans (hb2.mono hbw.size)⟩
        case measure => simp [intOf]; omega
    · go_wp2
      go_ret
      exact ⟨rfl, hbw⟩

set_option maxHeartbeats 1000000 in
theorem eqLieS_walk (a b : Option Addr) (ac bc : Nat) (ps : List MEnd) (w : World) (ha : Hid (EndsAt w a ps)) (hb : Hid (EndsAt w b ps)) :
    Calls Try.prog 33 #[.slice a ps.length ac, .slice b ps.length bc] w fun e w' => e = .returned (.bool true) ∧ Below w.heap.size w w' := by
  have hl := ha.out.1
  unfold maxLen at hl
  go_enter Try.func33, Try.ntmps33
  go_wp2_with fail
  go_loopw [5] (fun i wr => ∃ (k : Nat), k ≤ ps.length ∧ i = .int .i64 k ∧ Below w.heap.size w wr) (fun i _ => ps.length - (intOf i).toNat)
  case atStart => exact ⟨0, Nat.zero_le _, rfl, (by repeat (first | exact Below.refl _ _ | assumption | refine Below.drew ?_ | refine bdrewN ?_ _ | refine Below.setCell ?_ (by first | omega | (simp; done) | (simp; omega)) _ | refine Below.alloc ?_ (by first | omega | (simp; done) | (simp; omega)) _))⟩
  case round =>
    obtain ⟨k, hk, rfl, hbw⟩ := hrel
    by_cases hk' : k < ps.length
    · obtain ⟨b1, off1, rfl, hpc1⟩ := ha.out.2.resolve_left (fun h => by rw [h] at hk'; exact absurd hk' (Nat.not_lt_zero _))
      obtain ⟨b2, off2, rfl, hpc2⟩ := hb.out.2.resolve_left (fun h => by rw [h] at hk'; exact absurd hk' (Nat.not_lt_zero _))
      obtain ⟨c0, c1⟩ := (hpc1.below hbw) k hk'
      obtain ⟨d0, d1⟩ := (hpc2.below hbw) k hk'
      clear hpc1 hpc2
      go_wp2_with fail
      go_region_with (go_at_call 87; refine (eqLie_any _ _ _).mono ?_; rintro e w2 ⟨rfl, hb2⟩)
      all_goals
        go_wp2_with fail
        go_roundw
        case rel => exact ⟨k + 1, by omega, by go_num, hbw.drew.trans (hb2.mono hbw.size)⟩
        case measure => simp [intOf]; omega
    · go_wp2
      go_ret
      exact ⟨rfl, hbw⟩

set_option maxHeartbeats 1000000 in
theorem eqIntS_walk (a b : Option Addr) (ac bc : Nat) (ps : List Int) (w : World) (ha : Hid (NumsAt w a ps)) (hb : Hid (NumsAt w b ps)) :
    Calls Try.prog 89 #[.slice a ps.length ac, .slice b ps.length bc] w fun e w' => e = .returned (.bool true) ∧ Below w.heap.size w w' := by
  have hl := ha.out.1
  unfold maxLen at hl
  go_enter Try.func89, Try.ntmps89
  go_wp2_with fail
  go_loopw [5] (fun i wr => ∃ (k : Nat), k ≤ ps.length ∧ i = .int .i64 k ∧ Below w.heap.size w wr) (fun i _ => ps.length - (intOf i).toNat)
  case atStart => exact ⟨0, Nat.zero_le _, rfl, (by repeat (first | exact Below.refl _ _ | assumption | refine Below.drew ?_ | refine bdrewN ?_ _ | refine Below.setCell ?_ (by first | omega | (simp; done) | (simp; omega)) _ | refine Below.alloc ?_ (by first | omega | (simp; done) | (simp; omega)) _))⟩
  case round =>
    obtain ⟨k, hk, rfl, hbw⟩ := hrel
    by_cases hk' : k < ps.length
    · obtain ⟨b1, off1, rfl, hpc1⟩ := ha.out.2.resolve_left (fun h => by rw [h] at hk'; exact absurd hk' (Nat.not_lt_zero _))
      obtain ⟨b2, off2, rfl, hpc2⟩ := hb.out.2.resolve_left (fun h => by rw [h] at hk'; exact absurd hk' (Nat.not_lt_zero _))
      have c0 := (hpc1.below hbw) k hk'
      have d0 := (hpc2.below hbw) k hk'
      clear hpc1 hpc2
      go_wp2_with fail
      go_quiet (fail)
      go_wp2_with fail
      go_roundw
      case rel => exact ⟨k + 1, by omega, by go_num, (by repeat (first | exact Below.refl _ _ | assumption | refine Below.drew ?_ | refine bdrewN ?_ _ | refine Below.setCell ?_ (by first | omega | (simp; done) | (simp; omega)) _ | refine Below.alloc ?_ (by first | omega | (simp; done) | (simp; omega)) _))⟩
      case measure => simp [intOf]; omega
    · go_wp2
      go_ret
      exact ⟨rfl, hbw⟩

set_option maxHeartbeats 1000000 in
theorem eqPartS_walk (a b : Option Addr) (ac bc : Nat) (ps : List MPart) (w : World) (ha : Hid (PartsAt w a ps)) (hb : Hid (PartsAt w b ps)) :
    Calls Try.prog 90 #[.slice a ps.length ac, .slice b ps.length bc] w fun e w' => e = .returned (.bool true) ∧ Below w.heap.size w w' := by
  have hl := ha.out.1
  unfold maxLen at hl
  go_enter Try.func90, Try.ntmps90
  go_wp2_with fail
  go_loopw [5] (fun i wr => ∃ (k : Nat), k ≤ ps.length ∧ i = .int .i64 k ∧ Below w.heap.size w wr) (fun i _ => ps.length - (intOf i).toNat)
  case atStart => exact ⟨0, Nat.zero_le _, rfl, (by repeat (first | exact Below.refl _ _ | assumption | refine Below.drew ?_ | refine bdrewN ?_ _ | refine Below.setCell ?_ (by first | omega | (simp; done) | (simp; omega)) _ | refine Below.alloc ?_ (by first | omega | (simp; done) | (simp; omega)) _))⟩
  case round =>
    obtain ⟨k, hk, rfl, hbw⟩ := hrel
    by_cases hk' : k < ps.length
    · obtain ⟨b1, off1, rfl, hpc1⟩ := ha.out.2.resolve_left (fun h => by rw [h] at hk'; exact absurd hk' (Nat.not_lt_zero _))
      obtain ⟨b2, off2, rfl, hpc2⟩ := hb.out.2.resolve_left (fun h => by rw [h] at hk'; exact absurd hk' (Nat.not_lt_zero _))
      obtain ⟨c0, c1, c2⟩ := (hpc1.below hbw) k hk'
      obtain ⟨d0, d1, d2⟩ := (hpc2.below hbw) k hk'
      clear hpc1 hpc2
      go_wp2_with fail
      go_region_with (go_at_call 145; refine (eqPart_any _ _ _ _).mono ?_; rintro e w2 ⟨rfl, hb2⟩)
      all_goals
        go_wp2_with fail
        go_roundw
        case rel => exact ⟨k + 1, by omega, by go_num, hbw.drew.trans (hb2.mono hbw.size)⟩
        case measure => simp [intOf]; omega
    · go_wp2
      go_ret
      exact ⟨rfl, hbw⟩

set_option maxHeartbeats 1000000 in
theorem eqFlankS_walk (a b : Option Addr) (ac bc : Nat) (ps : List MFlank) (w : World) (ha : Hid (FlanksAt w a ps)) (hb : Hid (FlanksAt w b ps)) :
    Calls Try.prog 91 #[.slice a ps.length ac, .slice b ps.length bc] w fun e w' => e = .returned (.bool true) ∧ Below w.heap.size w w' := by
  have hl := ha.out.1
  unfold maxLen at hl
  go_enter Try.func91, Try.ntmps91
  go_wp2_with fail
  go_loopw [5] (fun i wr => ∃ (k : Nat), k ≤ ps.length ∧ i = .int .i64 k ∧ Below w.heap.size w wr) (fun i _ => ps.length - (intOf i).toNat)
  case atStart => exact ⟨0, Nat.zero_le _, rfl, (by repeat (first | exact Below.refl _ _ | assumption | refine Below.drew ?_ | refine bdrewN ?_ _ | refine Below.setCell ?_ (by first | omega | (simp; done) | (simp; omega)) _ | refine Below.alloc ?_ (by first | omega | (simp; done) | (simp; omega)) _))⟩
  case round =>
    obtain ⟨k, hk, rfl, hbw⟩ := hrel
    by_cases hk' : k < ps.length
    · obtain ⟨b1, off1, rfl, hpc1⟩ := ha.out.2.resolve_left (fun h => by rw [h] at hk'; exact absurd hk' (Nat.not_lt_zero _))
      obtain ⟨b2, off2, rfl, hpc2⟩ := hb.out.2.resolve_left (fun h => by rw [h] at hk'; exact absurd hk' (Nat.not_lt_zero _))
      obtain ⟨c0, c1, c2, c3⟩ := (hpc1.below hbw) k hk'
      obtain ⟨d0, d1, d2, d3⟩ := (hpc2.below hbw) k hk'
      clear hpc1 hpc2
      go_wp2_with fail
      go_region_with (go_at_call 146; refine (eqFlank_any _ _ _ _ _).mono ?_; rintro e w2 ⟨rfl, hb2⟩)
      all_goals
        go_wp2_with fail
        go_roundw
        case rel => exact ⟨k + 1, by omega, by go_num, hbw.drew.trans (hb2.mono hbw.size)⟩
        case measure => simp [intOf]; omega
    · go_wp2
      go_ret
      exact ⟨rfl, hbw⟩

set_option maxHeartbeats 2000000 in
theorem eqRoute_any (d d' : RAddr) (r : MRoute) (w : World) (ha : Hid (RListsAt w d r)) (hb : Hid (RListsAt w d' r)) :
    Calls Try.prog 34 #[routeV d r, routeV d' r] w fun e w' => e = .returned (.bool true) ∧ Below w.heap.size w w' := by
  unfold routeV
  go_enter Try.func34, Try.ntmps34
  go_wp2_with fail
  generalize hW : (w.alloc _).alloc _ = W
  have x0 : W.cell? ⟨w.heap.size, 0, none⟩ = some (.int .i64 r.start) := by rw [← hW]; simp [go_sem]
  have x1 : W.cell? ⟨w.heap.size, 1, none⟩ = some (.int .i64 r.stop) := by rw [← hW]; simp [go_sem]
  have x2 : W.cell? ⟨w.heap.size, 2, none⟩ = some (.slice d.a0 r.steps.length d.c0) := by rw [← hW]; simp [go_sem]
  have x3 : W.cell? ⟨w.heap.size, 3, none⟩ = some (.slice d.a1 r.lies.length d.c1) := by rw [← hW]; simp [go_sem]
  have x4 : W.cell? ⟨w.heap.size, 4, none⟩ = some (.slice d.a2 r.crosses.length d.c2) := by rw [← hW]; simp [go_sem]
  have x5 : W.cell? ⟨w.heap.size, 5, none⟩ = some (.slice d.a3 r.parts.length d.c3) := by rw [← hW]; simp [go_sem]
  have x6 : W.cell? ⟨w.heap.size, 6, none⟩ = some (.slice d.a4 r.over.length d.c4) := by rw [← hW]; simp [go_sem]
  have x7 : W.cell? ⟨w.heap.size, 7, none⟩ = some (.slice d.a5 r.flanks.length d.c5) := by rw [← hW]; simp [go_sem]
  have y0 : W.cell? ⟨w.heap.size + 1, 0, none⟩ = some (.int .i64 r.start) := by rw [← hW]; simp [go_sem]
  have y1 : W.cell? ⟨w.heap.size + 1, 1, none⟩ = some (.int .i64 r.stop) := by rw [← hW]; simp [go_sem]
  have y2 : W.cell? ⟨w.heap.size + 1, 2, none⟩ = some (.slice d'.a0 r.steps.length d'.c0) := by rw [← hW]; simp [go_sem]
  have y3 : W.cell? ⟨w.heap.size + 1, 3, none⟩ = some (.slice d'.a1 r.lies.length d'.c1) := by rw [← hW]; simp [go_sem]
  have y4 : W.cell? ⟨w.heap.size + 1, 4, none⟩ = some (.slice d'.a2 r.crosses.length d'.c2) := by rw [← hW]; simp [go_sem]
  have y5 : W.cell? ⟨w.heap.size + 1, 5, none⟩ = some (.slice d'.a3 r.parts.length d'.c3) := by rw [← hW]; simp [go_sem]
  have y6 : W.cell? ⟨w.heap.size + 1, 6, none⟩ = some (.slice d'.a4 r.over.length d'.c4) := by rw [← hW]; simp [go_sem]
  have y7 : W.cell? ⟨w.heap.size + 1, 7, none⟩ = some (.slice d'.a5 r.flanks.length d'.c5) := by rw [← hW]; simp [go_sem]
  have hz : w.heap.size + 2 ≤ W.heap.size := by rw [← hW]; simp
  have hbW : Below w.heap.size w W := by rw [← hW]; exact (by repeat (first | exact Below.refl _ _ | assumption | refine Below.drew ?_ | refine bdrewN ?_ _ | refine Below.setCell ?_ (by first | omega | (simp; done) | (simp; omega)) _ | refine Below.alloc ?_ (by first | omega | (simp; done) | (simp; omega)) _))
  have HA := hidP (ha.out.below hbW)
  have HB := hidP (hb.out.below hbW)
  clear hW
  refine (eqStepS_walk _ _ _ _ _ _ (HA.out.steps) (HB.out.steps)).mono ?_
  rintro e w0 ⟨rfl, hb0⟩
  have hB0 : Below W.heap.size W w0 := hb0
  replace x3 := cell_later hb0 x3
  replace x4 := cell_later hb0 x4
  replace x5 := cell_later hb0 x5
  replace x6 := cell_later hb0 x6
  replace x7 := cell_later hb0 x7
  replace y3 := cell_later hb0 y3
  replace y4 := cell_later hb0 y4
  replace y5 := cell_later hb0 y5
  replace y6 := cell_later hb0 y6
  replace y7 := cell_later hb0 y7
  have hz0 : w.heap.size + 2 ≤ w0.heap.size := by have := hB0.size; omega
  clear hb0 x2 y2
  go_wp2_with fail
  refine (eqLieS_walk _ _ _ _ _ _ ((HA.out.below hB0).lies) ((HB.out.below hB0).lies)).mono ?_
  rintro e w1 ⟨rfl, hb1⟩
  have hB1 : Below W.heap.size W w1 := hB0.trans (hb1.mono hB0.size)
  replace x4 := cell_later hb1 x4
  replace x5 := cell_later hb1 x5
  replace x6 := cell_later hb1 x6
  replace x7 := cell_later hb1 x7
  replace y4 := cell_later hb1 y4
  replace y5 := cell_later hb1 y5
  replace y6 := cell_later hb1 y6
  replace y7 := cell_later hb1 y7
  have hz1 : w.heap.size + 2 ≤ w1.heap.size := by have := hB1.size; omega
  clear hb1 hB0 hz0 x3 y3
  go_wp2_with fail
  refine (eqIntS_walk _ _ _ _ _ _ ((HA.out.below hB1).crosses) ((HB.out.below hB1).crosses)).mono ?_
  rintro e w2 ⟨rfl, hb2⟩
  have hB2 : Below W.heap.size W w2 := hB1.trans (hb2.mono hB1.size)
  replace x5 := cell_later hb2 x5
  replace x6 := cell_later hb2 x6
  replace x7 := cell_later hb2 x7
  replace y5 := cell_later hb2 y5
  replace y6 := cell_later hb2 y6
  replace y7 := cell_later hb2 y7
  have hz2 : w.heap.size + 2 ≤ w2.heap.size := by have := hB2.size; omega
  clear hb2 hB1 hz1 x4 y4
  go_wp2_with fail
  refine (eqPartS_walk _ _ _ _ _ _ ((HA.out.below hB2).parts) ((HB.out.below hB2).parts)).mono ?_
  rintro e w3 ⟨rfl, hb3⟩
  have hB3 : Below W.heap.size W w3 := hB2.trans (hb3.mono hB2.size)
  replace x6 := cell_later hb3 x6
  replace x7 := cell_later hb3 x7
  replace y6 := cell_later hb3 y6
  replace y7 := cell_later hb3 y7
  have hz3 : w.heap.size + 2 ≤ w3.heap.size := by have := hB3.size; omega
  clear hb3 hB2 hz2 x5 y5
  go_wp2_with fail
  refine (eqPartS_walk _ _ _ _ _ _ ((HA.out.below hB3).over) ((HB.out.below hB3).over)).mono ?_
  rintro e w4 ⟨rfl, hb4⟩
  have hB4 : Below W.heap.size W w4 := hB3.trans (hb4.mono hB3.size)
  replace x7 := cell_later hb4 x7
  replace y7 := cell_later hb4 y7
  have hz4 : w.heap.size + 2 ≤ w4.heap.size := by have := hB4.size; omega
  clear hb4 hB3 hz3 x6 y6
  go_wp2_with fail
  refine (eqFlankS_walk _ _ _ _ _ _ ((HA.out.below hB4).flanks) ((HB.out.below hB4).flanks)).mono ?_
  rintro e w5 ⟨rfl, hb5⟩
  have hB5 : Below W.heap.size W w5 := hB4.trans (hb5.mono hB4.size)
  have hz5 : w.heap.size + 2 ≤ w5.heap.size := by have := hB5.size; omega
  clear hb5 hB4 hz4 x7 y7
  go_wp2_with fail
  go_ret
  exact ⟨rfl, hbW.trans (hB5.mono hbW.size)⟩

end Go.Proofs.Ytmkdgnmmebldgaa
