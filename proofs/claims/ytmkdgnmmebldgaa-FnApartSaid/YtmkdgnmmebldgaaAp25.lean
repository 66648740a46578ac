import Derived.Test.YtmkdgnmmebldgaaAp24
import Derived.Test.YtmkdgnmmebldgaaAp4
import Derived.Maps.Own
import Derived.Maps.OwnOps
import Derived.Maps.Views
import Derived.WideKeyEntry
import Derived.DeepKeys4
import Derived.StringKeys
namespace Go.Proofs.Ytmkdgnmmebldgaa
open Go.RowKit Go.Deep

def wantP (x y : MEnd) : Bool := x.piece == y.piece && x.side != y.side
def sameP (x y : Int) : Bool := x == y

set_option maxRecDepth 8000 in
set_option maxHeartbeats 4000000 in
theorem anyTwoP_any (a b : Option Addr) (ac bc : Nat) (xs ys : List MPart) (s t : MSet) (hs : Hid (s = keysF (xs.map MPart.piece))) (ht : Hid (t = keysF (ys.map MPart.piece))) (w : World) (ha : Hid (PartsAt w a xs)) (hb : Hid (PartsAt w b ys)) :
    Calls Try.prog 115 #[keyedV a xs.length ac s, keyedV b ys.length bc t, fnV 116] w fun e w' => e = .returned (.bool (touchL xs ys)) ∧ Below w.heap.size w w' := by
  have hl := ha.out.1
  have hl2 := hb.out.1
  unfold maxLen at hl hl2
  have HOA : Hid s.Ok := by unfold Hid; rw [hs.out]; exact keysF_ok _
  have HOB : Hid t.Ok := by unfold Hid; rw [ht.out]; exact keysF_ok _
  have HPart : Hid (meetsF s t = false → touchL xs ys = false) := fun h => any2_part (key := MPart.piece) touchP_key (by rw [← hs.out, ← ht.out]; exact h)
  clear hs ht
  unfold keyedV fnV
  go_enter Try.func115, Try.ntmps115
  go_wp2_with fail
  generalize hW : (w.alloc _).alloc _ = W
  have e0 : W.cell? ⟨w.heap.size, 0, none⟩ = some (.slice a xs.length ac) := by rw [← hW]; simp [go_sem]
  have f0 : W.cell? ⟨w.heap.size + 1, 0, none⟩ = some (.slice b ys.length bc) := by rw [← hW]; simp [go_sem]
  have hbW : Below w.heap.size w W := by rw [← hW]; exact (by repeat (first | exact Below.refl _ _ | assumption | refine Below.drew ?_ | refine bdrewN ?_ _ | refine Below.setCell ?_ (by first | omega | (simp; done) | (simp; omega)) _ | refine Below.alloc ?_ (by first | omega | (simp; done) | (simp; omega)) _))
  clear hW
  refine (meets_any s t HOA.out HOB.out _).mono ?_
  rintro e w1 ⟨rfl, hb1⟩
  replace e0 := cell_later hb1 e0
  replace f0 := cell_later hb1 f0
  replace hbW := hbW.trans (hb1.mono hbW.size)
  have hz0 := cellLt e0
  have hz1 := cellLt f0
  dsimp only at hz0 hz1
  clear hb1
  cases hM : meetsF s t
  · have HX := hidP (HPart.out hM)
    clear hM
    go_wp2_with fail
    go_ret
    exact ⟨ret_bool HX.out.symm, hbW⟩
  clear hM HPart
  have HA1 := hidP (ha.out.below hbW)
  have HB1 := hidP (hb.out.below hbW)
  clear ha hb
  go_wp2_with fail
  go_loopw [20] (fun i wr => ∃ (k : Nat), k ≤ xs.length ∧ i = .int .i64 k ∧ Hid (∀ q (hq : q < xs.length), q < k → (ys.any fun y => touchP xs[q] y) = false) ∧ Below w1.heap.size w1 wr) (fun i _ => xs.length - (intOf i).toNat)
  case atStart => exact ⟨0, Nat.zero_le _, rfl, (fun q _ h => absurd h (Nat.not_lt_zero q)), Below.refl _ _⟩
  case round =>
    obtain ⟨k, hk, rfl, HQ, hbw⟩ := hrel
    have hbs := hbw.size
    by_cases hk' : k < xs.length
    · obtain ⟨b1, off1, rfl, hpc1⟩ := HA1.out.2.resolve_left (fun h => by rw [h] at hk'; exact absurd hk' (Nat.not_lt_zero _))
      obtain ⟨c0, c1, c2⟩ := (hpc1.below hbw) k hk'
      have f0' := cell_later hbw f0
      have hz1' := cellLt f0'
      dsimp only at hz1'
      clear hpc1
      go_wp2_with fail
      generalize hW2 : wr.alloc _ = W2
      have p0 : W2.cell? ⟨wr.heap.size, 0, none⟩ = some (.int .i64 xs[k].piece) := by rw [← hW2]; simp [go_sem]
      have p1 : W2.cell? ⟨wr.heap.size, 1, none⟩ = some (.int .i64 xs[k].lo) := by rw [← hW2]; simp [go_sem]
      have p2 : W2.cell? ⟨wr.heap.size, 2, none⟩ = some (.int .i64 xs[k].hi) := by rw [← hW2]; simp [go_sem]
      have hbW2 : Below w1.heap.size w1 W2 := by rw [← hW2]; exact (by repeat (first | exact Below.refl _ _ | assumption | refine Below.drew ?_ | refine bdrewN ?_ _ | refine Below.setCell ?_ (by first | omega | (simp; done) | (simp; omega)) _ | refine Below.alloc ?_ (by first | omega | (simp; done) | (simp; omega)) _))
      have hzW2 : wr.heap.size < W2.heap.size := cellLt p0
      clear hW2 c0 c1 c2 hbw hbs f0' hz1'
      go_loopw [27] (fun i wr2 => ∃ (m : Nat), m ≤ ys.length ∧ i = .int .i64 m ∧ Hid (∀ q (hq : q < ys.length), q < m → touchP xs[k] ys[q] = false) ∧ Below W2.heap.size W2 wr2) (fun i _ => ys.length - (intOf i).toNat)
      case atStart => exact ⟨0, Nat.zero_le _, rfl, (fun q _ h => absurd h (Nat.not_lt_zero q)), Below.refl _ _⟩
      case round =>
        obtain ⟨m, hm, rfl, HMq, hb2⟩ := hrel
        have hbs2 := hb2.size
        have hbF := hbW2.trans (hb2.mono hbW2.size)
        have hbsF := hbF.size
        by_cases hm' : m < ys.length
        · obtain ⟨b3, off3, rfl, hpc3⟩ := HB1.out.2.resolve_left (fun h => by rw [h] at hm'; exact absurd hm' (Nat.not_lt_zero _))
          obtain ⟨d0, d1, d2⟩ := (hpc3.below hbF) m hm'
          have q0 := cell_later hb2 p0
          have q1 := cell_later hb2 p1
          have q2 := cell_later hb2 p2
          have hzq := Nat.lt_of_lt_of_le hzW2 hb2.size
          clear hpc3
          go_wp2_with fail
          generalize hW3 : wr.alloc _ = W3
          have hb23 : Below W2.heap.size W2 W3 := by rw [← hW3]; exact (by repeat (first | exact Below.refl _ _ | assumption | refine Below.drew ?_ | refine bdrewN ?_ _ | refine Below.setCell ?_ (by first | omega | (simp; done) | (simp; omega)) _ | refine Below.alloc ?_ (by first | omega | (simp; done) | (simp; omega)) _))
          have hbF3 : Below w1.heap.size w1 W3 := by rw [← hW3]; exact (by repeat (first | exact Below.refl _ _ | assumption | refine Below.drew ?_ | refine bdrewN ?_ _ | refine Below.setCell ?_ (by first | omega | (simp; done) | (simp; omega)) _ | refine Below.alloc ?_ (by first | omega | (simp; done) | (simp; omega)) _))
          clear hW3
          refine (touches_any xs[k] ys[m] _).mono ?_
          rintro e w4 ⟨rfl, hb4⟩
          have hbG : Below w1.heap.size w1 w4 := hbF3.trans (hb4.mono hbF3.size)
          have hbG2 : Below W2.heap.size W2 w4 := hb23.trans (hb4.mono hb23.size)
          clear hb4
          cases hT : touchP xs[k] ys[m]
          · have HM2 : Hid (∀ q (hq : q < ys.length), q < m + 1 → touchP xs[k] ys[q] = false) := by
              intro q hq hqm
              by_cases e : q < m
              · exact HMq.out q hq e
              · have : q = m := by omega
                subst this; exact hT
            clear hT HMq
            go_wp2_with fail
            go_roundw
            case rel => exact ⟨m + 1, by omega, by go_num, HM2, hbG2⟩
            case measure => simp [intOf]; omega
          · have HX : Hid (touchL xs ys = true) := any_hit hk' (any_hit hm' hT)
            clear hT HMq
            go_wp2_with fail
            go_ret
            exact ⟨ret_bool HX.out.symm, hbW.trans (hbG.mono hbW.size)⟩
        · have HQ2 : Hid (∀ q (hq : q < xs.length), q < k + 1 → (ys.any fun y => touchP xs[q] y) = false) := by
            intro q hq hqk
            by_cases e : q < k
            · exact HQ.out q hq e
            · have : q = k := by omega
              subst this
              exact any_none (fun i hi => HMq.out i hi (by omega))
          clear HMq HQ
          go_wp2_with fail
          go_roundw
          case rel => exact ⟨k + 1, by omega, by go_num, HQ2, hbF⟩
          case measure => simp [intOf]; omega
    · have HX : Hid (touchL xs ys = false) := any_none (fun i hi => HQ.out i hi (by omega))
      clear HQ
      go_wp2_with fail
      go_ret
      exact ⟨ret_bool HX.out.symm, hbW.trans (hbw.mono hbW.size)⟩

set_option maxRecDepth 8000 in
set_option maxHeartbeats 4000000 in
theorem anyTwoN_any (a b : Option Addr) (ac bc : Nat) (xs ys : List Int) (s t : MSet) (hs : Hid (s = keysF (xs.map id))) (ht : Hid (t = keysF (ys.map id))) (w : World) (ha : Hid (NumsAt w a xs)) (hb : Hid (NumsAt w b ys)) :
    Calls Try.prog 117 #[keyedV a xs.length ac s, keyedV b ys.length bc t, fnV 118] w fun e w' => e = .returned (.bool (crossL xs ys)) ∧ Below w.heap.size w w' := by
  have hl := ha.out.1
  have hl2 := hb.out.1
  unfold maxLen at hl hl2
  have HOA : Hid s.Ok := by unfold Hid; rw [hs.out]; exact keysF_ok _
  have HOB : Hid t.Ok := by unfold Hid; rw [ht.out]; exact keysF_ok _
  have HPart : Hid (meetsF s t = false → crossL xs ys = false) := fun h => any2_part (key := id) (fun x y h => by simpa using h) (by rw [← hs.out, ← ht.out]; exact h)
  clear hs ht
  unfold keyedV fnV
  go_enter Try.func117, Try.ntmps117
  go_wp2_with fail
  generalize hW : (w.alloc _).alloc _ = W
  have e0 : W.cell? ⟨w.heap.size, 0, none⟩ = some (.slice a xs.length ac) := by rw [← hW]; simp [go_sem]
  have f0 : W.cell? ⟨w.heap.size + 1, 0, none⟩ = some (.slice b ys.length bc) := by rw [← hW]; simp [go_sem]
  have hbW : Below w.heap.size w W := by rw [← hW]; exact (by repeat (first | exact Below.refl _ _ | assumption | refine Below.drew ?_ | refine bdrewN ?_ _ | refine Below.setCell ?_ (by first | omega | (simp; done) | (simp; omega)) _ | refine Below.alloc ?_ (by first | omega | (simp; done) | (simp; omega)) _))
  clear hW
  refine (meets_any s t HOA.out HOB.out _).mono ?_
  rintro e w1 ⟨rfl, hb1⟩
  replace e0 := cell_later hb1 e0
  replace f0 := cell_later hb1 f0
  replace hbW := hbW.trans (hb1.mono hbW.size)
  have hz0 := cellLt e0
  have hz1 := cellLt f0
  dsimp only at hz0 hz1
  clear hb1
  cases hM : meetsF s t
  · have HX := hidP (HPart.out hM)
    clear hM
    go_wp2_with fail
    go_ret
    exact ⟨ret_bool HX.out.symm, hbW⟩
  clear hM HPart
  have HA1 := hidP (ha.out.below hbW)
  have HB1 := hidP (hb.out.below hbW)
  clear ha hb
  go_wp2_with fail
  go_loopw [20] (fun i wr => ∃ (k : Nat), k ≤ xs.length ∧ i = .int .i64 k ∧ Hid (∀ q (hq : q < xs.length), q < k → (ys.any fun y => sameP xs[q] y) = false) ∧ Below w1.heap.size w1 wr) (fun i _ => xs.length - (intOf i).toNat)
  case atStart => exact ⟨0, Nat.zero_le _, rfl, (fun q _ h => absurd h (Nat.not_lt_zero q)), Below.refl _ _⟩
  case round =>
    obtain ⟨k, hk, rfl, HQ, hbw⟩ := hrel
    have hbs := hbw.size
    by_cases hk' : k < xs.length
    · obtain ⟨b1, off1, rfl, hpc1⟩ := HA1.out.2.resolve_left (fun h => by rw [h] at hk'; exact absurd hk' (Nat.not_lt_zero _))
      have c0 := (hpc1.below hbw) k hk'
      have f0' := cell_later hbw f0
      have hz1' := cellLt f0'
      dsimp only at hz1'
      clear hpc1
      go_wp2_with fail
      generalize hW2 : wr = W2 at *
      have hbW2 := hbw
      clear hbw hbs f0' hz1' c0
      go_loopw [27] (fun i wr2 => ∃ (m : Nat), m ≤ ys.length ∧ i = .int .i64 m ∧ Hid (∀ q (hq : q < ys.length), q < m → sameP xs[k] ys[q] = false) ∧ Below W2.heap.size W2 wr2) (fun i _ => ys.length - (intOf i).toNat)
      case atStart => exact ⟨0, Nat.zero_le _, rfl, (fun q _ h => absurd h (Nat.not_lt_zero q)), Below.refl _ _⟩
      case round =>
        obtain ⟨m, hm, rfl, HMq, hb2⟩ := hrel
        have hbs2 := hb2.size
        have hbF := hbW2.trans (hb2.mono hbW2.size)
        have hbsF := hbF.size
        by_cases hm' : m < ys.length
        · obtain ⟨b3, off3, rfl, hpc3⟩ := HB1.out.2.resolve_left (fun h => by rw [h] at hm'; exact absurd hm' (Nat.not_lt_zero _))
          have d0 := (hpc3.below hbF) m hm'
          
          clear hpc3
          go_wp2_with fail
          have hb23 := hb2
          have hbF3 := hbF
          refine (sameNumber_any xs[k] ys[m] _).mono ?_
          rintro e w4 ⟨rfl, hb4⟩
          have hbG : Below w1.heap.size w1 w4 := hbF3.trans (hb4.mono hbF3.size)
          have hbG2 : Below W2.heap.size W2 w4 := hb23.trans (hb4.mono hb23.size)
          clear hb4
          cases hT : (xs[k] == ys[m])
          · have HM2 : Hid (∀ q (hq : q < ys.length), q < m + 1 → sameP xs[k] ys[q] = false) := by
              intro q hq hqm
              by_cases e : q < m
              · exact HMq.out q hq e
              · have : q = m := by omega
                subst this; exact hT
            clear hT HMq
            go_wp2_with fail
            go_roundw
            case rel => exact ⟨m + 1, by omega, by go_num, HM2, hbG2⟩
            case measure => simp [intOf]; omega
          · have HX : Hid (crossL xs ys = true) := any_hit hk' (any_hit hm' hT)
            clear hT HMq
            go_wp2_with fail
            go_ret
            exact ⟨ret_bool HX.out.symm, hbW.trans (hbG.mono hbW.size)⟩
        · have HQ2 : Hid (∀ q (hq : q < xs.length), q < k + 1 → (ys.any fun y => sameP xs[q] y) = false) := by
            intro q hq hqk
            by_cases e : q < k
            · exact HQ.out q hq e
            · have : q = k := by omega
              subst this
              exact any_none (fun i hi => HMq.out i hi (by omega))
          clear HMq HQ
          go_wp2_with fail
          go_roundw
          case rel => exact ⟨k + 1, by omega, by go_num, HQ2, hbF⟩
          case measure => simp [intOf]; omega
    · have HX : Hid (crossL xs ys = false) := any_none (fun i hi => HQ.out i hi (by omega))
      clear HQ
      go_wp2_with fail
      go_ret
      exact ⟨ret_bool HX.out.symm, hbW.trans (hbw.mono hbW.size)⟩

set_option maxRecDepth 8000 in
set_option maxHeartbeats 4000000 in
theorem anyTwoL_any (a b : Option Addr) (ac bc : Nat) (xs ys : List MEnd) (s t : MSet) (hs : Hid (s = keysF (xs.map MEnd.piece))) (ht : Hid (t = keysF (ys.map MEnd.piece))) (w : World) (ha : Hid (EndsAt w a xs)) (hb : Hid (EndsAt w b ys)) :
    Calls Try.prog 119 #[keyedV a xs.length ac s, keyedV b ys.length bc t, fnV 120] w fun e w' => e = .returned (.bool (wantL xs ys)) ∧ Below w.heap.size w w' := by
  have hl := ha.out.1
  have hl2 := hb.out.1
  unfold maxLen at hl hl2
  have HOA : Hid s.Ok := by unfold Hid; rw [hs.out]; exact keysF_ok _
  have HOB : Hid t.Ok := by unfold Hid; rw [ht.out]; exact keysF_ok _
  have HPart : Hid (meetsF s t = false → wantL xs ys = false) := fun h => any2_part (key := MEnd.piece) (fun x y h => by simp only [Bool.and_eq_true, beq_iff_eq] at h; exact h.1) (by rw [← hs.out, ← ht.out]; exact h)
  clear hs ht
  unfold keyedV fnV
  go_enter Try.func119, Try.ntmps119
  go_wp2_with fail
  generalize hW : (w.alloc _).alloc _ = W
  have e0 : W.cell? ⟨w.heap.size, 0, none⟩ = some (.slice a xs.length ac) := by rw [← hW]; simp [go_sem]
  have f0 : W.cell? ⟨w.heap.size + 1, 0, none⟩ = some (.slice b ys.length bc) := by rw [← hW]; simp [go_sem]
  have hbW : Below w.heap.size w W := by rw [← hW]; exact (by repeat (first | exact Below.refl _ _ | assumption | refine Below.drew ?_ | refine bdrewN ?_ _ | refine Below.setCell ?_ (by first | omega | (simp; done) | (simp; omega)) _ | refine Below.alloc ?_ (by first | omega | (simp; done) | (simp; omega)) _))
  clear hW
  refine (meets_any s t HOA.out HOB.out _).mono ?_
  rintro e w1 ⟨rfl, hb1⟩
  replace e0 := cell_later hb1 e0
  replace f0 := cell_later hb1 f0
  replace hbW := hbW.trans (hb1.mono hbW.size)
  have hz0 := cellLt e0
  have hz1 := cellLt f0
  dsimp only at hz0 hz1
  clear hb1
  cases hM : meetsF s t
  · have HX := hidP (HPart.out hM)
    clear hM
    go_wp2_with fail
    go_ret
    exact ⟨ret_bool HX.out.symm, hbW⟩
  clear hM HPart
  have HA1 := hidP (ha.out.below hbW)
  have HB1 := hidP (hb.out.below hbW)
  clear ha hb
  go_wp2_with fail
  go_loopw [20] (fun i wr => ∃ (k : Nat), k ≤ xs.length ∧ i = .int .i64 k ∧ Hid (∀ q (hq : q < xs.length), q < k → (ys.any fun y => wantP xs[q] y) = false) ∧ Below w1.heap.size w1 wr) (fun i _ => xs.length - (intOf i).toNat)
  case atStart => exact ⟨0, Nat.zero_le _, rfl, (fun q _ h => absurd h (Nat.not_lt_zero q)), Below.refl _ _⟩
  case round =>
    obtain ⟨k, hk, rfl, HQ, hbw⟩ := hrel
    have hbs := hbw.size
    by_cases hk' : k < xs.length
    · obtain ⟨b1, off1, rfl, hpc1⟩ := HA1.out.2.resolve_left (fun h => by rw [h] at hk'; exact absurd hk' (Nat.not_lt_zero _))
      obtain ⟨c0, c1⟩ := (hpc1.below hbw) k hk'
      have f0' := cell_later hbw f0
      have hz1' := cellLt f0'
      dsimp only at hz1'
      clear hpc1
      go_wp2_with fail
      generalize hW2 : wr.alloc _ = W2
      have p0 : W2.cell? ⟨wr.heap.size, 0, none⟩ = some (.int .i64 xs[k].piece) := by rw [← hW2]; simp [go_sem]
      have p1 : W2.cell? ⟨wr.heap.size, 1, none⟩ = some (.int .i64 xs[k].side) := by rw [← hW2]; simp [go_sem]
      have hbW2 : Below w1.heap.size w1 W2 := by rw [← hW2]; exact (by repeat (first | exact Below.refl _ _ | assumption | refine Below.drew ?_ | refine bdrewN ?_ _ | refine Below.setCell ?_ (by first | omega | (simp; done) | (simp; omega)) _ | refine Below.alloc ?_ (by first | omega | (simp; done) | (simp; omega)) _))
      have hzW2 : wr.heap.size < W2.heap.size := cellLt p0
      clear hW2 c0 c1 hbw hbs f0' hz1'
      go_loopw [27] (fun i wr2 => ∃ (m : Nat), m ≤ ys.length ∧ i = .int .i64 m ∧ Hid (∀ q (hq : q < ys.length), q < m → wantP xs[k] ys[q] = false) ∧ Below W2.heap.size W2 wr2) (fun i _ => ys.length - (intOf i).toNat)
      case atStart => exact ⟨0, Nat.zero_le _, rfl, (fun q _ h => absurd h (Nat.not_lt_zero q)), Below.refl _ _⟩
      case round =>
        obtain ⟨m, hm, rfl, HMq, hb2⟩ := hrel
        have hbs2 := hb2.size
        have hbF := hbW2.trans (hb2.mono hbW2.size)
        have hbsF := hbF.size
        by_cases hm' : m < ys.length
        · obtain ⟨b3, off3, rfl, hpc3⟩ := HB1.out.2.resolve_left (fun h => by rw [h] at hm'; exact absurd hm' (Nat.not_lt_zero _))
          obtain ⟨d0, d1⟩ := (hpc3.below hbF) m hm'
          have q0 := cell_later hb2 p0
          have q1 := cell_later hb2 p1
          have hzq := Nat.lt_of_lt_of_le hzW2 hb2.size
          clear hpc3
          go_wp2_with fail
          generalize hW3 : wr.alloc _ = W3
          have hb23 : Below W2.heap.size W2 W3 := by rw [← hW3]; exact (by repeat (first | exact Below.refl _ _ | assumption | refine Below.drew ?_ | refine bdrewN ?_ _ | refine Below.setCell ?_ (by first | omega | (simp; done) | (simp; omega)) _ | refine Below.alloc ?_ (by first | omega | (simp; done) | (simp; omega)) _))
          have hbF3 : Below w1.heap.size w1 W3 := by rw [← hW3]; exact (by repeat (first | exact Below.refl _ _ | assumption | refine Below.drew ?_ | refine bdrewN ?_ _ | refine Below.setCell ?_ (by first | omega | (simp; done) | (simp; omega)) _ | refine Below.alloc ?_ (by first | omega | (simp; done) | (simp; omega)) _))
          clear hW3
          refine (contradicts_any xs[k] ys[m] _).mono ?_
          rintro e w4 ⟨rfl, hb4⟩
          have hbG : Below w1.heap.size w1 w4 := hbF3.trans (hb4.mono hbF3.size)
          have hbG2 : Below W2.heap.size W2 w4 := hb23.trans (hb4.mono hb23.size)
          clear hb4
          cases hT : (xs[k].piece == ys[m].piece && xs[k].side != ys[m].side)
          · have HM2 : Hid (∀ q (hq : q < ys.length), q < m + 1 → wantP xs[k] ys[q] = false) := by
              intro q hq hqm
              by_cases e : q < m
              · exact HMq.out q hq e
              · have : q = m := by omega
                subst this; exact hT
            clear hT HMq
            go_wp2_with fail
            go_roundw
            case rel => exact ⟨m + 1, by omega, by go_num, HM2, hbG2⟩
            case measure => simp [intOf]; omega
          · have HX : Hid (wantL xs ys = true) := any_hit hk' (any_hit hm' hT)
            clear hT HMq
            go_wp2_with fail
            go_ret
            exact ⟨ret_bool HX.out.symm, hbW.trans (hbG.mono hbW.size)⟩
        · have HQ2 : Hid (∀ q (hq : q < xs.length), q < k + 1 → (ys.any fun y => wantP xs[q] y) = false) := by
            intro q hq hqk
            by_cases e : q < k
            · exact HQ.out q hq e
            · have : q = k := by omega
              subst this
              exact any_none (fun i hi => HMq.out i hi (by omega))
          clear HMq HQ
          go_wp2_with fail
          go_roundw
          case rel => exact ⟨k + 1, by omega, by go_num, HQ2, hbF⟩
          case measure => simp [intOf]; omega
    · have HX : Hid (wantL xs ys = false) := any_none (fun i hi => HQ.out i hi (by omega))
      clear HQ
      go_wp2_with fail
      go_ret
      exact ⟨ret_bool HX.out.symm, hbW.trans (hbw.mono hbW.size)⟩

end Go.Proofs.Ytmkdgnmmebldgaa

namespace Go.Proofs.Ytmkdgnmmebldgaa
open Go.RowKit Go.Maps
open Go.ChangeMaps (setBlock heap_setBlock_same)

theorem zeroI (w : World) : (zeroValue 3).run Try.prog w = .ok (.int .i64 0) w := by kernel_rfl

/-- Block b is a map of numbers that reads as f says. -/
def CMap (kt : TypeId) (w : World) (b n : Nat) (f : Value → Int) : Prop :=
  ∃ D : DataW Unit, w.ownsMap Try.prog kt (plainElem Try.prog 3) b n D ∧ IsMap D ∧ ∀ key kl, keyOf Try.prog kt key = some kl → D.atKey kl (.lit (.int .i64 0)) = .lit (.int .i64 (f key))

theorem CMap.made (kt : TypeId) (w : World) : CMap kt (w.alloc (.map #[] 0)) w.heap.size 0 (fun _ => 0) :=
  ⟨.map [], World.ownsMap_made w _ _ _, isMap_empty, fun _ _ _ => rfl⟩

theorem CMap.of_block {kt : TypeId} {w w' : World} {b n : Nat} {f : Value → Int} (h : CMap kt w b n f) (e : w'.heap[b]? = w.heap[b]?) : CMap kt w' b n f := by
  obtain ⟨D, ⟨es, clock, hb, r⟩, h2, h3⟩ := h
  exact ⟨D, ⟨es, clock, e.trans hb, r⟩, h2, h3⟩

theorem CMap.lt {kt : TypeId} {w : World} {b n : Nat} {f : Value → Int} (h : CMap kt w b n f) : b < w.heap.size := by
  obtain ⟨D, h1, _⟩ := h
  exact h1.lt

theorem CMap.below {kt : TypeId} {w w' : World} {b n : Nat} {f : Value → Int} (h : CMap kt w b n f) (hb : Below w.heap.size w w') : CMap kt w' b n f := h.of_block (hb.block _ h.lt)

theorem CMap.lookup {kt t : TypeId} {w : World} {b n : Nat} {f : Value → Int} (h : CMap kt w b n f) (K : Keyed Try.prog kt) (ht : Try.prog.underlying t = some (.map kt 3)) {key : Value} {kl : Lit} (hkey : keyOf Try.prog kt key = some kl) :
    (Instr.lookup t (.map (some b)) key false).run Try.prog w = .ok (.int .i64 (f key)) w := by
  obtain ⟨D, h1, _, h3⟩ := h
  obtain ⟨c, hrun, hat, _⟩ := h1.lookup_int K ht Try.underlying3 (zeroI w) hkey
  have e := (h3 key kl hkey).symm.trans hat
  simp only [DataW.lit.injEq, Lit.int.injEq, true_and] at e
  rw [hrun, e]

theorem CMap.update {kt t : TypeId} {w : World} {b n : Nat} {f : Value → Int} (h : CMap kt w b n f) (K : Keyed Try.prog kt) (ht : Try.prog.underlying t = some (.map kt 3)) (hn : n < maxLen) {key : Value} {kl : Lit} (hkey : keyOf Try.prog kt key = some kl)
    (v : Int) (hv : (Lit.int .i64 v).wf = true) (f' : Value → Int) (h1 : f' key = v) (h2 : ∀ k, k ≠ key → f' k = f k) :
    ∃ w', (Instr.mapUpdate t (.map (some b)) key (.int .i64 v)).run Try.prog w = .ok () w' ∧ CMap kt w' b (n + 1) f' ∧ w.grownBy w' (some b) := by
  obtain ⟨D, ho, hm, h3⟩ := h
  obtain ⟨w', hrun, hown, hg⟩ := ho.update K ht hn hkey (plainElem_int Try.underlying3 hv)
  refine ⟨w', hrun, ⟨_, hown, hm.put _ _, fun k l hk => ?_⟩, hg⟩
  by_cases e : k = key
  · subst e
    have : l = kl := by rw [hk] at hkey; injection hkey
    subst this
    rw [atKey_put_same hm (K.key hk), h1]
  · have hl : l ≠ kl := by
      intro el
      rw [el] at hk
      exact e (K.inj hk hkey)
    rw [atKey_put_other hl, h3 k l hk, h2 k e]

theorem lawS : Keyed Try.prog 9 := string_keyed Try.underlying9
theorem keyS {s : ByteArray} (h : s.size ≤ maxLen) : keyOf Try.prog 9 (.string s) = some (.string s.data.toList) := Go.WideMaps.keyOf_string_mk Try.underlying9 h

/-- How often a name stands among names. -/
def cntS (l : List ByteArray) (s : ByteArray) : Nat := l.countP fun t => decide (t = s)
def fS (l : List ByteArray) : Value → Int
  | .string s => cntS l s
  | _ => 0
theorem fS_nil : fS [] = fun _ => 0 := by
  funext v
  cases v <;> rfl
theorem fS_same (l : List ByteArray) (s : ByteArray) : fS (l ++ [s]) (.string s) = cntS l s + 1 := by
  show ((cntS (l ++ [s]) s : Nat) : Int) = _
  unfold cntS
  rw [List.countP_append]
  simp
theorem fS_other (l : List ByteArray) (s : ByteArray) : ∀ k, k ≠ .string s → fS (l ++ [s]) k = fS l k := by
  intro k hk
  cases k <;> try rfl
  rename_i t
  have hne : ¬ s = t := fun e => hk (by rw [e])
  show ((cntS (l ++ [s]) t : Nat) : Int) = ((cntS l t : Nat) : Int)
  unfold cntS
  rw [List.countP_append]
  simp [hne]
theorem cntS_le (l : List ByteArray) (s : ByteArray) : cntS l s ≤ l.length := List.countP_le_length
theorem cntS_zero (l : List ByteArray) (s : ByteArray) : cntS l s = 0 ↔ aheadB l s = false := by
  unfold cntS aheadB
  rw [List.countP_eq_zero, List.any_eq_false]

theorem wf64 {v : Int} (h0 : 0 ≤ v) (h1 : v ≤ 1000000000) : (Lit.int .i64 v).wf = true := WalkArith.wf_i64 (by omega)

end Go.Proofs.Ytmkdgnmmebldgaa

namespace Go.Proofs.Ytmkdgnmmebldgaa
open Go.RowKit Go.Maps
open Go.WideMaps (KeyLaw)
open Go.ChangeMaps (setBlock heap_setBlock_same)

theorem Try.laidOutB : laidOutB Try.prog = true := by kernel_rfl
theorem Try.rowEnd : (139 : TypeId) < Try.prog.types.size := of_decide_eq_true (by kernel_rfl)
theorem lawKE : KeyLaw Try.prog 139 := deep_law_laid Try.laidOutB (m := 2) (by omega) Try.rowEnd (by kernel_rfl) (by rw [Try.underlying139])
theorem lawE : Keyed Try.prog 139 := Keyed.of_law lawKE
theorem Try.cellsEnd : Try.prog.cellsOf 139 = 2 := by kernel_rfl
theorem Try.cellsInt : Try.prog.cellsOf 3 = 1 := by kernel_rfl
theorem Try.keyTypeEnd : Try.prog.keyType 139 = true := by kernel_rfl

theorem keyE {p s : Int} (hp : (Lit.int .i64 p).wf = true) (hs : (Lit.int .i64 s).wf = true) : ∃ kl, keyOf Try.prog 139 (.agg #[.int .i64 p, .int .i64 s]) = some kl := by
  have hn : ∃ m, Try.prog.types.size = m + 1 := by
    have h := Try.rowEnd
    revert h
    generalize Try.prog.types.size = n
    intro h
    cases n with
    | zero => exact absurd h (Nat.not_lt_zero _)
    | succ m => exact ⟨m, rfl⟩
  obtain ⟨m, hm⟩ := hn
  unfold keyOf
  simp only [Try.underlying139]
  rw [if_pos (by simp [Try.keyTypeEnd, Value.formed, Try.underlying139, Try.cellsEnd]), hm]
  unfold Program.keyLits
  simp only [Try.underlying139, Value.cells]
  rw [if_pos (by rw [Try.cellsEnd]; exact ⟨rfl, by simp⟩)]
  simp [Try.cellsInt, Program.keyLits, Try.underlying3, hp, hs]

theorem setBlock_twice (w : World) (b : Nat) (x y : Obj) : setBlock (setBlock w b x) b y = setBlock w b y := by
  unfold setBlock
  simp

theorem ok_world {α : Type} {a a' : α} {w w' : World} (h : Result.ok a w = Result.ok a' w') : w = w' := by injection h
theorem ok_value {α : Type} {a a' : α} {w w' : World} (h : Result.ok a w = Result.ok a' w') : a = a' := by injection h
theorem int_value {a b : Int} (h : Value.int .i64 a = Value.int .i64 b) : a = b := by injection h

/-- The entry is made or found, then stored into: as one update does it. -/
theorem entry_core {H : Type} {P : Program} {kt it t : TypeId} {w : World} {b : Nat} {es : Array MapEntry} {clock : Nat} {R : Value → Option (DataW H × List MemPlace)} (K : KeyLaw P kt) (ht : P.underlying t = some (.map kt it)) {z : Value} (hz : ∀ u : World, (zeroValue it).run P u = .ok z u)
    (hb : w.heap[b]? = some (.map es clock)) (F : WideElems.Fit P kt R es clock) {key : Value} {kl : Lit} (hkey : keyOf P kt key = some kl) :
    ∃ (v0 : Value) (st : Nat) (w1 : World), (Instr.mapEntry t (.map (some b)) key).run P w = .ok (.tuple #[v0, goInt st]) w1 ∧
      (w1.heap[b]? = w.heap[b]? ∨ (Instr.mapUpdate t (.map (some b)) key z).run P w = .ok () w1 ∧ (Instr.lookup t (.map (some b)) key false).run P w = .ok z w) ∧
      ∀ val, ∃ w2, (Instr.entryStore t (.map (some b)) (goInt st) val).run P w1 = .ok () w2 ∧ (Instr.mapUpdate t (.map (some b)) key val).run P w = .ok () w2 := by
  obtain ⟨v0, st, es1, clock1, hme, _, hst⟩ := WideElems.entry_then_store K ht hz hb F hkey
  refine ⟨v0, st, setBlock w b (.map es1 clock1), hme, ?_, fun val => ?_⟩
  · rcases K.find w hkey es.toList F.keys with ⟨g1, g2⟩ | ⟨j, e0, g1, g2, g3⟩
    · right
      have r1 : (Instr.mapEntry t (.map (some b)) key).run P w = .ok (.tuple #[z, goInt clock]) (setBlock w b (.map (es.push ⟨key, z, clock⟩) (clock + 1))) := by
        simp [Instr.mapEntry, run_underlying ht, MapKept.run_getObj_map hb, K.check w false hkey, g1, hz, MapKept.run_setObj_map _ hb, Result.andThen, setBlock]
      have r2 : (Instr.mapUpdate t (.map (some b)) key z).run P w = .ok () (setBlock w b (.map (es.push ⟨key, z, clock⟩) (clock + 1))) := by
        simp [Instr.mapUpdate, run_underlying ht, MapKept.run_getObj_map hb, K.check w false hkey, g1, MapKept.run_setObj_map _ hb, Result.andThen, setBlock]
      have e1 := ok_world (r1.symm.trans hme)
      rw [← e1]
      refine ⟨r2, ?_⟩
      simp [Instr.lookup, run_underlying ht, MapKept.run_getObj_map hb, K.check w es.isEmpty hkey, g1, hz, Result.andThen]
    · left
      have hj : es[j]? = some e0 := by simpa using g2
      have hsame : es.modify j (fun e => { e with key := key }) = es := by
        apply Array.ext'
        rw [Array.toList_modify]
        apply List.ext_getElem?
        intro i
        rw [List.getElem?_modify]
        by_cases e : j = i
        · subst e
          rw [g2]
          simp [← g3]
        · simp [e]
      have r1 : (Instr.mapEntry t (.map (some b)) key).run P w = .ok (.tuple #[e0.val, goInt e0.born]) (setBlock w b (.map es clock)) := by
        simp [Instr.mapEntry, run_underlying ht, MapKept.run_getObj_map hb, K.check w false hkey, g1, hj, g3, K.stays w hkey, hsame, MapKept.run_setObj_map _ hb, Result.andThen, setBlock]
      have e1 := ok_world (r1.symm.trans hme)
      rw [← e1, heap_setBlock_same hb, hb]
  · obtain ⟨es', clock', hes, hmu⟩ := hst (setBlock w b (.map es1 clock1)) val (heap_setBlock_same hb _)
    rw [setBlock_twice] at hes
    exact ⟨_, hes, hmu⟩

theorem CMap.mono {kt : TypeId} {w : World} {b n n' : Nat} {f : Value → Int} (h : CMap kt w b n f) (hn : n ≤ n') : CMap kt w b n' f := by
  obtain ⟨D, h1, h2⟩ := h
  exact ⟨D, h1.mono hn, h2⟩

theorem CMap.entry {kt t : TypeId} {w : World} {b n : Nat} {f : Value → Int} (h : CMap kt w b n f) (K : KeyLaw Try.prog kt) (ht : Try.prog.underlying t = some (.map kt 3)) (hn : n < maxLen) {key : Value} {kl : Lit} (hkey : keyOf Try.prog kt key = some kl)
    (v : Int) (hv : (Lit.int .i64 v).wf = true) (f' : Value → Int) (h1 : f' key = v) (h2 : ∀ k, k ≠ key → f' k = f k) :
    ∃ (v0 : Value) (st : Nat) (w1 w2 : World), (Instr.mapEntry t (.map (some b)) key).run Try.prog w = .ok (.tuple #[v0, .int .i64 st]) w1 ∧
      (Instr.lookup t (.map (some b)) key false).run Try.prog w1 = .ok (.int .i64 (f key)) w1 ∧
      (Instr.entryStore t (.map (some b)) (.int .i64 st) (.int .i64 v)).run Try.prog w1 = .ok () w2 ∧ CMap kt w2 b (n + 1) f' ∧ w.grownBy w2 (some b) := by
  have Kd := Keyed.of_law K
  have hlook := h.lookup Kd ht hkey
  obtain ⟨w', hup, hC, hg⟩ := h.update Kd ht hn hkey v hv f' h1 h2
  have h0 := h
  obtain ⟨D, ⟨es, clock, hb, F, hs, hD⟩, hm, h3⟩ := h
  obtain ⟨v0, st, w1, hme, hor, hst⟩ := entry_core K ht zeroI hb F hkey
  obtain ⟨w2, hes, hmu⟩ := hst (.int .i64 v)
  have e2 := ok_world (hmu.symm.trans hup)
  refine ⟨v0, st, w1, w', hme, ?_, e2 ▸ hes, hC, hg⟩
  have hC1 : CMap kt w1 b (n + 1) f := by
    rcases hor with e | ⟨r2, r3⟩
    · exact (h0.of_block e).mono (Nat.le_succ n)
    · have hz : f key = 0 := int_value (ok_value (hlook.symm.trans r3))
      obtain ⟨w3, hup3, hC3, _⟩ := h0.update Kd ht hn hkey 0 (by decide) f hz (fun _ _ => rfl)
      have e3 := ok_world (hup3.symm.trans r2)
      exact e3 ▸ hC3
  exact hC1.lookup Kd ht hkey

end Go.Proofs.Ytmkdgnmmebldgaa

namespace Go.Proofs.Ytmkdgnmmebldgaa
open Go.RowKit Go.Deep Go.Maps
open Go.WideMaps (KeyLaw)

theorem Try.rowLie : (48 : TypeId) < Try.prog.types.size := of_decide_eq_true (by kernel_rfl)
theorem lawKL : KeyLaw Try.prog 48 := deep_law_laid Try.laidOutB (m := 2) (by omega) Try.rowLie (by kernel_rfl) (by rw [Try.underlying48])
theorem lawL : Keyed Try.prog 48 := Keyed.of_law lawKL
theorem Try.cellsLie : Try.prog.cellsOf 48 = 2 := by kernel_rfl
theorem Try.cellsIntL : Try.prog.cellsOf 3 = 1 := by kernel_rfl
theorem Try.keyTypeLie : Try.prog.keyType 48 = true := by kernel_rfl

theorem keyL {p s : Int} (hp : (Lit.int .i64 p).wf = true) (hs : (Lit.int .i64 s).wf = true) : ∃ kl, keyOf Try.prog 48 (.agg #[.int .i64 p, .int .i64 s]) = some kl := by
  have hn : ∃ m, Try.prog.types.size = m + 1 := by
    have h := Try.rowLie
    revert h
    generalize Try.prog.types.size = n
    intro h
    cases n with
    | zero => exact absurd h (Nat.not_lt_zero _)
    | succ m => exact ⟨m, rfl⟩
  obtain ⟨m, hm⟩ := hn
  unfold keyOf
  simp only [Try.underlying48]
  rw [if_pos (by simp [Try.keyTypeLie, Value.formed, Try.underlying48, Try.cellsLie]), hm]
  unfold Program.keyLits
  simp only [Try.underlying48, Value.cells]
  rw [if_pos (by rw [Try.cellsLie]; exact ⟨rfl, by simp⟩)]
  simp [Try.cellsIntL, Program.keyLits, Try.underlying3, hp, hs]

/-- How often a Lie stands in a list. -/
def standsL (es : List MEnd) (p s : Int) : Nat := es.countP fun e => e.piece == p && e.side == s
def fL (es : List MEnd) : Value → Int
  | .agg ⟨[.int .i64 p, .int .i64 s]⟩ => standsL es p s
  | _ => 0
theorem fL_at (es : List MEnd) (p s : Int) : fL es (.agg #[.int .i64 p, .int .i64 s]) = standsL es p s := rfl
theorem fL_nil : fL [] = fun _ => 0 := by
  funext v
  unfold fL
  split <;> rfl
theorem standsL_snoc (es : List MEnd) (e : MEnd) (p s : Int) : standsL (es ++ [e]) p s = standsL es p s + if (e.piece == p && e.side == s) = true then 1 else 0 := by
  unfold standsL
  rw [List.countP_append, List.countP_singleton]
theorem fL_same (es : List MEnd) (p s : Int) : fL (es ++ [⟨p, s⟩]) (.agg #[.int .i64 p, .int .i64 s]) = fL es (.agg #[.int .i64 p, .int .i64 s]) + 1 := by
  rw [fL_at, fL_at, standsL_snoc, if_pos (by simp)]
  simp
theorem fL_other (es : List MEnd) (p s : Int) : ∀ k, k ≠ .agg #[.int .i64 p, .int .i64 s] → fL (es ++ [⟨p, s⟩]) k = fL es k := by
  intro k hk
  unfold fL
  split
  · rename_i p' s'
    rw [standsL_snoc, if_neg]
    · simp
    · intro h
      simp at h
      apply hk
      rw [h.1, h.2]
  · rfl
theorem standsL_le (es : List MEnd) (p s : Int) : standsL es p s ≤ es.length := List.countP_le_length
theorem fL_bd (L : List MEnd) (k : Value) : 0 ≤ fL L k ∧ fL L k ≤ L.length := by
  unfold fL
  split
  · rename_i p s
    have := standsL_le L p s
    omega
  · omega
theorem standsL_met (out : List MEnd) (f : MFlank) : decide ((0 : Int) < (standsL out f.of f.lie : Nat)) = metL out f := by
  unfold metL standsL
  rw [Bool.eq_iff_iff, decide_eq_true_iff, List.any_eq_true]
  have h : (0 : Int) < ((List.countP (fun e => e.piece == f.of && e.side == f.lie) out : Nat) : Int) ↔ 0 < List.countP (fun e => e.piece == f.of && e.side == f.lie) out := by omega
  rw [h, List.countP_pos_iff]

def LMap (w : World) (b : Nat) (L : List MEnd) : Prop := CMap 48 w b L.length (fL L)
theorem LMap.below {w w' : World} {b : Nat} {L : List MEnd} (h : LMap w b L) (hb : Below w.heap.size w w') : LMap w' b L := CMap.below h hb
theorem LMap.made (w : World) : LMap (w.alloc (.map #[] 0)) w.heap.size [] := by
  have h := CMap.made 48 w
  rw [← fL_nil] at h
  exact h
theorem LMap.kept {w w' : World} {b : Nat} {L : List MEnd} (h : LMap w b L) (e : w'.heap[b]? = w.heap[b]?) : LMap w' b L := CMap.of_block h e

/-- What 'stands[l]++' does, each operation by itself. -/
theorem LMap.count {w : World} {b : Nat} {L : List MEnd} (h : LMap w b L) {p s : Int} (hp : (Lit.int .i64 p).wf = true) (hs : (Lit.int .i64 s).wf = true) (hn : L.length ≤ 100000000) :
    ∃ (c : Int) (v0 : Value) (st : Nat) (w1 w2 : World), 0 ≤ c ∧ c ≤ 100000000 ∧
      (Instr.lookup 122 (.map (some b)) (.agg #[.int .i64 p, .int .i64 s]) false).run Try.prog w = .ok (.int .i64 c) w ∧
      (Instr.mapEntry 122 (.map (some b)) (.agg #[.int .i64 p, .int .i64 s])).run Try.prog w = .ok (.tuple #[v0, .int .i64 st]) w1 ∧
      (Instr.lookup 122 (.map (some b)) (.agg #[.int .i64 p, .int .i64 s]) false).run Try.prog w1 = .ok (.int .i64 c) w1 ∧
      (Instr.entryStore 122 (.map (some b)) (.int .i64 st) (.int .i64 (c + 1))).run Try.prog w1 = .ok () w2 ∧ LMap w2 b (L ++ [⟨p, s⟩]) ∧ w.grownBy w2 (some b) := by
  obtain ⟨kl, hkey⟩ := keyL hp hs
  have hbd := fL_bd L (.agg #[.int .i64 p, .int .i64 s])
  have hlk := CMap.lookup h lawL Try.underlying122 hkey
  obtain ⟨v0, st, w1, w2, hme, hl1, hes, hM3, hg⟩ := CMap.entry h lawKL Try.underlying122 (by unfold maxLen; omega) hkey (fL L (.agg #[.int .i64 p, .int .i64 s]) + 1) (wf64 (by omega) (by omega)) (fL (L ++ [⟨p, s⟩])) (fL_same _ _ _) (fL_other _ _ _)
  exact ⟨_, v0, st, w1, w2, hbd.1, by omega, hlk, hme, hl1, hes, by unfold LMap; rw [List.length_append]; exact hM3, hg⟩
theorem LMap.look {w : World} {b : Nat} {L : List MEnd} (h : LMap w b L) {p s : Int} (hp : (Lit.int .i64 p).wf = true) (hs : (Lit.int .i64 s).wf = true) :
      (Instr.lookup 122 (.map (some b)) (.agg #[.int .i64 p, .int .i64 s]) false).run Try.prog w = .ok (.int .i64 (standsL L p s)) w := by
  obtain ⟨kl, hkey⟩ := keyL hp hs
  exact CMap.lookup h lawL Try.underlying122 hkey

end Go.Proofs.Ytmkdgnmmebldgaa

namespace Go.Proofs.Ytmkdgnmmebldgaa
open Go.RowKit Go.Deep

theorem grown_cell {w w' : World} {b : Nat} {p : Addr} {v : Value} (h : w.grownBy w' (some b)) (hc : w.cell? p = some v) (hp : p.block ≠ b) : w'.cell? p = some v :=
  (World.cell?_of_block (w := w) (h.block p.block (cellLt hc) (fun e => by cases e; exact hp rfl))).trans hc
theorem owns_grown {w w' : World} {b B e s n : Nat} {v : Value} {xs : List Value} (h : w.ownsRow B e s v n xs) (hg : w.grownBy w' (some b)) (hb : v.ownBlock ≠ some b) : w'.ownsRow B e s v n xs := by
  refine ⟨h.1, ?_⟩
  rcases h.2 with h2 | ⟨g, cap, cur, h1, h2, h3, h4⟩
  · exact Or.inl h2
  · exact Or.inr ⟨g, cap, cur, h1, h2, (hg.block g (Array.getElem?_eq_some_iff.1 h3).1 (fun e => hb (by rw [h1]; exact e))).trans h3, h4⟩
theorem LMap.apart {w : World} {b B e s n : Nat} {v : Value} {xs : List Value} {L : List MEnd} (h : LMap w b L) (ho : w.ownsRow B e s v n xs) : v.ownBlock ≠ some b := by
  obtain ⟨D, ⟨es, clock, hb, _⟩, _⟩ := h
  rcases ho.2 with ⟨rfl, _⟩ | ⟨g, cap, cur, rfl, h2, h3, h4⟩
  · intro e; cases e
  · intro e
    cases e
    rw [hb] at h3
    cases h3
theorem LMap.grown {w w' : World} {b : Nat} {row : Option Nat} {L : List MEnd} (h : LMap w b L) (hg : w.grownBy w' row) (hr : row ≠ some b) : LMap w' b L :=
  h.kept (hg.block b (CMap.lt h) (fun e => hr e.symm))

set_option maxRecDepth 4000 in
set_option maxHeartbeats 4000000 in
theorem implNeeds_any (d : RAddr) (r : MRoute) (w : World) (h1 : Hid (EndsAt w d.a1 r.lies)) (h5 : Hid (FlanksAt w d.a5 r.flanks)) (hl1 : r.lies.length ≤ 1048576) (hl5 : r.flanks.length ≤ 1048576) (hwf : Hid (WfR r)) (hnil : Hid (d.a1 = none → d.c1 = 0)) :
    Calls Try.prog 16 #[routeV d r] w fun e w' => ∃ x y, e = .returned (.slice x (needsF r.lies r.flanks).length y) ∧ w'.ownsRow w.heap.size 48 2 (.slice x (needsF r.lies r.flanks).length y) (needsF r.lies r.flanks).length (flatE (needsF r.lies r.flanks)) ∧ Below w.heap.size w w' := by
  have hmm := @run_makeMap Try.prog
  unfold routeV
  obtain ⟨a0, c0, a1, c1, a2, c2, a3, c3, a4, c4, a5, c5⟩ := d
  dsimp only at h1 h5 hnil ⊢
  have HNone : Hid (a1 = none → r.lies.length = 0) := fun e => by
    rcases h1.out.2 with h | ⟨b, off, h, _⟩
    · rw [h]; rfl
    · rw [h] at e; cases e
  go_enter Try.func16, Try.ntmps16
  go_wp2_with (at_builtin; generalize hW : w.alloc _ = W; have e7 : W.cell? ⟨w.heap.size, 7, none⟩ = some (.slice a5 r.flanks.length c5) := (by rw [← hW]; simp [go_sem]); have hz : w.heap.size + 1 = W.heap.size := (by rw [← hW]; simp); have hbW : Below w.heap.size w W := (by rw [← hW]; exact (by repeat (first | exact Below.refl _ _ | assumption | refine Below.drew ?_ | refine bdrewN ?_ _ | refine Below.setCell ?_ (by first | omega | (simp; done) | (simp; omega)) _ | refine Below.alloc ?_ (by first | omega | (simp; done) | (simp; omega)) _))); have H1 := hidP (h1.out.below hbW); have H5 := hidP (h5.out.below hbW); clear hW h1 h5; refine wpList_append_list rfl (.const (.slice none 0 0)) (.tmp 11) 38 rfl W.heap.size 48 _ 2 16 Try.underlying38 Try.infoLie rfl (by decide) (.slice none 0 0) 0 [] rfl (World.ownsRow_nil _ _ _ _) a1 r.lies.length c1 (flatE r.lies) rfl hnil.out (flatE_len _) (newsE H1.out) HNone.out (flatE_one _) (by unfold maxLen; omega) (by omega) (Nat.le_refl _) ?_; intro v' w1 ho1 hg1; rw [Nat.zero_add, List.nil_append] at ho1; obtain ⟨x1, y1, hv1, _⟩ := owns_shape ho1; subst hv1; have HO1 := hidP ho1; have hb1 : Below W.heap.size W w1 := (Below.refl W.heap.size W).grown hg1 (Nat.le_refl _) (fun j hj => by cases hj); clear ho1 hg1)
  have hz1 := hb1.size
  obtain ⟨xa, ya, hxy, HEA, _, _⟩ := ownE HO1.out (by unfold maxLen; omega)
  cases hxy
  have HEA' := hidP HEA
  have HM0 := hidP (LMap.made w1)
  clear HEA H1
  go_loopw [16] (fun i wr => ∃ (k : Nat), k ≤ r.lies.length ∧ i = .int .i64 k ∧ Hid (LMap wr w1.heap.size (r.lies.take k)) ∧ Below w1.heap.size w1 wr) (fun i _ => r.lies.length - (intOf i).toNat)
  case atStart => exact ⟨0, Nat.zero_le _, rfl, HM0.out, (by repeat (first | exact Below.refl _ _ | assumption | refine Below.drew ?_ | refine bdrewN ?_ _ | refine Below.setCell ?_ (by first | omega | (simp; done) | (simp; omega)) _ | refine Below.alloc ?_ (by first | omega | (simp; done) | (simp; omega)) _))⟩
  case round =>
    clear HM0 hmm
    obtain ⟨k, hk, rfl, HM, hb⟩ := hrel
    have hbs := hb.size
    by_cases hk' : k < r.lies.length
    · obtain ⟨b1, off1, rfl, hpc⟩ := HEA'.out.2.resolve_left (fun h => by rw [h] at hk'; exact absurd hk' (Nat.not_lt_zero _))
      obtain ⟨d0, d1⟩ := (hpc.below hb) k hk'
      clear hpc
      have hM2 := HM.out.below (show Below wr.heap.size wr (wr.alloc (Obj.cells #[Value.int IntKind.i64 r.lies[k].piece, Value.int IntKind.i64 r.lies[k].side] 48)).drew from (by repeat (first | exact Below.refl _ _ | assumption | refine Below.drew ?_ | refine bdrewN ?_ _ | refine Below.setCell ?_ (by first | omega | (simp; done) | (simp; omega)) _ | refine Below.alloc ?_ (by first | omega | (simp; done) | (simp; omega)) _)))
      obtain ⟨c, v0, st, w2, w3, hc0, hc1, hlk, hme, hlk2, hes, hM3, hg⟩ := hM2.count (hwf.out.lies k hk').1 (hwf.out.lies k hk').2 (by rw [List.length_take]; omega)
      have HM3 : Hid (LMap w3 w1.heap.size (r.lies.take (k + 1))) := by unfold Hid; rw [List.take_succ_eq_append_getElem hk']; exact hM3
      have hb4 : Below w1.heap.size w1 w3 := Below.grown (show Below w1.heap.size w1 (wr.alloc _).drew from (by repeat (first | exact Below.refl _ _ | assumption | refine Below.drew ?_ | refine bdrewN ?_ _ | refine Below.setCell ?_ (by first | omega | (simp; done) | (simp; omega)) _ | refine Below.alloc ?_ (by first | omega | (simp; done) | (simp; omega)) _))) hg (by simp; omega) (fun j hj => by cases hj; exact Nat.le_refl _)
      clear hM2 hM3 hg HM
      go_wp2_with fail
      go_region
      all_goals
        go_wp2_with fail
        go_roundw
        case rel => exact ⟨k + 1, by omega, by go_num, HM3, hb4⟩
        case measure => simp [intOf]; omega
    · have HT : Hid (r.lies.take k = r.lies) := List.take_of_length_le (by omega)
      rw [HT.out] at HM
      have hkk : k = r.lies.length := by omega
      have HB := hidP (hb1.trans (hb.mono hb1.size))
      have HO2 := hidP (owns_below HO1.out hb)
      have e7' := cell_later HB.out e7
      have hz2 : w.heap.size < wr.heap.size := by omega
      clear HO1 HT HEA'
      go_wp2_with fail
      clear e7' hz2 hb hbs
      go_loopw [3, 30] (fun v i wr => ∃ (m : Nat) (x : Option Addr) (y : Nat), m ≤ r.flanks.length ∧ i = .int .i64 m ∧ v = .slice x (needsF r.lies (r.flanks.take m)).length y ∧ Hid (wr.ownsRow W.heap.size 48 2 (.slice x (needsF r.lies (r.flanks.take m)).length y) (needsF r.lies (r.flanks.take m)).length (flatE (needsF r.lies (r.flanks.take m)))) ∧ Hid (LMap wr w1.heap.size (needsF r.lies (r.flanks.take m))) ∧ Below W.heap.size W wr) (fun _ i _ => r.flanks.length - (intOf i).toNat)
      case atStart => exact ⟨0, _, _, Nat.zero_le _, rfl, rfl, HO2, HM, HB.out⟩
      case round =>
        clear HO2 HB HM hkk hk hk'
        obtain ⟨m, x, y, hm, rfl, rfl, ho, HM, hb⟩ := hrel
        have hbs := hb.size
        by_cases hm' : m < r.flanks.length
        · have HNL := hidP (needs_take_len r.lies r.flanks m)
          have HNS := hidP (needs_succ r.lies r.flanks m hm')
          generalize hN : needsF r.lies (r.flanks.take m) = out at *
          clear hN
          have hol : out.length ≤ 2097152 := by have := HNL.out; omega
          obtain ⟨b1, off1, rfl, hpc⟩ := H5.out.2.resolve_left (fun h => by rw [h] at hm'; exact absurd hm' (Nat.not_lt_zero _))
          obtain ⟨d0, d1, d2, d3⟩ := (hpc.below hb) m hm'
          have hzm : w1.heap.size < wr.heap.size := CMap.lt HM.out
          clear hpc
          have hbw2 : Below wr.heap.size wr ((wr.alloc (Obj.cells #[Value.int IntKind.i64 r.flanks[m].place, Value.int IntKind.i64 r.flanks[m].kind, Value.int IntKind.i64 r.flanks[m].of, Value.int IntKind.i64 r.flanks[m].lie] 57)).alloc (Obj.cells #[Value.int IntKind.i64 r.flanks[m].of, Value.int IntKind.i64 r.flanks[m].lie] 48)) := (by repeat (first | exact Below.refl _ _ | assumption | refine Below.drew ?_ | refine bdrewN ?_ _ | refine Below.setCell ?_ (by first | omega | (simp; done) | (simp; omega)) _ | refine Below.alloc ?_ (by first | omega | (simp; done) | (simp; omega)) _))
          have HBW2 := hidP hbw2
          have hlk := (HM.out.below hbw2).look (hwf.out.flanks m hm').1 (hwf.out.flanks m hm').2
          have hd := standsL_met out r.flanks[m]
          generalize ((standsL out r.flanks[m].of r.flanks[m].lie : Nat) : Int) = c at hlk hd
          clear hbw2
          cases hK : (r.flanks[m].kind != 3)
          rotate_left
          · have HE : Hid (needsF r.lies (r.flanks.take (m + 1)) = out) := by
              unfold Hid
              rw [HNS.out, needStep, if_neg (by rintro ⟨h, _⟩; rw [h] at hK; simp at hK)]
            go_wp2_with fail
            go_roundw
            case rel => exact ⟨m + 1, x, y, by omega, by go_num, by rw [HE.out], by rw [HE.out]; exact owns_below ho.out HBW2.out, by rw [HE.out]; exact HM.out.below HBW2.out, hb.trans (HBW2.out.mono hb.size)⟩
            case measure => simp [intOf]; omega
          · have HK3 : Hid (r.flanks[m].kind = 3) := by unfold Hid; simpa using hK
            cases hM : metL out r.flanks[m]
            · rw [hM] at hd
              have HE : Hid (needsF r.lies (r.flanks.take (m + 1)) = out ++ [⟨r.flanks[m].of, r.flanks[m].lie⟩]) := by
                unfold Hid
                rw [HNS.out, needStep, if_pos ⟨HK3.out, hM⟩]
              have HL : Hid ((out ++ [(⟨r.flanks[m].of, r.flanks[m].lie⟩ : MEnd)]).length = out.length + 1) := by unfold Hid; simp
              have HF : Hid (flatE out ++ [.int .i64 r.flanks[m].of, .int .i64 r.flanks[m].lie] = flatE (out ++ [⟨r.flanks[m].of, r.flanks[m].lie⟩])) := by unfold Hid; rw [flatE_snoc]; rfl
              clear hM
              go_wp2_with fail
              clear hlk hd d0 d1 d2 d3 hK
              generalize hW2 : (wr.alloc _).alloc _ = W2
              have n0 : W2.cell? ⟨wr.heap.size + 1, 0, none⟩ = some (.int .i64 r.flanks[m].of) := by rw [← hW2]; simp [go_sem]
              have n1 : W2.cell? ⟨wr.heap.size + 1, 1, none⟩ = some (.int .i64 r.flanks[m].lie) := by rw [← hW2]; simp [go_sem]
              have hbw2 : Below wr.heap.size wr W2 := by rw [← hW2]; exact HBW2.out
              have HO2 := hidP (owns_below ho.out hbw2)
              have HM2 := hidP (HM.out.below hbw2)
              have hb2 : Below W.heap.size W W2 := hb.trans (hbw2.mono hb.size)
              have hz3 : wr.heap.size + 1 < W2.heap.size := cellLt n0
              clear hW2 ho hb hbs HM hbw2 HBW2
              obtain ⟨c, v0, st, w2, w3, hc0, hc1, hlk, hme, hlk2, hes, hM3, hg⟩ := (HM2.out.below (show Below W2.heap.size W2 W2.drew from (by repeat (first | exact Below.refl _ _ | assumption | refine Below.drew ?_ | refine bdrewN ?_ _ | refine Below.setCell ?_ (by first | omega | (simp; done) | (simp; omega)) _ | refine Below.alloc ?_ (by first | omega | (simp; done) | (simp; omega)) _)))).count (hwf.out.flanks m hm').1 (hwf.out.flanks m hm').2 (by omega)
              have HM3 := hidP hM3
              have HO3 := hidP (owns_grown (owns_below HO2.out (show Below W2.heap.size W2 W2.drew from (by repeat (first | exact Below.refl _ _ | assumption | refine Below.drew ?_ | refine bdrewN ?_ _ | refine Below.setCell ?_ (by first | omega | (simp; done) | (simp; omega)) _ | refine Below.alloc ?_ (by first | omega | (simp; done) | (simp; omega)) _)))) hg (HM2.out.apart HO2.out))
              have hb3 : Below W.heap.size W w3 := Below.grown (show Below W.heap.size W W2.drew from (by repeat (first | exact Below.refl _ _ | assumption | refine Below.drew ?_ | refine bdrewN ?_ _ | refine Below.setCell ?_ (by first | omega | (simp; done) | (simp; omega)) _ | refine Below.alloc ?_ (by first | omega | (simp; done) | (simp; omega)) _))) hg (show W.heap.size ≤ W2.heap.size from hb2.size) (fun j hj => by cases hj; exact hz1)
              have p0 : w3.cell? ⟨wr.heap.size + 1, 0, none⟩ = some (.int .i64 r.flanks[m].of) := grown_cell hg (show W2.drew.cell? _ = _ from n0) (by simp; omega)
              have p1 : w3.cell? ⟨wr.heap.size + 1, 1, none⟩ = some (.int .i64 r.flanks[m].lie) := grown_cell hg (show W2.drew.cell? _ = _ from n1) (by simp; omega)
              have hz5 : wr.heap.size + 1 < w3.heap.size := cellLt p0
              have hbs3 := hb3.size
              clear hM3 hg
              go_region
              all_goals
                go_wp2_with (at_builtin; refine wpList_push rfl (.tmp 54) (.tmp 56) 38 rfl W.heap.size 48 _ 2 16 Try.underlying38 Try.infoLie rfl (by decide) (.slice x out.length y) out.length (flatE out) rfl HO3.out w3.heap.size rfl [.int .i64 r.flanks[m].of, .int .i64 r.flanks[m].lie] rfl rfl (by simp [Value.oneCell']) (by unfold maxLen; omega) (by omega) (by omega) ?_; intro x' y' w4 ho4 hg4; have hb5 := push_below hb3 HO3.out hg4 (by omega); have HM4 := hidP (HM3.out.grown hg4 (HM3.out.apart HO3.out)); rw [HF.out] at ho4; have HO4 := hidP ho4; clear ho4 hg4)
                go_roundw
                case rel => exact ⟨m + 1, x', y', by omega, by go_num, by rw [HE.out, HL.out], by rw [HE.out, HL.out]; exact HO4, by rw [HE.out]; exact HM4, hb5⟩
                case measure => simp [intOf]; omega
            · rw [hM] at hd
              have HE : Hid (needsF r.lies (r.flanks.take (m + 1)) = out) := by
                unfold Hid
                rw [HNS.out, needStep, if_neg (by rintro ⟨_, h⟩; rw [hM] at h; simp at h)]
              clear hM
              go_wp2_with fail
              go_roundw
              case rel => exact ⟨m + 1, x, y, by omega, by go_num, by rw [HE.out], by rw [HE.out]; exact owns_below ho.out HBW2.out, by rw [HE.out]; exact HM.out.below HBW2.out, hb.trans (HBW2.out.mono hb.size)⟩
              case measure => simp [intOf]; omega
        · have HT : Hid (r.flanks.take m = r.flanks) := List.take_of_length_le (by omega)
          rw [HT.out] at ho ⊢
          clear HT HM
          go_wp2_with fail
          go_ret
          exact ⟨x, y, rfl, owns_base ho.out (by omega), hbW.trans (hb.mono hbW.size)⟩

end Go.Proofs.Ytmkdgnmmebldgaa
