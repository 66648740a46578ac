import Derived.Test.YtmkdgnmmebldgabSKey
namespace Go.Proofs.Ytmkdgnmmebldgab
open Go.RowKit Go.Deep

def wantP (x y : MEnd) : Bool := x.piece == y.piece && x.side != y.side
def sameP (x y : Int) : Bool := x == y

set_option maxRecDepth 8000 in
set_option maxHeartbeats 4000000 in
theorem anyTwoP_any (a b : Option Addr) (ac bc : Nat) (xs ys : List MPart) (s t : MSet) (hs : Hid (s = keysF (xs.map MPart.piece))) (ht : Hid (t = keysF (ys.map MPart.piece))) (w : World) (ha : Hid (PartsAt w a xs)) (hb : Hid (PartsAt w b ys)) :
    Calls Try.prog 56 #[keyedV a xs.length ac s, keyedV b ys.length bc t, fnV 57] w fun e w' => e = .returned (.bool (touchL xs ys)) ∧ Below w.heap.size w w' := by
  have hl := ha.out.1
  have hl2 := hb.out.1
  unfold maxLen at hl hl2
  have HOA : Hid s.Ok := by unfold Hid; rw [hs.out]; exact keysF_ok _
  have HOB : Hid t.Ok := by unfold Hid; rw [ht.out]; exact keysF_ok _
  have HPart : Hid (meetsF s t = false → touchL xs ys = false) := fun h => any2_part (key := MPart.piece) touchP_key (by rw [← hs.out, ← ht.out]; exact h)
  clear hs ht
  unfold keyedV fnV
  go_enter Try.func56, Try.ntmps56
  go_wp2_with fail
  generalize hW : (w.alloc _).alloc _ = W
  have e0 : W.cell? ⟨w.heap.size, 0, none⟩ = some (.slice a xs.length ac) := by rw [← hW]; simp [go_sem]
  have f0 : W.cell? ⟨w.heap.size + 1, 0, none⟩ = some (.slice b ys.length bc) := by rw [← hW]; simp [go_sem]
  have hbW : Below w.heap.size w W := by rw [← hW]; exact (by repeat (first | exact Below.refl _ _ | assumption | refine Below.drew ?_ | refine bdrewN ?_ _ | refine Below.setCell ?_ (by first | omega | (simp; done) | (simp; omega)) _ | refine Below.alloc ?_ (by first | omega | (simp; done) | (simp; omega)) _))
  clear hW
  refine (meets_any s t HOA.out HOB.out _).mono ?_
  rintro e w1 ⟨rfl, hb1⟩
  replace e0 := cell_later hb1 e0
  replace f0 := cell_later hb1 f0
  replace hbW := hbW.trans (hb1.mono hbW.size)
  have hz0 := cellLt e0
  have hz1 := cellLt f0
  dsimp only at hz0 hz1
  clear hb1
  cases hM : meetsF s t
  · have HX := hidP (HPart.out hM)
    clear hM
    go_wp2_with fail
    go_ret
    exact ⟨ret_bool HX.out.symm, hbW⟩
  clear hM HPart
  have HA1 := hidP (ha.out.below hbW)
  have HB1 := hidP (hb.out.below hbW)
  clear ha hb
  go_wp2_with fail
  go_loopw [20] (fun i wr => ∃ (k : Nat), k ≤ xs.length ∧ i = .int .i64 k ∧ Hid (∀ q (hq : q < xs.length), q < k → (ys.any fun y => touchP xs[q] y) = false) ∧ Below w1.heap.size w1 wr) (fun i _ => xs.length - (intOf i).toNat)
  case atStart => exact ⟨0, Nat.zero_le _, rfl, (fun q _ h => absurd h (Nat.not_lt_zero q)), Below.refl _ _⟩
  case round =>
    obtain ⟨k, hk, rfl, HQ, hbw⟩ := hrel
    have hbs := hbw.size
    by_cases hk' : k < xs.length
    · obtain ⟨b1, off1, rfl, hpc1⟩ := HA1.out.2.resolve_left (fun h => by rw [h] at hk'; exact absurd hk' (Nat.not_lt_zero _))
      obtain ⟨c0, c1, c2⟩ := (hpc1.below hbw) k hk'
      have f0' := cell_later hbw f0
      have hz1' := cellLt f0'
      dsimp only at hz1'
      clear hpc1
      go_wp2_with fail
      generalize hW2 : wr.alloc _ = W2
      have p0 : W2.cell? ⟨wr.heap.size, 0, none⟩ = some (.int .i64 xs[k].piece) := by rw [← hW2]; simp [go_sem]
      have p1 : W2.cell? ⟨wr.heap.size, 1, none⟩ = some (.int .i64 xs[k].lo) := by rw [← hW2]; simp [go_sem]
      have p2 : W2.cell? ⟨wr.heap.size, 2, none⟩ = some (.int .i64 xs[k].hi) := by rw [← hW2]; simp [go_sem]
      have hbW2 : Below w1.heap.size w1 W2 := by rw [← hW2]; exact (by repeat (first | exact Below.refl _ _ | assumption | refine Below.drew ?_ | refine bdrewN ?_ _ | refine Below.setCell ?_ (by first | omega | (simp; done) | (simp; omega)) _ | refine Below.alloc ?_ (by first | omega | (simp; done) | (simp; omega)) _))
      have hzW2 : wr.heap.size < W2.heap.size := cellLt p0
      clear hW2 c0 c1 c2 hbw hbs f0' hz1'
      go_loopw [27] (fun i wr2 => ∃ (m : Nat), m ≤ ys.length ∧ i = .int .i64 m ∧ Hid (∀ q (hq : q < ys.length), q < m → touchP xs[k] ys[q] = false) ∧ Below W2.heap.size W2 wr2) (fun i _ => ys.length - (intOf i).toNat)
      case atStart => exact ⟨0, Nat.zero_le _, rfl, (fun q _ h => absurd h (Nat.not_lt_zero q)), Below.refl _ _⟩
      case round =>
        obtain ⟨m, hm, rfl, HMq, hb2⟩ := hrel
        have hbs2 := hb2.size
        have hbF := hbW2.trans (hb2.mono hbW2.size)
        have hbsF := hbF.size
        by_cases hm' : m < ys.length
        · obtain ⟨b3, off3, rfl, hpc3⟩ := HB1.out.2.resolve_left (fun h => by rw [h] at hm'; exact absurd hm' (Nat.not_lt_zero _))
          obtain ⟨d0, d1, d2⟩ := (hpc3.below hbF) m hm'
          have q0 := cell_later hb2 p0
          have q1 := cell_later hb2 p1
          have q2 := cell_later hb2 p2
          have hzq := Nat.lt_of_lt_of_le hzW2 hb2.size
          clear hpc3
          go_wp2_with fail
          generalize hW3 : wr.alloc _ = W3
          have hb23 : Below W2.heap.size W2 W3 := by rw [← hW3]; exact (by repeat (first | exact Below.refl _ _ | assumption | refine Below.drew ?_ | refine bdrewN ?_ _ | refine Below.setCell ?_ (by first | omega | (simp; done) | (simp; omega)) _ | refine Below.alloc ?_ (by first | omega | (simp; done) | (simp; omega)) _))
          have hbF3 : Below w1.heap.size w1 W3 := by rw [← hW3]; exact (by repeat (first | exact Below.refl _ _ | assumption | refine Below.drew ?_ | refine bdrewN ?_ _ | refine Below.setCell ?_ (by first | omega | (simp; done) | (simp; omega)) _ | refine Below.alloc ?_ (by first | omega | (simp; done) | (simp; omega)) _))
          clear hW3
          refine (touches_any xs[k] ys[m] _).mono ?_
          rintro e w4 ⟨rfl, hb4⟩
          have hbG : Below w1.heap.size w1 w4 := hbF3.trans (hb4.mono hbF3.size)
          have hbG2 : Below W2.heap.size W2 w4 := hb23.trans (hb4.mono hb23.size)
          clear hb4
          cases hT : touchP xs[k] ys[m]
          · have HM2 : Hid (∀ q (hq : q < ys.length), q < m + 1 → touchP xs[k] ys[q] = false) := by
              intro q hq hqm
              by_cases e : q < m
              · exact HMq.out q hq e
              · have : q = m := by omega
                subst this; exact hT
            clear hT HMq
            go_wp2_with fail
            go_roundw
            case rel => exact ⟨m + 1, by omega, by go_num, HM2, hbG2⟩
            case measure => simp [intOf]; omega
          · have HX : Hid (touchL xs ys = true) := any_hit hk' (any_hit hm' hT)
            clear hT HMq
            go_wp2_with fail
            go_ret
            exact ⟨ret_bool HX.out.symm, hbW.trans (hbG.mono hbW.size)⟩
        · have HQ2 : Hid (∀ q (hq : q < xs.length), q < k + 1 → (ys.any fun y => touchP xs[q] y) = false) := by
            intro q hq hqk
            by_cases e : q < k
            · exact HQ.out q hq e
            · have : q = k := by omega
              subst this
              exact any_none (fun i hi => HMq.out i hi (by omega))
          clear HMq HQ
          go_wp2_with fail
          go_roundw
          case rel => exact ⟨k + 1, by omega, by go_num, HQ2, hbF⟩
          case measure => simp [intOf]; omega
    · have HX : Hid (touchL xs ys = false) := any_none (fun i hi => HQ.out i hi (by omega))
      clear HQ
      go_wp2_with fail
      go_ret
      exact ⟨ret_bool HX.out.symm, hbW.trans (hbw.mono hbW.size)⟩

set_option maxRecDepth 8000 in
set_option maxHeartbeats 4000000 in
theorem anyTwoN_any (a b : Option Addr) (ac bc : Nat) (xs ys : List Int) (s t : MSet) (hs : Hid (s = keysF (xs.map id))) (ht : Hid (t = keysF (ys.map id))) (w : World) (ha : Hid (NumsAt w a xs)) (hb : Hid (NumsAt w b ys)) :
    Calls Try.prog 58 #[keyedV a xs.length ac s, keyedV b ys.length bc t, fnV 59] w fun e w' => e = .returned (.bool (crossL xs ys)) ∧ Below w.heap.size w w' := by
  have hl := ha.out.1
  have hl2 := hb.out.1
  unfold maxLen at hl hl2
  have HOA : Hid s.Ok := by unfold Hid; rw [hs.out]; exact keysF_ok _
  have HOB : Hid t.Ok := by unfold Hid; rw [ht.out]; exact keysF_ok _
  have HPart : Hid (meetsF s t = false → crossL xs ys = false) := fun h => any2_part (key := id) (fun x y h => by simpa using h) (by rw [← hs.out, ← ht.out]; exact h)
  clear hs ht
  unfold keyedV fnV
  go_enter Try.func58, Try.ntmps58
  go_wp2_with fail
  generalize hW : (w.alloc _).alloc _ = W
  have e0 : W.cell? ⟨w.heap.size, 0, none⟩ = some (.slice a xs.length ac) := by rw [← hW]; simp [go_sem]
  have f0 : W.cell? ⟨w.heap.size + 1, 0, none⟩ = some (.slice b ys.length bc) := by rw [← hW]; simp [go_sem]
  have hbW : Below w.heap.size w W := by rw [← hW]; exact (by repeat (first | exact Below.refl _ _ | assumption | refine Below.drew ?_ | refine bdrewN ?_ _ | refine Below.setCell ?_ (by first | omega | (simp; done) | (simp; omega)) _ | refine Below.alloc ?_ (by first | omega | (simp; done) | (simp; omega)) _))
  clear hW
  refine (meets_any s t HOA.out HOB.out _).mono ?_
  rintro e w1 ⟨rfl, hb1⟩
  replace e0 := cell_later hb1 e0
  replace f0 := cell_later hb1 f0
  replace hbW := hbW.trans (hb1.mono hbW.size)
  have hz0 := cellLt e0
  have hz1 := cellLt f0
  dsimp only at hz0 hz1
  clear hb1
  cases hM : meetsF s t
  · have HX := hidP (HPart.out hM)
    clear hM
    go_wp2_with fail
    go_ret
    exact ⟨ret_bool HX.out.symm, hbW⟩
  clear hM HPart
  have HA1 := hidP (ha.out.below hbW)
  have HB1 := hidP (hb.out.below hbW)
  clear ha hb
  go_wp2_with fail
  go_loopw [20] (fun i wr => ∃ (k : Nat), k ≤ xs.length ∧ i = .int .i64 k ∧ Hid (∀ q (hq : q < xs.length), q < k → (ys.any fun y => sameP xs[q] y) = false) ∧ Below w1.heap.size w1 wr) (fun i _ => xs.length - (intOf i).toNat)
  case atStart => exact ⟨0, Nat.zero_le _, rfl, (fun q _ h => absurd h (Nat.not_lt_zero q)), Below.refl _ _⟩
  case round =>
    obtain ⟨k, hk, rfl, HQ, hbw⟩ := hrel
    have hbs := hbw.size
    by_cases hk' : k < xs.length
    · obtain ⟨b1, off1, rfl, hpc1⟩ := HA1.out.2.resolve_left (fun h => by rw [h] at hk'; exact absurd hk' (Nat.not_lt_zero _))
      have c0 := (hpc1.below hbw) k hk'
      have f0' := cell_later hbw f0
      have hz1' := cellLt f0'
      dsimp only at hz1'
      clear hpc1
      go_wp2_with fail
      generalize hW2 : wr = W2 at *
      have hbW2 := hbw
      clear hbw hbs f0' hz1' c0
      go_loopw [27] (fun i wr2 => ∃ (m : Nat), m ≤ ys.length ∧ i = .int .i64 m ∧ Hid (∀ q (hq : q < ys.length), q < m → sameP xs[k] ys[q] = false) ∧ Below W2.heap.size W2 wr2) (fun i _ => ys.length - (intOf i).toNat)
      case atStart => exact ⟨0, Nat.zero_le _, rfl, (fun q _ h => absurd h (Nat.not_lt_zero q)), Below.refl _ _⟩
      case round =>
        obtain ⟨m, hm, rfl, HMq, hb2⟩ := hrel
        have hbs2 := hb2.size
        have hbF := hbW2.trans (hb2.mono hbW2.size)
        have hbsF := hbF.size
        by_cases hm' : m < ys.length
        · obtain ⟨b3, off3, rfl, hpc3⟩ := HB1.out.2.resolve_left (fun h => by rw [h] at hm'; exact absurd hm' (Nat.not_lt_zero _))
          have d0 := (hpc3.below hbF) m hm'
          
          clear hpc3
          go_wp2_with fail
          have hb23 := hb2
          have hbF3 := hbF
          refine (sameNumber_any xs[k] ys[m] _).mono ?_
          rintro e w4 ⟨rfl, hb4⟩
          have hbG : Below w1.heap.size w1 w4 := hbF3.trans (hb4.mono hbF3.size)
          have hbG2 : Below W2.heap.size W2 w4 := hb23.trans (hb4.mono hb23.size)
          clear hb4
          cases hT : (xs[k] == ys[m])
          · have HM2 : Hid (∀ q (hq : q < ys.length), q < m + 1 → sameP xs[k] ys[q] = false) := by
              intro q hq hqm
              by_cases e : q < m
              · exact HMq.out q hq e
              · have : q = m := by omega
                subst this; exact hT
            clear hT HMq
            go_wp2_with fail
            go_roundw
            case rel => exact ⟨m + 1, by omega, by go_num, HM2, hbG2⟩
            case measure => simp [intOf]; omega
          · have HX : Hid (crossL xs ys = true) := any_hit hk' (any_hit hm' hT)
            clear hT HMq
            go_wp2_with fail
            go_ret
            exact ⟨ret_bool HX.out.symm, hbW.trans (hbG.mono hbW.size)⟩
        · have HQ2 : Hid (∀ q (hq : q < xs.length), q < k + 1 → (ys.any fun y => sameP xs[q] y) = false) := by
            intro q hq hqk
            by_cases e : q < k
            · exact HQ.out q hq e
            · have : q = k := by omega
              subst this
              exact any_none (fun i hi => HMq.out i hi (by omega))
          clear HMq HQ
          go_wp2_with fail
          go_roundw
          case rel => exact ⟨k + 1, by omega, by go_num, HQ2, hbF⟩
          case measure => simp [intOf]; omega
    · have HX : Hid (crossL xs ys = false) := any_none (fun i hi => HQ.out i hi (by omega))
      clear HQ
      go_wp2_with fail
      go_ret
      exact ⟨ret_bool HX.out.symm, hbW.trans (hbw.mono hbW.size)⟩

set_option maxRecDepth 8000 in
set_option maxHeartbeats 4000000 in
theorem anyTwoL_any (a b : Option Addr) (ac bc : Nat) (xs ys : List MEnd) (s t : MSet) (hs : Hid (s = keysF (xs.map MEnd.piece))) (ht : Hid (t = keysF (ys.map MEnd.piece))) (w : World) (ha : Hid (EndsAt w a xs)) (hb : Hid (EndsAt w b ys)) :
    Calls Try.prog 60 #[keyedV a xs.length ac s, keyedV b ys.length bc t, fnV 61] w fun e w' => e = .returned (.bool (wantL xs ys)) ∧ Below w.heap.size w w' := by
  have hl := ha.out.1
  have hl2 := hb.out.1
  unfold maxLen at hl hl2
  have HOA : Hid s.Ok := by unfold Hid; rw [hs.out]; exact keysF_ok _
  have HOB : Hid t.Ok := by unfold Hid; rw [ht.out]; exact keysF_ok _
  have HPart : Hid (meetsF s t = false → wantL xs ys = false) := fun h => any2_part (key := MEnd.piece) (fun x y h => by simp only [Bool.and_eq_true, beq_iff_eq] at h; exact h.1) (by rw [← hs.out, ← ht.out]; exact h)
  clear hs ht
  unfold keyedV fnV
  go_enter Try.func60, Try.ntmps60
  go_wp2_with fail
  generalize hW : (w.alloc _).alloc _ = W
  have e0 : W.cell? ⟨w.heap.size, 0, none⟩ = some (.slice a xs.length ac) := by rw [← hW]; simp [go_sem]
  have f0 : W.cell? ⟨w.heap.size + 1, 0, none⟩ = some (.slice b ys.length bc) := by rw [← hW]; simp [go_sem]
  have hbW : Below w.heap.size w W := by rw [← hW]; exact (by repeat (first | exact Below.refl _ _ | assumption | refine Below.drew ?_ | refine bdrewN ?_ _ | refine Below.setCell ?_ (by first | omega | (simp; done) | (simp; omega)) _ | refine Below.alloc ?_ (by first | omega | (simp; done) | (simp; omega)) _))
  clear hW
  refine (meets_any s t HOA.out HOB.out _).mono ?_
  rintro e w1 ⟨rfl, hb1⟩
  replace e0 := cell_later hb1 e0
  replace f0 := cell_later hb1 f0
  replace hbW := hbW.trans (hb1.mono hbW.size)
  have hz0 := cellLt e0
  have hz1 := cellLt f0
  dsimp only at hz0 hz1
  clear hb1
  cases hM : meetsF s t
  · have HX := hidP (HPart.out hM)
    clear hM
    go_wp2_with fail
    go_ret
    exact ⟨ret_bool HX.out.symm, hbW⟩
  clear hM HPart
  have HA1 := hidP (ha.out.below hbW)
  have HB1 := hidP (hb.out.below hbW)
  clear ha hb
  go_wp2_with fail
  go_loopw [20] (fun i wr => ∃ (k : Nat), k ≤ xs.length ∧ i = .int .i64 k ∧ Hid (∀ q (hq : q < xs.length), q < k → (ys.any fun y => wantP xs[q] y) = false) ∧ Below w1.heap.size w1 wr) (fun i _ => xs.length - (intOf i).toNat)
  case atStart => exact ⟨0, Nat.zero_le _, rfl, (fun q _ h => absurd h (Nat.not_lt_zero q)), Below.refl _ _⟩
  case round =>
    obtain ⟨k, hk, rfl, HQ, hbw⟩ := hrel
    have hbs := hbw.size
    by_cases hk' : k < xs.length
    · obtain ⟨b1, off1, rfl, hpc1⟩ := HA1.out.2.resolve_left (fun h => by rw [h] at hk'; exact absurd hk' (Nat.not_lt_zero _))
      obtain ⟨c0, c1⟩ := (hpc1.below hbw) k hk'
      have f0' := cell_later hbw f0
      have hz1' := cellLt f0'
      dsimp only at hz1'
      clear hpc1
      go_wp2_with fail
      generalize hW2 : wr.alloc _ = W2
      have p0 : W2.cell? ⟨wr.heap.size, 0, none⟩ = some (.int .i64 xs[k].piece) := by rw [← hW2]; simp [go_sem]
      have p1 : W2.cell? ⟨wr.heap.size, 1, none⟩ = some (.int .i64 xs[k].side) := by rw [← hW2]; simp [go_sem]
      have hbW2 : Below w1.heap.size w1 W2 := by rw [← hW2]; exact (by repeat (first | exact Below.refl _ _ | assumption | refine Below.drew ?_ | refine bdrewN ?_ _ | refine Below.setCell ?_ (by first | omega | (simp; done) | (simp; omega)) _ | refine Below.alloc ?_ (by first | omega | (simp; done) | (simp; omega)) _))
      have hzW2 : wr.heap.size < W2.heap.size := cellLt p0
      clear hW2 c0 c1 hbw hbs f0' hz1'
      go_loopw [27] (fun i wr2 => ∃ (m : Nat), m ≤ ys.length ∧ i = .int .i64 m ∧ Hid (∀ q (hq : q < ys.length), q < m → wantP xs[k] ys[q] = false) ∧ Below W2.heap.size W2 wr2) (fun i _ => ys.length - (intOf i).toNat)
      case atStart => exact ⟨0, Nat.zero_le _, rfl, (fun q _ h => absurd h (Nat.not_lt_zero q)), Below.refl _ _⟩
      case round =>
        obtain ⟨m, hm, rfl, HMq, hb2⟩ := hrel
        have hbs2 := hb2.size
        have hbF := hbW2.trans (hb2.mono hbW2.size)
        have hbsF := hbF.size
        by_cases hm' : m < ys.length
        · obtain ⟨b3, off3, rfl, hpc3⟩ := HB1.out.2.resolve_left (fun h => by rw [h] at hm'; exact absurd hm' (Nat.not_lt_zero _))
          obtain ⟨d0, d1⟩ := (hpc3.below hbF) m hm'
          have q0 := cell_later hb2 p0
          have q1 := cell_later hb2 p1
          have hzq := Nat.lt_of_lt_of_le hzW2 hb2.size
          clear hpc3
          go_wp2_with fail
          generalize hW3 : wr.alloc _ = W3
          have hb23 : Below W2.heap.size W2 W3 := by rw [← hW3]; exact (by repeat (first | exact Below.refl _ _ | assumption | refine Below.drew ?_ | refine bdrewN ?_ _ | refine Below.setCell ?_ (by first | omega | (simp; done) | (simp; omega)) _ | refine Below.alloc ?_ (by first | omega | (simp; done) | (simp; omega)) _))
          have hbF3 : Below w1.heap.size w1 W3 := by rw [← hW3]; exact (by repeat (first | exact Below.refl _ _ | assumption | refine Below.drew ?_ | refine bdrewN ?_ _ | refine Below.setCell ?_ (by first | omega | (simp; done) | (simp; omega)) _ | refine Below.alloc ?_ (by first | omega | (simp; done) | (simp; omega)) _))
          clear hW3
          refine (contradicts_any xs[k] ys[m] _).mono ?_
          rintro e w4 ⟨rfl, hb4⟩
          have hbG : Below w1.heap.size w1 w4 := hbF3.trans (hb4.mono hbF3.size)
          have hbG2 : Below W2.heap.size W2 w4 := hb23.trans (hb4.mono hb23.size)
          clear hb4
          cases hT : (xs[k].piece == ys[m].piece && xs[k].side != ys[m].side)
          · have HM2 : Hid (∀ q (hq : q < ys.length), q < m + 1 → wantP xs[k] ys[q] = false) := by
              intro q hq hqm
              by_cases e : q < m
              · exact HMq.out q hq e
              · have : q = m := by omega
                subst this; exact hT
            clear hT HMq
            go_wp2_with fail
            go_roundw
            case rel => exact ⟨m + 1, by omega, by go_num, HM2, hbG2⟩
            case measure => simp [intOf]; omega
          · have HX : Hid (wantL xs ys = true) := any_hit hk' (any_hit hm' hT)
            clear hT HMq
            go_wp2_with fail
            go_ret
            exact ⟨ret_bool HX.out.symm, hbW.trans (hbG.mono hbW.size)⟩
        · have HQ2 : Hid (∀ q (hq : q < xs.length), q < k + 1 → (ys.any fun y => wantP xs[q] y) = false) := by
            intro q hq hqk
            by_cases e : q < k
            · exact HQ.out q hq e
            · have : q = k := by omega
              subst this
              exact any_none (fun i hi => HMq.out i hi (by omega))
          clear HMq HQ
          go_wp2_with fail
          go_roundw
          case rel => exact ⟨k + 1, by omega, by go_num, HQ2, hbF⟩
          case measure => simp [intOf]; omega
    · have HX : Hid (wantL xs ys = false) := any_none (fun i hi => HQ.out i hi (by omega))
      clear HQ
      go_wp2_with fail
      go_ret
      exact ⟨ret_bool HX.out.symm, hbW.trans (hbw.mono hbW.size)⟩

end Go.Proofs.Ytmkdgnmmebldgab
