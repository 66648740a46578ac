import Derived.Test.YtmkdgnmmebldgabLT1
namespace Go.Proofs.Ytmkdgnmmebldgab
open Go.RowKit Go.Deep

/-- A table in memory. -/
def TabAt (w : World) (a : Option Addr) (tt : List (List Int)) : Prop :=
  tt.length ≤ maxLen ∧ (tt = [] ∨ ∃ b off, a = some ⟨b, off, none⟩ ∧ ∀ i (h : i < tt.length), ∃ ra rc, w.cell? ⟨b, off + i, none⟩ = some (.slice ra tt[i].length rc) ∧ NumsAt w ra tt[i])
theorem TabAt.below {w w' : World} {a : Option Addr} {tt : List (List Int)} (h : TabAt w a tt) (hb : Below w.heap.size w w') : TabAt w' a tt := by
  refine ⟨h.1, ?_⟩
  rcases h.2 with h2 | ⟨b, off, h2, h3⟩
  · exact Or.inl h2
  · refine Or.inr ⟨b, off, h2, fun i hi => ?_⟩
    obtain ⟨ra, rc, h4, h5⟩ := h3 i hi
    exact ⟨ra, rc, cell_later hb h4, h5.below hb⟩
theorem tab_of_owns {w : World} {B B' : Nat} {x : Option Addr} {y : Nat} {cells : List Value} {tt : List (List Int)} (ho : w.ownsRow B 24 1 (.slice x tt.length y) tt.length cells) (hr : RowsOwn w B' cells tt) (hm : tt.length ≤ maxLen) (hm2 : ∀ i (h : i < tt.length), tt[i].length ≤ maxLen) : TabAt w x tt := by
  refine ⟨hm, ?_⟩
  rcases ho.2 with ⟨_, h0⟩ | ⟨g, cap, cur, h1, _, h3, _⟩
  · exact Or.inl (List.eq_nil_of_length_eq_zero h0)
  · cases h1
    refine Or.inr ⟨g, 0, rfl, fun i hi => ?_⟩
    obtain ⟨v, h4, h5⟩ := hr.2 i hi
    obtain ⟨ra, rc, rfl, h6, _⟩ := ownN h5 (hm2 i hi)
    have := ho.cells rfl i _ h4
    rw [addr_at] at this
    exact ⟨ra, rc, by simpa using this, h6⟩

set_option maxHeartbeats 1000000 in
theorem eqIntSS_walk (a b : Option Addr) (ac bc : Nat) (tt : List (List Int)) (w : World) (ha : Hid (TabAt w a tt)) (hb : Hid (TabAt w b tt)) :
    Calls Try.prog 14 #[.slice a tt.length ac, .slice b tt.length bc] w fun e w' => e = .returned (.bool true) ∧ Below w.heap.size w w' := by
  have hl := ha.out.1
  unfold maxLen at hl
  go_enter Try.func14, Try.ntmps14
  go_wp2_with fail
  go_loopw [5] (fun i wr => ∃ (k : Nat), k ≤ tt.length ∧ i = .int .i64 k ∧ Below w.heap.size w wr) (fun i _ => tt.length - (intOf i).toNat)
  case atStart => exact ⟨0, Nat.zero_le _, rfl, (by repeat (first | exact Below.refl _ _ | assumption | refine Below.drew ?_ | refine bdrewN ?_ _ | refine Below.setCell ?_ (by first | omega | (simp; done) | (simp; omega)) _ | refine Below.alloc ?_ (by first | omega | (simp; done) | (simp; omega)) _))⟩
  case round =>
    obtain ⟨k, hk, rfl, hbw⟩ := hrel
    by_cases hk' : k < tt.length
    · obtain ⟨b1, off1, rfl, hpc1⟩ := (ha.out.below hbw).2.resolve_left (fun h => by rw [h] at hk'; exact absurd hk' (Nat.not_lt_zero _))
      obtain ⟨b2, off2, rfl, hpc2⟩ := (hb.out.below hbw).2.resolve_left (fun h => by rw [h] at hk'; exact absurd hk' (Nat.not_lt_zero _))
      obtain ⟨ra, rc, c0, n0⟩ := hpc1 k hk'
      obtain ⟨rb, rd, d0, n1⟩ := hpc2 k hk'
      have N0 := hidP n0
      have N1 := hidP n1
      clear hpc1 hpc2 n0 n1
      go_wp2_with fail
      go_region_with (go_at_call 35; refine (eqIntS_walk _ _ _ _ _ _ (N0.out.below (Below.refl _ _).drew) (N1.out.below (Below.refl _ _).drew)).mono ?_; rintro e w2 ⟨rfl, hb2⟩)
      all_goals
        go_wp2_with fail
        go_roundw
        case rel => exact ⟨k + 1, by omega, by go_num, hbw.drew.trans (hb2.mono hbw.size)⟩
        case measure => simp [intOf]; omega
    · go_wp2
      go_ret
      exact ⟨rfl, hbw⟩

def ktF (n : Nat → Nat) (k : Int) : Nat → Int
  | 0 => k
  | p + 1 => ktF n k p + (n p : Int)
theorem ktF_le (n : Nat → Nat) (k : Int) {p r : Nat} (h : p ≤ r) : ktF n k p ≤ ktF n k r := by
  induction r with
  | zero => have : p = 0 := by omega
            subst this; exact Int.le_refl _
  | succ r ih =>
    by_cases e : p = r + 1
    · subst e; exact Int.le_refl _
    · have := ih (by omega)
      simp only [ktF]; omega

/-- A table whose first i rows hold the numbers in their order. -/
structure TSt (G R : Nat) (n : Nat → Nat) (ad : Nat → Option Addr) (cp : Nat → Nat) (k : Int) (w : World) (i : Nat) : Prop where
  row : ∀ p, p < R → w.cell? ⟨G, p, none⟩ = some (.slice (ad p) (n p) (cp p))
  own : ∀ p, p < R → OwnA w 3 1 (ad p) (n p)
  mark : ∀ p, p < R → p < i → MarkA w 1 (ad p) (n p) (ktF n k p)

def ApartN (G R : Nat) (n : Nat → Nat) (ad : Nat → Option Addr) : Prop := ∀ p, p < R → ∀ b, BlkOf (ad p) (n p) b → b ≠ G ∧ ∀ p', p' < R → BlkOf (ad p') (n p') b → p' = p
def TabN (R : Nat) (n : Nat → Nat) (ad : Nat → Option Addr) (b : Nat) : Prop := ∃ p, p < R ∧ BlkOf (ad p) (n p) b

theorem TSt.step {G R : Nat} {n : Nat → Nat} {ad : Nat → Option Addr} {cp : Nat → Nat} {k : Int} {w w' : World} {i : Nat} (hA : ApartN G R n ad) (h : TSt G R n ad cp k w i) (hi : i < R) (hm : MarkA w' 1 (ad i) (n i) (ktF n k i)) (ho : OwnA w' 3 1 (ad i) (n i)) (hO : Only (BlkOf (ad i) (n i)) w w') : TSt G R n ad cp k w' (i + 1) := by
  have hother : ∀ p, p < R → p ≠ i → ∀ b, BlkOf (ad p) (n p) b → w'.heap[b]? = w.heap[b]? := fun p hp hne b hb => hO.block b ((h.own p hp).lt hb) (fun e => hne ((hA i hi b e).2 p hp hb))
  refine ⟨fun p hp => hO.cell (h.row p hp) (fun e => (hA i hi _ e).1 rfl), fun p hp => ?_, fun p hp hpi => ?_⟩
  · by_cases e : p = i
    · subst e; exact ho
    · exact (h.own p hp).kept (hother p hp e)
  · by_cases e : p = i
    · subst e; exact hm
    · exact (h.mark p hp (by omega)).kept (hother p hp e)
theorem TSt.below {G R : Nat} {n : Nat → Nat} {ad : Nat → Option Addr} {cp : Nat → Nat} {k : Int} {w w' : World} {i : Nat} (h : TSt G R n ad cp k w i) (hb : Below w.heap.size w w') : TSt G R n ad cp k w' i :=
  ⟨fun p hp => cell_later hb (h.row p hp), fun p hp => (h.own p hp).kept (fun b hb' => hb.block b ((h.own p hp).lt hb')), fun p hp hpi => (h.mark p hp hpi).kept (fun b hb' => hb.block b ((h.own p hp).lt hb'))⟩

set_option maxHeartbeats 1000000 in
theorem markIntSS_walk (G R cap : Nat) (n : Nat → Nat) (ad : Nat → Option Addr) (cp : Nat → Nat) (k : Int) (w : World) (hA : Hid (ApartN G R n ad)) (h0 : Hid (TSt G R n ad cp k w 0)) (hk : 0 ≤ k) (hkb : Hid (ktF n k R ≤ 1152921504606846976)) (hRb : R ≤ 1048576) :
    Calls Try.prog 17 #[.slice (some ⟨G, 0, none⟩) R cap, .int .i64 k] w fun e w' => e = .returned (.int .i64 (ktF n k R)) ∧ TSt G R n ad cp k w' R ∧ Only (TabN R n ad) w w' := by
  go_enter Try.func17, Try.ntmps17
  go_wp2_with fail
  go_loopw [1, 5] (fun kk i wr => ∃ (m : Nat), m ≤ R ∧ i = .int .i64 m ∧ kk = .int .i64 (ktF n k m) ∧ Hid (TSt G R n ad cp k wr m) ∧ Hid (Only (TabN R n ad) w wr)) (fun _ i _ => R - (intOf i).toNat)
  case atStart => exact ⟨0, Nat.zero_le _, rfl, rfl, h0, Only.refl _ _⟩
  case round =>
    obtain ⟨m, hm, rfl, rfl, hS, hO⟩ := hrel
    clear h0
    by_cases hm' : m < R
    · have hk0 : k ≤ ktF n k m := ktF_le n k (Nat.zero_le m)
      have hk1 : ktF n k m + (n m : Int) ≤ 1152921504606846976 := Int.le_trans (ktF_le n k (p := m + 1) (r := R) hm') hkb.out
      have HNX : Hid (ktF n k (m + 1) = ktF n k m + (n m : Int)) := rfl
      have c := hS.out.row m hm'
      generalize hK : ktF n k m = K at *
      have HK := hidP hK
      clear hK
      go_wp2_with fail
      refine (markIntS_any _ _ _ _ _ (hS.out.own m hm') (by omega) (by omega)).mono ?_
      rintro e w1 ⟨rfl, hm1, ho1, hO1⟩
      have HS := hidP (hS.out.step hA.out hm' (by rw [HK.out]; exact hm1) ho1 hO1)
      have HO := hidP (hO.out.trans (hO1.mono (fun b hb => ⟨m, hm', hb⟩)))
      clear hm1 ho1 hO1 c hS hO
      go_wp2_with fail
      go_roundw
      case rel => exact ⟨m + 1, by omega, by go_num, by rw [HNX.out], HS, HO⟩
      case measure => simp [intOf]; omega
    · have hmm : m = R := by omega
      subst hmm
      go_wp2
      go_ret
      exact ⟨rfl, hS.out, hO.out⟩

set_option maxHeartbeats 1000000 in
theorem heldIntSS_walk (G R cap : Nat) (n : Nat → Nat) (ad : Nat → Option Addr) (cp : Nat → Nat) (k : Int) (w : World) (h0 : Hid (TSt G R n ad cp k w R)) (hk : 0 ≤ k) (hkb : Hid (ktF n k R ≤ 1152921504606846976)) (hRb : R ≤ 1048576) :
    Calls Try.prog 18 #[.slice (some ⟨G, 0, none⟩) R cap, .int .i64 k] w fun e w' => e = .returned (.int .i64 (ktF n k R)) ∧ Below w.heap.size w w' := by
  go_enter Try.func18, Try.ntmps18
  go_wp2_with fail
  go_loopw [1, 5] (fun kk i wr => ∃ (m : Nat), m ≤ R ∧ i = .int .i64 m ∧ kk = .int .i64 (ktF n k m) ∧ Below w.heap.size w wr) (fun _ i _ => R - (intOf i).toNat)
  case atStart => exact ⟨0, Nat.zero_le _, rfl, rfl, Below.refl _ _⟩
  case round =>
    obtain ⟨m, hm, rfl, rfl, hb⟩ := hrel
    by_cases hm' : m < R
    · have hk0 : k ≤ ktF n k m := ktF_le n k (Nat.zero_le m)
      have hk1 : ktF n k m + (n m : Int) ≤ 1152921504606846976 := Int.le_trans (ktF_le n k (p := m + 1) (r := R) hm') hkb.out
      have HNX : Hid (ktF n k (m + 1) = ktF n k m + (n m : Int)) := rfl
      have c := (h0.out.below hb).row m hm'
      have HM := hidP ((h0.out.below hb).mark m hm' hm')
      generalize hK : ktF n k m = K at *
      clear hK
      go_wp2_with fail
      refine (heldIntS_any _ _ _ _ _ HM.out (by omega) (by omega)).mono ?_
      rintro e w1 ⟨rfl, hb1⟩
      have HB := hidP (hb.trans (hb1.mono hb.size))
      have hp : 0 ≤ K + (n m : Int) := by omega
      clear hb1 c HM hb
      go_wp2_with fail
      go_roundw
      case rel => exact ⟨m + 1, by omega, by go_num, by rw [HNX.out], HB.out⟩
      case measure => simp [intOf]; omega
    · have hmm : m = R := by omega
      subst hmm
      go_wp2
      go_ret
      exact ⟨rfl, hb⟩

end Go.Proofs.Ytmkdgnmmebldgab
