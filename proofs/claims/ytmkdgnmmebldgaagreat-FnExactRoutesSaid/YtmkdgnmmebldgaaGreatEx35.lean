import Derived.Test.YtmkdgnmmebldgaaGreatEx14
import Derived.Test.YtmkdgnmmebldgaaGreatEx34
import Derived.Test.YtmkdgnmmebldgaaGreatEx16
import Derived.Test.YtmkdgnmmebldgaaGreatEx8
namespace Go.Proofs.YtmkdgnmmebldgaaGreat
open Go.RowKit Go.Deep

/-! A list of routes, written over with numbers in their order, and read again. -/

def kR : Nat → Nat
  | 0 => 2
  | 1 => 2
  | 2 => 1
  | 3 => 3
  | 4 => 3
  | _ => 4
def tR : Nat → Nat
  | 0 => 100
  | 1 => 144
  | 2 => 3
  | 3 => 104
  | 4 => 104
  | _ => 146

/-- The lists of routes: how long, where, and their room. -/
structure Tab where
  n : Nat → Nat → Nat
  ad : Nat → Nat → Option Addr
  cp : Nat → Nat → Nat

def offF (t : Tab) (p : Nat) : Nat → Int
  | 0 => 0
  | j + 1 => offF t p j + (t.n p j : Int) * (kR j : Int)
def kkF (t : Tab) (k : Int) : Nat → Int
  | 0 => k
  | p + 1 => kkF t k p + 2 + offF t p 6

theorem offF_pos (t : Tab) (p j : Nat) : 0 ≤ offF t p j := by
  induction j with
  | zero => exact Int.le_refl _
  | succ j ih =>
    have : (0 : Int) ≤ (t.n p j : Int) * (kR j : Int) := Int.mul_nonneg (Int.natCast_nonneg _) (Int.natCast_nonneg _)
    simp only [offF]; omega
theorem offF_le (t : Tab) (p : Nat) {i j : Nat} (h : i ≤ j) : offF t p i ≤ offF t p j := by
  induction j with
  | zero => have : i = 0 := by omega
            subst this; exact Int.le_refl _
  | succ j ih =>
    by_cases e : i = j + 1
    · subst e; exact Int.le_refl _
    · have := ih (by omega)
      have h2 : (0 : Int) ≤ (t.n p j : Int) * (kR j : Int) := Int.mul_nonneg (Int.natCast_nonneg _) (Int.natCast_nonneg _)
      simp only [offF]; omega
theorem kkF_le (t : Tab) (k : Int) {p r : Nat} (h : p ≤ r) : kkF t k p ≤ kkF t k r := by
  induction r with
  | zero => have : p = 0 := by omega
            subst this; exact Int.le_refl _
  | succ r ih =>
    by_cases e : p = r + 1
    · subst e; exact Int.le_refl _
    · have := ih (by omega)
      have h2 := offF_pos t r 6
      simp only [kkF]; omega

/-- The first m routes have their two numbers; the lists ahead of the q-th one of route i hold theirs. -/
structure MSt (G N R : Nat) (t : Tab) (k : Int) (w : World) (m i q : Nat) : Prop where
  row : ∃ f, w.rowIs G 64 N f ∧ (∀ p j, p < R → j < 6 → f (p * 8 + 2 + j) = .slice (t.ad p j) (t.n p j) (t.cp p j)) ∧ (∀ p, p < m → f (p * 8) = .int .i64 (kkF t k p) ∧ f (p * 8 + 1) = .int .i64 (kkF t k p + 1))
  own : ∀ p j, p < R → j < 6 → OwnA w (tR j) (kR j) (t.ad p j) (t.n p j)
  mark : ∀ p j, p < R → j < 6 → (p < i ∨ p = i ∧ j < q) → MarkA w (kR j) (t.ad p j) (t.n p j) (kkF t k p + 2 + offF t p j)

/-- No two lists share a block, and none the routes' own. -/
def ApartT (G R : Nat) (t : Tab) : Prop := ∀ p j, p < R → j < 6 → ∀ b, BlkOf (t.ad p j) (t.n p j) b → b ≠ G ∧ ∀ p' j', p' < R → j' < 6 → BlkOf (t.ad p' j') (t.n p' j') b → p' = p ∧ j' = j

def TabS (G R : Nat) (t : Tab) (b : Nat) : Prop := b = G ∨ ∃ p j, p < R ∧ j < 6 ∧ BlkOf (t.ad p j) (t.n p j) b

section
variable {G N R : Nat} {t : Tab} {k : Int} {w w' : World} {m i q : Nat}

theorem MSt.lt (h : MSt G N R t k w m i q) : G < w.heap.size := by
  obtain ⟨f, hf, _⟩ := h.row
  exact hf.lt

theorem MSt.step (hA : ApartT G R t) (h : MSt G N R t k w m i q) (hi : i < R) (hq : q < 6) (x : Int) (hx : x = kkF t k i + 2 + offF t i q) (hm : MarkA w' (kR q) (t.ad i q) (t.n i q) x)
    (ho : OwnA w' (tR q) (kR q) (t.ad i q) (t.n i q)) (hO : Only (BlkOf (t.ad i q) (t.n i q)) w w') : MSt G N R t k w' m i (q + 1) := by
  have hG : ¬ BlkOf (t.ad i q) (t.n i q) G := fun e => (hA i q hi hq G e).1 rfl
  have hother : ∀ p j, p < R → j < 6 → ¬ (p = i ∧ j = q) → ∀ b, BlkOf (t.ad p j) (t.n p j) b → w'.heap[b]? = w.heap[b]? := by
    intro p j hp hj hne b hb
    refine hO.block b ((h.own p j hp hj).lt hb) (fun e => hne ?_)
    have := (hA i q hi hq b e).2 p j hp hj hb
    exact this
  refine ⟨?_, ?_, ?_⟩
  · obtain ⟨f, hf, h1, h2⟩ := h.row
    exact ⟨f, hf.of_block (hO.block G hf.lt hG), h1, h2⟩
  · intro p j hp hj
    by_cases e : p = i ∧ j = q
    · obtain ⟨rfl, rfl⟩ := e
      exact ho
    · exact (h.own p j hp hj).kept (hother p j hp hj e)
  · intro p j hp hj hd
    by_cases e : p = i ∧ j = q
    · obtain ⟨rfl, rfl⟩ := e
      rw [← hx]; exact hm
    · exact (h.mark p j hp hj (by omega)).kept (hother p j hp hj e)

theorem MSt.next (h : MSt G N R t k w m i 6) : MSt G N R t k w m (i + 1) 0 :=
  ⟨h.row, h.own, fun p j hp hj hd => h.mark p j hp hj (by omega)⟩

theorem MSt.cell (h : MSt G N R t k w m i q) (hN : R * 8 ≤ N) {p : Nat} (hp : p < R) (j : Nat) (hj : j < 6) : w.cell? ⟨G, p * 8 + 2 + j, none⟩ = some (.slice (t.ad p j) (t.n p j) (t.cp p j)) := by
  obtain ⟨f, hf, h1, _⟩ := h.row
  rw [hf.cell (by omega), h1 p j hp hj]

theorem MSt.ints (hA : ApartT G R t) (h : MSt G N R t k w m m 0) (hm : m < R) :
    MSt G N R t k ((w.setCell ⟨G, m * 8, none⟩ (.int .i64 (kkF t k m))).setCell ⟨G, m * 8 + 1, none⟩ (.int .i64 (kkF t k m + 1))) (m + 1) m 0 := by
  have hblk : ∀ p j, p < R → j < 6 → ∀ b, BlkOf (t.ad p j) (t.n p j) b → ((w.setCell ⟨G, m * 8, none⟩ (.int .i64 (kkF t k m))).setCell ⟨G, m * 8 + 1, none⟩ (.int .i64 (kkF t k m + 1))).heap[b]? = w.heap[b]? := by
    intro p j hp hj b hb
    have := (hA p j hp hj b hb).1
    exact (Below.heap_setCell _ _ _ _ this).trans (Below.heap_setCell _ _ _ _ this)
  refine ⟨?_, fun p j hp hj => (h.own p j hp hj).kept (hblk p j hp hj), fun p j hp hj hd => (h.mark p j hp hj hd).kept (hblk p j hp hj)⟩
  obtain ⟨f, hf, h1, h2⟩ := h.row
  refine ⟨_, (hf.set (m * 8) _).set (m * 8 + 1) _, ?_, ?_⟩
  · intro p j hp hj
    rw [if_neg (by omega), if_neg (by omega)]
    exact h1 p j hp hj
  · intro p hp
    by_cases e : p = m
    · subst e
      rw [if_neg (by omega), if_pos rfl, if_pos rfl]
      exact ⟨rfl, rfl⟩
    · rw [if_neg (by omega), if_neg (by omega), if_neg (by omega), if_neg (by omega)]
      exact h2 p (by omega)
end

set_option maxHeartbeats 2000000 in
theorem markRouteS_walk (G N R cap : Nat) (t : Tab) (k : Int) (w : World) (hA : Hid (ApartT G R t)) (h0 : Hid (MSt G N R t k w 0 0 0)) (hN : R * 8 ≤ N) (hk : 0 ≤ k) (hkb : Hid (kkF t k R ≤ 1152921504606846976)) (hRb : R ≤ 1048576) :
    Calls Tryz.prog 15 #[.slice (some ⟨G, 0, none⟩) R cap, .int .i64 k] w fun e w' => e = .returned (.int .i64 (kkF t k R)) ∧ MSt G N R t k w' R R 0 ∧ Only (TabS G R t) w w' := by
  go_enter Tryz.func15, Tryz.ntmps15
  go_wp2_with fail
  go_loopw [1, 5] (fun kk i wr => ∃ (m : Nat), m ≤ R ∧ i = .int .i64 m ∧ kk = .int .i64 (kkF t k m) ∧ Hid (MSt G N R t k wr m m 0) ∧ Hid (Only (TabS G R t) w wr)) (fun _ i _ => R - (intOf i).toNat)
  case atStart => exact ⟨0, Nat.zero_le _, rfl, rfl, h0, Only.refl _ _⟩
  case round =>
    obtain ⟨m, hm, rfl, rfl, hS, hO⟩ := hrel
    clear h0
    by_cases hm' : m < R
    · have hk0 : k ≤ kkF t k m := kkF_le t k (Nat.zero_le m)
      have hk1 : kkF t k m + 2 + offF t m 6 ≤ 1152921504606846976 := Int.le_trans (kkF_le t k (p := m + 1) (r := R) hm') hkb.out
      have o1 : offF t m 1 = (t.n m 0 : Int) * 2 := by simp [offF, kR]
      have o2 : offF t m 2 = offF t m 1 + (t.n m 1 : Int) * 2 := by simp [offF, kR]
      have o3 : offF t m 3 = offF t m 2 + (t.n m 2 : Int) := by simp [offF, kR]
      have o4 : offF t m 4 = offF t m 3 + (t.n m 3 : Int) * 3 := by simp [offF, kR]
      have o5 : offF t m 5 = offF t m 4 + (t.n m 4 : Int) * 3 := by simp [offF, kR]
      have o6 : offF t m 6 = offF t m 5 + (t.n m 5 : Int) * 4 := by simp [offF, kR]
      have HNX : Hid (kkF t k (m + 1) = kkF t k m + 2 + offF t m 6) := rfl
      have HI := hidP (hS.out.ints hA.out hm')
      have HS' := hS
      obtain ⟨f, hf, hs1, hs2⟩ := hS.out.row
      have d0 := hf.cell (i := m * 8) (by omega)
      have d1 := hf.cell (i := m * 8 + 1) (by omega)
      have e0 := hf.frozen (m * 8)
      have e1 := hf.frozen (m * 8 + 1)
      clear hf hs1 hs2 hS HS'
      generalize hK : kkF t k m = K at *
      have hO1 : Only (TabS G R t) w ((wr.setCell ⟨G, m * 8, none⟩ (.int .i64 K)).setCell ⟨G, m * 8 + 1, none⟩ (.int .i64 (K + 1))) := (hO.out.setCell (Or.inl (Or.inl rfl)) _).setCell (Or.inl (Or.inl rfl)) _
      have HO1 := hidP hO1
      clear hO1
      have HK := hidP hK
      have HO := hidP (And.intro o1 (And.intro o2 (And.intro o3 (And.intro o4 (And.intro o5 o6)))))
      clear hK
      have b6 : K + 2 + (t.n m 0 : Int) * 2 + (t.n m 1 : Int) * 2 + (t.n m 2 : Int) + (t.n m 3 : Int) * 3 + (t.n m 4 : Int) * 3 + (t.n m 5 : Int) * 4 ≤ 1152921504606846976 := by omega
      clear o1 o2 o3 o4 o5 o6 hk1
      have c2 : ((wr.setCell ⟨G, m * 8, none⟩ (.int .i64 K)).setCell ⟨G, m * 8 + 1, none⟩ (.int .i64 (K + 1))).cell? ⟨G, m * 8 + 2, none⟩ = _ := HI.out.cell hN hm' 0 (by omega)
      go_wp2_with fail
      generalize hW : (wr.setCell ⟨G, m * 8, none⟩ (.int .i64 K)).setCell ⟨G, m * 8 + 1, none⟩ (.int .i64 (K + 1)) = W0 at HI HO1
      try rw [hW]
      clear hW d0 d1 e0 e1
      refine (markStepS_any _ _ _ _ W0 (HI.out.own m 0 hm' (by omega)) (by omega) (by omega)).mono ?_
      rintro e W1 ⟨rfl, hm0, ho0, hq0⟩
      replace HI : Hid (MSt G N R t k W1 (m + 1) m 1) := hidP (HI.out.step hA.out hm' (by omega) _ (by have := HO.out; rw [HK.out]; simp [offF]; omega) hm0 ho0 hq0)
      replace HO1 := hidP (HO1.out.trans (hq0.mono (fun b hb => Or.inr ⟨m, 0, hm', by omega, hb⟩)))
      clear hm0 ho0 hq0 c2
      have c3 : W1.cell? ⟨G, m * 8 + 3, none⟩ = _ := HI.out.cell hN hm' 1 (by omega)
      go_wp2_with fail
      refine (markLieS_any _ _ _ _ W1 (HI.out.own m 1 hm' (by omega)) (by omega) (by omega)).mono ?_
      rintro e W2 ⟨rfl, hm1, ho1, hq1⟩
      replace HI : Hid (MSt G N R t k W2 (m + 1) m 2) := hidP (HI.out.step hA.out hm' (by omega) _ (by have := HO.out; rw [HK.out]; omega) hm1 ho1 hq1)
      replace HO1 := hidP (HO1.out.trans (hq1.mono (fun b hb => Or.inr ⟨m, 1, hm', by omega, hb⟩)))
      clear hm1 ho1 hq1 c3
      have c4 : W2.cell? ⟨G, m * 8 + 4, none⟩ = _ := HI.out.cell hN hm' 2 (by omega)
      go_wp2_with fail
      refine (markIntS_any _ _ _ _ W2 (HI.out.own m 2 hm' (by omega)) (by omega) (by omega)).mono ?_
      rintro e W3 ⟨rfl, hm2, ho2, hq2⟩
      replace HI : Hid (MSt G N R t k W3 (m + 1) m 3) := hidP (HI.out.step hA.out hm' (by omega) _ (by have := HO.out; rw [HK.out]; omega) hm2 ho2 hq2)
      replace HO1 := hidP (HO1.out.trans (hq2.mono (fun b hb => Or.inr ⟨m, 2, hm', by omega, hb⟩)))
      clear hm2 ho2 hq2 c4
      have c5 : W3.cell? ⟨G, m * 8 + 5, none⟩ = _ := HI.out.cell hN hm' 3 (by omega)
      go_wp2_with fail
      refine (markPartS_any _ _ _ _ W3 (HI.out.own m 3 hm' (by omega)) (by omega) (by omega)).mono ?_
      rintro e W4 ⟨rfl, hm3, ho3, hq3⟩
      replace HI : Hid (MSt G N R t k W4 (m + 1) m 4) := hidP (HI.out.step hA.out hm' (by omega) _ (by have := HO.out; rw [HK.out]; omega) hm3 ho3 hq3)
      replace HO1 := hidP (HO1.out.trans (hq3.mono (fun b hb => Or.inr ⟨m, 3, hm', by omega, hb⟩)))
      clear hm3 ho3 hq3 c5
      have c6 : W4.cell? ⟨G, m * 8 + 6, none⟩ = _ := HI.out.cell hN hm' 4 (by omega)
      go_wp2_with fail
      refine (markPartS_any _ _ _ _ W4 (HI.out.own m 4 hm' (by omega)) (by omega) (by omega)).mono ?_
      rintro e W5 ⟨rfl, hm4, ho4, hq4⟩
      replace HI : Hid (MSt G N R t k W5 (m + 1) m 5) := hidP (HI.out.step hA.out hm' (by omega) _ (by have := HO.out; rw [HK.out]; omega) hm4 ho4 hq4)
      replace HO1 := hidP (HO1.out.trans (hq4.mono (fun b hb => Or.inr ⟨m, 4, hm', by omega, hb⟩)))
      clear hm4 ho4 hq4 c6
      have c7 : W5.cell? ⟨G, m * 8 + 7, none⟩ = _ := HI.out.cell hN hm' 5 (by omega)
      go_wp2_with fail
      refine (markFlankS_any _ _ _ _ W5 (HI.out.own m 5 hm' (by omega)) (by omega) (by omega)).mono ?_
      rintro e W6 ⟨rfl, hm5, ho5, hq5⟩
      replace HI : Hid (MSt G N R t k W6 (m + 1) m 6) := hidP (HI.out.step hA.out hm' (by omega) _ (by have := HO.out; rw [HK.out]; omega) hm5 ho5 hq5)
      replace HO1 := hidP (HO1.out.trans (hq5.mono (fun b hb => Or.inr ⟨m, 5, hm', by omega, hb⟩)))
      clear hm5 ho5 hq5 c7
      go_wp2_with fail
      go_roundw
      case rel => exact ⟨m + 1, by omega, by go_num, by have h1 := HO.out; have h2 := HNX.out; rw [h2]; congr 1; omega, HI.out.next, HO1⟩
      case measure => simp [intOf]; omega
    · have hmm : m = R := by omega
      subst hmm
      go_wp2
      go_ret
      exact ⟨rfl, hS.out, hO.out⟩

theorem MSt.below {G N R : Nat} {t : Tab} {k : Int} {w w' : World} {m i q : Nat} (h : MSt G N R t k w m i q) (hb : Below w.heap.size w w') : MSt G N R t k w' m i q := by
  refine ⟨?_, fun p j hp hj => (h.own p j hp hj).kept (fun b hb' => hb.block b ((h.own p j hp hj).lt hb')), fun p j hp hj hd => (h.mark p j hp hj hd).kept (fun b hb' => hb.block b ((h.own p j hp hj).lt hb'))⟩
  obtain ⟨f, hf, h1, h2⟩ := h.row
  exact ⟨f, hf.of_block (hb.block G hf.lt), h1, h2⟩

theorem MSt.num {G N R : Nat} {t : Tab} {k : Int} {w : World} {m i q : Nat} (h : MSt G N R t k w m i q) (hN : R * 8 ≤ N) {p : Nat} (hp : p < m) (hpR : p < R) :
    w.cell? ⟨G, p * 8, none⟩ = some (.int .i64 (kkF t k p)) ∧ w.cell? ⟨G, p * 8 + 1, none⟩ = some (.int .i64 (kkF t k p + 1)) := by
  obtain ⟨f, hf, _, h2⟩ := h.row
  exact ⟨by rw [hf.cell (by omega), (h2 p hp).1], by rw [hf.cell (by omega), (h2 p hp).2]⟩

set_option maxRecDepth 8000 in
set_option maxHeartbeats 2000000 in
theorem heldRouteS_walk (G N R cap : Nat) (t : Tab) (k : Int) (w : World) (h0 : Hid (MSt G N R t k w R R 0)) (hN : R * 8 ≤ N) (hk : 0 ≤ k) (hkb : Hid (kkF t k R ≤ 1152921504606846976)) (hRb : R ≤ 1048576) :
    Calls Tryz.prog 16 #[.slice (some ⟨G, 0, none⟩) R cap, .int .i64 k] w fun e w' => e = .returned (.int .i64 (kkF t k R)) ∧ Below w.heap.size w w' := by
  have hG := h0.out.lt
  go_enter Tryz.func16, Tryz.ntmps16
  go_wp2_with fail
  go_loopw [1, 5] (fun kk i wr => ∃ (m : Nat), m ≤ R ∧ i = .int .i64 m ∧ kk = .int .i64 (kkF t k m) ∧ Below w.heap.size w wr) (fun _ i _ => R - (intOf i).toNat)
  case atStart => exact ⟨0, Nat.zero_le _, rfl, rfl, Below.refl _ _⟩
  case round =>
    obtain ⟨m, hm, rfl, rfl, hb0⟩ := hrel
    by_cases hm' : m < R
    · have hk0 : k ≤ kkF t k m := kkF_le t k (Nat.zero_le m)
      have hk1 : kkF t k m + 2 + offF t m 6 ≤ 1152921504606846976 := Int.le_trans (kkF_le t k (p := m + 1) (r := R) hm') hkb.out
      have o1 : offF t m 1 = (t.n m 0 : Int) * 2 := by simp [offF, kR]
      have o2 : offF t m 2 = offF t m 1 + (t.n m 1 : Int) * 2 := by simp [offF, kR]
      have o3 : offF t m 3 = offF t m 2 + (t.n m 2 : Int) := by simp [offF, kR]
      have o4 : offF t m 4 = offF t m 3 + (t.n m 3 : Int) * 3 := by simp [offF, kR]
      have o5 : offF t m 5 = offF t m 4 + (t.n m 4 : Int) * 3 := by simp [offF, kR]
      have o6 : offF t m 6 = offF t m 5 + (t.n m 5 : Int) * 4 := by simp [offF, kR]
      have o0 : offF t m 0 = 0 := rfl
      have HNX : Hid (kkF t k (m + 1) = kkF t k m + 2 + offF t m 6) := rfl
      obtain ⟨d0, d1⟩ := (h0.out.below hb0).num hN hm' hm'
      have HM : Hid (∀ j, j < 6 → MarkA wr (kR j) (t.ad m j) (t.n m j) (kkF t k m + 2 + offF t m j)) := fun j hj => (h0.out.below hb0).mark m j hm' hj (Or.inl hm')
      have HC : Hid (∀ j, j < 6 → wr.cell? ⟨G, m * 8 + 2 + j, none⟩ = some (.slice (t.ad m j) (t.n m j) (t.cp m j))) := fun j hj => (h0.out.below hb0).cell hN hm' j hj
      generalize hK : kkF t k m = K at *
      have HO := hidP (And.intro o0 (And.intro o1 (And.intro o2 (And.intro o3 (And.intro o4 (And.intro o5 o6))))))
      clear hK
      have b6 : K + 2 + (t.n m 0 : Int) * 2 + (t.n m 1 : Int) * 2 + (t.n m 2 : Int) + (t.n m 3 : Int) * 3 + (t.n m 4 : Int) * 3 + (t.n m 5 : Int) * 4 ≤ 1152921504606846976 := by omega
      clear o0 o1 o2 o3 o4 o5 o6 hk1
      have hbk : Below wr.heap.size wr wr := Below.refl _ _
      have c2 : wr.cell? ⟨G, m * 8 + 2, none⟩ = _ := HC.out 0 (by omega)
      have hGr : G < wr.heap.size := Nat.lt_of_lt_of_le hG hb0.size
      go_wp2_with fail
      have hx0 : Hid (K + 2 + offF t m 0 = K + 1 + 1) := by have := HO.out; unfold Hid; omega
      have HMj : Hid (MarkA wr 2 (t.ad m 0) (t.n m 0) (K + 1 + 1)) := by have h := HM.out 0 (by omega); rw [hx0.out] at h; exact h
      refine (heldStepS_any _ _ _ _ wr HMj (by omega) (by omega)).mono ?_
      rintro e W1 ⟨rfl, hb1⟩
      replace HM : Hid (∀ j, j < 6 → MarkA W1 (kR j) (t.ad m j) (t.n m j) (K + 2 + offF t m j)) := fun j hj => (HM.out j hj).kept (fun b hb' => hb1.block b (Nat.lt_of_lt_of_le ((h0.out.own m j hm' hj).lt hb') (Nat.le_trans hb0.size hbk.size)))
      replace HC : Hid (∀ j, j < 6 → W1.cell? ⟨G, m * 8 + 2 + j, none⟩ = some (.slice (t.ad m j) (t.n m j) (t.cp m j))) := fun j hj => cell_later hb1 (HC.out j hj)
      replace hbk := hbk.trans (hb1.mono hbk.size)
      clear hb1 c2 HMj hx0
      have c3 : W1.cell? ⟨G, m * 8 + 3, none⟩ = _ := HC.out 1 (by omega)
      go_wp2_with fail
      have hx1 : Hid (K + 2 + offF t m 1 = K + 1 + 1 + (t.n m 0 : Int) * 2) := by have := HO.out; unfold Hid; omega
      have HMj : Hid (MarkA W1 2 (t.ad m 1) (t.n m 1) (K + 1 + 1 + (t.n m 0 : Int) * 2)) := by have h := HM.out 1 (by omega); rw [hx1.out] at h; exact h
      refine (heldLieS_any _ _ _ _ W1 HMj (by omega) (by omega)).mono ?_
      rintro e W2 ⟨rfl, hb2⟩
      replace HM : Hid (∀ j, j < 6 → MarkA W2 (kR j) (t.ad m j) (t.n m j) (K + 2 + offF t m j)) := fun j hj => (HM.out j hj).kept (fun b hb' => hb2.block b (Nat.lt_of_lt_of_le ((h0.out.own m j hm' hj).lt hb') (Nat.le_trans hb0.size hbk.size)))
      replace HC : Hid (∀ j, j < 6 → W2.cell? ⟨G, m * 8 + 2 + j, none⟩ = some (.slice (t.ad m j) (t.n m j) (t.cp m j))) := fun j hj => cell_later hb2 (HC.out j hj)
      replace hbk := hbk.trans (hb2.mono hbk.size)
      clear hb2 c3 HMj hx1
      have c4 : W2.cell? ⟨G, m * 8 + 4, none⟩ = _ := HC.out 2 (by omega)
      go_wp2_with fail
      have hx2 : Hid (K + 2 + offF t m 2 = K + 1 + 1 + (t.n m 0 : Int) * 2 + (t.n m 1 : Int) * 2) := by have := HO.out; unfold Hid; omega
      have HMj : Hid (MarkA W2 1 (t.ad m 2) (t.n m 2) (K + 1 + 1 + (t.n m 0 : Int) * 2 + (t.n m 1 : Int) * 2)) := by have h := HM.out 2 (by omega); rw [hx2.out] at h; exact h
      refine (heldIntS_any _ _ _ _ W2 HMj (by omega) (by omega)).mono ?_
      rintro e W3 ⟨rfl, hb3⟩
      replace HM : Hid (∀ j, j < 6 → MarkA W3 (kR j) (t.ad m j) (t.n m j) (K + 2 + offF t m j)) := fun j hj => (HM.out j hj).kept (fun b hb' => hb3.block b (Nat.lt_of_lt_of_le ((h0.out.own m j hm' hj).lt hb') (Nat.le_trans hb0.size hbk.size)))
      replace HC : Hid (∀ j, j < 6 → W3.cell? ⟨G, m * 8 + 2 + j, none⟩ = some (.slice (t.ad m j) (t.n m j) (t.cp m j))) := fun j hj => cell_later hb3 (HC.out j hj)
      replace hbk := hbk.trans (hb3.mono hbk.size)
      clear hb3 c4 HMj hx2
      have c5 : W3.cell? ⟨G, m * 8 + 5, none⟩ = _ := HC.out 3 (by omega)
      go_wp2_with fail
      have hx3 : Hid (K + 2 + offF t m 3 = K + 1 + 1 + (t.n m 0 : Int) * 2 + (t.n m 1 : Int) * 2 + (t.n m 2 : Int)) := by have := HO.out; unfold Hid; omega
      have HMj : Hid (MarkA W3 3 (t.ad m 3) (t.n m 3) (K + 1 + 1 + (t.n m 0 : Int) * 2 + (t.n m 1 : Int) * 2 + (t.n m 2 : Int))) := by have h := HM.out 3 (by omega); rw [hx3.out] at h; exact h
      refine (heldPartS_any _ _ _ _ W3 HMj (by omega) (by omega)).mono ?_
      rintro e W4 ⟨rfl, hb4⟩
      replace HM : Hid (∀ j, j < 6 → MarkA W4 (kR j) (t.ad m j) (t.n m j) (K + 2 + offF t m j)) := fun j hj => (HM.out j hj).kept (fun b hb' => hb4.block b (Nat.lt_of_lt_of_le ((h0.out.own m j hm' hj).lt hb') (Nat.le_trans hb0.size hbk.size)))
      replace HC : Hid (∀ j, j < 6 → W4.cell? ⟨G, m * 8 + 2 + j, none⟩ = some (.slice (t.ad m j) (t.n m j) (t.cp m j))) := fun j hj => cell_later hb4 (HC.out j hj)
      replace hbk := hbk.trans (hb4.mono hbk.size)
      clear hb4 c5 HMj hx3
      have c6 : W4.cell? ⟨G, m * 8 + 6, none⟩ = _ := HC.out 4 (by omega)
      go_wp2_with fail
      have hx4 : Hid (K + 2 + offF t m 4 = K + 1 + 1 + (t.n m 0 : Int) * 2 + (t.n m 1 : Int) * 2 + (t.n m 2 : Int) + (t.n m 3 : Int) * 3) := by have := HO.out; unfold Hid; omega
      have HMj : Hid (MarkA W4 3 (t.ad m 4) (t.n m 4) (K + 1 + 1 + (t.n m 0 : Int) * 2 + (t.n m 1 : Int) * 2 + (t.n m 2 : Int) + (t.n m 3 : Int) * 3)) := by have h := HM.out 4 (by omega); rw [hx4.out] at h; exact h
      refine (heldPartS_any _ _ _ _ W4 HMj (by omega) (by omega)).mono ?_
      rintro e W5 ⟨rfl, hb5⟩
      replace HM : Hid (∀ j, j < 6 → MarkA W5 (kR j) (t.ad m j) (t.n m j) (K + 2 + offF t m j)) := fun j hj => (HM.out j hj).kept (fun b hb' => hb5.block b (Nat.lt_of_lt_of_le ((h0.out.own m j hm' hj).lt hb') (Nat.le_trans hb0.size hbk.size)))
      replace HC : Hid (∀ j, j < 6 → W5.cell? ⟨G, m * 8 + 2 + j, none⟩ = some (.slice (t.ad m j) (t.n m j) (t.cp m j))) := fun j hj => cell_later hb5 (HC.out j hj)
      replace hbk := hbk.trans (hb5.mono hbk.size)
      clear hb5 c6 HMj hx4
      have c7 : W5.cell? ⟨G, m * 8 + 7, none⟩ = _ := HC.out 5 (by omega)
      go_wp2_with fail
      have hx5 : Hid (K + 2 + offF t m 5 = K + 1 + 1 + (t.n m 0 : Int) * 2 + (t.n m 1 : Int) * 2 + (t.n m 2 : Int) + (t.n m 3 : Int) * 3 + (t.n m 4 : Int) * 3) := by have := HO.out; unfold Hid; omega
      have HMj : Hid (MarkA W5 4 (t.ad m 5) (t.n m 5) (K + 1 + 1 + (t.n m 0 : Int) * 2 + (t.n m 1 : Int) * 2 + (t.n m 2 : Int) + (t.n m 3 : Int) * 3 + (t.n m 4 : Int) * 3)) := by have h := HM.out 5 (by omega); rw [hx5.out] at h; exact h
      refine (heldFlankS_any _ _ _ _ W5 HMj (by omega) (by omega)).mono ?_
      rintro e W6 ⟨rfl, hb6⟩
      replace HM : Hid (∀ j, j < 6 → MarkA W6 (kR j) (t.ad m j) (t.n m j) (K + 2 + offF t m j)) := fun j hj => (HM.out j hj).kept (fun b hb' => hb6.block b (Nat.lt_of_lt_of_le ((h0.out.own m j hm' hj).lt hb') (Nat.le_trans hb0.size hbk.size)))
      replace HC : Hid (∀ j, j < 6 → W6.cell? ⟨G, m * 8 + 2 + j, none⟩ = some (.slice (t.ad m j) (t.n m j) (t.cp m j))) := fun j hj => cell_later hb6 (HC.out j hj)
      replace hbk := hbk.trans (hb6.mono hbk.size)
      clear hb6 c7 HMj hx5
      obtain ⟨X, hX, hX0⟩ : ∃ X : Int, K + 1 + 1 + (t.n m 0 : Int) * 2 + (t.n m 1 : Int) * 2 + (t.n m 2 : Int) + (t.n m 3 : Int) * 3 + (t.n m 4 : Int) * 3 + (t.n m 5 : Int) * 4 = X ∧ 0 ≤ X := ⟨_, rfl, by omega⟩
      rw [hX]
      have HX := hidP hX
      clear hX b6 d0 d1 HM HC
      go_wp2_with fail
      go_roundw
      case rel => exact ⟨m + 1, by omega, by go_num, by have h1 := HO.out; have h2 := HNX.out; have h3 := HX.out; rw [h2]; congr 1; omega, hb0.trans (hbk.mono hb0.size)⟩
      case measure => simp [intOf]; omega
    · have hmm : m = R := by omega
      subst hmm
      go_wp2
      go_ret
      exact ⟨rfl, hb0⟩

end Go.Proofs.YtmkdgnmmebldgaaGreat

namespace Go.Proofs.YtmkdgnmmebldgaaGreat
open Go.RowKit Go.Deep Go.Maps

set_option maxHeartbeats 1000000 in
theorem overOf_neg (KT : Nat) (over : Int) (w : World) :
    Calls Tryz.prog 67 #[.pointer (some ⟨KT, 0, none⟩), .int .i64 (-1), .int .i64 over] w fun e w' => e = .returned (.slice none 0 0) ∧ Below w.heap.size w w' := by
  go_enter Tryz.func67, Tryz.ntmps67
  go_wp2_with fail
  go_ret
  exact ⟨rfl, (by repeat (first | exact Below.refl _ _ | assumption | refine Below.drew ?_ | refine bdrewN ?_ _ | refine Below.setCell ?_ (by first | omega | (simp; done) | (simp; omega)) _ | refine Below.alloc ?_ (by first | omega | (simp; done) | (simp; omega)) _))⟩

theorem overOf_all (KT M : Nat) (pa ja sa : Option Addr) (pc jc sc : Nat) (ps : List MPiece) (js : List MJoint) (ss : List MPiece) (R : Hid (Right ps js ss)) (stop : Int) (hst : stop = -1 ∨ ∃ i : Nat, i < ss.length ∧ stop = i) (over : Int) (h0 : 0 ≤ over) (h1 : over ≤ 100000) (w : World) (hT : Hid (TTrack w KT M pa ja sa pc jc sc ps js ss)) :
    Calls Tryz.prog 67 #[.pointer (some ⟨KT, 0, none⟩), .int .i64 stop, .int .i64 over] w fun e w' => ∃ x y, e = .returned (.slice x (overF ps js ss stop over).length y) ∧ w'.ownsRow w.heap.size 104 3 (.slice x (overF ps js ss stop over).length y) (overF ps js ss stop over).length (flatP (overF ps js ss stop over)) ∧ Below w.heap.size w w' := by
  rcases hst with rfl | ⟨i, hi, rfl⟩
  · have e : overF ps js ss (-1) over = [] := by unfold overF; rw [if_pos (by omega)]
    rw [e]
    refine (overOf_neg KT over w).mono ?_
    rintro r w' ⟨rfl, hb⟩
    exact ⟨none, 0, rfl, ⟨rfl, Or.inl ⟨rfl, rfl⟩⟩, hb⟩
  · exact overOf_any KT M pa ja sa pc jc sc ps js ss R i hi over h0 h1 w hT

/-! A route's lists, each in a block of its own. -/

def adR (d : RAddr) : Nat → Option Addr
  | 0 => d.a0
  | 1 => d.a1
  | 2 => d.a2
  | 3 => d.a3
  | 4 => d.a4
  | _ => d.a5
def cpR (d : RAddr) : Nat → Nat
  | 0 => d.c0
  | 1 => d.c1
  | 2 => d.c2
  | 3 => d.c3
  | 4 => d.c4
  | _ => d.c5
def nR (r : MRoute) : Nat → Nat
  | 0 => r.steps.length
  | 1 => r.lies.length
  | 2 => r.crosses.length
  | 3 => r.parts.length
  | 4 => r.over.length
  | _ => r.flanks.length
/-- The block of a list. -/
def AdB (a : Option Addr) (b : Nat) : Prop := ∃ o s, a = some ⟨b, o, s⟩
structure RClaims (B : Nat) (w : World) (d : RAddr) (r : MRoute) : Prop where
  steps : w.ownsRow B 100 2 (.slice d.a0 r.steps.length d.c0) r.steps.length (flatE r.steps)
  lies : w.ownsRow B 144 2 (.slice d.a1 r.lies.length d.c1) r.lies.length (flatE r.lies)
  crosses : w.ownsRow B 3 1 (.slice d.a2 r.crosses.length d.c2) r.crosses.length (flatN r.crosses)
  parts : w.ownsRow B 104 3 (.slice d.a3 r.parts.length d.c3) r.parts.length (flatP r.parts)
  over : w.ownsRow B 104 3 (.slice d.a4 r.over.length d.c4) r.over.length (flatP r.over)
  flanks : w.ownsRow B 146 4 (.slice d.a5 r.flanks.length d.c5) r.flanks.length (flatF r.flanks)
  dis : ∀ i j, i < 6 → j < 6 → ∀ b, AdB (adR d i) b → AdB (adR d j) b → i = j
theorem owns_mono {w : World} {B B' e s n : Nat} {v : Value} {xs : List Value} (h : w.ownsRow B e s v n xs) (hB : B' ≤ B) : w.ownsRow B' e s v n xs :=
  ⟨h.1, h.2.imp id fun ⟨g, cap, cur, q1, q2, q3⟩ => ⟨g, cap, cur, q1, Nat.le_trans hB q2, q3⟩⟩
theorem owns_blk {w : World} {B e s n : Nat} {x : Option Addr} {y : Nat} {xs : List Value} (h : w.ownsRow B e s (.slice x n y) n xs) : ∀ b, AdB x b → B ≤ b ∧ b < w.heap.size := by
  rintro b ⟨o, sb, hx⟩
  refine h.lt b ?_
  rw [hx]
  rfl
theorem RClaims.blk {B : Nat} {w : World} {d : RAddr} {r : MRoute} (h : RClaims B w d r) : ∀ j, j < 6 → ∀ b, AdB (adR d j) b → B ≤ b ∧ b < w.heap.size := by
  intro j hj b hb
  match j, hj with
  | 0, _ => exact owns_blk h.steps b hb
  | 1, _ => exact owns_blk h.lies b hb
  | 2, _ => exact owns_blk h.crosses b hb
  | 3, _ => exact owns_blk h.parts b hb
  | 4, _ => exact owns_blk h.over b hb
  | 5, _ => exact owns_blk h.flanks b hb

/-- Lists that were made one behind the other lie in blocks of their own. -/
theorem claims_of {w0 w1 w2 w3 w4 w5 w6 w : World} {d : RAddr} {r : MRoute}
    (h0 : w1.ownsRow w0.heap.size 100 2 (.slice d.a0 r.steps.length d.c0) r.steps.length (flatE r.steps)) (b1 : Below w1.heap.size w1 w2)
    (h1 : w2.ownsRow w1.heap.size 144 2 (.slice d.a1 r.lies.length d.c1) r.lies.length (flatE r.lies)) (b2 : Below w2.heap.size w2 w3)
    (h2 : w3.ownsRow w2.heap.size 3 1 (.slice d.a2 r.crosses.length d.c2) r.crosses.length (flatN r.crosses)) (b3 : Below w3.heap.size w3 w4)
    (h3 : w4.ownsRow w3.heap.size 104 3 (.slice d.a3 r.parts.length d.c3) r.parts.length (flatP r.parts)) (b4 : Below w4.heap.size w4 w5)
    (h4 : w5.ownsRow w4.heap.size 104 3 (.slice d.a4 r.over.length d.c4) r.over.length (flatP r.over)) (b5 : Below w5.heap.size w5 w6)
    (h5 : w6.ownsRow w5.heap.size 146 4 (.slice d.a5 r.flanks.length d.c5) r.flanks.length (flatF r.flanks)) (b6 : Below w6.heap.size w6 w) (hw : w0.heap.size ≤ w1.heap.size) : RClaims w0.heap.size w d r := by
  have z1 := b1.size
  have z2 := b2.size
  have z3 := b3.size
  have z4 := b4.size
  have z5 := b5.size
  have z6 := b6.size
  have c5 := b6
  have c4 := b5.trans (b6.mono z5)
  have c3 := b4.trans (c4.mono z4)
  have c2 := b3.trans (c3.mono z3)
  have c1 := b2.trans (c2.mono z2)
  have c0 := b1.trans (c1.mono z1)
  refine ⟨owns_below h0 c0, owns_mono (owns_below h1 c1) hw, owns_mono (owns_below h2 c2) (by omega), owns_mono (owns_below h3 c3) (by omega), owns_mono (owns_below h4 c4) (by omega), owns_mono (owns_below h5 c5) (by omega), ?_⟩
  have k : ∀ j, j < 6 → ∀ b, AdB (adR d j) b → (j = 0 ∧ b < w1.heap.size) ∨ (j = 1 ∧ w1.heap.size ≤ b ∧ b < w2.heap.size) ∨ (j = 2 ∧ w2.heap.size ≤ b ∧ b < w3.heap.size) ∨ (j = 3 ∧ w3.heap.size ≤ b ∧ b < w4.heap.size) ∨ (j = 4 ∧ w4.heap.size ≤ b ∧ b < w5.heap.size) ∨ (j = 5 ∧ w5.heap.size ≤ b) := by
    intro j hj b hb
    match j, hj with
    | 0, _ => have := owns_blk h0 b hb; omega
    | 1, _ => have := owns_blk h1 b hb; omega
    | 2, _ => have := owns_blk h2 b hb; omega
    | 3, _ => have := owns_blk h3 b hb; omega
    | 4, _ => have := owns_blk h4 b hb; omega
    | 5, _ => have := owns_blk h5 b hb; omega
  intro i j hi hj b hbi hbj
  have q1 := k i hi b hbi
  have q2 := k j hj b hbj
  omega

end Go.Proofs.YtmkdgnmmebldgaaGreat

namespace Go.Proofs.YtmkdgnmmebldgaaGreat
open Go.RowKit Go.Deep Go.Maps

/-- What a path that has ended is like. -/
structure PathOk (ps : List MPiece) (js : List MJoint) (ss : List MPiece) (p : MPath) : Prop where
  s0 : 0 < p.steps.length
  s1 : p.steps.length ≤ 202
  sv : ∀ s ∈ p.steps, ValidS ps s
  start : ∃ i : Nat, i < ss.length ∧ p.start = i
  stop : p.stop = -1 ∨ ∃ i : Nat, i < ss.length ∧ p.stop = i
  lv : ∀ l ∈ p.lies, ∃ (j : Nat) (hj : j < js.length), l.piece = j ∧ js[j].kind = 3 ∧ (l.side = 1 ∨ l.side = 2)
  ll : p.lies.length ≤ 120
  cl : p.crosses.length ≤ 202

theorem RClaims.only {B : Nat} {w w' : World} {d : RAddr} {r : MRoute} (h : RClaims B w d r) {K : Nat → Prop} (hO : Only K w w') (hK : ∀ k, K k → k < B) : RClaims B w' d r :=
  ⟨owns_only h.steps hO hK, owns_only h.lies hO hK, owns_only h.crosses hO hK, owns_only h.parts hO hK, owns_only h.over hO hK, owns_only h.flanks hO hK, h.dis⟩
theorem RClaims.mono {B B' : Nat} {w : World} {d : RAddr} {r : MRoute} (h : RClaims B w d r) (hB : B' ≤ B) : RClaims B' w d r :=
  ⟨owns_mono h.steps hB, owns_mono h.lies hB, owns_mono h.crosses hB, owns_mono h.parts hB, owns_mono h.over hB, owns_mono h.flanks hB, h.dis⟩

def RoutePost (ps : List MPiece) (js : List MJoint) (ss : List MPiece) (over : Int) (p : MPath) (w : World) (e : Ending) (w' : World) : Prop :=
  ∃ d', e = .returned (routeV d' (routeF ps js ss over p)) ∧ RClaims w.heap.size w' d' (routeF ps js ss over p) ∧ Below w.heap.size w w'

set_option maxRecDepth 100000 in
set_option maxHeartbeats 8000000 in
theorem routeOf_any (KT M : Nat) (pa ja sa : Option Addr) (pc jc sc : Nat) (ps : List MPiece) (js : List MJoint) (ss : List MPiece) (R : Hid (Right ps js ss)) (d : PAddr) (p : MPath) (hp : Hid (PathOk ps js ss p)) (over : Int) (ho0 : 0 ≤ over) (ho1 : over ≤ 100000) (w : World) (hT : Hid (TTrack w KT M pa ja sa pc jc sc ps js ss)) (h : Hid (PListsAt w d p)) :
    Calls Tryz.prog 30 #[.pointer (some ⟨KT, 0, none⟩), pathV d p, .int .i64 over] w (RoutePost ps js ss over p w) := by
  have hs1 := hp.out.s1
  have hl1 := hp.out.ll
  have hc1 := hp.out.cl
  have HPA : Hid (∀ u : World, Below w.heap.size w u → Calls Tryz.prog 66 #[.pointer (some ⟨KT, 0, none⟩), .agg #[.int .i64 p.start, .int .i64 p.stop, .bool p.ended, .slice d.a0 p.steps.length d.c0, .slice d.a1 p.lies.length d.c1, .slice d.a2 p.crosses.length d.c2]] u fun e w' => ∃ x y, e = .returned (.slice x (partsF ps ss p).length y) ∧ w'.ownsRow u.heap.size 104 3 (.slice x (partsF ps ss p).length y) (partsF ps ss p).length (flatP (partsF ps ss p)) ∧ Below u.heap.size u w') := fun u hu =>
    partsOf_any KT pa ja sa pc jc sc ps js ss d p u (hT.out.below hu).net (h.out.below hu) hp.out.s0 (by omega) hp.out.sv hp.out.start hp.out.stop
  have HOV : Hid (∀ u : World, Below w.heap.size w u → Calls Tryz.prog 67 #[.pointer (some ⟨KT, 0, none⟩), .int .i64 p.stop, .int .i64 over] u fun e w' => ∃ x y, e = .returned (.slice x (overF ps js ss p.stop over).length y) ∧ w'.ownsRow u.heap.size 104 3 (.slice x (overF ps js ss p.stop over).length y) (overF ps js ss p.stop over).length (flatP (overF ps js ss p.stop over)) ∧ Below u.heap.size u w') := fun u hu =>
    overOf_all KT M pa ja sa pc jc sc ps js ss R p.stop hp.out.stop over ho0 ho1 u (hT.out.below hu)
  have HFL : Hid (∀ u : World, Below w.heap.size w u → Calls Tryz.prog 68 #[.pointer (some ⟨KT, 0, none⟩), .slice d.a1 p.lies.length d.c1] u fun e w' => ∃ x y, e = .returned (.slice x (flanksF ps js ss p.lies p.lies).length y) ∧ w'.ownsRow u.heap.size 146 4 (.slice x (flanksF ps js ss p.lies p.lies).length y) (flanksF ps js ss p.lies p.lies).length (flatF (flanksF ps js ss p.lies p.lies)) ∧ Below u.heap.size u w') := fun u hu =>
    flanksOf_any KT M pa ja sa pc jc sc ps js ss p.lies R d.a1 d.c1 u (hT.out.below hu) (h.out.lies.below hu) hp.out.lv hl1
  have HRF : Hid (routeF ps js ss over p = ⟨p.start, p.stop, p.steps, p.lies, p.crosses, partsF ps ss p, overF ps js ss p.stop over, flanksF ps js ss p.lies p.lies⟩) := rfl
  generalize partsF ps ss p = PA at HPA HRF
  generalize overF ps js ss p.stop over = OV at HOV HRF
  generalize flanksF ps js ss p.lies p.lies = FL at HFL HRF
  unfold pathV
  go_enter Tryz.func30, Tryz.ntmps30
  go_upto_region 1 with fail
  generalize hW : World.alloc (World.alloc w _) _ = W
  have hbW : Below w.heap.size w W := by rw [← hW]; exact (by repeat (first | exact Below.refl _ _ | assumption | refine Below.drew ?_ | refine bdrewN ?_ _ | refine Below.setCell ?_ (by first | omega | (simp; done) | (simp; omega)) _ | refine Below.alloc ?_ (by first | omega | (simp; done) | (simp; omega)) _))
  have x0 : W.cell? ⟨w.heap.size, 0, none⟩ = some (.int .i64 p.start) := by rw [← hW]; simp [go_sem]
  have x1 : W.cell? ⟨w.heap.size, 1, none⟩ = some (.int .i64 p.stop) := by rw [← hW]; simp [go_sem]
  have x2 : W.cell? ⟨w.heap.size, 2, none⟩ = some (.bool p.ended) := by rw [← hW]; simp [go_sem]
  have x3 : W.cell? ⟨w.heap.size, 3, none⟩ = some (.slice d.a0 p.steps.length d.c0) := by rw [← hW]; simp [go_sem]
  have x4 : W.cell? ⟨w.heap.size, 4, none⟩ = some (.slice d.a1 p.lies.length d.c1) := by rw [← hW]; simp [go_sem]
  have x5 : W.cell? ⟨w.heap.size, 5, none⟩ = some (.slice d.a2 p.crosses.length d.c2) := by rw [← hW]; simp [go_sem]
  have hzW : W.heap.size = w.heap.size + 1 + 1 := by rw [← hW]; simp
  have HRR : Hid (∃ f, W.rowIs (w.heap.size + 1) 64 8 f) := by
    unfold Hid
    rw [← hW]
    have q := row_of_alloc2 (w.alloc (Obj.cells #[Value.int .i64 p.start, .int .i64 p.stop, .bool p.ended, .slice d.a0 p.steps.length d.c0, .slice d.a1 p.lies.length d.c1, .slice d.a2 p.crosses.length d.c2] 75)) #[.int .i64 0, .int .i64 0, .slice none 0 0, .slice none 0 0, .slice none 0 0, .slice none 0 0, .slice none 0 0, .slice none 0 0] 64
    have e : (w.alloc (Obj.cells #[Value.int .i64 p.start, .int .i64 p.stop, .bool p.ended, .slice d.a0 p.steps.length d.c0, .slice d.a1 p.lies.length d.c1, .slice d.a2 p.crosses.length d.c2] 75)).heap.size = w.heap.size + 1 := by simp
    rw [e] at q
    exact ⟨_, q⟩
  have HBW := hidP hbW
  have HZW := hidP hzW
  have hzx : w.heap.size < W.heap.size := by omega
  obtain ⟨S, hS⟩ : ∃ S : World → Prop, ∀ u, S u ↔ Below W.heap.size W u := ⟨_, fun _ => Iff.rfl⟩
  have HS0 := hidP hS
  have r0 : ∀ u : Held S, World.cell? u.val ⟨w.heap.size, 0, none⟩ = some (.int .i64 p.start) := fun u => cell_later ((hS u.val).1 u.2) x0
  have r1 : ∀ u : Held S, World.cell? u.val ⟨w.heap.size, 1, none⟩ = some (.int .i64 p.stop) := fun u => cell_later ((hS u.val).1 u.2) x1
  have r2 : ∀ u : Held S, World.cell? u.val ⟨w.heap.size, 2, none⟩ = some (.bool p.ended) := fun u => cell_later ((hS u.val).1 u.2) x2
  have r3 : ∀ u : Held S, World.cell? u.val ⟨w.heap.size, 3, none⟩ = some (.slice d.a0 p.steps.length d.c0) := fun u => cell_later ((hS u.val).1 u.2) x3
  have r4 : ∀ u : Held S, World.cell? u.val ⟨w.heap.size, 4, none⟩ = some (.slice d.a1 p.lies.length d.c1) := fun u => cell_later ((hS u.val).1 u.2) x4
  have r5 : ∀ u : Held S, World.cell? u.val ⟨w.heap.size, 5, none⟩ = some (.slice d.a2 p.crosses.length d.c2) := fun u => cell_later ((hS u.val).1 u.2) x5
  have hS1 : S W.drew := (hS _).2 ((Below.refl _ _).drew)
  have hne := held_ne hS1
  clear hS hW hbW hzW x0 x1 x2 x3 x4 x5
  refine wp_region_tree (fun w' => ∃ u : Held S, w' = u.val) 25 (by kernel_rfl) (by kernel_rfl) (held_some hS1) ?_
  (refine wpT_see 0 (by rfl) (by kernel_rfl) (by kernel_rfl) ?_; intro K hK; go_big_quiet_op; go_big_quiet_on); (refine wpT_see 1 (by rfl) (by kernel_rfl) (by kernel_rfl) ?_; intro K hK; go_big_quiet_op; go_big_quiet_on); (refine wpT_see 2 (by rfl) (by kernel_rfl) (by kernel_rfl) ?_; intro K hK; go_big_quiet_op; go_big_quiet_on); (refine wpT_see 3 (by rfl) (by kernel_rfl) (by kernel_rfl) ?_; intro K hK; go_big_quiet_op; go_big_quiet_on); (refine wpT_see 4 (by rfl) (by kernel_rfl) (by kernel_rfl) ?_; intro K hK; go_big_quiet_op; go_big_quiet_on); (refine wpT_see 5 (by rfl) (by kernel_rfl) (by kernel_rfl) ?_; intro K hK; go_big_quiet_op; go_big_quiet_on)
  (refine wpT_see 7 (by rfl) (by kernel_rfl) (by kernel_rfl) ?_; intro K hK; go_big_quiet_op; go_big_quiet_on); (refine wpT_see 8 (by rfl) (by kernel_rfl) (by kernel_rfl) ?_; intro K hK; go_big_quiet_op; go_big_quiet_on)
  (refine wpT_see 10 (by rfl) (by kernel_rfl) (by kernel_rfl) ?_; intro K hK; go_big_quiet_op; go_big_quiet_on); (refine wpT_see 11 (by rfl) (by kernel_rfl) (by kernel_rfl) ?_; intro K hK; go_big_quiet_op; go_big_quiet_on)
  (refine wpT_see 13 (by rfl) (by kernel_rfl) (by kernel_rfl) ?_; intro K hK; go_big_quiet_op; go_big_quiet_on); (refine wpT_see 14 (by rfl) (by kernel_rfl) (by kernel_rfl) ?_; intro K hK; go_big_quiet_op; go_big_quiet_on)
  (refine wpT_see 16 (by rfl) (by kernel_rfl) (by kernel_rfl) ?_; intro K hK; go_big_quiet_op; go_big_quiet_on); (refine wpT_see 17 (by rfl) (by kernel_rfl) (by kernel_rfl) ?_; intro K hK; go_big_quiet_op; go_big_quiet_on); (refine wpT_see 18 (by rfl) (by kernel_rfl) (by kernel_rfl) ?_; intro K hK; go_big_quiet_op; go_big_quiet_on); (refine wpT_see 19 (by rfl) (by kernel_rfl) (by kernel_rfl) ?_; intro K hK; go_big_quiet_op; go_big_quiet_on)
  (refine wpT_see 21 (by rfl) (by kernel_rfl) (by kernel_rfl) ?_; intro K hK; go_big_quiet_op; go_big_quiet_on); (refine wpT_see 22 (by rfl) (by kernel_rfl) (by kernel_rfl) ?_; intro K hK; go_big_quiet_op; go_big_quiet_on); (refine wpT_see 23 (by rfl) (by kernel_rfl) (by kernel_rfl) ?_; intro K hK; go_big_quiet_op; go_big_quiet_on)
  clear r0 r1 r2 r3 r4 r5
  refine wpT_loud 6 (by rfl) (by kernel_rfl) (by kernel_rfl) ?_
  intro KK hK
  show wpList Tryz.prog _ _ [_] _ _
  refine wpList_copy0 rfl (.tmp 12) 58 rfl 100 _ 2 16 Tryz.underlying58 Tryz.infoStep rfl (by decide) d.a0 p.steps.length d.c0 (flatE p.steps) rfl h.out.nil0 (flatE_len _) (newsE ((h.out.steps.below HBW.out).below ((Below.refl _ _).drew))) (flatE_one _) h.out.steps.1 (by omega) ?_
  intro s1x s1y w1 o1 b1
  have hb1 : Below W.heap.size W w1 := (Below.refl _ _).drew.trans b1
  have O1 := hidP o1
  have B1 := hidP hb1
  clear o1 b1 hb1
  go_wp2_with fail
  refine hK _ _ (held_some ((HS0.out _).2 B1.out)) ?_
  clear hK KK
  refine wpT_loud 9 (by rfl) (by kernel_rfl) (by kernel_rfl) ?_
  intro KK hK
  show wpList Tryz.prog _ _ [_] _ _
  refine wpList_copy0 rfl (.tmp 15) 59 rfl 144 _ 2 16 Tryz.underlying59 Tryz.infoLie rfl (by decide) d.a1 p.lies.length d.c1 (flatE p.lies) rfl h.out.nil1 (flatE_len _) (newsE ((h.out.lies.below HBW.out).below B1.out)) (flatE_one _) h.out.lies.1 (by omega) ?_
  intro s2x s2y w2 o2 b2
  have O2 := hidP o2
  have B2 := hidP b2
  have C2 : Hid (Below W.heap.size W w2) := B1.out.trans (b2.mono B1.out.size)
  clear o2 b2
  go_wp2_with fail
  refine hK _ _ (held_some ((HS0.out _).2 C2.out)) ?_
  clear hK KK
  refine wpT_loud 12 (by rfl) (by kernel_rfl) (by kernel_rfl) ?_
  intro KK hK
  show wpList Tryz.prog _ _ [_] _ _
  refine wpList_copy0 rfl (.tmp 18) 60 rfl 3 _ 1 8 Tryz.underlying60 Tryz.infoInt rfl (by decide) d.a2 p.crosses.length d.c2 (flatN p.crosses) rfl h.out.nil2 (flatN_len _) (newsN ((h.out.crosses.below HBW.out).below C2.out)) (flatN_one _) h.out.crosses.1 (by omega) ?_
  intro s3x s3y w3 o3 b3
  have O3 := hidP o3
  have B3 := hidP b3
  have C3 : Hid (Below W.heap.size W w3) := C2.out.trans (b3.mono C2.out.size)
  clear o3 b3
  go_wp2_with fail
  refine hK _ _ (held_some ((HS0.out _).2 C3.out)) ?_
  clear hK KK
  refine wpT_loud 15 (by rfl) (by kernel_rfl) (by kernel_rfl) ?_
  intro KK hK
  go_wp2_with (go_at_call 66; refine (HPA.out _ (HBW.out.trans (C3.out.mono HBW.out.size))).mono ?_; rintro e w4 ⟨s4x, s4y, rfl, o4, b4⟩)
  have O4 := hidP o4
  have B4 := hidP b4
  have C4 : Hid (Below W.heap.size W w4) := C3.out.trans (b4.mono C3.out.size)
  clear o4 b4
  refine hK _ _ (held_some ((HS0.out _).2 C4.out)) ?_
  clear hK KK
  refine wpT_loud 20 (by rfl) (by kernel_rfl) (by kernel_rfl) ?_
  intro KK hK
  go_wp2_with (go_at_call 67; refine (HOV.out _ (HBW.out.trans (C4.out.mono HBW.out.size))).mono ?_; rintro e w5 ⟨s5x, s5y, rfl, o5, b5⟩)
  have O5 := hidP o5
  have B5 := hidP b5
  have C5 : Hid (Below W.heap.size W w5) := C4.out.trans (b5.mono C4.out.size)
  clear o5 b5
  refine hK _ _ (held_some ((HS0.out _).2 C5.out)) ?_
  clear hK KK
  refine wpT_loud 24 (by rfl) (by kernel_rfl) (by kernel_rfl) ?_
  intro KK hK
  go_wp2_with (go_at_call 68; refine (HFL.out _ (HBW.out.trans (C5.out.mono HBW.out.size))).mono ?_; rintro e w6 ⟨s6x, s6y, rfl, o6, b6⟩)
  have O6 := hidP o6
  have B6 := hidP b6
  have C6 : Hid (Below W.heap.size W w6) := C5.out.trans (b6.mono C5.out.size)
  clear o6 b6
  refine hK _ _ (held_some ((HS0.out _).2 C6.out)) ?_
  clear hK KK hS1 hne
  refine wpT_done (by kernel_rfl) ?_
  obtain ⟨f, hf⟩ := HRR.out
  have hr := hf.of_block (C6.out.block _ hf.lt)
  have g0 := hr.cell (i := 0) (by omega)
  have g1 := hr.cell (i := 1) (by omega)
  have g2 := hr.cell (i := 2) (by omega)
  have g3 := hr.cell (i := 3) (by omega)
  have g4 := hr.cell (i := 4) (by omega)
  have g5 := hr.cell (i := 5) (by omega)
  have g6 := hr.cell (i := 6) (by omega)
  have g7 := hr.cell (i := 7) (by omega)
  have f0 := hr.frozen 0
  have f1 := hr.frozen 1
  have f2 := hr.frozen 2
  have f3 := hr.frozen 3
  have f4 := hr.frozen 4
  have f5 := hr.frozen 5
  have f6 := hr.frozen 6
  have f7 := hr.frozen 7
  have hzr := hr.lt
  have HR := hidP hr
  clear hr hf
  go_wp2_with fail
  generalize hZ : World.setCell (World.setCell (World.setCell (World.setCell (World.setCell (World.setCell (World.setCell (World.setCell w6 _ _) _ _) _ _) _ _) _ _) _ _) _ _) _ _ = Z
  have hRZ := (((((((HR.out.set 0 (.int .i64 p.start)).set 1 (.int .i64 p.stop)).set 2 (.slice s1x p.steps.length s1y)).set 3 (.slice s2x p.lies.length s2y)).set 4 (.slice s3x p.crosses.length s3y)).set 5 (.slice s4x PA.length s4y)).set 6 (.slice s5x OV.length s5y)).set 7 (.slice s6x FL.length s6y)
  rw [hZ] at hRZ
  have hOZ : Only (fun k => k = w.heap.size + 1) w6 Z := by
    rw [← hZ]
    exact ((((((((Only.refl (fun k => k = w.heap.size + 1) w6).setCell (p := ⟨w.heap.size + 1, 0, none⟩) (Or.inl rfl) _).setCell (p := ⟨w.heap.size + 1, 1, none⟩) (Or.inl rfl) _).setCell (p := ⟨w.heap.size + 1, 2, none⟩) (Or.inl rfl) _).setCell (p := ⟨w.heap.size + 1, 3, none⟩) (Or.inl rfl) _).setCell (p := ⟨w.heap.size + 1, 4, none⟩) (Or.inl rfl) _).setCell (p := ⟨w.heap.size + 1, 5, none⟩) (Or.inl rfl) _).setCell (p := ⟨w.heap.size + 1, 6, none⟩) (Or.inl rfl) _).setCell (p := ⟨w.heap.size + 1, 7, none⟩) (Or.inl rfl) _
  clear hZ
  have z0 : Z.cell? ⟨w.heap.size + 1, 0, none⟩ = some (.int .i64 p.start) := (hRZ.cell (i := 0) (by omega)).trans (by simp)
  have z1 : Z.cell? ⟨w.heap.size + 1, 1, none⟩ = some (.int .i64 p.stop) := (hRZ.cell (i := 1) (by omega)).trans (by simp)
  have z2 : Z.cell? ⟨w.heap.size + 1, 2, none⟩ = some (.slice s1x p.steps.length s1y) := (hRZ.cell (i := 2) (by omega)).trans (by simp)
  have z3 : Z.cell? ⟨w.heap.size + 1, 3, none⟩ = some (.slice s2x p.lies.length s2y) := (hRZ.cell (i := 3) (by omega)).trans (by simp)
  have z4 : Z.cell? ⟨w.heap.size + 1, 4, none⟩ = some (.slice s3x p.crosses.length s3y) := (hRZ.cell (i := 4) (by omega)).trans (by simp)
  have z5 : Z.cell? ⟨w.heap.size + 1, 5, none⟩ = some (.slice s4x PA.length s4y) := (hRZ.cell (i := 5) (by omega)).trans (by simp)
  have z6 : Z.cell? ⟨w.heap.size + 1, 6, none⟩ = some (.slice s5x OV.length s5y) := (hRZ.cell (i := 6) (by omega)).trans (by simp)
  have z7 : Z.cell? ⟨w.heap.size + 1, 7, none⟩ = some (.slice s6x FL.length s6y) := (hRZ.cell (i := 7) (by omega)).trans (by simp)
  have hzw := HZW.out
  have hcl : RClaims W.drew.heap.size w6 ⟨s1x, s1y, s2x, s2y, s3x, s3y, s4x, s4y, s5x, s5y, s6x, s6y⟩ ⟨p.start, p.stop, p.steps, p.lies, p.crosses, PA, OV, FL⟩ := claims_of O1.out B2.out O2.out B3.out O3.out B4.out O4.out B5.out O5.out B6.out O6.out (Below.refl _ _) B1.out.size
  have hcz : RClaims W.heap.size Z ⟨s1x, s1y, s2x, s2y, s3x, s3y, s4x, s4y, s5x, s5y, s6x, s6y⟩ ⟨p.start, p.stop, p.steps, p.lies, p.crosses, PA, OV, FL⟩ := hcl.only hOZ (fun k hk => by show k < W.heap.size; omega)
  have hbw : Below w.heap.size w w6 := HBW.out.trans (C6.out.mono HBW.out.size)
  refine bodyPost_ret (v := routeV ⟨s1x, s1y, s2x, s2y, s3x, s3y, s4x, s4y, s5x, s5y, s6x, s6y⟩ ⟨p.start, p.stop, p.steps, p.lies, p.crosses, PA, OV, FL⟩) (by simp [routeV, results, Tryz.results30, go_sem, z0, z1, z2, z3, z4, z5, z6, z7]) rfl ?_
  unfold RoutePost
  rw [HRF.out]
  exact ⟨_, rfl, hcz.mono (by omega), hbw.trans (hOZ.below hbw.size (fun k hk e => by omega))⟩

end Go.Proofs.YtmkdgnmmebldgaaGreat

namespace Go.Proofs.YtmkdgnmmebldgaaGreat
open Go.RowKit Go.Maps
open Go.WideMaps (KeyLaw)

theorem wayE_cases (x : Int) : wayB x = true ∧ ((x == 1) = true ∨ (x == 1) = false ∧ (x == -1) = true) ∨ wayB x = false ∧ (x == 1) = false ∧ (x == -1) = false := by
  unfold wayB
  cases (x == 1) <;> cases (x == -1) <;> simp

set_option maxHeartbeats 2000000 in
theorem signalOk_any (pa : Option Addr) (pc : Nat) (ps : List MPiece) (s : ByteArray) (pi pl wy : Int) (w : World) (hp : Hid (PiecesAt w pa ps)) (hs : s.size ≤ maxLen) (hp100 : ps.length ≤ 100) (hpl : Hid (∀ k (hk : k < ps.length), 1 ≤ ps[k].len ∧ ps[k].len ≤ 10000000)) :
    Calls Tryz.prog 106 #[.slice pa ps.length pc, .agg #[.string s, .int .i64 pi, .int .i64 pl, .int .i64 wy]] w fun e w' => e = .returned (.bool (okSigC ps s pi pl wy)) ∧ Below w.heap.size w w' := by
  cases q1 : nameB s
  · have HX := hidQ (okSigC_1 (ps := ps) (pi := pi) (pl := pl) (wy := wy) q1)
    go_enter Tryz.func106, Tryz.ntmps106
    go_wp2_with (first | (go_at_call 123; refine (nameOk_any _ _ hs).mono ?_; rintro e w' ⟨rfl, rfl⟩) | (go_at_call 63; refine (within_any _ _ _ _).mono ?_; rintro e w' ⟨rfl, rfl⟩))
    go_ret
    exact ⟨ret_bool HX.out.symm, (by repeat (first | exact Below.refl _ _ | assumption | refine Below.drew ?_ | refine bdrewN ?_ _ | refine Below.setCell ?_ (by first | omega | (simp; done) | (simp; omega)) _ | refine Below.alloc ?_ (by first | omega | (simp; done) | (simp; omega)) _))⟩
  cases q2 : inB pi 0 ((ps.length : Int) - 1)
  · have HX := hidQ (okSigC_2 (s := s) (pl := pl) (wy := wy) q2)
    go_enter Tryz.func106, Tryz.ntmps106
    go_wp2_with (first | (go_at_call 123; refine (nameOk_any _ _ hs).mono ?_; rintro e w' ⟨rfl, rfl⟩) | (go_at_call 63; refine (within_any _ _ _ _).mono ?_; rintro e w' ⟨rfl, rfl⟩))
    go_ret
    exact ⟨ret_bool HX.out.symm, (by repeat (first | exact Below.refl _ _ | assumption | refine Below.drew ?_ | refine bdrewN ?_ _ | refine Below.setCell ?_ (by first | omega | (simp; done) | (simp; omega)) _ | refine Below.alloc ?_ (by first | omega | (simp; done) | (simp; omega)) _))⟩
  rcases wayE_cases wy with ⟨q3, hw⟩ | ⟨q3, hw1, hw2⟩
  rotate_left
  · have HX := hidQ (okSigC_3 (ps := ps) (s := s) (pi := pi) (pl := pl) q3)
    clear q3
    go_enter Tryz.func106, Tryz.ntmps106
    go_wp2_with (first | (go_at_call 123; refine (nameOk_any _ _ hs).mono ?_; rintro e w' ⟨rfl, rfl⟩) | (go_at_call 63; refine (within_any _ _ _ _).mono ?_; rintro e w' ⟨rfl, rfl⟩))
    go_quiet ((go_at_call 63; exact Calls.quiet_of_same (within_any _ _ _ _)))
    go_wp2_with fail
    go_ret
    exact ⟨ret_bool HX.out.symm, (by repeat (first | exact Below.refl _ _ | assumption | refine Below.drew ?_ | refine bdrewN ?_ _ | refine Below.setCell ?_ (by first | omega | (simp; done) | (simp; omega)) _ | refine Below.alloc ?_ (by first | omega | (simp; done) | (simp; omega)) _))⟩
  have HO := hidQ (okSigC_4 (ps := ps) (pl := pl) q1 q2 q3)
  have hin : 0 ≤ pi ∧ pi < ps.length := by
    unfold inB at q2
    simp at q2
    omega
  obtain ⟨k, rfl⟩ := Int.eq_ofNat_of_zero_le hin.1
  have hkl : k < ps.length := by omega
  have hk0 : (0 : Int) ≤ (k : Int) := by omega
  have hk1 : (k : Int) < (ps.length : Int) := by omega
  obtain ⟨hpk1, hpk2⟩ := hpl.out k hkl
  have HLA : Hid (okSigC ps s (k : Int) pl wy = inB pl 1 (ps[k].len - 1)) := by
    have h := HO.out
    erw [lenAt_at hkl] at h
    exact h
  obtain ⟨b2, off2, rfl, hpp⟩ := hp.out.2.2.resolve_left (fun h => by rw [h] at hkl; exact absurd hkl (Nat.not_lt_zero _))
  obtain ⟨d1, d2, d3, d4⟩ := hpp k hkl
  have hzb2 : b2 < w.heap.size := cellLt d1
  clear hpp d1 d3 d4 hin q3 HO
  rcases hw with hw1 | ⟨hw1, hw2⟩
  all_goals
    go_enter Tryz.func106, Tryz.ntmps106
    go_wp2_with (first | (go_at_call 123; refine (nameOk_any _ _ hs).mono ?_; rintro e w' ⟨rfl, rfl⟩) | (go_at_call 63; refine (within_any _ _ _ _).mono ?_; rintro e w' ⟨rfl, rfl⟩))
    go_quiet ((go_at_call 63; exact Calls.quiet_of_same (within_any _ _ _ _)))
    go_wp2_with fail
    go_ret
    exact ⟨ret_bool HLA.out.symm, (by repeat (first | exact Below.refl _ _ | assumption | refine Below.drew ?_ | refine bdrewN ?_ _ | refine Below.setCell ?_ (by first | omega | (simp; done) | (simp; omega)) _ | refine Below.alloc ?_ (by first | omega | (simp; done) | (simp; omega)) _))⟩

set_option maxHeartbeats 2000000 in
theorem firstWrongSignal_any (pa sa : Option Addr) (pc sc : Nat) (ps ss : List MPiece) (w : World) (hp : Hid (PiecesAt w pa ps)) (hs : Hid (PiecesAt w sa ss)) (hp100 : ps.length ≤ 100) (hpl : Hid (∀ k (hk : k < ps.length), 1 ≤ ps[k].len ∧ ps[k].len ≤ 10000000)) :
    Calls Tryz.prog 84 #[.slice pa ps.length pc, .slice sa ss.length sc] w fun e w' => e = .returned (.int .i64 (firstBad (badS3 ps ss) ss.length)) ∧ Below w.heap.size w w' := by
  have hl := hs.out.1
  unfold maxLen at hl
  go_enter Tryz.func84, Tryz.ntmps84
  go_wp2_with fail
  go_loopw [9] (fun c wr => ∃ (i : Nat), i ≤ ss.length ∧ c = .int .i64 i ∧ Hid (∀ q, q < i → badS3 ps ss q = false) ∧ Below w.heap.size w wr) (fun c _ => ss.length - (intOf c).toNat)
  case atStart => exact ⟨0, Nat.zero_le _, rfl, (fun q h => absurd h (Nat.not_lt_zero q)), (by repeat (first | exact Below.refl _ _ | assumption | refine Below.drew ?_ | refine bdrewN ?_ _ | refine Below.setCell ?_ (by first | omega | (simp; done) | (simp; omega)) _ | refine Below.alloc ?_ (by first | omega | (simp; done) | (simp; omega)) _))⟩
  case round =>
    obtain ⟨i, hi, rfl, HQ, hb⟩ := hrel
    have hbs := hb.size
    by_cases hi' : i < ss.length
    · obtain ⟨b1, off1, rfl, hpc⟩ := hs.out.2.2.resolve_left (fun h => by rw [h] at hi'; exact absurd hi' (Nat.not_lt_zero _))
      obtain ⟨c1, c2, c3, c4⟩ := (hpc.below hb) i hi'
      have hsz : ss[i].name.size ≤ maxLen := hs.out.2.1 _ (List.getElem_mem hi')
      have HP := hidQ (hp.out.below hb)
      clear hpc
      go_wp2_with fail
      refine (signalOk_any _ _ _ _ _ _ _ _ (HP.out.below (by repeat (first | exact Below.refl _ _ | assumption | refine Below.drew ?_ | refine bdrewN ?_ _ | refine Below.setCell ?_ (by first | omega | (simp; done) | (simp; omega)) _ | refine Below.alloc ?_ (by first | omega | (simp; done) | (simp; omega)) _))) hsz hp100 hpl).mono ?_
      rintro e w2 ⟨rfl, hb2⟩
      have hb3 : Below w.heap.size w w2 := Below.trans (by repeat (first | exact Below.refl _ _ | assumption | refine Below.drew ?_ | refine bdrewN ?_ _ | refine Below.setCell ?_ (by first | omega | (simp; done) | (simp; omega)) _ | refine Below.alloc ?_ (by first | omega | (simp; done) | (simp; omega)) _)) (hb2.mono (by simp; omega))
      clear hb hb2 c1 c2 c3 c4 HP
      cases ho : okSigC ps ss[i].name ss[i].len ss[i].speed ss[i].brake
      · have HX := hidQ (firstBad_hit hi' (by rw [badS3_at hi', okSig, ho]; rfl) HQ.out)
        clear ho
        go_wp2_with fail
        go_ret
        exact ⟨ret_int HX.out.symm, hb3⟩
      · have HQ2 : Hid (∀ q, q < i + 1 → badS3 ps ss q = false) := by
          intro q hq
          by_cases e : q < i
          · exact HQ.out q e
          · have : q = i := by omega
            subst this
            rw [badS3_at hi', okSig, ho]; rfl
        clear ho HQ
        go_wp2_with fail
        go_roundw
        case rel => exact ⟨i + 1, by omega, by go_num, HQ2, hb3⟩
        case measure => simp [intOf]; omega
    · have HX := hidQ (firstBad_none (bad := badS3 ps ss) (n := ss.length) (fun q h => HQ.out q (by omega)))
      clear HQ
      go_wp2_with fail
      go_ret
      exact ⟨ret_int HX.out.symm, hb⟩

end Go.Proofs.YtmkdgnmmebldgaaGreat
