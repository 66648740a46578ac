import Derived.Test.YtmkdgnmmebldgabRMark
namespace Go.Proofs.Ytmkdgnmmebldgab
open Go.RowKit Go.Deep

/-! A list of routes, written over with numbers in their order, and read again. -/

def kR : Nat → Nat
  | 0 => 2
  | 1 => 2
  | 2 => 1
  | 3 => 3
  | 4 => 3
  | _ => 4
def tR : Nat → Nat
  | 0 => 94
  | 1 => 59
  | 2 => 3
  | 3 => 90
  | 4 => 90
  | _ => 92

/-- The lists of routes: how long, where, and their room. -/
structure Tab where
  n : Nat → Nat → Nat
  ad : Nat → Nat → Option Addr
  cp : Nat → Nat → Nat

def offF (t : Tab) (p : Nat) : Nat → Int
  | 0 => 0
  | j + 1 => offF t p j + (t.n p j : Int) * (kR j : Int)
def kkF (t : Tab) (k : Int) : Nat → Int
  | 0 => k
  | p + 1 => kkF t k p + 2 + offF t p 6

theorem offF_pos (t : Tab) (p j : Nat) : 0 ≤ offF t p j := by
  induction j with
  | zero => exact Int.le_refl _
  | succ j ih =>
    have : (0 : Int) ≤ (t.n p j : Int) * (kR j : Int) := Int.mul_nonneg (Int.natCast_nonneg _) (Int.natCast_nonneg _)
    simp only [offF]; omega
theorem offF_le (t : Tab) (p : Nat) {i j : Nat} (h : i ≤ j) : offF t p i ≤ offF t p j := by
  induction j with
  | zero => have : i = 0 := by omega
            subst this; exact Int.le_refl _
  | succ j ih =>
    by_cases e : i = j + 1
    · subst e; exact Int.le_refl _
    · have := ih (by omega)
      have h2 : (0 : Int) ≤ (t.n p j : Int) * (kR j : Int) := Int.mul_nonneg (Int.natCast_nonneg _) (Int.natCast_nonneg _)
      simp only [offF]; omega
theorem kkF_le (t : Tab) (k : Int) {p r : Nat} (h : p ≤ r) : kkF t k p ≤ kkF t k r := by
  induction r with
  | zero => have : p = 0 := by omega
            subst this; exact Int.le_refl _
  | succ r ih =>
    by_cases e : p = r + 1
    · subst e; exact Int.le_refl _
    · have := ih (by omega)
      have h2 := offF_pos t r 6
      simp only [kkF]; omega

/-- The first m routes have their two numbers; the lists ahead of the q-th one of route i hold theirs. -/
structure MSt (G N R : Nat) (t : Tab) (k : Int) (w : World) (m i q : Nat) : Prop where
  row : ∃ f, w.rowIs G 36 N f ∧ (∀ p j, p < R → j < 6 → f (p * 8 + 2 + j) = .slice (t.ad p j) (t.n p j) (t.cp p j)) ∧ (∀ p, p < m → f (p * 8) = .int .i64 (kkF t k p) ∧ f (p * 8 + 1) = .int .i64 (kkF t k p + 1))
  own : ∀ p j, p < R → j < 6 → OwnA w (tR j) (kR j) (t.ad p j) (t.n p j)
  mark : ∀ p j, p < R → j < 6 → (p < i ∨ p = i ∧ j < q) → MarkA w (kR j) (t.ad p j) (t.n p j) (kkF t k p + 2 + offF t p j)

/-- No two lists share a block, and none the routes' own. -/
def ApartT (G R : Nat) (t : Tab) : Prop := ∀ p j, p < R → j < 6 → ∀ b, BlkOf (t.ad p j) (t.n p j) b → b ≠ G ∧ ∀ p' j', p' < R → j' < 6 → BlkOf (t.ad p' j') (t.n p' j') b → p' = p ∧ j' = j

def TabS (G R : Nat) (t : Tab) (b : Nat) : Prop := b = G ∨ ∃ p j, p < R ∧ j < 6 ∧ BlkOf (t.ad p j) (t.n p j) b

section
variable {G N R : Nat} {t : Tab} {k : Int} {w w' : World} {m i q : Nat}

theorem MSt.lt (h : MSt G N R t k w m i q) : G < w.heap.size := by
  obtain ⟨f, hf, _⟩ := h.row
  exact hf.lt

theorem MSt.step (hA : ApartT G R t) (h : MSt G N R t k w m i q) (hi : i < R) (hq : q < 6) (x : Int) (hx : x = kkF t k i + 2 + offF t i q) (hm : MarkA w' (kR q) (t.ad i q) (t.n i q) x)
    (ho : OwnA w' (tR q) (kR q) (t.ad i q) (t.n i q)) (hO : Only (BlkOf (t.ad i q) (t.n i q)) w w') : MSt G N R t k w' m i (q + 1) := by
  have hG : ¬ BlkOf (t.ad i q) (t.n i q) G := fun e => (hA i q hi hq G e).1 rfl
  have hother : ∀ p j, p < R → j < 6 → ¬ (p = i ∧ j = q) → ∀ b, BlkOf (t.ad p j) (t.n p j) b → w'.heap[b]? = w.heap[b]? := by
    intro p j hp hj hne b hb
    refine hO.block b ((h.own p j hp hj).lt hb) (fun e => hne ?_)
    have := (hA i q hi hq b e).2 p j hp hj hb
    exact this
  refine ⟨?_, ?_, ?_⟩
  · obtain ⟨f, hf, h1, h2⟩ := h.row
    exact ⟨f, hf.of_block (hO.block G hf.lt hG), h1, h2⟩
  · intro p j hp hj
    by_cases e : p = i ∧ j = q
    · obtain ⟨rfl, rfl⟩ := e
      exact ho
    · exact (h.own p j hp hj).kept (hother p j hp hj e)
  · intro p j hp hj hd
    by_cases e : p = i ∧ j = q
    · obtain ⟨rfl, rfl⟩ := e
      rw [← hx]; exact hm
    · exact (h.mark p j hp hj (by omega)).kept (hother p j hp hj e)

theorem MSt.next (h : MSt G N R t k w m i 6) : MSt G N R t k w m (i + 1) 0 :=
  ⟨h.row, h.own, fun p j hp hj hd => h.mark p j hp hj (by omega)⟩

theorem MSt.cell (h : MSt G N R t k w m i q) (hN : R * 8 ≤ N) {p : Nat} (hp : p < R) (j : Nat) (hj : j < 6) : w.cell? ⟨G, p * 8 + 2 + j, none⟩ = some (.slice (t.ad p j) (t.n p j) (t.cp p j)) := by
  obtain ⟨f, hf, h1, _⟩ := h.row
  rw [hf.cell (by omega), h1 p j hp hj]

theorem MSt.ints (hA : ApartT G R t) (h : MSt G N R t k w m m 0) (hm : m < R) :
    MSt G N R t k ((w.setCell ⟨G, m * 8, none⟩ (.int .i64 (kkF t k m))).setCell ⟨G, m * 8 + 1, none⟩ (.int .i64 (kkF t k m + 1))) (m + 1) m 0 := by
  have hblk : ∀ p j, p < R → j < 6 → ∀ b, BlkOf (t.ad p j) (t.n p j) b → ((w.setCell ⟨G, m * 8, none⟩ (.int .i64 (kkF t k m))).setCell ⟨G, m * 8 + 1, none⟩ (.int .i64 (kkF t k m + 1))).heap[b]? = w.heap[b]? := by
    intro p j hp hj b hb
    have := (hA p j hp hj b hb).1
    exact (Below.heap_setCell _ _ _ _ this).trans (Below.heap_setCell _ _ _ _ this)
  refine ⟨?_, fun p j hp hj => (h.own p j hp hj).kept (hblk p j hp hj), fun p j hp hj hd => (h.mark p j hp hj hd).kept (hblk p j hp hj)⟩
  obtain ⟨f, hf, h1, h2⟩ := h.row
  refine ⟨_, (hf.set (m * 8) _).set (m * 8 + 1) _, ?_, ?_⟩
  · intro p j hp hj
    rw [if_neg (by omega), if_neg (by omega)]
    exact h1 p j hp hj
  · intro p hp
    by_cases e : p = m
    · subst e
      rw [if_neg (by omega), if_pos rfl, if_pos rfl]
      exact ⟨rfl, rfl⟩
    · rw [if_neg (by omega), if_neg (by omega), if_neg (by omega), if_neg (by omega)]
      exact h2 p (by omega)
end

set_option maxHeartbeats 2000000 in
theorem markRouteS_walk (G N R cap : Nat) (t : Tab) (k : Int) (w : World) (hA : Hid (ApartT G R t)) (h0 : Hid (MSt G N R t k w 0 0 0)) (hN : R * 8 ≤ N) (hk : 0 ≤ k) (hkb : Hid (kkF t k R ≤ 1152921504606846976)) (hRb : R ≤ 1048576) :
    Calls Try.prog 16 #[.slice (some ⟨G, 0, none⟩) R cap, .int .i64 k] w fun e w' => e = .returned (.int .i64 (kkF t k R)) ∧ MSt G N R t k w' R R 0 ∧ Only (TabS G R t) w w' := by
  go_enter Try.func16, Try.ntmps16
  go_wp2_with fail
  go_loopw [1, 5] (fun kk i wr => ∃ (m : Nat), m ≤ R ∧ i = .int .i64 m ∧ kk = .int .i64 (kkF t k m) ∧ Hid (MSt G N R t k wr m m 0) ∧ Hid (Only (TabS G R t) w wr)) (fun _ i _ => R - (intOf i).toNat)
  case atStart => exact ⟨0, Nat.zero_le _, rfl, rfl, h0, Only.refl _ _⟩
  case round =>
    obtain ⟨m, hm, rfl, rfl, hS, hO⟩ := hrel
    clear h0
    by_cases hm' : m < R
    · have hk0 : k ≤ kkF t k m := kkF_le t k (Nat.zero_le m)
      have hk1 : kkF t k m + 2 + offF t m 6 ≤ 1152921504606846976 := Int.le_trans (kkF_le t k (p := m + 1) (r := R) hm') hkb.out
      have o1 : offF t m 1 = (t.n m 0 : Int) * 2 := by simp [offF, kR]
      have o2 : offF t m 2 = offF t m 1 + (t.n m 1 : Int) * 2 := by simp [offF, kR]
      have o3 : offF t m 3 = offF t m 2 + (t.n m 2 : Int) := by simp [offF, kR]
      have o4 : offF t m 4 = offF t m 3 + (t.n m 3 : Int) * 3 := by simp [offF, kR]
      have o5 : offF t m 5 = offF t m 4 + (t.n m 4 : Int) * 3 := by simp [offF, kR]
      have o6 : offF t m 6 = offF t m 5 + (t.n m 5 : Int) * 4 := by simp [offF, kR]
      have HNX : Hid (kkF t k (m + 1) = kkF t k m + 2 + offF t m 6) := rfl
      have HI := hidP (hS.out.ints hA.out hm')
      have HS' := hS
      obtain ⟨f, hf, hs1, hs2⟩ := hS.out.row
      have d0 := hf.cell (i := m * 8) (by omega)
      have d1 := hf.cell (i := m * 8 + 1) (by omega)
      have e0 := hf.frozen (m * 8)
      have e1 := hf.frozen (m * 8 + 1)
      clear hf hs1 hs2 hS HS'
      generalize hK : kkF t k m = K at *
      have hO1 : Only (TabS G R t) w ((wr.setCell ⟨G, m * 8, none⟩ (.int .i64 K)).setCell ⟨G, m * 8 + 1, none⟩ (.int .i64 (K + 1))) := (hO.out.setCell (Or.inl (Or.inl rfl)) _).setCell (Or.inl (Or.inl rfl)) _
      have HO1 := hidP hO1
      clear hO1
      have HK := hidP hK
      have HO := hidP (And.intro o1 (And.intro o2 (And.intro o3 (And.intro o4 (And.intro o5 o6)))))
      clear hK
      have b6 : K + 2 + (t.n m 0 : Int) * 2 + (t.n m 1 : Int) * 2 + (t.n m 2 : Int) + (t.n m 3 : Int) * 3 + (t.n m 4 : Int) * 3 + (t.n m 5 : Int) * 4 ≤ 1152921504606846976 := by omega
      clear o1 o2 o3 o4 o5 o6 hk1
      have c2 : ((wr.setCell ⟨G, m * 8, none⟩ (.int .i64 K)).setCell ⟨G, m * 8 + 1, none⟩ (.int .i64 (K + 1))).cell? ⟨G, m * 8 + 2, none⟩ = _ := HI.out.cell hN hm' 0 (by omega)
      go_wp2_with fail
      generalize hW : (wr.setCell ⟨G, m * 8, none⟩ (.int .i64 K)).setCell ⟨G, m * 8 + 1, none⟩ (.int .i64 (K + 1)) = W0 at HI HO1
      try rw [hW]
      clear hW d0 d1 e0 e1
      refine (markStepS_any _ _ _ _ W0 (HI.out.own m 0 hm' (by omega)) (by omega) (by omega)).mono ?_
      rintro e W1 ⟨rfl, hm0, ho0, hq0⟩
      replace HI : Hid (MSt G N R t k W1 (m + 1) m 1) := hidP (HI.out.step hA.out hm' (by omega) _ (by have := HO.out; rw [HK.out]; simp [offF]; omega) hm0 ho0 hq0)
      replace HO1 := hidP (HO1.out.trans (hq0.mono (fun b hb => Or.inr ⟨m, 0, hm', by omega, hb⟩)))
      clear hm0 ho0 hq0 c2
      have c3 : W1.cell? ⟨G, m * 8 + 3, none⟩ = _ := HI.out.cell hN hm' 1 (by omega)
      go_wp2_with fail
      refine (markLieS_any _ _ _ _ W1 (HI.out.own m 1 hm' (by omega)) (by omega) (by omega)).mono ?_
      rintro e W2 ⟨rfl, hm1, ho1, hq1⟩
      replace HI : Hid (MSt G N R t k W2 (m + 1) m 2) := hidP (HI.out.step hA.out hm' (by omega) _ (by have := HO.out; rw [HK.out]; omega) hm1 ho1 hq1)
      replace HO1 := hidP (HO1.out.trans (hq1.mono (fun b hb => Or.inr ⟨m, 1, hm', by omega, hb⟩)))
      clear hm1 ho1 hq1 c3
      have c4 : W2.cell? ⟨G, m * 8 + 4, none⟩ = _ := HI.out.cell hN hm' 2 (by omega)
      go_wp2_with fail
      refine (markIntS_any _ _ _ _ W2 (HI.out.own m 2 hm' (by omega)) (by omega) (by omega)).mono ?_
      rintro e W3 ⟨rfl, hm2, ho2, hq2⟩
      replace HI : Hid (MSt G N R t k W3 (m + 1) m 3) := hidP (HI.out.step hA.out hm' (by omega) _ (by have := HO.out; rw [HK.out]; omega) hm2 ho2 hq2)
      replace HO1 := hidP (HO1.out.trans (hq2.mono (fun b hb => Or.inr ⟨m, 2, hm', by omega, hb⟩)))
      clear hm2 ho2 hq2 c4
      have c5 : W3.cell? ⟨G, m * 8 + 5, none⟩ = _ := HI.out.cell hN hm' 3 (by omega)
      go_wp2_with fail
      refine (markPartS_any _ _ _ _ W3 (HI.out.own m 3 hm' (by omega)) (by omega) (by omega)).mono ?_
      rintro e W4 ⟨rfl, hm3, ho3, hq3⟩
      replace HI : Hid (MSt G N R t k W4 (m + 1) m 4) := hidP (HI.out.step hA.out hm' (by omega) _ (by have := HO.out; rw [HK.out]; omega) hm3 ho3 hq3)
      replace HO1 := hidP (HO1.out.trans (hq3.mono (fun b hb => Or.inr ⟨m, 3, hm', by omega, hb⟩)))
      clear hm3 ho3 hq3 c5
      have c6 : W4.cell? ⟨G, m * 8 + 6, none⟩ = _ := HI.out.cell hN hm' 4 (by omega)
      go_wp2_with fail
      refine (markPartS_any _ _ _ _ W4 (HI.out.own m 4 hm' (by omega)) (by omega) (by omega)).mono ?_
      rintro e W5 ⟨rfl, hm4, ho4, hq4⟩
      replace HI : Hid (MSt G N R t k W5 (m + 1) m 5) := hidP (HI.out.step hA.out hm' (by omega) _ (by have := HO.out; rw [HK.out]; omega) hm4 ho4 hq4)
      replace HO1 := hidP (HO1.out.trans (hq4.mono (fun b hb => Or.inr ⟨m, 4, hm', by omega, hb⟩)))
      clear hm4 ho4 hq4 c6
      have c7 : W5.cell? ⟨G, m * 8 + 7, none⟩ = _ := HI.out.cell hN hm' 5 (by omega)
      go_wp2_with fail
      refine (markFlankS_any _ _ _ _ W5 (HI.out.own m 5 hm' (by omega)) (by omega) (by omega)).mono ?_
      rintro e W6 ⟨rfl, hm5, ho5, hq5⟩
      replace HI : Hid (MSt G N R t k W6 (m + 1) m 6) := hidP (HI.out.step hA.out hm' (by omega) _ (by have := HO.out; rw [HK.out]; omega) hm5 ho5 hq5)
      replace HO1 := hidP (HO1.out.trans (hq5.mono (fun b hb => Or.inr ⟨m, 5, hm', by omega, hb⟩)))
      clear hm5 ho5 hq5 c7
      go_wp2_with fail
      go_roundw
      case rel => exact ⟨m + 1, by omega, by go_num, by have h1 := HO.out; have h2 := HNX.out; rw [h2]; congr 1; omega, HI.out.next, HO1⟩
      case measure => simp [intOf]; omega
    · have hmm : m = R := by omega
      subst hmm
      go_wp2
      go_ret
      exact ⟨rfl, hS.out, hO.out⟩

theorem MSt.below {G N R : Nat} {t : Tab} {k : Int} {w w' : World} {m i q : Nat} (h : MSt G N R t k w m i q) (hb : Below w.heap.size w w') : MSt G N R t k w' m i q := by
  refine ⟨?_, fun p j hp hj => (h.own p j hp hj).kept (fun b hb' => hb.block b ((h.own p j hp hj).lt hb')), fun p j hp hj hd => (h.mark p j hp hj hd).kept (fun b hb' => hb.block b ((h.own p j hp hj).lt hb'))⟩
  obtain ⟨f, hf, h1, h2⟩ := h.row
  exact ⟨f, hf.of_block (hb.block G hf.lt), h1, h2⟩

theorem MSt.num {G N R : Nat} {t : Tab} {k : Int} {w : World} {m i q : Nat} (h : MSt G N R t k w m i q) (hN : R * 8 ≤ N) {p : Nat} (hp : p < m) (hpR : p < R) :
    w.cell? ⟨G, p * 8, none⟩ = some (.int .i64 (kkF t k p)) ∧ w.cell? ⟨G, p * 8 + 1, none⟩ = some (.int .i64 (kkF t k p + 1)) := by
  obtain ⟨f, hf, _, h2⟩ := h.row
  exact ⟨by rw [hf.cell (by omega), (h2 p hp).1], by rw [hf.cell (by omega), (h2 p hp).2]⟩

end Go.Proofs.Ytmkdgnmmebldgab
