import Derived.Test.YtmkdgnmmebldgaaAp23
import Derived.Test.YtmkdgnmmebldgaaAp30
namespace Go.Proofs.Ytmkdgnmmebldgaa
open Go.RowKit Go.Deep

/-- A slice of bytes. -/
structure BytesAt (w : World) (a : Option Addr) (bs : List Int) : Prop where
  len : bs.length ≤ maxLen
  lie : bs = [] ∨ ∃ b off, a = some ⟨b, off, none⟩ ∧ ByteCells w b off bs
  small : ∀ x ∈ bs, 0 ≤ x ∧ x < 256
theorem BytesAt.below {w w' : World} {a : Option Addr} {bs : List Int} (h : BytesAt w a bs) (hb : Below w.heap.size w w') : BytesAt w' a bs :=
  ⟨h.len, h.lie.imp id (fun ⟨b, off, h1, h2⟩ => ⟨b, off, h1, fun i hi => cell_later hb (h2 i hi)⟩), h.small⟩

set_option maxHeartbeats 1000000 in
theorem wByte_any (a : Option Addr) (c : Nat) (bs : List Int) (k : Nat) (w : World) (h : Hid (BytesAt w a bs)) (hk : k ≤ 1000) :
    Calls Try.prog 12 #[.slice a bs.length c, .int .i64 k] w fun e w' => ∃ x : Nat, x < 256 ∧ e = .returned (.int .i64 x) ∧ Below w.heap.size w w' := by
  have hl := h.out.len
  unfold maxLen at hl
  go_enter Try.func12, Try.ntmps12
  by_cases h0 : bs.length = 0
  · have h1 : ((bs.length : Int) == 0) = true := by simp [h0]
    go_wp2_with fail
    go_ret
    exact ⟨0, by omega, rfl, Below.refl _ _⟩
  · have h1 : ((bs.length : Int) == 0) = false := by rw [beq_eq_false_iff_ne]; omega
    obtain ⟨b, off, hca, hcl⟩ := h.out.lie.resolve_left (fun h => by rw [h] at h0; exact h0 rfl)
    subst hca
    obtain ⟨r, hr, hrl⟩ := rem_nat k (show (0 : Int) < bs.length by omega)
    have hrl' : r < bs.length := by omega
    have d0 := hcl r hrl'
    have hsm := h.out.small _ (List.getElem_mem hrl')
    generalize bs[r] = bv at d0 hsm
    obtain ⟨bn, hbn⟩ : ∃ bn : Nat, bv = bn := ⟨bv.toNat, by omega⟩
    subst hbn
    have hz := cellLt d0
    dsimp only at hz
    have hr2 : Int.tmod (k : Int) (bs.length : Int) = (r : Int) := by rw [Int.tmod_eq_emod_of_nonneg (by omega)]; exact hr
    clear hcl
    go_wp2_with fail
    refine bodyPost_ret (v := .int .i64 (bn : Int)) (by simp [results, Try.results12, go_sem]) rfl ⟨bn, by omega, rfl, ?_⟩
    exact (by repeat (first | exact Below.refl _ _ | assumption | refine Below.drew ?_ | refine bdrewN ?_ _ | refine Below.setCell ?_ (by first | omega | (simp; done) | (simp; omega)) _ | refine Below.alloc ?_ (by first | omega | (simp; done) | (simp; omega)) _))

set_option maxRecDepth 10000 in
set_option maxHeartbeats 2000000 in
theorem wIn_any (a : Option Addr) (c : Nat) (xs : List MPart) (piece at_ : Int) (w : World) (h : Hid (PartsAt w a xs)) :
    Calls Try.prog 15 #[.slice a xs.length c, .int .i64 piece, .int .i64 at_] w fun e w' => e = .returned (.bool (inL xs piece at_)) ∧ Below w.heap.size w w' := by
  have hl := h.out.1
  unfold maxLen at hl
  go_enter Try.func15, Try.ntmps15
  go_wp2_with fail
  go_loopw [11] (fun i wr => ∃ (k : Nat), k ≤ xs.length ∧ i = .int .i64 k ∧ Hid (∀ q (hq : q < xs.length), q < k → (xs[q].piece == piece && decide (xs[q].lo ≤ at_) && decide (at_ ≤ xs[q].hi)) = false) ∧ Below w.heap.size w wr) (fun i _ => xs.length - (intOf i).toNat)
  case atStart => exact ⟨0, Nat.zero_le _, rfl, (fun q _ h => absurd h (Nat.not_lt_zero q)), Below.refl _ _⟩
  case round =>
    obtain ⟨k, hk, rfl, HQ, hbw⟩ := hrel
    have hbs := hbw.size
    by_cases hk' : k < xs.length
    · obtain ⟨b1, off1, rfl, hpc1⟩ := h.out.2.resolve_left (fun h => by rw [h] at hk'; exact absurd hk' (Nat.not_lt_zero _))
      obtain ⟨c0, c1, c2⟩ := (hpc1.below hbw) k hk'
      clear hpc1
      cases hT : (xs[k].piece == piece && decide (xs[k].lo ≤ at_) && decide (at_ ≤ xs[k].hi))
      · have HM2 : Hid (∀ q (hq : q < xs.length), q < k + 1 → (xs[q].piece == piece && decide (xs[q].lo ≤ at_) && decide (at_ ≤ xs[q].hi)) = false) := by
          intro q hq hqm
          by_cases e : q < k
          · exact HQ.out q hq e
          · have : q = k := by omega
            subst this; exact hT
        have hcs : (xs[k].piece == piece) = false ∨ (xs[k].piece == piece) = true ∧ (decide (xs[k].lo ≤ at_) = false ∨ decide (xs[k].lo ≤ at_) = true ∧ decide (at_ ≤ xs[k].hi) = false) := by
          revert hT
          cases (xs[k].piece == piece) <;> cases decide (xs[k].lo ≤ at_) <;> cases decide (at_ ≤ xs[k].hi) <;> simp
        clear hT HQ
        rcases hcs with t1 | ⟨t1, t2 | ⟨t2, t3⟩⟩
        all_goals
          go_wp2_with fail
          go_roundw
          case rel => exact ⟨k + 1, by omega, by go_num, HM2, (by repeat (first | exact Below.refl _ _ | assumption | refine Below.drew ?_ | refine bdrewN ?_ _ | refine Below.setCell ?_ (by first | omega | (simp; done) | (simp; omega)) _ | refine Below.alloc ?_ (by first | omega | (simp; done) | (simp; omega)) _))⟩
          case measure => simp [intOf]; omega
      · have HX : Hid (inL xs piece at_ = true) := any_hit hk' hT
        obtain ⟨t1, t2, t3⟩ : (xs[k].piece == piece) = true ∧ decide (xs[k].lo ≤ at_) = true ∧ decide (at_ ≤ xs[k].hi) = true := by
          simp only [Bool.and_eq_true] at hT
          exact ⟨hT.1.1, hT.1.2, hT.2⟩
        clear hT HQ
        go_wp2_with fail
        go_ret
        rw [HX.out]
        exact ⟨rfl, (by repeat (first | exact Below.refl _ _ | assumption | refine Below.drew ?_ | refine bdrewN ?_ _ | refine Below.setCell ?_ (by first | omega | (simp; done) | (simp; omega)) _ | refine Below.alloc ?_ (by first | omega | (simp; done) | (simp; omega)) _))⟩
    · have HX : Hid (inL xs piece at_ = false) := any_none (fun i hi => HQ.out i hi (by omega))
      clear HQ
      go_wp2_with fail
      go_ret
      rw [HX.out]
      exact ⟨rfl, hbw⟩

/-- A table of routes in memory. -/
def TabAt (w : World) (g : Nat) (rs : List MRoute) : Prop := ∀ i (hi : i < rs.length), ∃ b y, w.cell? ⟨g, i, none⟩ = some (.slice (some ⟨b, 0, none⟩) rs.length y) ∧ ∀ k (hk : k < rs.length), w.cell? ⟨b, k, none⟩ = some (.int .i64 (exclF rs[i] rs[k]))
theorem TabAt.below {w w' : World} {g : Nat} {rs : List MRoute} (h : TabAt w g rs) (hb : Below w.heap.size w w') : TabAt w' g rs := fun i hi => by
  obtain ⟨b, y, h1, h2⟩ := h i hi
  exact ⟨b, y, cell_later hb h1, fun k hk => cell_later hb (h2 k hk)⟩

theorem tab_of {w : World} {B : Nat} {x : Option Addr} {y : Nat} {cells : List Value} {rs : List MRoute} (hl : rs.length ≤ 300) (h0 : 0 < rs.length) (h : w.ownsRow B 34 1 (.slice x (tableF rs).length y) (tableF rs).length cells) (hr : RowsOwn w B cells (tableF rs)) : (tableF rs).length = rs.length ∧ ∃ g, x = some ⟨g, 0, none⟩ ∧ TabAt w g rs := by
  have e : tableF rs = rs.map fun a => rs.map (exclF a) := by unfold tableF; rw [if_neg (by omega)]
  have el : (tableF rs).length = rs.length := by rw [e]; simp
  refine ⟨el, ?_⟩
  rcases h.2 with ⟨_, h2⟩ | ⟨g, cap, cur, h1, _, h3, _⟩
  · omega
  · injection h1 with h1 _ _
    subst h1
    refine ⟨g, rfl, fun i hi => ?_⟩
    obtain ⟨v, hv1, hv2⟩ := hr.2 i (by omega)
    have ei : (tableF rs)[i]'(by omega) = rs.map (exclF rs[i]) := by simp [e]
    have el2 : ((tableF rs)[i]'(by omega)).length = rs.length := by rw [ei]; simp
    have hc := h.cells (g := g) rfl i v hv1
    rw [addr_at, Nat.zero_add] at hc
    rw [el2, ei] at hv2
    rcases hv2.2 with ⟨_, h2⟩ | ⟨b, cap', cur', h1', _⟩
    · omega
    · subst h1'
      refine ⟨b, cap', hc, fun k hk => ?_⟩
      have hn := numCells_of (hv2.cells (g := b) rfl) k (by simpa using hk)
      rw [Nat.zero_add] at hn
      simpa using hn

end Go.Proofs.Ytmkdgnmmebldgaa
