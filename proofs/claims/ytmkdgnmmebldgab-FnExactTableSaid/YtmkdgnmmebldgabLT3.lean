import Derived.Test.YtmkdgnmmebldgabSTable
import Derived.Test.YtmkdgnmmebldgabLT2
import Derived.Test.YtmkdgnmmebldgabLNeeds
namespace Go.Proofs.Ytmkdgnmmebldgab
open Go.RowKit Go.Deep

theorem LensR.shortN {r : MRoute} (h : LensR r) : ShortN r := ⟨h.lies, h.flanks⟩
theorem LensRs.short {rs : List MRoute} (h : LensRs rs) : ShortRs rs := by
  intro r hr
  obtain ⟨i, hi, rfl⟩ := List.getElem_of_mem hr
  exact (h.2 i hi).shortN

set_option maxHeartbeats 400000 in
theorem markIntSS_nil (a : Option Addr) (cap : Nat) (k : Int) (w : World) :
    Calls Try.prog 17 #[.slice a 0 cap, .int .i64 k] w fun e w' => e = .returned (.int .i64 k) ∧ w' = w := by
  go_enter Try.func17, Try.ntmps17
  go_wp2_with fail
  go_loopw [1, 5] (fun l i wr => i = .int .i64 0 ∧ l = .int .i64 k ∧ wr = w) (fun _ _ _ => 0)
  case atStart => exact ⟨rfl, rfl, rfl⟩
  case round =>
    obtain ⟨rfl, rfl, rfl⟩ := hrel
    go_wp2
    go_ret
    exact ⟨rfl, rfl⟩
set_option maxHeartbeats 400000 in
theorem heldIntSS_nil (a : Option Addr) (cap : Nat) (k : Int) (w : World) :
    Calls Try.prog 18 #[.slice a 0 cap, .int .i64 k] w fun e w' => e = .returned (.int .i64 k) ∧ w' = w := by
  go_enter Try.func18, Try.ntmps18
  go_wp2_with fail
  go_loopw [1, 5] (fun l i wr => i = .int .i64 0 ∧ l = .int .i64 k ∧ wr = w) (fun _ _ _ => 0)
  case atStart => exact ⟨rfl, rfl, rfl⟩
  case round =>
    obtain ⟨rfl, rfl, rfl⟩ := hrel
    go_wp2
    go_ret
    exact ⟨rfl, rfl⟩

theorem RowsOwn.only {S : Nat → Prop} {w w' : World} {B : Nat} {cells : List Value} {tt : List (List Int)} (h : RowsOwn w B cells tt) (hO : Only S w w') (hS : ∀ (i : Nat) (v : Value) (b : Nat), cells[i]? = some v → v.ownBlock = some b → ¬ S b) : RowsOwn w' B cells tt := by
  refine ⟨h.1, fun i hi => ?_⟩
  obtain ⟨v, h1, h2⟩ := h.2 i hi
  exact ⟨v, h1, owns_only h2 hO (fun b hb => hS i v b h1 hb)⟩
theorem RowsOwn.blk {w : World} {B : Nat} {cells : List Value} {tt : List (List Int)} (h : RowsOwn w B cells tt) (i : Nat) (v : Value) (b : Nat) (hv : cells[i]? = some v) (hb : v.ownBlock = some b) : B ≤ b ∧ b < w.heap.size := by
  have hi : i < tt.length := by rw [← h.1]; exact (List.getElem?_eq_some_iff.1 hv).1
  obtain ⟨u, h1, h2⟩ := h.2 i hi
  rw [hv] at h1
  cases h1
  exact h2.lt b hb

/-- A copy of routes reads as routes. -/
theorem routes_of_row {w : World} {G : Nat} {gg : Nat → Nat → Nat} {rs : List MRoute} {f : Nat → Value} (h1 : w.rowIs G 36 (rs.length * 8) f) (h2 : RsRow w G gg rs rs.length f) (hl : LensRs rs) : RoutesAt w (some ⟨G, 0, none⟩) rs := by
  refine ⟨by have := hl.1; unfold maxLen; omega, Or.inr ⟨G, 0, rfl, fun i hi => ?_⟩⟩
  refine ⟨dOf (gg i) rs[i], ?_, (h2.rows i hi hi).lists (hl.2 i hi)⟩
  obtain ⟨c0, c1, c2, c3, c4, c5, c6, c7⟩ := h2.cells i hi hi
  constructor
  · simp only [Nat.zero_add]; rw [h1.cell (by omega), c0]
  · simp only [Nat.zero_add]; rw [h1.cell (by omega), c1]
  · simp only [Nat.zero_add]; rw [h1.cell (by omega), c2]; rfl
  · simp only [Nat.zero_add]; rw [h1.cell (by omega), c3]; rfl
  · simp only [Nat.zero_add]; rw [h1.cell (by omega), c4]; rfl
  · simp only [Nat.zero_add]; rw [h1.cell (by omega), c5]; rfl
  · simp only [Nat.zero_add]; rw [h1.cell (by omega), c6]; rfl
  · simp only [Nat.zero_add]; rw [h1.cell (by omega), c7]; rfl

def lnR (r : MRoute) : Nat → Nat
  | 0 => r.steps.length
  | 1 => r.lies.length
  | 2 => r.crosses.length
  | 3 => r.parts.length
  | 4 => r.over.length
  | _ => r.flanks.length
def tabOf (gg : Nat → Nat → Nat) (rs : List MRoute) : Tab := ⟨fun p q => (rs[p]?.map (fun r => lnR r q)).getD 0, fun p q => some ⟨gg p q, 0, none⟩, fun p q => (rs[p]?.map (fun r => lnR r q)).getD 0⟩
theorem tabOf_n {gg : Nat → Nat → Nat} {rs : List MRoute} {p : Nat} (hp : p < rs.length) (q : Nat) : (tabOf gg rs).n p q = lnR rs[p] q := by simp [tabOf, List.getElem?_eq_getElem hp]
theorem tabOf_c {gg : Nat → Nat → Nat} {rs : List MRoute} {p : Nat} (hp : p < rs.length) (q : Nat) : (tabOf gg rs).cp p q = lnR rs[p] q := by simp [tabOf, List.getElem?_eq_getElem hp]

theorem six {q : Nat} (h : q < 6) : q = 0 ∨ q = 1 ∨ q = 2 ∨ q = 3 ∨ q = 4 ∨ q = 5 := by omega

theorem mst_of_row {w : World} {G : Nat} {gg : Nat → Nat → Nat} {rs : List MRoute} {f : Nat → Value} (k : Int) (h1 : w.rowIs G 36 (rs.length * 8) f) (h2 : RsRow w G gg rs rs.length f) : MSt G (rs.length * 8) rs.length (tabOf gg rs) k w 0 0 0 := by
  refine ⟨⟨f, h1, fun p j hp hj => ?_, fun p hp => absurd hp (Nat.not_lt_zero p)⟩, fun p j hp hj => ?_, fun p j _ _ h => absurd h (by omega)⟩
  · rw [tabOf_n hp, tabOf_c hp]
    obtain ⟨_, _, c2, c3, c4, c5, c6, c7⟩ := h2.cells p hp hp
    rcases six hj with rfl | rfl | rfl | rfl | rfl | rfl
    · exact c2
    · exact c3
    · exact c4
    · exact c5
    · exact c6
    · exact c7
  · rw [tabOf_n hp]
    have hr := h2.rows p hp hp
    rcases six hj with rfl | rfl | rfl | rfl | rfl | rfl
    · exact hr.r0.own (flatE_len _)
    · exact hr.r1.own (flatE_len _)
    · exact hr.r2.own (flatN_len _)
    · exact hr.r3.own (flatP_len _)
    · exact hr.r4.own (flatP_len _)
    · exact hr.r5.own (flatF_len _)

theorem gg_mono {w : World} {G : Nat} {gg : Nat → Nat → Nat} {rs : List MRoute} {f : Nat → Value} (h2 : RsRow w G gg rs rs.length f) : ∀ p', p' < rs.length → ∀ p, p < p' → gg p 5 < gg p' 0
  | 0, _, p, hp => absurd hp (Nat.not_lt_zero p)
  | p' + 1, hl, p, hp => by
    have h0 := (h2.rows (p' + 1) hl hl).l0
    simp only [loR] at h0
    by_cases e : p = p'
    · subst e; omega
    · have ih := gg_mono h2 p' (by omega) p (by omega)
      have hr := h2.rows p' (by omega) (by omega)
      have h1 := hr.l1
      have h3 := hr.l2
      have h4 := hr.l3
      have h5 := hr.l4
      have h6 := hr.l5
      omega

theorem gg_in {w : World} {G : Nat} {gg : Nat → Nat → Nat} {rs : List MRoute} {f : Nat → Value} (h2 : RsRow w G gg rs rs.length f) {p q : Nat} (hp : p < rs.length) (hq : q < 6) : gg p 0 ≤ gg p q ∧ gg p q ≤ gg p 5 := by
  have hr := h2.rows p hp hp
  have h1 := hr.l1
  have h3 := hr.l2
  have h4 := hr.l3
  have h5 := hr.l4
  have h6 := hr.l5
  rcases six hq with rfl | rfl | rfl | rfl | rfl | rfl <;> omega

theorem gg_inj {w : World} {G : Nat} {gg : Nat → Nat → Nat} {rs : List MRoute} {f : Nat → Value} (h2 : RsRow w G gg rs rs.length f) {p q p' q' : Nat} (hp : p < rs.length) (hq : q < 6) (hp' : p' < rs.length) (hq' : q' < 6) (e : gg p q = gg p' q') : p' = p ∧ q' = q := by
  have i1 := gg_in h2 hp hq
  have i2 := gg_in h2 hp' hq'
  have ep : p' = p := by
    by_cases h : p < p'
    · have := gg_mono h2 p' hp' p h; omega
    · by_cases h' : p' < p
      · have := gg_mono h2 p hp p' h'; omega
      · omega
  subst ep
  refine ⟨rfl, ?_⟩
  have hr := h2.rows p' hp hp
  have h1 := hr.l1
  have h3 := hr.l2
  have h4 := hr.l3
  have h5 := hr.l4
  have h6 := hr.l5
  rcases six hq with rfl | rfl | rfl | rfl | rfl | rfl <;> rcases six hq' with rfl | rfl | rfl | rfl | rfl | rfl <;> first | rfl | omega

theorem blk_at {gg : Nat → Nat → Nat} {rs : List MRoute} {p q b : Nat} (h : BlkOf ((tabOf gg rs).ad p q) ((tabOf gg rs).n p q) b) : b = gg p q := by
  obtain ⟨_, _, _, h⟩ := h
  simp only [tabOf, Option.some.injEq, Addr.mk.injEq] at h
  exact h.1.symm

theorem apart_of_row {w : World} {G : Nat} {gg : Nat → Nat → Nat} {rs : List MRoute} {f : Nat → Value} (h2 : RsRow w G gg rs rs.length f) : ApartT G rs.length (tabOf gg rs) := by
  intro p j hp hj b hb
  have e := blk_at hb
  have hlo := loR_ge h2 p (by omega) (by omega)
  have h0 := (h2.rows p hp hp).l0
  have hi := gg_in h2 hp hj
  refine ⟨by omega, fun p' j' hp' hj' hb' => ?_⟩
  have e' := blk_at hb'
  exact gg_inj h2 hp hj hp' hj' (by omega)

theorem tabS_in {w : World} {G : Nat} {gg : Nat → Nat → Nat} {rs : List MRoute} {f : Nat → Value} (h1 : w.rowIs G 36 (rs.length * 8) f) (h2 : RsRow w G gg rs rs.length f) {b : Nat} (hb : TabS G rs.length (tabOf gg rs) b) : G ≤ b ∧ b < w.heap.size := by
  rcases hb with rfl | ⟨p, j, hp, hj, hb⟩
  · exact ⟨Nat.le_refl _, h1.lt⟩
  · have e := blk_at hb
    have hlo := loR_ge h2 p (by omega) (by omega)
    have h0 := (h2.rows p hp hp).l0
    have hi := gg_in h2 hp hj
    have hl := (h2.rows p hp hp).lt
    omega

theorem kkF_bound (t : Tab) (k : Int) (R : Nat) (h : ∀ p j, p < R → j < 6 → t.n p j ≤ 1048576) : ∀ p, p ≤ R → kkF t k p ≤ k + (p : Int) * 15728642 := by
  intro p
  induction p with
  | zero => intro _; simp [kkF]
  | succ p ih =>
    intro hp
    have h1 := ih (by omega)
    have n0 := h p 0 (by omega) (by omega)
    have n1 := h p 1 (by omega) (by omega)
    have n2 := h p 2 (by omega) (by omega)
    have n3 := h p 3 (by omega) (by omega)
    have n4 := h p 4 (by omega) (by omega)
    have n5 := h p 5 (by omega) (by omega)
    simp only [kkF, offF, kR]
    omega
theorem lnR_le {r : MRoute} (h : LensR r) (j : Nat) (hj : j < 6) : lnR r j ≤ 1048576 := by
  rcases six hj with rfl | rfl | rfl | rfl | rfl | rfl
  · exact h.steps
  · exact h.lies
  · exact h.crosses
  · exact h.parts
  · exact h.over
  · exact h.flanks
theorem ktF_bound (n : Nat → Nat) (k : Int) (R : Nat) (h : ∀ p, p < R → n p ≤ 300) : ∀ p, p ≤ R → ktF n k p ≤ k + (p : Int) * 300 := by
  intro p
  induction p with
  | zero => intro _; simp [ktF]
  | succ p ih => intro hp; have := ih (by omega); have := h p (by omega); simp only [ktF]; omega

theorem tableF_len (rs : List MRoute) : (tableF rs).length ≤ 300 ∧ ∀ i (h : i < (tableF rs).length), (tableF rs)[i].length ≤ 300 := by
  by_cases h : 300 < rs.length
  · have e : tableF rs = [] := by unfold tableF; rw [if_pos h]
    rw [e]
    exact ⟨by simp, fun i h => absurd h (by simp)⟩
  · have e : tableF rs = rs.map fun a => rs.map (exclF a) := by unfold tableF; rw [if_neg h]
    rw [e]
    exact ⟨by rw [List.length_map]; omega, fun i hi => by rw [List.getElem_map, List.length_map]; omega⟩

end Go.Proofs.Ytmkdgnmmebldgab
