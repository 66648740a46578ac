import Derived.Test.YtmkdgnmmebldgaaMapsE
import Derived.Test.YtmkdgnmmebldgaaTNeeds
import Derived.Test.YtmkdgnmmebldgaaBMath
namespace Go.Proofs.Ytmkdgnmmebldgaa
open Go.RowKit Go.Deep Go.Maps
open Go.WideMaps (KeyLaw)

theorem Try.rowLie : (48 : TypeId) < Try.prog.types.size := of_decide_eq_true (by kernel_rfl)
theorem lawKL : KeyLaw Try.prog 48 := deep_law_laid Try.laidOutB (m := 2) (by omega) Try.rowLie (by kernel_rfl) (by rw [Try.underlying48])
theorem lawL : Keyed Try.prog 48 := Keyed.of_law lawKL
theorem Try.cellsLie : Try.prog.cellsOf 48 = 2 := by kernel_rfl
theorem Try.cellsIntL : Try.prog.cellsOf 3 = 1 := by kernel_rfl
theorem Try.keyTypeLie : Try.prog.keyType 48 = true := by kernel_rfl

theorem keyL {p s : Int} (hp : (Lit.int .i64 p).wf = true) (hs : (Lit.int .i64 s).wf = true) : ∃ kl, keyOf Try.prog 48 (.agg #[.int .i64 p, .int .i64 s]) = some kl := by
  have hn : ∃ m, Try.prog.types.size = m + 1 := by
    have h := Try.rowLie
    revert h
    generalize Try.prog.types.size = n
    intro h
    cases n with
    | zero => exact absurd h (Nat.not_lt_zero _)
    | succ m => exact ⟨m, rfl⟩
  obtain ⟨m, hm⟩ := hn
  unfold keyOf
  simp only [Try.underlying48]
  rw [if_pos (by simp [Try.keyTypeLie, Value.formed, Try.underlying48, Try.cellsLie]), hm]
  unfold Program.keyLits
  simp only [Try.underlying48, Value.cells]
  rw [if_pos (by rw [Try.cellsLie]; exact ⟨rfl, by simp⟩)]
  simp [Try.cellsIntL, Program.keyLits, Try.underlying3, hp, hs]

/-- How often a Lie stands in a list. -/
def standsL (es : List MEnd) (p s : Int) : Nat := es.countP fun e => e.piece == p && e.side == s
def fL (es : List MEnd) : Value → Int
  | .agg ⟨[.int .i64 p, .int .i64 s]⟩ => standsL es p s
  | _ => 0
theorem fL_at (es : List MEnd) (p s : Int) : fL es (.agg #[.int .i64 p, .int .i64 s]) = standsL es p s := rfl
theorem fL_nil : fL [] = fun _ => 0 := by
  funext v
  unfold fL
  split <;> rfl
theorem standsL_snoc (es : List MEnd) (e : MEnd) (p s : Int) : standsL (es ++ [e]) p s = standsL es p s + if (e.piece == p && e.side == s) = true then 1 else 0 := by
  unfold standsL
  rw [List.countP_append, List.countP_singleton]
theorem fL_same (es : List MEnd) (p s : Int) : fL (es ++ [⟨p, s⟩]) (.agg #[.int .i64 p, .int .i64 s]) = fL es (.agg #[.int .i64 p, .int .i64 s]) + 1 := by
  rw [fL_at, fL_at, standsL_snoc, if_pos (by simp)]
  simp
theorem fL_other (es : List MEnd) (p s : Int) : ∀ k, k ≠ .agg #[.int .i64 p, .int .i64 s] → fL (es ++ [⟨p, s⟩]) k = fL es k := by
  intro k hk
  unfold fL
  split
  · rename_i p' s'
    rw [standsL_snoc, if_neg]
    · simp
    · intro h
      simp at h
      apply hk
      rw [h.1, h.2]
  · rfl
theorem standsL_le (es : List MEnd) (p s : Int) : standsL es p s ≤ es.length := List.countP_le_length
theorem fL_bd (L : List MEnd) (k : Value) : 0 ≤ fL L k ∧ fL L k ≤ L.length := by
  unfold fL
  split
  · rename_i p s
    have := standsL_le L p s
    omega
  · omega
theorem standsL_met (out : List MEnd) (f : MFlank) : decide ((0 : Int) < (standsL out f.of f.lie : Nat)) = metL out f := by
  unfold metL standsL
  rw [Bool.eq_iff_iff, decide_eq_true_iff, List.any_eq_true]
  have h : (0 : Int) < ((List.countP (fun e => e.piece == f.of && e.side == f.lie) out : Nat) : Int) ↔ 0 < List.countP (fun e => e.piece == f.of && e.side == f.lie) out := by omega
  rw [h, List.countP_pos_iff]

def LMap (w : World) (b : Nat) (L : List MEnd) : Prop := CMap 48 w b L.length (fL L)
theorem LMap.below {w w' : World} {b : Nat} {L : List MEnd} (h : LMap w b L) (hb : Below w.heap.size w w') : LMap w' b L := CMap.below h hb
theorem LMap.made (w : World) : LMap (w.alloc (.map #[] 0)) w.heap.size [] := by
  have h := CMap.made 48 w
  rw [← fL_nil] at h
  exact h
theorem LMap.kept {w w' : World} {b : Nat} {L : List MEnd} (h : LMap w b L) (e : w'.heap[b]? = w.heap[b]?) : LMap w' b L := CMap.of_block h e

/-- What 'stands[l]++' does, each operation by itself. -/
theorem LMap.count {w : World} {b : Nat} {L : List MEnd} (h : LMap w b L) {p s : Int} (hp : (Lit.int .i64 p).wf = true) (hs : (Lit.int .i64 s).wf = true) (hn : L.length ≤ 100000000) :
    ∃ (c : Int) (v0 : Value) (st : Nat) (w1 w2 : World), 0 ≤ c ∧ c ≤ 100000000 ∧
      (Instr.lookup 122 (.map (some b)) (.agg #[.int .i64 p, .int .i64 s]) false).run Try.prog w = .ok (.int .i64 c) w ∧
      (Instr.mapEntry 122 (.map (some b)) (.agg #[.int .i64 p, .int .i64 s])).run Try.prog w = .ok (.tuple #[v0, .int .i64 st]) w1 ∧
      (Instr.lookup 122 (.map (some b)) (.agg #[.int .i64 p, .int .i64 s]) false).run Try.prog w1 = .ok (.int .i64 c) w1 ∧
      (Instr.entryStore 122 (.map (some b)) (.int .i64 st) (.int .i64 (c + 1))).run Try.prog w1 = .ok () w2 ∧ LMap w2 b (L ++ [⟨p, s⟩]) ∧ w.grownBy w2 (some b) := by
  obtain ⟨kl, hkey⟩ := keyL hp hs
  have hbd := fL_bd L (.agg #[.int .i64 p, .int .i64 s])
  have hlk := CMap.lookup h lawL Try.underlying122 hkey
  obtain ⟨v0, st, w1, w2, hme, hl1, hes, hM3, hg⟩ := CMap.entry h lawKL Try.underlying122 (by unfold maxLen; omega) hkey (fL L (.agg #[.int .i64 p, .int .i64 s]) + 1) (wf64 (by omega) (by omega)) (fL (L ++ [⟨p, s⟩])) (fL_same _ _ _) (fL_other _ _ _)
  exact ⟨_, v0, st, w1, w2, hbd.1, by omega, hlk, hme, hl1, hes, by unfold LMap; rw [List.length_append]; exact hM3, hg⟩
theorem LMap.look {w : World} {b : Nat} {L : List MEnd} (h : LMap w b L) {p s : Int} (hp : (Lit.int .i64 p).wf = true) (hs : (Lit.int .i64 s).wf = true) :
      (Instr.lookup 122 (.map (some b)) (.agg #[.int .i64 p, .int .i64 s]) false).run Try.prog w = .ok (.int .i64 (standsL L p s)) w := by
  obtain ⟨kl, hkey⟩ := keyL hp hs
  exact CMap.lookup h lawL Try.underlying122 hkey

end Go.Proofs.Ytmkdgnmmebldgaa
