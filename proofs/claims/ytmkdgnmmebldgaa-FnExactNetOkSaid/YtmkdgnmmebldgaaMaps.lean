import Derived.Test.YtmkdgnmmebldgaaMath
import Derived.Maps.Own
import Derived.Maps.OwnOps
import Derived.Maps.Views
import Derived.WideKeyEntry
import Derived.DeepKeys4
import Derived.StringKeys
namespace Go.Proofs.Ytmkdgnmmebldgaa
open Go.RowKit Go.Maps
open Go.ChangeMaps (setBlock heap_setBlock_same)

theorem zeroI (w : World) : (zeroValue 3).run Try.prog w = .ok (.int .i64 0) w := by kernel_rfl

/-- Block b is a map of numbers that reads as f says. -/
def CMap (kt : TypeId) (w : World) (b n : Nat) (f : Value → Int) : Prop :=
  ∃ D : DataW Unit, w.ownsMap Try.prog kt (plainElem Try.prog 3) b n D ∧ IsMap D ∧ ∀ key kl, keyOf Try.prog kt key = some kl → D.atKey kl (.lit (.int .i64 0)) = .lit (.int .i64 (f key))

theorem CMap.made (kt : TypeId) (w : World) : CMap kt (w.alloc (.map #[] 0)) w.heap.size 0 (fun _ => 0) :=
  ⟨.map [], World.ownsMap_made w _ _ _, isMap_empty, fun _ _ _ => rfl⟩

theorem CMap.of_block {kt : TypeId} {w w' : World} {b n : Nat} {f : Value → Int} (h : CMap kt w b n f) (e : w'.heap[b]? = w.heap[b]?) : CMap kt w' b n f := by
  obtain ⟨D, ⟨es, clock, hb, r⟩, h2, h3⟩ := h
  exact ⟨D, ⟨es, clock, e.trans hb, r⟩, h2, h3⟩

theorem CMap.lt {kt : TypeId} {w : World} {b n : Nat} {f : Value → Int} (h : CMap kt w b n f) : b < w.heap.size := by
  obtain ⟨D, h1, _⟩ := h
  exact h1.lt

theorem CMap.below {kt : TypeId} {w w' : World} {b n : Nat} {f : Value → Int} (h : CMap kt w b n f) (hb : Below w.heap.size w w') : CMap kt w' b n f := h.of_block (hb.block _ h.lt)

theorem CMap.lookup {kt t : TypeId} {w : World} {b n : Nat} {f : Value → Int} (h : CMap kt w b n f) (K : Keyed Try.prog kt) (ht : Try.prog.underlying t = some (.map kt 3)) {key : Value} {kl : Lit} (hkey : keyOf Try.prog kt key = some kl) :
    (Instr.lookup t (.map (some b)) key false).run Try.prog w = .ok (.int .i64 (f key)) w := by
  obtain ⟨D, h1, _, h3⟩ := h
  obtain ⟨c, hrun, hat, _⟩ := h1.lookup_int K ht Try.underlying3 (zeroI w) hkey
  have e := (h3 key kl hkey).symm.trans hat
  simp only [DataW.lit.injEq, Lit.int.injEq, true_and] at e
  rw [hrun, e]

theorem CMap.update {kt t : TypeId} {w : World} {b n : Nat} {f : Value → Int} (h : CMap kt w b n f) (K : Keyed Try.prog kt) (ht : Try.prog.underlying t = some (.map kt 3)) (hn : n < maxLen) {key : Value} {kl : Lit} (hkey : keyOf Try.prog kt key = some kl)
    (v : Int) (hv : (Lit.int .i64 v).wf = true) (f' : Value → Int) (h1 : f' key = v) (h2 : ∀ k, k ≠ key → f' k = f k) :
    ∃ w', (Instr.mapUpdate t (.map (some b)) key (.int .i64 v)).run Try.prog w = .ok () w' ∧ CMap kt w' b (n + 1) f' ∧ w.grownBy w' (some b) := by
  obtain ⟨D, ho, hm, h3⟩ := h
  obtain ⟨w', hrun, hown, hg⟩ := ho.update K ht hn hkey (plainElem_int Try.underlying3 hv)
  refine ⟨w', hrun, ⟨_, hown, hm.put _ _, fun k l hk => ?_⟩, hg⟩
  by_cases e : k = key
  · subst e
    have : l = kl := by rw [hk] at hkey; injection hkey
    subst this
    rw [atKey_put_same hm (K.key hk), h1]
  · have hl : l ≠ kl := by
      intro el
      rw [el] at hk
      exact e (K.inj hk hkey)
    rw [atKey_put_other hl, h3 k l hk, h2 k e]

theorem lawS : Keyed Try.prog 9 := string_keyed Try.underlying9
theorem keyS {s : ByteArray} (h : s.size ≤ maxLen) : keyOf Try.prog 9 (.string s) = some (.string s.data.toList) := Go.WideMaps.keyOf_string_mk Try.underlying9 h

/-- How often a name stands among names. -/
def cntS (l : List ByteArray) (s : ByteArray) : Nat := l.countP fun t => decide (t = s)
def fS (l : List ByteArray) : Value → Int
  | .string s => cntS l s
  | _ => 0
theorem fS_nil : fS [] = fun _ => 0 := by
  funext v
  cases v <;> rfl
theorem fS_same (l : List ByteArray) (s : ByteArray) : fS (l ++ [s]) (.string s) = cntS l s + 1 := by
  show ((cntS (l ++ [s]) s : Nat) : Int) = _
  unfold cntS
  rw [List.countP_append]
  simp
theorem fS_other (l : List ByteArray) (s : ByteArray) : ∀ k, k ≠ .string s → fS (l ++ [s]) k = fS l k := by
  intro k hk
  cases k <;> try rfl
  rename_i t
  have hne : ¬ s = t := fun e => hk (by rw [e])
  show ((cntS (l ++ [s]) t : Nat) : Int) = ((cntS l t : Nat) : Int)
  unfold cntS
  rw [List.countP_append]
  simp [hne]
theorem cntS_le (l : List ByteArray) (s : ByteArray) : cntS l s ≤ l.length := List.countP_le_length
theorem cntS_zero (l : List ByteArray) (s : ByteArray) : cntS l s = 0 ↔ aheadB l s = false := by
  unfold cntS aheadB
  rw [List.countP_eq_zero, List.any_eq_false]

theorem wf64 {v : Int} (h0 : 0 ≤ v) (h1 : v ≤ 1000000000) : (Lit.int .i64 v).wf = true := WalkArith.wf_i64 (by omega)

end Go.Proofs.Ytmkdgnmmebldgaa
