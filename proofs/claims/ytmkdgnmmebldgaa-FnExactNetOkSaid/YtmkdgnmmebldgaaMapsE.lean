import Derived.Test.YtmkdgnmmebldgaaMaps
namespace Go.Proofs.Ytmkdgnmmebldgaa
open Go.RowKit Go.Maps
open Go.WideMaps (KeyLaw)
open Go.ChangeMaps (setBlock heap_setBlock_same)

theorem Try.laidOutB : laidOutB Try.prog = true := by kernel_rfl
theorem Try.rowEnd : (139 : TypeId) < Try.prog.types.size := of_decide_eq_true (by kernel_rfl)
theorem lawKE : KeyLaw Try.prog 139 := deep_law_laid Try.laidOutB (m := 2) (by omega) Try.rowEnd (by kernel_rfl) (by rw [Try.underlying139])
theorem lawE : Keyed Try.prog 139 := Keyed.of_law lawKE
theorem Try.cellsEnd : Try.prog.cellsOf 139 = 2 := by kernel_rfl
theorem Try.cellsInt : Try.prog.cellsOf 3 = 1 := by kernel_rfl
theorem Try.keyTypeEnd : Try.prog.keyType 139 = true := by kernel_rfl

theorem keyE {p s : Int} (hp : (Lit.int .i64 p).wf = true) (hs : (Lit.int .i64 s).wf = true) : ∃ kl, keyOf Try.prog 139 (.agg #[.int .i64 p, .int .i64 s]) = some kl := by
  have hn : ∃ m, Try.prog.types.size = m + 1 := by
    have h := Try.rowEnd
    revert h
    generalize Try.prog.types.size = n
    intro h
    cases n with
    | zero => exact absurd h (Nat.not_lt_zero _)
    | succ m => exact ⟨m, rfl⟩
  obtain ⟨m, hm⟩ := hn
  unfold keyOf
  simp only [Try.underlying139]
  rw [if_pos (by simp [Try.keyTypeEnd, Value.formed, Try.underlying139, Try.cellsEnd]), hm]
  unfold Program.keyLits
  simp only [Try.underlying139, Value.cells]
  rw [if_pos (by rw [Try.cellsEnd]; exact ⟨rfl, by simp⟩)]
  simp [Try.cellsInt, Program.keyLits, Try.underlying3, hp, hs]

theorem setBlock_twice (w : World) (b : Nat) (x y : Obj) : setBlock (setBlock w b x) b y = setBlock w b y := by
  unfold setBlock
  simp

theorem ok_world {α : Type} {a a' : α} {w w' : World} (h : Result.ok a w = Result.ok a' w') : w = w' := by injection h
theorem ok_value {α : Type} {a a' : α} {w w' : World} (h : Result.ok a w = Result.ok a' w') : a = a' := by injection h
theorem int_value {a b : Int} (h : Value.int .i64 a = Value.int .i64 b) : a = b := by injection h

/-- The entry is made or found, then stored into: as one update does it. -/
theorem entry_core {H : Type} {P : Program} {kt it t : TypeId} {w : World} {b : Nat} {es : Array MapEntry} {clock : Nat} {R : Value → Option (DataW H × List MemPlace)} (K : KeyLaw P kt) (ht : P.underlying t = some (.map kt it)) {z : Value} (hz : ∀ u : World, (zeroValue it).run P u = .ok z u)
    (hb : w.heap[b]? = some (.map es clock)) (F : WideElems.Fit P kt R es clock) {key : Value} {kl : Lit} (hkey : keyOf P kt key = some kl) :
    ∃ (v0 : Value) (st : Nat) (w1 : World), (Instr.mapEntry t (.map (some b)) key).run P w = .ok (.tuple #[v0, goInt st]) w1 ∧
      (w1.heap[b]? = w.heap[b]? ∨ (Instr.mapUpdate t (.map (some b)) key z).run P w = .ok () w1 ∧ (Instr.lookup t (.map (some b)) key false).run P w = .ok z w) ∧
      ∀ val, ∃ w2, (Instr.entryStore t (.map (some b)) (goInt st) val).run P w1 = .ok () w2 ∧ (Instr.mapUpdate t (.map (some b)) key val).run P w = .ok () w2 := by
  obtain ⟨v0, st, es1, clock1, hme, _, hst⟩ := WideElems.entry_then_store K ht hz hb F hkey
  refine ⟨v0, st, setBlock w b (.map es1 clock1), hme, ?_, fun val => ?_⟩
  · rcases K.find w hkey es.toList F.keys with ⟨g1, g2⟩ | ⟨j, e0, g1, g2, g3⟩
    · right
      have r1 : (Instr.mapEntry t (.map (some b)) key).run P w = .ok (.tuple #[z, goInt clock]) (setBlock w b (.map (es.push ⟨key, z, clock⟩) (clock + 1))) := by
        simp [Instr.mapEntry, run_underlying ht, MapKept.run_getObj_map hb, K.check w false hkey, g1, hz, MapKept.run_setObj_map _ hb, Result.andThen, setBlock]
      have r2 : (Instr.mapUpdate t (.map (some b)) key z).run P w = .ok () (setBlock w b (.map (es.push ⟨key, z, clock⟩) (clock + 1))) := by
        simp [Instr.mapUpdate, run_underlying ht, MapKept.run_getObj_map hb, K.check w false hkey, g1, MapKept.run_setObj_map _ hb, Result.andThen, setBlock]
      have e1 := ok_world (r1.symm.trans hme)
      rw [← e1]
      refine ⟨r2, ?_⟩
      simp [Instr.lookup, run_underlying ht, MapKept.run_getObj_map hb, K.check w es.isEmpty hkey, g1, hz, Result.andThen]
    · left
      have hj : es[j]? = some e0 := by simpa using g2
      have hsame : es.modify j (fun e => { e with key := key }) = es := by
        apply Array.ext'
        rw [Array.toList_modify]
        apply List.ext_getElem?
        intro i
        rw [List.getElem?_modify]
        by_cases e : j = i
        · subst e
          rw [g2]
          simp [← g3]
        · simp [e]
      have r1 : (Instr.mapEntry t (.map (some b)) key).run P w = .ok (.tuple #[e0.val, goInt e0.born]) (setBlock w b (.map es clock)) := by
        simp [Instr.mapEntry, run_underlying ht, MapKept.run_getObj_map hb, K.check w false hkey, g1, hj, g3, K.stays w hkey, hsame, MapKept.run_setObj_map _ hb, Result.andThen, setBlock]
      have e1 := ok_world (r1.symm.trans hme)
      rw [← e1, heap_setBlock_same hb, hb]
  · obtain ⟨es', clock', hes, hmu⟩ := hst (setBlock w b (.map es1 clock1)) val (heap_setBlock_same hb _)
    rw [setBlock_twice] at hes
    exact ⟨_, hes, hmu⟩

theorem CMap.mono {kt : TypeId} {w : World} {b n n' : Nat} {f : Value → Int} (h : CMap kt w b n f) (hn : n ≤ n') : CMap kt w b n' f := by
  obtain ⟨D, h1, h2⟩ := h
  exact ⟨D, h1.mono hn, h2⟩

theorem CMap.entry {kt t : TypeId} {w : World} {b n : Nat} {f : Value → Int} (h : CMap kt w b n f) (K : KeyLaw Try.prog kt) (ht : Try.prog.underlying t = some (.map kt 3)) (hn : n < maxLen) {key : Value} {kl : Lit} (hkey : keyOf Try.prog kt key = some kl)
    (v : Int) (hv : (Lit.int .i64 v).wf = true) (f' : Value → Int) (h1 : f' key = v) (h2 : ∀ k, k ≠ key → f' k = f k) :
    ∃ (v0 : Value) (st : Nat) (w1 w2 : World), (Instr.mapEntry t (.map (some b)) key).run Try.prog w = .ok (.tuple #[v0, .int .i64 st]) w1 ∧
      (Instr.lookup t (.map (some b)) key false).run Try.prog w1 = .ok (.int .i64 (f key)) w1 ∧
      (Instr.entryStore t (.map (some b)) (.int .i64 st) (.int .i64 v)).run Try.prog w1 = .ok () w2 ∧ CMap kt w2 b (n + 1) f' ∧ w.grownBy w2 (some b) := by
  have Kd := Keyed.of_law K
  have hlook := h.lookup Kd ht hkey
  obtain ⟨w', hup, hC, hg⟩ := h.update Kd ht hn hkey v hv f' h1 h2
  have h0 := h
  obtain ⟨D, ⟨es, clock, hb, F, hs, hD⟩, hm, h3⟩ := h
  obtain ⟨v0, st, w1, hme, hor, hst⟩ := entry_core K ht zeroI hb F hkey
  obtain ⟨w2, hes, hmu⟩ := hst (.int .i64 v)
  have e2 := ok_world (hmu.symm.trans hup)
  refine ⟨v0, st, w1, w', hme, ?_, e2 ▸ hes, hC, hg⟩
  have hC1 : CMap kt w1 b (n + 1) f := by
    rcases hor with e | ⟨r2, r3⟩
    · exact (h0.of_block e).mono (Nat.le_succ n)
    · have hz : f key = 0 := int_value (ok_value (hlook.symm.trans r3))
      obtain ⟨w3, hup3, hC3, _⟩ := h0.update Kd ht hn hkey 0 (by decide) f hz (fun _ _ => rfl)
      have e3 := ok_world (hup3.symm.trans r2)
      exact e3 ▸ hC3
  exact hC1.lookup Kd ht hkey

end Go.Proofs.Ytmkdgnmmebldgaa
