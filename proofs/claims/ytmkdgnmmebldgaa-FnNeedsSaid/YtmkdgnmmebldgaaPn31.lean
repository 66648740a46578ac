import Derived.Test.YtmkdgnmmebldgaaPn26
import Derived.Laws.AppendOwn
namespace Go.Proofs.Ytmkdgnmmebldgaa
open Go.RowKit Go.Deep
theorem run_append_zeros {P : Program} (w : World) (base : Nat) (t u ty e : TypeId) (i : TypeInfo) (z : Value) (ht : P.underlying t = some (.slice e)) (hu : P.underlying u = some (.int .i64)) (hi : P.info? e = some i) (hz : i.zero = some z)
    (hzs : z.cells.size = i.size) (hsz : 0 < i.size) (h1 : ∀ u ∈ (Builtin.zeroCells z.cells 60).toList, u.oneCell' = true) (hbb : i.bytes ≤ 1000)
    (g cap n : Nat) (xs : List Value) (hown : w.ownsRow base e i.size (.slice (some ⟨g, 0, none⟩) n cap) n xs) (h63 : n + 60 ≤ maxLen) (hbytes : (n + 60) * i.bytes ≤ 140737488355328) (hbase : base ≤ w.heap.size) :
    ∃ x' y' w', (Builtin.append_ #[t, u] ty #[.slice (some ⟨g, 0, none⟩) n cap, .int .i64 60]).run P w = .ok (.slice x' (n + 60) y') w' ∧ w'.ownsRow base e i.size (.slice x' (n + 60) y') (n + 60) (xs ++ (Builtin.zeroCells z.cells 60).toList) ∧ w.grownBy w' (some g) := by
  have hsmall : n + 60 ≤ 9223372036854775807 := by simp only [maxLen] at h63; omega
  obtain ⟨news, hnews⟩ : ∃ news, (Builtin.zeroCells z.cells 60).toList = news := ⟨_, rfl⟩
  have hnewsA : Builtin.zeroCells z.cells 60 = news.toArray := by rw [← hnews]
  rw [hnews] at h1 ⊢
  have hl : news.length = 60 * i.size := by rw [← hnews, Array.length_toList, size_zeroCells, hzs]
  have hlen : (xs ++ news).length = (n + 60) * i.size := by rw [List.length_append, hown.1, hl, Nat.add_mul]
  have hw : IntKind.i64.wrap 60 = 60 := by decide
  have h48a : ¬ (281474976710656 : Int) < 60 * (i.bytes : Int) := by omega
  have hnz : ¬ 60 * i.size = 0 := by omega
  rcases hown.2 with ⟨h, _⟩ | ⟨g', cap', cur, h, hbg, hg, hnc, hcm, hcs, htake⟩
  · cases h
  · cases h
    by_cases hroom : n + 60 ≤ cap
    · have hfit : n * i.size + news.length ≤ cur.size := by rw [hl, hcs, ← Nat.add_mul]; exact Nat.mul_le_mul_right _ hroom
      have hst := run_storeCells_at P g (n * i.size) e news 0 cur w hg (by simpa using hfit) h1
      simp only [Nat.add_zero] at hst
      refine ⟨some ⟨g, 0, none⟩, cap, w.setRow g (cur.toList.take (n * i.size) ++ news ++ cur.toList.drop (n * i.size + news.length)).toArray, ?_, ⟨hlen, .inr ⟨g, cap, _, rfl, hbg, setRow_heap w g cur _ e _ hg, hroom, hcm, ?_, ?_⟩⟩, ⟨rfl, rfl, rfl, by simp, fun k _ hk => setRow_other w g k _ (fun e => hk (by simp [e]))⟩⟩
      · simp [Builtin.append_, run_underlying ht, run_underlying hu, sizeOf, typeInfo, zeroValue, hi, hz, asInt, asIntOf, hw, h48a, hnz, hroom, Addr.add_lit, hnewsA, hst]
      · simp only [List.size_toArray, List.length_append, List.length_take, List.length_drop, Array.length_toList]
        omega
      · rw [htake, ← hlen]
        exact List.take_left
    · have holds : ∀ j u, xs[j]? = some u → w.cell? ((⟨g, 0, none⟩ : Addr).add j) = some u := hown.cells (g := g) rfl
      have hfo := run_firstCells_some (P := P) w.drew i.size n ⟨g, 0, none⟩ n cap xs hown.1 (by simpa using holds)
      have h48' : ¬ (281474976710656 < Builtin.nextslicecap (n + 60) cap * i.bytes) := by have := growslice_fits (need := n + 60) (old := cap) (by omega) hbytes; omega
      have hge := grownCap_ge w (n + 60) cap e
      have hcm : grownCap w (n + 60) cap e ≤ maxLen := grownCap_le_maxLen w (n + 60) cap e h63
      refine ⟨some ⟨w.heap.size, 0, none⟩, grownCap w (n + 60) cap e, w.drew.alloc (.cells (xs.toArray ++ news.toArray ++ Builtin.zeroCells z.cells (grownCap w (n + 60) cap e - (n + 60))) e), ?_, ⟨hlen, .inr ⟨w.heap.size, _, _, rfl, hbase, heap_alloc_new w.drew _, hge, hcm, ?_, ?_⟩⟩, ⟨rfl, rfl, rfl, by simp, fun k hk _ => Below.heap_alloc w.drew _ k hk⟩⟩
      · simp [Builtin.append_, run_underlying ht, run_underlying hu, sizeOf, typeInfo, zeroValue, hi, hz, asInt, asIntOf, hw, h48a, hnz, hroom, h48', Question.forced, hfo, hnewsA, newRow, grownCap]
        rw [if_neg (show ¬ (9223372036854775807 : Int) < (n : Int) + max 60 0 by omega)]
        congr 2
        congr 1
        apply Array.ext'
        simp [List.append_assoc]
      · simp only [Array.size_append, List.size_toArray, size_zeroCells, hzs, hown.1, hl, ← Nat.add_mul]
        congr 1
        omega
      · simp only [Array.toList_append, List.append_assoc]
        rw [← List.append_assoc, ← hlen]
        exact List.take_left
theorem wpList_zeros {P : Program} {w : World} {ops : Array Oper} {rest : List Oper} {o : Oper} {a : Act} {Q : Exit → Act → World → Prop} (hgd : o.guard = none) (s x : Operand) (t u : TypeId)
    (ho : o.op = .call { callee := .builtin .append, args := #[s, x], argTypes := #[t, u] })
    (base : Nat) (e : TypeId) (z : Value) (size bytes : Nat) (ht : P.underlying t = some (.slice e)) (hu : P.underlying u = some (.int .i64)) (hi : (P.info? e).map (fun i => (i.zero, i.size, i.bytes)) = some (some z, size, bytes))
    (hzs : z.cells.size = size) (hsz : 0 < size) (h1 : ∀ u ∈ (Builtin.zeroCells z.cells 60).toList, u.oneCell' = true) (hbb : bytes ≤ 1000)
    (g cap n : Nat) (xs : List Value) (hs : a.eval s = .slice (some ⟨g, 0, none⟩) n cap) (hx : a.eval x = .int .i64 60) (hown : w.ownsRow base e size (.slice (some ⟨g, 0, none⟩) n cap) n xs) (h63 : n + 60 ≤ maxLen) (hbytes : (n + 60) * bytes ≤ 140737488355328) (hbase : base ≤ w.heap.size)
    (h : ∀ x' y' w', w'.ownsRow base e size (.slice x' (n + 60) y') (n + 60) (xs ++ (Builtin.zeroCells z.cells 60).toList) → w.grownBy w' (some g) → wpList P ops Q rest (a.put o.dst (.slice x' (n + 60) y')) w') : wpList P ops Q (o :: rest) a w := by
  obtain ⟨i, hi1, hi2, hi3, hi4⟩ := info_parts hi
  subst hi3 hi4
  obtain ⟨x', y', w', hr, h2, h3⟩ := run_append_zeros (P := P) w base t u o.type e i z ht hu hi1 hi2 hzs hsz h1 hbb g cap n xs hown h63 hbytes hbase
  refine wpList_plain hgd fun K hK => ?_
  unfold Oper.wp execOp
  simp only [ho, resolve, invoke, builtin, Sem.run_bind, Sem.run_pure, Result.andThen_ok, List.map_toArray, List.map_cons, List.map_nil, hs, hx, hr]
  exact hK _ _ (h x' y' w' h2 h3)
end Go.Proofs.Ytmkdgnmmebldgaa
