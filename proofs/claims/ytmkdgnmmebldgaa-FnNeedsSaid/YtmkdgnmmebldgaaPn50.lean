import Derived.Test.YtmkdgnmmebldgaaPn29
import Derived.Test.YtmkdgnmmebldgaaPn49
import Derived.Test.YtmkdgnmmebldgaaPn37
import Derived.Test.YtmkdgnmmebldgaaPn47
import Derived.Deep.DeepCutAuto
import Derived.Deep.CutBlock
namespace Go.Proofs.Ytmkdgnmmebldgaa
open Go.RowKit Go.Deep
theorem RouteCell.get {w : World} {N : Nat} {d : RAddr} {r : MRoute} (h : RouteCell w N 0 d r) : ∀ i u, (encR (d, r))[i]? = some u → w.cell? ⟨N, i, none⟩ = some u
  | 0, u, hu => by cases hu; exact h.k0
  | 1, u, hu => by cases hu; exact h.k1
  | 2, u, hu => by cases hu; exact h.k2
  | 3, u, hu => by cases hu; exact h.k3
  | 4, u, hu => by cases hu; exact h.k4
  | 5, u, hu => by cases hu; exact h.k5
  | 6, u, hu => by cases hu; exact h.k6
  | 7, u, hu => by cases hu; exact h.k7
  | _ + 8, u, hu => by cases hu
theorem RouteCell.of {w : World} {N : Nat} {d : RAddr} {r : MRoute} (h : ∀ i u, (encR (d, r))[i]? = some u → w.cell? ⟨N, i, none⟩ = some u) : RouteCell w N 0 d r :=
  ⟨h 0 _ rfl, h 1 _ rfl, h 2 _ rfl, h 3 _ rfl, h 4 _ rfl, h 5 _ rfl, h 6 _ rfl, h 7 _ rfl⟩
theorem RouteCell.set {w : World} {N : Nat} {d d' : RAddr} {r r' : MRoute} (h : RouteCell w N 0 d r) (j : Nat) (_hj : j < 8) (v : Value) (he : encR (d', r') = (encR (d, r)).set j v) : RouteCell (w.setCell ⟨N, j, none⟩ v) N 0 d' r' := by
  refine RouteCell.of (fun i u hu => ?_)
  rw [he, List.getElem?_set] at hu
  split at hu
  · rename_i e
    subst e
    split at hu
    · cases hu
      obtain ⟨x, hx⟩ : ∃ x, (encR (d, r))[j]? = some x := ⟨_, List.getElem?_eq_getElem (by rename_i h9; exact h9)⟩
      exact World.cell?_setCell_same _ _ _ (h.get j x hx)
    · cases hu
  · rename_i e
    rw [World.cell?_setCell_other _ _ _ _ (by intro e2; injection e2 with _ e2; exact e e2)]
    exact h.get i u hu
structure LF (w : World) (B : Nat) (d : RAddr) (r : MRoute) : Prop where
  o1 : w.ownsRow B 48 2 (.slice d.a1 r.lies.length d.c1) r.lies.length (flatE r.lies)
  o5 : w.ownsRow B 57 4 (.slice d.a5 r.flanks.length d.c5) r.flanks.length (flatF r.flanks)
  l1 : r.lies.length ≤ 100000
  l5 : r.flanks.length ≤ 100000
  wf : WfR r
theorem LF.keep {w w' : World} {B : Nat} {d : RAddr} {r : MRoute} (h : LF w B d r) (hk : ∀ b, B ≤ b → b < w.heap.size → (IsT w 48 b ∨ IsT w 57 b) → w'.heap[b]? = w.heap[b]?) : LF w' B d r :=
  ⟨owns_kept2 h.o1 (fun b hb => hk b (h.o1.lt b hb).1 (h.o1.lt b hb).2 (Or.inl (owns_isT h.o1 hb))), owns_kept2 h.o5 (fun b hb => hk b (h.o5.lt b hb).1 (h.o5.lt b hb).2 (Or.inr (owns_isT h.o5 hb))), h.l1, h.l5, h.wf⟩
theorem LF.to {w : World} {B : Nat} {d d' : RAddr} {r r' : MRoute} (h : LF w B d r) (e1 : r'.lies = r.lies) (e5 : r'.flanks = r.flanks) (f1 : d'.a1 = d.a1) (f2 : d'.c1 = d.c1) (f3 : d'.a5 = d.a5) (f4 : d'.c5 = d.c5) : LF w B d' r' := by
  refine ⟨?_, ?_, by rw [e1]; exact h.l1, by rw [e5]; exact h.l5, ⟨fun i hi => ?_, fun i hi => ?_⟩⟩
  · rw [e1, f1, f2]; exact h.o1
  · rw [e5, f3, f4]; exact h.o5
  · have h2 := h.wf.lies i (by rw [← e1]; exact hi)
    simp only [e1]; exact h2
  · have h2 := h.wf.flanks i (by rw [← e5]; exact hi)
    simp only [e5]; exact h2
def Bn (W : World) (C N B : Nat) (ca : Option Addr) (cc : Nat) (bs : List Int) (top : Nat) (wx : World) : Prop :=
  ∃ d r at', RouteCell wx N 0 d r ∧ LF wx B d r ∧ at' ≤ top ∧ Cur wx C ca cc bs at' ∧ Only (fun k => k = C ∨ k = N ∨ B ≤ k) W wx
section
variable {W w w' : World} {C N B : Nat} {ca : Option Addr} {cc : Nat} {bs : List Int} {at_ top : Nat} {d d' : RAddr} {r r' : MRoute}
theorem Bn.mk' (hr : RouteCell w' N 0 d r) (hl : LF w' B d r) (hc : Cur w C ca cc bs at_) (hlow : LowB C ca bs) (hCN : C < N) (hNB : N < B) (ho : Only (fun k => k = C ∨ k = N ∨ B ≤ k) W w) (hat : at_ ≤ top) (hgr : Only (fun k => k = N ∨ B ≤ k) w w') : Bn W C N B ca cc bs top w' :=
  ⟨d, r, at_, hr, hl, hat, hc.above hlow (fun k hk => hgr.block k (by have := hc.lt; omega) (by omega)), ho.trans (hgr.mono (fun k hk => Or.inr hk))⟩
theorem Bn.put (hr : RouteCell w N 0 d r) (hl : LF w B d r) (hc : Cur w C ca cc bs at_) (hlow : LowB C ca bs) (hCN : C < N) (hNB : N < B) (ho : Only (fun k => k = C ∨ k = N ∨ B ≤ k) W w) (hat : at_ ≤ top) (j : Nat) (hj : j < 8) (v : Value) (he : encR (d', r') = (encR (d, r)).set j v) (e1 : r'.lies = r.lies) (e5 : r'.flanks = r.flanks) (f1 : d'.a1 = d.a1) (f2 : d'.c1 = d.c1) (f3 : d'.a5 = d.a5) (f4 : d'.c5 = d.c5) : Bn W C N B ca cc bs top (w.setCell ⟨N, j, none⟩ v) :=
  Bn.mk' (d := d') (r := r') (hr.set j hj v he) ((hl.keep (fun b h1 _ _ => Below.heap_setCell _ _ _ _ (show b ≠ N by omega))).to e1 e5 f1 f2 f3 f4) hc hlow hCN hNB ho hat (Only.setCell (S := fun k => k = N ∨ B ≤ k) (Only.refl _ _) (p := ⟨N, j, none⟩) (Or.inl (Or.inl rfl)) _)
theorem Bn.row {e s n y : Nat} {x : Option Addr} {xs : List Value} (hr : RouteCell w N 0 d r) (hl : LF w B d r) (hc : Cur w C ca cc bs at_) (hlow : LowB C ca bs) (hCN : C < N) (hNB : N < B) (ho : Only (fun k => k = C ∨ k = N ∨ B ≤ k) W w) (hat : at_ ≤ top) (hrow : w.ownsRow B e s (.slice x n y) n xs) (h1 : e ≠ 48) (h5 : e ≠ 57) (hg : w.grownBy w' (Value.slice x n y).ownBlock) : Bn W C N B ca cc bs top w' := by
  have hN : w'.heap[N]? = w.heap[N]? := hg.block N (cellLt hr.k0) (fun e => by have := (hrow.lt N e.symm).1; omega)
  refine Bn.mk' (hr.kept hN) (hl.keep (fun b _ h2 h3 => hg.block b h2 (fun e => ?_))) hc hlow hCN hNB ho hat (Only.grown hg (fun b e => Or.inr (hrow.lt b e).1))
  rcases h3 with h3 | h3
  · exact h3.ne hrow h1 e.symm
  · exact h3.ne hrow h5 e.symm
end
theorem owns_addrB {w : World} {B e s n y : Nat} {x : Option Addr} {xs : List Value} (h : w.ownsRow B e s (.slice x n y) n xs) (h0 : 0 < n) : ∃ g, x = some ⟨g, 0, none⟩ := by
  rcases h.2 with ⟨_, h2⟩ | ⟨g, cap, cur, h1, _⟩
  · omega
  · injection h1 with h1
    exact ⟨g, h1⟩
theorem owns_slice {w : World} {B e s n : Nat} {v : Value} {xs : List Value} (h : w.ownsRow B e s v n xs) : ∃ x y, v = .slice x n y := by
  rcases h.2 with ⟨h1, h2⟩ | ⟨g, cap, cur, h1, _⟩
  · subst h2; exact ⟨_, _, h1⟩
  · exact ⟨_, _, h1⟩
theorem wf_nat {n : Int} (h0 : -1000000000 ≤ n) (h1 : n ≤ 1000000000) : (Lit.int .i64 n).wf = true := by
  have e1 : IntKind.i64.min = -9223372036854775808 := by decide
  have e2 : IntKind.i64.max = 9223372036854775807 := by decide
  simp only [Lit.wf, e1, e2]
  simp
  omega
section
variable {W w w' : World} {C N B : Nat} {ca : Option Addr} {cc : Nat} {bs : List Int} {at_ top : Nat} {d : RAddr} {r : MRoute}
theorem Bn.setL (hr : RouteCell w N 0 d r) (hl : LF w B d r) (hc : Cur w C ca cc bs at_) (hlow : LowB C ca bs) (hCN : C < N) (hNB : N < B) (ho : Only (fun k => k = C ∨ k = N ∨ B ≤ k) W w) (hat : at_ ≤ top) {g q : Nat} (ha : d.a1 = some ⟨g, 0, none⟩) (hq : q < r.lies.length) (v : Int) (hv : (Lit.int .i64 v).wf = true) : Bn W C N B ca cc bs top (w.setCell ⟨g, q * 2 + 1, none⟩ (.int .i64 v)) := by
  have hrow := hl.o1
  rw [ha] at hrow
  obtain ⟨h1, h2⟩ := hrow.stored (q * 2 + 1) (.int .i64 v)
  rw [show (flatE r.lies).set (q * 2 + 1) (.int .i64 v) = flatE (r.lies.set q ⟨r.lies[q].piece, v⟩) from (flat_set encE 2 (fun _ => rfl) r.lies q 1 hq (by omega) ⟨r.lies[q].piece, v⟩ (.int .i64 v) rfl).symm] at h1
  have hgB := (hrow.lt g rfl).1
  have hrc := hr.kept (w' := w.setCell ⟨g, q * 2 + 1, none⟩ (.int .i64 v)) (Below.heap_setCell _ _ _ _ (show N ≠ g by omega))
  have hll : (r.lies.set q ⟨r.lies[q].piece, v⟩).length = r.lies.length := List.length_set
  have h5 := hl.o5.kept h2 (owns_ne (e := 57) (e' := 48) (by decide) hl.o5 hrow)
  refine Bn.mk' (d := d) (r := ⟨r.start, r.stop, r.steps, r.lies.set q ⟨r.lies[q].piece, v⟩, r.crosses, r.parts, r.over, r.flanks⟩) ⟨hrc.k0, hrc.k1, hrc.k2, by dsimp only; rw [hll]; exact hrc.k3, hrc.k4, hrc.k5, hrc.k6, hrc.k7⟩ ⟨by dsimp only; rw [hll, ha]; exact h1, h5, by dsimp only; rw [hll]; exact hl.l1, hl.l5, ⟨fun i hi => ?_, hl.wf.flanks⟩⟩ hc hlow hCN hNB ho hat (Only.grown h2 (fun b e => by cases e; exact Or.inr hgB))
  dsimp only at hi ⊢
  rw [List.getElem_set]
  split
  · exact ⟨(hl.wf.lies q hq).1, hv⟩
  · exact hl.wf.lies i (by rw [← hll]; exact hi)
theorem Bn.setF (hr : RouteCell w N 0 d r) (hl : LF w B d r) (hc : Cur w C ca cc bs at_) (hlow : LowB C ca bs) (hCN : C < N) (hNB : N < B) (ho : Only (fun k => k = C ∨ k = N ∨ B ≤ k) W w) (hat : at_ ≤ top) {g q : Nat} (ha : d.a5 = some ⟨g, 0, none⟩) (hq : q < r.flanks.length) (v : Int) : Bn W C N B ca cc bs top (w.setCell ⟨g, q * 4 + 1, none⟩ (.int .i64 v)) := by
  have hrow := hl.o5
  rw [ha] at hrow
  obtain ⟨h1, h2⟩ := hrow.stored (q * 4 + 1) (.int .i64 v)
  rw [show (flatF r.flanks).set (q * 4 + 1) (.int .i64 v) = flatF (r.flanks.set q ⟨r.flanks[q].place, v, r.flanks[q].of, r.flanks[q].lie⟩) from (flat_set encF 4 (fun _ => rfl) r.flanks q 1 hq (by omega) ⟨r.flanks[q].place, v, r.flanks[q].of, r.flanks[q].lie⟩ (.int .i64 v) rfl).symm] at h1
  have hgB := (hrow.lt g rfl).1
  have hrc := hr.kept (w' := w.setCell ⟨g, q * 4 + 1, none⟩ (.int .i64 v)) (Below.heap_setCell _ _ _ _ (show N ≠ g by omega))
  have hll : (r.flanks.set q ⟨r.flanks[q].place, v, r.flanks[q].of, r.flanks[q].lie⟩).length = r.flanks.length := List.length_set
  have h5 := hl.o1.kept h2 (owns_ne (e := 48) (e' := 57) (by decide) hl.o1 hrow)
  refine Bn.mk' (d := d) (r := ⟨r.start, r.stop, r.steps, r.lies, r.crosses, r.parts, r.over, r.flanks.set q ⟨r.flanks[q].place, v, r.flanks[q].of, r.flanks[q].lie⟩⟩) ⟨hrc.k0, hrc.k1, hrc.k2, hrc.k3, hrc.k4, hrc.k5, hrc.k6, by dsimp only; rw [hll]; exact hrc.k7⟩ ⟨h5, by dsimp only; rw [hll, ha]; exact h1, hl.l1, by dsimp only; rw [hll]; exact hl.l5, ⟨hl.wf.lies, fun i hi => ?_⟩⟩ hc hlow hCN hNB ho hat (Only.grown h2 (fun b e => by cases e; exact Or.inr hgB))
  dsimp only at hi ⊢
  rw [List.getElem_set]
  split
  · exact hl.wf.flanks q hq
  · exact hl.wf.flanks i (by rw [← hll]; exact hi)
theorem Bn.pushF (hr : RouteCell w N 0 d r) (hl : LF w B d r) (hc : Cur w C ca cc bs at_) (hlow : LowB C ca bs) (hCN : C < N) (hNB : N < B) (ho : Only (fun k => k = C ∨ k = N ∨ B ≤ k) W w) (hat : at_ ≤ top) (hf : r.flanks.length ≤ 99999) {f : MFlank} (hv : (Lit.int .i64 f.of).wf = true ∧ (Lit.int .i64 f.lie).wf = true) {x' : Option Addr} {y' : Nat} (hg : w.grownBy w' (Value.slice d.a5 r.flanks.length d.c5).ownBlock) (hrow : w'.ownsRow B 57 4 (.slice x' (r.flanks.length + 1) y') (r.flanks.length + 1) (flatF (r.flanks ++ [f]))) : Bn W C N B ca cc bs top (w'.setCell ⟨N, 7, none⟩ (.slice x' (r.flanks.length + 1) y')) := by
  have hN : w'.heap[N]? = w.heap[N]? := hg.block N (cellLt hr.k0) (fun e => by have := (hl.o5.lt N e.symm).1; omega)
  have hll : (r.flanks ++ [f]).length = r.flanks.length + 1 := by simp
  have hrc := (hr.kept hN).set 7 (by omega) (.slice x' (r.flanks.length + 1) y') (d' := ⟨d.a0, d.c0, d.a1, d.c1, d.a2, d.c2, d.a3, d.c3, d.a4, d.c4, x', y'⟩) (r' := ⟨r.start, r.stop, r.steps, r.lies, r.crosses, r.parts, r.over, r.flanks ++ [f]⟩) (by simp [encR])
  have h1 := ownsRow_setCell_below (hl.o1.kept hg (owns_ne (e := 48) (e' := 57) (by decide) hl.o1 hl.o5)) (a := ⟨N, 7, none⟩) hNB (.slice x' (r.flanks.length + 1) y')
  have h5 := ownsRow_setCell_below hrow (a := ⟨N, 7, none⟩) hNB (.slice x' (r.flanks.length + 1) y')
  refine Bn.mk' hrc ⟨h1, by dsimp only; rw [hll]; exact h5, hl.l1, by dsimp only; rw [hll]; omega, ⟨hl.wf.lies, fun i hi => ?_⟩⟩ hc hlow hCN hNB ho hat (Only.setCell (S := fun k => k = N ∨ B ≤ k) (Only.grown hg (fun b e => Or.inr (hl.o5.lt b e).1)) (p := ⟨N, 7, none⟩) (Or.inl (Or.inl rfl)) _)
  dsimp only at hi ⊢
  by_cases h : i < r.flanks.length
  · rw [List.getElem_append_left h]
    exact hl.wf.flanks i h
  · have e : i = r.flanks.length := by omega
    subst e
    simpa using hv
end
structure R6 (w : World) (B : Nat) (d : RAddr) (r : MRoute) : Prop where
  o0 : w.ownsRow B 51 2 (.slice d.a0 r.steps.length d.c0) r.steps.length (flatE r.steps)
  o2 : w.ownsRow B 3 1 (.slice d.a2 r.crosses.length d.c2) r.crosses.length (flatN r.crosses)
  o3 : w.ownsRow B 44 3 (.slice d.a3 r.parts.length d.c3) r.parts.length (flatP r.parts)
  o4 : w.ownsRow B 44 3 (.slice d.a4 r.over.length d.c4) r.over.length (flatP r.over)
theorem R6.kept {w w' : World} {B : Nat} {d : RAddr} {r : MRoute} (h : R6 w B d r) (hk : ∀ b, B ≤ b → b < w.heap.size → w'.heap[b]? = w.heap[b]?) : R6 w' B d r :=
  ⟨owns_kept2 h.o0 (fun b hb => hk b (h.o0.lt b hb).1 (h.o0.lt b hb).2), owns_kept2 h.o2 (fun b hb => hk b (h.o2.lt b hb).1 (h.o2.lt b hb).2), owns_kept2 h.o3 (fun b hb => hk b (h.o3.lt b hb).1 (h.o3.lt b hb).2), owns_kept2 h.o4 (fun b hb => hk b (h.o4.lt b hb).1 (h.o4.lt b hb).2)⟩
structure Short6 (r : MRoute) : Prop where
  s : ShortR r
  s4 : r.over.length ≤ 200000
  s5 : r.flanks.length ≤ 50000
set_option maxRecDepth 20000 in
set_option maxHeartbeats 8000000 in
theorem bend_any (C : Nat) (ca : Option Addr) (cc : Nat) (bs : List Int) (at_ : Nat) (d : RAddr) (r : MRoute) (w : World) (hc : Hid (Cur w C ca cc bs at_)) (hlow : Hid (LowB C ca bs)) (ha : at_ ≤ 500000000) (hl : Hid (RListsAt w d r)) (hs : Hid (Short6 r)) (hwf : Hid (WfR r)) :
    Calls Try.prog 55 #[.pointer (some ⟨C, 0, none⟩), routeV d r] w fun e w' => ∃ d' r' at', e = .returned (routeV d' r') ∧ LF w' w.heap.size d' r' ∧ at' ≤ at_ + 100 ∧ Cur w' C ca cc bs at' ∧ Only (fun k => k = C) w w' := by
  have hCz := hc.out.lt
  unfold routeV
  go_enter Try.func55, Try.ntmps55
  go_wp2_with fail
  generalize hW : World.alloc (World.alloc w _) _ = W
  have hbW : Below w.heap.size w W := by rw [← hW]; exact blo
  have HN0 : Hid (RouteCell W w.heap.size 0 d r) := by rw [← hW]; exact ⟨by simp [go_sem], by simp [go_sem], by simp [go_sem], by simp [go_sem], by simp [go_sem], by simp [go_sem], by simp [go_sem], by simp [go_sem]⟩
  have HNZ : Hid (∀ o, W.frozen? ⟨w.heap.size, o, none⟩ = false) := fun o => by rw [← hW]; simp [go_sem]
  have HR0 : Hid (RouteCell W (w.heap.size + 1) 0 ⟨none, 0, none, 0, none, 0, none, 0, none, 0, none, 0⟩ ⟨0, 0, [], [], [], [], [], []⟩) := by rw [← hW]; exact ⟨by simp [go_sem], by simp [go_sem], by simp [go_sem], by simp [go_sem], by simp [go_sem], by simp [go_sem], by simp [go_sem], by simp [go_sem]⟩
  have HRZ : Hid (∀ o, W.frozen? ⟨w.heap.size + 1, o, none⟩ = false) := fun o => by rw [← hW]; simp [go_sem]
  have hzW : W.heap.size = w.heap.size + 2 := by rw [← hW]; simp
  have HBW := hidP hbW
  clear hW hbW
  obtain ⟨N, hN⟩ : ∃ N, w.heap.size = N := ⟨_, rfl⟩
  obtain ⟨R, hR⟩ : ∃ R, N + 1 = R := ⟨_, rfl⟩
  rw [hN] at HN0 HNZ HR0 HRZ hzW hCz ⊢
  rw [hR] at HR0 HRZ ⊢
  have HNw : Hid (w.heap.size = N) := hN
  clear hN
  refine (l2copyN_any d r W (RListsAt.below hl.out HBW.out) hs.out.s).mono ?_
  rintro e w1 ⟨v0, v1, v2, v3, rfl, hown, hb1⟩
  obtain ⟨x0, y0, rfl⟩ := owns_slice hown.o0
  obtain ⟨x1, y1, rfl⟩ := owns_slice hown.o1
  obtain ⟨x2, y2, rfl⟩ := owns_slice hown.o2
  obtain ⟨x3, y3, rfl⟩ := owns_slice hown.o3
  have HOWN := hidP hown
  have HB1 := hidP hb1
  have hrc := HN0.out.below hb1
  have k0 := hrc.k0
  have k1 := hrc.k1
  have k2 := hrc.k2
  have k3 := hrc.k3
  have k4 := hrc.k4
  have k5 := hrc.k5
  have k6 := hrc.k6
  have k7 := hrc.k7
  simp only [Nat.zero_add] at k0 k1 k2 k3 k4 k5 k6 k7
  have hz1 := hb1.size
  have z0 := (hb1.frozen (p := ⟨N, 0, none⟩) (by show N < W.heap.size; omega)).trans (HNZ.out 0)
  have z1 := (hb1.frozen (p := ⟨N, 1, none⟩) (by show N < W.heap.size; omega)).trans (HNZ.out 1)
  have z2 := (hb1.frozen (p := ⟨N, 2, none⟩) (by show N < W.heap.size; omega)).trans (HNZ.out 2)
  have z3 := (hb1.frozen (p := ⟨N, 3, none⟩) (by show N < W.heap.size; omega)).trans (HNZ.out 3)
  have z4 := (hb1.frozen (p := ⟨N, 4, none⟩) (by show N < W.heap.size; omega)).trans (HNZ.out 4)
  have z5 := (hb1.frozen (p := ⟨N, 5, none⟩) (by show N < W.heap.size; omega)).trans (HNZ.out 5)
  have z6 := (hb1.frozen (p := ⟨N, 6, none⟩) (by show N < W.heap.size; omega)).trans (HNZ.out 6)
  have z7 := (hb1.frozen (p := ⟨N, 7, none⟩) (by show N < W.heap.size; omega)).trans (HNZ.out 7)
  clear hown hb1 hrc
  go_upto_region 2 with fail
  generalize hW2 : World.setCell (World.setCell (World.setCell (World.setCell (World.setCell (World.setCell (World.setCell (World.setCell w1 _ _) _ _) _ _) _ _) _ _) _ _) _ _) _ _ = W2
  have hk2 : ∀ b, b ≠ N → W2.heap[b]? = w1.heap[b]? := fun b hb => by rw [← hW2, Below.heap_setCell _ _ _ _ hb, Below.heap_setCell _ _ _ _ hb, Below.heap_setCell _ _ _ _ hb, Below.heap_setCell _ _ _ _ hb, Below.heap_setCell _ _ _ _ hb, Below.heap_setCell _ _ _ _ hb, Below.heap_setCell _ _ _ _ hb, Below.heap_setCell _ _ _ _ hb]
  have hz2 : W2.heap.size = w1.heap.size := by rw [← hW2]; simp
  have HC2 : Hid (RouteCell W2 N 0 ⟨x0, y0, x1, y1, x2, y2, x3, y3, d.a4, d.c4, d.a5, d.c5⟩ r) := by
    rw [← hW2]
    have hrc := HN0.out.below HB1.out
    exact (((((((hrc.set 0 (by omega) _ (d' := d) (r' := r) rfl).set 1 (by omega) _ (d' := d) (r' := r) rfl).set 2 (by omega) _ (d' := ⟨x0, y0, d.a1, d.c1, d.a2, d.c2, d.a3, d.c3, d.a4, d.c4, d.a5, d.c5⟩) (r' := r) rfl).set 3 (by omega) _ (d' := ⟨x0, y0, x1, y1, d.a2, d.c2, d.a3, d.c3, d.a4, d.c4, d.a5, d.c5⟩) (r' := r) rfl).set 4 (by omega) _ (d' := ⟨x0, y0, x1, y1, x2, y2, d.a3, d.c3, d.a4, d.c4, d.a5, d.c5⟩) (r' := r) rfl).set 5 (by omega) _ (d' := ⟨x0, y0, x1, y1, x2, y2, x3, y3, d.a4, d.c4, d.a5, d.c5⟩) (r' := r) rfl).set 6 (by omega) _ (d' := ⟨x0, y0, x1, y1, x2, y2, x3, y3, d.a4, d.c4, d.a5, d.c5⟩) (r' := r) rfl).set 7 (by omega) _ (d' := ⟨x0, y0, x1, y1, x2, y2, x3, y3, d.a4, d.c4, d.a5, d.c5⟩) (r' := r) rfl
  have HZ2 : Hid (∀ o, W2.frozen? ⟨N, o, none⟩ = false) := fun o => by
    rw [← hW2]
    simp only [World.frozen?_setCell]
    exact (HB1.out.frozen (p := ⟨N, o, none⟩) (by show N < W.heap.size; omega)).trans (HNZ.out o)
  have HBl : Hid (Below w.heap.size w W2) := by
    have h0 := HBW.out.trans (HB1.out.mono HBW.out.size)
    rw [← hW2]
    have hN : w.heap.size ≤ N := by have := HNw.out; omega
    exact (((((((h0.setCell hN _).setCell hN _).setCell hN _).setCell hN _).setCell hN _).setCell hN _).setCell hN _).setCell hN _
  have HO0 : Hid (W2.ownsRow (N + 2) 51 2 (.slice x0 r.steps.length y0) r.steps.length (flatE r.steps)) := by
    have h := HOWN.out.o0
    rw [hzW] at h
    exact owns_kept2 h (fun b hb => hk2 b (by have := (h.lt b hb).1; omega))
  have HO1 : Hid (W2.ownsRow (N + 2) 48 2 (.slice x1 r.lies.length y1) r.lies.length (flatE r.lies)) := by
    have h := HOWN.out.o1
    rw [hzW] at h
    exact owns_kept2 h (fun b hb => hk2 b (by have := (h.lt b hb).1; omega))
  have HO2 : Hid (W2.ownsRow (N + 2) 3 1 (.slice x2 r.crosses.length y2) r.crosses.length (flatN r.crosses)) := by
    have h := HOWN.out.o2
    rw [hzW] at h
    exact owns_kept2 h (fun b hb => hk2 b (by have := (h.lt b hb).1; omega))
  have HO3 : Hid (W2.ownsRow (N + 2) 44 3 (.slice x3 r.parts.length y3) r.parts.length (flatP r.parts)) := by
    have h := HOWN.out.o3
    rw [hzW] at h
    exact owns_kept2 h (fun b hb => hk2 b (by have := (h.lt b hb).1; omega))
  have HRW : Hid (W2.heap[R]? = W.heap[R]?) := (hk2 R (by omega)).trans (HB1.out.block R (by omega))
  have HF2 : Hid (FlanksAt W2 d.a5 r.flanks) := hl.out.flanks.below HBl.out
  have HV2 : Hid (PartsAt W2 d.a4 r.over) := hl.out.over.below HBl.out
  have c7 := HC2.out.k7
  have c6 := HC2.out.k6
  simp only [Nat.zero_add] at c6 c7
  have hN2 := cellLt c7
  dsimp only at hN2
  have hq5 : r.flanks.length ≤ maxLen := by have := hs.out.s5; unfold maxLen; omega
  have hr5 : r.flanks.length * 32 ≤ 140737488355328 := by have := hs.out.s5; omega
  have hq4 : r.over.length ≤ maxLen := by have := hs.out.s4; unfold maxLen; omega
  have hr4 : r.over.length * 24 ≤ 140737488355328 := by have := hs.out.s4; omega
  have hzB : N + 2 ≤ W2.heap.size := by omega
  clear hW2 hk2 k0 k1 k2 k3 k4 k5 k6 k7 z0 z1 z2 z3 z4 z5 z6 z7 HOWN HB1 HN0 HNZ hz1 hz2
  go_upto_region 3 with (at_builtin; refine wpList_copyN (Wp := W2) rfl (.tmp 7) (.tmp 9) 40 rfl 57 _ 4 32 Try.underlying40 Try.infoFlank rfl (by decide) W2.heap.size rfl rfl d.a5 r.flanks.length d.c5 (flatF r.flanks) rfl (flanksNil HF2.out) (flatF_len _) (newsF HF2.out) (flatF_one _) hq5 hr5 ?_; intro x5 y5 w3 ho5 hb5; have HO5 := hidP ho5; have HB5 := hidP hb5; have d7 := cell_later hb5 c7; have f7 := (hb5.frozen (p := ⟨N, 7, none⟩) hN2).trans (HZ2.out 7); clear ho5 hb5)
  generalize hW4 : World.setCell w3 _ _ = W4
  have hk4 : ∀ b, b ≠ N → b < W2.heap.size → W4.heap[b]? = W2.heap[b]? := fun b hb hz => by rw [← hW4]; exact (Below.heap_setCell _ _ _ _ hb).trans (HB5.out.block b hz)
  have hz4 : W4.heap.size = w3.heap.size := by rw [← hW4]; simp
  have hz3 := HB5.out.size
  have HC4 : Hid (RouteCell W4 N 0 ⟨x0, y0, x1, y1, x2, y2, x3, y3, d.a4, d.c4, x5, y5⟩ r) := by
    rw [← hW4]
    exact (HC2.out.below HB5.out).set 7 (by omega) _ rfl
  have HZ4 : Hid (∀ o, W4.frozen? ⟨N, o, none⟩ = false) := fun o => by
    rw [← hW4, World.frozen?_setCell]
    exact (HB5.out.frozen (p := ⟨N, o, none⟩) hN2).trans (HZ2.out o)
  have HB4 : Hid (Below w.heap.size w W4) := by
    rw [← hW4]
    exact (HBl.out.trans (HB5.out.mono HBl.out.size)).setCell (by have := HNw.out; show w.heap.size ≤ N; omega) _
  have HP5 : Hid (W4.ownsRow (N + 2) 57 4 (.slice x5 r.flanks.length y5) r.flanks.length (flatF r.flanks)) := by
    rw [← hW4]
    exact ownsRow_setCell_below (owns_base HO5.out hzB) (show N < N + 2 by omega) _
  have HP0 : Hid (W4.ownsRow (N + 2) 51 2 (.slice x0 r.steps.length y0) r.steps.length (flatE r.steps)) := owns_kept2 HO0.out (fun b hb => hk4 b (by have := (HO0.out.lt b hb).1; omega) (HO0.out.lt b hb).2)
  have HP1 : Hid (W4.ownsRow (N + 2) 48 2 (.slice x1 r.lies.length y1) r.lies.length (flatE r.lies)) := owns_kept2 HO1.out (fun b hb => hk4 b (by have := (HO1.out.lt b hb).1; omega) (HO1.out.lt b hb).2)
  have HP2 : Hid (W4.ownsRow (N + 2) 3 1 (.slice x2 r.crosses.length y2) r.crosses.length (flatN r.crosses)) := owns_kept2 HO2.out (fun b hb => hk4 b (by have := (HO2.out.lt b hb).1; omega) (HO2.out.lt b hb).2)
  have HP3 : Hid (W4.ownsRow (N + 2) 44 3 (.slice x3 r.parts.length y3) r.parts.length (flatP r.parts)) := owns_kept2 HO3.out (fun b hb => hk4 b (by have := (HO3.out.lt b hb).1; omega) (HO3.out.lt b hb).2)
  have HRX : Hid (W4.heap[R]? = W.heap[R]?) := (hk4 R (by omega) (by omega)).trans HRW.out
  have HV4 : Hid (PartsAt W4 d.a4 r.over) := hl.out.over.below HB4.out
  have e6 := HC4.out.k6
  simp only [Nat.zero_add] at e6
  have hN4 := cellLt e6
  dsimp only at hN4
  have hzB4 : N + 2 ≤ W4.heap.size := by omega
  clear hW4 hk4 hz4 hz3 HO0 HO1 HO2 HO3 HO5 HB5 HC2 HZ2 HBl HRW HF2 HV2 c6 c7 d7 f7 hN2 hzB
  go_upto_region 4 with (at_builtin; refine wpList_copyN (Wp := W4) rfl (.tmp 12) (.tmp 14) 39 rfl 44 _ 3 24 Try.underlying39 Try.infoPart rfl (by decide) W4.heap.size rfl rfl d.a4 r.over.length d.c4 (flatP r.over) rfl (partsNil HV4.out) (flatP_len _) (newsP HV4.out) (flatP_one _) hq4 hr4 ?_; intro x4 y4 w5 ho4 hb4; have HO4 := hidP ho4; have HB5 := hidP hb4; have d6 := cell_later hb4 e6; have f6 := (hb4.frozen (p := ⟨N, 6, none⟩) hN4).trans (HZ4.out 6); clear ho4 hb4)
  generalize hW6 : World.setCell w5 _ _ = W6
  obtain ⟨dd, hdd⟩ : ∃ dd : RAddr, dd = ⟨x0, y0, x1, y1, x2, y2, x3, y3, x4, y4, x5, y5⟩ := ⟨_, rfl⟩
  have hk6 : ∀ b, b ≠ N → b < W4.heap.size → W6.heap[b]? = W4.heap[b]? := fun b hb hz => by rw [← hW6]; exact (Below.heap_setCell _ _ _ _ hb).trans (HB5.out.block b hz)
  have hz6 : W6.heap.size = w5.heap.size := by rw [← hW6]; simp
  have hz5 := HB5.out.size
  have HC6 : Hid (RouteCell W6 N 0 dd r) := by
    rw [← hW6, hdd]
    exact (HC4.out.below HB5.out).set 6 (by omega) _ rfl
  have HZ6 : Hid (∀ o, W6.frozen? ⟨N, o, none⟩ = false) := fun o => by
    rw [← hW6, World.frozen?_setCell]
    exact (HB5.out.frozen (p := ⟨N, o, none⟩) hN4).trans (HZ4.out o)
  have HB6 : Hid (Below w.heap.size w W6) := by
    rw [← hW6]
    exact (HB4.out.trans (HB5.out.mono HB4.out.size)).setCell (by have := HNw.out; show w.heap.size ≤ N; omega) _
  have HR6 : Hid (R6 W6 (N + 2) dd r) := by
    rw [hdd]
    refine ⟨owns_kept2 HP0.out (fun b hb => hk6 b (by have := (HP0.out.lt b hb).1; omega) (HP0.out.lt b hb).2), owns_kept2 HP2.out (fun b hb => hk6 b (by have := (HP2.out.lt b hb).1; omega) (HP2.out.lt b hb).2), owns_kept2 HP3.out (fun b hb => hk6 b (by have := (HP3.out.lt b hb).1; omega) (HP3.out.lt b hb).2), ?_⟩
    rw [← hW6]
    exact ownsRow_setCell_below (owns_base HO4.out hzB4) (show N < N + 2 by omega) _
  have HLF : Hid (LF W6 (N + 2) dd r) := by
    rw [hdd]
    exact ⟨owns_kept2 HP1.out (fun b hb => hk6 b (by have := (HP1.out.lt b hb).1; omega) (HP1.out.lt b hb).2), owns_kept2 HP5.out (fun b hb => hk6 b (by have := (HP5.out.lt b hb).1; omega) (HP5.out.lt b hb).2), by have := hs.out.s.s1; omega, by have := hs.out.s5; omega, hwf.out⟩
  have HRY : Hid (W6.heap[R]? = W.heap[R]?) := (hk6 R (by omega) (by omega)).trans HRX.out
  have HCU : Hid (Cur W6 C ca cc bs at_) := hc.out.below HB6.out
  have hzB6 : N + 2 ≤ W6.heap.size := by omega
  have hs0 := hs.out.s.s0
  have hs1 := hs.out.s.s1
  have hs2 := hs.out.s.s2
  have hs3 := hs.out.s.s3
  have hs4 := hs.out.s4
  have hs5 := hs.out.s5
  clear hW6 hk6 hz6 hz5 HP0 HP1 HP2 HP3 HP5 HO4 HB5 HC4 HZ4 HB4 HRX HV4 e6 d6 f6 hN4 hzB4 hq4 hq5 hr4 hr5 hc hl hwf hs hdd
  go_wp2_with fail
  refine (pick_any C ca cc bs at_ 9 W6 HCU (by omega) (by omega)).mono ?_
  rintro e w7 ⟨x, at7, hx, rfl, hat7, hc7, ho7⟩
  have HC7 := hidP hc7
  have hN7 : w7.heap[N]? = W6.heap[N]? := ho7.block N (by omega) (by omega)
  have HRC : Hid (RouteCell w7 N 0 dd r) := HC6.out.kept hN7
  have HZ7 : Hid (∀ o, w7.frozen? ⟨N, o, none⟩ = false) := fun o => (World.frozen?_of_block (w := W6) (a := ⟨N, o, none⟩) hN7).trans (HZ6.out o)
  have HR7 : Hid (R6 w7 (N + 2) dd r) := HR6.out.kept (fun b h1 h2 => ho7.block b h2 (by omega))
  have HL7 : Hid (LF w7 (N + 2) dd r) := HLF.out.keep (fun b h1 h2 _ => ho7.block b h2 (by omega))
  have hR7 : w7.heap[R]? = W.heap[R]? := (ho7.block R (by omega) (by omega)).trans HRY.out
  have HRC0 : Hid (RouteCell w7 R 0 ⟨none, 0, none, 0, none, 0, none, 0, none, 0, none, 0⟩ ⟨0, 0, [], [], [], [], [], []⟩) := HR0.out.kept hR7
  have HRZ7 : Hid (∀ o, w7.frozen? ⟨R, o, none⟩ = false) := fun o => (World.frozen?_of_block (w := W) (a := ⟨R, o, none⟩) hR7).trans (HRZ.out o)
  have HOW : Hid (Only (fun k => k = C) w w7) := (Only.of_below HB6.out).trans ho7
  have hz7 : N + 2 ≤ w7.heap.size := by have := ho7.size; omega
  clear hc7 ho7 HC6 HZ6 HB6 HR6 HLF HRY HCU hN7 hR7 HR0 HRZ HBW hzB6
  go_upto_block 0 with fail
  go_cut [] (fun wx => Hid (Bn w7 C N (N + 2) ca cc bs (at_ + 50) wx))
  case first =>
    have hx' : x = 0 ∨ x = 1 ∨ x = 2 ∨ x = 3 ∨ x = 4 ∨ x = 5 ∨ x = 6 ∨ x = 7 ∨ x = 8 := by omega
    rcases hx' with rfl | rfl | rfl | rfl | rfl | rfl | rfl | rfl | rfl
    · --A0
      go_wp2_with fail
      refine (pick_any C ca cc bs at7 5 w7 HC7 (by omega) (by omega)).mono ?_
      rintro e w8 ⟨p, at8, hp, rfl, hat8, hc8, ho8⟩
      have HC8 := hidP hc8
      have hN8 : w8.heap[N]? = w7.heap[N]? := ho8.block N (cellLt HRC.out.k0) (by omega)
      have HRC8 : Hid (RouteCell w8 N 0 dd r) := HRC.out.kept hN8
      have f8 := (World.frozen?_of_block (w := w7) (a := ⟨N, 1, none⟩) hN8).trans (HZ7.out 1)
      have c8 := HRC8.out.k1
      simp only [Nat.zero_add] at c8
      have hz8 := cellLt c8
      dsimp only at hz8
      have HL8 : Hid (LF w8 (N + 2) dd r) := HL7.out.keep (fun b h1 h2 _ => ho8.block b h2 (by omega))
      have HO8 : Hid (Only (fun k => k = C ∨ k = N ∨ N + 2 ≤ k) w7 w8) := ho8.mono (fun k hk => Or.inl hk)
      have hpi : (p : Int) < 5 := by omega
      clear hc8 ho8 hN8
      go_wp2_with fail
      go_meet
      exact Bn.put (d' := dd) (r' := ⟨r.start, (p : Int) - 1, r.steps, r.lies, r.crosses, r.parts, r.over, r.flanks⟩) HRC8.out HL8.out HC8.out hlow.out hCz (by omega) HO8.out (by omega) 1 (by omega) _ rfl rfl rfl rfl rfl rfl rfl
    · --A1
      have c7 := HRC.out.k2
      simp only [Nat.zero_add] at c7
      by_cases h0 : r.steps.length = 0
      · have h0' : ¬ (0 : Int) < r.steps.length := by omega
        clear h0
        go_wp2_with fail
        go_meet
        exact Bn.mk' HRC.out HL7.out HC7.out hlow.out hCz (by omega) (Only.refl _ _) (by omega) (Only.refl _ _)
      · have h0' : (0 : Int) < r.steps.length := by omega
        obtain ⟨g, hg⟩ := owns_addrB HR7.out.o0 (by omega)
        have hrow := HR7.out.o0
        rw [hg] at hrow c7
        have HG := hidP hg
        have HROW := hidP hrow
        have hgB := (hrow.lt g rfl).1
        clear hg hrow h0
        go_upto_region 10 with fail
        obtain ⟨S, hS⟩ : ∃ S : World → Prop, ∀ u, S u ↔ u.cell? ⟨N, 2, none⟩ = some (.slice (some ⟨g, 0, none⟩) r.steps.length dd.c0) := ⟨_, fun _ => Iff.rfl⟩
        have HS0 := hidP hS
        have r0 : ∀ u : Held S, World.cell? u.val ⟨N, 2, none⟩ = some (.slice (some ⟨g, 0, none⟩) r.steps.length dd.c0) := fun u => (hS u.val).1 u.2
        have hS1 : S w7.drew := (hS _).2 c7
        have hne := held_ne hS1
        clear hS
        refine wp_region_tree (fun w' => ∃ u : Held S, w' = u.val) 9 (by kernel_rfl) (by kernel_rfl) (held_some hS1) ?_
        (refine wpT_see 0 (by rfl) (by kernel_rfl) (by kernel_rfl) ?_; intro K hK; go_big_quiet_op; go_big_quiet_on); (refine wpT_see 1 (by rfl) (by kernel_rfl) (by kernel_rfl) ?_; intro K hK; go_big_quiet_op; go_big_quiet_on); (refine wpT_see 2 (by rfl) (by kernel_rfl) (by kernel_rfl) ?_; intro K hK; go_big_quiet_op; go_big_quiet_on); (refine wpT_see 3 (by rfl) (by kernel_rfl) (by kernel_rfl) ?_; intro K hK; go_big_quiet_op; go_big_quiet_on); (refine wpT_see 4 (by rfl) (by kernel_rfl) (by kernel_rfl) ?_; intro K hK; go_big_quiet_op; go_big_quiet_on); (refine wpT_see 5 (by rfl) (by kernel_rfl) (by kernel_rfl) ?_; intro K hK; go_big_quiet_op; go_big_quiet_on)
        (refine wpT_see 7 (by rfl) (by kernel_rfl) (by kernel_rfl) ?_; intro K hK; go_big_quiet_op; go_big_quiet_on)
        refine wpT_loud 6 (by rfl) (by kernel_rfl) (by kernel_rfl) ?_
        intro K hK
        go_wp2_with (go_at_call 41; refine (pick_any C ca cc bs at7 r.steps.length _ (HC7.out.below ((Below.refl _ _).drew)) (by omega) (by omega)).mono ?_; rintro e w8 ⟨q, at8, hq0, rfl, hat8, hc8, ho8⟩)
        have HO8 : Hid (Only (fun k => k = C) w7 w8) := ((Only.refl _ _).drew).trans ho8
        have HC8 := hidP hc8
        have hS8 : S w8 := (HS0.out _).2 (HO8.out.cell c7 (by show ¬ N = C; omega))
        have hqi : (q : Int) < r.steps.length := by omega
        clear hc8 ho8
        refine hK _ _ (held_some hS8) ?_
        clear hK K
        refine wpT_loud 8 (by rfl) (by kernel_rfl) (by kernel_rfl) ?_
        intro K hK
        go_wp2_with (go_at_call 41; refine (pick_any C ca cc bs at8 9 _ HC8 (by omega) (by omega)).mono ?_; rintro e w9 ⟨p, at9, hp0, rfl, hat9, hc9, ho9⟩)
        have HO9 : Hid (Only (fun k => k = C) w7 w9) := HO8.out.trans ho9
        have HC9 := hidP hc9
        have hS9 : S w9 := (HS0.out _).2 (HO9.out.cell c7 (by show ¬ N = C; omega))
        have hpi : (p : Int) < 9 := by omega
        clear hc9 ho9
        refine hK _ _ (held_some hS9) ?_
        clear hK K
        have hne := held_ne hS9
        refine wpT_done (by kernel_rfl) ?_
        simp only [List.drop_succ_cons, List.drop_zero]
        clear r0 hne hS1 hS8 hS9 HS0
        have hN9 : w9.heap[N]? = w7.heap[N]? := HO9.out.block N (cellLt HRC.out.k0) (by omega)
        have HRC9 : Hid (RouteCell w9 N 0 dd r) := HRC.out.kept hN9
        have HL9 : Hid (LF w9 (N + 2) dd r) := HL7.out.keep (fun b h1 h2 _ => HO9.out.block b h2 (by omega))
        have HOW9 : Hid (Only (fun k => k = C ∨ k = N ∨ N + 2 ≤ k) w7 w9) := HO9.out.mono (fun k hk => Or.inl hk)
        have hqL : q < r.steps.length := by omega
        have HROW9 := hidP (owns_kept2 HROW.out (fun b hb => HO9.out.block b (HROW.out.lt b hb).2 (by have := (HROW.out.lt b hb).1; omega)))
        have sc := (HROW9.out.cellAt (q * 2) (by omega)).trans ((flat_get encE 2 (fun _ => rfl) r.steps q 0 hqL (by omega)).trans rfl)
        have sz := HROW9.out.frozenAt (q * 2)
        have hgz := cellLt sc
        dsimp only at hgz
        go_wp2_with fail
        go_meet
        exact Bn.row HRC9.out HL9.out HC9.out hlow.out hCz (by omega) HOW9.out (by omega) HROW9.out (by decide) (by decide) (HROW9.out.stored (q * 2) _).2
    · --A2
      have c7 := HRC.out.k3
      simp only [Nat.zero_add] at c7
      by_cases h0 : r.lies.length = 0
      · have h0' : ¬ (0 : Int) < r.lies.length := by omega
        clear h0
        go_wp2_with fail
        go_meet
        exact Bn.mk' HRC.out HL7.out HC7.out hlow.out hCz (by omega) (Only.refl _ _) (by omega) (Only.refl _ _)
      · have h0' : (0 : Int) < r.lies.length := by omega
        obtain ⟨g, hg⟩ := owns_addrB HL7.out.o1 (by omega)
        have hrow := HL7.out.o1
        rw [hg] at hrow c7
        have HG := hidP hg
        have HROW := hidP hrow
        have hgB := (hrow.lt g rfl).1
        clear hg hrow h0
        go_upto_region 13 with fail
        obtain ⟨S, hS⟩ : ∃ S : World → Prop, ∀ u, S u ↔ u.cell? ⟨N, 3, none⟩ = some (.slice (some ⟨g, 0, none⟩) r.lies.length dd.c1) := ⟨_, fun _ => Iff.rfl⟩
        have HS0 := hidP hS
        have r0 : ∀ u : Held S, World.cell? u.val ⟨N, 3, none⟩ = some (.slice (some ⟨g, 0, none⟩) r.lies.length dd.c1) := fun u => (hS u.val).1 u.2
        have hS1 : S w7.drew := (hS _).2 c7
        have hne := held_ne hS1
        clear hS
        refine wp_region_tree (fun w' => ∃ u : Held S, w' = u.val) 10 (by kernel_rfl) (by kernel_rfl) (held_some hS1) ?_
        (refine wpT_see 0 (by rfl) (by kernel_rfl) (by kernel_rfl) ?_; intro K hK; go_big_quiet_op; go_big_quiet_on); (refine wpT_see 1 (by rfl) (by kernel_rfl) (by kernel_rfl) ?_; intro K hK; go_big_quiet_op; go_big_quiet_on); (refine wpT_see 2 (by rfl) (by kernel_rfl) (by kernel_rfl) ?_; intro K hK; go_big_quiet_op; go_big_quiet_on); (refine wpT_see 3 (by rfl) (by kernel_rfl) (by kernel_rfl) ?_; intro K hK; go_big_quiet_op; go_big_quiet_on); (refine wpT_see 4 (by rfl) (by kernel_rfl) (by kernel_rfl) ?_; intro K hK; go_big_quiet_op; go_big_quiet_on); (refine wpT_see 5 (by rfl) (by kernel_rfl) (by kernel_rfl) ?_; intro K hK; go_big_quiet_op; go_big_quiet_on)
        (refine wpT_see 7 (by rfl) (by kernel_rfl) (by kernel_rfl) ?_; intro K hK; go_big_quiet_op; go_big_quiet_on)
        refine wpT_loud 6 (by rfl) (by kernel_rfl) (by kernel_rfl) ?_
        intro K hK
        go_wp2_with (go_at_call 41; refine (pick_any C ca cc bs at7 r.lies.length _ (HC7.out.below ((Below.refl _ _).drew)) (by omega) (by omega)).mono ?_; rintro e w8 ⟨q, at8, hq0, rfl, hat8, hc8, ho8⟩)
        have HO8 : Hid (Only (fun k => k = C) w7 w8) := ((Only.refl _ _).drew).trans ho8
        have HC8 := hidP hc8
        have hS8 : S w8 := (HS0.out _).2 (HO8.out.cell c7 (by show ¬ N = C; omega))
        have hqi : (q : Int) < r.lies.length := by omega
        clear hc8 ho8
        refine hK _ _ (held_some hS8) ?_
        clear hK K
        refine wpT_loud 8 (by rfl) (by kernel_rfl) (by kernel_rfl) ?_
        intro K hK
        go_wp2_with (go_at_call 41; refine (pick_any C ca cc bs at8 2 _ HC8 (by omega) (by omega)).mono ?_; rintro e w9 ⟨p, at9, hp0, rfl, hat9, hc9, ho9⟩)
        have HO9 : Hid (Only (fun k => k = C) w7 w9) := HO8.out.trans ho9
        have HC9 := hidP hc9
        have hS9 : S w9 := (HS0.out _).2 (HO9.out.cell c7 (by show ¬ N = C; omega))
        have hpi : (p : Int) < 2 := by omega
        clear hc9 ho9
        refine hK _ _ (held_some hS9) ?_
        clear hK K
        have hne := held_ne hS9
        (refine wpT_see 9 (by rfl) (by kernel_rfl) (by kernel_rfl) ?_; intro K hK; go_big_quiet_op; go_big_quiet_on)
        refine wpT_done (by kernel_rfl) ?_
        simp only [List.drop_succ_cons, List.drop_zero]
        clear r0 hne hS1 hS8 hS9 HS0
        have hN9 : w9.heap[N]? = w7.heap[N]? := HO9.out.block N (cellLt HRC.out.k0) (by omega)
        have HRC9 : Hid (RouteCell w9 N 0 dd r) := HRC.out.kept hN9
        have HL9 : Hid (LF w9 (N + 2) dd r) := HL7.out.keep (fun b h1 h2 _ => HO9.out.block b h2 (by omega))
        have HOW9 : Hid (Only (fun k => k = C ∨ k = N ∨ N + 2 ≤ k) w7 w9) := HO9.out.mono (fun k hk => Or.inl hk)
        have hqL : q < r.lies.length := by omega
        have HROW9 := hidP (owns_kept2 HROW.out (fun b hb => HO9.out.block b (HROW.out.lt b hb).2 (by have := (HROW.out.lt b hb).1; omega)))
        have sc := (HROW9.out.cellAt (q * 2 + 1) (by omega)).trans ((flat_get encE 2 (fun _ => rfl) r.lies q 1 hqL (by omega)).trans rfl)
        have sz := HROW9.out.frozenAt (q * 2 + 1)
        have hgz := cellLt sc
        dsimp only at hgz
        go_wp2_with fail
        go_meet
        exact Bn.setL HRC9.out HL9.out HC9.out hlow.out hCz (by omega) HOW9.out (by omega) HG.out hqL _ (wf_nat (by omega) (by omega))
    · --A3
      have c7 := HRC.out.k5
      simp only [Nat.zero_add] at c7
      by_cases h0 : r.parts.length = 0
      · have h0' : ¬ (0 : Int) < r.parts.length := by omega
        clear h0
        go_wp2_with fail
        go_meet
        exact Bn.mk' HRC.out HL7.out HC7.out hlow.out hCz (by omega) (Only.refl _ _) (by omega) (Only.refl _ _)
      · have h0' : (0 : Int) < r.parts.length := by omega
        obtain ⟨g, hg⟩ := owns_addrB HR7.out.o3 (by omega)
        have hrow := HR7.out.o3
        rw [hg] at hrow c7
        have HG := hidP hg
        have HROW := hidP hrow
        have hgB := (hrow.lt g rfl).1
        clear hg hrow h0
        go_upto_region 16 with fail
        obtain ⟨S, hS⟩ : ∃ S : World → Prop, ∀ u, S u ↔ (u.cell? ⟨N, 5, none⟩ = some (.slice (some ⟨g, 0, none⟩) r.parts.length dd.c3) ∧ ∀ q (h : q < r.parts.length), u.cell? ⟨g, q * 3 + 2, none⟩ = some (.int .i64 r.parts[q].hi)) := ⟨_, fun _ => Iff.rfl⟩
        have HS0 := hidP hS
        have HCE : Hid (∀ u, Only (fun k => k = C) w7 u → ∀ q (h : q < r.parts.length), u.cell? ⟨g, q * 3 + 2, none⟩ = some (.int .i64 r.parts[q].hi)) := fun u hu q h => by
          have h9 := owns_kept2 (w' := u) HROW.out (fun b hb => hu.block b (HROW.out.lt b hb).2 (by have := (HROW.out.lt b hb).1; omega))
          exact (h9.cellAt (q * 3 + 2) (by omega)).trans ((flat_get encP 3 (fun _ => rfl) r.parts q 2 h (by omega)).trans rfl)
        have r0 : ∀ u : Held S, World.cell? u.val ⟨N, 5, none⟩ = some (.slice (some ⟨g, 0, none⟩) r.parts.length dd.c3) := fun u => ((hS u.val).1 u.2).1
        have hS1 : S w7.drew := (hS _).2 ⟨c7, HCE.out _ ((Only.refl _ _).drew)⟩
        have hne := held_ne hS1
        clear hS
        refine wp_region_tree (fun w' => ∃ u : Held S, w' = u.val) 14 (by kernel_rfl) (by kernel_rfl) (held_some hS1) ?_
        (refine wpT_see 0 (by rfl) (by kernel_rfl) (by kernel_rfl) ?_; intro K hK; go_big_quiet_op; go_big_quiet_on); (refine wpT_see 1 (by rfl) (by kernel_rfl) (by kernel_rfl) ?_; intro K hK; go_big_quiet_op; go_big_quiet_on); (refine wpT_see 2 (by rfl) (by kernel_rfl) (by kernel_rfl) ?_; intro K hK; go_big_quiet_op; go_big_quiet_on); (refine wpT_see 3 (by rfl) (by kernel_rfl) (by kernel_rfl) ?_; intro K hK; go_big_quiet_op; go_big_quiet_on); (refine wpT_see 4 (by rfl) (by kernel_rfl) (by kernel_rfl) ?_; intro K hK; go_big_quiet_op; go_big_quiet_on); (refine wpT_see 5 (by rfl) (by kernel_rfl) (by kernel_rfl) ?_; intro K hK; go_big_quiet_op; go_big_quiet_on)
        (refine wpT_see 10 (by rfl) (by kernel_rfl) (by kernel_rfl) ?_; intro K hK; go_big_quiet_op; go_big_quiet_on)
        refine wpT_loud 6 (by rfl) (by kernel_rfl) (by kernel_rfl) ?_
        intro K hK
        go_wp2_with (go_at_call 41; refine (pick_any C ca cc bs at7 r.parts.length _ (HC7.out.below ((Below.refl _ _).drew)) (by omega) (by omega)).mono ?_; rintro e w8 ⟨q, at8, hq0, rfl, hat8, hc8, ho8⟩)
        have HO8 : Hid (Only (fun k => k = C) w7 w8) := ((Only.refl _ _).drew).trans ho8
        have HC8 := hidP hc8
        have hS8 : S w8 := (HS0.out _).2 ⟨HO8.out.cell c7 (by show ¬ N = C; omega), HCE.out _ HO8.out⟩
        have hqi : (q : Int) < r.parts.length := by omega
        clear hc8 ho8
        refine hK _ _ (held_some hS8) ?_
        clear hK K
        have hqL : q < r.parts.length := by omega
        have hgz : g < w8.heap.size := by have h1 := (HROW.out.lt g rfl).2; have h2 := HO8.out.size; omega
        have r1 : ∀ u : Held S, World.cell? u.val ⟨g, q * 3 + 2, none⟩ = some (.int .i64 r.parts[q].hi) := fun u => ((HS0.out u.val).1 u.2).2 q hqL
        generalize (r.parts[q]'hqL).hi = hh at r1
        have hne := held_ne hS8
        (refine wpT_see 7 (by rfl) (by kernel_rfl) (by kernel_rfl) ?_; intro K hK; go_big_quiet_op; go_big_quiet_on); (refine wpT_see 8 (by rfl) (by kernel_rfl) (by kernel_rfl) ?_; intro K hK; go_big_quiet_op; go_big_quiet_on); (refine wpT_see 9 (by rfl) (by kernel_rfl) (by kernel_rfl) ?_; intro K hK; go_big_quiet_op; go_big_quiet_on)
        refine wpT_loud 11 (by rfl) (by kernel_rfl) (by kernel_rfl) ?_
        intro K hK
        go_wp2_with (go_at_call 41; refine (pick_any C ca cc bs at8 9 _ HC8 (by omega) (by omega)).mono ?_; rintro e w9 ⟨p, at9, hp0, rfl, hat9, hc9, ho9⟩)
        have HO9 : Hid (Only (fun k => k = C) w7 w9) := HO8.out.trans ho9
        have HC9 := hidP hc9
        have hS9 : S w9 := (HS0.out _).2 ⟨HO9.out.cell c7 (by show ¬ N = C; omega), HCE.out _ HO9.out⟩
        have hpi : (p : Int) < 9 := by omega
        clear hc9 ho9
        refine hK _ _ (held_some hS9) ?_
        clear hK K
        have hne := held_ne hS9
        (refine wpT_see 12 (by rfl) (by kernel_rfl) (by kernel_rfl) ?_; intro K hK; go_big_quiet_op; go_big_quiet_on); (refine wpT_see 13 (by rfl) (by kernel_rfl) (by kernel_rfl) ?_; intro K hK; go_big_quiet_op; go_big_quiet_on)
        refine wpT_done (by kernel_rfl) ?_
        simp only [List.drop_succ_cons, List.drop_zero]
        clear r0 r1 hne hS1 hS8 hS9 HS0
        have hN9 : w9.heap[N]? = w7.heap[N]? := HO9.out.block N (cellLt HRC.out.k0) (by omega)
        have HRC9 : Hid (RouteCell w9 N 0 dd r) := HRC.out.kept hN9
        have HL9 : Hid (LF w9 (N + 2) dd r) := HL7.out.keep (fun b h1 h2 _ => HO9.out.block b h2 (by omega))
        have HOW9 : Hid (Only (fun k => k = C ∨ k = N ∨ N + 2 ≤ k) w7 w9) := HO9.out.mono (fun k hk => Or.inl hk)
        have HROW9 := hidP (owns_kept2 HROW.out (fun b hb => HO9.out.block b (HROW.out.lt b hb).2 (by have := (HROW.out.lt b hb).1; omega)))
        have sc := HCE.out _ HO9.out q hqL
        have sz := HROW9.out.frozenAt (q * 3 + 2)
        have hgz9 := cellLt sc
        dsimp only at hgz9
        go_wp2_with fail
        go_meet
        exact Bn.row HRC9.out HL9.out HC9.out hlow.out hCz (by omega) HOW9.out (by omega) HROW9.out (by decide) (by decide) (HROW9.out.stored (q * 3 + 2) _).2
    · --A4
      have c7 := HRC.out.k6
      simp only [Nat.zero_add] at c7
      by_cases h0 : r.over.length = 0
      · have h0' : ¬ (0 : Int) < r.over.length := by omega
        clear h0
        go_wp2_with fail
        go_meet
        exact Bn.mk' HRC.out HL7.out HC7.out hlow.out hCz (by omega) (Only.refl _ _) (by omega) (Only.refl _ _)
      · have h0' : (0 : Int) < r.over.length := by omega
        obtain ⟨g, hg⟩ := owns_addrB HR7.out.o4 (by omega)
        have hrow := HR7.out.o4
        rw [hg] at hrow c7
        have hcap : r.over.length ≤ dd.c4 ∧ dd.c4 ≤ maxLen := by
          rcases hrow.2 with ⟨h1, _⟩ | ⟨g', cap, cur, h1, _, _, h4, h5, _⟩
          · cases h1
          · injection h1 with _ _ h1
            rw [h1]; exact ⟨h4, h5⟩
        obtain ⟨hc1, hc2⟩ := hcap
        unfold maxLen at hc2
        obtain ⟨n, hn⟩ : ∃ n, r.over.length = n := ⟨_, rfl⟩
        obtain ⟨c4, hc4⟩ : ∃ c4, dd.c4 = c4 := ⟨_, rfl⟩
        rw [hn] at c7 hc1 h0'
        rw [hc4] at c7 hc1 hc2
        have HN := hidP hn
        have h1n : 1 ≤ n := by omega
        have h1c : 1 ≤ c4 := by omega
        have f7 := HZ7.out 6
        have hz7' := cellLt c7
        dsimp only at hz7'
        have BN4 : ∀ (x4 : Option Addr) (y4 : Nat), Bn w7 C N (N + 2) ca cc bs (at_ + 50) (w7.setCell ⟨N, 6, none⟩ (.slice x4 (n - 1) y4)) := fun x4 y4 => Bn.put (d' := ⟨dd.a0, dd.c0, dd.a1, dd.c1, dd.a2, dd.c2, dd.a3, dd.c3, x4, y4, dd.a5, dd.c5⟩) (r' := ⟨r.start, r.stop, r.steps, r.lies, r.crosses, r.parts, r.over.drop 1, r.flanks⟩) HRC.out HL7.out HC7.out hlow.out hCz (by omega) (Only.refl _ _) (by omega) 6 (by omega) _ (by simp [encR, HN.out]) rfl rfl rfl rfl rfl rfl
        have HB4 := hidP BN4
        clear hg hrow h0 hn hc4 BN4
        go_wp2_with fail
        · go_meet
          exact HB4.out _ _
        · go_meet
          exact HB4.out _ _
    · --A5
      have c7 := HRC.out.k7
      simp only [Nat.zero_add] at c7
      by_cases h0 : r.flanks.length = 0
      · have h0' : ¬ (0 : Int) < r.flanks.length := by omega
        clear h0
        go_wp2_with fail
        go_meet
        exact Bn.mk' HRC.out HL7.out HC7.out hlow.out hCz (by omega) (Only.refl _ _) (by omega) (Only.refl _ _)
      · have h0' : (0 : Int) < r.flanks.length := by omega
        obtain ⟨g, hg⟩ := owns_addrB HL7.out.o5 (by omega)
        have hrow := HL7.out.o5
        rw [hg] at hrow c7
        have HG := hidP hg
        have HROW := hidP hrow
        have hgB := (hrow.lt g rfl).1
        clear hg hrow h0
        go_upto_region 22 with fail
        obtain ⟨S, hS⟩ : ∃ S : World → Prop, ∀ u, S u ↔ u.cell? ⟨N, 7, none⟩ = some (.slice (some ⟨g, 0, none⟩) r.flanks.length dd.c5) := ⟨_, fun _ => Iff.rfl⟩
        have HS0 := hidP hS
        have r0 : ∀ u : Held S, World.cell? u.val ⟨N, 7, none⟩ = some (.slice (some ⟨g, 0, none⟩) r.flanks.length dd.c5) := fun u => (hS u.val).1 u.2
        have hS1 : S w7.drew := (hS _).2 c7
        have hne := held_ne hS1
        clear hS
        refine wp_region_tree (fun w' => ∃ u : Held S, w' = u.val) 10 (by kernel_rfl) (by kernel_rfl) (held_some hS1) ?_
        (refine wpT_see 0 (by rfl) (by kernel_rfl) (by kernel_rfl) ?_; intro K hK; go_big_quiet_op; go_big_quiet_on); (refine wpT_see 1 (by rfl) (by kernel_rfl) (by kernel_rfl) ?_; intro K hK; go_big_quiet_op; go_big_quiet_on); (refine wpT_see 2 (by rfl) (by kernel_rfl) (by kernel_rfl) ?_; intro K hK; go_big_quiet_op; go_big_quiet_on); (refine wpT_see 3 (by rfl) (by kernel_rfl) (by kernel_rfl) ?_; intro K hK; go_big_quiet_op; go_big_quiet_on); (refine wpT_see 4 (by rfl) (by kernel_rfl) (by kernel_rfl) ?_; intro K hK; go_big_quiet_op; go_big_quiet_on); (refine wpT_see 5 (by rfl) (by kernel_rfl) (by kernel_rfl) ?_; intro K hK; go_big_quiet_op; go_big_quiet_on)
        (refine wpT_see 7 (by rfl) (by kernel_rfl) (by kernel_rfl) ?_; intro K hK; go_big_quiet_op; go_big_quiet_on)
        refine wpT_loud 6 (by rfl) (by kernel_rfl) (by kernel_rfl) ?_
        intro K hK
        go_wp2_with (go_at_call 41; refine (pick_any C ca cc bs at7 r.flanks.length _ (HC7.out.below ((Below.refl _ _).drew)) (by omega) (by omega)).mono ?_; rintro e w8 ⟨q, at8, hq0, rfl, hat8, hc8, ho8⟩)
        have HO8 : Hid (Only (fun k => k = C) w7 w8) := ((Only.refl _ _).drew).trans ho8
        have HC8 := hidP hc8
        have hS8 : S w8 := (HS0.out _).2 (HO8.out.cell c7 (by show ¬ N = C; omega))
        have hqi : (q : Int) < r.flanks.length := by omega
        clear hc8 ho8
        refine hK _ _ (held_some hS8) ?_
        clear hK K
        refine wpT_loud 8 (by rfl) (by kernel_rfl) (by kernel_rfl) ?_
        intro K hK
        go_wp2_with (go_at_call 41; refine (pick_any C ca cc bs at8 4 _ HC8 (by omega) (by omega)).mono ?_; rintro e w9 ⟨p, at9, hp0, rfl, hat9, hc9, ho9⟩)
        have HO9 : Hid (Only (fun k => k = C) w7 w9) := HO8.out.trans ho9
        have HC9 := hidP hc9
        have hS9 : S w9 := (HS0.out _).2 (HO9.out.cell c7 (by show ¬ N = C; omega))
        have hpi : (p : Int) < 4 := by omega
        clear hc9 ho9
        refine hK _ _ (held_some hS9) ?_
        clear hK K
        have hne := held_ne hS9
        (refine wpT_see 9 (by rfl) (by kernel_rfl) (by kernel_rfl) ?_; intro K hK; go_big_quiet_op; go_big_quiet_on)
        refine wpT_done (by kernel_rfl) ?_
        simp only [List.drop_succ_cons, List.drop_zero]
        clear r0 hne hS1 hS8 hS9 HS0
        have hN9 : w9.heap[N]? = w7.heap[N]? := HO9.out.block N (cellLt HRC.out.k0) (by omega)
        have HRC9 : Hid (RouteCell w9 N 0 dd r) := HRC.out.kept hN9
        have HL9 : Hid (LF w9 (N + 2) dd r) := HL7.out.keep (fun b h1 h2 _ => HO9.out.block b h2 (by omega))
        have HOW9 : Hid (Only (fun k => k = C ∨ k = N ∨ N + 2 ≤ k) w7 w9) := HO9.out.mono (fun k hk => Or.inl hk)
        have hqL : q < r.flanks.length := by omega
        have HROW9 := hidP (owns_kept2 HROW.out (fun b hb => HO9.out.block b (HROW.out.lt b hb).2 (by have := (HROW.out.lt b hb).1; omega)))
        have sc := (HROW9.out.cellAt (q * 4 + 1) (by omega)).trans ((flat_get encF 4 (fun _ => rfl) r.flanks q 1 hqL (by omega)).trans rfl)
        have sz := HROW9.out.frozenAt (q * 4 + 1)
        have hgz := cellLt sc
        dsimp only at hgz
        go_wp2_with fail
        go_meet
        exact Bn.setF HRC9.out HL9.out HC9.out hlow.out hCz (by omega) HOW9.out (by omega) HG.out hqL _
    · --A6
      have c7 := HRC.out.k7
      simp only [Nat.zero_add] at c7
      go_upto_region 24 with fail
      obtain ⟨S, hS⟩ : ∃ S : World → Prop, ∀ u, S u ↔ u.cell? ⟨N, 7, none⟩ = some (.slice dd.a5 r.flanks.length dd.c5) := ⟨_, fun _ => Iff.rfl⟩
      have HS0 := hidP hS
      have r0 : ∀ u : Held S, World.cell? u.val ⟨N, 7, none⟩ = some (.slice dd.a5 r.flanks.length dd.c5) := fun u => (hS u.val).1 u.2
      have hS1 : S w7.drew := (hS _).2 c7
      have hne := held_ne hS1
      clear hS
      refine wp_region_tree (fun w' => ∃ u : Held S, w' = u.val) 10 (by kernel_rfl) (by kernel_rfl) (held_some hS1) ?_
      (refine wpT_see 0 (by rfl) (by kernel_rfl) (by kernel_rfl) ?_; intro K hK; go_big_quiet_op; go_big_quiet_on); (refine wpT_see 1 (by rfl) (by kernel_rfl) (by kernel_rfl) ?_; intro K hK; go_big_quiet_op; go_big_quiet_on); (refine wpT_see 2 (by rfl) (by kernel_rfl) (by kernel_rfl) ?_; intro K hK; go_big_quiet_op; go_big_quiet_on)
      (refine wpT_see 4 (by rfl) (by kernel_rfl) (by kernel_rfl) ?_; intro K hK; go_big_quiet_op; go_big_quiet_on)
      refine wpT_loud 3 (by rfl) (by kernel_rfl) (by kernel_rfl) ?_
      intro K hK
      go_wp2_with (go_at_call 41; refine (pick_any C ca cc bs at7 5 _ (HC7.out.below ((Below.refl _ _).drew)) (by omega) (by omega)).mono ?_; rintro e w8 ⟨q, at8, hq0, rfl, hat8, hc8, ho8⟩)
      have HO8 : Hid (Only (fun k => k = C) w7 w8) := ((Only.refl _ _).drew).trans ho8
      have HC8 := hidP hc8
      have hS8 : S w8 := (HS0.out _).2 (HO8.out.cell c7 (by show ¬ N = C; omega))
      have hqi : (q : Int) < 5 := by omega
      clear hc8 ho8
      refine hK _ _ (held_some hS8) ?_
      clear hK K
      refine wpT_loud 5 (by rfl) (by kernel_rfl) (by kernel_rfl) ?_
      intro K hK
      go_wp2_with (go_at_call 41; refine (pick_any C ca cc bs at8 2 _ HC8 (by omega) (by omega)).mono ?_; rintro e w9 ⟨p, at9, hp0, rfl, hat9, hc9, ho9⟩)
      have HO9 : Hid (Only (fun k => k = C) w7 w9) := HO8.out.trans ho9
      have HC9 := hidP hc9
      have hS9 : S w9 := (HS0.out _).2 (HO9.out.cell c7 (by show ¬ N = C; omega))
      have hpi : (p : Int) < 2 := by omega
      clear hc9 ho9
      refine hK _ _ (held_some hS9) ?_
      clear hK K
      have hne := held_ne hS9
      (refine wpT_see 6 (by rfl) (by kernel_rfl) (by kernel_rfl) ?_; intro K hK; go_big_quiet_op; go_big_quiet_on); (refine wpT_see 7 (by rfl) (by kernel_rfl) (by kernel_rfl) ?_; intro K hK; go_big_quiet_op; go_big_quiet_on)
      have hN9 : w9.heap[N]? = w7.heap[N]? := HO9.out.block N (cellLt HRC.out.k0) (by omega)
      have HRC9 : Hid (RouteCell w9 N 0 dd r) := HRC.out.kept hN9
      have HL9 : Hid (LF w9 (N + 2) dd r) := HL7.out.keep (fun b h1 h2 _ => HO9.out.block b h2 (by omega))
      have HOW9 : Hid (Only (fun k => k = C ∨ k = N ∨ N + 2 ≤ k) w7 w9) := HO9.out.mono (fun k hk => Or.inl hk)
      have c9 := HRC9.out.k7
      simp only [Nat.zero_add] at c9
      have f9 := (World.frozen?_of_block (w := w7) (a := ⟨N, 7, none⟩) hN9).trans (HZ7.out 7)
      have hz9 : N + 2 ≤ w9.heap.size := by have := HO9.out.size; omega
      refine wpT_loud 8 (by rfl) (by kernel_rfl) (by kernel_rfl) ?_
      intro K hK
      go_wp2_with fail
      have hSA : ∀ o, S (World.alloc w9 o) := fun o => (HS0.out _).2 (cell_later ((Below.refl w9.heap.size w9).alloc (Nat.le_refl _) o) ((HS0.out _).1 hS9))
      refine hK _ _ (held_some (hSA _)) ?_
      clear hK K hSA
      refine wpT_loud 9 (by rfl) (by kernel_rfl) (by kernel_rfl) ?_
      intro K hK
      refine wpList_push rfl (.tmp 116) (.tmp 123) 40 rfl (N + 2) 57 _ 4 32 Try.underlying40 Try.infoFlank rfl (by decide) (.slice dd.a5 r.flanks.length dd.c5) r.flanks.length (flatF r.flanks) rfl HL9.out.o5 w9.heap.size rfl [.int .i64 1, .int .i64 3, .int .i64 q, .int .i64 (1 + (p : Int))] rfl rfl (by simp [Value.oneCell']) (by unfold maxLen; omega) (by omega) hz9 ?_
      intro xf yf wa hoa hga
      have hoa' : wa.ownsRow (N + 2) 57 4 (.slice xf (r.flanks.length + 1) yf) (r.flanks.length + 1) (flatF (r.flanks ++ [⟨1, 3, q, 1 + (p : Int)⟩])) := by rw [← flatF_push]; exact hoa
      have HBN : Hid (Bn w7 C N (N + 2) ca cc bs (at_ + 50) (wa.setCell ⟨N, 7, none⟩ (.slice xf (r.flanks.length + 1) yf))) := Bn.pushF HRC9.out HL9.out HC9.out hlow.out hCz (by omega) HOW9.out (by omega) (by omega) (f := ⟨1, 3, q, 1 + (p : Int)⟩) ⟨wf_nat (by show (-1000000000 : Int) ≤ q; omega) (by show (q : Int) ≤ 1000000000; omega), wf_nat (by show (-1000000000 : Int) ≤ 1 + p; omega) (by show 1 + (p : Int) ≤ 1000000000; omega)⟩ hga hoa'
      have hNa : wa.heap[N]? = w9.heap[N]? := hga.block N (cellLt HRC9.out.k0) (fun e => by have := (HL9.out.o5.lt N e.symm).1; omega)
      have ca7 := (World.cell?_of_block (w := w9) (a := ⟨N, 7, none⟩) hNa).trans c9
      have fa7 := (World.frozen?_of_block (w := w9) (a := ⟨N, 7, none⟩) hNa).trans f9
      have hSa : S wa := (HS0.out _).2 ca7
      have hza := cellLt ca7
      dsimp only at hza
      refine wpList_nil ⟨rfl, ?_⟩
      refine hK _ _ (held_some hSa) ?_
      clear hK K hoa hoa' hga hNa
      refine wpT_done (by kernel_rfl) ?_
      simp only [List.drop_succ_cons, List.drop_zero]
      clear r0 hne hS1 hS8 hS9 hSa HS0 c7 c9
      go_wp2_with fail
      go_meet
      exact HBN.out
    · --A7
      have c7 := HRC.out.k4
      simp only [Nat.zero_add] at c7
      go_upto_region 26 with fail
      obtain ⟨S, hS⟩ : ∃ S : World → Prop, ∀ u, S u ↔ u.cell? ⟨N, 4, none⟩ = some (.slice dd.a2 r.crosses.length dd.c2) := ⟨_, fun _ => Iff.rfl⟩
      have HS0 := hidP hS
      have r0 : ∀ u : Held S, World.cell? u.val ⟨N, 4, none⟩ = some (.slice dd.a2 r.crosses.length dd.c2) := fun u => (hS u.val).1 u.2
      have hS1 : S w7.drew := (hS _).2 c7
      have hne := held_ne hS1
      clear hS
      refine wp_region_tree (fun w' => ∃ u : Held S, w' = u.val) 6 (by kernel_rfl) (by kernel_rfl) (held_some hS1) ?_
      (refine wpT_see 0 (by rfl) (by kernel_rfl) (by kernel_rfl) ?_; intro K hK; go_big_quiet_op; go_big_quiet_on); (refine wpT_see 1 (by rfl) (by kernel_rfl) (by kernel_rfl) ?_; intro K hK; go_big_quiet_op; go_big_quiet_on); (refine wpT_see 2 (by rfl) (by kernel_rfl) (by kernel_rfl) ?_; intro K hK; go_big_quiet_op; go_big_quiet_on)
      refine wpT_loud 3 (by rfl) (by kernel_rfl) (by kernel_rfl) ?_
      intro K hK
      go_wp2_with (go_at_call 41; refine (pick_any C ca cc bs at7 4 _ (HC7.out.below ((Below.refl _ _).drew)) (by omega) (by omega)).mono ?_; rintro e w9 ⟨p, at9, hp0, rfl, hat9, hc9, ho9⟩)
      have HO9 : Hid (Only (fun k => k = C) w7 w9) := ((Only.refl _ _).drew).trans ho9
      have HC9 := hidP hc9
      have hS9 : S w9 := (HS0.out _).2 (HO9.out.cell c7 (by show ¬ N = C; omega))
      have hpi : (p : Int) < 4 := by omega
      clear hc9 ho9
      refine hK _ _ (held_some hS9) ?_
      clear hK K
      have hN9 : w9.heap[N]? = w7.heap[N]? := HO9.out.block N (cellLt HRC.out.k0) (by omega)
      have HRC9 : Hid (RouteCell w9 N 0 dd r) := HRC.out.kept hN9
      have HL9 : Hid (LF w9 (N + 2) dd r) := HL7.out.keep (fun b h1 h2 _ => HO9.out.block b h2 (by omega))
      have HOW9 : Hid (Only (fun k => k = C ∨ k = N ∨ N + 2 ≤ k) w7 w9) := HO9.out.mono (fun k hk => Or.inl hk)
      have c9 := HRC9.out.k4
      simp only [Nat.zero_add] at c9
      have f9 := (World.frozen?_of_block (w := w7) (a := ⟨N, 4, none⟩) hN9).trans (HZ7.out 4)
      have hz9 : N + 2 ≤ w9.heap.size := by have := HO9.out.size; omega
      have HR9 : Hid (R6 w9 (N + 2) dd r) := HR7.out.kept (fun b h1 h2 => HO9.out.block b h2 (by omega))
      refine wpT_loud 4 (by rfl) (by kernel_rfl) (by kernel_rfl) ?_
      intro K hK
      go_wp2_with fail
      have hSA : ∀ o, S (World.alloc w9 o) := fun o => (HS0.out _).2 (cell_later ((Below.refl w9.heap.size w9).alloc (Nat.le_refl _) o) ((HS0.out _).1 hS9))
      refine hK _ _ (held_some (hSA _)) ?_
      clear hK K hSA
      refine wpT_loud 5 (by rfl) (by kernel_rfl) (by kernel_rfl) ?_
      intro K hK
      refine wpList_push rfl (.tmp 129) (.tmp 132) 34 rfl (N + 2) 3 _ 1 8 Try.underlying34 Try.infoInt rfl (by decide) (.slice dd.a2 r.crosses.length dd.c2) r.crosses.length (flatN r.crosses) rfl HR9.out.o2 w9.heap.size rfl [.int .i64 p] rfl rfl (by simp [Value.oneCell']) (by unfold maxLen; omega) (by omega) hz9 ?_
      intro xf yf wa hoa hga
      have hNa : wa.heap[N]? = w9.heap[N]? := hga.block N (cellLt HRC9.out.k0) (fun e => by have := (HR9.out.o2.lt N e.symm).1; omega)
      have ca7 := (World.cell?_of_block (w := w9) (a := ⟨N, 4, none⟩) hNa).trans c9
      have fa7 := (World.frozen?_of_block (w := w9) (a := ⟨N, 4, none⟩) hNa).trans f9
      have HBA : Hid (Bn w7 C N (N + 2) ca cc bs (at_ + 50) wa) := Bn.row HRC9.out HL9.out HC9.out hlow.out hCz (by omega) HOW9.out (by omega) HR9.out.o2 (by decide) (by decide) hga
      have HRCa : Hid (RouteCell wa N 0 dd r) := HRC9.out.kept hNa
      have HLa : Hid (LF wa (N + 2) dd r) := HL9.out.keep (fun b _ h2 h3 => hga.block b h2 (fun e => by
        rcases h3 with h3 | h3
        · exact h3.ne HR9.out.o2 (by decide) e.symm
        · exact h3.ne HR9.out.o2 (by decide) e.symm))
      have HCa : Hid (Cur wa C ca cc bs at9) := HC9.out.above hlow.out (fun k hk => hga.block k (by have := HC9.out.lt; omega) (fun e => by have := (HR9.out.o2.lt k e.symm).1; omega))
      have HOa : Hid (Only (fun k => k = C ∨ k = N ∨ N + 2 ≤ k) w7 wa) := HOW9.out.trans (Only.grown hga (fun b e => Or.inr (Or.inr (HR9.out.o2.lt b e).1)))
      have HBN : Hid (Bn w7 C N (N + 2) ca cc bs (at_ + 50) (wa.setCell ⟨N, 4, none⟩ (.slice xf (r.crosses.length + 1) yf))) := Bn.put (d' := ⟨dd.a0, dd.c0, dd.a1, dd.c1, xf, yf, dd.a3, dd.c3, dd.a4, dd.c4, dd.a5, dd.c5⟩) (r' := ⟨r.start, r.stop, r.steps, r.lies, r.crosses ++ [(p : Int)], r.parts, r.over, r.flanks⟩) HRCa.out HLa.out HCa.out hlow.out hCz (by omega) HOa.out (by omega) 4 (by omega) _ (by simp [encR]) rfl rfl rfl rfl rfl rfl
      have hSa : S wa := (HS0.out _).2 ca7
      have hza := cellLt ca7
      dsimp only at hza
      refine wpList_nil ⟨rfl, ?_⟩
      refine hK _ _ (held_some hSa) ?_
      clear hK K hoa hga hNa HBA
      refine wpT_done (by kernel_rfl) ?_
      simp only [List.drop_succ_cons, List.drop_zero]
      clear r0 hne hS1 hS9 hSa HS0 c7 c9
      go_wp2_with fail
      go_meet
      exact HBN.out
    · --A8
      go_wp2_with fail
      refine (pick_any C ca cc bs at7 4 w7 HC7 (by omega) (by omega)).mono ?_
      rintro e w8 ⟨p, at8, hp, rfl, hat8, hc8, ho8⟩
      have HC8 := hidP hc8
      have hN8 : w8.heap[N]? = w7.heap[N]? := ho8.block N (cellLt HRC.out.k0) (by omega)
      have HRC8 : Hid (RouteCell w8 N 0 dd r) := HRC.out.kept hN8
      have f8 := (World.frozen?_of_block (w := w7) (a := ⟨N, 0, none⟩) hN8).trans (HZ7.out 0)
      have c8 := HRC8.out.k0
      have hz8 := cellLt c8
      dsimp only at hz8
      have HL8 : Hid (LF w8 (N + 2) dd r) := HL7.out.keep (fun b h1 h2 _ => ho8.block b h2 (by omega))
      have HO8 : Hid (Only (fun k => k = C ∨ k = N ∨ N + 2 ≤ k) w7 w8) := ho8.mono (fun k hk => Or.inl hk)
      have hpi : (p : Int) < 4 := by omega
      clear hc8 ho8 hN8
      go_wp2_with fail
      go_meet
      exact Bn.put (d' := dd) (r' := ⟨(p : Int), r.stop, r.steps, r.lies, r.crosses, r.parts, r.over, r.flanks⟩) HRC8.out HL8.out HC8.out hlow.out hCz (by omega) HO8.out (by omega) 0 (by omega) _ rfl rfl rfl rfl rfl rfl rfl
  case rest =>
    obtain ⟨d', r', at', hrc, hlf, hat', hc', ho'⟩ := hcut.out
    have k0 := hrc.k0
    have k1 := hrc.k1
    have k2 := hrc.k2
    have k3 := hrc.k3
    have k4 := hrc.k4
    have k5 := hrc.k5
    have k6 := hrc.k6
    have k7 := hrc.k7
    have hRb : wc.heap[R]? = w7.heap[R]? := ho'.block R (by omega) (by omega)
    have hr0 := HRC0.out.kept hRb
    have l0 := hr0.k0
    have l1 := hr0.k1
    have l2 := hr0.k2
    have l3 := hr0.k3
    have l4 := hr0.k4
    have l5 := hr0.k5
    have l6 := hr0.k6
    have l7 := hr0.k7
    simp only [Nat.zero_add] at k0 k1 k2 k3 k4 k5 k6 k7 l0 l1 l2 l3 l4 l5 l6 l7
    simp only [List.length_nil] at l2 l3 l4 l5 l6 l7
    have g0 := (World.frozen?_of_block (w := w7) (a := ⟨R, 0, none⟩) hRb).trans (HRZ7.out 0)
    have g1 := (World.frozen?_of_block (w := w7) (a := ⟨R, 1, none⟩) hRb).trans (HRZ7.out 1)
    have g2 := (World.frozen?_of_block (w := w7) (a := ⟨R, 2, none⟩) hRb).trans (HRZ7.out 2)
    have g3 := (World.frozen?_of_block (w := w7) (a := ⟨R, 3, none⟩) hRb).trans (HRZ7.out 3)
    have g4 := (World.frozen?_of_block (w := w7) (a := ⟨R, 4, none⟩) hRb).trans (HRZ7.out 4)
    have g5 := (World.frozen?_of_block (w := w7) (a := ⟨R, 5, none⟩) hRb).trans (HRZ7.out 5)
    have g6 := (World.frozen?_of_block (w := w7) (a := ⟨R, 6, none⟩) hRb).trans (HRZ7.out 6)
    have g7 := (World.frozen?_of_block (w := w7) (a := ⟨R, 7, none⟩) hRb).trans (HRZ7.out 7)
    have HLF := hidP hlf
    have HC := hidP hc'
    have HO := hidP ho'
    have hnR : N ≠ R := by omega
    have hRz := cellLt l0
    dsimp only at hRz
    clear hrc hlf hc' ho' hcut hRb hr0
    go_wp2_with fail
    refine bodyPost_ret (v := .agg #[.int .i64 r'.start, .int .i64 r'.stop, .slice d'.a0 r'.steps.length d'.c0, .slice d'.a1 r'.lies.length d'.c1, .slice d'.a2 r'.crosses.length d'.c2, .slice d'.a3 r'.parts.length d'.c3, .slice d'.a4 r'.over.length d'.c4, .slice d'.a5 r'.flanks.length d'.c5]) (by simp [results, Try.results55, go_sem, l0, l1, l2, l3, l4, l5, l6, l7]) rfl ?_
    generalize hwf : World.setCell (World.setCell (World.setCell (World.setCell (World.setCell (World.setCell (World.setCell (World.setCell wc _ _) _ _) _ _) _ _) _ _) _ _) _ _) _ _ = wf
    have hk : ∀ b, b ≠ R → wf.heap[b]? = wc.heap[b]? := fun b hb => by rw [← hwf, Below.heap_setCell _ _ _ _ hb, Below.heap_setCell _ _ _ _ hb, Below.heap_setCell _ _ _ _ hb, Below.heap_setCell _ _ _ _ hb, Below.heap_setCell _ _ _ _ hb, Below.heap_setCell _ _ _ _ hb, Below.heap_setCell _ _ _ _ hb, Below.heap_setCell _ _ _ _ hb]
    have hon : Only (fun k => k = R) wc wf := by
      rw [← hwf]
      exact (((((((Only.setCell (S := fun k => k = R) (Only.refl _ _) (p := ⟨R, 0, none⟩) (Or.inl rfl) _).setCell (p := ⟨R, 1, none⟩) (Or.inl rfl) _).setCell (p := ⟨R, 2, none⟩) (Or.inl rfl) _).setCell (p := ⟨R, 3, none⟩) (Or.inl rfl) _).setCell (p := ⟨R, 4, none⟩) (Or.inl rfl) _).setCell (p := ⟨R, 5, none⟩) (Or.inl rfl) _).setCell (p := ⟨R, 6, none⟩) (Or.inl rfl) _).setCell (p := ⟨R, 7, none⟩) (Or.inl rfl) _
    have hw := HNw.out
    have hlf2 := HLF.out.keep (w' := wf) (fun b h1 _ _ => hk b (by omega))
    refine ⟨d', r', at', rfl, ⟨owns_base hlf2.o1 (by omega), owns_base hlf2.o5 (by omega), hlf2.l1, hlf2.l5, hlf2.wf⟩, by omega, HC.out.above hlow.out (fun k h => hk k (by omega)), ?_⟩
    have h1 := HOW.out
    have h2 := HO.out
    exact ⟨hon.os.trans (h2.os.trans h1.os), hon.tape.trans (h2.tape.trans h1.tape), hon.output.trans (h2.output.trans h1.output), by have a1 := h1.size; have a2 := h2.size; have a3 := hon.size; omega, fun b hb hn => (hk b (by omega)).trans ((h2.block b (by have := h1.size; omega) (by omega)).trans (h1.block b hb hn))⟩
end Go.Proofs.Ytmkdgnmmebldgaa
