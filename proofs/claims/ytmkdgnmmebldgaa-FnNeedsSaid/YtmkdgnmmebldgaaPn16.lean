import Derived.Test.YtmkdgnmmebldgaaPn15
import Derived.Deep.RegionLaw
import Derived.Deep.DeepCutAuto
import Derived.BigQuiet
import Derived.Laws.ShiftsVarLaws
namespace Go.Proofs.Ytmkdgnmmebldgaa
open Go.RowKit Go.Deep
def Later (W : World) : Type := {u : World // Below W.heap.size W u}
theorem later_some (W : World) : Nonempty (Later W) := ⟨⟨W, Below.refl _ _⟩⟩
theorem Later.cell {W : World} {p : Addr} {v : Value} (h : W.cell? p = some v) : ∀ u : Later W, World.cell? u.val p = some v := fun u => cell_later u.2 h
theorem Later.calls {P : Program} {W : World} {f : FuncId} {args : Array Value} {v : Value} (u : Later W) (h : Calls P f args u.val fun e w' => e = .returned v ∧ Below (World.heap u.val).size u.val w') : Calls P f args u.val fun e w'' => e = .returned v ∧ ∃ u' : Later W, w'' = u'.val :=
  h.mono fun _ w2 ⟨he, hb⟩ => ⟨he, ⟨⟨w2, u.2.trans (hb.mono u.2.size)⟩, rfl⟩⟩
theorem wp_region_later {P : Program} {id : Nat} {Q : Exit → Act → World → Prop} {a : Act} {w : World} {l : List Oper} (hm : P.follows .mixedOrders = true) (hB : Region.lexB .any l.toArray = true)
    (h : wpQuiet P l.toArray (fun w' => ∃ u : Later w, w' = u.val) (fun a' => ∀ w', (∃ u : Later w, w' = u.val) → Q .normal a' w') l a) : (Code.region id l.toArray true).wp P Q a w :=
  wp_region_quiet (C := fun w' => ∃ u : Later w, w' = u.val) hm hB ⟨⟨w.drew, (Below.refl _ _).drew⟩, rfl⟩ (by simpa using h)
theorem step_push {P : Program} {Wp : World} {ops : Array Oper} {o : Oper} {a : Act} {K : Act → World → Prop} {Q : Exit → Act → World → Prop} {E : Prop} (hgd : o.guard = none) (s x : Operand) (t : TypeId)
    (ho : o.op = .call { callee := .builtin .append, args := #[s, x], argTypes := #[t, t] })
    (B : Nat) (e : TypeId) (z : Value) (size bytes : Nat) (ht : P.underlying t = some (.slice e)) (hi : (P.info? e).map (fun i => (i.zero, i.size, i.bytes)) = some (some z, size, bytes)) (hzs : z.cells.size = size) (hsz : 0 < size)
    (v : Value) (n : Nat) (xs : List Value) (hs : a.eval s = v) (hown : Wp.ownsRow B e size v n xs)
    (g : Nat) (hgs : g = Wp.heap.size) (news : List Value) (hx : a.eval x = .slice (some ⟨g, 0, none⟩) 1 1) (hl : news.length = size) (h1 : ∀ u ∈ news, u.oneCell' = true)
    (h63 : n + 1 ≤ maxLen) (hbytes : (n + 1) * bytes ≤ 140737488355328) (hB : B ≤ Wp.heap.size)
    (h : ∀ x' y' w', w'.ownsRow B e size (.slice x' (n + 1) y') (n + 1) (xs ++ news) → Wp.grownBy w' v.ownBlock → Tame Wp v (.slice x' (n + 1) y') → K (a.put o.dst (.slice x' (n + 1) y')) w') :
    if Region.wanted o (yielded ops a.tmps) = true then Oper.wp P o a ((Wp.alloc (.cells news.toArray e)).drew) K Q else E := by
  subst hgs
  obtain ⟨i, hi1, hi2, hi3, hi4⟩ := info_parts hi
  refine step_append_lies _ hgd s x t ho B e i z size bytes ht hi1 hi2 hi3 hi4 hzs hsz v n xs hs (hown.alloc _).drew ⟨Wp.heap.size, 0, none⟩ 1 1 news hx (by omega) ?_ h1 (by omega) h63 hbytes (by simp; omega) _ rfl ?_
  · intro j u hu
    rw [addr_at, Nat.zero_add]
    have := cell_of_row (Wp.alloc (.cells news.toArray e)) Wp.heap.size j news.toArray e (0, 0) (heap_alloc_new Wp _)
    refine Eq.trans this ?_
    simpa using hu
  · intro g cap w' ho' hg' hq _
    refine h _ _ w' ho' ⟨hg'.os, hg'.tape, hg'.output, Nat.le_trans (by simp) hg'.size, fun k hk hne => ?_⟩ (fun b hb => ?_)
    · exact (hg'.block k (by simp; omega) hne).trans (Below.heap_alloc _ _ _ hk)
    · cases hb
      rcases hq with hq | hq
      · exact Or.inl hq
      · right
        rw [hq]
        simp
theorem wpList_push2 {P : Program} {Wp : World} {ops : Array Oper} {rest : List Oper} {o : Oper} {a : Act} {Q : Exit → Act → World → Prop} (hgd : o.guard = none) (s x : Operand) (t : TypeId)
    (ho : o.op = .call { callee := .builtin .append, args := #[s, x], argTypes := #[t, t] })
    (B : Nat) (e : TypeId) (z : Value) (size bytes : Nat) (ht : P.underlying t = some (.slice e)) (hi : (P.info? e).map (fun i => (i.zero, i.size, i.bytes)) = some (some z, size, bytes)) (hzs : z.cells.size = size) (hsz : 0 < size)
    (v : Value) (n : Nat) (xs : List Value) (hs : a.eval s = v) (hown : Wp.ownsRow B e size v n xs)
    (g : Nat) (hgs : g = Wp.heap.size) (news : List Value) (hx : a.eval x = .slice (some ⟨g, 0, none⟩) 1 1) (hl : news.length = size) (h1 : ∀ u ∈ news, u.oneCell' = true)
    (h63 : n + 1 ≤ maxLen) (hbytes : (n + 1) * bytes ≤ 140737488355328) (hB : B ≤ Wp.heap.size)
    (h : ∀ x' y' w', w'.ownsRow B e size (.slice x' (n + 1) y') (n + 1) (xs ++ news) → Wp.grownBy w' v.ownBlock → Tame Wp v (.slice x' (n + 1) y') → wpList P ops Q rest (a.put o.dst (.slice x' (n + 1) y')) w') : wpList P ops Q (o :: rest) a (Wp.alloc (.cells news.toArray e)) := by
  subst hgs
  obtain ⟨i, hi1, hi2, hi3, hi4⟩ := info_parts hi
  refine wpList_append_lies _ hgd s x t ho B e i z size bytes ht hi1 hi2 hi3 hi4 hzs hsz v n xs hs (hown.alloc _) ⟨Wp.heap.size, 0, none⟩ 1 1 news hx (by omega) ?_ h1 (by omega) h63 hbytes (by simp; omega) _ rfl ?_
  · intro j u hu
    rw [addr_at, Nat.zero_add]
    have := cell_of_row (Wp.alloc (.cells news.toArray e)) Wp.heap.size j news.toArray e (0, 0) (heap_alloc_new Wp _)
    rw [this]
    simpa using hu
  · intro g cap w' ho' hg' hq _
    refine h _ _ w' ho' ⟨hg'.os, hg'.tape, hg'.output, Nat.le_trans (by simp) hg'.size, fun k hk hne => ?_⟩ (fun b hb => ?_)
    · exact (hg'.block k (by simp; omega) hne).trans (Below.heap_alloc _ _ _ hk)
    · cases hb
      rcases hq with hq | hq
      · exact Or.inl hq
      · right
        rw [hq]
        simp
def FlankPost (w0 w : World) (B F Q : Nat) (pa ja sa la : Option Addr) (pc jc sc lc : Nat) (np nj ns : Nat) (lies : List MLie) (vs vf : Value) (st : List MEnd × List MFlank) (e : Ending) (w' : World) : Prop :=
  e = .returned (.tuple #[]) ∧ (∃ xs ys xf yf, LK w0 w' B F Q pa ja sa la pc jc sc lc np nj ns lies xs ys xf yf st ∧ Tame w vs (.slice xs st.1.length ys) ∧ Tame w vf (.slice xf st.2.length yf)) ∧ Turn F Q vs vf w w'
def LookSpec (w0 : World) (B F Q : Nat) (pa ja sa la : Option Addr) (pc jc sc lc : Nat) (ps : List MPiece) (js : List MJoint) (ss : List MPiece) (lies : List MLie) (pl : Int) (n : Nat) : Prop :=
  ∀ (st : List MEnd × List MFlank) (e : MEnd) (xs : Option Addr) (ys : Nat) (xf : Option Addr) (yf : Nat) (w : World), Hid (LK w0 w B F Q pa ja sa la pc jc sc lc ps.length js.length ss.length lies xs ys xf yf st) → Hid (Seen ps st.1) → Hid (ValidE ps e) →
    st.2.length + 2 * ps.length ≤ 100000 + st.1.length → 2 * ps.length + 1 ≤ n + st.1.length →
    Calls Try.prog 150 #[.pointer (some ⟨F, 0, none⟩), .pointer (some ⟨Q, 0, none⟩), .int .i64 pl, endV e] w (FlankPost w0 w B F Q pa ja sa la pc jc sc lc ps.length js.length ss.length lies (.slice xs st.1.length ys) (.slice xf st.2.length yf) (lookF js ss lies pl n st e))
theorem Only.later {S : Nat → Prop} {a b c : World} (h : Only S a b) (k : Below b.heap.size b c) : Only S a c := h.trans (Only.of_below k)
end Go.Proofs.Ytmkdgnmmebldgaa

namespace Go.Proofs.Ytmkdgnmmebldgaa
open Go.RowKit Go.Deep
def ByteCells (w : World) (b off : Nat) (bs : List Int) : Prop := ∀ i (h : i < bs.length), w.cell? ⟨b, off + i, none⟩ = some (.int .u8 bs[i])
structure Cur (w : World) (C : Nat) (ca : Option Addr) (cc : Nat) (bs : List Int) (at_ : Nat) : Prop where
  c0 : w.cell? ⟨C, 0, none⟩ = some (.slice ca bs.length cc)
  c1 : w.cell? ⟨C, 1, none⟩ = some (.int .i64 (at_ : Int))
  c2 : ∃ s, w.cell? ⟨C, 2, none⟩ = some (.int .u64 s)
  z : ∀ o, w.frozen? ⟨C, o, none⟩ = false
  lie : bs = [] ∨ ∃ b off, ca = some ⟨b, off, none⟩ ∧ b ≠ C ∧ ByteCells w b off bs
  small : ∀ x ∈ bs, 0 ≤ x ∧ x < 256
  len : bs.length ≤ 1048576
  sz : ∀ o, 3 ≤ o → w.cell? ⟨C, o, none⟩ = none
section
variable {w w' : World} {C : Nat} {ca : Option Addr} {cc : Nat} {bs : List Int} {at_ : Nat}
theorem Cur.lt (h : Cur w C ca cc bs at_) : C < w.heap.size := cellLt h.c0
theorem Cur.below (h : Cur w C ca cc bs at_) (hb : Below w.heap.size w w') : Cur w' C ca cc bs at_ := by
  obtain ⟨s, hs⟩ := h.c2
  refine ⟨cell_later hb h.c0, cell_later hb h.c1, ⟨s, cell_later hb hs⟩, fun o => (hb.frozen (p := ⟨C, o, none⟩) h.lt).trans (h.z o), ?_, h.small, h.len, fun o ho => (World.cell?_of_block (w := w) (hb.block C h.lt)).trans (h.sz o ho)⟩
  rcases h.lie with h1 | ⟨b, off, h1, h2, h3⟩
  · exact Or.inl h1
  · exact Or.inr ⟨b, off, h1, h2, fun i hi => cell_later hb (h3 i hi)⟩
theorem Cur.bytes_set (h : Cur w C ca cc bs at_) (o : Nat) (v : Value) : bs = [] ∨ ∃ b off, ca = some ⟨b, off, none⟩ ∧ b ≠ C ∧ ByteCells (w.setCell ⟨C, o, none⟩ v) b off bs := by
  rcases h.lie with h1 | ⟨b, off, h1, h2, h3⟩
  · exact Or.inl h1
  · refine Or.inr ⟨b, off, h1, h2, fun i hi => ?_⟩
    refine (World.cell?_of_block (w := w) ?_).trans (h3 i hi)
    exact Below.heap_setCell _ _ _ _ h2
theorem Cur.set1 (h : Cur w C ca cc bs at_) (n : Nat) : Cur (w.setCell ⟨C, 1, none⟩ (.int .i64 (n : Int))) C ca cc bs n := by
  obtain ⟨s0, hs⟩ := h.c2
  refine ⟨?_, World.cell?_setCell_same _ _ _ h.c1, ⟨s0, ?_⟩, fun o => by rw [World.frozen?_setCell]; exact h.z o, h.bytes_set _ _, h.small, h.len, fun o ho => by rw [World.cell?_setCell_other _ _ _ _ (by intro e; injection e; omega)]; exact h.sz o ho⟩
  · rw [World.cell?_setCell_other _ _ _ _ (by simp)]; exact h.c0
  · rw [World.cell?_setCell_other _ _ _ _ (by simp)]; exact hs
theorem Cur.set2 (h : Cur w C ca cc bs at_) (s : Int) : Cur (w.setCell ⟨C, 2, none⟩ (.int .u64 s)) C ca cc bs at_ := by
  obtain ⟨s0, hs⟩ := h.c2
  refine ⟨?_, ?_, ⟨s, World.cell?_setCell_same _ _ _ hs⟩, fun o => by rw [World.frozen?_setCell]; exact h.z o, h.bytes_set _ _, h.small, h.len, fun o ho => by rw [World.cell?_setCell_other _ _ _ _ (by intro e; injection e; omega)]; exact h.sz o ho⟩
  · rw [World.cell?_setCell_other _ _ _ _ (by simp)]; exact h.c0
  · rw [World.cell?_setCell_other _ _ _ _ (by simp)]; exact h.c1
end
theorem and255 (a : Int) (h0 : 0 ≤ a) (h1 : a < 18446744073709551616) : ∃ x : Nat, x < 256 ∧ wrap64 (bits .and .u64 a 255) = (x : Int) := by
  obtain ⟨n, rfl⟩ : ∃ n : Nat, a = n := ⟨a.toNat, by omega⟩
  have e : bits .and .u64 (n : Int) 255 = ((n &&& 255 : Nat) : Int) := u64_and_nat n 255 (by omega) (by omega)
  have hl : n &&& 255 ≤ 255 := Nat.and_le_right
  refine ⟨n &&& 255, by omega, ?_⟩
  rw [e]
  generalize n &&& 255 = m at hl
  unfold wrap64
  omega
theorem u64_range (x : Int) : 0 ≤ IntKind.u64.wrap x / 1099511627776 ∧ IntKind.u64.wrap x / 1099511627776 < 18446744073709551616 := by
  rw [IntKind.wrap_u64]
  omega
set_option maxHeartbeats 2000000 in
theorem next_any (C : Nat) (ca : Option Addr) (cc : Nat) (bs : List Int) (at_ : Nat) (w : World) (h : Hid (Cur w C ca cc bs at_)) (ha : at_ ≤ 1000000000) :
    Calls Try.prog 99 #[.pointer (some ⟨C, 0, none⟩)] w fun e w' => ∃ x : Nat, x < 256 ∧ e = .returned (.int .i64 (x : Int)) ∧ Cur w' C ca cc bs (at_ + 1) ∧ Only (fun k => k = C) w w' := by
  have c0 := h.out.c0
  have c1 := h.out.c1
  obtain ⟨s, c2⟩ := h.out.c2
  have z1 := h.out.z 1
  have z2 := h.out.z 2
  have hlen := h.out.len
  go_enter Try.func99, Try.ntmps99
  by_cases hc : at_ < bs.length
  · obtain ⟨b, off, hca, hne, hcl⟩ := h.out.lie.resolve_left (fun h => by rw [h] at hc; exact absurd hc (Nat.not_lt_zero _))
    subst hca
    have d0 := hcl at_ hc
    have hsm := h.out.small _ (List.getElem_mem hc)
    have hci : (at_ : Int) < bs.length := by omega
    have hCz := h.out.lt
    have hbz := cellLt d0
    dsimp only at hbz
    generalize bs[at_] = bv at d0 hsm
    obtain ⟨bn, hbn⟩ : ∃ bn : Nat, bv = bn := ⟨bv.toNat, by omega⟩
    subst hbn
    clear hcl
    go_wp2_with fail
    go_quiet (fail)
    go_wp2_with fail
    go_quiet (fail)
    go_wp2_with fail
    refine bodyPost_ret (v := .int .i64 (bn : Int)) (by simp [results, Try.results99, go_sem]) rfl ⟨bn, by omega, rfl, ?_, ?_⟩
    · refine Cur.set2 (Cur.set1 (h.out.below ?_) (at_ + 1)) _
      exact blo
    · refine Only.setCell (S := fun k => k = C) (p := ⟨C, 2, none⟩) (Only.setCell (S := fun k => k = C) (p := ⟨C, 1, none⟩) (Only.of_below ?_) (Or.inl rfl) _) (Or.inl rfl) _
      exact blo
  · have hci : ¬ (at_ : Int) < bs.length := by omega
    go_wp2_with fail
    go_quiet (fail)
    go_wp2_with fail
    obtain ⟨x, hx, e⟩ := and255 (IntKind.u64.wrap (IntKind.u64.wrap (s * 6364136223846793005) + 1442695040888963407) / 1099511627776) (u64_range _).1 (u64_range _).2
    rw [e]
    refine bodyPost_ret (v := .int .i64 (x : Int)) (by simp [results, Try.results99, go_sem]) rfl ⟨x, hx, rfl, ?_, ?_⟩
    · refine Cur.set1 (Cur.set2 (h.out.below ?_) _) (at_ + 1)
      exact blo
    · refine Only.setCell (S := fun k => k = C) (p := ⟨C, 1, none⟩) (Only.setCell (S := fun k => k = C) (p := ⟨C, 2, none⟩) (Only.of_below ?_) (Or.inl rfl) _) (Or.inl rfl) _
      exact blo
theorem rem_nat (z : Nat) {n : Int} (h : 0 < n) : ∃ r : Nat, (z : Int) % n = r ∧ (r : Int) < n := by
  have h1 := Int.emod_nonneg (z : Int) (show n ≠ 0 by omega)
  have h2 := Int.emod_lt_of_pos (z : Int) h
  exact ⟨((z : Int) % n).toNat, by omega, by omega⟩
def Drew (C : Nat) (ca : Option Addr) (cc : Nat) (bs : List Int) (at_ k : Nat) (n : Int) (w : World) (e : Ending) (w' : World) : Prop :=
  ∃ (x at' : Nat), (x : Int) < n ∧ e = .returned (.int .i64 (x : Int)) ∧ at' ≤ at_ + k ∧ Cur w' C ca cc bs at' ∧ Only (fun k => k = C) w w'
set_option maxHeartbeats 2000000 in
theorem pick_any (C : Nat) (ca : Option Addr) (cc : Nat) (bs : List Int) (at_ : Nat) (n : Int) (w : World) (h : Hid (Cur w C ca cc bs at_)) (ha : at_ ≤ 900000000) (hn : n ≤ 100000) :
    Calls Try.prog 41 #[.pointer (some ⟨C, 0, none⟩), .int .i64 n] w (Drew C ca cc bs at_ 2 (max n 1) w) := by
  go_enter Try.func41, Try.ntmps41
  by_cases h1 : n ≤ 1
  · go_wp2_with fail
    refine bodyPost_ret (v := .int .i64 ((0 : Nat) : Int)) (by simp [results, Try.results41, go_sem]) rfl ⟨0, at_, by omega, rfl, by omega, h.out, Only.refl _ _⟩
  · have h1' : ¬ n ≤ 1 := h1
    go_wp2_with fail
    refine (next_any C ca cc bs at_ w h (by omega)).mono ?_
    rintro e w1 ⟨x, hx, rfl, hc1, ho1⟩
    have HC1 := hidP hc1
    clear hc1
    by_cases h2 : 200 < n
    · go_wp2_with fail
      refine (next_any C ca cc bs (at_ + 1) w1 HC1 (by omega)).mono ?_
      rintro e w2 ⟨y, hy, rfl, hc2, ho2⟩
      have HC2 := hidP hc2
      clear hc2
      have hxy : ∃ z : Nat, (x : Int) * 256 + y = z ∧ z < 65536 := ⟨x * 256 + y, by omega, by omega⟩
      obtain ⟨z, hz, hzl⟩ := hxy
      go_wp2_with fail
      obtain ⟨r, hr, hrl⟩ := rem_nat z (show 0 < n by omega)
      rw [hr]
      refine bodyPost_ret (v := .int .i64 (r : Int)) (by simp [results, Try.results41, go_sem]) rfl ⟨r, at_ + 1 + 1, by omega, rfl, by omega, HC2.out, ho1.trans ho2⟩
    · go_wp2_with fail
      obtain ⟨r, hr, hrl⟩ := rem_nat x (show 0 < n by omega)
      rw [hr]
      refine bodyPost_ret (v := .int .i64 (r : Int)) (by simp [results, Try.results41, go_sem]) rfl ⟨r, at_ + 1, by omega, rfl, by omega, HC1.out, ho1⟩
set_option maxHeartbeats 2000000 in
theorem wide_any (C : Nat) (ca : Option Addr) (cc : Nat) (bs : List Int) (at_ : Nat) (n : Int) (w : World) (h : Hid (Cur w C ca cc bs at_)) (ha : at_ ≤ 900000000) (hn : 1 ≤ n) :
    Calls Try.prog 40 #[.pointer (some ⟨C, 0, none⟩), .int .i64 n] w (Drew C ca cc bs at_ 2 n w) := by
  go_enter Try.func40, Try.ntmps40
  go_wp2_with fail
  refine (next_any C ca cc bs at_ w h (by omega)).mono ?_
  rintro e w1 ⟨x, hx, rfl, hc1, ho1⟩
  have HC1 := hidP hc1
  clear hc1
  go_wp2_with fail
  refine (next_any C ca cc bs (at_ + 1) w1 HC1 (by omega)).mono ?_
  rintro e w2 ⟨y, hy, rfl, hc2, ho2⟩
  have HC2 := hidP hc2
  clear hc2
  have hxy : ∃ z : Nat, (x : Int) * 256 + y = z ∧ z < 65536 := ⟨x * 256 + y, by omega, by omega⟩
  obtain ⟨z, hz, hzl⟩ := hxy
  have hn0 : n ≠ 0 := by omega
  go_wp2_with fail
  obtain ⟨r, hr, hrl⟩ := rem_nat z (show 0 < n by omega)
  rw [hr]
  refine bodyPost_ret (v := .int .i64 (r : Int)) (by simp [results, Try.results40, go_sem]) rfl ⟨r, at_ + 1 + 1, hrl, rfl, by omega, HC2.out, ho1.trans ho2⟩
end Go.Proofs.Ytmkdgnmmebldgaa
