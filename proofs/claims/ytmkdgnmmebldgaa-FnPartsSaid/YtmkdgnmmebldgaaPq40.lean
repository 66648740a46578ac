import Derived.Test.YtmkdgnmmebldgaaPq39
namespace Go.Proofs.Ytmkdgnmmebldgaa
open Go.RowKit Go.Deep Go.Maps
def seenF (D : ∀ p : Prop, Decidable p) (L : List MEnd) (v : Value) : Int := @ite _ (∃ x, x ∈ L ∧ endV x = v) (D _) 1 0
theorem seenF_at (L : List MEnd) (e : MEnd) : seenF Classical.propDecidable L (endV e) = if L.any (fun x => sameE x e) = true then 1 else 0 := by
  unfold seenF
  by_cases h : L.any (fun x => sameE x e) = true
  · rw [if_pos h, if_pos]
    obtain ⟨x, hx, h2⟩ := List.any_eq_true.1 h
    exact ⟨x, hx, by rw [sameE_iff.1 h2]⟩
  · rw [if_neg h, if_neg]
    rintro ⟨x, hx, h2⟩
    exact h (List.any_eq_true.2 ⟨x, hx, sameE_iff.2 (endV_inj h2)⟩)
theorem seenF_put {L : List MEnd} {e : MEnd} : seenF Classical.propDecidable (L ++ [e]) (endV e) = 1 := by
  unfold seenF
  rw [if_pos ⟨e, by simp, rfl⟩]
theorem seenF_other {L : List MEnd} {e : MEnd} {v : Value} (h : v ≠ endV e) : seenF Classical.propDecidable (L ++ [e]) v = seenF Classical.propDecidable L v := by
  unfold seenF
  by_cases hx : ∃ x, x ∈ L ∧ endV x = v
  · rw [if_pos hx, if_pos]
    obtain ⟨x, h1, h2⟩ := hx
    exact ⟨x, by simp [h1], h2⟩
  · rw [if_neg hx, if_neg]
    rintro ⟨x, h1, h2⟩
    rcases List.mem_append.1 h1 with h1 | h1
    · exact hx ⟨x, h1, h2⟩
    · have : x = e := by simpa using h1
      subst this
      exact h h2.symm
def lookC (KT M2 : Nat) (at_ : Int) (la : Option Addr) (ln lc : Nat) (v : Value) : Array Value := #[.pointer (some ⟨KT, 0, none⟩), .slice la ln lc, .int .i64 at_, .map (some M2), v]
structure LBase (w : World) (ps : List MPiece) (KT O M2 : Nat) (at_ : Int) (la : Option Addr) (ln lc bs : Nat) (K : Nat → Prop) (st : List MEnd × List MFlank) (W : World) : Prop where
  below : Below w.heap.size w W
  own : ∃ (x : Option Addr) (y : Nat), W.rowIs O 268 5 (fun i => (lookC KT M2 at_ la ln lc (.slice x st.2.length y)).getD i (.bool false)) ∧ W.ownsRow bs 57 4 (.slice x st.2.length y) st.2.length (flatF st.2) ∧
    ∀ k, K k ↔ k = O ∨ k = M2 ∨ (Value.slice x st.2.length y).ownBlock = some k
  map : CMap 139 W M2 st.1.length (seenF Classical.propDecidable st.1)
  low : w.heap.size ≤ M2 ∧ M2 < O ∧ O < bs
  hi : bs ≤ W.heap.size
  seen : Seen ps st.1
  fl : st.2.length ≤ st.1.length
section
variable {w : World} {ps : List MPiece} {KT O M2 : Nat} {at_ : Int} {la : Option Addr} {ln lc bs : Nat} {K : Nat → Prop} {st : List MEnd × List MFlank} {W W' : World}
theorem LBase.lt (h : LBase w ps KT O M2 at_ la ln lc bs K st W) : ∀ k, K k → k < W.heap.size := by
  intro k hk
  obtain ⟨x, y, h1, h2, h5⟩ := h.own
  rcases (h5 k).1 hk with rfl | rfl | hk
  · exact h1.lt
  · exact h.map.lt
  · exact (h2.lt k hk).2
theorem LBase.low_own (h : LBase w ps KT O M2 at_ la ln lc bs K st W) : ∀ k, K k → w.heap.size ≤ k := by
  intro k hk
  have hl := h.low
  obtain ⟨x, y, h1, h2, h5⟩ := h.own
  rcases (h5 k).1 hk with rfl | rfl | hk
  · omega
  · omega
  · have := (h2.lt k hk).1
    omega
theorem LBase.keep (h : LBase w ps KT O M2 at_ la ln lc bs K st W) (hb : Below W.heap.size W W') : LBase w ps KT O M2 at_ la ln lc bs K st W' := by
  obtain ⟨x, y, h1, h2, h5⟩ := h.own
  exact ⟨h.below.trans (hb.mono h.below.size), ⟨x, y, h1.of_block (hb.block _ h1.lt), owns_below h2 hb, h5⟩, h.map.below hb, h.low, Nat.le_trans h.hi hb.size, h.seen, h.fl⟩
end
def Looked (w : World) (ps : List MPiece) (KT O M2 : Nat) (at_ : Int) (la : Option Addr) (ln lc bs : Nat) (st : List MEnd × List MFlank) (K : Nat → Prop) (W : World) (e : Ending) (W' : World) : Prop :=
  (∃ v, e = .returned v) ∧ Only K W W' ∧ ∃ K', LBase w ps KT O M2 at_ la ln lc bs K' st W' ∧ Grow K K' W
theorem news4 {u : World} {g : Nat} {a b c d : Value} (c0 : u.cell? ⟨g, 0, none⟩ = some a) (c1 : u.cell? ⟨g, 1, none⟩ = some b) (c2 : u.cell? ⟨g, 2, none⟩ = some c) (c3 : u.cell? ⟨g, 3, none⟩ = some d) : ∀ (j : Nat) (v : Value), [a, b, c, d][j]? = some v → u.cell? ((⟨g, 0, none⟩ : Addr).add j) = some v := by
  intro j v hv
  rw [addr_at, Nat.zero_add]
  match j with
  | 0 => simp at hv; rw [← hv]; exact c0
  | 1 => simp at hv; rw [← hv]; exact c1
  | 2 => simp at hv; rw [← hv]; exact c2
  | 3 => simp at hv; rw [← hv]; exact c3
  | j + 4 => simp at hv
set_option maxRecDepth 100000 in
set_option maxHeartbeats 8000000 in
theorem found_any (w : World) (ps : List MPiece) (hnp : ps.length ≤ 100) (KT O M2 : Nat) (at_ : Int) (la : Option Addr) (ln lc bs : Nat) (K : Nat → Prop) (st : List MEnd × List MFlank) (W : World) (h : Hid (LBase w ps KT O M2 at_ la ln lc bs K st W)) (hlt : Hid (st.2.length + 1 ≤ st.1.length)) (kd of_ li : Int) :
    Calls Try.prog 176 #[.pointer (some ⟨O, 0, none⟩), .int .i64 kd, .int .i64 of_, .int .i64 li] W (Looked w ps KT O M2 at_ la ln lc bs (st.1, st.2 ++ [⟨at_, kd, of_, li⟩]) K W) := by
  have hfew := h.out.seen.few
  have hfl := h.out.fl
  obtain ⟨x, y, h1, h2, h5⟩ := h.out.own
  have hlow := h.out.low
  have hhi := h.out.hi
  have c2 : W.cell? ⟨O, 2, none⟩ = some (.int .i64 at_) := h1.cell (i := 2) (by omega)
  have c4 : W.cell? ⟨O, 4, none⟩ = some (.slice x st.2.length y) := h1.cell (i := 4) (by omega)
  have H1 := hidP h1
  have H2 := hidP h2
  have H5 := hidP h5
  have hzO := h1.lt
  obtain ⟨S, hS⟩ : ∃ S : World → Prop, ∀ u, S u ↔ Only (fun k => (Value.slice x st.2.length y).ownBlock = some k) W u := ⟨_, fun _ => Iff.rfl⟩
  have HS0 := hidP hS
  have hnO : ¬ (Value.slice x st.2.length y).ownBlock = some O := fun e => by have := (h2.lt O e).1; omega
  have r2 : ∀ u : Held S, World.cell? u.val ⟨O, 2, none⟩ = some (.int .i64 at_) := fun u => ((hS u.val).1 u.2).cell c2 hnO
  have r4 : ∀ u : Held S, World.cell? u.val ⟨O, 4, none⟩ = some (.slice x st.2.length y) := fun u => ((hS u.val).1 u.2).cell c4 hnO
  have hS1 : S W.drew := (hS _).2 ((Only.refl _ _).drew)
  have hne := held_ne hS1
  have HNO := hidP hnO
  have hsl : st.2.length ≤ 200 := by omega
  clear hS h1 h2 h5 c2 c4 hfew hfl hnO
  go_enter Try.func176, Try.ntmps176
  go_upto_region 0 with fail
  refine wp_region_tree (fun w' => ∃ u : Held S, w' = u.val) 15 (by kernel_rfl) (by kernel_rfl) (held_some hS1) ?_
  (refine wpT_see 0 (by rfl) (by kernel_rfl) (by kernel_rfl) ?_; intro K hK; go_big_quiet_op; go_big_quiet_on); (refine wpT_see 1 (by rfl) (by kernel_rfl) (by kernel_rfl) ?_; intro K hK; go_big_quiet_op; go_big_quiet_on); (refine wpT_see 2 (by rfl) (by kernel_rfl) (by kernel_rfl) ?_; intro K hK; go_big_quiet_op; go_big_quiet_on); (refine wpT_see 3 (by rfl) (by kernel_rfl) (by kernel_rfl) ?_; intro K hK; go_big_quiet_op; go_big_quiet_on); (refine wpT_see 4 (by rfl) (by kernel_rfl) (by kernel_rfl) ?_; intro K hK; go_big_quiet_op; go_big_quiet_on); (refine wpT_see 5 (by rfl) (by kernel_rfl) (by kernel_rfl) ?_; intro K hK; go_big_quiet_op; go_big_quiet_on); (refine wpT_see 6 (by rfl) (by kernel_rfl) (by kernel_rfl) ?_; intro K hK; go_big_quiet_op; go_big_quiet_on); (refine wpT_see 7 (by rfl) (by kernel_rfl) (by kernel_rfl) ?_; intro K hK; go_big_quiet_op; go_big_quiet_on); (refine wpT_see 8 (by rfl) (by kernel_rfl) (by kernel_rfl) ?_; intro K hK; go_big_quiet_op; go_big_quiet_on); (refine wpT_see 9 (by rfl) (by kernel_rfl) (by kernel_rfl) ?_; intro K hK; go_big_quiet_op; go_big_quiet_on); (refine wpT_see 10 (by rfl) (by kernel_rfl) (by kernel_rfl) ?_; intro K hK; go_big_quiet_op; go_big_quiet_on); (refine wpT_see 11 (by rfl) (by kernel_rfl) (by kernel_rfl) ?_; intro K hK; go_big_quiet_op; go_big_quiet_on); (refine wpT_see 12 (by rfl) (by kernel_rfl) (by kernel_rfl) ?_; intro K hK; go_big_quiet_op; go_big_quiet_on)
  refine wpT_loud 13 (by rfl) (by kernel_rfl) (by kernel_rfl) ?_
  intro KK hK
  go_wp2_with fail
  generalize hV5 : World.alloc W _ = V5
  have hb5 : Below W.heap.size W V5 := by rw [← hV5]; exact (Below.refl _ _).alloc (Nat.le_refl _) _
  have n0 : V5.cell? ⟨W.heap.size, 0, none⟩ = some (.int .i64 at_) := by rw [← hV5]; simp [go_sem]
  have n1 : V5.cell? ⟨W.heap.size, 1, none⟩ = some (.int .i64 kd) := by rw [← hV5]; simp [go_sem]
  have n2 : V5.cell? ⟨W.heap.size, 2, none⟩ = some (.int .i64 of_) := by rw [← hV5]; simp [go_sem]
  have n3 : V5.cell? ⟨W.heap.size, 3, none⟩ = some (.int .i64 li) := by rw [← hV5]; simp [go_sem]
  have hS5 : S V5.drew := (HS0.out _).2 ((Only.of_below hb5).drew)
  refine hK _ _ (held_some hS5) ?_
  clear hK KK hV5
  have HN4 : Hid (∀ (j : Nat) (v : Value), [Value.int .i64 at_, .int .i64 kd, .int .i64 of_, .int .i64 li][j]? = some v → V5.drew.cell? ((⟨W.heap.size, 0, none⟩ : Addr).add j) = some v) := news4 n0 n1 n2 n3
  clear n0 n1 n2 n3
  have HB5 := hidP hb5
  have HO5 : Hid (V5.drew.ownsRow bs 57 4 (.slice x st.2.length y) st.2.length (flatF st.2)) := owns_drew (owns_below H2.out hb5)
  have hz5 : W.heap.size ≤ V5.drew.heap.size := hb5.size
  clear hb5
  refine wpT_loud 14 (by rfl) (by kernel_rfl) (by kernel_rfl) ?_
  intro KK hK
  show wpList Try.prog _ _ [_] _ _
  refine wpList_append_sharp _ rfl (.tmp 12) (.tmp 21) 40 rfl bs 57 _ 4 32 Try.underlying40 Try.infoFlank rfl (by decide) (.slice x st.2.length y) st.2.length (flatF st.2) rfl HO5.out ⟨W.heap.size, 0, none⟩ 1 [.int .i64 at_, .int .i64 kd, .int .i64 of_, .int .i64 li] rfl rfl HN4.out (by simp [Value.oneCell']) (by unfold maxLen; omega) (by omega) (by omega) ?_
  intro x6 y6 w6 q1 q2 q3
  have hS6 : S w6 := (HS0.out _).2 (((Only.of_below HB5.out).drew).trans (Only.of_grown q2 (fun k hk => hk)))
  have Q1 := hidP q1
  have Q3 := hidP q3
  have HO6 := hidP ((HS0.out _).1 hS6)
  clear q1 q2 q3
  go_wp2_with fail
  refine hK _ _ (held_some hS6) ?_
  clear hK KK
  refine wpT_done (by kernel_rfl) ?_
  have hr6 := H1.out.of_block (HO6.out.block _ H1.out.lt HNO.out)
  have c6 := hr6.cell (i := 4) (by omega)
  have f6 := hr6.frozen 4
  have hz6 := hr6.lt
  have HR6 := hidP (hr6.set 4 (.slice x6 (st.2.length + 1) y6))
  clear r2 r4 hS1 hne hr6 hS5 hS6
  go_wp2_with fail
  have hKO : K O := (H5.out O).2 (Or.inl rfl)
  have hOK : Only K W w6 := HO6.out.mono (fun k hk => (H5.out k).2 (Or.inr (Or.inr hk)))
  have hO7 : Only K W (w6.setCell ⟨O, 4, none⟩ (.slice x6 (st.2.length + 1) y6)) := hOK.setCell (p := ⟨O, 4, none⟩) (Or.inl hKO) _
  have hlo := h.out.low_own
  have hM6 : (w6.setCell ⟨O, 4, none⟩ (.slice x6 (st.2.length + 1) y6)).heap[M2]? = W.heap[M2]? := (Below.heap_setCell w6 ⟨O, 4, none⟩ _ M2 (by show ¬ M2 = O; omega)).trans (HO6.out.block _ h.out.map.lt (fun e => by have := (H2.out.lt M2 e).1; omega))
  have hxl : (st.2 ++ [(⟨at_, kd, of_, li⟩ : MFlank)]).length = st.2.length + 1 := by simp
  refine bodyPost_end (results_none rfl _ _ _) rfl ⟨⟨_, rfl⟩, hO7, (fun k => k = O ∨ k = M2 ∨ (Value.slice x6 (st.2.length + 1) y6).ownBlock = some k), ⟨h.out.below.trans (hO7.below h.out.below.size (fun k hk e => by have := hlo k e; omega)), ⟨x6, y6, ?_, ?_, fun k => by simp only [hxl]⟩, h.out.map.of_block hM6, hlow, Nat.le_trans hhi hO7.size, h.out.seen, by simp only [hxl]; exact hlt.out⟩, ?_⟩
  · refine row_congr HR6.out ?_
    intro i hi
    simp only [hxl]
    have hi' : i = 0 ∨ i = 1 ∨ i = 2 ∨ i = 3 ∨ i = 4 := by omega
    rcases hi' with rfl | rfl | rfl | rfl | rfl <;> simp [lookC]
  · have := ownsRow_setCell_below Q1.out (a := ⟨O, 4, none⟩) (by show O < bs; omega) (.slice x6 (st.2.length + 1) y6)
    rw [flatF_push st.2 ⟨at_, kd, of_, li⟩] at this
    simp only [hxl]
    exact this
  · intro k hk
    rcases hk with hk | hk | hk
    · exact Or.inl ((H5.out k).2 (Or.inl hk))
    · exact Or.inl ((H5.out k).2 (Or.inr (Or.inl hk)))
    · rcases Q3.out k hk with h9 | h9
      · exact Or.inl ((H5.out k).2 (Or.inr (Or.inr h9)))
      · exact Or.inr (Nat.le_trans hz5 h9)
end Go.Proofs.Ytmkdgnmmebldgaa

namespace Go.Proofs.Ytmkdgnmmebldgaa
open Go.RowKit Go.Deep Go.Maps
theorem Looked.after {w : World} {ps : List MPiece} {KT O M2 : Nat} {at_ : Int} {la : Option Addr} {ln lc bs : Nat} {st : List MEnd × List MFlank} {K : Nat → Prop} {W W1 W' : World} {e : Ending} (h : Looked w ps KT O M2 at_ la ln lc bs st K W1 e W') (hb : Below W.heap.size W W1) : Looked w ps KT O M2 at_ la ln lc bs st K W e W' := by
  obtain ⟨h1, h2, K', h3, h4⟩ := h
  exact ⟨h1, (Only.of_below hb).trans h2, K', h3, h4.mono hb.size⟩
set_option maxRecDepth 100000 in
set_option maxHeartbeats 8000000 in
theorem foundSwitch_any (w : World) (ps : List MPiece) (hnp : ps.length ≤ 100) (KT O M2 : Nat) (at_ : Int) (la : Option Addr) (lies : List MLie) (lc bs : Nat) (hL : Hid (EndsAt w la lies)) (K : Nat → Prop) (st : List MEnd × List MFlank) (W : World) (h : Hid (LBase w ps KT O M2 at_ la lies.length lc bs K st W)) (hlt : Hid (st.2.length + 1 ≤ st.1.length)) (j k : Nat) (kd : Int) (hk : k ≤ 3) :
    Calls Try.prog 186 #[.pointer (some ⟨O, 0, none⟩), spotV j k kd] W (Looked w ps KT O M2 at_ la lies.length lc bs (st.1, st.2 ++ [if lieF lies j = k then ⟨at_, 4, j, 0⟩ else ⟨at_, 3, j, 3 - k⟩]) K W) := by
  have HF : Hid (∀ (u : World), Below W.heap.size W u → ∀ kd of_ li : Int, Calls Try.prog 176 #[.pointer (some ⟨O, 0, none⟩), .int .i64 kd, .int .i64 of_, .int .i64 li] u (Looked w ps KT O M2 at_ la lies.length lc bs (st.1, st.2 ++ [⟨at_, kd, of_, li⟩]) K W)) := fun u hu kd of_ li =>
    (found_any w ps hnp KT O M2 at_ la lies.length lc bs K st u (h.out.keep hu) hlt kd of_ li).mono (fun e w' q => q.after hu)
  have HLI : Hid (∀ (u : World), Below W.heap.size W u → Calls Try.prog 189 #[.slice la lies.length lc, .int .i64 (j : Int)] u fun e w' => e = .returned (.int .i64 (lieF lies j)) ∧ Below u.heap.size u w') := fun u hu =>
    lieOf_any la lc lies j u (hL.out.below (h.out.below.trans (hu.mono h.out.below.size)))
  have HOL : Hid (∀ (u : World), Calls Try.prog 160 #[.int .i64 (k : Int)] u fun e w' => e = .returned (.int .i64 (3 - (k : Int))) ∧ Below u.heap.size u w') := fun u => otherLie_any k u (by omega) (by omega)
  obtain ⟨x, y, h1, _, _⟩ := h.out.own
  have c1 : W.cell? ⟨O, 1, none⟩ = some (.slice la lies.length lc) := h1.cell (i := 1) (by omega)
  have hzO := h1.lt
  unfold spotV
  clear h1
  go_enter Try.func186, Try.ntmps186
  go_upto_region 1 with fail
  generalize hV : World.alloc W _ = V
  have hbV : Below W.heap.size W V := by rw [← hV]; exact (Below.refl _ _).alloc (Nat.le_refl _) _
  have s0 : V.cell? ⟨W.heap.size, 0, none⟩ = some (.int .i64 (j : Int)) := by rw [← hV]; simp [go_sem]
  have s1 : V.cell? ⟨W.heap.size, 1, none⟩ = some (.int .i64 (k : Int)) := by rw [← hV]; simp [go_sem]
  have hzV : W.heap.size < V.heap.size := by rw [← hV]; simp
  replace c1 := cell_later hbV c1
  have HBV := hidP hbV
  clear hV hbV
  obtain ⟨S, hS⟩ : ∃ S : World → Prop, ∀ u, S u ↔ Below V.heap.size V u := ⟨_, fun _ => Iff.rfl⟩
  have HS0 := hidP hS
  have r1 : ∀ u : Held S, World.cell? u.val ⟨O, 1, none⟩ = some (.slice la lies.length lc) := fun u => cell_later ((hS u.val).1 u.2) c1
  have r2 : ∀ u : Held S, World.cell? u.val ⟨W.heap.size, 0, none⟩ = some (.int .i64 (j : Int)) := fun u => cell_later ((hS u.val).1 u.2) s0
  have r3 : ∀ u : Held S, World.cell? u.val ⟨W.heap.size, 1, none⟩ = some (.int .i64 (k : Int)) := fun u => cell_later ((hS u.val).1 u.2) s1
  have hS1 : S V.drew := (hS _).2 ((Below.refl _ _).drew)
  have hne := held_ne hS1
  clear hS
  refine wp_region_tree (fun w' => ∃ u : Held S, w' = u.val) 9 (by kernel_rfl) (by kernel_rfl) (held_some hS1) ?_
  (refine wpT_see 0 (by rfl) (by kernel_rfl) (by kernel_rfl) ?_; intro K hK; go_big_quiet_op; go_big_quiet_on); (refine wpT_see 1 (by rfl) (by kernel_rfl) (by kernel_rfl) ?_; intro K hK; go_big_quiet_op; go_big_quiet_on); (refine wpT_see 2 (by rfl) (by kernel_rfl) (by kernel_rfl) ?_; intro K hK; go_big_quiet_op; go_big_quiet_on); (refine wpT_see 3 (by rfl) (by kernel_rfl) (by kernel_rfl) ?_; intro K hK; go_big_quiet_op; go_big_quiet_on); (refine wpT_see 4 (by rfl) (by kernel_rfl) (by kernel_rfl) ?_; intro K hK; go_big_quiet_op; go_big_quiet_on); (refine wpT_see 5 (by rfl) (by kernel_rfl) (by kernel_rfl) ?_; intro K hK; go_big_quiet_op; go_big_quiet_on)
  (refine wpT_see 7 (by rfl) (by kernel_rfl) (by kernel_rfl) ?_; intro K hK; go_big_quiet_op; go_big_quiet_on); (refine wpT_see 8 (by rfl) (by kernel_rfl) (by kernel_rfl) ?_; intro K hK; go_big_quiet_op; go_big_quiet_on)
  refine wpT_loud 6 (by rfl) (by kernel_rfl) (by kernel_rfl) ?_
  intro KK hK
  go_wp2_with (go_at_call 189; refine (HLI.out _ (HBV.out.trans ((Below.refl _ _).drew.mono HBV.out.size))).mono ?_; rintro e u2 ⟨rfl, hb2'⟩)
  have hb2 : Below V.heap.size V u2 := (Below.refl _ _).drew.trans hb2'
  refine hK _ _ (held_some ((HS0.out _).2 hb2)) ?_
  clear hK KK hb2' r1 r2 r3 hS1 hne
  replace s0 := cell_later hb2 s0
  replace s1 := cell_later hb2 s1
  have HB2 : Hid (Below W.heap.size W u2) := HBV.out.trans (hb2.mono HBV.out.size)
  have hz2 : W.heap.size < u2.heap.size := cellLt s0
  clear hb2 c1
  refine wpT_done (by kernel_rfl) ?_
  by_cases hq : lieF lies j = k
  · have hqb : (lieF lies j == (k : Int)) = true := by simp [hq]
    have HQ := hidP hq
    clear hq
    go_wp2_with (go_at_call 176; refine (HF.out _ HB2.out _ _ _).mono ?_; rintro e u3 ⟨⟨v3, rfl⟩, ho3, hl3⟩)
    exact bodyPost_ret (results_none rfl _ _ _) rfl ⟨⟨_, rfl⟩, ho3, hl3⟩
  · have hqb : (lieF lies j == (k : Int)) = false := by simp [hq]
    have HQ := hidP hq
    clear hq
    go_upto_region 3 with fail
    obtain ⟨S, hS⟩ : ∃ S : World → Prop, ∀ u, S u ↔ Below u2.heap.size u2 u := ⟨_, fun _ => Iff.rfl⟩
    have HS0 := hidP hS
    have r2 : ∀ u : Held S, World.cell? u.val ⟨W.heap.size, 0, none⟩ = some (.int .i64 (j : Int)) := fun u => cell_later ((hS u.val).1 u.2) s0
    have r3 : ∀ u : Held S, World.cell? u.val ⟨W.heap.size, 1, none⟩ = some (.int .i64 (k : Int)) := fun u => cell_later ((hS u.val).1 u.2) s1
    have hS1 : S u2.drew := (hS _).2 ((Below.refl _ _).drew)
    have hne := held_ne hS1
    clear hS
    refine wp_region_tree (fun w' => ∃ u : Held S, w' = u.val) 6 (by kernel_rfl) (by kernel_rfl) (held_some hS1) ?_
    (refine wpT_see 0 (by rfl) (by kernel_rfl) (by kernel_rfl) ?_; intro K hK; go_big_quiet_op; go_big_quiet_on); (refine wpT_see 1 (by rfl) (by kernel_rfl) (by kernel_rfl) ?_; intro K hK; go_big_quiet_op; go_big_quiet_on); (refine wpT_see 2 (by rfl) (by kernel_rfl) (by kernel_rfl) ?_; intro K hK; go_big_quiet_op; go_big_quiet_on); (refine wpT_see 3 (by rfl) (by kernel_rfl) (by kernel_rfl) ?_; intro K hK; go_big_quiet_op; go_big_quiet_on); (refine wpT_see 4 (by rfl) (by kernel_rfl) (by kernel_rfl) ?_; intro K hK; go_big_quiet_op; go_big_quiet_on)
    refine wpT_loud 5 (by rfl) (by kernel_rfl) (by kernel_rfl) ?_
    intro KK hK
    go_wp2_with (go_at_call 160; refine (HOL.out _).mono ?_; rintro e u4 ⟨rfl, hb4'⟩)
    have hb4 : Below u2.heap.size u2 u4 := (Below.refl _ _).drew.trans hb4'
    refine hK _ _ (held_some ((HS0.out _).2 hb4)) ?_
    clear hK KK hb4' r2 r3 hS1 hne
    have HB4 : Hid (Below W.heap.size W u4) := HB2.out.trans (hb4.mono HB2.out.size)
    clear hb4
    refine wpT_done (by kernel_rfl) ?_
    go_wp2_with (go_at_call 176; refine (HF.out _ HB4.out _ _ _).mono ?_; rintro e u3 ⟨⟨v3, rfl⟩, ho3, hl3⟩)
    exact bodyPost_end (results_none rfl _ _ _) rfl ⟨⟨_, rfl⟩, ho3, hl3⟩
def overL (js : List MJoint) (ss : List MPiece) (lies : List MLie) (at_ : Int) (n : Nat) (st : List MEnd × List MFlank) (f : MEnd) : List MEnd × List MFlank :=
  if kindE js (spotE js f).1 = 1 then (st.1, st.2 ++ [⟨at_, 1, (spotE js f).1, 0⟩])
  else if kindE js (spotE js f).1 = 3 ∧ (spotE js f).2 ≠ 0 then (st.1, st.2 ++ [if lieF lies (spotE js f).1 = (spotE js f).2 then ⟨at_, 4, (spotE js f).1, 0⟩ else ⟨at_, 3, (spotE js f).1, 3 - (spotE js f).2⟩])
  else (beyondF (kindE js (spotE js f).1) (spotE js f).2).foldl (fun s t => lookF js ss lies at_ n s (endE js (spotE js f).1 t)) st
theorem lookF_succ (js : List MJoint) (ss : List MPiece) (lies : List MLie) (at_ : Int) (n : Nat) (st : List MEnd × List MFlank) (e : MEnd) : lookF js ss lies at_ (n + 1) st e =
    if st.1.any (fun x => sameE x e) = true then st
    else if 0 ≤ guardB ss e.piece (if e.side = 0 then -1 else 1) ss.length then (st.1 ++ [e], st.2 ++ [⟨at_, 2, guardB ss e.piece (if e.side = 0 then -1 else 1) ss.length, 0⟩])
    else overL js ss lies at_ n (st.1 ++ [e], st.2) (farE e) := by
  rfl
def LookAt (w : World) (ps : List MPiece) (js : List MJoint) (ss : List MPiece) (lies : List MLie) (KT O M2 : Nat) (at_ : Int) (la : Option Addr) (lc bs : Nat) (n : Nat) : Prop :=
  ∀ K st e W, LBase w ps KT O M2 at_ la lies.length lc bs K st W → ValidE ps e → 2 * ps.length + 2 ≤ n + st.1.length →
    Calls Try.prog 159 #[.pointer (some ⟨O, 0, none⟩), endV e] W (Looked w ps KT O M2 at_ la lies.length lc bs (lookF js ss lies at_ n st e) K W)
set_option maxRecDepth 100000 in
set_option maxHeartbeats 8000000 in
theorem lpass_any (w : World) (M : Nat) (pa ja sa : Option Addr) (pc jc sc : Nat) (ps : List MPiece) (js : List MJoint) (ss : List MPiece) (lies : List MLie) (R : Hid (Right ps js ss)) (KT O M2 : Nat) (hT : Hid (TTrack w KT M pa ja sa pc jc sc ps js ss)) (at_ : Int) (la : Option Addr) (lc bs : Nat) (n : Nat) (IH : Hid (LookAt w ps js ss lies KT O M2 at_ la lc bs n))
    (K : Nat → Prop) (st : List MEnd × List MFlank) (W : World) (h : Hid (LBase w ps KT O M2 at_ la lies.length lc bs K st W)) (hn : Hid (2 * ps.length + 2 ≤ n + st.1.length)) (j k t : Nat) (kd : Int) (hj : j < js.length) (ht : Hid (t < js[j].ends.length)) :
    Calls Try.prog 187 #[.pointer (some ⟨O, 0, none⟩), passV j k t kd] W (Visited (fun K' u => LBase w ps KT O M2 at_ la lies.length lc bs K' (lookF js ss lies at_ n st (endE js j t)) u) (fun _ => False) K W) := by
  have hee := endE_at hj ht.out
  have hve : ValidE ps (endE js j t) := by rw [hee]; exact R.out.ends j hj t ht.out
  have HLK : Hid (∀ u : World, Below W.heap.size W u → Calls Try.prog 159 #[.pointer (some ⟨O, 0, none⟩), endV (endE js j t)] u (Looked w ps KT O M2 at_ la lies.length lc bs (lookF js ss lies at_ n st (endE js j t)) K W)) := fun u hu =>
    (IH.out K st (endE js j t) u (h.out.keep hu) hve hn.out).mono (fun e w' q => q.after hu)
  have HEB : Hid (∀ u : World, Below W.heap.size W u → ∀ fr kd : Value, Calls Try.prog 183 #[.pointer (some ⟨KT, 0, none⟩), .agg #[.int .i64 j, fr, .int .i64 t, kd]] u fun e w' => e = .returned (endV (endE js j t)) ∧ Below u.heap.size u w') := fun u hu fr kd => by
    have q := endBehind_any KT pa ja sa pc jc sc ps js ss j t fr kd u (hT.out.below (h.out.below.trans (hu.mono h.out.below.size))).net hj ht.out
    rw [← hee] at q
    exact q
  obtain ⟨x, y, h1, _, _⟩ := h.out.own
  have c0 : W.cell? ⟨O, 0, none⟩ = some (.pointer (some ⟨KT, 0, none⟩)) := h1.cell (i := 0) (by omega)
  have hzO := h1.lt
  generalize endE js j t = en at HLK HEB ⊢
  unfold endV at HLK HEB
  unfold passV
  clear h1 hee hve
  go_enter Try.func187, Try.ntmps187
  go_upto_region 1 with fail
  generalize hV : World.alloc W _ = V
  have hbV : Below W.heap.size W V := by rw [← hV]; exact (Below.refl _ _).alloc (Nat.le_refl _) _
  have s0 : V.cell? ⟨W.heap.size, 0, none⟩ = some (.int .i64 (j : Int)) := by rw [← hV]; simp [go_sem]
  have s1 : V.cell? ⟨W.heap.size, 1, none⟩ = some (.int .i64 (k : Int)) := by rw [← hV]; simp [go_sem]
  have s2 : V.cell? ⟨W.heap.size, 2, none⟩ = some (.int .i64 (t : Int)) := by rw [← hV]; simp [go_sem]
  have s3 : V.cell? ⟨W.heap.size, 3, none⟩ = some (.iface (kindT kd) (.agg #[])) := by rw [← hV]; simp [go_sem]
  have hzV : W.heap.size < V.heap.size := by rw [← hV]; simp
  replace c0 := cell_later hbV c0
  have HBV := hidP hbV
  clear hV hbV
  obtain ⟨S, hS⟩ : ∃ S : World → Prop, ∀ u, S u ↔ Below V.heap.size V u := ⟨_, fun _ => Iff.rfl⟩
  have HS0 := hidP hS
  have r0 : ∀ u : Held S, World.cell? u.val ⟨O, 0, none⟩ = some (.pointer (some ⟨KT, 0, none⟩)) := fun u => cell_later ((hS u.val).1 u.2) c0
  have r1 : ∀ u : Held S, World.cell? u.val ⟨W.heap.size, 0, none⟩ = some (.int .i64 (j : Int)) := fun u => cell_later ((hS u.val).1 u.2) s0
  have r2 : ∀ u : Held S, World.cell? u.val ⟨W.heap.size, 1, none⟩ = some (.int .i64 (k : Int)) := fun u => cell_later ((hS u.val).1 u.2) s1
  have r3 : ∀ u : Held S, World.cell? u.val ⟨W.heap.size, 2, none⟩ = some (.int .i64 (t : Int)) := fun u => cell_later ((hS u.val).1 u.2) s2
  have r4 : ∀ u : Held S, World.cell? u.val ⟨W.heap.size, 3, none⟩ = some (.iface (kindT kd) (.agg #[])) := fun u => cell_later ((hS u.val).1 u.2) s3
  have hS1 : S V.drew := (hS _).2 ((Below.refl _ _).drew)
  have hne := held_ne hS1
  clear hS
  refine wp_region_tree (fun w' => ∃ u : Held S, w' = u.val) 7 (by kernel_rfl) (by kernel_rfl) (held_some hS1) ?_
  (refine wpT_see 0 (by rfl) (by kernel_rfl) (by kernel_rfl) ?_; intro K hK; go_big_quiet_op; go_big_quiet_on); (refine wpT_see 1 (by rfl) (by kernel_rfl) (by kernel_rfl) ?_; intro K hK; go_big_quiet_op; go_big_quiet_on); (refine wpT_see 2 (by rfl) (by kernel_rfl) (by kernel_rfl) ?_; intro K hK; go_big_quiet_op; go_big_quiet_on); (refine wpT_see 3 (by rfl) (by kernel_rfl) (by kernel_rfl) ?_; intro K hK; go_big_quiet_op; go_big_quiet_on); (refine wpT_see 4 (by rfl) (by kernel_rfl) (by kernel_rfl) ?_; intro K hK; go_big_quiet_op; go_big_quiet_on); (refine wpT_see 5 (by rfl) (by kernel_rfl) (by kernel_rfl) ?_; intro K hK; go_big_quiet_op; go_big_quiet_on)
  refine wpT_loud 6 (by rfl) (by kernel_rfl) (by kernel_rfl) ?_
  intro KK hK
  go_wp2_with (go_at_call 183; refine (HEB.out _ (HBV.out.trans ((Below.refl _ _).drew.mono HBV.out.size)) _ _).mono ?_; rintro e u2 ⟨rfl, hb2'⟩)
  have hb2 : Below V.heap.size V u2 := (Below.refl _ _).drew.trans hb2'
  refine hK _ _ (held_some ((HS0.out _).2 hb2)) ?_
  clear hK KK hb2' r0 r1 r2 r3 r4 hS1 hne
  have HB2 : Hid (Below W.heap.size W u2) := HBV.out.trans (hb2.mono HBV.out.size)
  clear hb2 c0 s0 s1 s2 s3
  refine wpT_done (by kernel_rfl) ?_
  go_wp2_with (go_at_call 159; refine (HLK.out _ HB2.out).mono ?_; rintro e u3 ⟨⟨v3, rfl⟩, ho3, hl3⟩)
  go_ret
  exact ⟨true, rfl, ho3, fun _ => hl3, fun h => by cases h⟩
end Go.Proofs.Ytmkdgnmmebldgaa
