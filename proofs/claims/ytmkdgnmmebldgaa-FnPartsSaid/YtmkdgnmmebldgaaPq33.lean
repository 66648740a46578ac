import Derived.Test.YtmkdgnmmebldgaaPq32
namespace Go.Proofs.Ytmkdgnmmebldgaa
open Go.RowKit Go.Deep Go.Maps
theorem overI_some {js : List MJoint} {p q : MPath} {j k t : Nat} (h : overP js p j k t = some q) : overI p j k t (kindE js j) (endE js j t) = (q, true) := by
  unfold overP at h
  unfold overI
  dsimp only at h ⊢
  by_cases h4 : kindE js j = 4
  · rw [if_pos h4] at h ⊢
    injection h with h
    rw [h]
  · rw [if_neg h4] at h ⊢
    by_cases h3 : kindE js j = 3
    · rw [if_pos h3] at h ⊢
      by_cases hl : lieF p.lies j ≠ 0
      · rw [if_pos hl] at h ⊢
        by_cases hm : lieF p.lies j = (max k t : Nat)
        · rw [if_pos hm] at h
          injection h with h
          rw [h, decide_eq_true hm]
        · rw [if_neg hm] at h
          exact absurd h (by simp)
      · rw [if_neg hl] at h ⊢
        injection h with h
        rw [h]
    · rw [if_neg h3] at h ⊢
      injection h with h
      rw [h]
theorem overI_none {js : List MJoint} {p : MPath} {j k t : Nat} (h : overP js p j k t = none) : (overI p j k t (kindE js j) (endE js j t)).2 = false := by
  unfold overP at h
  unfold overI
  dsimp only at h ⊢
  by_cases h4 : kindE js j = 4
  · rw [if_pos h4] at h
    exact absurd h (by simp)
  · rw [if_neg h4] at h ⊢
    by_cases h3 : kindE js j = 3
    · rw [if_pos h3] at h ⊢
      by_cases hl : lieF p.lies j ≠ 0
      · rw [if_pos hl] at h ⊢
        by_cases hm : lieF p.lies j = (max k t : Nat)
        · rw [if_pos hm] at h
          exact absurd h (by simp)
        · exact decide_eq_false hm
      · rw [if_neg hl] at h
        exact absurd h (by simp)
    · rw [if_neg h3] at h
      exact absurd h (by simp)
def beyondFn (k : Int) : Nat := if k = 1 then 205 else if k = 2 then 207 else if k = 3 then 209 else 211
theorem meth_b1 (w : World) : (method 425 252 (.agg #[]) "loop.example/lockbar/impl.beyond").run Try.prog w = .ok (205, .agg #[]) w := by kernel_rfl
theorem meth_b2 (w : World) : (method 425 253 (.agg #[]) "loop.example/lockbar/impl.beyond").run Try.prog w = .ok (207, .agg #[]) w := by kernel_rfl
theorem meth_b3 (w : World) : (method 425 254 (.agg #[]) "loop.example/lockbar/impl.beyond").run Try.prog w = .ok (209, .agg #[]) w := by kernel_rfl
theorem meth_b4 (w : World) : (method 425 255 (.agg #[]) "loop.example/lockbar/impl.beyond").run Try.prog w = .ok (211, .agg #[]) w := by kernel_rfl
theorem meth_beyond (k : Int) (h1 : 1 ≤ k) (h4 : k ≤ 4) (w : World) : (method 425 (kindT k) (.agg #[]) "loop.example/lockbar/impl.beyond").run Try.prog w = .ok (beyondFn k, .agg #[]) w := by
  have : k = 1 ∨ k = 2 ∨ k = 3 ∨ k = 4 := by omega
  rcases this with rfl | rfl | rfl | rfl
  · exact meth_b1 w
  · exact meth_b2 w
  · exact meth_b3 w
  · exact meth_b4 w
theorem xor_01 : bits BinOp.xor IntKind.i64 0 1 = 1 := by kernel_rfl
theorem xor_11 : bits BinOp.xor IntKind.i64 1 1 = 0 := by kernel_rfl
theorem xor_21 : bits BinOp.xor IntKind.i64 2 1 = 3 := by kernel_rfl
theorem xor_31 : bits BinOp.xor IntKind.i64 3 1 = 2 := by kernel_rfl
theorem call_beyond (k : Int) (args : Array Value) (w : World) : (callFunc (beyondFn k) args).run Try.prog w = .ok (.enter (beyondFn k) args) w := by
  unfold beyondFn
  split
  · kernel_rfl
  · split
    · kernel_rfl
    · split <;> kernel_rfl
def BeyondPost (w : World) (L : List Nat) (e : Ending) (w' : World) : Prop := ∃ a c, e = .returned (.slice a L.length c) ∧ NumsAt w' a (L.map Int.ofNat) ∧ (∀ x, a = some x → w.heap.size ≤ x.block) ∧ Below w.heap.size w w'
theorem nums_one {w : World} {b : Nat} {x : Nat} (h : w.cell? ⟨b, 0, none⟩ = some (.int .i64 (x : Int))) : NumsAt w (some ⟨b, 0, none⟩) ([x].map Int.ofNat) :=
  ⟨by unfold maxLen; simp, Or.inr ⟨b, 0, rfl, fun i hi => by
    have : i = 0 := by simpa using hi
    subst this
    exact h⟩⟩
theorem nums_two {w : World} {b : Nat} {x y : Nat} (h : w.cell? ⟨b, 0, none⟩ = some (.int .i64 (x : Int))) (h' : w.cell? ⟨b, 1, none⟩ = some (.int .i64 (y : Int))) : NumsAt w (some ⟨b, 0, none⟩) ([x, y].map Int.ofNat) :=
  ⟨by unfold maxLen; simp, Or.inr ⟨b, 0, rfl, fun i hi => by
    have : i = 0 ∨ i = 1 := by simp at hi; omega
    rcases this with rfl | rfl
    · exact h
    · exact h'⟩⟩
set_option maxHeartbeats 1000000 in
theorem beyond_1 (pl : Nat) (w : World) : Calls Try.prog 205 #[.agg #[], .int .i64 pl] w (BeyondPost w []) := by
  go_enter Try.func205, Try.ntmps205
  go_wp2_with fail
  exact bodyPost_ret (v := .slice none 0 0) (by simp [results, Try.results205, go_sem]) rfl ⟨none, 0, rfl, ⟨by simp, Or.inl rfl⟩, by simp, blo⟩
set_option maxHeartbeats 1000000 in
theorem beyond_2 (pl : Nat) (hpl : pl ≤ 1) (w : World) : Calls Try.prog 207 #[.agg #[], .int .i64 pl] w (BeyondPost w [1 - pl]) := by
  have hx : (1 : Int) - pl = ((1 - pl : Nat) : Int) := by omega
  go_enter Try.func207, Try.ntmps207
  go_wp2_with fail
  refine bodyPost_ret (v := .slice (some ⟨w.heap.size + 1, 0, none⟩) 1 1) (by simp [results, Try.results207, go_sem]) rfl ⟨_, 1, rfl, nums_one (by simp [go_sem]), (fun x hx => by cases hx; simp), blo⟩
set_option maxHeartbeats 1000000 in
theorem beyond_3a (w : World) : Calls Try.prog 209 #[.agg #[], .int .i64 0] w (BeyondPost w [1, 2]) := by
  go_enter Try.func209, Try.ntmps209
  go_wp2_with fail
  refine bodyPost_ret (v := .slice (some ⟨w.heap.size + 1, 0, none⟩) 2 2) (by simp [results, Try.results209, go_sem]) rfl ⟨_, 2, rfl, nums_two (by simp [go_sem]) (by simp [go_sem]), (fun x hx => by cases hx; simp), blo⟩
set_option maxHeartbeats 1000000 in
theorem beyond_3b (pl : Nat) (hpl : pl ≠ 0) (w : World) : Calls Try.prog 209 #[.agg #[], .int .i64 pl] w (BeyondPost w [0]) := by
  have hx : ((pl : Int) == 0) = false := by simp; omega
  go_enter Try.func209, Try.ntmps209
  go_wp2_with fail
  refine bodyPost_ret (v := .slice (some ⟨w.heap.size + 1, 0, none⟩) 1 1) (by simp [results, Try.results209, go_sem]) rfl ⟨_, 1, rfl, nums_one (by simp [go_sem]), (fun x hx => by cases hx; simp), blo⟩
set_option maxHeartbeats 1000000 in
theorem beyond_4 (pl x : Nat) (h : (pl = 0 ∧ x = 1) ∨ (pl = 1 ∧ x = 0) ∨ (pl = 2 ∧ x = 3) ∨ (pl = 3 ∧ x = 2)) (w : World) : Calls Try.prog 211 #[.agg #[], .int .i64 pl] w (BeyondPost w [x]) := by
  rcases h with ⟨rfl, rfl⟩ | ⟨rfl, rfl⟩ | ⟨rfl, rfl⟩ | ⟨rfl, rfl⟩
  all_goals
    go_enter Try.func211, Try.ntmps211
    go_wp2_with fail
    refine bodyPost_ret (v := .slice (some ⟨w.heap.size + 1, 0, none⟩) 1 1) (by simp [results, Try.results211, go_sem]) rfl ⟨_, 1, rfl, nums_one (by simp [go_sem, xor_01, xor_11, xor_21, xor_31]), (fun x hx => by cases hx; simp), blo⟩
theorem beyondM_any (k : Int) (pl : Nat) (h1 : 1 ≤ k) (h4 : k ≤ 4) (hpl : (pl : Int) < k) (w : World) : Calls Try.prog (beyondFn k) #[.agg #[], .int .i64 pl] w (BeyondPost w (beyondF k pl)) := by
  have : k = 1 ∨ k = 2 ∨ k = 3 ∨ k = 4 := by omega
  rcases this with rfl | rfl | rfl | rfl
  · exact beyond_1 pl w
  · exact beyond_2 pl (by omega) w
  · by_cases h0 : pl = 0
    · subst h0
      exact beyond_3a w
    · have : beyondF 3 pl = [0] := by simp [beyondF, h0]
      rw [this]
      exact beyond_3b pl h0 w
  · have hp : pl = 0 ∨ pl = 1 ∨ pl = 2 ∨ pl = 3 := by omega
    rcases hp with rfl | rfl | rfl | rfl
    · exact beyond_4 0 1 (by omega) w
    · exact beyond_4 1 0 (by omega) w
    · exact beyond_4 2 3 (by omega) w
    · exact beyond_4 3 2 (by omega) w
end Go.Proofs.Ytmkdgnmmebldgaa

namespace Go.Proofs.Ytmkdgnmmebldgaa
open Go.RowKit Go.Deep Go.Maps
def Grow (K K' : Nat → Prop) (w : World) : Prop := ∀ k, K' k → K k ∨ w.heap.size ≤ k
theorem Grow.refl (K : Nat → Prop) (w : World) : Grow K K w := fun _ h => Or.inl h
theorem Grow.mono {K K' : Nat → Prop} {w w' : World} (h : Grow K K' w') (hs : w.heap.size ≤ w'.heap.size) : Grow K K' w := fun k hk => (h k hk).imp id (fun h => Nat.le_trans hs h)
theorem Grow.trans {K K' K'' : Nat → Prop} {w w' : World} (h : Grow K K' w) (h' : Grow K' K'' w') (hs : w.heap.size ≤ w'.heap.size) : Grow K K'' w := fun k hk => by
  rcases h' k hk with h1 | h1
  · exact h k h1
  · exact Or.inr (Nat.le_trans hs h1)
theorem Only.thru {K K' : Nat → Prop} {w u v : World} (h : Only K w u) (hg : Grow K K' w) (h' : Only K' u v) : Only K w v :=
  ⟨h'.os.trans h.os, h'.tape.trans h.tape, h'.output.trans h.output, Nat.le_trans h.size h'.size, fun k hk hn => (h'.block k (Nat.lt_of_lt_of_le hk h.size) (fun e => (hg k e).elim hn (fun e2 => by omega))).trans (h.block k hk hn)⟩
def Visited (J : (Nat → Prop) → World → Prop) (Sx : World → Prop) (K : Nat → Prop) (u : World) (e : Ending) (u' : World) : Prop :=
  ∃ b : Bool, e = .returned (.bool b) ∧ Only K u u' ∧ (b = true → ∃ K', J K' u' ∧ Grow K K' u) ∧ (b = false → Sx u')
set_option maxRecDepth 100000 in
set_option maxHeartbeats 8000000 in
theorem passages_any (KT M : Nat) (pa ja sa : Option Addr) (pc jc sc : Nat) (ps : List MPiece) (js : List MJoint) (ss : List MPiece) (R : Hid (Right ps js ss)) (e : MEnd) (g : Nat) (rv : Value) (J : Nat → (Nat → Prop) → World → Prop) (Sx : World → Prop) (K0 : Nat → Prop) (w : World)
    (hT : Hid (TTrack w KT M pa ja sa pc jc sc ps js ss)) (hv : Hid (ValidE ps e)) (hg : ∀ args u, (callFunc g args).run Try.prog u = .ok (.enter g args) u) (j k : Nat) (hsp : Hid (spotE js e = (j, k)))
    (hJ0 : Hid (J 0 K0 w)) (hJl : Hid (∀ m K u, J m K u → ∀ k, K k → k < u.heap.size)) (hJk : Hid (∀ m K u u', J m K u → Below u.heap.size u u' → J m K u'))
    (hV : Hid (∀ m t K u, (beyondF (kindE js j) k)[m]? = some t → J m K u → Calls Try.prog g #[rv, passV j k t (kindE js j)] u (Visited (J (m + 1)) Sx K u))) :
    Calls Try.prog 170 #[.pointer (some ⟨KT, 0, none⟩), endV e, .func (.func g) #[rv] #[]] w (Visited (J (beyondF (kindE js j) k).length) Sx K0 w) := by
  have HLK : Hid (∀ u : World, Below w.heap.size w u → (Instr.lookup 198 (.map (some M)) (endV e) false).run Try.prog u = .ok (spotV j k (kindE js j)) u) := fun u hu => by
    have h := (hT.out.below hu).lookup R.out hv.out
    rw [hsp.out] at h
    exact h
  obtain ⟨hj, hk⟩ : ∃ hj : j < js.length, k < js[j].ends.length := by
    obtain ⟨j', k', g1, g2⟩ := R.out.spot hv.out
    obtain ⟨_, hj, hk, g3, _⟩ := spotF_some g1
    rw [hsp.out] at g2
    injection g2 with e1 e2
    subst e1 e2
    simp only [Nat.sub_zero] at hj hk
    exact ⟨hj, hk⟩
  obtain ⟨kd, hkd⟩ : ∃ kd, kindE js j = kd := ⟨_, rfl⟩
  have hkk := R.out.kind j hj
  have h1 : 1 ≤ kd := by rw [← hkd, kindE_at hj]; exact hkk.1
  have h4 : kd ≤ 4 := by rw [← hkd, kindE_at hj]; exact hkk.2.1
  have hkl : (k : Int) < kd := by rw [← hkd, kindE_at hj, ← hkk.2.2]; omega
  rw [hkd] at HLK hV ⊢
  have HBY : Hid (∀ u : World, Calls Try.prog (beyondFn kd) #[.agg #[], .int .i64 k] u (BeyondPost u (beyondF kd k))) := fun u => beyondM_any kd k h1 h4 hkl u
  obtain ⟨L, hL⟩ : ∃ L, beyondF kd k = L := ⟨_, rfl⟩
  have hL2 : L.length ≤ 2 := by rw [← hL]; exact beyondF_few _ _
  rw [hL] at hV HBY ⊢
  have hm := meth_beyond kd h1 h4
  have hcb := call_beyond kd
  have c3 := hT.out.c3
  have hK := cellLt c3
  dsimp only at hK
  have HJL0 := hidP (hJl.out _ _ _ hJ0.out)
  clear hL hkd hkk hkl
  unfold endV
  go_enter Try.func170, Try.ntmps170
  go_upto_region 1 with fail
  generalize hW : World.alloc w _ = W
  have hbW : Below w.heap.size w W := by rw [← hW]; exact blo
  have x0 : W.cell? ⟨w.heap.size, 0, none⟩ = some (.int .i64 e.piece) := by rw [← hW]; simp [go_sem]
  have x1 : W.cell? ⟨w.heap.size, 1, none⟩ = some (.int .i64 e.side) := by rw [← hW]; simp [go_sem]
  have y3 := cell_later hbW c3
  have HBW := hidP hbW
  have hzW : w.heap.size < W.heap.size := by rw [← hW]; simp
  obtain ⟨S, hS⟩ : ∃ S : World → Prop, ∀ u, S u ↔ Below W.heap.size W u := ⟨_, fun _ => Iff.rfl⟩
  have HS0 := hidP hS
  have r0 : ∀ u : Held S, World.cell? u.val ⟨w.heap.size, 0, none⟩ = some (.int .i64 e.piece) := fun u => cell_later ((hS u.val).1 u.2) x0
  have r1 : ∀ u : Held S, World.cell? u.val ⟨w.heap.size, 1, none⟩ = some (.int .i64 e.side) := fun u => cell_later ((hS u.val).1 u.2) x1
  have r3 : ∀ u : Held S, World.cell? u.val ⟨KT, 3, none⟩ = some (.map (some M)) := fun u => cell_later ((hS u.val).1 u.2) y3
  have r4 : ∀ u : Held S, (Instr.lookup 198 (.map (some M)) (.agg #[.int .i64 e.piece, .int .i64 e.side]) false).run Try.prog u.val = .ok (spotV j k kd) u.val := fun u => HLK.out u.val (HBW.out.trans (((hS u.val).1 u.2).mono HBW.out.size))
  have hS1 : S W.drew := (hS _).2 ((Below.refl _ _).drew)
  have hne := held_ne hS1
  clear hS hW hbW
  go_cut [7] (fun v wx => ∃ b, v = .pointer (some ⟨b, 0, none⟩) ∧ W.heap.size ≤ b ∧ wx.cell? ⟨b, 0, none⟩ = some (.int .i64 (j : Int)) ∧ wx.cell? ⟨b, 1, none⟩ = some (.int .i64 (k : Int)) ∧ wx.cell? ⟨b, 2, none⟩ = some (.iface (kindT kd) (.agg #[])) ∧ Below W.heap.size W wx)
  case first =>
    refine wp_region_tree (fun w' => ∃ u : Held S, w' = u.val) 7 (by kernel_rfl) (by kernel_rfl) (held_some hS1) ?_
    (refine wpT_see 0 (by rfl) (by kernel_rfl) (by kernel_rfl) ?_; intro K hK; go_big_quiet_op; go_big_quiet_on); (refine wpT_see 1 (by rfl) (by kernel_rfl) (by kernel_rfl) ?_; intro K hK; go_big_quiet_op; go_big_quiet_on); (refine wpT_see 2 (by rfl) (by kernel_rfl) (by kernel_rfl) ?_; intro K hK; go_big_quiet_op; go_big_quiet_on); (refine wpT_see 3 (by rfl) (by kernel_rfl) (by kernel_rfl) ?_; intro K hK; go_big_quiet_op; go_big_quiet_on); (refine wpT_see 4 (by rfl) (by kernel_rfl) (by kernel_rfl) ?_; intro K hK; go_big_quiet_op; go_big_quiet_on); (refine wpT_see 5 (by rfl) (by kernel_rfl) (by kernel_rfl) ?_; intro K hK; go_big_quiet_op; go_big_quiet_on)
    refine wpT_loud 6 (by rfl) (by kernel_rfl) (by kernel_rfl) ?_
    intro K hK
    go_wp2_with fail
    have hb3 : Below W.heap.size W (W.alloc (Obj.cells #[Value.int IntKind.i64 0, Value.int IntKind.i64 0, Value.nilIface] 206)).drew := ((Below.refl _ _).alloc (Nat.le_refl _) _).drew
    refine hK _ _ (held_some ((HS0.out _).2 hb3)) ?_
    clear hK K
    refine wpT_done (by kernel_rfl) ?_
    unfold spotV
    clear r0 r1 r3 r4 hS1 hne hb3
    go_wp2_with fail
    go_meet
    exact ⟨_, rfl, Nat.le_refl _, by simp [go_sem], by simp [go_sem], by simp [go_sem], ((Below.refl _ _).alloc (Nat.le_refl _) _).drew⟩
  case rest =>
    obtain ⟨b, rfl, hb, z0, z1, z2, hbc⟩ := hcut
    clear r0 r1 r3 r4 hS1 hne y3 x0 x1
    have hzb := cellLt z0
    dsimp only at hzb
    go_wp2_with (refine Calls.mono (HBY.out _) ?_; rintro e w2 ⟨a, c, rfl, hna, hnew, hb2⟩)
    have hbV : Below w.heap.size w w2 := (HBW.out.trans (hbc.mono HBW.out.size)).trans (hb2.mono (by have h1 := HBW.out.size; have h2 := hbc.size; omega))
    replace z0 := cell_later hb2 z0
    replace z1 := cell_later hb2 z1
    replace z2 := cell_later hb2 z2
    have hsz := hbc.size
    have HNB : Hid (¬ K0 b) := fun hk => by have h1 := HJL0.out b hk; omega
    have HNA : Hid (∀ x, a = some x → ¬ K0 x.block) := fun x hx hk => by have h1 := HJL0.out _ hk; have h2 := hnew x hx; omega
    have HNM := hidP hna
    have HBV := hidP hbV
    have HJV := hidP (hJk.out _ _ _ _ hJ0.out hbV)
    have Z0 := hidP z0
    have Z1 := hidP z1
    have Z2 := hidP z2
    clear hna hnew hb2 hbV z0 z1 z2 hm hcb hbc
    go_loopw [22] (fun c wr => ∃ (m : Nat) (K : Nat → Prop), m ≤ L.length ∧ c = .int .i64 m ∧ Hid (J m K wr) ∧ Hid (Only K0 w2 wr) ∧ Hid (Grow K0 K w2)) (fun c _ => L.length - (intOf c).toNat)
    case atStart => exact ⟨0, K0, Nat.zero_le _, rfl, HJV, Only.refl _ _, Grow.refl _ _⟩
    case round =>
      obtain ⟨m, K, hm, rfl, HJ, HO, HG⟩ := hrel
      clear HJV
      have hos := HO.out.size
      by_cases hm' : m < L.length
      · have hmi : (m : Int) < L.length := by omega
        obtain ⟨b2, off2, rfl, hpc⟩ := HNM.out.2.resolve_left (fun h => by rw [List.map_eq_nil_iff] at h; rw [h] at hm'; exact absurd hm' (Nat.not_lt_zero _))
        have q0 := HO.out.cell Z0.out HNB.out
        have q1 := HO.out.cell Z1.out HNB.out
        have q2 := HO.out.cell Z2.out HNB.out
        have q3 := HO.out.cell (hpc m (by simpa using hm')) (HNA.out ⟨b2, off2, none⟩ rfl)
        obtain ⟨t, ht⟩ : ∃ t, L[m] = t := ⟨_, rfl⟩
        have ht2 : L[m]? = some t := by rw [List.getElem?_eq_getElem hm', ht]
        have e3 : (L.map Int.ofNat)[m]'(by simpa using hm') = (t : Int) := by rw [List.getElem_map, ht]; rfl
        rw [e3] at q3
        have HVm := hidP (hV.out m t K wr ht2 HJ.out)
        unfold Hid passV at HVm
        have HVH := hidP HVm
        have hzq := cellLt q3
        have hzq0 := cellLt q0
        dsimp only at hzq hzq0
        clear hpc ht ht2 e3 HVm
        go_upto_if 36 with (refine Calls.mono HVH.out ?_; rintro e w3 ⟨bb, rfl, ho3, hJ3, hS3⟩)
        have HO3 := hidP (HO.out.thru HG.out ho3)
        cases bb
        · have HS3 := hidP (hS3 rfl)
          clear hJ3 hS3 ho3
          go_wp2_with fail
          go_ret
          exact ⟨false, rfl, (Only.of_below HBV.out).trans HO3.out, (fun h => by cases h), fun _ => HS3.out⟩
        · obtain ⟨K', hJ4, hG4⟩ := hJ3 rfl
          have HJ4 := hidP hJ4
          have HG4 := hidP (HG.out.trans hG4 hos)
          clear hJ3 hS3 ho3 hJ4 hG4
          go_wp2_with fail
          go_roundw
          case rel => exact ⟨m + 1, K', by omega, by go_num, HJ4, HO3, HG4⟩
          case measure => simp [intOf]; omega
      · have hme : m = L.length := by omega
        have hmi : ¬ (m : Int) < L.length := by omega
        subst hme
        go_wp2_with fail
        go_ret
        exact ⟨true, rfl, (Only.of_below HBV.out).trans HO.out, fun _ => ⟨K, HJ.out, HG.out.mono HBV.out.size⟩, fun h => by cases h⟩
end Go.Proofs.Ytmkdgnmmebldgaa
