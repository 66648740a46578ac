import Derived.Test.YtmkdgnmmebldgaaPq30
import Derived.Test.YtmkdgnmmebldgaaPq31
namespace Go.Proofs.Ytmkdgnmmebldgaa
open Go.RowKit Go.Deep Go.Maps
def passV (j k t : Nat) (kd : Int) : Value := .agg #[.int .i64 (j : Int), .int .i64 (k : Int), .int .i64 (t : Int), .iface (kindT kd) (.agg #[])]
def overI (p : MPath) (j k t : Nat) (kd : Int) (e : MEnd) : MPath × Bool :=
  let q : MPath := { p with steps := p.steps ++ [stepFromE e] }
  if kd = 4 then ({ q with crosses := p.crosses ++ [(j : Int)] }, true)
  else if kd = 3 then
    (if lieF p.lies j ≠ 0 then (q, decide (lieF p.lies j = (max k t : Nat)))
     else ({ q with lies := p.lies ++ [⟨j, (max k t : Nat)⟩] }, true))
  else (q, true)
theorem isC (w : World) (xt : TypeId) (k : Int) (h1 : 1 ≤ k) (h4 : k ≤ 4) : (Instr.typeAssert (.iface (kindT k) (.agg #[])) xt 255 true).run Try.prog w = .ok (.tuple #[.agg #[], .bool (decide (k = 4))]) w := by
  have : k = 1 ∨ k = 2 ∨ k = 3 ∨ k = 4 := by omega
  rcases this with rfl | rfl | rfl | rfl
  · exact missC w xt _ (by decide)
  · exact missC w xt _ (by decide)
  · exact missC w xt _ (by decide)
  · exact run_typeAssert_hit (P := Try.prog) w xt 255 (.agg #[]) _ Try.underlying255
theorem isS (w : World) (xt : TypeId) (k : Int) (h1 : 1 ≤ k) (h4 : k ≤ 4) : (Instr.typeAssert (.iface (kindT k) (.agg #[])) xt 254 true).run Try.prog w = .ok (.tuple #[.agg #[], .bool (decide (k = 3))]) w := by
  have : k = 1 ∨ k = 2 ∨ k = 3 ∨ k = 4 := by omega
  rcases this with rfl | rfl | rfl | rfl
  · exact missS w xt _ (by decide)
  · exact missS w xt _ (by decide)
  · exact run_typeAssert_hit (P := Try.prog) w xt 254 (.agg #[]) _ Try.underlying254
  · exact missS w xt _ (by decide)
theorem own_cap {w : World} {B e s n : Nat} {x : Option Addr} {y : Nat} {xs : List Value} (h : w.ownsRow B e s (.slice x n y) n xs) : n ≤ y := by
  rcases h.2 with ⟨_, rfl⟩ | ⟨g, cap, cur, h1, _, _, h2, _⟩
  · exact Nat.zero_le _
  · cases h1
    exact h2
def six (u : World) (b : Nat) (v0 v1 v2 v3 v4 v5 : Value) : World := (((((u.setCell ⟨b, 0, none⟩ v0).setCell ⟨b, 1, none⟩ v1).setCell ⟨b, 2, none⟩ v2).setCell ⟨b, 3, none⟩ v3).setCell ⟨b, 4, none⟩ v4).setCell ⟨b, 5, none⟩ v5
theorem six_cells {u : World} {b T : Nat} {f : Nat → Value} (hr : u.rowIs b T 6 f) (v0 v1 v2 v3 v4 v5 : Value) : (six u b v0 v1 v2 v3 v4 v5).cell? ⟨b, 0, none⟩ = some v0 ∧ (six u b v0 v1 v2 v3 v4 v5).cell? ⟨b, 1, none⟩ = some v1 ∧ (six u b v0 v1 v2 v3 v4 v5).cell? ⟨b, 2, none⟩ = some v2 ∧ (six u b v0 v1 v2 v3 v4 v5).cell? ⟨b, 3, none⟩ = some v3 ∧ (six u b v0 v1 v2 v3 v4 v5).cell? ⟨b, 4, none⟩ = some v4 ∧ (six u b v0 v1 v2 v3 v4 v5).cell? ⟨b, 5, none⟩ = some v5 := by
  have h := (((((hr.set 0 v0).set 1 v1).set 2 v2).set 3 v3).set 4 v4).set 5 v5
  exact ⟨(h.cell (i := 0) (by omega)).trans (by simp), (h.cell (i := 1) (by omega)).trans (by simp), (h.cell (i := 2) (by omega)).trans (by simp), (h.cell (i := 3) (by omega)).trans (by simp), (h.cell (i := 4) (by omega)).trans (by simp), (h.cell (i := 5) (by omega)).trans (by simp)⟩
theorem six_owns {u : World} {b B e s n : Nat} {v : Value} {xs : List Value} (h : u.ownsRow B e s v n xs) (hb : b < B) (v0 v1 v2 v3 v4 v5 : Value) : (six u b v0 v1 v2 v3 v4 v5).ownsRow B e s v n xs :=
  ownsRow_setCell_below (ownsRow_setCell_below (ownsRow_setCell_below (ownsRow_setCell_below (ownsRow_setCell_below (ownsRow_setCell_below h (a := ⟨b, 0, none⟩) hb v0) (a := ⟨b, 1, none⟩) hb v1) (a := ⟨b, 2, none⟩) hb v2) (a := ⟨b, 3, none⟩) hb v3) (a := ⟨b, 4, none⟩) hb v4) (a := ⟨b, 5, none⟩) hb v5
theorem six_below {w u : World} {b B : Nat} (h : Below B w u) (hb : B ≤ b) (v0 v1 v2 v3 v4 v5 : Value) : Below B w (six u b v0 v1 v2 v3 v4 v5) :=
  (((((h.setCell (p := ⟨b, 0, none⟩) hb v0).setCell (p := ⟨b, 1, none⟩) hb v1).setCell (p := ⟨b, 2, none⟩) hb v2).setCell (p := ⟨b, 3, none⟩) hb v3).setCell (p := ⟨b, 4, none⟩) hb v4).setCell (p := ⟨b, 5, none⟩) hb v5
theorem owns_drew {u : World} {B e s n : Nat} {v : Value} {xs : List Value} (h : u.ownsRow B e s v n xs) : u.drew.ownsRow B e s v n xs := h
theorem beq_decide (a b : Int) : (a == b) = decide (a = b) := by
  by_cases h : a = b <;> simp [h]
theorem six_only (u : World) (b : Nat) (v0 v1 v2 v3 v4 v5 : Value) : Only (fun k => k = b) u (six u b v0 v1 v2 v3 v4 v5) := by
  have h0 := (Only.refl (fun k => k = b) u).setCell (p := ⟨b, 0, none⟩) (Or.inl rfl) v0
  have h1 := h0.setCell (p := ⟨b, 1, none⟩) (Or.inl rfl) v1
  have h2 := h1.setCell (p := ⟨b, 2, none⟩) (Or.inl rfl) v2
  have h3 := h2.setCell (p := ⟨b, 3, none⟩) (Or.inl rfl) v3
  have h4 := h3.setCell (p := ⟨b, 4, none⟩) (Or.inl rfl) v4
  exact h4.setCell (p := ⟨b, 5, none⟩) (Or.inl rfl) v5
theorem PListsAt.grow {w w' : World} {d : PAddr} {p : MPath} (h : PListsAt w d p) (hb : Below w.heap.size w w') {B e : Nat} {x : Option Addr} {y : Nat} {s : MStep} (ho : w'.ownsRow B e 2 (.slice x (p.steps.length + 1) y) (p.steps.length + 1) (flatE (p.steps ++ [s]))) : PListsAt w' ⟨x, y, d.a1, d.c1, d.a2, d.c2⟩ { p with steps := p.steps ++ [s] } := by
  have hl : (p.steps ++ [s]).length = p.steps.length + 1 := by simp
  rw [← hl] at ho
  have e1 := own_listE ho
  exact ⟨e1.1, h.lies.below hb, h.crosses.below hb, e1.2, h.nil1, h.nil2, own_cap ho⟩
theorem PListsAt.grow2 {w w' : World} {d : PAddr} {p : MPath} (h : PListsAt w d p) (hb : Below w.heap.size w w') {B e B' e' : Nat} {x x' : Option Addr} {y y' : Nat} {s : MStep} {l : MLie} (ho : w'.ownsRow B e 2 (.slice x (p.steps.length + 1) y) (p.steps.length + 1) (flatE (p.steps ++ [s]))) (ho' : w'.ownsRow B' e' 2 (.slice x' (p.lies.length + 1) y') (p.lies.length + 1) (flatE (p.lies ++ [l]))) : PListsAt w' ⟨x, y, x', y', d.a2, d.c2⟩ { p with steps := p.steps ++ [s], lies := p.lies ++ [l] } := by
  have hl : (p.steps ++ [s]).length = p.steps.length + 1 := by simp
  have hl' : (p.lies ++ [l]).length = p.lies.length + 1 := by simp
  rw [← hl] at ho
  rw [← hl'] at ho'
  have e1 := own_listE ho
  have e2 := own_listE ho'
  exact ⟨e1.1, e2.1, h.crosses.below hb, e1.2, e2.2, h.nil2, own_cap ho⟩
theorem PListsAt.grow3 {w w' : World} {d : PAddr} {p : MPath} (h : PListsAt w d p) (hb : Below w.heap.size w w') {B e B' e' : Nat} {x x' : Option Addr} {y y' : Nat} {s : MStep} {l : Int} (ho : w'.ownsRow B e 2 (.slice x (p.steps.length + 1) y) (p.steps.length + 1) (flatE (p.steps ++ [s]))) (ho' : w'.ownsRow B' e' 1 (.slice x' (p.crosses.length + 1) y') (p.crosses.length + 1) (flatN (p.crosses ++ [l]))) : PListsAt w' ⟨x, y, d.a1, d.c1, x', y'⟩ { p with steps := p.steps ++ [s], crosses := p.crosses ++ [l] } := by
  have hl : (p.steps ++ [s]).length = p.steps.length + 1 := by simp
  have hl' : (p.crosses ++ [l]).length = p.crosses.length + 1 := by simp
  rw [← hl] at ho
  rw [← hl'] at ho'
  have e1 := own_listE ho
  have e2 := own_listN ho'
  exact ⟨e1.1, h.lies.below hb, e2.1, e1.2, h.nil1, e2.2, own_cap ho⟩
theorem owns_only {K : Nat → Prop} {w u : World} {B e s n : Nat} {v : Value} {xs : List Value} (h : w.ownsRow B e s v n xs) (hO : Only K w u) (hK : ∀ k, K k → k < B) : u.ownsRow B e s v n xs := by
  refine ⟨h.1, ?_⟩
  rcases h.2 with h2 | ⟨g, cap, cur, h1, h2, h3, h4⟩
  · exact Or.inl h2
  · exact Or.inr ⟨g, cap, cur, h1, h2, (hO.block g (Array.getElem?_eq_some_iff.1 h3).1 (fun hk => by have := hK g hk; omega)).trans h3, h4⟩
def PSound (w w' : World) (d d' : PAddr) (p p' : MPath) : Prop := ∀ (K : Nat → Prop) (u : World), (∀ k, K k → k < w.heap.size) → Only K w' u → PListsAt u d p → PListsAt u d' p'
theorem PSound.grow {w w' : World} {d : PAddr} {p : MPath} {B e : Nat} {x : Option Addr} {y : Nat} {s : MStep} (hB : w.heap.size ≤ B) (ho : w'.ownsRow B e 2 (.slice x (p.steps.length + 1) y) (p.steps.length + 1) (flatE (p.steps ++ [s]))) : PSound w w' d ⟨x, y, d.a1, d.c1, d.a2, d.c2⟩ p { p with steps := p.steps ++ [s] } :=
  fun _ _ hK hO h => h.grow (Below.refl _ _) (owns_only ho hO (fun k hk => Nat.lt_of_lt_of_le (hK k hk) hB))
theorem PSound.grow2 {w w' : World} {d : PAddr} {p : MPath} {B e B' e' : Nat} {x x' : Option Addr} {y y' : Nat} {s : MStep} {l : MLie} (hB : w.heap.size ≤ B) (hB' : w.heap.size ≤ B') (ho : w'.ownsRow B e 2 (.slice x (p.steps.length + 1) y) (p.steps.length + 1) (flatE (p.steps ++ [s]))) (ho' : w'.ownsRow B' e' 2 (.slice x' (p.lies.length + 1) y') (p.lies.length + 1) (flatE (p.lies ++ [l]))) : PSound w w' d ⟨x, y, x', y', d.a2, d.c2⟩ p { p with steps := p.steps ++ [s], lies := p.lies ++ [l] } :=
  fun _ _ hK hO h => h.grow2 (Below.refl _ _) (owns_only ho hO (fun k hk => Nat.lt_of_lt_of_le (hK k hk) hB)) (owns_only ho' hO (fun k hk => Nat.lt_of_lt_of_le (hK k hk) hB'))
theorem PSound.grow3 {w w' : World} {d : PAddr} {p : MPath} {B e B' e' : Nat} {x x' : Option Addr} {y y' : Nat} {s : MStep} {l : Int} (hB : w.heap.size ≤ B) (hB' : w.heap.size ≤ B') (ho : w'.ownsRow B e 2 (.slice x (p.steps.length + 1) y) (p.steps.length + 1) (flatE (p.steps ++ [s]))) (ho' : w'.ownsRow B' e' 1 (.slice x' (p.crosses.length + 1) y') (p.crosses.length + 1) (flatN (p.crosses ++ [l]))) : PSound w w' d ⟨x, y, d.a1, d.c1, x', y'⟩ p { p with steps := p.steps ++ [s], crosses := p.crosses ++ [l] } :=
  fun _ _ hK hO h => h.grow3 (Below.refl _ _) (owns_only ho hO (fun k hk => Nat.lt_of_lt_of_le (hK k hk) hB)) (owns_only ho' hO (fun k hk => Nat.lt_of_lt_of_le (hK k hk) hB'))
theorem news0 {u : World} {g : Nat} {a : Value} (c0 : u.cell? ⟨g, 0, none⟩ = some a) : ∀ (j : Nat) (v : Value), [a][j]? = some v → u.cell? ((⟨g, 0, none⟩ : Addr).add j) = some v := by
  intro j v hv
  rw [addr_at, Nat.zero_add]
  match j with
  | 0 => simp at hv; rw [← hv]; exact c0
  | j + 1 => simp at hv
theorem news1 {u : World} {g : Nat} {a b : Value} (c0 : u.cell? ⟨g, 0, none⟩ = some a) (c1 : u.cell? ⟨g, 1, none⟩ = some b) : ∀ (j : Nat) (v : Value), [a, b][j]? = some v → u.cell? ((⟨g, 0, none⟩ : Addr).add j) = some v := by
  intro j v hv
  rw [addr_at, Nat.zero_add]
  match j with
  | 0 => simp at hv; rw [← hv]; exact c0
  | 1 => simp at hv; rw [← hv]; exact c1
  | j + 2 => simp at hv
set_option maxRecDepth 100000 in
set_option maxHeartbeats 8000000 in
theorem path_over_any (d : PAddr) (p : MPath) (j k t : Nat) (kd : Int) (en : MEnd) (w : World) (h : Hid (PListsAt w d p)) (hn : p.steps.length ≤ 1000) (hnl : p.lies.length ≤ 1000) (hnc : p.crosses.length ≤ 1000) (hk1 : 1 ≤ kd) (hk4 : kd ≤ 4) :
    Calls Try.prog 184 #[pathV d p, passV j k t kd, endV en] w fun e w' => ∃ d', e = .returned (.tuple #[pathV d' (overI p j k t kd en).1, .bool (overI p j k t kd en).2]) ∧ PSound w w' d d' p (overI p j k t kd en).1 ∧ Below w.heap.size w w' := by
  unfold pathV passV endV
  obtain ⟨se, hse⟩ : ∃ se, stepFromE en = se := ⟨_, rfl⟩
  have HSF : Hid (∀ u : World, Calls Try.prog 185 #[.agg #[.int .i64 en.piece, .int .i64 en.side]] u fun e w' => e = .returned (.agg #[.int .i64 se.piece, .int .i64 se.side]) ∧ Below u.heap.size u w') := fun u => by rw [← hse]; exact stepFrom_any _ _ u
  go_enter Try.func184, Try.ntmps184
  go_upto_region 1 with fail
  generalize hPF : (fun i : Nat => (#[Value.int .i64 p.start, .int .i64 p.stop, .bool p.ended, .slice d.a0 p.steps.length d.c0, .slice d.a1 p.lies.length d.c1, .slice d.a2 p.crosses.length d.c2] : Array Value).getD i (.bool false)) = pf
  generalize hW : World.alloc (World.alloc (World.alloc (World.alloc w _) _) _) _ = W
  have HRP : Hid (W.rowIs w.heap.size 129 6 pf) := by
    unfold Hid
    rw [← hW, ← hPF]
    exact (((row_of_alloc2 w _ _).alloc _).alloc _).alloc _
  have HRR : Hid (∃ f, W.rowIs (w.heap.size + 1 + 1 + 1) 129 6 f) := by
    unfold Hid
    rw [← hW]
    obtain ⟨X, hX⟩ : ∃ X, X = World.alloc (World.alloc (World.alloc w (Obj.cells #[Value.int .i64 p.start, .int .i64 p.stop, .bool p.ended, .slice d.a0 p.steps.length d.c0, .slice d.a1 p.lies.length d.c1, .slice d.a2 p.crosses.length d.c2] 129)) (Obj.cells #[.int .i64 (j : Int), .int .i64 (k : Int), .int .i64 (t : Int), .iface (kindT kd) (.agg #[])] 301)) (Obj.cells #[.int .i64 en.piece, .int .i64 en.side] 139) := ⟨_, rfl⟩
    have hXs : X.heap.size = w.heap.size + 1 + 1 + 1 := by rw [hX]; simp
    have := row_of_alloc2 X #[.int .i64 0, .int .i64 0, .bool false, .slice none 0 0, .slice none 0 0, .slice none 0 0] 129
    rw [hXs, hX] at this
    exact ⟨_, this⟩
  have hbW : Below w.heap.size w W := by rw [← hW]; exact blo
  have q0 : W.cell? ⟨w.heap.size + 1, 0, none⟩ = some (.int .i64 (j : Int)) := by rw [← hW]; simp [go_sem]
  have q1 : W.cell? ⟨w.heap.size + 1, 1, none⟩ = some (.int .i64 (k : Int)) := by rw [← hW]; simp [go_sem]
  have q2 : W.cell? ⟨w.heap.size + 1, 2, none⟩ = some (.int .i64 (t : Int)) := by rw [← hW]; simp [go_sem]
  have q3 : W.cell? ⟨w.heap.size + 1, 3, none⟩ = some (.iface (kindT kd) (.agg #[])) := by rw [← hW]; simp [go_sem]
  have e0 : W.cell? ⟨w.heap.size + 1 + 1, 0, none⟩ = some (.int .i64 en.piece) := by rw [← hW]; simp [go_sem]
  have e1 : W.cell? ⟨w.heap.size + 1 + 1, 1, none⟩ = some (.int .i64 en.side) := by rw [← hW]; simp [go_sem]
  have HBW := hidP hbW
  have hzW : w.heap.size + 1 + 1 + 1 < W.heap.size := by rw [← hW]; simp
  clear hW hbW
  have p3 : W.cell? ⟨w.heap.size, 3, none⟩ = some (.slice d.a0 p.steps.length d.c0) := (HRP.out.cell (i := 3) (by omega)).trans (by rw [← hPF]; rfl)
  obtain ⟨S, hS⟩ : ∃ S : World → Prop, ∀ u, S u ↔ Below W.heap.size W u := ⟨_, fun _ => Iff.rfl⟩
  have HS0 := hidP hS
  have r0 : ∀ u : Held S, World.cell? u.val ⟨w.heap.size + 1 + 1, 0, none⟩ = some (.int .i64 en.piece) := fun u => cell_later ((hS u.val).1 u.2) e0
  have r1 : ∀ u : Held S, World.cell? u.val ⟨w.heap.size + 1 + 1, 1, none⟩ = some (.int .i64 en.side) := fun u => cell_later ((hS u.val).1 u.2) e1
  have r3 : ∀ u : Held S, World.cell? u.val ⟨w.heap.size, 3, none⟩ = some (.slice d.a0 p.steps.length d.c0) := fun u => cell_later ((hS u.val).1 u.2) p3
  have hS1 : S W.drew := (hS _).2 ((Below.refl _ _).drew)
  have hne := held_ne hS1
  clear hS
  go_cut [16] (fun _ wx => ∃ x y, wx.rowIs w.heap.size 129 6 (fun i => if i = 3 then .slice x (p.steps.length + 1) y else pf i) ∧ wx.ownsRow W.heap.size 51 2 (.slice x (p.steps.length + 1) y) (p.steps.length + 1) (flatE (p.steps ++ [se])) ∧ Only (fun k => k = w.heap.size) W wx)
  case first =>
    refine wp_region_tree (fun w' => ∃ u : Held S, w' = u.val) 8 (by kernel_rfl) (by kernel_rfl) (held_some hS1) ?_
    (refine wpT_see 0 (by rfl) (by kernel_rfl) (by kernel_rfl) ?_; intro K hK; go_big_quiet_op; go_big_quiet_on); (refine wpT_see 1 (by rfl) (by kernel_rfl) (by kernel_rfl) ?_; intro K hK; go_big_quiet_op; go_big_quiet_on)
    (refine wpT_see 3 (by rfl) (by kernel_rfl) (by kernel_rfl) ?_; intro K hK; go_big_quiet_op; go_big_quiet_on)
    refine wpT_loud 2 (by rfl) (by kernel_rfl) (by kernel_rfl) ?_
    · intro K hK
      go_wp2_with (at_builtin; refine wpList_copy0 rfl (.tmp 11) 37 rfl 51 _ 2 16 Try.underlying37 Try.infoStep rfl (by decide) d.a0 p.steps.length d.c0 (flatE p.steps) rfl h.out.nil0 (flatE_len _) (newsE ((h.out.steps.below HBW.out).below ((Below.refl _ _).drew))) (flatE_one _) h.out.steps.1 (by omega) ?_; intro x2 y2 w2 ho2 hb2')
      have hb2 : Below W.heap.size W w2 := (Below.refl _ _).drew.trans hb2'
      refine hK _ _ (held_some ((HS0.out _).2 hb2)) ?_
      clear hK K hb2'
      refine wpT_loud 4 (by rfl) (by kernel_rfl) (by kernel_rfl) ?_
      intro K hK
      go_wp2_with (go_at_call 185; refine (HSF.out _).mono ?_; rintro e w3 ⟨rfl, hb3'⟩)
      have hb3 : Below W.heap.size W w3 := hb2.trans (hb3'.mono hb2.size)
      have HO3 := hidP (owns_below ho2 hb3')
      refine hK _ _ (held_some ((HS0.out _).2 hb3)) ?_
      clear hK K hb3' ho2
      refine wpT_loud 5 (by rfl) (by kernel_rfl) (by kernel_rfl) ?_
      intro K hK
      go_wp2_with fail
      generalize hV : World.alloc w3 _ = V
      have hbV' : Below w3.heap.size w3 V := by rw [← hV]; exact (Below.refl _ _).alloc (Nat.le_refl _) _
      have hb4 : Below W.heap.size W V := hb3.trans (hbV'.mono hb3.size)
      have HO := hidP (owns_below HO3.out hbV')
      have HC : Hid (V.cell? ⟨w3.heap.size, 0, none⟩ = some (.int .i64 se.piece) ∧ V.cell? ⟨w3.heap.size, 1, none⟩ = some (.int .i64 se.side)) := by
        unfold Hid
        rw [← hV]
        constructor <;> simp [go_sem]
      refine hK _ _ (held_some ((HS0.out _).2 hb4)) ?_
      clear hK K hV HO3 hbV'
      have hz4 := hb4.size
      refine wpT_loud 6 (by rfl) (by kernel_rfl) (by kernel_rfl) ?_
      intro K hK
      go_wp2_with (at_builtin; refine wpList_onto rfl (.tmp 12) (.tmp 15) 37 rfl W.heap.size 51 _ 2 16 Try.underlying37 Try.infoStep rfl (by decide) (.slice x2 p.steps.length y2) p.steps.length (flatE p.steps) rfl HO.out ⟨w3.heap.size, 0, none⟩ 1 1 [.int .i64 se.piece, .int .i64 se.side] rfl rfl (news1 HC.out.1 HC.out.2) (by simp [Value.oneCell']) (by unfold maxLen; omega) (by omega) (by omega) ?_; intro x6 y6 w6 ho6 hb6'; rw [flatE_push] at ho6; have HO6 := hidP ho6; have hb6 : Below W.heap.size W w6 := hb4.trans hb6'; clear ho6 hb6')
      refine hK _ _ (held_some ((HS0.out _).2 hb6)) ?_
      clear hK K
      (refine wpT_see 7 (by rfl) (by kernel_rfl) (by kernel_rfl) ?_; intro K hK; go_big_quiet_op; go_big_quiet_on)
      refine wpT_done (by kernel_rfl) ?_
      have hr6 := HRP.out.of_block (hb6.block _ HRP.out.lt)
      have s3 := hr6.cell (i := 3) (by omega)
      have f3 := hr6.frozen 3
      have hz6 := hr6.lt
      have HR7 := hidP (hr6.set 3 (.slice x6 (p.steps.length + 1) y6))
      clear r0 r1 r3 hS1 hne hr6
      go_wp2_with fail
      go_meet
      exact ⟨x6, y6, HR7.out, ownsRow_setCell_below HO6.out (a := ⟨w.heap.size, 3, none⟩) (by simp only []; omega) _, (Only.of_below (S := fun k => k = w.heap.size) hb6).setCell (p := ⟨w.heap.size, 3, none⟩) (Or.inl rfl) _⟩
  case rest =>
    obtain ⟨x, y, hr, ho, hO⟩ := hcut
    have HO := hidP ho
    have hbc : Below w.heap.size w wc := HBW.out.trans (hO.below (by omega) (fun k hk e => by omega))
    have HBC := hidP hbc
    replace q0 := hO.cell q0 (by show ¬ w.heap.size + 1 = w.heap.size; omega)
    replace q1 := hO.cell q1 (by show ¬ w.heap.size + 1 = w.heap.size; omega)
    replace q2 := hO.cell q2 (by show ¬ w.heap.size + 1 = w.heap.size; omega)
    replace q3 := hO.cell q3 (by show ¬ w.heap.size + 1 = w.heap.size; omega)
    obtain ⟨rf, hrf⟩ := HRR.out
    have hrR := hrf.of_block (hO.block _ hrf.lt (by omega))
    have c0 : wc.cell? ⟨w.heap.size, 0, none⟩ = some (.int .i64 p.start) := (hr.cell (i := 0) (by omega)).trans (by rw [← hPF]; rfl)
    have c1 : wc.cell? ⟨w.heap.size, 1, none⟩ = some (.int .i64 p.stop) := (hr.cell (i := 1) (by omega)).trans (by rw [← hPF]; rfl)
    have c2 : wc.cell? ⟨w.heap.size, 2, none⟩ = some (.bool p.ended) := (hr.cell (i := 2) (by omega)).trans (by rw [← hPF]; rfl)
    have c3 : wc.cell? ⟨w.heap.size, 3, none⟩ = some (.slice x (p.steps.length + 1) y) := (hr.cell (i := 3) (by omega)).trans (by simp)
    have c4 : wc.cell? ⟨w.heap.size, 4, none⟩ = some (.slice d.a1 p.lies.length d.c1) := (hr.cell (i := 4) (by omega)).trans (by rw [← hPF]; rfl)
    have c5 : wc.cell? ⟨w.heap.size, 5, none⟩ = some (.slice d.a2 p.crosses.length d.c2) := (hr.cell (i := 5) (by omega)).trans (by rw [← hPF]; rfl)
    have HRc := hidP hr
    have HRr := hidP hrR
    have hzP := hr.lt
    have hzR := hrR.lt
    have hzO := hO.size
    clear r0 r1 r3 hS1 hne hr ho hO hrf hrR HRR HRP hbc e0 e1 p3 HS0 HSF HBW
    have hC : ∀ u : World, (Instr.typeAssert (.iface (kindT kd) (.agg #[])) 202 255 true).run Try.prog u = .ok (.tuple #[.agg #[], .bool (decide (kd = 4))]) u := fun u => isC u _ kd hk1 hk4
    have hSw : ∀ u : World, (Instr.typeAssert (.iface (kindT kd) (.agg #[])) 202 254 true).run Try.prog u = .ok (.tuple #[.agg #[], .bool (decide (kd = 3))]) u := fun u => isS u _ kd hk1 hk4
    generalize kindT kd = kt at q3 hC hSw
    by_cases hkd4 : kd = 4
    · rw [decide_eq_true hkd4] at hC
      have HE : Hid (overI p j k t kd en = ({ p with steps := p.steps ++ [se], crosses := p.crosses ++ [(j : Int)] }, true)) := by
        unfold Hid overI
        rw [hse, if_pos hkd4]
      clear hkd4
      go_upto_region 4 with fail
      obtain ⟨S4, hS⟩ : ∃ S : World → Prop, ∀ u, S u ↔ Below wc.heap.size wc u := ⟨_, fun _ => Iff.rfl⟩
      have HS0 := hidP hS
      have r0 : ∀ u : Held S4, World.cell? u.val ⟨w.heap.size + 1, 0, none⟩ = some (.int .i64 (j : Int)) := fun u => cell_later ((hS u.val).1 u.2) q0
      have r3 : ∀ u : Held S4, World.cell? u.val ⟨w.heap.size, 5, none⟩ = some (.slice d.a2 p.crosses.length d.c2) := fun u => cell_later ((hS u.val).1 u.2) c5
      have hS1 : S4 wc.drew := (hS _).2 ((Below.refl _ _).drew)
      have hne := held_ne hS1
      clear hS
      refine wp_region_tree (fun w' => ∃ u : Held S4, w' = u.val) 8 (by kernel_rfl) (by kernel_rfl) (held_some hS1) ?_
      (refine wpT_see 0 (by rfl) (by kernel_rfl) (by kernel_rfl) ?_; intro K hK; go_big_quiet_op; go_big_quiet_on); (refine wpT_see 1 (by rfl) (by kernel_rfl) (by kernel_rfl) ?_; intro K hK; go_big_quiet_op; go_big_quiet_on)
      (refine wpT_see 3 (by rfl) (by kernel_rfl) (by kernel_rfl) ?_; intro K hK; go_big_quiet_op; go_big_quiet_on); (refine wpT_see 4 (by rfl) (by kernel_rfl) (by kernel_rfl) ?_; intro K hK; go_big_quiet_op; go_big_quiet_on)
      refine wpT_loud2 2 5 (by rfl) (by rfl) (by kernel_rfl) (by kernel_rfl) (by kernel_rfl) ?_ ?_
      · intro K hK
        go_wp2_with (at_builtin; refine wpList_copy0 rfl (.tmp 24) 34 rfl 3 _ 1 8 Try.underlying34 Try.infoInt rfl (by decide) d.a2 p.crosses.length d.c2 (flatN p.crosses) rfl h.out.nil2 (flatN_len _) (newsN ((h.out.crosses.below HBC.out).below ((Below.refl _ _).drew))) (flatN_one _) h.out.crosses.1 (by omega) ?_; intro x2 y2 w2 ho2 hb2')
        have hb2 : Below wc.heap.size wc w2 := (Below.refl _ _).drew.trans hb2'
        refine hK _ _ (held_some ((HS0.out _).2 hb2)) ?_
        clear hK K hb2'
        refine wpT_loud 5 (by rfl) (by kernel_rfl) (by kernel_rfl) ?_
        intro K hK
        go_wp2_with fail
        generalize hV : World.alloc w2 _ = V
        have hbV' : Below w2.heap.size w2 V := by rw [← hV]; exact (Below.refl _ _).alloc (Nat.le_refl _) _
        have hb4 : Below wc.heap.size wc V := hb2.trans (hbV'.mono hb2.size)
        have HOl := hidP (owns_below ho2 hbV')
        have HCl : Hid (V.cell? ⟨w2.heap.size, 0, none⟩ = some (.int .i64 (j : Int))) := by
          unfold Hid
          rw [← hV]
          simp [go_sem]
        refine hK _ _ (held_some ((HS0.out _).2 hb4)) ?_
        clear hK K hV ho2 hbV'
        have hz4 := hb4.size
        refine wpT_loud 6 (by rfl) (by kernel_rfl) (by kernel_rfl) ?_
        intro K hK
        go_wp2_with (at_builtin; refine wpList_onto rfl (.tmp 25) (.tmp 28) 34 rfl wc.heap.size 3 _ 1 8 Try.underlying34 Try.infoInt rfl (by decide) (.slice x2 p.crosses.length y2) p.crosses.length (flatN p.crosses) rfl HOl.out ⟨w2.heap.size, 0, none⟩ 1 1 [.int .i64 (j : Int)] rfl rfl (news0 HCl.out) (by simp [Value.oneCell']) (by unfold maxLen; omega) (by omega) (by omega) ?_; intro x6 y6 w6 ho6 hb6'; rw [flatN_push p.crosses (j : Int)] at ho6; have HO6 := hidP ho6; have hb6 : Below wc.heap.size wc w6 := hb4.trans hb6'; clear ho6 hb6')
        refine hK _ _ (held_some ((HS0.out _).2 hb6)) ?_
        clear hK K
        (refine wpT_see 7 (by rfl) (by kernel_rfl) (by kernel_rfl) ?_; intro K hK; go_big_quiet_op; go_big_quiet_on)
        refine wpT_done (by kernel_rfl) ?_
        have hr6 := HRc.out.of_block (hb6.block _ HRc.out.lt)
        have hR6 := HRr.out.of_block (hb6.block _ HRr.out.lt)
        have s5 := hr6.cell (i := 5) (by omega)
        have f55 := hr6.frozen 5
        have hz6 := hr6.lt
        have hz7 := hR6.lt
        replace c0 := cell_later hb6 c0
        replace c1 := cell_later hb6 c1
        replace c2 := cell_later hb6 c2
        replace c3 := cell_later hb6 c3
        replace c4 := cell_later hb6 c4
        have g0 := hR6.cell (i := 0) (by omega)
        have g1 := hR6.cell (i := 1) (by omega)
        have g2 := hR6.cell (i := 2) (by omega)
        have g3 := hR6.cell (i := 3) (by omega)
        have g4 := hR6.cell (i := 4) (by omega)
        have g5 := hR6.cell (i := 5) (by omega)
        have f0 := hR6.frozen 0
        have f1 := hR6.frozen 1
        have f2 := hR6.frozen 2
        have f3 := hR6.frozen 3
        have f4 := hR6.frozen 4
        have f5 := hR6.frozen 5
        have HW6 := hidP (six_cells (hR6.setOther (a := ⟨w.heap.size, 5, none⟩) (by simp only [ne_eq]; omega) (.slice x6 (p.crosses.length + 1) y6)) (.int .i64 p.start) (.int .i64 p.stop) (.bool p.ended) (.slice x (p.steps.length + 1) y) (.slice d.a1 p.lies.length d.c1) (.slice x6 (p.crosses.length + 1) y6))
        have HOs := hidP (six_owns (ownsRow_setCell_below (owns_below HO.out hb6) (a := ⟨w.heap.size, 5, none⟩) (by simp only []; omega) (.slice x6 (p.crosses.length + 1) y6)) (b := w.heap.size + 1 + 1 + 1) (by omega) (.int .i64 p.start) (.int .i64 p.stop) (.bool p.ended) (.slice x (p.steps.length + 1) y) (.slice d.a1 p.lies.length d.c1) (.slice x6 (p.crosses.length + 1) y6))
        have HOL := hidP (six_owns (ownsRow_setCell_below HO6.out (a := ⟨w.heap.size, 5, none⟩) (by simp only []; omega) (.slice x6 (p.crosses.length + 1) y6)) (b := w.heap.size + 1 + 1 + 1) (by omega) (.int .i64 p.start) (.int .i64 p.stop) (.bool p.ended) (.slice x (p.steps.length + 1) y) (.slice d.a1 p.lies.length d.c1) (.slice x6 (p.crosses.length + 1) y6))
        have HBF := hidP (six_below ((HBC.out.trans (hb6.mono HBC.out.size)).setCell (p := ⟨w.heap.size, 5, none⟩) (Nat.le_refl _) (.slice x6 (p.crosses.length + 1) y6)) (b := w.heap.size + 1 + 1 + 1) (by omega) (.int .i64 p.start) (.int .i64 p.stop) (.bool p.ended) (.slice x (p.steps.length + 1) y) (.slice d.a1 p.lies.length d.c1) (.slice x6 (p.crosses.length + 1) y6))
        clear r0 r3 hS1 hne hr6 hR6 c5
        go_wp2_with fail
        obtain ⟨k0, k1, k2, k3, k4, k5⟩ := HW6.out
        unfold six at k0 k1 k2 k3 k4 k5
        exact bodyPost_ret (v := .tuple #[.agg #[.int .i64 p.start, .int .i64 p.stop, .bool p.ended, .slice x (p.steps.length + 1) y, .slice d.a1 p.lies.length d.c1, .slice x6 (p.crosses.length + 1) y6], .bool true]) (by simp [results, Try.results184, go_sem, k0, k1, k2, k3, k4, k5]) rfl ⟨⟨x, y, d.a1, d.c1, x6, y6⟩, by rw [HE.out]; simp, by rw [HE.out]; exact PSound.grow3 (by have h2 := HBC.out.size; omega) (by have h2 := HBC.out.size; omega) HOs.out HOL.out, HBF.out⟩
      · intro K hK
        go_wp2_with fail
        generalize hV : World.drew (World.alloc wc _) = V
        have hb4 : Below wc.heap.size wc V := by rw [← hV]; exact ((Below.refl _ _).alloc (Nat.le_refl _) _).drew
        have HC0 : Hid (V.cell? ⟨wc.heap.size, 0, none⟩ = some (.int .i64 (j : Int))) := by
          unfold Hid
          rw [← hV]
          simp [go_sem]
        refine hK _ _ (held_some ((HS0.out _).2 hb4)) ?_
        clear hK K hV
        refine wpT_loud 2 (by rfl) (by kernel_rfl) (by kernel_rfl) ?_
        intro K hK
        go_wp2_with (at_builtin; refine wpList_copy0 rfl (.tmp 24) 34 rfl 3 _ 1 8 Try.underlying34 Try.infoInt rfl (by decide) d.a2 p.crosses.length d.c2 (flatN p.crosses) rfl h.out.nil2 (flatN_len _) (newsN ((h.out.crosses.below HBC.out).below hb4)) (flatN_one _) h.out.crosses.1 (by omega) ?_; intro x2 y2 w2 ho2 hb2')
        have hb2 : Below wc.heap.size wc w2 := hb4.trans (hb2'.mono hb4.size)
        have HOl := hidP (owns_base ho2 hb4.size)
        have HCl : Hid (w2.cell? ⟨wc.heap.size, 0, none⟩ = some (.int .i64 (j : Int))) := cell_later hb2' HC0.out
        refine hK _ _ (held_some ((HS0.out _).2 hb2)) ?_
        clear hK K hb2' ho2 HC0 hb4
        have hz2 := hb2.size
        refine wpT_loud 6 (by rfl) (by kernel_rfl) (by kernel_rfl) ?_
        intro K hK
        go_wp2_with (at_builtin; refine wpList_onto rfl (.tmp 25) (.tmp 28) 34 rfl wc.heap.size 3 _ 1 8 Try.underlying34 Try.infoInt rfl (by decide) (.slice x2 p.crosses.length y2) p.crosses.length (flatN p.crosses) rfl HOl.out ⟨wc.heap.size, 0, none⟩ 1 1 [.int .i64 (j : Int)] rfl rfl (news0 HCl.out) (by simp [Value.oneCell']) (by unfold maxLen; omega) (by omega) (by omega) ?_; intro x6 y6 w6 ho6 hb6'; rw [flatN_push p.crosses (j : Int)] at ho6; have HO6 := hidP ho6; have hb6 : Below wc.heap.size wc w6 := hb2.trans hb6'; clear ho6 hb6')
        refine hK _ _ (held_some ((HS0.out _).2 hb6)) ?_
        clear hK K
        (refine wpT_see 7 (by rfl) (by kernel_rfl) (by kernel_rfl) ?_; intro K hK; go_big_quiet_op; go_big_quiet_on)
        refine wpT_done (by kernel_rfl) ?_
        have hr6 := HRc.out.of_block (hb6.block _ HRc.out.lt)
        have hR6 := HRr.out.of_block (hb6.block _ HRr.out.lt)
        have s5 := hr6.cell (i := 5) (by omega)
        have f55 := hr6.frozen 5
        have hz6 := hr6.lt
        have hz7 := hR6.lt
        replace c0 := cell_later hb6 c0
        replace c1 := cell_later hb6 c1
        replace c2 := cell_later hb6 c2
        replace c3 := cell_later hb6 c3
        replace c4 := cell_later hb6 c4
        have g0 := hR6.cell (i := 0) (by omega)
        have g1 := hR6.cell (i := 1) (by omega)
        have g2 := hR6.cell (i := 2) (by omega)
        have g3 := hR6.cell (i := 3) (by omega)
        have g4 := hR6.cell (i := 4) (by omega)
        have g5 := hR6.cell (i := 5) (by omega)
        have f0 := hR6.frozen 0
        have f1 := hR6.frozen 1
        have f2 := hR6.frozen 2
        have f3 := hR6.frozen 3
        have f4 := hR6.frozen 4
        have f5 := hR6.frozen 5
        have HW6 := hidP (six_cells (hR6.setOther (a := ⟨w.heap.size, 5, none⟩) (by simp only [ne_eq]; omega) (.slice x6 (p.crosses.length + 1) y6)) (.int .i64 p.start) (.int .i64 p.stop) (.bool p.ended) (.slice x (p.steps.length + 1) y) (.slice d.a1 p.lies.length d.c1) (.slice x6 (p.crosses.length + 1) y6))
        have HOs := hidP (six_owns (ownsRow_setCell_below (owns_below HO.out hb6) (a := ⟨w.heap.size, 5, none⟩) (by simp only []; omega) (.slice x6 (p.crosses.length + 1) y6)) (b := w.heap.size + 1 + 1 + 1) (by omega) (.int .i64 p.start) (.int .i64 p.stop) (.bool p.ended) (.slice x (p.steps.length + 1) y) (.slice d.a1 p.lies.length d.c1) (.slice x6 (p.crosses.length + 1) y6))
        have HOL := hidP (six_owns (ownsRow_setCell_below HO6.out (a := ⟨w.heap.size, 5, none⟩) (by simp only []; omega) (.slice x6 (p.crosses.length + 1) y6)) (b := w.heap.size + 1 + 1 + 1) (by omega) (.int .i64 p.start) (.int .i64 p.stop) (.bool p.ended) (.slice x (p.steps.length + 1) y) (.slice d.a1 p.lies.length d.c1) (.slice x6 (p.crosses.length + 1) y6))
        have HBF := hidP (six_below ((HBC.out.trans (hb6.mono HBC.out.size)).setCell (p := ⟨w.heap.size, 5, none⟩) (Nat.le_refl _) (.slice x6 (p.crosses.length + 1) y6)) (b := w.heap.size + 1 + 1 + 1) (by omega) (.int .i64 p.start) (.int .i64 p.stop) (.bool p.ended) (.slice x (p.steps.length + 1) y) (.slice d.a1 p.lies.length d.c1) (.slice x6 (p.crosses.length + 1) y6))
        clear r0 r3 hS1 hne hr6 hR6 c5
        go_wp2_with fail
        obtain ⟨k0, k1, k2, k3, k4, k5⟩ := HW6.out
        unfold six at k0 k1 k2 k3 k4 k5
        exact bodyPost_ret (v := .tuple #[.agg #[.int .i64 p.start, .int .i64 p.stop, .bool p.ended, .slice x (p.steps.length + 1) y, .slice d.a1 p.lies.length d.c1, .slice x6 (p.crosses.length + 1) y6], .bool true]) (by simp [results, Try.results184, go_sem, k0, k1, k2, k3, k4, k5]) rfl ⟨⟨x, y, d.a1, d.c1, x6, y6⟩, by rw [HE.out]; simp, by rw [HE.out]; exact PSound.grow3 (by have h2 := HBC.out.size; omega) (by have h2 := HBC.out.size; omega) HOs.out HOL.out, HBF.out⟩
    · by_cases hkd3 : kd = 3
      · rw [decide_eq_false hkd4] at hC
        rw [decide_eq_true hkd3] at hSw
        obtain ⟨lf, hlf⟩ : ∃ lf, lieF p.lies j = lf := ⟨_, rfl⟩
        have HX : Hid (overI p j k t kd en = if lf ≠ 0 then ({ p with steps := p.steps ++ [se] }, decide (lf = (max k t : Nat))) else ({ p with steps := p.steps ++ [se], lies := p.lies ++ [⟨j, (max k t : Nat)⟩] }, true)) := by
          unfold Hid overI
          rw [hse, if_neg hkd4, if_pos hkd3, hlf]
        have HLI : Hid (∀ u : World, Calls Try.prog 188 #[.agg #[.int .i64 (j : Int), .int .i64 (k : Int), .int .i64 (t : Int), .iface kt (.agg #[])]] u fun e w' => e = .returned (.agg #[.int .i64 (j : Int), .int .i64 ((max k t : Nat) : Int)]) ∧ Below u.heap.size u w') := fun u => lie_any j k t _ u
        have HLO : Hid (∀ u : World, Below w.heap.size w u → Calls Try.prog 189 #[.slice d.a1 p.lies.length d.c1, .int .i64 (j : Int)] u fun e w' => e = .returned (.int .i64 lf) ∧ Below u.heap.size u w') := fun u hu => by
          rw [← hlf]
          exact lieOf_any _ _ p.lies (j : Int) u (h.out.lies.below hu)
        generalize max k t = mx at HX HLI
        clear hkd4 hkd3
        go_upto_region 7 with (go_at_call 188; refine (HLI.out _).mono ?_; rintro e w2 ⟨rfl, hb2⟩)
        generalize hV : World.alloc w2 _ = V
        have hbV' : Below w2.heap.size w2 V := by rw [← hV]; exact (Below.refl _ _).alloc (Nat.le_refl _) _
        have hbV : Below wc.heap.size wc V := hb2.trans (hbV'.mono hb2.size)
        have z0 : V.cell? ⟨w2.heap.size, 0, none⟩ = some (.int .i64 (j : Int)) := by rw [← hV]; simp [go_sem]
        have z1 : V.cell? ⟨w2.heap.size, 1, none⟩ = some (.int .i64 (mx : Int)) := by rw [← hV]; simp [go_sem]
        have hzZ := cellLt z0
        dsimp only at hzZ
        have hzL := hb2.size
        generalize w2.heap.size = Lb at z0 z1 hzZ hzL ⊢
        have HOV := hidP (owns_below HO.out hbV)
        have HRcV := hidP (HRc.out.of_block (hbV.block _ HRc.out.lt))
        have HRrV := hidP (HRr.out.of_block (hbV.block _ HRr.out.lt))
        have HBV := hidP (HBC.out.trans (hbV.mono HBC.out.size))
        have HLV := hidP (HLO.out V HBV.out)
        replace c0 := cell_later hbV c0
        replace c1 := cell_later hbV c1
        replace c2 := cell_later hbV c2
        replace c3 := cell_later hbV c3
        replace c4 := cell_later hbV c4
        replace c5 := cell_later hbV c5
        have hzV := hbV.size
        clear hV hb2 hbV hbV' HLI HLO HO HRc HRr HBC q0 q1 q2 q3
        go_upto_region 8 with (go_at_call 189; refine HLV.out.mono ?_; rintro e w3 ⟨rfl, hb3⟩)
        replace z0 := cell_later hb3 z0
        replace z1 := cell_later hb3 z1
        replace c0 := cell_later hb3 c0
        replace c1 := cell_later hb3 c1
        replace c2 := cell_later hb3 c2
        replace c3 := cell_later hb3 c3
        replace c4 := cell_later hb3 c4
        replace c5 := cell_later hb3 c5
        have HO := hidP (owns_below HOV.out hb3)
        have HRc := hidP (HRcV.out.of_block (hb3.block _ HRcV.out.lt))
        have HRr := hidP (HRrV.out.of_block (hb3.block _ HRrV.out.lt))
        have HBC := hidP (HBV.out.trans (hb3.mono HBV.out.size))
        have hz3 := hb3.size
        have hzZ3 : Lb < w3.heap.size := by omega
        have hzP3 := HRc.out.lt
        have hzR3 := HRr.out.lt
        clear hb3 HOV HRcV HRrV HBV HLV
        by_cases hl0 : lf = 0
        · have HE : Hid (overI p j k t kd en = ({ p with steps := p.steps ++ [se], lies := p.lies ++ [⟨(j : Int), (mx : Int)⟩] }, true)) := by unfold Hid; rw [HX.out, if_neg (by simpa using hl0)]
          clear HX
          subst hl0
          go_upto_region 10 with fail
          obtain ⟨S, hS⟩ : ∃ S : World → Prop, ∀ u, S u ↔ Below w3.heap.size w3 u := ⟨_, fun _ => Iff.rfl⟩
          have HS0 := hidP hS
          have r0 : ∀ u : Held S, World.cell? u.val ⟨Lb, 0, none⟩ = some (.int .i64 (j : Int)) := fun u => cell_later ((hS u.val).1 u.2) z0
          have r1 : ∀ u : Held S, World.cell? u.val ⟨Lb, 1, none⟩ = some (.int .i64 (mx : Int)) := fun u => cell_later ((hS u.val).1 u.2) z1
          have r3 : ∀ u : Held S, World.cell? u.val ⟨w.heap.size, 4, none⟩ = some (.slice d.a1 p.lies.length d.c1) := fun u => cell_later ((hS u.val).1 u.2) c4
          have hS1 : S w3.drew := (hS _).2 ((Below.refl _ _).drew)
          have hne := held_ne hS1
          clear hS
          refine wp_region_tree (fun w' => ∃ u : Held S, w' = u.val) 7 (by kernel_rfl) (by kernel_rfl) (held_some hS1) ?_
          (refine wpT_see 0 (by rfl) (by kernel_rfl) (by kernel_rfl) ?_; intro K hK; go_big_quiet_op; go_big_quiet_on); (refine wpT_see 1 (by rfl) (by kernel_rfl) (by kernel_rfl) ?_; intro K hK; go_big_quiet_op; go_big_quiet_on)
          (refine wpT_see 3 (by rfl) (by kernel_rfl) (by kernel_rfl) ?_; intro K hK; go_big_quiet_op; go_big_quiet_on)
          refine wpT_loud2 2 4 (by rfl) (by rfl) (by kernel_rfl) (by kernel_rfl) (by kernel_rfl) ?_ ?_
          · intro K hK
            go_wp2_with (at_builtin; refine wpList_copy0 rfl (.tmp 49) 38 rfl 48 _ 2 16 Try.underlying38 Try.infoLie rfl (by decide) d.a1 p.lies.length d.c1 (flatE p.lies) rfl h.out.nil1 (flatE_len _) (newsE ((h.out.lies.below HBC.out).below ((Below.refl _ _).drew))) (flatE_one _) h.out.lies.1 (by omega) ?_; intro x2 y2 w2 ho2 hb2')
            have hb2 : Below w3.heap.size w3 w2 := (Below.refl _ _).drew.trans hb2'
            refine hK _ _ (held_some ((HS0.out _).2 hb2)) ?_
            clear hK K hb2'
            refine wpT_loud 4 (by rfl) (by kernel_rfl) (by kernel_rfl) ?_
            intro K hK
            go_wp2_with fail
            generalize hV : World.alloc w2 _ = V
            have hbV' : Below w2.heap.size w2 V := by rw [← hV]; exact (Below.refl _ _).alloc (Nat.le_refl _) _
            have hb4 : Below w3.heap.size w3 V := hb2.trans (hbV'.mono hb2.size)
            have HOl := hidP (owns_below ho2 hbV')
            have HCl : Hid (V.cell? ⟨w2.heap.size, 0, none⟩ = some (.int .i64 (j : Int)) ∧ V.cell? ⟨w2.heap.size, 1, none⟩ = some (.int .i64 (mx : Int))) := by
              unfold Hid
              rw [← hV]
              constructor <;> simp [go_sem]
            refine hK _ _ (held_some ((HS0.out _).2 hb4)) ?_
            clear hK K hV ho2 hbV'
            have hz4 := hb4.size
            refine wpT_loud 5 (by rfl) (by kernel_rfl) (by kernel_rfl) ?_
            intro K hK
            go_wp2_with (at_builtin; refine wpList_onto rfl (.tmp 50) (.tmp 52) 38 rfl w3.heap.size 48 _ 2 16 Try.underlying38 Try.infoLie rfl (by decide) (.slice x2 p.lies.length y2) p.lies.length (flatE p.lies) rfl HOl.out ⟨w2.heap.size, 0, none⟩ 1 1 [.int .i64 (j : Int), .int .i64 (mx : Int)] rfl rfl (news1 HCl.out.1 HCl.out.2) (by simp [Value.oneCell']) (by unfold maxLen; omega) (by omega) (by omega) ?_; intro x6 y6 w6 ho6 hb6'; rw [flatE_push p.lies ⟨(j : Int), (mx : Int)⟩] at ho6; have HO6 := hidP ho6; have hb6 : Below w3.heap.size w3 w6 := hb4.trans hb6'; clear ho6 hb6')
            refine hK _ _ (held_some ((HS0.out _).2 hb6)) ?_
            clear hK K
            (refine wpT_see 6 (by rfl) (by kernel_rfl) (by kernel_rfl) ?_; intro K hK; go_big_quiet_op; go_big_quiet_on)
            refine wpT_done (by kernel_rfl) ?_
            have hr6 := HRc.out.of_block (hb6.block _ HRc.out.lt)
            have hR6 := HRr.out.of_block (hb6.block _ HRr.out.lt)
            have s4 := hr6.cell (i := 4) (by omega)
            have f44 := hr6.frozen 4
            have hz6 := hr6.lt
            have hz7 := hR6.lt
            replace c0 := cell_later hb6 c0
            replace c1 := cell_later hb6 c1
            replace c2 := cell_later hb6 c2
            replace c3 := cell_later hb6 c3
            replace c5 := cell_later hb6 c5
            have g0 := hR6.cell (i := 0) (by omega)
            have g1 := hR6.cell (i := 1) (by omega)
            have g2 := hR6.cell (i := 2) (by omega)
            have g3 := hR6.cell (i := 3) (by omega)
            have g4 := hR6.cell (i := 4) (by omega)
            have g5 := hR6.cell (i := 5) (by omega)
            have f0 := hR6.frozen 0
            have f1 := hR6.frozen 1
            have f2 := hR6.frozen 2
            have f3 := hR6.frozen 3
            have f4 := hR6.frozen 4
            have f5 := hR6.frozen 5
            have HW6 := hidP (six_cells (hR6.setOther (a := ⟨w.heap.size, 4, none⟩) (by simp only [ne_eq]; omega) (.slice x6 (p.lies.length + 1) y6)) (.int .i64 p.start) (.int .i64 p.stop) (.bool p.ended) (.slice x (p.steps.length + 1) y) (.slice x6 (p.lies.length + 1) y6) (.slice d.a2 p.crosses.length d.c2))
            have HOs := hidP (six_owns (ownsRow_setCell_below (owns_below HO.out hb6) (a := ⟨w.heap.size, 4, none⟩) (by simp only []; omega) (.slice x6 (p.lies.length + 1) y6)) (b := w.heap.size + 1 + 1 + 1) (by omega) (.int .i64 p.start) (.int .i64 p.stop) (.bool p.ended) (.slice x (p.steps.length + 1) y) (.slice x6 (p.lies.length + 1) y6) (.slice d.a2 p.crosses.length d.c2))
            have HOL := hidP (six_owns (ownsRow_setCell_below HO6.out (a := ⟨w.heap.size, 4, none⟩) (by simp only []; omega) (.slice x6 (p.lies.length + 1) y6)) (b := w.heap.size + 1 + 1 + 1) (by omega) (.int .i64 p.start) (.int .i64 p.stop) (.bool p.ended) (.slice x (p.steps.length + 1) y) (.slice x6 (p.lies.length + 1) y6) (.slice d.a2 p.crosses.length d.c2))
            have HBF := hidP (six_below ((HBC.out.trans (hb6.mono HBC.out.size)).setCell (p := ⟨w.heap.size, 4, none⟩) (Nat.le_refl _) (.slice x6 (p.lies.length + 1) y6)) (b := w.heap.size + 1 + 1 + 1) (by omega) (.int .i64 p.start) (.int .i64 p.stop) (.bool p.ended) (.slice x (p.steps.length + 1) y) (.slice x6 (p.lies.length + 1) y6) (.slice d.a2 p.crosses.length d.c2))
            clear r0 r1 r3 hS1 hne hr6 hR6 z0 z1 c4
            go_wp2_with fail
            obtain ⟨k0, k1, k2, k3, k4, k5⟩ := HW6.out
            unfold six at k0 k1 k2 k3 k4 k5
            exact bodyPost_ret (v := .tuple #[.agg #[.int .i64 p.start, .int .i64 p.stop, .bool p.ended, .slice x (p.steps.length + 1) y, .slice x6 (p.lies.length + 1) y6, .slice d.a2 p.crosses.length d.c2], .bool true]) (by simp [results, Try.results184, go_sem, k0, k1, k2, k3, k4, k5]) rfl ⟨⟨x, y, x6, y6, d.a2, d.c2⟩, by rw [HE.out]; simp, by rw [HE.out]; exact PSound.grow2 (by have h2 := HBC.out.size; omega) (by have h2 := HBC.out.size; omega) HOs.out HOL.out, HBF.out⟩
          · intro K hK
            go_wp2_with fail
            generalize hV : World.drew (World.alloc w3 _) = V
            have hb4 : Below w3.heap.size w3 V := by rw [← hV]; exact ((Below.refl _ _).alloc (Nat.le_refl _) _).drew
            have HC0 : Hid (V.cell? ⟨w3.heap.size, 0, none⟩ = some (.int .i64 (j : Int)) ∧ V.cell? ⟨w3.heap.size, 1, none⟩ = some (.int .i64 (mx : Int))) := by
              unfold Hid
              rw [← hV]
              constructor <;> simp [go_sem]
            refine hK _ _ (held_some ((HS0.out _).2 hb4)) ?_
            clear hK K hV
            refine wpT_loud 2 (by rfl) (by kernel_rfl) (by kernel_rfl) ?_
            intro K hK
            go_wp2_with (at_builtin; refine wpList_copy0 rfl (.tmp 49) 38 rfl 48 _ 2 16 Try.underlying38 Try.infoLie rfl (by decide) d.a1 p.lies.length d.c1 (flatE p.lies) rfl h.out.nil1 (flatE_len _) (newsE ((h.out.lies.below HBC.out).below hb4)) (flatE_one _) h.out.lies.1 (by omega) ?_; intro x2 y2 w2 ho2 hb2')
            have hb2 : Below w3.heap.size w3 w2 := hb4.trans (hb2'.mono hb4.size)
            have HOl := hidP (owns_base ho2 hb4.size)
            have HCl : Hid (w2.cell? ⟨w3.heap.size, 0, none⟩ = some (.int .i64 (j : Int)) ∧ w2.cell? ⟨w3.heap.size, 1, none⟩ = some (.int .i64 (mx : Int))) := ⟨cell_later hb2' HC0.out.1, cell_later hb2' HC0.out.2⟩
            refine hK _ _ (held_some ((HS0.out _).2 hb2)) ?_
            clear hK K hb2' ho2 HC0 hb4
            have hz2 := hb2.size
            refine wpT_loud 5 (by rfl) (by kernel_rfl) (by kernel_rfl) ?_
            intro K hK
            go_wp2_with (at_builtin; refine wpList_onto rfl (.tmp 50) (.tmp 52) 38 rfl w3.heap.size 48 _ 2 16 Try.underlying38 Try.infoLie rfl (by decide) (.slice x2 p.lies.length y2) p.lies.length (flatE p.lies) rfl HOl.out ⟨w3.heap.size, 0, none⟩ 1 1 [.int .i64 (j : Int), .int .i64 (mx : Int)] rfl rfl (news1 HCl.out.1 HCl.out.2) (by simp [Value.oneCell']) (by unfold maxLen; omega) (by omega) (by omega) ?_; intro x6 y6 w6 ho6 hb6'; rw [flatE_push p.lies ⟨(j : Int), (mx : Int)⟩] at ho6; have HO6 := hidP ho6; have hb6 : Below w3.heap.size w3 w6 := hb2.trans hb6'; clear ho6 hb6')
            refine hK _ _ (held_some ((HS0.out _).2 hb6)) ?_
            clear hK K
            (refine wpT_see 6 (by rfl) (by kernel_rfl) (by kernel_rfl) ?_; intro K hK; go_big_quiet_op; go_big_quiet_on)
            refine wpT_done (by kernel_rfl) ?_
            have hr6 := HRc.out.of_block (hb6.block _ HRc.out.lt)
            have hR6 := HRr.out.of_block (hb6.block _ HRr.out.lt)
            have s4 := hr6.cell (i := 4) (by omega)
            have f44 := hr6.frozen 4
            have hz6 := hr6.lt
            have hz7 := hR6.lt
            replace c0 := cell_later hb6 c0
            replace c1 := cell_later hb6 c1
            replace c2 := cell_later hb6 c2
            replace c3 := cell_later hb6 c3
            replace c5 := cell_later hb6 c5
            have g0 := hR6.cell (i := 0) (by omega)
            have g1 := hR6.cell (i := 1) (by omega)
            have g2 := hR6.cell (i := 2) (by omega)
            have g3 := hR6.cell (i := 3) (by omega)
            have g4 := hR6.cell (i := 4) (by omega)
            have g5 := hR6.cell (i := 5) (by omega)
            have f0 := hR6.frozen 0
            have f1 := hR6.frozen 1
            have f2 := hR6.frozen 2
            have f3 := hR6.frozen 3
            have f4 := hR6.frozen 4
            have f5 := hR6.frozen 5
            have HW6 := hidP (six_cells (hR6.setOther (a := ⟨w.heap.size, 4, none⟩) (by simp only [ne_eq]; omega) (.slice x6 (p.lies.length + 1) y6)) (.int .i64 p.start) (.int .i64 p.stop) (.bool p.ended) (.slice x (p.steps.length + 1) y) (.slice x6 (p.lies.length + 1) y6) (.slice d.a2 p.crosses.length d.c2))
            have HOs := hidP (six_owns (ownsRow_setCell_below (owns_below HO.out hb6) (a := ⟨w.heap.size, 4, none⟩) (by simp only []; omega) (.slice x6 (p.lies.length + 1) y6)) (b := w.heap.size + 1 + 1 + 1) (by omega) (.int .i64 p.start) (.int .i64 p.stop) (.bool p.ended) (.slice x (p.steps.length + 1) y) (.slice x6 (p.lies.length + 1) y6) (.slice d.a2 p.crosses.length d.c2))
            have HOL := hidP (six_owns (ownsRow_setCell_below HO6.out (a := ⟨w.heap.size, 4, none⟩) (by simp only []; omega) (.slice x6 (p.lies.length + 1) y6)) (b := w.heap.size + 1 + 1 + 1) (by omega) (.int .i64 p.start) (.int .i64 p.stop) (.bool p.ended) (.slice x (p.steps.length + 1) y) (.slice x6 (p.lies.length + 1) y6) (.slice d.a2 p.crosses.length d.c2))
            have HBF := hidP (six_below ((HBC.out.trans (hb6.mono HBC.out.size)).setCell (p := ⟨w.heap.size, 4, none⟩) (Nat.le_refl _) (.slice x6 (p.lies.length + 1) y6)) (b := w.heap.size + 1 + 1 + 1) (by omega) (.int .i64 p.start) (.int .i64 p.stop) (.bool p.ended) (.slice x (p.steps.length + 1) y) (.slice x6 (p.lies.length + 1) y6) (.slice d.a2 p.crosses.length d.c2))
            clear r0 r1 r3 hS1 hne hr6 hR6 z0 z1 c4
            go_wp2_with fail
            obtain ⟨k0, k1, k2, k3, k4, k5⟩ := HW6.out
            unfold six at k0 k1 k2 k3 k4 k5
            exact bodyPost_ret (v := .tuple #[.agg #[.int .i64 p.start, .int .i64 p.stop, .bool p.ended, .slice x (p.steps.length + 1) y, .slice x6 (p.lies.length + 1) y6, .slice d.a2 p.crosses.length d.c2], .bool true]) (by simp [results, Try.results184, go_sem, k0, k1, k2, k3, k4, k5]) rfl ⟨⟨x, y, x6, y6, d.a2, d.c2⟩, by rw [HE.out]; simp, by rw [HE.out]; exact PSound.grow2 (by have h2 := HBC.out.size; omega) (by have h2 := HBC.out.size; omega) HOs.out HOL.out, HBF.out⟩
        · have HE : Hid (overI p j k t kd en = ({ p with steps := p.steps ++ [se] }, decide (lf = (mx : Int)))) := by unfold Hid; rw [HX.out, if_pos hl0]
          have hlb : (lf != 0) = true := by simpa using hl0
          have g0 := HRr.out.cell (i := 0) (by omega)
          have g1 := HRr.out.cell (i := 1) (by omega)
          have g2 := HRr.out.cell (i := 2) (by omega)
          have g3 := HRr.out.cell (i := 3) (by omega)
          have g4 := HRr.out.cell (i := 4) (by omega)
          have g5 := HRr.out.cell (i := 5) (by omega)
          have f0 := HRr.out.frozen 0
          have f1 := HRr.out.frozen 1
          have f2 := HRr.out.frozen 2
          have f3 := HRr.out.frozen 3
          have f4 := HRr.out.frozen 4
          have f5 := HRr.out.frozen 5
          have HK6 := hidP (six_cells HRr.out (.int .i64 p.start) (.int .i64 p.stop) (.bool p.ended) (.slice x (p.steps.length + 1) y) (.slice d.a1 p.lies.length d.c1) (.slice d.a2 p.crosses.length d.c2))
          have hoU := hidP (six_owns HO.out (b := w.heap.size + 1 + 1 + 1) (by omega) (.int .i64 p.start) (.int .i64 p.stop) (.bool p.ended) (.slice x (p.steps.length + 1) y) (.slice d.a1 p.lies.length d.c1) (.slice d.a2 p.crosses.length d.c2))
          have hbU := hidP (six_below HBC.out (b := w.heap.size + 1 + 1 + 1) (by omega) (.int .i64 p.start) (.int .i64 p.stop) (.bool p.ended) (.slice x (p.steps.length + 1) y) (.slice d.a1 p.lies.length d.c1) (.slice d.a2 p.crosses.length d.c2))
          clear HX hl0
          go_upto_region 9 with fail
          obtain ⟨S9, hS9⟩ : ∃ S : World → Prop, ∀ u, S u ↔ Only (fun k => k = w.heap.size + 1 + 1 + 1) w3 u := ⟨_, fun _ => Iff.rfl⟩
          have HS9 := hidP hS9
          have r6 : ∀ u : Held S9, World.cell? u.val ⟨Lb, 1, none⟩ = some (.int .i64 (mx : Int)) := fun u => ((hS9 u.val).1 u.2).cell z1 (by show ¬ Lb = w.heap.size + 1 + 1 + 1; omega)
          have r0 : ∀ u : Held S9, World.cell? u.val ⟨w.heap.size, 0, none⟩ = some (.int .i64 p.start) := fun u => ((hS9 u.val).1 u.2).cell c0 (by show ¬ w.heap.size = w.heap.size + 1 + 1 + 1; omega)
          have r1 : ∀ u : Held S9, World.cell? u.val ⟨w.heap.size, 1, none⟩ = some (.int .i64 p.stop) := fun u => ((hS9 u.val).1 u.2).cell c1 (by show ¬ w.heap.size = w.heap.size + 1 + 1 + 1; omega)
          have r2 : ∀ u : Held S9, World.cell? u.val ⟨w.heap.size, 2, none⟩ = some (.bool p.ended) := fun u => ((hS9 u.val).1 u.2).cell c2 (by show ¬ w.heap.size = w.heap.size + 1 + 1 + 1; omega)
          have r3 : ∀ u : Held S9, World.cell? u.val ⟨w.heap.size, 3, none⟩ = some (.slice x (p.steps.length + 1) y) := fun u => ((hS9 u.val).1 u.2).cell c3 (by show ¬ w.heap.size = w.heap.size + 1 + 1 + 1; omega)
          have r4 : ∀ u : Held S9, World.cell? u.val ⟨w.heap.size, 4, none⟩ = some (.slice d.a1 p.lies.length d.c1) := fun u => ((hS9 u.val).1 u.2).cell c4 (by show ¬ w.heap.size = w.heap.size + 1 + 1 + 1; omega)
          have r5 : ∀ u : Held S9, World.cell? u.val ⟨w.heap.size, 5, none⟩ = some (.slice d.a2 p.crosses.length d.c2) := fun u => ((hS9 u.val).1 u.2).cell c5 (by show ¬ w.heap.size = w.heap.size + 1 + 1 + 1; omega)
          have hS1 : S9 w3.drew := (hS9 _).2 (Only.refl _ _).drew
          have hne := held_ne hS1
          clear hS9
          refine wp_region_tree (fun w' => ∃ u : Held S9, w' = u.val) 6 (by kernel_rfl) (by kernel_rfl) (held_some hS1) ?_
          (refine wpT_see 0 (by rfl) (by kernel_rfl) (by kernel_rfl) ?_; intro K hK; go_big_quiet_op; go_big_quiet_on); (refine wpT_see 1 (by rfl) (by kernel_rfl) (by kernel_rfl) ?_; intro K hK; go_big_quiet_op; go_big_quiet_on); (refine wpT_see 2 (by rfl) (by kernel_rfl) (by kernel_rfl) ?_; intro K hK; go_big_quiet_op; go_big_quiet_on); (refine wpT_see 3 (by rfl) (by kernel_rfl) (by kernel_rfl) ?_; intro K hK; go_big_quiet_op; go_big_quiet_on); (refine wpT_see 4 (by rfl) (by kernel_rfl) (by kernel_rfl) ?_; intro K hK; go_big_quiet_op; go_big_quiet_on)
          refine wpT_loud 5 (by rfl) (by kernel_rfl) (by kernel_rfl) ?_
          intro K hK
          go_wp2_with fail
          have hS2 : S9 (World.drew (six w3 (w.heap.size + 1 + 1 + 1) (.int .i64 p.start) (.int .i64 p.stop) (.bool p.ended) (.slice x (p.steps.length + 1) y) (.slice d.a1 p.lies.length d.c1) (.slice d.a2 p.crosses.length d.c2))) := (HS9.out _).2 (six_only _ _ _ _ _ _ _ _).drew
          unfold six at hS2
          refine hK _ _ (held_some hS2) ?_
          clear hK K r0 r1 r2 r3 r4 r5 r6 hS1 hS2 hne
          refine wpT_done (by kernel_rfl) ?_
          go_wp2_with fail
          obtain ⟨k0, k1, k2, k3, k4, k5⟩ := HK6.out
          unfold six at k0 k1 k2 k3 k4 k5
          have hkk := beq_decide lf (mx : Int)
          rw [hkk]
          exact bodyPost_ret (v := .tuple #[.agg #[.int .i64 p.start, .int .i64 p.stop, .bool p.ended, .slice x (p.steps.length + 1) y, .slice d.a1 p.lies.length d.c1, .slice d.a2 p.crosses.length d.c2], .bool (decide (lf = (mx : Int)))]) (by simp [results, Try.results184, go_sem, k0, k1, k2, k3, k4, k5]) rfl ⟨⟨x, y, d.a1, d.c1, d.a2, d.c2⟩, by rw [HE.out]; simp, by rw [HE.out]; exact PSound.grow (by have h2 := HBC.out.size; omega) (owns_drew hoU.out), hbU.out.drew⟩
      · have HX : Hid (overI p j k t kd en = ({ p with steps := p.steps ++ [se] }, true)) := by
          unfold Hid overI
          rw [hse, if_neg hkd4, if_neg hkd3]
        rw [decide_eq_false hkd4] at hC
        rw [decide_eq_false hkd3] at hSw
        have g0 := HRr.out.cell (i := 0) (by omega)
        have g1 := HRr.out.cell (i := 1) (by omega)
        have g2 := HRr.out.cell (i := 2) (by omega)
        have g3 := HRr.out.cell (i := 3) (by omega)
        have g4 := HRr.out.cell (i := 4) (by omega)
        have g5 := HRr.out.cell (i := 5) (by omega)
        have f0 := HRr.out.frozen 0
        have f1 := HRr.out.frozen 1
        have f2 := HRr.out.frozen 2
        have f3 := HRr.out.frozen 3
        have f4 := HRr.out.frozen 4
        have f5 := HRr.out.frozen 5
        clear hkd4 hkd3
        have K6 := six_cells HRr.out (.int .i64 p.start) (.int .i64 p.stop) (.bool p.ended) (.slice x (p.steps.length + 1) y) (.slice d.a1 p.lies.length d.c1) (.slice d.a2 p.crosses.length d.c2)
        have hoU := hidP (six_owns HO.out (b := w.heap.size + 1 + 1 + 1) (by omega) (.int .i64 p.start) (.int .i64 p.stop) (.bool p.ended) (.slice x (p.steps.length + 1) y) (.slice d.a1 p.lies.length d.c1) (.slice d.a2 p.crosses.length d.c2))
        have hbU := hidP (six_below HBC.out (b := w.heap.size + 1 + 1 + 1) (by omega) (.int .i64 p.start) (.int .i64 p.stop) (.bool p.ended) (.slice x (p.steps.length + 1) y) (.slice d.a1 p.lies.length d.c1) (.slice d.a2 p.crosses.length d.c2))
        have HK6 := hidP K6
        clear K6
        go_wp2_with fail
        obtain ⟨k0, k1, k2, k3, k4, k5⟩ := HK6.out
        unfold six at k0 k1 k2 k3 k4 k5
        exact bodyPost_ret (v := .tuple #[.agg #[.int .i64 p.start, .int .i64 p.stop, .bool p.ended, .slice x (p.steps.length + 1) y, .slice d.a1 p.lies.length d.c1, .slice d.a2 p.crosses.length d.c2], .bool true]) (by simp [results, Try.results184, go_sem, k0, k1, k2, k3, k4, k5]) rfl ⟨⟨x, y, d.a1, d.c1, d.a2, d.c2⟩, by rw [HX.out]; simp, by rw [HX.out]; exact PSound.grow (by have h2 := HBC.out.size; omega) hoU.out, hbU.out⟩
end Go.Proofs.Ytmkdgnmmebldgaa
