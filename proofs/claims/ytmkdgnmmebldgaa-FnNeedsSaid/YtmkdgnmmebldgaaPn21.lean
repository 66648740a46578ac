import Derived.Test.YtmkdgnmmebldgaaPn17
import Derived.Test.YtmkdgnmmebldgaaPn18
import Derived.Test.YtmkdgnmmebldgaaPn20
namespace Go.Proofs.Ytmkdgnmmebldgaa
open Go.RowKit Go.Deep
theorem Try.infoPiece : (Try.prog.info? 55).map (fun i => (i.zero, i.size, i.bytes)) = some (some (.agg #[.string ⟨#[]⟩, .int .i64 0, .int .i64 0, .int .i64 0]), 4, 40) := by kernel_rfl
theorem Try.infoJoint : (Try.prog.info? 182).map (fun i => (i.zero, i.size, i.bytes)) = some (some (.agg #[.int .i64 0, .string ⟨#[]⟩, .slice none 0 0]), 3, 48) := by kernel_rfl
theorem Try.infoEnd : (Try.prog.info? 139).map (fun i => (i.zero, i.size, i.bytes)) = some (some (.agg #[.int .i64 0, .int .i64 0]), 2, 16) := by kernel_rfl
def encPc (p : MPiece) : List Value := [.string p.name, .int .i64 p.len, .int .i64 p.speed, .int .i64 p.brake]
def flatPc (ps : List MPiece) : List Value := ps.flatMap encPc
theorem flatPc_push (ps : List MPiece) (p : MPiece) : flatPc ps ++ [.string p.name, .int .i64 p.len, .int .i64 p.speed, .int .i64 p.brake] = flatPc (ps ++ [p]) := by simp [flatPc, encPc]
abbrev MJ := Option Addr × Nat × MJoint
def encJ (x : MJ) : List Value := [.int .i64 x.2.2.kind, .string x.2.2.name, .slice x.1 x.2.2.ends.length x.2.1]
def flatJ (js : List MJ) : List Value := js.flatMap encJ
theorem flatJ_push (js : List MJ) (x : MJ) : flatJ js ++ [.int .i64 x.2.2.kind, .string x.2.2.name, .slice x.1 x.2.2.ends.length x.2.1] = flatJ (js ++ [x]) := by simp [flatJ, encJ]
def IsT (w : World) (t b : Nat) : Prop := ∃ cur, w.heap[b]? = some (.cells cur t (0, 0))
theorem IsT.lt {w : World} {t b : Nat} (h : IsT w t b) : b < w.heap.size := by
  obtain ⟨cur, h⟩ := h
  exact (Array.getElem?_eq_some_iff.1 h).1
theorem IsT.kept {w w' : World} {t b : Nat} (h : IsT w t b) (e : w'.heap[b]? = w.heap[b]?) : IsT w' t b := by
  obtain ⟨cur, h⟩ := h
  exact ⟨cur, e.trans h⟩
theorem IsT.ne {w : World} {t b B e s n : Nat} {v : Value} {xs : List Value} (h : IsT w t b) (ho : w.ownsRow B e s v n xs) (he : e ≠ t) : v.ownBlock ≠ some b := by
  rcases ho.2 with ⟨rfl, _⟩ | ⟨g, cap, cur, rfl, _, hg, _⟩
  · simp [Value.ownBlock]
  · simp only [Value.ownBlock, ne_eq, Option.some.injEq]
    rintro rfl
    obtain ⟨cur', h⟩ := h
    rw [hg] at h
    simp only [Option.some.injEq, Obj.cells.injEq] at h
    exact he h.2.1
def EndsIn (w : World) (N : Nat) (x : MJ) : Prop := EndsAt w x.1 x.2.2.ends ∧ (x.2.2.ends = [] ∨ ∀ b off, x.1 = some ⟨b, off, none⟩ → N < b ∧ IsT w 139 b) ∧ x.2.2.ends.length ≤ 4
theorem EndsIn.kept {w w' : World} {N : Nat} {x : MJ} (h : EndsIn w N x) (hk : ∀ b, N < b → IsT w 139 b → w'.heap[b]? = w.heap[b]?) : EndsIn w' N x := by
  obtain ⟨h1, h2, h3⟩ := h
  refine ⟨h1.kept (h2.imp id (fun h2 b off e => hk b (h2 b off e).1 (h2 b off e).2)), h2.imp id (fun h2 b off e => ⟨(h2 b off e).1, (h2 b off e).2.kept (hk b (h2 b off e).1 (h2 b off e).2)⟩), h3⟩
structure NetS (w : World) (C N : Nat) (xp : Option Addr) (yp : Nat) (xj : Option Addr) (yj : Nat) (ps : List MPiece) (js : List MJ) : Prop where
  cn : C < N
  c0 : w.cell? ⟨N, 0, none⟩ = some (.slice xp ps.length yp)
  c1 : w.cell? ⟨N, 1, none⟩ = some (.slice xj js.length yj)
  z : ∀ o, w.frozen? ⟨N, o, none⟩ = false
  op : w.ownsRow (N + 1) 55 4 (.slice xp ps.length yp) ps.length (flatPc ps)
  oj : w.ownsRow (N + 1) 182 3 (.slice xj js.length yj) js.length (flatJ js)
  je : ∀ x ∈ js, EndsIn w N x
  pn : ∀ p ∈ ps, p.name.size ≤ 1000002 ∧ 1 ≤ p.len ∧ p.len ≤ 400
  jn : ∀ x ∈ js, x.2.2.name.size ≤ 1000002
section
variable {w w' : World} {C N : Nat} {xp xj : Option Addr} {yp yj : Nat} {ps : List MPiece} {js : List MJ}
theorem NetS.lt (h : NetS w C N xp yp xj yj ps js) : N < w.heap.size := cellLt h.c0
theorem NetS.kept (h : NetS w C N xp yp xj yj ps js) (hk : ∀ b, N ≤ b → b < w.heap.size → w'.heap[b]? = w.heap[b]?) : NetS w' C N xp yp xj yj ps js := by
  have hN := hk N (Nat.le_refl _) h.lt
  refine ⟨h.cn, (World.cell?_of_block (w := w) hN).trans h.c0, (World.cell?_of_block (w := w) hN).trans h.c1, fun o => ?_, owns_kept2 h.op (fun b hb => hk b (by have := (h.op.lt b hb).1; omega) (h.op.lt b hb).2), owns_kept2 h.oj (fun b hb => hk b (by have := (h.oj.lt b hb).1; omega) (h.oj.lt b hb).2), fun x hx => (h.je x hx).kept (fun b h1 h2 => hk b (by omega) h2.lt), h.pn, h.jn⟩
  exact (World.frozen?_of_block (w := w) hN).trans (h.z o)
theorem NetS.below (h : NetS w C N xp yp xj yj ps js) (hb : Below w.heap.size w w') : NetS w' C N xp yp xj yj ps js := h.kept (fun b _ hz => hb.block b hz)
theorem NetS.only (h : NetS w C N xp yp xj yj ps js) (hb : Only (fun k => k = C) w w') : NetS w' C N xp yp xj yj ps js := h.kept (fun b h1 hz => hb.block b hz (by have := h.cn; omega))
theorem NetS.pushP (h : NetS w C N xp yp xj yj ps js) {p : MPiece} {x' : Option Addr} {y' : Nat} (hg : w.grownBy w' (Value.slice xp ps.length yp).ownBlock) (ho : w'.ownsRow (N + 1) 55 4 (.slice x' (ps.length + 1) y') (ps.length + 1) (flatPc (ps ++ [p]))) (hp : p.name.size ≤ 1000002 ∧ 1 ≤ p.len ∧ p.len ≤ 400) :
    NetS (w'.setCell ⟨N, 0, none⟩ (.slice x' (ps.length + 1) y')) C N x' y' xj yj (ps ++ [p]) js := by
  have hl := h.lt
  have hN : w'.heap[N]? = w.heap[N]? := hg.block N h.lt (fun e => by have := (h.op.lt N e.symm).1; omega)
  have el : (ps ++ [p]).length = ps.length + 1 := by simp
  have hset : ∀ b, N ≠ b → (w'.setCell ⟨N, 0, none⟩ (.slice x' (ps.length + 1) y')).heap[b]? = w'.heap[b]? := fun b hb => Below.heap_setCell _ _ _ _ (fun e => hb e.symm)
  refine ⟨h.cn, ?_, ?_, fun o => ?_, ?_, ?_, fun x hx => ?_, ?_, h.jn⟩
  · rw [el]
    exact World.cell?_setCell_same _ _ _ ((World.cell?_of_block (w := w) hN).trans h.c0)
  · rw [World.cell?_setCell_other _ _ _ _ (by simp)]
    exact (World.cell?_of_block (w := w) hN).trans h.c1
  · rw [World.frozen?_setCell]
    exact (World.frozen?_of_block (w := w) hN).trans (h.z o)
  · rw [el]
    exact ownsRow_setCell_below ho (Nat.lt_succ_self N) _
  · refine ownsRow_setCell_below (owns_kept2 h.oj (fun b hb => hg.block b (h.oj.lt b hb).2 (fun e => ?_))) (Nat.lt_succ_self N) _
    rcases owns_ne (e := 182) (e' := 55) (by decide) h.oj h.op with h1 | h1
    · rw [h1] at hb; cases hb
    · exact h1 (hb.trans e)
  · refine (h.je x hx).kept (fun b h1 h2 => (hset b (by omega)).trans (hg.block b h2.lt (fun e => h2.ne h.op (by decide) e.symm)))
  · intro q hq
    rcases List.mem_append.1 hq with hq | hq
    · exact h.pn q hq
    · have : q = p := by simpa using hq
      rw [this]; exact hp
theorem NetS.pushJ (h : NetS w C N xp yp xj yj ps js) {x : MJ} {x' : Option Addr} {y' : Nat} (hg : w.grownBy w' (Value.slice xj js.length yj).ownBlock) (ho : w'.ownsRow (N + 1) 182 3 (.slice x' (js.length + 1) y') (js.length + 1) (flatJ (js ++ [x]))) (hx : x.2.2.name.size ≤ 1000002) (hE : EndsIn w N x) :
    NetS (w'.setCell ⟨N, 1, none⟩ (.slice x' (js.length + 1) y')) C N xp yp x' y' ps (js ++ [x]) := by
  have hl := h.lt
  have hN : w'.heap[N]? = w.heap[N]? := hg.block N h.lt (fun e => by have := (h.oj.lt N e.symm).1; omega)
  have el : (js ++ [x]).length = js.length + 1 := by simp
  have hset : ∀ b, N ≠ b → (w'.setCell ⟨N, 1, none⟩ (.slice x' (js.length + 1) y')).heap[b]? = w'.heap[b]? := fun b hb => Below.heap_setCell _ _ _ _ (fun e => hb e.symm)
  have hend : ∀ b, N < b → IsT w 139 b → (w'.setCell ⟨N, 1, none⟩ (.slice x' (js.length + 1) y')).heap[b]? = w.heap[b]? := fun b h1 h2 => (hset b (by omega)).trans (hg.block b h2.lt (fun e => h2.ne h.oj (by decide) e.symm))
  refine ⟨h.cn, ?_, ?_, fun o => ?_, ?_, ?_, fun z hz => ?_, h.pn, ?_⟩
  · rw [World.cell?_setCell_other _ _ _ _ (by simp)]
    exact (World.cell?_of_block (w := w) hN).trans h.c0
  · rw [el]
    exact World.cell?_setCell_same _ _ _ ((World.cell?_of_block (w := w) hN).trans h.c1)
  · rw [World.frozen?_setCell]
    exact (World.frozen?_of_block (w := w) hN).trans (h.z o)
  · refine ownsRow_setCell_below (owns_kept2 h.op (fun b hb => hg.block b (h.op.lt b hb).2 (fun e => ?_))) (Nat.lt_succ_self N) _
    rcases owns_ne (e := 55) (e' := 182) (by decide) h.op h.oj with h1 | h1
    · rw [h1] at hb; cases hb
    · exact h1 (hb.trans e)
  · rw [el]
    exact ownsRow_setCell_below ho (Nat.lt_succ_self N) _
  · rcases List.mem_append.1 hz with hz | hz
    · exact (h.je z hz).kept hend
    · have : z = x := by simpa using hz
      rw [this]; exact hE.kept hend
  · intro q hq
    rcases List.mem_append.1 hq with hq | hq
    · exact h.jn q hq
    · have : q = x := by simpa using hq
      rw [this]; exact hx
end
def LowB (C : Nat) (ca : Option Addr) (bs : List Int) : Prop := bs = [] ∨ ∀ b off, ca = some ⟨b, off, none⟩ → b < C
theorem Cur.above {w w' : World} {C : Nat} {ca : Option Addr} {cc : Nat} {bs : List Int} {at_ : Nat} (h : Cur w C ca cc bs at_) (hl : LowB C ca bs) (hk : ∀ k, k ≤ C → w'.heap[k]? = w.heap[k]?) : Cur w' C ca cc bs at_ := by
  have hC := hk C (Nat.le_refl _)
  obtain ⟨s, hs⟩ := h.c2
  refine ⟨(World.cell?_of_block (w := w) hC).trans h.c0, (World.cell?_of_block (w := w) hC).trans h.c1, ⟨s, (World.cell?_of_block (w := w) hC).trans hs⟩, fun o => (World.frozen?_of_block (w := w) hC).trans (h.z o), ?_, h.small, h.len, fun o ho => (World.cell?_of_block (w := w) hC).trans (h.sz o ho)⟩
  rcases h.lie with h1 | ⟨b, off, h1, h2, h3⟩
  · exact Or.inl h1
  · rcases hl with hl | hl
    · exact Or.inl hl
    · exact Or.inr ⟨b, off, h1, h2, fun i hi => (World.cell?_of_block (w := w) (hk b (by have := hl b off h1; omega))).trans (h3 i hi)⟩
set_option maxRecDepth 20000 in
set_option maxHeartbeats 4000000 in
theorem piece_any (D C N : Nat) (ca : Option Addr) (cc : Nat) (bs : List Int) (at_ : Nat) (xp : Option Addr) (yp : Nat) (xj : Option Addr) (yj : Nat) (ps : List MPiece) (js : List MJ) (w : World) (h : Hid (NetS w C N xp yp xj yj ps js)) (hc : Hid (Cur w C ca cc bs at_)) (hlow : Hid (LowB C ca bs)) (d0 : w.cell? ⟨D, 0, none⟩ = some (.pointer (some ⟨C, 0, none⟩))) (hD : Hid (C < D ∧ D ≠ N ∧ IsT w 277 D)) (ha : at_ ≤ 800000000) (hl : ps.length ≤ 1000) :
    Calls Try.prog 148 #[.pointer (some ⟨D, 0, none⟩), .pointer (some ⟨N, 0, none⟩)] w fun e w' => e = .returned (.int .i64 ps.length) ∧ ∃ xp' yp' p at', NetS w' C N xp' yp' xj yj (ps ++ [p]) js ∧ Cur w' C ca cc bs at' ∧ at' ≤ at_ + 2 ∧ w'.cell? ⟨D, 0, none⟩ = some (.pointer (some ⟨C, 0, none⟩)) ∧ IsT w' 277 D ∧ Only (fun k => k = C ∨ N ≤ k) w w' := by
  have c0 := h.out.c0
  have hNz := h.out.lt
  have hDz := cellLt d0
  dsimp only at hDz
  have hcn := h.out.cn
  go_enter Try.func148, Try.ntmps148
  go_wp2_with fail
  obtain ⟨S, hS⟩ : ∃ S : World → Prop, ∀ u, S u ↔ (u.cell? ⟨N, 0, none⟩ = some (.slice xp ps.length yp) ∧ u.cell? ⟨D, 0, none⟩ = some (.pointer (some ⟨C, 0, none⟩))) := ⟨_, fun _ => Iff.rfl⟩
  have HS0 := hidP hS
  have r0 : ∀ u : Held S, World.cell? u.val ⟨N, 0, none⟩ = some (.slice xp ps.length yp) := fun u => ((hS u.val).1 u.2).1
  have r1 : ∀ u : Held S, World.cell? u.val ⟨D, 0, none⟩ = some (.pointer (some ⟨C, 0, none⟩)) := fun u => ((hS u.val).1 u.2).2
  have hS1 : S w.drew := (hS _).2 ⟨c0, d0⟩
  have hne := held_ne hS1
  clear hS
  refine wp_region_tree (fun w' => ∃ u : Held S, w' = u.val) 20 (by kernel_rfl) (by kernel_rfl) (held_some hS1) ?_
  (refine wpT_see 0 (by rfl) (by kernel_rfl) (by kernel_rfl) ?_; intro K hK; go_big_quiet_op; go_big_quiet_on); (refine wpT_see 1 (by rfl) (by kernel_rfl) (by kernel_rfl) ?_; intro K hK; go_big_quiet_op; go_big_quiet_on); (refine wpT_see 2 (by rfl) (by kernel_rfl) (by kernel_rfl) ?_; intro K hK; go_big_quiet_op; go_big_quiet_on); (refine wpT_see 3 (by rfl) (by kernel_rfl) (by kernel_rfl) ?_; intro K hK; go_big_quiet_op; go_big_quiet_on); (refine wpT_see 4 (by rfl) (by kernel_rfl) (by kernel_rfl) ?_; intro K hK; go_big_quiet_op; go_big_quiet_on); (refine wpT_see 5 (by rfl) (by kernel_rfl) (by kernel_rfl) ?_; intro K hK; go_big_quiet_op; go_big_quiet_on); (refine wpT_see 6 (by rfl) (by kernel_rfl) (by kernel_rfl) ?_; intro K hK; go_big_quiet_op; go_big_quiet_on); (refine wpT_see 7 (by rfl) (by kernel_rfl) (by kernel_rfl) ?_; intro K hK; go_big_quiet_op; go_big_quiet_on); (refine wpT_see 8 (by rfl) (by kernel_rfl) (by kernel_rfl) ?_; intro K hK; go_big_quiet_op; go_big_quiet_on); (refine wpT_see 9 (by rfl) (by kernel_rfl) (by kernel_rfl) ?_; intro K hK; go_big_quiet_op; go_big_quiet_on)
  (refine wpT_see 11 (by rfl) (by kernel_rfl) (by kernel_rfl) ?_; intro K hK; go_big_quiet_op; go_big_quiet_on); (refine wpT_see 12 (by rfl) (by kernel_rfl) (by kernel_rfl) ?_; intro K hK; go_big_quiet_op; go_big_quiet_on); (refine wpT_see 13 (by rfl) (by kernel_rfl) (by kernel_rfl) ?_; intro K hK; go_big_quiet_op; go_big_quiet_on); (refine wpT_see 14 (by rfl) (by kernel_rfl) (by kernel_rfl) ?_; intro K hK; go_big_quiet_op; go_big_quiet_on)
  refine wpT_loud 10 (by rfl) (by kernel_rfl) (by kernel_rfl) ?_
  intro K hK
  go_wp2_with (go_at_call 98; refine (name_any _ ps.length _ (by omega)).mono ?_; rintro e w2 ⟨⟨s, rfl, hsz⟩, hb2'⟩)
  have hb2 : Below w.heap.size w w2 := (Below.refl _ _).drew.trans hb2'
  have hS2 : S w2 := (HS0.out _).2 ⟨cell_later hb2 c0, cell_later hb2 d0⟩
  have hN2 := hidP (h.out.below hb2)
  have hC2 := hidP (hc.out.below hb2)
  have hD2 : Hid (IsT w2 277 D) := hD.out.2.2.kept (hb2.block D hDz)
  have hz2 := hb2.size
  have HB2 := hidP hb2
  clear hb2' hb2
  refine hK _ _ (held_some hS2) ?_
  clear hK K
  refine wpT_loud 15 (by rfl) (by kernel_rfl) (by kernel_rfl) ?_
  intro K hK
  go_wp2_with (go_at_call 40; refine (wide_any C ca cc bs at_ 300 w2 hC2 (by omega) (by omega)).mono ?_; rintro e w3 ⟨x, at', hx, rfl, hat, hc3, ho3⟩)
  have hS3 : S w3 := by
    obtain ⟨s1, s2⟩ := (HS0.out _).1 hS2
    exact (HS0.out _).2 ⟨ho3.cell s1 (by show ¬ N = C; omega), ho3.cell s2 (by have := hD.out.1; show ¬ D = C; omega)⟩
  have hN3 := hidP (hN2.out.only ho3)
  have hC3 := hidP hc3
  have hD3 : Hid (IsT w3 277 D) := hD2.out.kept (ho3.block D (by omega) (by have := hD.out.1; omega))
  have hz3 := ho3.size
  have HB3 : Hid (Only (fun k => k = C ∨ N ≤ k) w w3) := (Only.of_below HB2.out).trans (ho3.mono (fun k hk => Or.inl hk))
  clear hc3 ho3
  refine hK _ _ (held_some hS3) ?_
  clear hK K
  (refine wpT_see 16 (by rfl) (by kernel_rfl) (by kernel_rfl) ?_; intro K hK; go_big_quiet_op; go_big_quiet_on); (refine wpT_see 17 (by rfl) (by kernel_rfl) (by kernel_rfl) ?_; intro K hK; go_big_quiet_op; go_big_quiet_on)
  refine wpT_loud 18 (by rfl) (by kernel_rfl) (by kernel_rfl) ?_
  intro K hK
  go_wp2_with fail
  obtain ⟨p, hp⟩ : ∃ p : MPiece, p = ⟨s, 20 + (x : Int), 100, 20⟩ := ⟨_, rfl⟩
  have hS4 : ∀ o, S (World.alloc w3 o) := fun o => by
    obtain ⟨s1, s2⟩ := (HS0.out _).1 hS3
    have hb := (Below.refl w3.heap.size w3).alloc (Nat.le_refl _) o
    exact (HS0.out _).2 ⟨cell_later hb s1, cell_later hb s2⟩
  refine hK _ _ (held_some (hS4 _)) ?_
  clear hK K hS4
  refine wpT_loud 19 (by rfl) (by kernel_rfl) (by kernel_rfl) ?_
  intro K hK
  refine wpList_push rfl (.tmp 15) (.tmp 29) 23 rfl (N + 1) 55 _ 4 40 Try.underlying23 Try.infoPiece rfl (by decide) (.slice xp ps.length yp) ps.length (flatPc ps) rfl hN3.out.op w3.heap.size rfl [.string s, .int .i64 (20 + (x : Int)), .int .i64 100, .int .i64 20] rfl rfl (by simp [Value.oneCell']) (by unfold maxLen; omega) (by omega) (by omega) ?_
  intro xp' yp' w4 ho4 hg4
  have ho4' : w4.ownsRow (N + 1) 55 4 (.slice xp' (ps.length + 1) yp') (ps.length + 1) (flatPc (ps ++ [p])) := by rw [← flatPc_push, hp]; exact ho4
  have hNN := hidP (hN3.out.pushP hg4 ho4' (by rw [hp]; exact ⟨hsz, by show (1 : Int) ≤ 20 + x; omega, by show (20 : Int) + x ≤ 400; omega⟩))
  have hrow : ∀ k, k ≤ N → (Value.slice xp ps.length yp).ownBlock ≠ some k := fun k hk e => by have := (hN3.out.op.lt k e).1; omega
  have hN4 : w4.heap[N]? = w3.heap[N]? := hg4.block N hN3.out.lt (fun e => hrow N (Nat.le_refl _) e.symm)
  have hD4 : w4.heap[D]? = w3.heap[D]? := hg4.block D (by omega) (fun e => hD3.out.ne hN3.out.op (by decide) e.symm)
  have hS4 : S w4 := by
    obtain ⟨s1, s2⟩ := (HS0.out _).1 hS3
    exact (HS0.out _).2 ⟨(World.cell?_of_block (w := w3) hN4).trans s1, (World.cell?_of_block (w := w3) hD4).trans s2⟩
  have n4 : w4.cell? ⟨N, 0, none⟩ = some (.slice xp ps.length yp) := ((HS0.out _).1 hS4).1
  have d4 : w4.cell? ⟨D, 0, none⟩ = some (.pointer (some ⟨C, 0, none⟩)) := ((HS0.out _).1 hS4).2
  have z4 : w4.frozen? ⟨N, 0, none⟩ = false := (World.frozen?_of_block (w := w3) hN4).trans (hN3.out.z 0)
  have hz4 := hg4.size
  have hDN := hD.out.2.1
  have hlowk : ∀ k, k < N → (w4.setCell ⟨N, 0, none⟩ (.slice xp' (ps.length + 1) yp')).heap[k]? = w3.heap[k]? := fun k hk => (Below.heap_setCell _ _ _ _ (show k ≠ N by omega)).trans (hg4.block k (by omega) (fun e => hrow k (by omega) e.symm))
  have HC5 : Hid (Cur (w4.setCell ⟨N, 0, none⟩ (.slice xp' (ps.length + 1) yp')) C ca cc bs at') := hC3.out.above hlow.out (fun k hk => hlowk k (by omega))
  have HD5 : Hid (IsT (w4.setCell ⟨N, 0, none⟩ (.slice xp' (ps.length + 1) yp')) 277 D) := hD3.out.kept ((Below.heap_setCell _ _ _ _ hDN).trans hD4)
  have HB5 : Hid (Only (fun k => k = C ∨ N ≤ k) w (w4.setCell ⟨N, 0, none⟩ (.slice xp' (ps.length + 1) yp'))) := HB3.out.trans ⟨hg4.os, hg4.tape, hg4.output, (by simpa using hz4), fun k _ hn => hlowk k (Nat.lt_of_not_le (fun h => hn (Or.inr h)))⟩
  refine wpList_nil ⟨rfl, ?_⟩
  refine hK _ _ (held_some hS4) ?_
  clear hK K hne r0 r1 hS4 hS3 hS2 hS1 hg4 ho4 ho4' hlowk
  refine wpT_done (by kernel_rfl) ?_
  simp only [List.drop_succ_cons, List.drop_zero]
  go_wp2_with fail
  go_ret
  refine ⟨rfl, xp', yp', p, at', hNN.out, HC5.out, hat, ?_, HD5.out, HB5.out⟩
  rw [World.cell?_setCell_other _ _ _ _ (by simp)]
  exact d4
end Go.Proofs.Ytmkdgnmmebldgaa
