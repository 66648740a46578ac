import Derived.Test.YtmkdgnmmebldgaaAp27
namespace Go.Proofs.Ytmkdgnmmebldgaa
open Go.RowKit Go.Deep

set_option maxHeartbeats 400000 in
theorem l5pieces_any (C : Nat) (w : World) :
    Calls Try.prog 147 #[.pointer (some ⟨C, 0, none⟩)] w fun e w' => e = .returned (.pointer (some ⟨w.heap.size, 0, none⟩)) ∧ w'.cell? ⟨w.heap.size, 0, none⟩ = some (.pointer (some ⟨C, 0, none⟩)) ∧ IsT w' 277 w.heap.size ∧ Below w.heap.size w w' := by
  go_enter Try.func147, Try.ntmps147
  go_wp2_with fail
  go_ret
  refine ⟨rfl, by simp [go_sem], ⟨_, heap_alloc_new _ _⟩, (by repeat (first | exact Below.refl _ _ | assumption | refine Below.drew ?_ | refine bdrewN ?_ _ | refine Below.setCell ?_ (by first | omega | (simp; done) | (simp; omega)) _ | refine Below.alloc ?_ (by first | omega | (simp; done) | (simp; omega)) _))⟩

/-- What a net under construction stands on: its cells, the cursor, the maker of pieces. -/
structure Mk (w0 w : World) (D C N : Nat) (ca : Option Addr) (cc : Nat) (bs : List Int) (at_ : Nat) (xp : Option Addr) (yp : Nat) (xj : Option Addr) (yj : Nat) (ps : List MPiece) (js : List MJ) : Prop where
  net : NetS w C N xp yp xj yj ps js
  cur : Cur w C ca cc bs at_
  low : LowB C ca bs
  d0 : w.cell? ⟨D, 0, none⟩ = some (.pointer (some ⟨C, 0, none⟩))
  dC : C < D
  dN : D ≠ N
  dT : IsT w 277 D
  base : Only (fun k => k = C ∨ N ≤ k) w0 w

section
variable {w0 w w' : World} {D C N : Nat} {ca : Option Addr} {cc : Nat} {bs : List Int} {at_ : Nat} {xp xj : Option Addr} {yp yj : Nat} {ps : List MPiece} {js : List MJ}
theorem Mk.below (h : Mk w0 w D C N ca cc bs at_ xp yp xj yj ps js) (hb : Below w.heap.size w w') : Mk w0 w' D C N ca cc bs at_ xp yp xj yj ps js :=
  ⟨h.net.below hb, h.cur.below hb, h.low, cell_later hb h.d0, h.dC, h.dN, h.dT.kept (hb.block D (cellLt h.d0)), h.base.trans (Only.of_below hb)⟩
theorem Mk.turn {at' : Nat} (h : Mk w0 w D C N ca cc bs at_ xp yp xj yj ps js) (hc : Cur w' C ca cc bs at') (ho : Only (fun k => k = C) w w') : Mk w0 w' D C N ca cc bs at' xp yp xj yj ps js :=
  ⟨h.net.only ho, hc, h.low, ho.cell h.d0 (by have := h.dC; show ¬ D = C; omega), h.dC, h.dN, h.dT.kept (ho.block D (cellLt h.d0) (by have := h.dC; omega)), h.base.trans (ho.mono (fun k hk => Or.inl hk))⟩
theorem Mk.pushJ (h : Mk w0 w D C N ca cc bs at_ xp yp xj yj ps js) {x : MJ} {x' : Option Addr} {y' : Nat} (hg : w.grownBy w' (Value.slice xj js.length yj).ownBlock) (ho : w'.ownsRow (N + 1) 182 3 (.slice x' (js.length + 1) y') (js.length + 1) (flatJ (js ++ [x]))) (hx : x.2.2.name.size ≤ 1000002) (hE : EndsIn w N x) :
    Mk w0 (w'.setCell ⟨N, 1, none⟩ (.slice x' (js.length + 1) y')) D C N ca cc bs at_ xp yp x' y' ps (js ++ [x]) := by
  have hrow : ∀ k, k ≤ N → (Value.slice xj js.length yj).ownBlock ≠ some k := fun k hk e => by have := (h.net.oj.lt k e).1; omega
  have hcn := h.net.cn
  have hN := h.net.lt
  have hlowk : ∀ k, k < N → (w'.setCell ⟨N, 1, none⟩ (.slice x' (js.length + 1) y')).heap[k]? = w.heap[k]? := fun k hk => (Below.heap_setCell _ _ _ _ (show k ≠ N by omega)).trans (hg.block k (by omega) (fun e => hrow k (by omega) e.symm))
  have hD : (w'.setCell ⟨N, 1, none⟩ (.slice x' (js.length + 1) y')).heap[D]? = w.heap[D]? := (Below.heap_setCell _ _ _ _ h.dN).trans (hg.block D (cellLt h.d0) (fun e => h.dT.ne h.net.oj (by decide) e.symm))
  exact ⟨h.net.pushJ hg ho hx hE, h.cur.above h.low (fun k hk => hlowk k (by omega)), h.low, (World.cell?_of_block (w := w) hD).trans h.d0, h.dC, h.dN, h.dT.kept hD, h.base.trans ⟨hg.os, hg.tape, hg.output, (by have := hg.size; simpa using this), fun k _ hn => hlowk k (Nat.lt_of_not_le (fun h => hn (Or.inr h)))⟩⟩
end

/-- 'add.piece(&n)'. -/
theorem Mk.piece {w0 w : World} {D C N : Nat} {ca : Option Addr} {cc : Nat} {bs : List Int} {at_ : Nat} {xp xj : Option Addr} {yp yj : Nat} {ps : List MPiece} {js : List MJ} (h : Mk w0 w D C N ca cc bs at_ xp yp xj yj ps js) (ha : at_ ≤ 800000000) (hl : ps.length ≤ 1000) :
    Calls Try.prog 148 #[.pointer (some ⟨D, 0, none⟩), .pointer (some ⟨N, 0, none⟩)] w fun e w' => ∃ q : Nat, e = .returned (.int .i64 q) ∧ ∃ xp' yp' at' ps', at' ≤ at_ + 2 ∧ ps'.length = ps.length + 1 ∧ Mk w0 w' D C N ca cc bs at' xp' yp' xj yj ps' js :=
  (piece_any D C N ca cc bs at_ xp yp xj yj ps js w h.net h.cur h.low h.d0 ⟨h.dC, h.dN, h.dT⟩ ha hl).mono (fun _ _ ⟨he, xp', yp', p, at', h1, h2, h3, h4, h5, h6⟩ => ⟨ps.length, he, xp', yp', at', ps ++ [p], h3, by simp, h1, h2, h.low, h4, h.dC, h.dN, h5, h.base.trans h6⟩)
theorem NetS.rowJ {w w' : World} {C N : Nat} {xp xj : Option Addr} {yp yj : Nat} {ps : List MPiece} {js : List MJ} (h : NetS w C N xp yp xj yj ps js) (hg : w.grownBy w' (Value.slice xj js.length yj).ownBlock) : w'.cell? ⟨N, 1, none⟩ = some (.slice xj js.length yj) ∧ w'.frozen? ⟨N, 1, none⟩ = false := by
  have hN : w'.heap[N]? = w.heap[N]? := hg.block N h.lt (fun e => by have := (h.oj.lt N e.symm).1; omega)
  exact ⟨(World.cell?_of_block (w := w) hN).trans h.c1, (World.frozen?_of_block (w := w) hN).trans (h.z 1)⟩

/-- The ends of a joint, newly laid. -/
theorem endsIn_new {w : World} {N : Nat} {k : Int} {s : ByteArray} {es : List MEnd} {g : Nat} {cur : Array Value} {c : Nat} (hN : N < g) (hg : w.heap[g]? = some (.cells cur 139 (0, 0))) (hc : cur = (flatE es).toArray) (hl : es.length ≤ maxLen) : EndsIn w N (some ⟨g, 0, none⟩, c, ⟨k, s, es⟩) := by
  refine ⟨⟨hl, Or.inr ⟨g, 0, rfl, endCells_of (fun j u hu => ?_)⟩⟩, Or.inr (fun b off e => ?_)⟩
  · rw [addr_at, Nat.zero_add, cell_of_row w g j cur 139 (0, 0) hg, hc]
    simpa using hu
  · cases e
    exact ⟨hN, cur, hg⟩

theorem piecesAt_of {w : World} {N : Nat} {x : Option Addr} {y : Nat} {ps : List MPiece} (h : w.ownsRow N 55 4 (.slice x ps.length y) ps.length (flatPc ps)) (hn : ∀ p ∈ ps, p.name.size ≤ 1000002) : PiecesAt w x ps := by
  rcases h.2 with ⟨h1, h2⟩ | ⟨g, cap, cur, h1, h2, h3, h4, h5, _⟩
  · have : ps = [] := List.eq_nil_of_length_eq_zero h2
    subst this
    exact ⟨Nat.zero_le _, fun p hp => (by cases hp), Or.inl rfl⟩
  · cases h1
    refine ⟨Nat.le_trans h4 h5, fun p hp => by have := hn p hp; unfold maxLen; omega, Or.inr ⟨g, 0, rfl, fun i hi => ?_⟩⟩
    have hc := h.cells (g := g) rfl
    have hg : ∀ j, j < 4 → ∀ u, (encPc ps[i])[j]? = some u → w.cell? ⟨g, 0 + i * 4 + j, none⟩ = some u := by
      intro j hj u hu
      have := hc (i * 4 + j) u ((flat_get encPc 4 (fun _ => rfl) ps i j hi hj).trans hu)
      rw [addr_at] at this
      have e : 0 + (i * 4 + j) = 0 + i * 4 + j := by omega
      rw [e] at this
      exact this
    exact ⟨hg 0 (by omega) _ rfl, hg 1 (by omega) _ rfl, hg 2 (by omega) _ rfl, hg 3 (by omega) _ rfl⟩
theorem jointsAt_of {w : World} {N B : Nat} {x : Option Addr} {y : Nat} {js : List MJ} (h : w.ownsRow N 182 3 (.slice x js.length y) js.length (flatJ js)) (hn : ∀ z ∈ js, z.2.2.name.size ≤ 1000002) (he : ∀ z ∈ js, EndsIn w B z) : JointsAt w x (js.map (fun z => z.2.2)) := by
  rcases h.2 with ⟨h1, h2⟩ | ⟨g, cap, cur, h1, h2, h3, h4, h5, _⟩
  · have : js = [] := List.eq_nil_of_length_eq_zero h2
    subst this
    exact ⟨Nat.zero_le _, fun p hp => (by cases hp), Or.inl rfl⟩
  · cases h1
    refine ⟨by rw [List.length_map]; exact Nat.le_trans h4 h5, fun p hp => ?_, Or.inr ⟨g, 0, rfl, fun i hi => ?_⟩⟩
    · obtain ⟨z, hz, rfl⟩ := List.mem_map.1 hp
      have := hn z hz
      unfold maxLen
      omega
    · rw [List.length_map] at hi
      have hc := h.cells (g := g) rfl
      have hg : ∀ j, j < 3 → ∀ u, (encJ js[i])[j]? = some u → w.cell? ⟨g, 0 + i * 3 + j, none⟩ = some u := by
        intro j hj u hu
        have := hc (i * 3 + j) u ((flat_get encJ 3 (fun _ => rfl) js i j hi hj).trans hu)
        rw [addr_at] at this
        have e : 0 + (i * 3 + j) = 0 + i * 3 + j := by omega
        rw [e] at this
        exact this
      rw [List.getElem_map]
      exact ⟨hg 0 (by omega) _ rfl, hg 1 (by omega) _ rfl, _, _, hg 2 (by omega) _ rfl, (he js[i] (List.getElem_mem hi)).1⟩

/-- A net lies in blocks from B on. -/
def NetKeep (B : Nat) (w' : World) (xp xj : Option Addr) (ps : List MPiece) (js : List MJoint) : Prop := ∀ u : World, (∀ b, B ≤ b → b < w'.heap.size → u.heap[b]? = w'.heap[b]?) → PiecesAt u xp ps ∧ JointsAt u xj js
theorem NetKeep.go {B : Nat} {w' u : World} {xp xj : Option Addr} {ps : List MPiece} {js : List MJoint} (h : NetKeep B w' xp xj ps js) (hz : w'.heap.size ≤ u.heap.size) (hk : ∀ b, B ≤ b → b < w'.heap.size → u.heap[b]? = w'.heap[b]?) : NetKeep B u xp xj ps js :=
  fun v hv => h v (fun b h1 h2 => (hv b h1 (by omega)).trans (hk b h1 h2))
theorem NetKeep.le {B B' : Nat} {w' : World} {xp xj : Option Addr} {ps : List MPiece} {js : List MJoint} (h : NetKeep B w' xp xj ps js) (hB : B' ≤ B) : NetKeep B' w' xp xj ps js := fun v hv => h v (fun b h1 h2 => hv b (by omega) h2)
theorem NetKeep.now {B : Nat} {w' : World} {xp xj : Option Addr} {ps : List MPiece} {js : List MJoint} (h : NetKeep B w' xp xj ps js) : PiecesAt w' xp ps ∧ JointsAt w' xj js := h w' (fun _ _ _ => rfl)
/-- What a track is, once drawn. -/
def NetOut (C : Nat) (ca : Option Addr) (cc : Nat) (bs : List Int) (at_ k : Nat) (w : World) (e : Ending) (w' : World) : Prop :=
  ∃ xp yp xj yj ps js at', e = .returned (.agg #[.slice xp (ps : List MPiece).length yp, .slice xj (js : List MJoint).length yj]) ∧ NetKeep w.heap.size w' xp xj ps js ∧ (1 ≤ ps.length ∧ ps.length ≤ 100 ∧ ∀ p ∈ ps, 1 ≤ p.len ∧ p.len ≤ 400) ∧ Cur w' C ca cc bs at' ∧ at' ≤ at_ + k ∧ Only (fun k => k = C) w w'

/-- What stands while a station is laid: k rounds are left. -/
def StInv (W wr : World) (D C N : Nat) (ca : Option Addr) (cc : Nat) (bs : List Int) (at_ k : Nat) : Prop := ∃ xp yp xj yj ps js at', Mk W wr D C N ca cc bs at' xp yp xj yj ps js ∧ at' + 6 * k ≤ at_ + 22 ∧ 1 ≤ ps.length ∧ ps.length + 3 * k ≤ 10 ∧ js.length + 2 * k ≤ 7

set_option maxRecDepth 20000 in
set_option maxHeartbeats 8000000 in
theorem station_any (C : Nat) (ca : Option Addr) (cc : Nat) (bs : List Int) (at_ : Nat) (w : World) (hc : Hid (Cur w C ca cc bs at_)) (hlow : Hid (LowB C ca bs)) (ha : at_ ≤ 700000000) :
    Calls Try.prog 96 #[.pointer (some ⟨C, 0, none⟩)] w (NetOut C ca cc bs at_ 40 w) := by
  have hCz := hc.out.lt
  go_enter Try.func96, Try.ntmps96
  go_wp2_with fail
  generalize hW : World.alloc (World.alloc w _) _ = W
  have hbW : Below w.heap.size w W := by rw [← hW]; exact (by repeat (first | exact Below.refl _ _ | assumption | refine Below.drew ?_ | refine bdrewN ?_ _ | refine Below.setCell ?_ (by first | omega | (simp; done) | (simp; omega)) _ | refine Below.alloc ?_ (by first | omega | (simp; done) | (simp; omega)) _))
  have HN0 : Hid (NetS W C (w.heap.size + 1) none 0 none 0 [] []) := by
    rw [← hW]
    exact ⟨by omega, by simp [go_sem], by simp [go_sem], fun o => by simp [go_sem], World.ownsRow_nil _ _ _ _, World.ownsRow_nil _ _ _ _, fun x hx => (by cases hx), fun x hx => (by cases hx), fun x hx => (by cases hx)⟩
  have R0 : W.cell? ⟨w.heap.size, 0, none⟩ = some (.slice none 0 0) := by rw [← hW]; simp [go_sem]
  have R1 : W.cell? ⟨w.heap.size, 1, none⟩ = some (.slice none 0 0) := by rw [← hW]; simp [go_sem]
  have HRZ : Hid (∀ o, W.frozen? ⟨w.heap.size, o, none⟩ = false) := fun o => by rw [← hW]; simp [go_sem]
  have hzW : w.heap.size + 1 < W.heap.size := by rw [← hW]; simp
  have HBW := hidP hbW
  have hwz := hbW.size
  clear hW hbW
  obtain ⟨N, hN⟩ : ∃ N, w.heap.size + 1 = N := ⟨_, rfl⟩
  obtain ⟨R, hR⟩ : ∃ R, w.heap.size = R := ⟨_, rfl⟩
  rw [hN] at HN0 hzW ⊢
  rw [hR] at R0 R1 HRZ ⊢
  have hRN : R < N := by omega
  have hRC : C < R := by omega
  have HRw : Hid (w.heap.size ≤ R) := by unfold Hid; omega
  clear hN hR
  refine (l5pieces_any C W).mono ?_
  rintro e w1 ⟨rfl, d1, t1, hb1⟩
  obtain ⟨D, hD⟩ : ∃ D, W.heap.size = D := ⟨_, rfl⟩
  have HM1 : Hid (Mk W w1 W.heap.size C N ca cc bs at_ none 0 none 0 [] []) := ⟨HN0.out.below hb1, (hc.out.below HBW.out).below hb1, hlow.out, d1, by omega, by omega, t1, Only.of_below hb1⟩
  rw [hD] at HM1 ⊢
  clear d1 t1 hb1 HN0 hD
  go_wp2_with fail
  refine (pick_any C ca cc bs at_ 3 w1 HM1.out.cur (by omega) (by omega)).mono ?_
  rintro e w2 ⟨x, at2, hx, rfl, hat2, hc2, ho2⟩
  have HM2 := hidP (HM1.out.turn hc2 ho2)
  clear hc2 ho2 HM1
  have hx3 : x < 3 := by omega
  clear hx
  go_wp2_with fail
  refine (HM2.out.piece (by omega) (by simp)).mono ?_
  rintro e w3 ⟨q, rfl, xp, yp, at3, ps, hat3, hps, hm3⟩
  rw [List.length_nil] at hps
  have hm3' : ∃ (xj : Option Addr) (yj : Nat) (js : List MJ), js.length ≤ 0 ∧ Mk W w3 D C N ca cc bs at3 xp yp xj yj ps js := ⟨none, 0, [], by simp, hm3⟩
  obtain ⟨xj, yj, js, hjs, hm3'⟩ := hm3'
  have HM3 := hidP hm3'
  have n1 := hm3'.net.c1
  have hN3 := hm3'.net.lt
  clear hm3 hm3' HM2
  go_wp2_with (at_builtin; refine wpList_push (Wp := w3.alloc (.cells #[.int .i64 (q : Int), .int .i64 0] 139)) rfl (.tmp 18) (.tmp 23) 24 rfl (N + 1) 182 _ 3 48 Try.underlying24 Try.infoJoint rfl (by decide) (.slice xj js.length yj) js.length (flatJ js) rfl (HM3.out.net.oj.alloc _) (w3.heap.size + 1) (by simp) [.int .i64 1, .string ⟨#[]⟩, .slice (some ⟨w3.heap.size, 0, none⟩) 1 1] rfl rfl (by simp [Value.oneCell']) (by unfold maxLen; omega) (by omega) (by simp; omega) ?_; intro xj4 yj4 w4 ho4 hg4; obtain ⟨m1, m2⟩ := (HM3.out.net.below ((Below.refl _ _).alloc (Nat.le_refl _) _)).rowJ hg4)
  have HM4 : Hid (Mk W (w4.setCell ⟨N, 1, none⟩ (.slice xj4 (js.length + 1) yj4)) D C N ca cc bs at3 xp yp xj4 yj4 ps (js ++ [(some ⟨w3.heap.size, 0, none⟩, 1, ⟨1, ⟨#[]⟩, [⟨q, 0⟩]⟩)])) :=
    (HM3.out.below ((Below.refl _ _).alloc (Nat.le_refl _) _)).pushJ hg4 (by rw [← flatJ_push]; exact ho4) (Nat.zero_le _) (endsIn_new (by omega) (heap_alloc_new _ _) rfl (by show 1 ≤ maxLen; decide))
  have HI0 : Hid (StInv W (w4.setCell ⟨N, 1, none⟩ (.slice xj4 (js.length + 1) yj4)) D C N ca cc bs at_ (1 + x)) := ⟨_, _, _, _, _, _, _, HM4.out, by omega, by omega, by omega, by simp; omega⟩
  generalize w4.setCell ⟨N, 1, none⟩ (.slice xj4 (js.length + 1) yj4) = w5 at HI0 ⊢
  clear HM4 HM3 hg4 ho4 m1 m2 n1 hN3 hjs hps hat3
  go_loopw [5, 6] (fun kk pp wr => ∃ (k q : Nat), kk = .int .i64 k ∧ pp = .int .i64 q ∧ k ≤ 3 ∧ Hid (StInv W wr D C N ca cc bs at_ k)) (fun kk _ _ => (intOf kk).toNat)
  case atStart => exact ⟨1 + x, q, by go_num, rfl, by omega, HI0⟩
  case round =>
    clear HI0
    obtain ⟨k, q, rfl, rfl, hk3, HI⟩ := hrel
    cases k with
    | zero =>
      obtain ⟨xp, yp, xj, yj, ps, js, at0, hm0, hat0, hps0, hps1, hjs⟩ := HI.out
      have HM := hidP hm0
      have n0 := hm0.net.c0
      have n1 := hm0.net.c1
      have hNr := hm0.net.lt
      have hRr : wr.heap[R]? = W.heap[R]? := hm0.base.block R (by omega) (by omega)
      have q0 := (World.cell?_of_block (w := W) (a := ⟨R, 0, none⟩) hRr).trans R0
      have q1 := (World.cell?_of_block (w := W) (a := ⟨R, 1, none⟩) hRr).trans R1
      have HQZ : Hid (∀ o, wr.frozen? ⟨R, o, none⟩ = false) := fun o => (World.frozen?_of_block (w := W) (a := ⟨R, o, none⟩) hRr).trans (HRZ.out o)
      have hWr := hm0.base.size
      clear hm0 HI hRr R0 R1
      have hnR : N ≠ R := by omega
      go_wp2_with (at_builtin; refine wpList_push (Wp := wr.alloc (.cells #[.int .i64 (q : Int), .int .i64 1] 139)) rfl (.tmp 76) (.tmp 81) 24 rfl (N + 1) 182 _ 3 48 Try.underlying24 Try.infoJoint rfl (by decide) (.slice xj js.length yj) js.length (flatJ js) rfl (HM.out.net.oj.alloc _) (wr.heap.size + 1) (by simp) [.int .i64 1, .string ⟨#[]⟩, .slice (some ⟨wr.heap.size, 0, none⟩) 1 1] rfl rfl (by simp [Value.oneCell']) (by unfold maxLen; omega) (by omega) (by simp; omega) ?_; intro xj8 yj8 w8 ho8 hg8; obtain ⟨m1, m2⟩ := (HM.out.net.below ((Below.refl _ _).alloc (Nat.le_refl _) _)).rowJ hg8; have hN8 : w8.heap[N]? = wr.heap[N]? := ((hg8.block N (by simp; omega) (fun e => (by have := (HM.out.net.oj.lt N e.symm).1; omega))).trans (Below.heap_alloc _ _ _ hNr)); have hR8 : w8.heap[R]? = wr.heap[R]? := ((hg8.block R (by simp; omega) (fun e => (by have := (HM.out.net.oj.lt R e.symm).1; omega))).trans (Below.heap_alloc _ _ _ (by omega))); have m0 := (World.cell?_of_block (w := wr) (a := ⟨N, 0, none⟩) hN8).trans n0; have s0 := (World.cell?_of_block (w := wr) (a := ⟨R, 0, none⟩) hR8).trans q0; have s1 := (World.cell?_of_block (w := wr) (a := ⟨R, 1, none⟩) hR8).trans q1; have u0 := (World.frozen?_of_block (w := wr) (a := ⟨R, 0, none⟩) hR8).trans (HQZ.out 0); have u1 := (World.frozen?_of_block (w := wr) (a := ⟨R, 1, none⟩) hR8).trans (HQZ.out 1))
      have HM8 : Hid (Mk W (w8.setCell ⟨N, 1, none⟩ (.slice xj8 (js.length + 1) yj8)) D C N ca cc bs at0 xp yp xj8 yj8 ps (js ++ [(some ⟨wr.heap.size, 0, none⟩, 1, ⟨1, ⟨#[]⟩, [⟨q, 1⟩]⟩)])) :=
        (HM.out.below ((Below.refl _ _).alloc (Nat.le_refl _) _)).pushJ hg8 (by rw [← flatJ_push]; exact ho8) (Nat.zero_le _) (endsIn_new (by omega) (heap_alloc_new _ _) rfl (by show 1 ≤ maxLen; decide))
      have s0n : (w8.setCell ⟨N, 1, none⟩ (.slice xj8 (js.length + 1) yj8)).cell? ⟨R, 0, none⟩ = some (.slice none 0 0) := by rw [World.cell?_setCell_other _ _ _ _ (by simp)]; exact s0
      have s1n : (w8.setCell ⟨N, 1, none⟩ (.slice xj8 (js.length + 1) yj8)).cell? ⟨R, 1, none⟩ = some (.slice none 0 0) := by rw [World.cell?_setCell_other _ _ _ _ (by simp)]; exact s1
      generalize w8.setCell ⟨N, 1, none⟩ (.slice xj8 (js.length + 1) yj8) = wn at HM8 s0n s1n ⊢
      refine bodyPost_ret (v := .agg #[.slice xp ps.length yp, .slice xj8 (js.length + 1) yj8]) (by simp [results, Try.results96, go_sem, s0n, s1n]) rfl ?_
      have hk : ∀ b, b ≠ R → ((wn.setCell ⟨R, 0, none⟩ (.slice xp ps.length yp)).setCell ⟨R, 1, none⟩ (.slice xj8 (js.length + 1) yj8)).heap[b]? = wn.heap[b]? := fun b hb => (Below.heap_setCell _ _ _ _ hb).trans (Below.heap_setCell _ _ _ _ hb)
      have hnet := HM8.out.net.kept (w' := (wn.setCell ⟨R, 0, none⟩ (.slice xp ps.length yp)).setCell ⟨R, 1, none⟩ (.slice xj8 (js.length + 1) yj8)) (fun b h1 _ => hk b (by omega))
      have hw := HRw.out
      refine ⟨xp, yp, xj8, yj8, ps, (js ++ ([(some ⟨wr.heap.size, 0, none⟩, 1, ⟨1, ⟨#[]⟩, [⟨q, 1⟩]⟩)] : List MJ)).map (fun z : MJ => z.2.2), at0, by simp, fun u hu => (by have h := hnet.kept (w' := u) (fun b h1 hz => hu b (by omega) hz); exact ⟨piecesAt_of h.op (fun p hp => (h.pn p hp).1), jointsAt_of h.oj h.jn h.je⟩), ⟨by omega, by omega, fun p hp => (hnet.pn p hp).2⟩, HM8.out.cur.above hlow.out (fun k hk' => hk k (by omega)), by omega, ?_⟩
      have h1 : Only (fun k => k = C) w wn := ⟨HM8.out.base.os.trans HBW.out.os, HM8.out.base.tape.trans HBW.out.tape, HM8.out.base.output.trans HBW.out.output, Nat.le_trans HBW.out.size HM8.out.base.size, fun k hk1 hk2 => (HM8.out.base.block k (by omega) (by omega)).trans (HBW.out.block k hk1)⟩
      exact (h1.setCell (p := ⟨R, 0, none⟩) (Or.inr hw) _).setCell (p := ⟨R, 1, none⟩) (Or.inr hw) _
    | succ k =>
      obtain ⟨xp0, yp0, xj, yj, ps0, js, at0, hm0, hat0, hps0, hps1, hjs⟩ := HI.out
      have HMa := hidP hm0
      clear hm0 HI
      have hk1 : (0 : Int) < ((k + 1 : Nat) : Int) := by omega
      go_wp2_with fail
      refine (HMa.out.piece (by omega) (by omega)).mono ?_
      rintro e w5a ⟨qa, rfl, xp1, yp1, at1, ps1, hat1, hpl1, hm1⟩
      have HMb := hidP hm1
      clear hm1 HMa
      go_wp2_with fail
      refine (HMb.out.piece (by omega) (by omega)).mono ?_
      rintro e w5b ⟨qb, rfl, xp2, yp2, at2', ps2, hat2', hpl2, hm2⟩
      have HMc := hidP hm2
      clear hm2 HMb
      go_wp2_with fail
      refine (HMc.out.piece (by omega) (by omega)).mono ?_
      rintro e wk ⟨qc, rfl, xp, yp, at4, ps, hat4, hpl, hm4⟩
      have HMr := hidP hm4
      clear hm4 HMc
      have hjl : js.length ≤ 20 := by omega
      go_wp2_with fail
      have n1 := HMr.out.net.c1
      have hNr := HMr.out.net.lt
      have HNM : Hid (∀ (c : Value) (u : World), Calls Try.prog 98 #[c, .int .i64 (100 + (js.length : Int))] u fun e w' => (∃ s : ByteArray, e = .returned (.string s) ∧ s.size ≤ 1000002) ∧ Below u.heap.size u w') := fun c u => by
        have h := name_any c (100 + js.length) u (by omega)
        rw [Int.natCast_add] at h
        exact h
      go_cut [] (fun wx => ∃ xj' yj' js', js'.length = js.length + 1 ∧ Hid (Mk W wx D C N ca cc bs at4 xp yp xj' yj' ps js'))
      case first =>
        obtain ⟨S, hS⟩ : ∃ S : World → Prop, ∀ u, S u ↔ u.cell? ⟨N, 1, none⟩ = some (.slice xj js.length yj) := ⟨_, fun _ => Iff.rfl⟩
        have HS0 := hidP hS
        have r0 : ∀ u : Held S, World.cell? u.val ⟨N, 1, none⟩ = some (.slice xj js.length yj) := fun u => (hS u.val).1 u.2
        have hS1 : S wk.drew := (hS _).2 n1
        have hne := held_ne hS1
        clear hS
        refine wp_region_tree (fun w' => ∃ u : Held S, w' = u.val) 17 (by kernel_rfl) (by kernel_rfl) (held_some hS1) ?_
        (refine wpT_see 0 (by rfl) (by kernel_rfl) (by kernel_rfl) ?_; intro K hK; go_big_quiet_op; go_big_quiet_on); (refine wpT_see 1 (by rfl) (by kernel_rfl) (by kernel_rfl) ?_; intro K hK; go_big_quiet_op; go_big_quiet_on); (refine wpT_see 2 (by rfl) (by kernel_rfl) (by kernel_rfl) ?_; intro K hK; go_big_quiet_op; go_big_quiet_on); (refine wpT_see 3 (by rfl) (by kernel_rfl) (by kernel_rfl) ?_; intro K hK; go_big_quiet_op; go_big_quiet_on); (refine wpT_see 4 (by rfl) (by kernel_rfl) (by kernel_rfl) ?_; intro K hK; go_big_quiet_op; go_big_quiet_on); (refine wpT_see 5 (by rfl) (by kernel_rfl) (by kernel_rfl) ?_; intro K hK; go_big_quiet_op; go_big_quiet_on); (refine wpT_see 6 (by rfl) (by kernel_rfl) (by kernel_rfl) ?_; intro K hK; go_big_quiet_op; go_big_quiet_on)
        (refine wpT_see 8 (by rfl) (by kernel_rfl) (by kernel_rfl) ?_; intro K hK; go_big_quiet_op; go_big_quiet_on); (refine wpT_see 9 (by rfl) (by kernel_rfl) (by kernel_rfl) ?_; intro K hK; go_big_quiet_op; go_big_quiet_on); (refine wpT_see 10 (by rfl) (by kernel_rfl) (by kernel_rfl) ?_; intro K hK; go_big_quiet_op; go_big_quiet_on); (refine wpT_see 11 (by rfl) (by kernel_rfl) (by kernel_rfl) ?_; intro K hK; go_big_quiet_op; go_big_quiet_on); (refine wpT_see 12 (by rfl) (by kernel_rfl) (by kernel_rfl) ?_; intro K hK; go_big_quiet_op; go_big_quiet_on); (refine wpT_see 13 (by rfl) (by kernel_rfl) (by kernel_rfl) ?_; intro K hK; go_big_quiet_op; go_big_quiet_on)
        refine wpT_loud2 7 14 (by rfl) (by rfl) (by kernel_rfl) (by kernel_rfl) (by kernel_rfl) ?_ ?_
        · intro K hK
          go_wp2_with (go_at_call 98; refine (HNM.out _ _).mono ?_; rintro e w6 ⟨⟨s, rfl, hsz⟩, hb6'⟩)
          have hb6 : Below wk.heap.size wk w6 := (Below.refl _ _).drew.trans hb6'
          have hz6 := hb6.size
          have hS6 : S w6 := (HS0.out _).2 (cell_later hb6 n1)
          refine hK _ _ (held_some hS6) ?_
          clear hK K hb6'
          refine wpT_loud 14 (by rfl) (by kernel_rfl) (by kernel_rfl) ?_
          intro K hK
          go_wp2_with fail
          have hb7 : Below wk.heap.size wk (World.alloc w6 (.cells #[.int .i64 (q : Int), .int .i64 1, .int .i64 (qa : Int), .int .i64 0, .int .i64 (qb : Int), .int .i64 0] 139)) := hb6.alloc (by omega) _
          have hg7 : (World.alloc w6 (.cells #[.int .i64 (q : Int), .int .i64 1, .int .i64 (qa : Int), .int .i64 0, .int .i64 (qb : Int), .int .i64 0] 139)).heap[w6.heap.size]? = some (.cells #[.int .i64 (q : Int), .int .i64 1, .int .i64 (qa : Int), .int .i64 0, .int .i64 (qb : Int), .int .i64 0] 139 (0, 0)) := heap_alloc_new _ _
          have hS7 : S (World.alloc w6 (.cells #[.int .i64 (q : Int), .int .i64 1, .int .i64 (qa : Int), .int .i64 0, .int .i64 (qb : Int), .int .i64 0] 139)) := (HS0.out _).2 (cell_later hb7 n1)
          have hgN : N < w6.heap.size := by omega
          refine hK _ _ (held_some hS7) ?_
          clear hK K hb6 hS6 hS1 n1
          generalize World.alloc w6 (.cells #[.int .i64 (q : Int), .int .i64 1, .int .i64 (qa : Int), .int .i64 0, .int .i64 (qb : Int), .int .i64 0] 139) = w7 at hb7 hg7 hS7 ⊢
          generalize w6.heap.size = g at hg7 hgN ⊢
          have HX7 : Hid (EndsIn w7 N (some ⟨g, 0, none⟩, 3, ⟨3, s, [⟨(q : Int), 1⟩, ⟨(qa : Int), 0⟩, ⟨(qb : Int), 0⟩]⟩)) := endsIn_new hgN hg7 rfl (by show 3 ≤ maxLen; decide)
          have HM7 := hidP (HMr.out.below hb7)
          have hz7 := hb7.size
          clear hg7 hb7
          (refine wpT_see 15 (by rfl) (by kernel_rfl) (by kernel_rfl) ?_; intro K hK; go_big_quiet_op; go_big_quiet_on)
          refine wpT_loud 16 (by rfl) (by kernel_rfl) (by kernel_rfl) ?_
          intro K hK
          go_wp2_with fail
          have hS8 : ∀ o, S (World.alloc w7 o) := fun o => (HS0.out _).2 (cell_later ((Below.refl w7.heap.size w7).alloc (Nat.le_refl _) o) ((HS0.out _).1 hS7))
          refine hK _ _ (held_some (hS8 _)) ?_
          clear hK K hS8 hS7
          refine wpT_done (by kernel_rfl) ?_
          simp only [List.drop_succ_cons, List.drop_zero]
          refine wpList_push rfl (.tmp 37) (.tmp 52) 24 rfl (N + 1) 182 _ 3 48 Try.underlying24 Try.infoJoint rfl (by decide) (.slice xj js.length yj) js.length (flatJ js) rfl HM7.out.net.oj w7.heap.size rfl [.int .i64 3, .string s, .slice (some ⟨g, 0, none⟩) 3 3] rfl rfl (by simp [Value.oneCell']) (by unfold maxLen; omega) (by omega) (by omega) ?_
          intro xj8 yj8 w8 ho8 hg8
          obtain ⟨m1, m2⟩ := HM7.out.net.rowJ hg8
          have HM8 : Hid (Mk W (w8.setCell ⟨N, 1, none⟩ (.slice xj8 (js.length + 1) yj8)) D C N ca cc bs at4 xp yp xj8 yj8 ps (js ++ [(some ⟨g, 0, none⟩, 3, ⟨3, s, [⟨(q : Int), 1⟩, ⟨(qa : Int), 0⟩, ⟨(qb : Int), 0⟩]⟩)])) :=
            HM7.out.pushJ hg8 (by rw [← flatJ_push]; exact ho8) hsz HX7.out
          clear hg8 ho8 HX7 HM7
          go_wp2_with fail
          go_meet
          exact ⟨xj8, yj8, _, by simp, HM8⟩
        · intro K hK
          go_wp2_with fail
          have hb6 : Below wk.heap.size wk (World.alloc wk (.cells #[.int .i64 (q : Int), .int .i64 1, .int .i64 (qa : Int), .int .i64 0, .int .i64 (qb : Int), .int .i64 0] 139)).drew := ((Below.refl _ _).alloc (Nat.le_refl _) _).drew
          have hg6 : (World.alloc wk (.cells #[.int .i64 (q : Int), .int .i64 1, .int .i64 (qa : Int), .int .i64 0, .int .i64 (qb : Int), .int .i64 0] 139)).drew.heap[wk.heap.size]? = some (.cells #[.int .i64 (q : Int), .int .i64 1, .int .i64 (qa : Int), .int .i64 0, .int .i64 (qb : Int), .int .i64 0] 139 (0, 0)) := heap_alloc_new wk _
          have hS6 : S (World.alloc wk (.cells #[.int .i64 (q : Int), .int .i64 1, .int .i64 (qa : Int), .int .i64 0, .int .i64 (qb : Int), .int .i64 0] 139)).drew := (HS0.out _).2 (cell_later hb6 n1)
          have hgN : N < wk.heap.size := hNr
          have hgz : wk.heap.size < (World.alloc wk (.cells #[.int .i64 (q : Int), .int .i64 1, .int .i64 (qa : Int), .int .i64 0, .int .i64 (qb : Int), .int .i64 0] 139)).drew.heap.size := by simp
          refine hK _ _ (held_some hS6) ?_
          clear hK K
          generalize (World.alloc wk (.cells #[.int .i64 (q : Int), .int .i64 1, .int .i64 (qa : Int), .int .i64 0, .int .i64 (qb : Int), .int .i64 0] 139)).drew = w6 at hb6 hg6 hS6 hgz ⊢
          refine wpT_loud 7 (by rfl) (by kernel_rfl) (by kernel_rfl) ?_
          intro K hK
          go_wp2_with (go_at_call 98; refine (HNM.out _ _).mono ?_; rintro e w7 ⟨⟨s, rfl, hsz⟩, hb7'⟩)
          have hb7 : Below wk.heap.size wk w7 := hb6.trans (hb7'.mono hb6.size)
          have hg7 := (hb7'.block _ hgz).trans hg6
          have hS7 : S w7 := (HS0.out _).2 (cell_later hb7 n1)
          refine hK _ _ (held_some hS7) ?_
          clear hK K hb6 hb7' hg6 hS6 hS1 n1
          obtain ⟨g, hgg⟩ : ∃ g, wk.heap.size = g := ⟨_, rfl⟩
          have HZW : Hid (wk.heap.size ≤ g) := by unfold Hid; omega
          rw [hgg] at hg7 hgN ⊢
          clear hgg
          have HX7 : Hid (EndsIn w7 N (some ⟨g, 0, none⟩, 3, ⟨3, s, [⟨(q : Int), 1⟩, ⟨(qa : Int), 0⟩, ⟨(qb : Int), 0⟩]⟩)) := endsIn_new hgN hg7 rfl (by show 3 ≤ maxLen; decide)
          have HM7 := hidP (HMr.out.below hb7)
          have hz7 := hb7.size
          clear hg7 hb7
          (refine wpT_see 15 (by rfl) (by kernel_rfl) (by kernel_rfl) ?_; intro K hK; go_big_quiet_op; go_big_quiet_on)
          refine wpT_loud 16 (by rfl) (by kernel_rfl) (by kernel_rfl) ?_
          intro K hK
          go_wp2_with fail
          have hS8 : ∀ o, S (World.alloc w7 o) := fun o => (HS0.out _).2 (cell_later ((Below.refl w7.heap.size w7).alloc (Nat.le_refl _) o) ((HS0.out _).1 hS7))
          refine hK _ _ (held_some (hS8 _)) ?_
          clear hK K hS8 hS7
          refine wpT_done (by kernel_rfl) ?_
          simp only [List.drop_succ_cons, List.drop_zero]
          refine wpList_push rfl (.tmp 37) (.tmp 52) 24 rfl (N + 1) 182 _ 3 48 Try.underlying24 Try.infoJoint rfl (by decide) (.slice xj js.length yj) js.length (flatJ js) rfl HM7.out.net.oj w7.heap.size rfl [.int .i64 3, .string s, .slice (some ⟨g, 0, none⟩) 3 3] rfl rfl (by simp [Value.oneCell']) (by unfold maxLen; omega) (by omega) (by omega) ?_
          intro xj8 yj8 w8 ho8 hg8
          obtain ⟨m1, m2⟩ := HM7.out.net.rowJ hg8
          have HM8 : Hid (Mk W (w8.setCell ⟨N, 1, none⟩ (.slice xj8 (js.length + 1) yj8)) D C N ca cc bs at4 xp yp xj8 yj8 ps (js ++ [(some ⟨g, 0, none⟩, 3, ⟨3, s, [⟨(q : Int), 1⟩, ⟨(qa : Int), 0⟩, ⟨(qb : Int), 0⟩]⟩)])) :=
            HM7.out.pushJ hg8 (by rw [← flatJ_push]; exact ho8) hsz HX7.out
          clear hg8 ho8 HX7 HM7
          go_wp2_with fail
          go_meet
          exact ⟨xj8, yj8, _, by simp, HM8⟩
      case rest =>
        obtain ⟨xj', yj', js', hjl', HMr'⟩ := hcut
        clear HMr n1 HNM hNr
        have hm' : ∃ (xj : Option Addr) (yj : Nat) (js2 : List MJ) (wk : World), wk = wc ∧ js2.length = js.length + 1 ∧ Mk W wk D C N ca cc bs at4 xp yp xj yj ps js2 := ⟨xj', yj', js', wc, rfl, hjl', HMr'.out⟩
        clear HMr' hjl'
        obtain ⟨xj, yj, js2, wk, hwk, hjl2, hm'⟩ := hm'
        have HMr := hidP hm'
        rw [← hwk]
        have hjs2 : js2.length + 2 * k ≤ 6 := by omega
        clear hwk hm' hjl2 hjs hjl
        have hjl : js2.length ≤ 20 := by omega
        go_wp2_with fail
        have n1 := HMr.out.net.c1
        have hNr := HMr.out.net.lt
        have HNM : Hid (∀ (c : Value) (u : World), Calls Try.prog 98 #[c, .int .i64 (100 + (js2.length : Int))] u fun e w' => (∃ s : ByteArray, e = .returned (.string s) ∧ s.size ≤ 1000002) ∧ Below u.heap.size u w') := fun c u => by
          have h := name_any c (100 + js2.length) u (by omega)
          rw [Int.natCast_add] at h
          exact h
        go_cut [] (fun wx => ∃ xj' yj' js', js'.length = js2.length + 1 ∧ Hid (Mk W wx D C N ca cc bs at4 xp yp xj' yj' ps js'))
        case first =>
          obtain ⟨S, hS⟩ : ∃ S : World → Prop, ∀ u, S u ↔ u.cell? ⟨N, 1, none⟩ = some (.slice xj js2.length yj) := ⟨_, fun _ => Iff.rfl⟩
          have HS0 := hidP hS
          have r0 : ∀ u : Held S, World.cell? u.val ⟨N, 1, none⟩ = some (.slice xj js2.length yj) := fun u => (hS u.val).1 u.2
          have hS1 : S wk.drew := (hS _).2 n1
          have hne := held_ne hS1
          clear hS
          refine wp_region_tree (fun w' => ∃ u : Held S, w' = u.val) 17 (by kernel_rfl) (by kernel_rfl) (held_some hS1) ?_
          (refine wpT_see 0 (by rfl) (by kernel_rfl) (by kernel_rfl) ?_; intro K hK; go_big_quiet_op; go_big_quiet_on); (refine wpT_see 1 (by rfl) (by kernel_rfl) (by kernel_rfl) ?_; intro K hK; go_big_quiet_op; go_big_quiet_on); (refine wpT_see 2 (by rfl) (by kernel_rfl) (by kernel_rfl) ?_; intro K hK; go_big_quiet_op; go_big_quiet_on); (refine wpT_see 3 (by rfl) (by kernel_rfl) (by kernel_rfl) ?_; intro K hK; go_big_quiet_op; go_big_quiet_on); (refine wpT_see 4 (by rfl) (by kernel_rfl) (by kernel_rfl) ?_; intro K hK; go_big_quiet_op; go_big_quiet_on); (refine wpT_see 5 (by rfl) (by kernel_rfl) (by kernel_rfl) ?_; intro K hK; go_big_quiet_op; go_big_quiet_on); (refine wpT_see 6 (by rfl) (by kernel_rfl) (by kernel_rfl) ?_; intro K hK; go_big_quiet_op; go_big_quiet_on)
          (refine wpT_see 8 (by rfl) (by kernel_rfl) (by kernel_rfl) ?_; intro K hK; go_big_quiet_op; go_big_quiet_on); (refine wpT_see 9 (by rfl) (by kernel_rfl) (by kernel_rfl) ?_; intro K hK; go_big_quiet_op; go_big_quiet_on); (refine wpT_see 10 (by rfl) (by kernel_rfl) (by kernel_rfl) ?_; intro K hK; go_big_quiet_op; go_big_quiet_on); (refine wpT_see 11 (by rfl) (by kernel_rfl) (by kernel_rfl) ?_; intro K hK; go_big_quiet_op; go_big_quiet_on); (refine wpT_see 12 (by rfl) (by kernel_rfl) (by kernel_rfl) ?_; intro K hK; go_big_quiet_op; go_big_quiet_on); (refine wpT_see 13 (by rfl) (by kernel_rfl) (by kernel_rfl) ?_; intro K hK; go_big_quiet_op; go_big_quiet_on)
          refine wpT_loud2 7 14 (by rfl) (by rfl) (by kernel_rfl) (by kernel_rfl) (by kernel_rfl) ?_ ?_
          · intro K hK
            go_wp2_with (go_at_call 98; refine (HNM.out _ _).mono ?_; rintro e w6 ⟨⟨s, rfl, hsz⟩, hb6'⟩)
            have hb6 : Below wk.heap.size wk w6 := (Below.refl _ _).drew.trans hb6'
            have hz6 := hb6.size
            have hS6 : S w6 := (HS0.out _).2 (cell_later hb6 n1)
            refine hK _ _ (held_some hS6) ?_
            clear hK K hb6'
            refine wpT_loud 14 (by rfl) (by kernel_rfl) (by kernel_rfl) ?_
            intro K hK
            go_wp2_with fail
            have hb7 : Below wk.heap.size wk (World.alloc w6 (.cells #[.int .i64 (qc : Int), .int .i64 0, .int .i64 (qa : Int), .int .i64 1, .int .i64 (qb : Int), .int .i64 1] 139)) := hb6.alloc (by omega) _
            have hg7 : (World.alloc w6 (.cells #[.int .i64 (qc : Int), .int .i64 0, .int .i64 (qa : Int), .int .i64 1, .int .i64 (qb : Int), .int .i64 1] 139)).heap[w6.heap.size]? = some (.cells #[.int .i64 (qc : Int), .int .i64 0, .int .i64 (qa : Int), .int .i64 1, .int .i64 (qb : Int), .int .i64 1] 139 (0, 0)) := heap_alloc_new _ _
            have hS7 : S (World.alloc w6 (.cells #[.int .i64 (qc : Int), .int .i64 0, .int .i64 (qa : Int), .int .i64 1, .int .i64 (qb : Int), .int .i64 1] 139)) := (HS0.out _).2 (cell_later hb7 n1)
            have hgN : N < w6.heap.size := by omega
            refine hK _ _ (held_some hS7) ?_
            clear hK K hb6 hS6 hS1 n1
            generalize World.alloc w6 (.cells #[.int .i64 (qc : Int), .int .i64 0, .int .i64 (qa : Int), .int .i64 1, .int .i64 (qb : Int), .int .i64 1] 139) = w7 at hb7 hg7 hS7 ⊢
            generalize w6.heap.size = g at hg7 hgN ⊢
            have HX7 : Hid (EndsIn w7 N (some ⟨g, 0, none⟩, 3, ⟨3, s, [⟨(qc : Int), 0⟩, ⟨(qa : Int), 1⟩, ⟨(qb : Int), 1⟩]⟩)) := endsIn_new hgN hg7 rfl (by show 3 ≤ maxLen; decide)
            have HM7 := hidP (HMr.out.below hb7)
            have hz7 := hb7.size
            clear hg7 hb7
            (refine wpT_see 15 (by rfl) (by kernel_rfl) (by kernel_rfl) ?_; intro K hK; go_big_quiet_op; go_big_quiet_on)
            refine wpT_loud 16 (by rfl) (by kernel_rfl) (by kernel_rfl) ?_
            intro K hK
            go_wp2_with fail
            have hS8 : ∀ o, S (World.alloc w7 o) := fun o => (HS0.out _).2 (cell_later ((Below.refl w7.heap.size w7).alloc (Nat.le_refl _) o) ((HS0.out _).1 hS7))
            refine hK _ _ (held_some (hS8 _)) ?_
            clear hK K hS8 hS7
            refine wpT_done (by kernel_rfl) ?_
            simp only [List.drop_succ_cons, List.drop_zero]
            refine wpList_push rfl (.tmp 56) (.tmp 71) 24 rfl (N + 1) 182 _ 3 48 Try.underlying24 Try.infoJoint rfl (by decide) (.slice xj js2.length yj) js2.length (flatJ js2) rfl HM7.out.net.oj w7.heap.size rfl [.int .i64 3, .string s, .slice (some ⟨g, 0, none⟩) 3 3] rfl rfl (by simp [Value.oneCell']) (by unfold maxLen; omega) (by omega) (by omega) ?_
            intro xj8 yj8 w8 ho8 hg8
            obtain ⟨m1, m2⟩ := HM7.out.net.rowJ hg8
            have HM8 : Hid (Mk W (w8.setCell ⟨N, 1, none⟩ (.slice xj8 (js2.length + 1) yj8)) D C N ca cc bs at4 xp yp xj8 yj8 ps (js2 ++ [(some ⟨g, 0, none⟩, 3, ⟨3, s, [⟨(qc : Int), 0⟩, ⟨(qa : Int), 1⟩, ⟨(qb : Int), 1⟩]⟩)])) :=
              HM7.out.pushJ hg8 (by rw [← flatJ_push]; exact ho8) hsz HX7.out
            clear hg8 ho8 HX7 HM7
            go_wp2_with fail
            go_meet
            exact ⟨xj8, yj8, _, by simp, HM8⟩
          · intro K hK
            go_wp2_with fail
            have hb6 : Below wk.heap.size wk (World.alloc wk (.cells #[.int .i64 (qc : Int), .int .i64 0, .int .i64 (qa : Int), .int .i64 1, .int .i64 (qb : Int), .int .i64 1] 139)).drew := ((Below.refl _ _).alloc (Nat.le_refl _) _).drew
            have hg6 : (World.alloc wk (.cells #[.int .i64 (qc : Int), .int .i64 0, .int .i64 (qa : Int), .int .i64 1, .int .i64 (qb : Int), .int .i64 1] 139)).drew.heap[wk.heap.size]? = some (.cells #[.int .i64 (qc : Int), .int .i64 0, .int .i64 (qa : Int), .int .i64 1, .int .i64 (qb : Int), .int .i64 1] 139 (0, 0)) := heap_alloc_new wk _
            have hS6 : S (World.alloc wk (.cells #[.int .i64 (qc : Int), .int .i64 0, .int .i64 (qa : Int), .int .i64 1, .int .i64 (qb : Int), .int .i64 1] 139)).drew := (HS0.out _).2 (cell_later hb6 n1)
            have hgN : N < wk.heap.size := hNr
            have hgz : wk.heap.size < (World.alloc wk (.cells #[.int .i64 (qc : Int), .int .i64 0, .int .i64 (qa : Int), .int .i64 1, .int .i64 (qb : Int), .int .i64 1] 139)).drew.heap.size := by simp
            refine hK _ _ (held_some hS6) ?_
            clear hK K
            generalize (World.alloc wk (.cells #[.int .i64 (qc : Int), .int .i64 0, .int .i64 (qa : Int), .int .i64 1, .int .i64 (qb : Int), .int .i64 1] 139)).drew = w6 at hb6 hg6 hS6 hgz ⊢
            refine wpT_loud 7 (by rfl) (by kernel_rfl) (by kernel_rfl) ?_
            intro K hK
            go_wp2_with (go_at_call 98; refine (HNM.out _ _).mono ?_; rintro e w7 ⟨⟨s, rfl, hsz⟩, hb7'⟩)
            have hb7 : Below wk.heap.size wk w7 := hb6.trans (hb7'.mono hb6.size)
            have hg7 := (hb7'.block _ hgz).trans hg6
            have hS7 : S w7 := (HS0.out _).2 (cell_later hb7 n1)
            refine hK _ _ (held_some hS7) ?_
            clear hK K hb6 hb7' hg6 hS6 hS1 n1
            obtain ⟨g, hgg⟩ : ∃ g, wk.heap.size = g := ⟨_, rfl⟩
            have HZW : Hid (wk.heap.size ≤ g) := by unfold Hid; omega
            rw [hgg] at hg7 hgN ⊢
            clear hgg
            have HX7 : Hid (EndsIn w7 N (some ⟨g, 0, none⟩, 3, ⟨3, s, [⟨(qc : Int), 0⟩, ⟨(qa : Int), 1⟩, ⟨(qb : Int), 1⟩]⟩)) := endsIn_new hgN hg7 rfl (by show 3 ≤ maxLen; decide)
            have HM7 := hidP (HMr.out.below hb7)
            have hz7 := hb7.size
            clear hg7 hb7
            (refine wpT_see 15 (by rfl) (by kernel_rfl) (by kernel_rfl) ?_; intro K hK; go_big_quiet_op; go_big_quiet_on)
            refine wpT_loud 16 (by rfl) (by kernel_rfl) (by kernel_rfl) ?_
            intro K hK
            go_wp2_with fail
            have hS8 : ∀ o, S (World.alloc w7 o) := fun o => (HS0.out _).2 (cell_later ((Below.refl w7.heap.size w7).alloc (Nat.le_refl _) o) ((HS0.out _).1 hS7))
            refine hK _ _ (held_some (hS8 _)) ?_
            clear hK K hS8 hS7
            refine wpT_done (by kernel_rfl) ?_
            simp only [List.drop_succ_cons, List.drop_zero]
            refine wpList_push rfl (.tmp 56) (.tmp 71) 24 rfl (N + 1) 182 _ 3 48 Try.underlying24 Try.infoJoint rfl (by decide) (.slice xj js2.length yj) js2.length (flatJ js2) rfl HM7.out.net.oj w7.heap.size rfl [.int .i64 3, .string s, .slice (some ⟨g, 0, none⟩) 3 3] rfl rfl (by simp [Value.oneCell']) (by unfold maxLen; omega) (by omega) (by omega) ?_
            intro xj8 yj8 w8 ho8 hg8
            obtain ⟨m1, m2⟩ := HM7.out.net.rowJ hg8
            have HM8 : Hid (Mk W (w8.setCell ⟨N, 1, none⟩ (.slice xj8 (js2.length + 1) yj8)) D C N ca cc bs at4 xp yp xj8 yj8 ps (js2 ++ [(some ⟨g, 0, none⟩, 3, ⟨3, s, [⟨(qc : Int), 0⟩, ⟨(qa : Int), 1⟩, ⟨(qb : Int), 1⟩]⟩)])) :=
              HM7.out.pushJ hg8 (by rw [← flatJ_push]; exact ho8) hsz HX7.out
            clear hg8 ho8 HX7 HM7
            go_wp2_with fail
            go_meet
            exact ⟨xj8, yj8, _, by simp, HM8⟩
        case rest =>
          obtain ⟨xj', yj', js', hjl', HMr'⟩ := hcut
          have HIN : Hid (StInv W wc D C N ca cc bs at_ k) := ⟨_, _, _, _, _, _, _, HMr'.out, by omega, by omega, by omega, by omega⟩
          clear HMr' HMr n1 HNM hNr
          have hkk : ((k + 1 : Nat) : Int) = (k : Int) + 1 := by omega
          have hkb : (k : Int) ≤ 3 := by omega
          go_wp2_with fail
          go_roundw
          case rel => exact ⟨k, qc, by go_num, rfl, by omega, HIN⟩
          case measure => simp [intOf]

end Go.Proofs.Ytmkdgnmmebldgaa

namespace Go.Proofs.Ytmkdgnmmebldgaa
open Go.RowKit Go.Deep

/-! Helpers for the drawing of a net. -/

/-- 'append(v, x, ..)' of m new elements onto a row of one's own. -/
theorem wpList_pushN {P : Program} {Wp : World} {ops : Array Oper} {rest : List Oper} {o : Oper} {a : Act} {Q : Exit → Act → World → Prop} (hgd : o.guard = none) (s x : Operand) (t : TypeId)
    (ho : o.op = .call { callee := .builtin .append, args := #[s, x], argTypes := #[t, t] })
    (B : Nat) (e : TypeId) (z : Value) (size bytes : Nat) (ht : P.underlying t = some (.slice e)) (hi : (P.info? e).map (fun i => (i.zero, i.size, i.bytes)) = some (some z, size, bytes)) (hzs : z.cells.size = size) (hsz : 0 < size)
    (v : Value) (n m : Nat) (xs : List Value) (hs : a.eval s = v) (hown : Wp.ownsRow B e size v n xs)
    (g : Nat) (hgs : g = Wp.heap.size) (news : List Value) (hx : a.eval x = .slice (some ⟨g, 0, none⟩) m m) (hl : news.length = m * size) (h1 : ∀ u ∈ news, u.oneCell' = true)
    (h63 : n + m ≤ maxLen) (hbytes : (n + m) * bytes ≤ 140737488355328) (hB : B ≤ Wp.heap.size)
    (h : ∀ x' y' w', w'.ownsRow B e size (.slice x' (n + m) y') (n + m) (xs ++ news) → Wp.grownBy w' v.ownBlock → wpList P ops Q rest (a.put o.dst (.slice x' (n + m) y')) w') : wpList P ops Q (o :: rest) a (Wp.alloc (.cells news.toArray e)) := by
  subst hgs
  obtain ⟨i, hi1, hi2, hi3, hi4⟩ := info_parts hi
  refine wpList_append_own _ hgd s x t ho B e i z size bytes ht hi1 hi2 hi3 hi4 hzs hsz v n xs hs (hown.alloc _) ⟨Wp.heap.size, 0, none⟩ m m news hx hl ?_ h1 h63 hbytes (by simp; omega) ?_
  · intro j u hu
    rw [addr_at, Nat.zero_add]
    have := cell_of_row (Wp.alloc (.cells news.toArray e)) Wp.heap.size j news.toArray e (0, 0) (heap_alloc_new Wp _)
    rw [this]
    simpa using hu
  · intro v' w' ho' hg' _
    obtain ⟨x', y', rfl, _⟩ := owns_shape ho'
    refine h x' y' w' ho' ⟨hg'.os, hg'.tape, hg'.output, Nat.le_trans (by simp) hg'.size, fun k hk hne => ?_⟩
    exact (hg'.block k (by simp; omega) hne).trans (Below.heap_alloc _ _ _ hk)

theorem IsT.set {w : World} {t b : Nat} (h : IsT w t b) (p : Addr) (u : Value) : IsT (w.setCell p u) t b := by
  obtain ⟨cur, h⟩ := h
  by_cases e : b = p.block
  · subst e
    refine ⟨if p.spot.isSome then cur else cur.setIfInBounds p.off u, ?_⟩
    simp [World.setCell, Array.getElem?_modify, h]
  · exact ⟨cur, (Below.heap_setCell _ _ _ _ e).trans h⟩

theorem owns_isT {w : World} {B e s n b : Nat} {v : Value} {xs : List Value} (h : w.ownsRow B e s v n xs) (hb : v.ownBlock = some b) : IsT w e b := by
  rcases h.2 with ⟨rfl, _⟩ | ⟨g, cap, cur, rfl, _, hg, _⟩
  · cases hb
  · cases hb
    exact ⟨cur, hg⟩

/-- A row of whole numbers, which may be written. -/
def RowI (w : World) (g n : Nat) : Prop := ∀ j, j < n → (∃ x : Int, w.cell? ⟨g, j, none⟩ = some (.int .i64 x)) ∧ w.frozen? ⟨g, j, none⟩ = false
theorem RowI.kept {w w' : World} {g n : Nat} (h : RowI w g n) (e : w'.heap[g]? = w.heap[g]?) : RowI w' g n := fun j hj => by
  obtain ⟨⟨x, h1⟩, h2⟩ := h j hj
  exact ⟨⟨x, (World.cell?_of_block (w := w) e).trans h1⟩, (World.frozen?_of_block (w := w) e).trans h2⟩
theorem RowI.set {w : World} {g n : Nat} (h : RowI w g n) (o : Nat) (y : Int) : RowI (w.setCell ⟨g, o, none⟩ (.int .i64 y)) g n := fun j hj => by
  obtain ⟨⟨x, h1⟩, h2⟩ := h j hj
  refine ⟨?_, by rw [World.frozen?_setCell]; exact h2⟩
  by_cases e : j = o
  · subst e
    exact ⟨y, World.cell?_setCell_same _ _ _ h1⟩
  · exact ⟨x, by rw [World.cell?_setCell_other _ _ _ _ (by first | (simp; done) | (simp; omega))]; exact h1⟩
theorem rowI_of {w : World} {B n : Nat} {g y : Nat} {es : List MEnd} (h : w.ownsRow B 139 2 (.slice (some ⟨g, 0, none⟩) n y) n (flatE es)) : RowI w g (2 * n) ∧ IsT w 139 g ∧ B ≤ g ∧ n ≤ y ∧ y ≤ maxLen := by
  rcases h.2 with ⟨h1, _⟩ | ⟨g', cap, cur, h1, h2, h3, h4, h5, h6, h7⟩
  · cases h1
  · cases h1
    refine ⟨fun j hj => ⟨?_, by simp [World.frozen?, h3]⟩, ⟨cur, h3⟩, h2, h4, h5⟩
    have hl : es.length * 2 = n * 2 := by have := h.1; rw [flatE_len] at this; exact this
    have hi : j / 2 < es.length := by omega
    have hc := h.cells (g := g) rfl
    have hr : j % 2 = 0 ∨ j % 2 = 1 := by omega
    rcases hr with hr | hr
    · have := hc (j / 2 * 2 + 0) _ ((flat_get encE 2 (fun _ => rfl) es (j / 2) 0 hi (by omega)).trans rfl)
      rw [addr_at, show 0 + (j / 2 * 2 + 0) = j by omega] at this
      exact ⟨_, this⟩
    · have := hc (j / 2 * 2 + 1) _ ((flat_get encE 2 (fun _ => rfl) es (j / 2) 1 hi (by omega)).trans rfl)
      rw [addr_at, show 0 + (j / 2 * 2 + 1) = j by omega] at this
      exact ⟨_, this⟩

/-- While there is no joint, rows of ends may turn. -/
theorem NetS.keptE {w w' : World} {C N : Nat} {xp xj : Option Addr} {yp yj : Nat} {ps : List MPiece} (h : NetS w C N xp yp xj yj ps []) (hk : ∀ b, N ≤ b → b < w.heap.size → ¬ IsT w 139 b → w'.heap[b]? = w.heap[b]?) (hN : ¬ IsT w 139 N) : NetS w' C N xp yp xj yj ps [] := by
  have hN := hk N (Nat.le_refl _) h.lt hN
  refine ⟨h.cn, (World.cell?_of_block (w := w) hN).trans h.c0, (World.cell?_of_block (w := w) hN).trans h.c1, fun o => (World.frozen?_of_block (w := w) hN).trans (h.z o), owns_kept2 h.op (fun b hb => hk b (by have := (h.op.lt b hb).1; omega) (h.op.lt b hb).2 (fun hT => hT.ne h.op (by decide) hb)), owns_kept2 h.oj (fun b hb => hk b (by have := (h.oj.lt b hb).1; omega) (h.oj.lt b hb).2 (fun hT => hT.ne h.oj (by decide) hb)), fun x hx => (by cases hx), h.pn, h.jn⟩

theorem NetS.rowP {w w' : World} {C N : Nat} {xp xj : Option Addr} {yp yj : Nat} {ps : List MPiece} {js : List MJ} (h : NetS w C N xp yp xj yj ps js) (hg : w.grownBy w' (Value.slice xp ps.length yp).ownBlock) : w'.cell? ⟨N, 0, none⟩ = some (.slice xp ps.length yp) ∧ w'.frozen? ⟨N, 0, none⟩ = false := by
  have hN : w'.heap[N]? = w.heap[N]? := hg.block N h.lt (fun e => by have := (h.op.lt N e.symm).1; omega)
  exact ⟨(World.cell?_of_block (w := w) hN).trans h.c0, (World.frozen?_of_block (w := w) hN).trans (h.z 0)⟩

/-- While the pieces of a net are laid: i of them, and their ends. -/
def Nt1 (W wr : World) (C N : Nat) (ca : Option Addr) (cc : Nat) (bs : List Int) (at_ i : Nat) (ve : Value) : Prop :=
  ∃ xp yp ps at' es, NetS wr C N xp yp none 0 ps [] ∧ Cur wr C ca cc bs at' ∧ ps.length = i ∧ es.length = 2 * i ∧ wr.ownsRow (N + 1) 139 2 ve (2 * i) (flatE es) ∧ at' ≤ at_ + 2 + 8 * i ∧ IsT wr 26 N ∧ Only (fun k => k = C ∨ N ≤ k) W wr

/-- While the ends are mixed: they lie in block g, m of them. -/
def Nt2 (W wr : World) (C N g m : Nat) (ca : Option Addr) (cc : Nat) (bs : List Int) (top j : Nat) : Prop :=
  ∃ xp yp ps at', NetS wr C N xp yp none 0 ps [] ∧ Cur wr C ca cc bs at' ∧ (1 ≤ ps.length ∧ ps.length ≤ 10) ∧ RowI wr g (2 * m) ∧ IsT wr 139 g ∧ at' + 4 * j ≤ top ∧ IsT wr 26 N ∧ Only (fun k => k = C ∨ N ≤ k) W wr

theorem isT_two {w : World} {t t' b : Nat} (h : IsT w t b) (h' : IsT w t' b) : t = t' := by
  obtain ⟨c, h⟩ := h
  obtain ⟨c', h'⟩ := h'
  rw [h] at h'
  simp only [Option.some.injEq, Obj.cells.injEq] at h'
  exact h'.2.1

section
variable {W w w' : World} {C N g m : Nat} {ca : Option Addr} {cc : Nat} {bs : List Int} {top j : Nat}
theorem Nt2.set (h : Hid (Nt2 W w C N g m ca cc bs top j)) (hgN : N < g) (hl : LowB C ca bs) (o : Nat) (x : Int) : Hid (Nt2 W (w.setCell ⟨g, o, none⟩ (.int .i64 x)) C N g m ca cc bs top j) := by
  obtain ⟨xp, yp, ps, at', h1, h2, h3, h4, h5, h6, h7, h8⟩ := h.out
  have hcn := h1.cn
  have hk : ∀ b, b ≠ g → (w.setCell ⟨g, o, none⟩ (.int .i64 x)).heap[b]? = w.heap[b]? := fun b hb => Below.heap_setCell _ _ _ _ hb
  exact ⟨xp, yp, ps, at', h1.keptE (fun b _ _ hb => hk b (fun e => hb (e ▸ h5))) (fun h => absurd (isT_two h h7) (by decide)), h2.above hl (fun k hk' => hk k (by omega)), h3, h4.set o x, h5.set _ _, h6, h7.set _ _, h8.setCell (p := ⟨g, o, none⟩) (Or.inl (Or.inr (Nat.le_of_lt hgN))) _⟩
theorem Nt2.below (h : Nt2 W w C N g m ca cc bs top j) (hb : Below w.heap.size w w') : Nt2 W w' C N g m ca cc bs top j := by
  obtain ⟨xp, yp, ps, at', h1, h2, h3, h4, h5, h6, h7, h8⟩ := h
  exact ⟨xp, yp, ps, at', h1.below hb, h2.below hb, h3, h4.kept (hb.block g h5.lt), h5.kept (hb.block g h5.lt), h6, h7.kept (hb.block N h7.lt), h8.trans (Only.of_below hb)⟩
theorem Nt2.more (h : Hid (Nt2 W w C N g m ca cc bs top j)) (o : Obj) : Hid (Nt2 W (w.alloc o) C N g m ca cc bs top j) := h.out.below ((Below.refl _ _).alloc (Nat.le_refl _) _)
end

def lenOf : Value → Nat | .slice _ n _ => n | _ => 0

/-- While joints are taken from the ends: so many are left. -/
def Nt3 (W wr : World) (C N g m : Nat) (ca : Option Addr) (cc : Nat) (bs : List Int) (top left : Nat) : Prop :=
  ∃ xp yp xj yj ps js at', NetS wr C N xp yp xj yj ps js ∧ Cur wr C ca cc bs at' ∧ (1 ≤ ps.length ∧ ps.length ≤ 10) ∧ RowI wr g (2 * m) ∧ IsT wr 139 g ∧ at' + 2 * left ≤ top ∧ js.length + left ≤ m ∧ Only (fun k => k = C ∨ N ≤ k) W wr

/-- While a joint is laid, in block J. -/
structure InJ (w2 wi : World) (J kd q : Nat) (nm : ByteArray) (xe : Option Addr) (ye : Nat) (es : List MEnd) : Prop where
  c0 : wi.cell? ⟨J, 0, none⟩ = some (.int .i64 kd)
  c1 : wi.cell? ⟨J, 1, none⟩ = some (.string nm)
  c2 : wi.cell? ⟨J, 2, none⟩ = some (.slice xe q ye)
  z : ∀ o, wi.frozen? ⟨J, o, none⟩ = false
  len : es.length = q
  own : wi.ownsRow (J + 1) 139 2 (.slice xe q ye) q (flatE es)
  base : Below J w2 wi
theorem InJ.lt {w2 wi : World} {J kd q : Nat} {nm : ByteArray} {xe : Option Addr} {ye : Nat} {es : List MEnd} (h : InJ w2 wi J kd q nm xe ye es) : J < wi.heap.size := cellLt h.c0
theorem InJ.below {w2 wi wi' : World} {J kd q : Nat} {nm : ByteArray} {xe : Option Addr} {ye : Nat} {es : List MEnd} (h : InJ w2 wi J kd q nm xe ye es) (hb : Below wi.heap.size wi wi') : InJ w2 wi' J kd q nm xe ye es :=
  ⟨cell_later hb h.c0, cell_later hb h.c1, cell_later hb h.c2, fun o => (hb.frozen (p := ⟨J, o, none⟩) h.lt).trans (h.z o), h.len, owns_below h.own hb, h.base.trans (hb.mono (Nat.le_of_lt h.lt))⟩
theorem InJ.push {w2 wi w' : World} {J kd q : Nat} {nm : ByteArray} {xe x' : Option Addr} {ye y' : Nat} {es : List MEnd} (h : InJ w2 wi J kd q nm xe ye es) {e : MEnd} (hg : wi.grownBy w' (Value.slice xe q ye).ownBlock) (ho : w'.ownsRow (J + 1) 139 2 (.slice x' (q + 1) y') (q + 1) (flatE (es ++ [e]))) :
    InJ w2 (w'.setCell ⟨J, 2, none⟩ (.slice x' (q + 1) y')) J kd (q + 1) nm x' y' (es ++ [e]) := by
  have hJ : w'.heap[J]? = wi.heap[J]? := hg.block J h.lt (fun e => by have := (h.own.lt J e.symm).1; omega)
  refine ⟨?_, ?_, World.cell?_setCell_same _ _ _ ((World.cell?_of_block (w := wi) hJ).trans h.c2), fun o => ?_, by simp [h.len], ownsRow_setCell_below ho (Nat.lt_succ_self J) _, ?_⟩
  · rw [World.cell?_setCell_other _ _ _ _ (by simp)]
    exact (World.cell?_of_block (w := wi) hJ).trans h.c0
  · rw [World.cell?_setCell_other _ _ _ _ (by simp)]
    exact (World.cell?_of_block (w := wi) hJ).trans h.c1
  · rw [World.frozen?_setCell]
    exact (World.frozen?_of_block (w := wi) hJ).trans (h.z o)
  · refine (h.base.trans ⟨hg.os, hg.tape, hg.output, hg.size, fun k hk => hg.block k (by have := h.lt; omega) (fun e => by have := (h.own.lt k e.symm).1; omega)⟩).trans ⟨rfl, rfl, rfl, by simp, fun k hk => Below.heap_setCell _ _ _ _ (show k ≠ J by omega)⟩
theorem InJ.name {w2 wi : World} {J kd q : Nat} {nm : ByteArray} {xe : Option Addr} {ye : Nat} {es : List MEnd} (h : InJ w2 wi J kd q nm xe ye es) (nm' : ByteArray) : InJ w2 (wi.setCell ⟨J, 1, none⟩ (.string nm')) J kd q nm' xe ye es := by
  refine ⟨?_, World.cell?_setCell_same _ _ _ h.c1, ?_, fun o => ?_, h.len, ownsRow_setCell_below h.own (Nat.lt_succ_self J) _, h.base.trans ⟨rfl, rfl, rfl, by simp, fun k hk => Below.heap_setCell _ _ _ _ (show k ≠ J by omega)⟩⟩
  · rw [World.cell?_setCell_other _ _ _ _ (by simp)]; exact h.c0
  · rw [World.cell?_setCell_other _ _ _ _ (by simp)]; exact h.c2
  · rw [World.frozen?_setCell]; exact h.z o
/-- The ends of a joint that was laid. -/
theorem InJ.ends {w2 wi : World} {J N kd q : Nat} {nm : ByteArray} {xe : Option Addr} {ye : Nat} {es : List MEnd} (h : InJ w2 wi J kd q nm xe ye es) (hN : N < J) (hq : q ≤ 100) (kk : Int) : EndsIn wi N (xe, ye, ⟨kk, nm, es⟩) := by
  have hl := h.len
  obtain ⟨a, cap, e1, e2, _, _⟩ := ownE (es := es) (by rw [hl]; exact h.own) (by rw [hl]; unfold maxLen; omega)
  injection e1 with e1 _ _
  subst e1
  refine ⟨e2, Or.inr (fun b off e => ?_)⟩
  subst e
  have hT := owns_isT h.own (b := b) rfl
  exact ⟨by have := (h.own.lt b rfl).1; omega, hT⟩

end Go.Proofs.Ytmkdgnmmebldgaa
