import Derived.Test.YtmkdgnmmebldgaaPq42
import Derived.Test.YtmkdgnmmebldgaaPq2
namespace Go.Proofs.Ytmkdgnmmebldgaa
open Go.RowKit Go.Deep Go.Maps
theorem own_nil {w : World} {B e s n : Nat} {x : Option Addr} {y : Nat} {xs : List Value} (h : w.ownsRow B e s (.slice x n y) n xs) (hx : x = none) : n = 0 ∧ y = 0 := by
  rcases h.2 with ⟨h1, h2⟩ | ⟨g, cap, cur, h1, _⟩
  · injection h1 with _ _ h3
    exact ⟨h2, h3⟩
  · injection h1 with h3
    rw [hx] at h3
    cases h3
theorem own_news {w : World} {B e s n : Nat} {x : Option Addr} {y : Nat} {xs : List Value} (h : w.ownsRow B e s (.slice x n y) n xs) : ∀ ad, x = some ad → ∀ j u, xs[j]? = some u → w.cell? (ad.add j) = some u := by
  intro ad hx j u hu
  rcases h.2 with ⟨h1, h2⟩ | ⟨g, cap, cur, h1, _⟩
  · injection h1 with h3
    rw [hx] at h3
    cases h3
  · injection h1 with h3
    rw [hx] at h3
    injection h3 with h3
    rw [h3]
    exact h.cells (by rw [hx, h3]; rfl) j u hu
set_option maxRecDepth 100000 in
set_option maxHeartbeats 8000000 in
theorem flanksOf_any (KT M : Nat) (pa ja sa : Option Addr) (pc jc sc : Nat) (ps : List MPiece) (js : List MJoint) (ss : List MPiece) (lies : List MLie) (R : Hid (Right ps js ss)) (la : Option Addr) (lc : Nat) (w : World) (hT : Hid (TTrack w KT M pa ja sa pc jc sc ps js ss)) (hL : Hid (EndsAt w la lies))
    (hlv : Hid (∀ l ∈ lies, ∃ (j : Nat) (hj : j < js.length), l.piece = j ∧ js[j].kind = 3 ∧ (l.side = 1 ∨ l.side = 2))) (hll : lies.length ≤ 120) :
    Calls Try.prog 126 #[.pointer (some ⟨KT, 0, none⟩), .slice la lies.length lc] w fun e w' => ∃ x y, e = .returned (.slice x (flanksF ps js ss lies lies).length y) ∧ w'.ownsRow w.heap.size 57 4 (.slice x (flanksF ps js ss lies lies).length y) (flanksF ps js ss lies lies).length (flatF (flanksF ps js ss lies lies)) ∧ Below w.heap.size w w' := by
  have hmm := @run_makeMap Try.prog
  have hnp := R.out.np
  go_enter Try.func126, Try.ntmps126
  go_wp2_with fail
  go_loopw [5, 11] (fun v c wr => ∃ (m : Nat) (x : Option Addr) (y : Nat), m ≤ lies.length ∧ c = .int .i64 m ∧ v = .slice x (flanksF ps js ss lies (lies.take m)).length y ∧ Hid (wr.ownsRow w.heap.size 57 4 (.slice x (flanksF ps js ss lies (lies.take m)).length y) (flanksF ps js ss lies (lies.take m)).length (flatF (flanksF ps js ss lies (lies.take m)))) ∧ Hid ((flanksF ps js ss lies (lies.take m)).length ≤ 200 * m) ∧ Below w.heap.size w wr) (fun _ c _ => lies.length - (intOf c).toNat)
  case atStart => exact ⟨0, none, 0, Nat.zero_le _, rfl, rfl, ⟨rfl, Or.inl ⟨rfl, rfl⟩⟩, Nat.zero_le _, Below.refl _ _⟩
  case round =>
    obtain ⟨m, x, y, hm, rfl, rfl, HO, HFL, hb⟩ := hrel
    have hbs := hb.size
    have HB := hidP hb
    by_cases hm' : m < lies.length
    · have hmi : (m : Int) < lies.length := by omega
      obtain ⟨bl, ol, rfl, hpl⟩ := (hL.out.below hb).2.resolve_left (fun h => by rw [h] at hm'; exact absurd hm' (Nat.not_lt_zero _))
      obtain ⟨l0, l1⟩ := hpl m hm'
      have hzl := cellLt l0
      dsimp only at hzl
      obtain ⟨j, hj, hlp, hk3, hls⟩ := hlv.out lies[m] (List.getElem_mem hm')
      have HTW := hidP (hT.out.below hb)
      have hel : js[j].ends.length = 3 := by have := (R.out.kind j hj).2.2; omega
      obtain ⟨t, ht0, ht⟩ : ∃ t : Nat, (t : Int) = 3 - lies[m].side ∧ t < js[j].ends.length := ⟨(3 - lies[m].side).toNat, by omega, by omega⟩
      have HSN : Hid (flanksF ps js ss lies (lies.take (m + 1)) = flanksF ps js ss lies (lies.take m) ++ (lookF js ss lies (j : Int) (depthR ps) ([], []) (endE js j t)).2) := by
        unfold Hid
        rw [List.take_succ_eq_append_getElem hm', flanksF_snoc, hlp, ← ht0]
        simp
      have hve : ValidE ps (endE js j t) := by rw [endE_at hj ht]; exact R.out.ends j hj t ht
      have hgr := look_grew R.out lies (j : Int) (depthR ps) ([], []) (endE js j t) (Seen.nil ps) hve
      have hf1 := hgr.1.few
      have hf2 := hgr.2.2
      simp only [List.length_nil] at hf2
      have HNX : Hid ((lookF js ss lies (j : Int) (depthR ps) ([], []) (endE js j t)).2.length ≤ 200) := by unfold Hid; omega
      have c1 := HTW.out.net.c1
      obtain ⟨bj, oj, hja, hpcj⟩ := HTW.out.net.J.2.2.resolve_left (fun h => by rw [h] at hj; exact absurd hj (Nat.not_lt_zero _))
      rw [hja] at c1
      obtain ⟨_, _, ea, ec, c3, c4⟩ := hpcj j hj
      obtain ⟨be, oe, hea, hpe⟩ := c4.2.resolve_left (fun h => by rw [h] at ht; exact absurd ht (Nat.not_lt_zero _))
      rw [hea] at c3
      obtain ⟨g0, g1⟩ := hpe t ht
      have hee := endE_at hj ht
      rw [← hee] at g0 g1
      rw [hlp] at l0
      have hji : (j : Int) < js.length := by omega
      have hti : (t : Int) < js[j].ends.length := by omega
      have hjl := HTW.out.net.J.1
      unfold maxLen at hjl
      have HOT : Hid (∀ u : World, Calls Try.prog 160 #[.int .i64 lies[m].side] u fun e w' => e = .returned (.int .i64 (t : Int)) ∧ Below u.heap.size u w') := fun u => by
        rw [ht0]
        exact otherLie_any lies[m].side u (by omega) (by omega)
      have hsd0 : 0 ≤ lies[m].side := by omega
      have HVE := hidP hve
      generalize hen : endE js j t = en at HSN hve HNX g0 g1 HVE
      generalize hsd : lies[m].side = sd at HOT l1 hsd0
      generalize hln3 : js[j].ends.length = el at c3 hti
      have hzc := cellLt c1
      have hz3 := cellLt c3
      have hzg := cellLt g0
      dsimp only at hzc hz3 hzg
      have HLE : Hid (EndsAt wr (some ⟨bl, ol, none⟩) lies) := hL.out.below hb
      clear hpl hpcj hpe c4 hgr hf1 hf2 hve hee hlp hls ht0 hk3 hel hen hsd hln3 hja hea
      obtain ⟨F, hF⟩ : ∃ F, flanksF ps js ss lies (lies.take m) = F := ⟨_, rfl⟩
      rw [hF] at HO HFL HSN ⊢
      obtain ⟨G, hG⟩ : ∃ G, lookF js ss lies (j : Int) (depthR ps) ([], []) en = G := ⟨_, rfl⟩
      rw [hG] at HSN HNX
      have HLF : Hid (∀ K V O M2 bs, LBase wr ps KT O M2 (j : Int) (some ⟨bl, ol, none⟩) lies.length lc bs K ([], []) V → Calls Try.prog 159 #[.pointer (some ⟨O, 0, none⟩), .agg #[.int .i64 en.piece, .int .i64 en.side]] V (Looked wr ps KT O M2 (j : Int) (some ⟨bl, ol, none⟩) lies.length lc bs G K V)) := fun K V O M2 bs q => by
        have z := lookFrom_any wr M pa ja sa pc jc sc ps js ss lies R KT O M2 HTW (j : Int) (some ⟨bl, ol, none⟩) lc bs HLE (depthR ps) K ([], []) en V q HVE.out (by unfold depthR; simp)
        rw [hG] at z
        exact z
      clear hF hG
      go_upto_region 6 with fail
      generalize hV : World.alloc (World.alloc (World.alloc wr _) _) _ = V
      have hbV : Below wr.heap.size wr V := by rw [← hV]; exact blo
      have b0 : V.cell? ⟨wr.heap.size, 0, none⟩ = some (.int .i64 (j : Int)) := by rw [← hV]; simp [go_sem]
      have b1 : V.cell? ⟨wr.heap.size, 1, none⟩ = some (.int .i64 sd) := by rw [← hV]; simp [go_sem]
      have hzV : V.heap.size = wr.heap.size + 1 + 1 + 1 := by rw [← hV]; simp
      have HLB : Hid (LBase wr ps KT (wr.heap.size + 1 + 1) (wr.heap.size + 1) (j : Int) (some ⟨bl, ol, none⟩) lies.length lc (wr.heap.size + 1 + 1 + 1) (fun k => k = wr.heap.size + 1 + 1 ∨ k = wr.heap.size + 1) ([], []) V) := by
        refine ⟨hbV, ⟨none, 0, ?_, ⟨rfl, Or.inl ⟨rfl, rfl⟩⟩, fun k => by simp [Value.ownBlock]⟩, ?_, by omega, by omega, Seen.nil ps, Nat.le_refl _⟩
        · rw [← hV]
          have q := row_of_alloc2 ((wr.alloc (Obj.cells #[Value.int .i64 (j : Int), .int .i64 sd] 48)).alloc (Obj.map #[] 0)) (lookC KT (wr.heap.size + 1) (j : Int) (some ⟨bl, ol, none⟩) lies.length lc (.slice none 0 0)) 268
          simpa [lookC] using q
        · rw [← hV]
          have q := (CMap.made 139 (wr.alloc (Obj.cells #[Value.int .i64 (j : Int), .int .i64 sd] 48))).below (show Below _ _ (World.alloc _ (Obj.cells #[Value.pointer (some ⟨KT, 0, none⟩), .slice (some ⟨bl, ol, none⟩) lies.length lc, .int .i64 (j : Int), .map (some (wr.heap.size + 1)), .slice none 0 0] 268)) from (Below.refl _ _).alloc (Nat.le_refl _) _)
          have e : (fun _ : Value => (0 : Int)) = seenF Classical.propDecidable [] := by
            funext v
            unfold seenF
            rw [if_neg (by rintro ⟨x, hx, _⟩; cases hx)]
          rw [e] at q
          simpa using q
      clear hV
      replace c1 := cell_later hbV c1
      replace c3 := cell_later hbV c3
      replace g0 := cell_later hbV g0
      replace g1 := cell_later hbV g1
      have HBV := hidP hbV
      have HZV := hidP hzV
      have hzV2 : wr.heap.size < V.heap.size := by omega
      obtain ⟨S, hS⟩ : ∃ S : World → Prop, ∀ u, S u ↔ Below V.heap.size V u := ⟨_, fun _ => Iff.rfl⟩
      have HS0 := hidP hS
      have r0 : ∀ u : Held S, World.cell? u.val ⟨KT, 1, none⟩ = some (.slice (some ⟨bj, oj, none⟩) js.length jc) := fun u => cell_later ((hS u.val).1 u.2) c1
      have r1 : ∀ u : Held S, World.cell? u.val ⟨wr.heap.size, 0, none⟩ = some (.int .i64 (j : Int)) := fun u => cell_later ((hS u.val).1 u.2) b0
      have r2 : ∀ u : Held S, World.cell? u.val ⟨wr.heap.size, 1, none⟩ = some (.int .i64 sd) := fun u => cell_later ((hS u.val).1 u.2) b1
      have r3 := fun u : Held S => cell_later ((hS u.val).1 u.2) c3
      have r4 := fun u : Held S => cell_later ((hS u.val).1 u.2) g0
      have r5 := fun u : Held S => cell_later ((hS u.val).1 u.2) g1
      have hS1 : S V.drew := (hS _).2 ((Below.refl _ _).drew)
      have hne := held_ne hS1
      clear hS hbV hzV b0 b1 c1 c3 g0 g1 hmm
      refine wp_region_tree (fun w' => ∃ u : Held S, w' = u.val) 15 (by kernel_rfl) (by kernel_rfl) (held_some hS1) ?_
      (refine wpT_see 0 (by rfl) (by kernel_rfl) (by kernel_rfl) ?_; intro K hK; go_big_quiet_op; go_big_quiet_on); (refine wpT_see 1 (by rfl) (by kernel_rfl) (by kernel_rfl) ?_; intro K hK; go_big_quiet_op; go_big_quiet_on); (refine wpT_see 2 (by rfl) (by kernel_rfl) (by kernel_rfl) ?_; intro K hK; go_big_quiet_op; go_big_quiet_on); (refine wpT_see 3 (by rfl) (by kernel_rfl) (by kernel_rfl) ?_; intro K hK; go_big_quiet_op; go_big_quiet_on); (refine wpT_see 4 (by rfl) (by kernel_rfl) (by kernel_rfl) ?_; intro K hK; go_big_quiet_op; go_big_quiet_on); (refine wpT_see 5 (by rfl) (by kernel_rfl) (by kernel_rfl) ?_; intro K hK; go_big_quiet_op; go_big_quiet_on); (refine wpT_see 6 (by rfl) (by kernel_rfl) (by kernel_rfl) ?_; intro K hK; go_big_quiet_op; go_big_quiet_on); (refine wpT_see 7 (by rfl) (by kernel_rfl) (by kernel_rfl) ?_; intro K hK; go_big_quiet_op; go_big_quiet_on); (refine wpT_see 8 (by rfl) (by kernel_rfl) (by kernel_rfl) ?_; intro K hK; go_big_quiet_op; go_big_quiet_on); (refine wpT_see 9 (by rfl) (by kernel_rfl) (by kernel_rfl) ?_; intro K hK; go_big_quiet_op; go_big_quiet_on); (refine wpT_see 10 (by rfl) (by kernel_rfl) (by kernel_rfl) ?_; intro K hK; go_big_quiet_op; go_big_quiet_on); (refine wpT_see 11 (by rfl) (by kernel_rfl) (by kernel_rfl) ?_; intro K hK; go_big_quiet_op; go_big_quiet_on)
      refine wpT_loud 12 (by rfl) (by kernel_rfl) (by kernel_rfl) ?_
      intro KK hK
      go_wp2_with (go_at_call 160; refine (HOT.out _).mono ?_; rintro e u2 ⟨rfl, hb2'⟩)
      have hb2 : Below V.heap.size V u2 := (Below.refl _ _).drew.trans hb2'
      refine hK _ _ (held_some ((HS0.out _).2 hb2)) ?_
      clear hK KK hb2'
      (refine wpT_see 13 (by rfl) (by kernel_rfl) (by kernel_rfl) ?_; intro K hK; go_big_quiet_op; go_big_quiet_on); (refine wpT_see 14 (by rfl) (by kernel_rfl) (by kernel_rfl) ?_; intro K hK; go_big_quiet_op; go_big_quiet_on)
      clear r0 r1 r2 r3 r4 r5 hS1 hne
      have HB2 := hidP hb2
      have HL2 := hidP (HLF.out _ u2 _ _ _ (HLB.out.keep hb2))
      clear hb2
      refine wpT_done (by kernel_rfl) ?_
      go_upto_region 7 with (go_at_call 159; refine HL2.out.mono ?_; rintro e u3 ⟨⟨v3, rfl⟩, ho3, K3, hl3, hg3⟩)
      obtain ⟨x3, y3, q1, q2, _⟩ := hl3.own
      have o4 : u3.cell? ⟨wr.heap.size + 1 + 1, 4, none⟩ = some (.slice x3 G.2.length y3) := q1.cell (i := 4) (by omega)
      have hzo := q1.lt
      have HO3 := hidP (owns_below HO.out hl3.below)
      have HQ2 := hidP q2
      have hb3 := hl3.below
      have HB3 : Hid (Below w.heap.size w u3) := HB.out.trans (hb3.mono HB.out.size)
      have hz3 := HB3.out.size
      have hfl1 := HFL.out
      have hfl2 := HNX.out
      clear hl3 q1 q2 ho3 hg3 hb3
      go_wp2_with (at_builtin; refine wpList_append_list rfl (.tmp 37) (.tmp 39) 40 rfl w.heap.size 57 _ 4 32 Try.underlying40 Try.infoFlank rfl (by decide) (.slice x F.length y) F.length (flatF F) rfl HO3.out x3 G.2.length y3 (flatF G.2) rfl (fun q => (own_nil HQ2.out q).2) (flatF_len G.2) (own_news HQ2.out) (fun q => (own_nil HQ2.out q).1) (flatF_one G.2) (by unfold maxLen; omega) (by omega) (by omega) ?_; intro v6 w6 t1 t2)
      obtain ⟨x6, y6, e6, _⟩ := owns_shape t1
      subst e6
      have hle : (F ++ G.2).length = F.length + G.2.length := by simp
      have hfe : flatF F ++ flatF G.2 = flatF (F ++ G.2) := by simp [flatF]
      rw [hfe, ← hle] at t1
      have hbb := push_below HB3.out HO3.out t2 hz3
      go_roundw
      case rel =>
        refine ⟨m + 1, x6, y6, by omega, by go_num, ?_, ?_, ?_, hbb⟩
        · rw [HSN.out, hle]
        · unfold Hid
          rw [HSN.out]
          exact t1
        · unfold Hid
          rw [HSN.out, hle]
          omega
      case measure => simp [intOf]; omega
    · have hme : m = lies.length := by omega
      have hmi : ¬ (m : Int) < lies.length := by omega
      subst hme
      rw [List.take_length] at HO HFL
      simp only [List.take_length]
      clear hmm
      go_wp2_with fail
      go_ret
      exact ⟨x, y, rfl, HO.out, HB.out⟩
end Go.Proofs.Ytmkdgnmmebldgaa

namespace Go.Proofs.Ytmkdgnmmebldgaa
open Go.RowKit Go.Deep
def kR : Nat → Nat
  | 0 => 2
  | 1 => 2
  | 2 => 1
  | 3 => 3
  | 4 => 3
  | _ => 4
def tR : Nat → Nat
  | 0 => 51
  | 1 => 48
  | 2 => 3
  | 3 => 44
  | 4 => 44
  | _ => 57
structure Tab where
  n : Nat → Nat → Nat
  ad : Nat → Nat → Option Addr
  cp : Nat → Nat → Nat
def offF (t : Tab) (p : Nat) : Nat → Int
  | 0 => 0
  | j + 1 => offF t p j + (t.n p j : Int) * (kR j : Int)
def kkF (t : Tab) (k : Int) : Nat → Int
  | 0 => k
  | p + 1 => kkF t k p + 2 + offF t p 6
structure MSt (G N R : Nat) (t : Tab) (k : Int) (w : World) (m i q : Nat) : Prop where
  row : ∃ f, w.rowIs G 42 N f ∧ (∀ p j, p < R → j < 6 → f (p * 8 + 2 + j) = .slice (t.ad p j) (t.n p j) (t.cp p j)) ∧ (∀ p, p < m → f (p * 8) = .int .i64 (kkF t k p) ∧ f (p * 8 + 1) = .int .i64 (kkF t k p + 1))
  own : ∀ p j, p < R → j < 6 → OwnA w (tR j) (kR j) (t.ad p j) (t.n p j)
  mark : ∀ p j, p < R → j < 6 → (p < i ∨ p = i ∧ j < q) → MarkA w (kR j) (t.ad p j) (t.n p j) (kkF t k p + 2 + offF t p j)
def ApartT (G R : Nat) (t : Tab) : Prop := ∀ p j, p < R → j < 6 → ∀ b, BlkOf (t.ad p j) (t.n p j) b → b ≠ G ∧ ∀ p' j', p' < R → j' < 6 → BlkOf (t.ad p' j') (t.n p' j') b → p' = p ∧ j' = j
section
variable {G N R : Nat} {t : Tab} {k : Int} {w w' : World} {m i q : Nat}
theorem MSt.lt (h : MSt G N R t k w m i q) : G < w.heap.size := by
  obtain ⟨f, hf, _⟩ := h.row
  exact hf.lt
theorem MSt.step (hA : ApartT G R t) (h : MSt G N R t k w m i q) (hi : i < R) (hq : q < 6) (x : Int) (hx : x = kkF t k i + 2 + offF t i q) (hm : MarkA w' (kR q) (t.ad i q) (t.n i q) x)
    (ho : OwnA w' (tR q) (kR q) (t.ad i q) (t.n i q)) (hO : Only (BlkOf (t.ad i q) (t.n i q)) w w') : MSt G N R t k w' m i (q + 1) := by
  have hG : ¬ BlkOf (t.ad i q) (t.n i q) G := fun e => (hA i q hi hq G e).1 rfl
  have hother : ∀ p j, p < R → j < 6 → ¬ (p = i ∧ j = q) → ∀ b, BlkOf (t.ad p j) (t.n p j) b → w'.heap[b]? = w.heap[b]? := by
    intro p j hp hj hne b hb
    refine hO.block b ((h.own p j hp hj).lt hb) (fun e => hne ?_)
    have := (hA i q hi hq b e).2 p j hp hj hb
    exact this
  refine ⟨?_, ?_, ?_⟩
  · obtain ⟨f, hf, h1, h2⟩ := h.row
    exact ⟨f, hf.of_block (hO.block G hf.lt hG), h1, h2⟩
  · intro p j hp hj
    by_cases e : p = i ∧ j = q
    · obtain ⟨rfl, rfl⟩ := e
      exact ho
    · exact (h.own p j hp hj).kept (hother p j hp hj e)
  · intro p j hp hj hd
    by_cases e : p = i ∧ j = q
    · obtain ⟨rfl, rfl⟩ := e
      rw [← hx]; exact hm
    · exact (h.mark p j hp hj (by omega)).kept (hother p j hp hj e)
theorem MSt.next (h : MSt G N R t k w m i 6) : MSt G N R t k w m (i + 1) 0 :=
  ⟨h.row, h.own, fun p j hp hj hd => h.mark p j hp hj (by omega)⟩
theorem MSt.cell (h : MSt G N R t k w m i q) (hN : R * 8 ≤ N) {p : Nat} (hp : p < R) (j : Nat) (hj : j < 6) : w.cell? ⟨G, p * 8 + 2 + j, none⟩ = some (.slice (t.ad p j) (t.n p j) (t.cp p j)) := by
  obtain ⟨f, hf, h1, _⟩ := h.row
  rw [hf.cell (by omega), h1 p j hp hj]
end
theorem MSt.below {G N R : Nat} {t : Tab} {k : Int} {w w' : World} {m i q : Nat} (h : MSt G N R t k w m i q) (hb : Below w.heap.size w w') : MSt G N R t k w' m i q := by
  refine ⟨?_, fun p j hp hj => (h.own p j hp hj).kept (fun b hb' => hb.block b ((h.own p j hp hj).lt hb')), fun p j hp hj hd => (h.mark p j hp hj hd).kept (fun b hb' => hb.block b ((h.own p j hp hj).lt hb'))⟩
  obtain ⟨f, hf, h1, h2⟩ := h.row
  exact ⟨f, hf.of_block (hb.block G hf.lt), h1, h2⟩
end Go.Proofs.Ytmkdgnmmebldgaa

namespace Go.Proofs.Ytmkdgnmmebldgaa
open Go.RowKit Go.Deep Go.Maps
set_option maxHeartbeats 1000000 in
theorem overOf_neg (KT : Nat) (over : Int) (w : World) :
    Calls Try.prog 125 #[.pointer (some ⟨KT, 0, none⟩), .int .i64 (-1), .int .i64 over] w fun e w' => e = .returned (.slice none 0 0) ∧ Below w.heap.size w w' := by
  go_enter Try.func125, Try.ntmps125
  go_wp2_with fail
  go_ret
  exact ⟨rfl, blo⟩
theorem overOf_all (KT M : Nat) (pa ja sa : Option Addr) (pc jc sc : Nat) (ps : List MPiece) (js : List MJoint) (ss : List MPiece) (R : Hid (Right ps js ss)) (stop : Int) (hst : stop = -1 ∨ ∃ i : Nat, i < ss.length ∧ stop = i) (over : Int) (h0 : 0 ≤ over) (h1 : over ≤ 100000) (w : World) (hT : Hid (TTrack w KT M pa ja sa pc jc sc ps js ss)) :
    Calls Try.prog 125 #[.pointer (some ⟨KT, 0, none⟩), .int .i64 stop, .int .i64 over] w fun e w' => ∃ x y, e = .returned (.slice x (overF ps js ss stop over).length y) ∧ w'.ownsRow w.heap.size 44 3 (.slice x (overF ps js ss stop over).length y) (overF ps js ss stop over).length (flatP (overF ps js ss stop over)) ∧ Below w.heap.size w w' := by
  rcases hst with rfl | ⟨i, hi, rfl⟩
  · have e : overF ps js ss (-1) over = [] := by unfold overF; rw [if_pos (by omega)]
    rw [e]
    refine (overOf_neg KT over w).mono ?_
    rintro r w' ⟨rfl, hb⟩
    exact ⟨none, 0, rfl, ⟨rfl, Or.inl ⟨rfl, rfl⟩⟩, hb⟩
  · exact overOf_any KT M pa ja sa pc jc sc ps js ss R i hi over h0 h1 w hT
def adR (d : RAddr) : Nat → Option Addr
  | 0 => d.a0
  | 1 => d.a1
  | 2 => d.a2
  | 3 => d.a3
  | 4 => d.a4
  | _ => d.a5
def AdB (a : Option Addr) (b : Nat) : Prop := ∃ o s, a = some ⟨b, o, s⟩
structure RClaims (B : Nat) (w : World) (d : RAddr) (r : MRoute) : Prop where
  steps : w.ownsRow B 51 2 (.slice d.a0 r.steps.length d.c0) r.steps.length (flatE r.steps)
  lies : w.ownsRow B 48 2 (.slice d.a1 r.lies.length d.c1) r.lies.length (flatE r.lies)
  crosses : w.ownsRow B 3 1 (.slice d.a2 r.crosses.length d.c2) r.crosses.length (flatN r.crosses)
  parts : w.ownsRow B 44 3 (.slice d.a3 r.parts.length d.c3) r.parts.length (flatP r.parts)
  over : w.ownsRow B 44 3 (.slice d.a4 r.over.length d.c4) r.over.length (flatP r.over)
  flanks : w.ownsRow B 57 4 (.slice d.a5 r.flanks.length d.c5) r.flanks.length (flatF r.flanks)
  dis : ∀ i j, i < 6 → j < 6 → ∀ b, AdB (adR d i) b → AdB (adR d j) b → i = j
theorem owns_mono {w : World} {B B' e s n : Nat} {v : Value} {xs : List Value} (h : w.ownsRow B e s v n xs) (hB : B' ≤ B) : w.ownsRow B' e s v n xs :=
  ⟨h.1, h.2.imp id fun ⟨g, cap, cur, q1, q2, q3⟩ => ⟨g, cap, cur, q1, Nat.le_trans hB q2, q3⟩⟩
theorem owns_blk {w : World} {B e s n : Nat} {x : Option Addr} {y : Nat} {xs : List Value} (h : w.ownsRow B e s (.slice x n y) n xs) : ∀ b, AdB x b → B ≤ b ∧ b < w.heap.size := by
  rintro b ⟨o, sb, hx⟩
  refine h.lt b ?_
  rw [hx]
  rfl
theorem RClaims.blk {B : Nat} {w : World} {d : RAddr} {r : MRoute} (h : RClaims B w d r) : ∀ j, j < 6 → ∀ b, AdB (adR d j) b → B ≤ b ∧ b < w.heap.size := by
  intro j hj b hb
  match j, hj with
  | 0, _ => exact owns_blk h.steps b hb
  | 1, _ => exact owns_blk h.lies b hb
  | 2, _ => exact owns_blk h.crosses b hb
  | 3, _ => exact owns_blk h.parts b hb
  | 4, _ => exact owns_blk h.over b hb
  | 5, _ => exact owns_blk h.flanks b hb
theorem claims_of {w0 w1 w2 w3 w4 w5 w6 w : World} {d : RAddr} {r : MRoute}
    (h0 : w1.ownsRow w0.heap.size 51 2 (.slice d.a0 r.steps.length d.c0) r.steps.length (flatE r.steps)) (b1 : Below w1.heap.size w1 w2)
    (h1 : w2.ownsRow w1.heap.size 48 2 (.slice d.a1 r.lies.length d.c1) r.lies.length (flatE r.lies)) (b2 : Below w2.heap.size w2 w3)
    (h2 : w3.ownsRow w2.heap.size 3 1 (.slice d.a2 r.crosses.length d.c2) r.crosses.length (flatN r.crosses)) (b3 : Below w3.heap.size w3 w4)
    (h3 : w4.ownsRow w3.heap.size 44 3 (.slice d.a3 r.parts.length d.c3) r.parts.length (flatP r.parts)) (b4 : Below w4.heap.size w4 w5)
    (h4 : w5.ownsRow w4.heap.size 44 3 (.slice d.a4 r.over.length d.c4) r.over.length (flatP r.over)) (b5 : Below w5.heap.size w5 w6)
    (h5 : w6.ownsRow w5.heap.size 57 4 (.slice d.a5 r.flanks.length d.c5) r.flanks.length (flatF r.flanks)) (b6 : Below w6.heap.size w6 w) (hw : w0.heap.size ≤ w1.heap.size) : RClaims w0.heap.size w d r := by
  have z1 := b1.size
  have z2 := b2.size
  have z3 := b3.size
  have z4 := b4.size
  have z5 := b5.size
  have z6 := b6.size
  have c5 := b6
  have c4 := b5.trans (b6.mono z5)
  have c3 := b4.trans (c4.mono z4)
  have c2 := b3.trans (c3.mono z3)
  have c1 := b2.trans (c2.mono z2)
  have c0 := b1.trans (c1.mono z1)
  refine ⟨owns_below h0 c0, owns_mono (owns_below h1 c1) hw, owns_mono (owns_below h2 c2) (by omega), owns_mono (owns_below h3 c3) (by omega), owns_mono (owns_below h4 c4) (by omega), owns_mono (owns_below h5 c5) (by omega), ?_⟩
  have k : ∀ j, j < 6 → ∀ b, AdB (adR d j) b → (j = 0 ∧ b < w1.heap.size) ∨ (j = 1 ∧ w1.heap.size ≤ b ∧ b < w2.heap.size) ∨ (j = 2 ∧ w2.heap.size ≤ b ∧ b < w3.heap.size) ∨ (j = 3 ∧ w3.heap.size ≤ b ∧ b < w4.heap.size) ∨ (j = 4 ∧ w4.heap.size ≤ b ∧ b < w5.heap.size) ∨ (j = 5 ∧ w5.heap.size ≤ b) := by
    intro j hj b hb
    match j, hj with
    | 0, _ => have := owns_blk h0 b hb; omega
    | 1, _ => have := owns_blk h1 b hb; omega
    | 2, _ => have := owns_blk h2 b hb; omega
    | 3, _ => have := owns_blk h3 b hb; omega
    | 4, _ => have := owns_blk h4 b hb; omega
    | 5, _ => have := owns_blk h5 b hb; omega
  intro i j hi hj b hbi hbj
  have q1 := k i hi b hbi
  have q2 := k j hj b hbj
  omega
end Go.Proofs.Ytmkdgnmmebldgaa
