import Derived.Test.YtmkdgnmmebldgaaPn23
import Derived.Deep.DeepCutAuto
namespace Go.Proofs.Ytmkdgnmmebldgaa
open Go.RowKit Go.Deep
set_option maxRecDepth 20000 in
set_option maxHeartbeats 8000000 in
theorem net_any (C : Nat) (ca : Option Addr) (cc : Nat) (bs : List Int) (at_ : Nat) (w : World) (hc : Hid (Cur w C ca cc bs at_)) (hlow : Hid (LowB C ca bs)) (ha : at_ ≤ 700000000) :
    Calls Try.prog 97 #[.pointer (some ⟨C, 0, none⟩)] w (NetOut C ca cc bs at_ 400 w) := by
  have hCz := hc.out.lt
  go_enter Try.func97, Try.ntmps97
  go_wp2_with fail
  generalize hW : World.alloc (World.alloc w _) _ = W
  have hbW : Below w.heap.size w W := by rw [← hW]; exact blo
  have HN0 : Hid (NetS W C (w.heap.size + 1) none 0 none 0 [] []) := by
    rw [← hW]
    exact ⟨by omega, by simp [go_sem], by simp [go_sem], fun o => by simp [go_sem], World.ownsRow_nil _ _ _ _, World.ownsRow_nil _ _ _ _, fun x hx => (by cases hx), fun x hx => (by cases hx), fun x hx => (by cases hx)⟩
  have R0 : W.cell? ⟨w.heap.size, 0, none⟩ = some (.slice none 0 0) := by rw [← hW]; simp [go_sem]
  have R1 : W.cell? ⟨w.heap.size, 1, none⟩ = some (.slice none 0 0) := by rw [← hW]; simp [go_sem]
  have HRZ : Hid (∀ o, W.frozen? ⟨w.heap.size, o, none⟩ = false) := fun o => by rw [← hW]; simp [go_sem]
  have HNT : Hid (IsT W 26 (w.heap.size + 1)) := by
    rw [← hW]
    have := heap_alloc_new (World.alloc w (.cells #[.slice none 0 0, .slice none 0 0] 26)) (.cells #[.slice none 0 0, .slice none 0 0] 26)
    have e : (World.alloc w (.cells #[.slice none 0 0, .slice none 0 0] 26)).heap.size = w.heap.size + 1 := by simp
    rw [e] at this
    exact ⟨_, this⟩
  have hzW : w.heap.size + 1 < W.heap.size := by rw [← hW]; simp
  have HBW := hidP hbW
  have hwz := hbW.size
  clear hW hbW
  obtain ⟨N, hN⟩ : ∃ N, w.heap.size + 1 = N := ⟨_, rfl⟩
  obtain ⟨R, hR⟩ : ∃ R, w.heap.size = R := ⟨_, rfl⟩
  rw [hN] at HN0 hzW HNT ⊢
  rw [hR] at R0 R1 HRZ ⊢
  have hRN : R < N := by omega
  have hRC : C < R := by omega
  have HRw : Hid (w.heap.size ≤ R) := by unfold Hid; omega
  clear hN hR
  refine (pick_any C ca cc bs at_ 9 W (hc.out.below HBW.out) (by omega) (by omega)).mono ?_
  rintro e w1 ⟨x, at1, hx, rfl, hat1, hc1, ho1⟩
  have hx9 : x < 9 := by omega
  clear hx
  have HI0 : Hid (Nt1 W w1 C N ca cc bs at_ 0 (.slice none 0 0)) := ⟨none, 0, [], at1, [], HN0.out.only ho1, hc1, rfl, rfl, World.ownsRow_nil _ _ _ _, by omega, HNT.out.kept (ho1.block N hzW (by omega)), ho1.mono (fun k hk => Or.inl hk)⟩
  clear hc1 ho1 HN0 HNT
  go_wp2_with fail
  have hkx : Hid ((1 : Int) + x = ((1 + x : Nat) : Int)) := by unfold Hid; omega
  go_loopw [4, 5] (fun ve ii wr => ∃ (i : Nat) (xe : Option Addr) (ye : Nat), ve = .slice xe (2 * i) ye ∧ ii = .int .i64 i ∧ i ≤ 1 + x ∧ Hid (Nt1 W wr C N ca cc bs at_ i ve)) (fun _ ii _ => 1 + x - (intOf ii).toNat)
  case atStart => exact ⟨0, none, 0, rfl, rfl, by omega, HI0⟩
  case round =>
    clear HI0
    obtain ⟨i, xe, ye, rfl, rfl, hik, HI⟩ := hrel
    obtain ⟨xp, yp, ps, at0, es, hnet, hcur, hpl, hel, hown, hat0, hNT, hbase⟩ := HI.out
    have HN := hidP hnet
    have HC := hidP hcur
    have HE := hidP hown
    have HNT := hidP hNT
    have HB := hidP hbase
    have hBz := hbase.size
    clear HI hnet hcur hown hNT hbase
    by_cases hi : i < 1 + x
    · have hii : (i : Int) < 1 + x := by omega
      have n0 := HN.out.c0
      have hNz := HN.out.lt
      have hcn := HN.out.cn
      rw [hpl] at n0
      go_upto_region 6 with fail
      go_cut [] (fun wx => ∃ xp' yp' ps' at', at' ≤ at0 + 8 ∧ ps'.length = i + 1 ∧ Hid (NetS wx C N xp' yp' none 0 ps' []) ∧ Hid (Cur wx C ca cc bs at') ∧ Hid (wx.ownsRow (N + 1) 139 2 (.slice xe (2 * i) ye) (2 * i) (flatE es)) ∧ Hid (IsT wx 26 N) ∧ Hid (Only (fun k => k = C ∨ N ≤ k) W wx))
      case first =>
        obtain ⟨S, hS⟩ : ∃ S : World → Prop, ∀ u, S u ↔ u.cell? ⟨N, 0, none⟩ = some (.slice xp i yp) := ⟨_, fun _ => Iff.rfl⟩
        have HS0 := hidP hS
        have r0 : ∀ u : Held S, World.cell? u.val ⟨N, 0, none⟩ = some (.slice xp i yp) := fun u => (hS u.val).1 u.2
        have hS1 : S wr.drew := (hS _).2 n0
        have hne := held_ne hS1
        clear hS
        refine wp_region_tree (fun w' => ∃ u : Held S, w' = u.val) 16 (by kernel_rfl) (by kernel_rfl) (held_some hS1) ?_
        (refine wpT_see 0 (by rfl) (by kernel_rfl) (by kernel_rfl) ?_; intro K hK; go_big_quiet_op; go_big_quiet_on); (refine wpT_see 1 (by rfl) (by kernel_rfl) (by kernel_rfl) ?_; intro K hK; go_big_quiet_op; go_big_quiet_on); (refine wpT_see 2 (by rfl) (by kernel_rfl) (by kernel_rfl) ?_; intro K hK; go_big_quiet_op; go_big_quiet_on); (refine wpT_see 3 (by rfl) (by kernel_rfl) (by kernel_rfl) ?_; intro K hK; go_big_quiet_op; go_big_quiet_on)
        (refine wpT_see 5 (by rfl) (by kernel_rfl) (by kernel_rfl) ?_; intro K hK; go_big_quiet_op; go_big_quiet_on)
        (refine wpT_see 8 (by rfl) (by kernel_rfl) (by kernel_rfl) ?_; intro K hK; go_big_quiet_op; go_big_quiet_on)
        (refine wpT_see 11 (by rfl) (by kernel_rfl) (by kernel_rfl) ?_; intro K hK; go_big_quiet_op; go_big_quiet_on)
        refine wpT_loud 4 (by rfl) (by kernel_rfl) (by kernel_rfl) ?_
        intro K hK
        go_wp2_with (go_at_call 98; refine (name_any _ i _ (by omega)).mono ?_; rintro e w2 ⟨⟨s, rfl, hsz⟩, hb2'⟩)
        have hb2 : Below wr.heap.size wr w2 := (Below.refl _ _).drew.trans hb2'
        have hS2 : S w2 := (HS0.out _).2 (cell_later hb2 n0)
        have HC2 := hidP (HC.out.below hb2)
        have HO2 : Hid (Only (fun k => k = C) wr w2) := Only.of_below hb2
        clear hb2' hb2
        refine hK _ _ (held_some hS2) ?_
        clear hK K
        refine wpT_loud 6 (by rfl) (by kernel_rfl) (by kernel_rfl) ?_
        intro K hK
        go_wp2_with (go_at_call 40; refine (wide_any C ca cc bs at0 300 w2 HC2 (by omega) (by omega)).mono ?_; rintro e w3 ⟨y1, at2, hy1, rfl, hat2, hc3, ho3⟩)
        have HO3 := hidP (HO2.out.trans ho3)
        have HC3 := hidP hc3
        have hS3 : S w3 := (HS0.out _).2 (HO3.out.cell n0 (by show ¬ N = C; omega))
        clear hc3 ho3
        refine hK _ _ (held_some hS3) ?_
        clear hK K
        (refine wpT_see 7 (by rfl) (by kernel_rfl) (by kernel_rfl) ?_; intro K hK; go_big_quiet_op; go_big_quiet_on)
        refine wpT_loud 9 (by rfl) (by kernel_rfl) (by kernel_rfl) ?_
        intro K hK
        go_wp2_with (go_at_call 41; refine (pick_any C ca cc bs at2 200 w3 HC3 (by omega) (by omega)).mono ?_; rintro e w4 ⟨y2, at3, hy2, rfl, hat3, hc4, ho4⟩)
        have HO4 := hidP (HO3.out.trans ho4)
        have HC4 := hidP hc4
        have hS4 : S w4 := (HS0.out _).2 (HO4.out.cell n0 (by show ¬ N = C; omega))
        have hy2' : y2 < 200 := by omega
        clear hc4 ho4 hy2
        refine hK _ _ (held_some hS4) ?_
        clear hK K
        (refine wpT_see 10 (by rfl) (by kernel_rfl) (by kernel_rfl) ?_; intro K hK; go_big_quiet_op; go_big_quiet_on)
        refine wpT_loud 12 (by rfl) (by kernel_rfl) (by kernel_rfl) ?_
        intro K hK
        go_wp2_with (go_at_call 41; refine (pick_any C ca cc bs at3 90 w4 HC4 (by omega) (by omega)).mono ?_; rintro e w5 ⟨y3, at4, hy3, rfl, hat4, hc5, ho5⟩)
        have HO5 := hidP (HO4.out.trans ho5)
        have HC5 := hidP hc5
        have hS5 : S w5 := (HS0.out _).2 (HO5.out.cell n0 (by show ¬ N = C; omega))
        have hy3' : y3 < 90 := by omega
        clear hc5 ho5 hy3
        refine hK _ _ (held_some hS5) ?_
        clear hK K
        (refine wpT_see 13 (by rfl) (by kernel_rfl) (by kernel_rfl) ?_; intro K hK; go_big_quiet_op; go_big_quiet_on); (refine wpT_see 14 (by rfl) (by kernel_rfl) (by kernel_rfl) ?_; intro K hK; go_big_quiet_op; go_big_quiet_on)
        refine wpT_loud 15 (by rfl) (by kernel_rfl) (by kernel_rfl) ?_
        intro K hK
        go_wp2_with fail
        have hS6 : ∀ o, S (World.alloc w5 o) := fun o => (HS0.out _).2 (cell_later ((Below.refl w5.heap.size w5).alloc (Nat.le_refl _) o) ((HS0.out _).1 hS5))
        refine hK _ _ (held_some (hS6 _)) ?_
        clear hK K hS6 r0 hne
        refine wpT_done (by kernel_rfl) ?_
        simp only [List.drop_succ_cons, List.drop_zero]
        have HN5 := hidP (HN.out.only HO5.out)
        have hz5 := HO5.out.size
        have hNl := HN5.out.lt
        have hop := HN5.out.op
        rw [hpl] at hop
        refine wpList_push rfl (.tmp 23) (.tmp 37) 23 rfl (N + 1) 55 _ 4 40 Try.underlying23 Try.infoPiece rfl (by decide) (.slice xp i yp) i (flatPc ps) rfl hop w5.heap.size rfl [.string s, .int .i64 (1 + (y1 : Int)), .int .i64 (1 + (y2 : Int)), .int .i64 (1 + (y3 : Int))] rfl rfl (by simp [Value.oneCell']) (by unfold maxLen; omega) (by omega) (by omega) ?_
        intro xp6 yp6 w6 ho6 hg6
        rw [flatPc_push _ ⟨s, 1 + (y1 : Int), 1 + (y2 : Int), 1 + (y3 : Int)⟩] at ho6
        rw [← hpl] at hg6 ho6
        obtain ⟨m1, m2⟩ := HN5.out.rowP hg6
        have HN6 := hidP (HN5.out.pushP hg6 ho6 ⟨hsz, by show (1 : Int) ≤ 1 + y1; omega, by show (1 : Int) + y1 ≤ 400; omega⟩)
        have hrow : ∀ k, k ≤ N → (Value.slice xp ps.length yp).ownBlock ≠ some k := fun k hk e => by have := (HN5.out.op.lt k e).1; omega
        have hlowk : ∀ k, k < N → (w6.setCell ⟨N, 0, none⟩ (.slice xp6 (ps.length + 1) yp6)).heap[k]? = w5.heap[k]? := fun k hk => (Below.heap_setCell _ _ _ _ (show k ≠ N by omega)).trans (hg6.block k (by omega) (fun e => hrow k (by omega) e.symm))
        have HC6 : Hid (Cur (w6.setCell ⟨N, 0, none⟩ (.slice xp6 (ps.length + 1) yp6)) C ca cc bs at4) := HC5.out.above hlow.out (fun k hk => hlowk k (by omega))
        have HE6 : Hid ((w6.setCell ⟨N, 0, none⟩ (.slice xp6 (ps.length + 1) yp6)).ownsRow (N + 1) 139 2 (.slice xe (2 * i) ye) (2 * i) (flatE es)) := by
          have h5 := owns_kept2 HE.out (fun b hb => HO5.out.block b (HE.out.lt b hb).2 (by have := (HE.out.lt b hb).1; omega))
          refine ownsRow_setCell_below (owns_kept2 h5 (fun b hb => hg6.block b (h5.lt b hb).2 (fun e => ?_))) (Nat.lt_succ_self N) _
          rcases owns_ne (e := 139) (e' := 55) (by decide) h5 HN5.out.op with h1 | h1
          · rw [h1] at hb; cases hb
          · exact h1 (hb.trans e)
        have HT6 : Hid (IsT (w6.setCell ⟨N, 0, none⟩ (.slice xp6 (ps.length + 1) yp6)) 26 N) := (((HNT.out.kept (HO5.out.block N hNz (by omega))).kept (hg6.block N hNl (fun e => hrow N (Nat.le_refl _) e.symm))).set _ _)
        have HB6 : Hid (Only (fun k => k = C ∨ N ≤ k) W (w6.setCell ⟨N, 0, none⟩ (.slice xp6 (ps.length + 1) yp6))) := (HB.out.trans (HO5.out.mono (fun k hk => Or.inl hk))).trans ⟨hg6.os, hg6.tape, hg6.output, (by have := hg6.size; simpa using this), fun k _ hn => hlowk k (Nat.lt_of_not_le (fun h => hn (Or.inr h)))⟩
        rw [hpl] at m1 HN6 HC6 HE6 HT6 HB6
        clear hg6 ho6 hrow hlowk
        go_wp2_with fail
        go_meet
        exact ⟨xp6, yp6, _, at4, by omega, by simp [hpl], HN6, HC6, HE6, HT6, HB6⟩
      case rest =>
        obtain ⟨xp', yp', ps', at', hat', hpl', HN', HC', HE', HT', HB'⟩ := hcut
        clear HN HC HE HNT HB n0 hNz
        have hNz := HN'.out.lt
        go_wp2_with (at_builtin; refine wpList_pushN rfl (.tmp 40) (.tmp 45) 101 rfl (N + 1) 139 _ 2 16 Try.underlying101 Try.infoEnd rfl (by decide) (.slice xe (2 * i) ye) (2 * i) 2 (flatE es) rfl HE'.out wc.heap.size rfl [.int .i64 i, .int .i64 0, .int .i64 i, .int .i64 1] rfl rfl (by simp [Value.oneCell']) (by unfold maxLen; omega) (by omega) (by omega) ?_; intro xe7 ye7 w7 ho7 hg7)
        have hT : ∀ b, ¬ IsT wc 139 b → b < wc.heap.size → w7.heap[b]? = wc.heap[b]? := fun b hb hz => hg7.block b hz (fun e => hb (owns_isT HE'.out e.symm))
        have hNE : ¬ IsT wc 139 N := fun h => absurd (isT_two h HT'.out) (by decide)
        have hrow : ∀ k, k ≤ N → (Value.slice xe (2 * i) ye).ownBlock ≠ some k := fun k hk e => by have := (HE'.out.lt k e).1; omega
        have HIN : Hid (Nt1 W w7 C N ca cc bs at_ (i + 1) (.slice xe7 (2 * (i + 1)) ye7)) := by
          refine ⟨xp', yp', ps', at', es ++ [⟨i, 0⟩, ⟨i, 1⟩], HN'.out.keptE (fun b _ hz hb => hT b hb hz) hNE, HC'.out.above hlow.out (fun k hk => hg7.block k (by omega) (fun e => hrow k (by omega) e.symm)), hpl', by simp [hel]; omega, ?_, by omega, HT'.out.kept (hT N hNE hNz), HB'.out.trans ⟨hg7.os, hg7.tape, hg7.output, hg7.size, fun k hk hn => hg7.block k hk (fun e => ?_)⟩⟩
          · have e1 : flatE (es ++ [⟨(i : Int), 0⟩, ⟨(i : Int), 1⟩]) = flatE es ++ [.int .i64 i, .int .i64 0, .int .i64 i, .int .i64 1] := by simp [flatE, encE]
            rw [e1, show 2 * (i + 1) = 2 * i + 2 by omega]
            exact ho7
          · have := (HE'.out.lt k e.symm).1
            exact hn (Or.inr (by omega))
        clear hg7 ho7 hT hNE hrow HN' HC' HE' HT' HB'
        have he2 : (Value.slice xe7 (2 * i + 2) ye7) = .slice xe7 (2 * (i + 1)) ye7 := rfl
        go_wp2_with fail
        go_roundw
        case rel => exact ⟨i + 1, xe7, ye7, he2, by go_num, by omega, HIN⟩
        case measure => simp [intOf]; omega
    · have hi1 : 1 ≤ i ∧ i ≤ 9 := by omega
      have hin : ¬ (i : Int) < 1 + x := by omega
      obtain ⟨g, hxe⟩ : ∃ g, xe = some ⟨g, 0, none⟩ := by
        rcases HE.out.2 with ⟨_, h2⟩ | ⟨g, cap, cur, h1, _⟩
        · omega
        · injection h1 with h1 _ _
          exact ⟨g, h1⟩
      subst hxe
      obtain ⟨m, hm⟩ : ∃ m, 2 * i = m := ⟨_, rfl⟩
      rw [hm] at HE ⊢
      obtain ⟨hrow, hTg, hBg, hye, hye2⟩ := rowI_of HE.out
      have hm2 : 2 ≤ m ∧ m ≤ 18 := by omega
      have HI2 : Hid (Nt2 W wr C N g m ca cc bs (at_ + 160) (m - 1)) := ⟨xp, yp, ps, at0, HN.out, HC.out, by omega, hrow, hTg, by omega, HNT.out, HB.out⟩
      have hgN : N < g := by omega
      clear HN HC HE HNT HB hrow hTg hBg
      go_wp2_with fail
      go_loopw [7] (fun ii wq => ∃ j : Nat, ii = .int .i64 j ∧ j < m ∧ Hid (Nt2 W wq C N g m ca cc bs (at_ + 160) j)) (fun ii _ => (intOf ii).toNat)
      case atStart => exact ⟨m - 1, by rw [Int.natCast_sub (by omega)]; rfl, by omega, HI2⟩
      case round =>
        clear HI2
        obtain ⟨j, rfl, hjm, HI⟩ := hrel
        obtain ⟨xp, yp, ps, at0, hnet, hcur, hpl, hrow, hTg, hat0, hNT, hbase⟩ := HI.out
        have HN := hidP hnet
        have HC := hidP hcur
        have HRW := hidP hrow
        have HTG := hidP hTg
        have HNT := hidP hNT
        have HB := hidP hbase
        clear HI hnet hcur hrow hTg hNT hbase
        cases j with
        | zero =>
          have HI3 : Hid (Nt3 W wr C N g m ca cc bs (at_ + 200) m) := ⟨xp, yp, none, 0, ps, [], at0, HN.out, HC.out, hpl, HRW.out, HTG.out, by omega, by simp, HB.out⟩
          clear HN HC HRW HTG HNT HB
          go_wp2_with fail
          go_loopw [4] (fun ve wq => ∃ (l off c : Nat), ve = .slice (some ⟨g, off, none⟩) l c ∧ off + 2 * l ≤ 2 * m ∧ l ≤ c ∧ c ≤ maxLen ∧ Hid (Nt3 W wq C N g m ca cc bs (at_ + 200) l)) (fun ve _ => lenOf ve)
          case atStart => exact ⟨m, 0, ye, rfl, by omega, hye, hye2, HI3⟩
          case round =>
            clear HI3
            obtain ⟨l, off, c, rfl, hoff, hlc, hcm, HI⟩ := hrel
            obtain ⟨xp, yp, xj, yj, ps, js, at0, hnet, hcur, hpl, hrow, hTg, hat0, hjl, hbase⟩ := HI.out
            have HN := hidP hnet
            have HC := hidP hcur
            have HRW := hidP hrow
            have HTG := hidP hTg
            have HB := hidP hbase
            have hcn := hnet.cn
            clear HI hnet hcur hrow hTg hbase
            by_cases hl0 : l = 0
            · have hl1 : ¬ (0 : Int) < l := by omega
              have n0 := HN.out.c0
              have n1 := HN.out.c1
              have hNr := HN.out.lt
              have hRr : wr.heap[R]? = W.heap[R]? := HB.out.block R (by omega) (by omega)
              have q0 := (World.cell?_of_block (w := W) (a := ⟨R, 0, none⟩) hRr).trans R0
              have q1 := (World.cell?_of_block (w := W) (a := ⟨R, 1, none⟩) hRr).trans R1
              have u0 := (World.frozen?_of_block (w := W) (a := ⟨R, 0, none⟩) hRr).trans (HRZ.out 0)
              have u1 := (World.frozen?_of_block (w := W) (a := ⟨R, 1, none⟩) hRr).trans (HRZ.out 1)
              clear R0 R1 hRr
              have hnR : N ≠ R := by omega
              go_wp2_with fail
              refine bodyPost_ret (v := .agg #[.slice xp ps.length yp, .slice xj js.length yj]) (by simp [results, Try.results97, go_sem, q0, q1]) rfl ?_
              have hk : ∀ b, b ≠ R → ((wr.setCell ⟨R, 0, none⟩ (.slice xp ps.length yp)).setCell ⟨R, 1, none⟩ (.slice xj js.length yj)).heap[b]? = wr.heap[b]? := fun b hb => (Below.heap_setCell _ _ _ _ hb).trans (Below.heap_setCell _ _ _ _ hb)
              have hnet := HN.out.kept (w' := (wr.setCell ⟨R, 0, none⟩ (.slice xp ps.length yp)).setCell ⟨R, 1, none⟩ (.slice xj js.length yj)) (fun b h1 _ => hk b (by omega))
              have hw := HRw.out
              refine ⟨xp, yp, xj, yj, ps, js.map (fun z : MJ => z.2.2), at0, by simp, fun u hu => (by have h := hnet.kept (w' := u) (fun b h1 hz => hu b (by omega) hz); exact ⟨piecesAt_of h.op (fun p hp => (h.pn p hp).1), jointsAt_of h.oj h.jn h.je⟩), ⟨by omega, by omega, fun p hp => (hnet.pn p hp).2, by simp; omega, fun j hj => by obtain ⟨z, hz, rfl⟩ := List.mem_map.1 hj; exact (hnet.je z hz).2.2⟩, HC.out.above hlow.out (fun k hk' => hk k (by omega)), by omega, ?_⟩
              have h1 : Only (fun k => k = C) w wr := ⟨HB.out.os.trans HBW.out.os, HB.out.tape.trans HBW.out.tape, HB.out.output.trans HBW.out.output, Nat.le_trans HBW.out.size HB.out.size, fun k hk1 hk2 => (HB.out.block k (by omega) (by omega)).trans (HBW.out.block k hk1)⟩
              exact (h1.setCell (p := ⟨R, 0, none⟩) (Or.inr hw) _).setCell (p := ⟨R, 1, none⟩) (Or.inr hw) _
            · have hl1 : (0 : Int) < l := by omega
              have hgz := HTG.out.lt
              go_wp2_with fail
              generalize hWk : World.alloc wr _ = Wk
              have hbk : Below wr.heap.size wr Wk := by rw [← hWk]; exact (Below.refl _ _).alloc (Nat.le_refl _) _
              have HKC : Hid (∀ y : Nat, y < 7 → ∃ kv : Nat, Wk.cell? ⟨wr.heap.size, y, none⟩ = some (.int .i64 kv) ∧ 1 ≤ kv ∧ kv ≤ 4) := by
                intro y hy
                rw [← hWk]
                have h7 : y = 0 ∨ y = 1 ∨ y = 2 ∨ y = 3 ∨ y = 4 ∨ y = 5 ∨ y = 6 := by omega
                rcases h7 with rfl | rfl | rfl | rfl | rfl | rfl | rfl
                · exact ⟨1, by simp [go_sem], by omega, by omega⟩
                · exact ⟨2, by simp [go_sem], by omega, by omega⟩
                · exact ⟨2, by simp [go_sem], by omega, by omega⟩
                · exact ⟨3, by simp [go_sem], by omega, by omega⟩
                · exact ⟨3, by simp [go_sem], by omega, by omega⟩
                · exact ⟨3, by simp [go_sem], by omega, by omega⟩
                · exact ⟨4, by simp [go_sem], by omega, by omega⟩
              have HBk := hidP hbk
              clear hWk hbk
              refine (pick_any C ca cc bs at0 7 Wk (HC.out.below HBk.out) (by omega) (by omega)).mono ?_
              rintro e w2 ⟨y, at1, hy, rfl, hat1, hc2, ho2⟩
              have hy7 : y < 7 := by omega
              obtain ⟨kv, hkv, hkv1, hkv4⟩ := HKC.out y hy7
              have hCr := HC.out.lt
              have kc := ho2.cell hkv (by show ¬ wr.heap.size = C; omega)
              have HC2 := hidP hc2
              have HO2 : Hid (Only (fun k => k = C) wr w2) := (Only.of_below HBk.out).trans ho2
              clear hkv hc2 ho2 HKC HBk hy
              go_upto_if 91 with fail
              go_cut [11] (fun v wx => ∃ kd : Nat, v = .int .i64 kd ∧ 1 ≤ kd ∧ kd ≤ 4 ∧ kd ≤ l ∧ wx = w2)
              case first =>
                by_cases hkl : (l : Int) < kv
                · go_wp2_with fail
                  go_meet
                  exact ⟨1, rfl, by omega, by omega, by omega, rfl⟩
                · go_wp2_with fail
                  go_meet
                  exact ⟨kv, rfl, by omega, by omega, by omega, rfl⟩
              case rest =>
                obtain ⟨kd, rfl, hkd1, hkd4, hkdl, hwc⟩ := hcut
                have hwc2 : w2 = wc := hwc.symm
                clear hwc
                subst hwc2
                have HN2 := hidP (HN.out.only HO2.out)
                have HRW2 : Hid (RowI w2 g (2 * m)) := HRW.out.kept (HO2.out.block g hgz (by omega))
                have HTG2 : Hid (IsT w2 139 g) := HTG.out.kept (HO2.out.block g hgz (by omega))
                have HB2 : Hid (Only (fun k => k = C ∨ N ≤ k) W w2) := HB.out.trans (HO2.out.mono (fun k hk => Or.inl hk))
                clear HN HC HRW HTG HB HO2 kc
                clear hgz
                have hgz := HTG2.out.lt
                have hNz := HN2.out.lt
                go_wp2_with fail
                generalize hWJ : World.alloc w2 _ = WJ
                obtain ⟨J, hJ⟩ : ∃ J, w2.heap.size = J := ⟨_, rfl⟩
                have HIJ : Hid (InJ w2 WJ w2.heap.size kd 0 ⟨#[]⟩ none 0 []) := by
                  rw [← hWJ]
                  exact ⟨by simp [go_sem], by simp [go_sem], by simp [go_sem], fun o => by simp [go_sem], rfl, World.ownsRow_nil _ _ _ _, (Below.refl _ _).alloc (Nat.le_refl _) _⟩
                rw [hJ] at HIJ hgz hNz ⊢
                have HJW : Hid (w2.heap.size = J) := hJ
                clear hWJ hJ
                go_loopw [13] (fun qq wi => ∃ (q : Nat) (xe : Option Addr) (ye : Nat) (es : List MEnd), qq = .int .i64 q ∧ q ≤ kd ∧ Hid (InJ w2 wi J kd q ⟨#[]⟩ xe ye es)) (fun qq _ => kd - (intOf qq).toNat)
                case atStart => exact ⟨0, none, 0, [], rfl, by omega, HIJ⟩
                case round =>
                  clear HIJ
                  obtain ⟨q, xe, ye, es, rfl, hqk, HIJ⟩ := hrel
                  by_cases hq : q < kd
                  · have hqi : (q : Int) < kd := by omega
                    have hql : (q : Int) < l := by omega
                    have c2 := HIJ.out.c2
                    have hJi := HIJ.out.lt
                    have hgi : wr.heap[g]? = w2.heap[g]? := HIJ.out.base.block g (by omega)
                    obtain ⟨⟨e0, E0⟩, _⟩ := (HRW2.out.kept hgi) (off + q * 2) (by omega)
                    obtain ⟨⟨e1, E1⟩, _⟩ := (HRW2.out.kept hgi) (off + q * 2 + 1) (by omega)
                    go_upto_region 24 with fail
                    obtain ⟨S, hS⟩ : ∃ S : World → Prop, ∀ u, S u ↔ (u.cell? ⟨J, 2, none⟩ = some (.slice xe q ye) ∧ u.cell? ⟨g, off + q * 2, none⟩ = some (.int .i64 e0) ∧ u.cell? ⟨g, off + q * 2 + 1, none⟩ = some (.int .i64 e1)) := ⟨_, fun _ => Iff.rfl⟩
                    have HS0 := hidP hS
                    have r0 : ∀ u : Held S, World.cell? u.val ⟨J, 2, none⟩ = some (.slice xe q ye) := fun u => ((hS u.val).1 u.2).1
                    have r1 : ∀ u : Held S, World.cell? u.val ⟨g, off + q * 2, none⟩ = some (.int .i64 e0) := fun u => ((hS u.val).1 u.2).2.1
                    have r2 : ∀ u : Held S, World.cell? u.val ⟨g, off + q * 2 + 1, none⟩ = some (.int .i64 e1) := fun u => ((hS u.val).1 u.2).2.2
                    have hS1 : S wr.drew := (hS _).2 ⟨c2, E0, E1⟩
                    have hne := held_ne hS1
                    clear hS
                    refine wp_region_tree (fun w' => ∃ u : Held S, w' = u.val) 7 (by kernel_rfl) (by kernel_rfl) (held_some hS1) ?_
                    (refine wpT_see 0 (by rfl) (by kernel_rfl) (by kernel_rfl) ?_; intro K hK; go_big_quiet_op; go_big_quiet_on); (refine wpT_see 1 (by rfl) (by kernel_rfl) (by kernel_rfl) ?_; intro K hK; go_big_quiet_op; go_big_quiet_on); (refine wpT_see 2 (by rfl) (by kernel_rfl) (by kernel_rfl) ?_; intro K hK; go_big_quiet_op; go_big_quiet_on); (refine wpT_see 3 (by rfl) (by kernel_rfl) (by kernel_rfl) ?_; intro K hK; go_big_quiet_op; go_big_quiet_on); (refine wpT_see 4 (by rfl) (by kernel_rfl) (by kernel_rfl) ?_; intro K hK; go_big_quiet_op; go_big_quiet_on); (refine wpT_see 5 (by rfl) (by kernel_rfl) (by kernel_rfl) ?_; intro K hK; go_big_quiet_op; go_big_quiet_on)
                    refine wpT_loud 6 (by rfl) (by kernel_rfl) (by kernel_rfl) ?_
                    intro K hK
                    go_wp2_with fail
                    have hS6 : ∀ o, S (World.alloc wr o).drew := fun o => by
                      have hb : Below wr.heap.size wr (World.alloc wr o).drew := ((Below.refl _ _).alloc (Nat.le_refl _) o).drew
                      exact (HS0.out _).2 ⟨cell_later hb c2, cell_later hb E0, cell_later hb E1⟩
                    refine hK _ _ (held_some (hS6 _)) ?_
                    clear hK K hS6 r0 r1 r2 hne
                    refine wpT_done (by kernel_rfl) ?_
                    simp only [List.drop_succ_cons, List.drop_zero]
                    have HIJd := hidP (HIJ.out.below (wi' := wr.drew) ((Below.refl _ _).drew))
                    refine wpList_push (Wp := wr.drew) rfl (.tmp 100) (.tmp 105) 101 rfl (J + 1) 139 _ 2 16 Try.underlying101 Try.infoEnd rfl (by decide) (.slice xe q ye) q (flatE es) rfl HIJd.out.own wr.heap.size rfl [.int .i64 e0, .int .i64 e1] rfl rfl (by simp [Value.oneCell']) (by unfold maxLen; omega) (by omega) (by show J + 1 ≤ wr.heap.size; omega) ?_
                    intro xe6 ye6 w6 ho6 hg6
                    rw [flatE_push _ ⟨e0, e1⟩] at ho6
                    have HIJ6 := hidP (HIJd.out.push hg6 ho6)
                    have hJ6 : w6.heap[J]? = wr.heap[J]? := hg6.block J hJi (fun e => by have := (HIJ.out.own.lt J e.symm).1; omega)
                    have m1 := (World.cell?_of_block (w := wr) (a := ⟨J, 2, none⟩) hJ6).trans c2
                    have m2 := (World.frozen?_of_block (w := wr) (a := ⟨J, 2, none⟩) hJ6).trans (HIJ.out.z 2)
                    clear ho6 hg6 hJ6 HIJ HIJd
                    go_wp2_with fail
                    go_roundw
                    case rel => exact ⟨q + 1, xe6, ye6, _, by go_num, by omega, HIJ6⟩
                    case measure => simp [intOf]; omega
                  · have hqe : q = kd := by omega
                    subst hqe
                    have hqn : ¬ (q : Int) < q := by omega
                    have HNi := hidP (HN2.out.below (HJW.out ▸ HIJ.out.base))
                    have HCi := hidP (HC2.out.below (HJW.out ▸ HIJ.out.base))
                    have c0 := HIJ.out.c0
                    have c1 := HIJ.out.c1
                    have c2 := HIJ.out.c2
                    have n1 := HNi.out.c1
                    have hJi := HIJ.out.lt
                    have HNM : Hid (∀ (c : Value) (u : World), Calls Try.prog 98 #[c, .int .i64 (100 + (js.length : Int))] u fun e w' => (∃ s : ByteArray, e = .returned (.string s) ∧ s.size ≤ 1000002) ∧ Below u.heap.size u w') := fun c u => by
                      have h := name_any c (100 + js.length) u (by omega)
                      rw [Int.natCast_add] at h
                      exact h
                    go_upto_if 109 with fail
                    go_cut [] (fun wx => ∃ nm : ByteArray, nm.size ≤ 1000002 ∧ Hid (InJ w2 wx J q q nm xe ye es))
                    case first =>
                      by_cases hk3 : (3 : Int) ≤ q
                      · go_wp2_with fail
                        refine (HNM.out _ _).mono ?_
                        rintro e w7 ⟨⟨s, rfl, hsz⟩, hb7⟩
                        have d1 := cell_later hb7 c1
                        have z1 := (hb7.frozen (p := ⟨J, 1, none⟩) hJi).trans (HIJ.out.z 1)
                        have HJ7 := hidP ((HIJ.out.below hb7).name s)
                        clear hb7
                        go_wp2_with fail
                        go_meet
                        exact ⟨s, hsz, HJ7⟩
                      · go_wp2_with fail
                        go_meet
                        exact ⟨⟨#[]⟩, Nat.zero_le _, HIJ⟩
                    case rest =>
                      obtain ⟨nm, hnm, HJ⟩ := hcut
                      clear HIJ HNi HCi c0 c1 c2 n1 hJi HNM
                      have hb7 : Below w2.heap.size w2 wc := HJW.out ▸ HJ.out.base
                      have HN7 := hidP (HN2.out.below hb7)
                      have HC7 := hidP (HC2.out.below hb7)
                      have HRW7 : Hid (RowI wc g (2 * m)) := HRW2.out.kept (hb7.block g (by have := HJW.out; omega))
                      have HTG7 : Hid (IsT wc 139 g) := HTG2.out.kept (hb7.block g (by have := HJW.out; omega))
                      have HB7 : Hid (Only (fun k => k = C ∨ N ≤ k) W wc) := HB2.out.trans (Only.of_below hb7)
                      have c0 := HJ.out.c0
                      have c1 := HJ.out.c1
                      have c2 := HJ.out.c2
                      have n1 := HN7.out.c1
                      have hJi := HJ.out.lt
                      have hNi := HN7.out.lt
                      have HX7 := hidP (HJ.out.ends (N := N) hNz (by omega) (q : Int))
                      have HJL := hidP HJ.out.len
                      have hql : (q : Int) ≤ l := by omega
                      clear hb7 HN2 HC2 HRW2 HTG2 HB2 HJ
                      go_wp2_with (at_builtin; refine wpList_push (Wp := wc) rfl (.tmp 118) (.tmp 120) 24 rfl (N + 1) 182 _ 3 48 Try.underlying24 Try.infoJoint rfl (by decide) (.slice xj js.length yj) js.length (flatJ js) rfl HN7.out.oj wc.heap.size rfl [.int .i64 (q : Int), .string nm, .slice xe q ye] rfl rfl (by simp [Value.oneCell']) (by unfold maxLen; omega) (by omega) (by omega) ?_; intro xj8 yj8 w8 ho8 hg8; obtain ⟨m1, m2⟩ := HN7.out.rowJ hg8; have HT8 : Hid (w8.heap[g]? = wc.heap[g]?) := hg8.block g HTG7.out.lt (fun e => HTG7.out.ne HN7.out.oj (by decide) e.symm); have HN8 : Hid (NetS (w8.setCell ⟨N, 1, none⟩ (.slice xj8 (js.length + 1) yj8)) C N xp yp xj8 yj8 ps (js ++ [(xe, ye, ⟨(q : Int), nm, es⟩)])) := HN7.out.pushJ hg8 (by rw [← flatJ_push]; dsimp only; rw [HJL.out]; exact ho8) hnm HX7.out; have HK8 : Hid (∀ k, k < N → (w8.setCell ⟨N, 1, none⟩ (.slice xj8 (js.length + 1) yj8)).heap[k]? = wc.heap[k]?) := (fun k hk => (Below.heap_setCell _ _ _ _ (show k ≠ N by omega)).trans (hg8.block k (by omega) (fun e => (by have := (HN7.out.oj.lt k e.symm).1; omega)))); have HZ8 : Hid (Only (fun k => k = C ∨ N ≤ k) wc (w8.setCell ⟨N, 1, none⟩ (.slice xj8 (js.length + 1) yj8))) := ⟨hg8.os, hg8.tape, hg8.output, (by have := hg8.size; simpa using this), fun k _ hn => HK8.out k (Nat.lt_of_not_le (fun h => hn (Or.inr h)))⟩; clear ho8 hg8)
                      all_goals
                        have hset : (w8.setCell ⟨N, 1, none⟩ (.slice xj8 (js.length + 1) yj8)).heap[g]? = wc.heap[g]? := (Below.heap_setCell _ _ _ _ (show g ≠ N by omega)).trans HT8.out
                        have HIN : Hid (Nt3 W (w8.setCell ⟨N, 1, none⟩ (.slice xj8 (js.length + 1) yj8)) C N g m ca cc bs (at_ + 200) (l - q)) := ⟨xp, yp, xj8, yj8, ps, _, at1, HN8.out, HC7.out.above hlow.out (fun k hk => HK8.out k (by omega)), hpl, HRW7.out.kept hset, HTG7.out.kept hset, by omega, by simp; omega, HB7.out.trans HZ8.out⟩
                        refine ⟨⟨_, _, _, ⟨rfl, rfl, rfl⟩, by omega, by omega, by omega, HIN⟩, by simp only [lenOf]; omega⟩
        | succ j =>
          have hj1 : (0 : Int) < ((j + 1 : Nat) : Int) := by omega
          go_wp2_with fail
          refine (pick_any C ca cc bs at0 _ _ HC.out (by omega) (by omega)).mono ?_
          rintro e w2 ⟨y, at1, hy, rfl, hat1, hc2, ho2⟩
          have HC2 := hidP hc2
          have HO2 := hidP ho2
          have hy' : y < j + 2 := by omega
          clear hc2 ho2 hy
          go_wp2_with fail
          refine (pick_any C ca cc bs at1 3 w2 HC2.out (by omega) (by omega)).mono ?_
          rintro e w3 ⟨z, at2, hz, rfl, hat2, hc3, ho3⟩
          have HC3 := hidP hc3
          have HO3 := hidP (HO2.out.trans ho3)
          have hz' : z < 3 := by omega
          clear hc3 ho3 hz HC2 HO2
          go_upto_region 12 with fail
          obtain ⟨k, hk, hkj⟩ : ∃ k : Nat, wrap64 ((j : Int) + 1 - wrap64 ((y : Int) / (1 + (z : Int)))) = (k : Int) ∧ k ≤ j + 1 := by
            have h1 : 0 ≤ (y : Int) / (1 + (z : Int)) := Int.ediv_nonneg (by omega) (by omega)
            have h2 : (y : Int) / (1 + (z : Int)) ≤ y := Int.ediv_le_self _ (by omega)
            generalize (y : Int) / (1 + (z : Int)) = q at h1 h2 ⊢
            refine ⟨(j + 1 - q.toNat : Nat), ?_, by omega⟩
            unfold wrap64
            omega
          rw [hk]
          clear hk
          have hrow3 : RowI w3 g (2 * m) := HRW.out.kept (HO3.out.block g HTG.out.lt (by have := HN.out.cn; omega))
          obtain ⟨⟨a0, A0⟩, Z0⟩ := hrow3 ((j + 1) * 2) (by omega)
          obtain ⟨⟨a1, A1⟩, Z1⟩ := hrow3 ((j + 1) * 2 + 1) (by omega)
          obtain ⟨⟨b0, B0⟩, Y0⟩ := hrow3 (k * 2) (by omega)
          obtain ⟨⟨b1, B1⟩, Y1⟩ := hrow3 (k * 2 + 1) (by omega)
          have hgz : g < w3.heap.size := cellLt A0
          have hj2 : (j : Int) + 1 < m := by omega
          have hk2 : (k : Int) < m := by omega
          have HRW3 := hidP hrow3
          clear hrow3
          have HN3 : Hid (Nt2 W w3 C N g m ca cc bs (at_ + 160) j) := ⟨xp, yp, ps, at2, HN.out.only HO3.out, HC3.out, hpl, HRW3.out, HTG.out.kept (HO3.out.block g HTG.out.lt (by have := HN.out.cn; omega)), by omega, HNT.out.kept (HO3.out.block N HNT.out.lt (by have := HN.out.cn; omega)), HB.out.trans (HO3.out.mono (fun k hk => Or.inl hk))⟩
          clear HN HC HRW HTG HNT HB HC3 HO3 HRW3
          by_cases hkk : k = j + 1
          · subst hkk
            go_wp2_with fail
            refine ⟨⟨j, rfl, by omega, ?_⟩, by simp [intOf]⟩
            repeat (first | exact HN3 | refine Nt2.more ?_ _ | refine Nt2.set ?_ hgN hlow.out _ _)
          · have e1 : (j + 1) * 2 ≠ k * 2 := by omega
            have e2 : (j + 1) * 2 + 1 ≠ k * 2 := by omega
            have e3 : (j + 1) * 2 ≠ k * 2 + 1 := by omega
            have e4 : (j + 1) * 2 + 1 ≠ k * 2 + 1 := by omega
            go_wp2_with fail
            refine ⟨⟨j, rfl, by omega, ?_⟩, by simp [intOf]⟩
            repeat (first | exact HN3 | refine Nt2.more ?_ _ | refine Nt2.set ?_ hgN hlow.out _ _)
end Go.Proofs.Ytmkdgnmmebldgaa
