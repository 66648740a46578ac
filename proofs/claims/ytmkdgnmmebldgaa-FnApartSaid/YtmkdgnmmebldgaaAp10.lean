import Derived.Test.YtmkdgnmmebldgaaAp9
import Derived.Test.YtmkdgnmmebldgaaAp5
import Derived.Test.YtmkdgnmmebldgaaAp8
namespace Go.Proofs.Ytmkdgnmmebldgaa
open Go.RowKit Go.Deep

theorem owns_kept2 {w w' : World} {B e s n : Nat} {v : Value} {xs : List Value} (h : w.ownsRow B e s v n xs) (hk : ∀ b, v.ownBlock = some b → w'.heap[b]? = w.heap[b]?) : w'.ownsRow B e s v n xs := by
  refine ⟨h.1, ?_⟩
  rcases h.2 with h2 | ⟨g, cap, cur, h1, h2, h3, h4⟩
  · exact Or.inl h2
  · exact Or.inr ⟨g, cap, cur, h1, h2, (hk g (by rw [h1]; rfl)).trans h3, h4⟩

/-- What 'done' leaves: one route more, its flanks in a row of their own; else nothing has turned but what was seen. -/
def DonePost (F Bo no : Nat) (vo : Value) (oc : List Value) (w : World) (fl : List MFlank) (news : Option Addr → Nat → List Value) (e : Ending) (w' : World) : Prop :=
  e = .returned (.tuple #[]) ∧ ∃ x' y' xf yf, w'.cell? ⟨F, 4, none⟩ = some (.slice x' (no + 1) y') ∧ w'.ownsRow Bo 42 8 (.slice x' (no + 1) y') (no + 1) (oc ++ news xf yf) ∧
    w'.ownsRow w.heap.size 57 4 (.slice xf fl.length yf) fl.length (flatF fl) ∧ Tame w vo (.slice x' (no + 1) y') ∧
    (∀ o, o ≠ 4 → o ≠ 6 → w'.cell? ⟨F, o, none⟩ = w.cell? ⟨F, o, none⟩) ∧ (∀ o, w'.frozen? ⟨F, o, none⟩ = w.frozen? ⟨F, o, none⟩) ∧ (∃ v, w'.cell? ⟨F, 6, none⟩ = some v) ∧ Only (fun k => k = F ∨ vo.ownBlock = some k) w w'

set_option maxRecDepth 20000 in
set_option maxHeartbeats 8000000 in
theorem done_any (w0 : World) (F : Nat) (pa ja sa : Option Addr) (pc jc sc : Nat) (ps : List MPiece) (js : List MJoint) (ss : List MPiece) (R : Hid (Right ps js ss)) (HP : Hid (PiecesAt w0 pa ps)) (HJ : Hid (JointsAt w0 ja js)) (HS : Hid (PiecesAt w0 sa ss)) (hF0 : w0.heap.size ≤ F)
    (hfl : Hid (∀ (B Q : Nat) (la : Option Addr) (lc : Nat) (lies : List MLie) (pl : Int) (n : Nat), LB w0 B F Q pa ja sa la ps js ss lies → LookSpec w0 B F Q pa ja sa la pc jc sc lc ps js ss lies pl n))
    (a0 a1 a2 a3 a4 : Option Addr) (k0 k1 k2 k3 k4 : Nat) (st sp : Int) (steps lies : List MEnd) (crosses : List Int) (parts over : List MPart)
    (xo : Option Addr) (yo no Bo : Nat) (oc : List Value) (w : World) (hb : Hid (Below w0.heap.size w0 w))
    (c0 : w.cell? ⟨F, 0, none⟩ = some (.slice pa ps.length pc)) (c1 : w.cell? ⟨F, 1, none⟩ = some (.slice ja js.length jc)) (c2 : w.cell? ⟨F, 2, none⟩ = some (.slice sa ss.length sc))
    (c4 : w.cell? ⟨F, 4, none⟩ = some (.slice xo no yo)) (z4 : w.frozen? ⟨F, 4, none⟩ = false) (s6 : ∃ v, w.cell? ⟨F, 6, none⟩ = some v) (z6 : w.frozen? ⟨F, 6, none⟩ = false)
    (hl : Hid (EndsAt w a1 lies)) (hla : Hid (lies = [] ∨ ∀ b off, a1 = some ⟨b, off, none⟩ → b ≠ F)) (hln : lies.length ≤ 120)
    (hlv : Hid (∀ l ∈ lies, ∃ (j : Nat) (hj : j < js.length), l.piece = j ∧ js[j].kind = 3 ∧ (l.side = 1 ∨ l.side = 2))) (hlu : Hid (∀ a ∈ lies, ∀ b ∈ lies, a.piece = b.piece → a.side = b.side))
    (ho : Hid (w.ownsRow Bo 42 8 (.slice xo no yo) no oc)) (hno : no ≤ 1000) (hBo : Bo ≤ w.heap.size) (hoF : Hid ((Value.slice xo no yo).ownBlock ≠ some F)) :
    Calls Try.prog 104 #[.pointer (some ⟨F, 0, none⟩), .agg #[.int .i64 st, .int .i64 sp, .slice a0 steps.length k0, .slice a1 lies.length k1, .slice a2 crosses.length k2, .slice a3 parts.length k3, .slice a4 over.length k4, .slice none 0 0]] w (DonePost F Bo no (.slice xo no yo) oc w (flanksF ps js ss lies lies) (fun xf yf => [.int .i64 st, .int .i64 sp, .slice a0 steps.length k0, .slice a1 lies.length k1, .slice a2 crosses.length k2, .slice a3 parts.length k3, .slice a4 over.length k4, .slice xf (flanksF ps js ss lies lies).length yf])) := by
  have hFw := cellLt c0
  dsimp only at hFw
  go_enter Try.func104, Try.ntmps104
  go_wp2_with fail
  generalize hW : w.alloc _ = W
  have hbW : Below w.heap.size w W := by rw [← hW]; exact (by repeat (first | exact Below.refl _ _ | assumption | refine Below.drew ?_ | refine bdrewN ?_ _ | refine Below.setCell ?_ (by first | omega | (simp; done) | (simp; omega)) _ | refine Below.alloc ?_ (by first | omega | (simp; done) | (simp; omega)) _))
  have HRow : Hid (W.rowIs w.heap.size 42 8 (fun j => (#[.int .i64 st, .int .i64 sp, .slice a0 steps.length k0, .slice a1 lies.length k1, .slice a2 crosses.length k2, .slice a3 parts.length k3, .slice a4 over.length k4, .slice none 0 0] : Array Value).getD j (.bool false))) := by rw [← hW]; exact row_of_alloc2 w _ _
  have hzW : w.heap.size + 1 ≤ W.heap.size ∧ W.heap.size ≤ w.heap.size + 1 := by rw [← hW]; simp
  have HB : Hid (LB w0 W.heap.size F w.heap.size pa ja sa a1 ps js ss lies) := by
    refine ⟨HP.out, HJ.out, HS.out, hF0, hb.out.size, by omega, by omega, by omega, ?_, by omega, hlu.out⟩
    rcases hla.out with h | h
    · exact Or.inl h
    · rcases hl.out.2 with h2 | ⟨b, off, h2, hc⟩
      · exact Or.inl h2
      · by_cases hl0 : lies = []
        · exact Or.inl hl0
        · refine Or.inr (fun b' off' e => ?_)
          have hb1 : b' = b := by rw [h2] at e; cases e; rfl
          subst hb1
          have h3 := cellLt (hc 0 (List.length_pos_iff.2 hl0)).1
          dsimp only at h3
          exact ⟨by omega, h b' off' e, by omega⟩
  obtain ⟨v6, hv6⟩ := s6
  have HD0 : Hid (LD w0 W W.heap.size F w.heap.size pa ja sa a1 pc jc sc k1 ps.length js.length ss.length lies none 0 (flanksF ps js ss lies (lies.take 0))) := by
    refine ⟨hb.out.trans (hbW.mono hb.out.size), Nat.le_refl _, cell_later hbW c0, cell_later hbW c1, cell_later hbW c2, HRow.out.cell (by omega), hl.out.below hbW, ⟨v6, cell_later hbW hv6⟩, (hbW.frozen (p := ⟨F, 6, none⟩) hFw).trans z6, HRow.out.cell (by omega), HRow.out.frozen 7, World.ownsRow_nil _ _ _ _⟩
  have HBt0 : Hid (Between F w.heap.size W W) := Between.refl (by omega) (by omega)
  have hz1 := hzW.1
  have hz2 := hzW.2
  clear hW hzW
  go_loopw [10] (fun c wr => ∃ (k : Nat) (xf : Option Addr) (yf : Nat), k ≤ lies.length ∧ c = .int .i64 k ∧ Hid (LD w0 wr W.heap.size F w.heap.size pa ja sa a1 pc jc sc k1 ps.length js.length ss.length lies xf yf (flanksF ps js ss lies (lies.take k))) ∧ Hid (Between F w.heap.size W wr)) (fun c _ => lies.length - (intOf c).toNat)
  case atStart => exact ⟨0, none, 0, Nat.zero_le _, rfl, HD0, HBt0⟩
  case round =>
    clear HD0 HBt0
    obtain ⟨k, xf, yf, hk, rfl, HD, HBt⟩ := hrel
    have hbr := HBt.out.only.size
    have hFr : F < wr.heap.size := by omega
    by_cases hk' : k < lies.length
    · obtain ⟨bl, ol, hbl, hpl⟩ := HD.out.L.2.resolve_left (fun h => by rw [h] at hk'; exact absurd hk' (Nat.not_lt_zero _))
      subst hbl
      obtain ⟨d0, d1⟩ := hpl k hk'
      obtain ⟨j, hj, hpj, hkd, hsd⟩ := hlv.out _ (List.getElem_mem hk')
      rw [hpj] at d0
      have n1 := HD.out.c1
      have hdz := cellLt d0
      dsimp only at hdz
      obtain ⟨bj, oj, hbj, hpcj⟩ := HJ.out.2.2.resolve_left (fun h => by rw [h] at hj; exact absurd hj (Nat.not_lt_zero _))
      obtain ⟨j1, j2, ea, ec, j3, j4⟩ := hpcj j hj
      have e3 := cell_later HD.out.base j3
      have hez := cellLt e3
      dsimp only at hez
      have hjl := R.out.nj
      subst hbj
      obtain ⟨v7, h6⟩ := HD.out.s6
      have zz6 := HD.out.z6
      have HEA := hidP j4
      have hl3 : js[j].ends.length = 3 := by have := (R.out.kind j hj).2.2; omega
      obtain ⟨t, ht, hts⟩ : ∃ t : Nat, t < 3 ∧ (3 : Int) - lies[k].side = t := by
        rcases hsd with h | h
        · exact ⟨2, by omega, by omega⟩
        · exact ⟨1, by omega, by omega⟩
      have hs1 : 1 ≤ lies[k].side := by omega
      have hs2 : lies[k].side ≤ 2 := by omega
      have htl : t < js[j].ends.length := by omega
      have HE : Hid (endE js lies[k].piece.toNat (3 - lies[k].side).toNat = js[j].ends[t]) := by unfold Hid; rw [hpj, hts, Int.toNat_natCast, Int.toNat_natCast, endE_at hj htl]
      have HV : Hid (ValidE ps js[j].ends[t]) := R.out.ends j hj t htl
      have HNx := hidP (look_next ps js ss lies k hk')
      have HFn : Hid ((flanksF ps js ss lies (lies.take k)).length ≤ 24000) := by
        have h1 := flanksF_len R.out lies (lies.take k) (fun l hl => by
          obtain ⟨j', hj', e1, e2, e3⟩ := hlv.out l (List.mem_of_mem_take hl)
          have h3 : js[j'].ends.length = 3 := by have := (R.out.kind j' hj').2.2; omega
          rw [e1, Int.toNat_natCast]
          rcases e3 with e3 | e3
          · rw [e3, show ((3 : Int) - 1).toNat = 2 from rfl, endE_at hj' (by omega)]; exact R.out.ends j' hj' 2 (by omega)
          · rw [e3, show ((3 : Int) - 2).toNat = 1 from rfl, endE_at hj' (by omega)]; exact R.out.ends j' hj' 1 (by omega))
        have h2 : 2 * ps.length * (lies.take k).length ≤ 200 * 120 := Nat.mul_le_mul (by have := R.out.np; omega) (by rw [List.length_take]; omega)
        exact Nat.le_trans h1 h2
      generalize flanksF ps js ss lies (lies.take k) = fl at HD HNx HFn
      clear hpl hpcj j1 j2 j3 j4 hlv
      go_wp2_with fail
      go_quiet (fail)
      generalize hW4 : (wr.alloc _).drewN _ = W4
      have hb4 : Below wr.heap.size wr W4 := by rw [← hW4]; exact (by repeat (first | exact Below.refl _ _ | assumption | refine Below.drew ?_ | refine bdrewN ?_ _ | refine Below.setCell ?_ (by first | omega | (simp; done) | (simp; omega)) _ | refine Below.alloc ?_ (by first | omega | (simp; done) | (simp; omega)) _))
      have i0 : W4.cell? ⟨wr.heap.size, 0, none⟩ = some (.int .i64 j) := by rw [← hW4]; simp [go_sem]
      have i1 : W4.cell? ⟨wr.heap.size, 1, none⟩ = some (.int .i64 lies[k].side) := by rw [← hW4]; simp [go_sem]
      have HD4 := hidP (HD.out.below hb4)
      have HBt4 := hidP (HBt.out.later hb4)
      have g6 := cell_later hb4 h6
      have gz6 := HD4.out.z6
      have hF4 := cellLt g6
      dsimp only at hF4
      clear hW4 d0 d1 n1 e3 h6 zz6 hdz hez HD HBt
      go_wp2_with fail
      generalize hW5 : W4.setCell ⟨F, 6, none⟩ (.slice none 0 0) = W5
      have HK : Hid (LK w0 W5 W.heap.size F w.heap.size pa (some ⟨bj, oj, none⟩) sa (some ⟨bl, ol, none⟩) pc jc sc k1 ps.length js.length ss.length lies none 0 xf yf ([], fl)) := by rw [← hW5]; exact LD.reset HB.out HD4.out
      have HBt5 : Hid (Between F w.heap.size W W5) := by rw [← hW5]; exact HBt4.out.set (by omega) _
      have m0 : W5.cell? ⟨wr.heap.size, 0, none⟩ = some (.int .i64 j) := by rw [← hW5, World.cell?_setCell_other _ _ _ _ (by first | (simp; done) | (simp; omega))]; exact i0
      have m1 : W5.cell? ⟨wr.heap.size, 1, none⟩ = some (.int .i64 lies[k].side) := by rw [← hW5, World.cell?_setCell_other _ _ _ _ (by first | (simp; done) | (simp; omega))]; exact i1
      clear hW5 i0 i1 g6 gz6 hF4 HD4 HBt4
      obtain ⟨be, oe, hbe, hpe⟩ := HEA.out.2.resolve_left (fun h => by rw [h] at hl3; simp at hl3)
      subst hbe
      obtain ⟨g0, g1⟩ := (hpe.below HK.out.base) t htl
      have hti3 : (t : Int) < 3 := by omega
      have hti : (t : Int) < (js[j].ends.length : Int) := by omega
      have hzm := cellLt m0
      dsimp only at hzm
      have HFl := hidP (hfl.out W.heap.size w.heap.size (some ⟨bl, ol, none⟩) k1 lies j (depthR ps) HB.out ([], fl) js[j].ends[t] none 0 xf yf W5.drew (HK.out.below (Below.refl _ _).drew) (Seen.nil ps) HV (by have := HFn.out; have := R.out.np; simp only [List.length_nil]; omega) (by unfold depthR; simp only [List.length_nil]; omega))
      have hvf : ∀ x, (Value.slice xf fl.length yf).ownBlock = some x → W.heap.size ≤ x := fun x hx => (HK.out.oF.lt x hx).1
      have HVF := hidP hvf
      clear hpe hvf HEA
      rcases hsd with hv | hv
      · have ht' : t = 2 := by omega
        subst ht'
        rw [hv] at m1
        have g0b : W5.cell? ⟨be, oe + 4, none⟩ = some (.int .i64 js[j].ends[2].piece) := g0
        have g1b : W5.cell? ⟨be, oe + 5, none⟩ = some (.int .i64 js[j].ends[2].side) := g1
        have g1c : W5.cell? ⟨be, oe + 4 + 1, none⟩ = some (.int .i64 js[j].ends[2].side) := g1
        clear hti hti3 hts hs1 hs2
        go_region_with (go_at_call 150; refine HFl.out.mono ?_; rintro e w6 ⟨rfl, ⟨xs6, ys6, xf6, yf6, hk6, t6, t6'⟩, hT6⟩)
        all_goals
          have HK6 : Hid (LD w0 w6 W.heap.size F w.heap.size pa (some ⟨bj, oj, none⟩) sa (some ⟨bl, ol, none⟩) pc jc sc k1 ps.length js.length ss.length lies xf6 yf6 (flanksF ps js ss lies (lies.take (k + 1)))) := by
            have h := hk6.forget
            rw [← HE.out, ← hpj, HNx.out] at h
            exact h
          have HBt6 : Hid (Between F w.heap.size W w6) := (HBt5.out.later (Below.refl _ _).drew).turn hT6 (fun x hx => by cases hx) HVF.out
          clear hk6 t6 t6' hT6 m0 m1 g0 g1 g0b g1b g1c
          go_wp2_with fail
          go_roundw
          case rel => exact ⟨k + 1, xf6, yf6, by omega, by go_num, HK6, HBt6⟩
          case measure => simp [intOf]; omega
      · have ht' : t = 1 := by omega
        subst ht'
        rw [hv] at m1
        have g0b : W5.cell? ⟨be, oe + 2, none⟩ = some (.int .i64 js[j].ends[1].piece) := g0
        have g1b : W5.cell? ⟨be, oe + 3, none⟩ = some (.int .i64 js[j].ends[1].side) := g1
        have g1c : W5.cell? ⟨be, oe + 2 + 1, none⟩ = some (.int .i64 js[j].ends[1].side) := g1
        clear hti hti3 hts hs1 hs2
        go_region_with (go_at_call 150; refine HFl.out.mono ?_; rintro e w6 ⟨rfl, ⟨xs6, ys6, xf6, yf6, hk6, t6, t6'⟩, hT6⟩)
        all_goals
          have HK6 : Hid (LD w0 w6 W.heap.size F w.heap.size pa (some ⟨bj, oj, none⟩) sa (some ⟨bl, ol, none⟩) pc jc sc k1 ps.length js.length ss.length lies xf6 yf6 (flanksF ps js ss lies (lies.take (k + 1)))) := by
            have h := hk6.forget
            rw [← HE.out, ← hpj, HNx.out] at h
            exact h
          have HBt6 : Hid (Between F w.heap.size W w6) := (HBt5.out.later (Below.refl _ _).drew).turn hT6 (fun x hx => by cases hx) HVF.out
          clear hk6 t6 t6' hT6 m0 m1 g0 g1 g0b g1b g1c
          go_wp2_with fail
          go_roundw
          case rel => exact ⟨k + 1, xf6, yf6, by omega, by go_num, HK6, HBt6⟩
          case measure => simp [intOf]; omega
    · have HT : Hid (lies.take k = lies) := List.take_of_length_le (by omega)
      rw [HT.out] at HD
      obtain ⟨fl, hfl'⟩ : ∃ fl, flanksF ps js ss lies lies = fl := ⟨_, rfl⟩
      rw [hfl'] at HD
      have HFE := hidP hfl'
      clear hfl'
      have HOo : Hid (wr.ownsRow Bo 42 8 (.slice xo no yo) no oc) := owns_kept2 ho.out (fun b hb => by
        have h1 := (ho.out.lt b hb).2
        have h2 : b ≠ F := fun e => hoF.out (by rw [← e]; exact hb)
        exact (HBt.out.only.block b (by omega) (by rintro (h | h) <;> omega)).trans (hbW.block b h1))
      have g4 : wr.cell? ⟨F, 4, none⟩ = some (.slice xo no yo) := (HBt.out.kF 4 (by omega)).1.trans (cell_later hbW c4)
      have gz4 : wr.frozen? ⟨F, 4, none⟩ = false := (HBt.out.kF 4 (by omega)).2.trans ((hbW.frozen (p := ⟨F, 4, none⟩) hFw).trans z4)
      have r0 : wr.cell? ⟨w.heap.size, 0, none⟩ = some (.int .i64 st) := (HBt.out.kQ 0 (by omega)).1.trans (HRow.out.cell (by omega))
      have r1 : wr.cell? ⟨w.heap.size, 1, none⟩ = some (.int .i64 sp) := (HBt.out.kQ 1 (by omega)).1.trans (HRow.out.cell (by omega))
      have r2 : wr.cell? ⟨w.heap.size, 2, none⟩ = some (.slice a0 steps.length k0) := (HBt.out.kQ 2 (by omega)).1.trans (HRow.out.cell (by omega))
      have r3 : wr.cell? ⟨w.heap.size, 3, none⟩ = some (.slice a1 lies.length k1) := HD.out.q3
      have r4 : wr.cell? ⟨w.heap.size, 4, none⟩ = some (.slice a2 crosses.length k2) := (HBt.out.kQ 4 (by omega)).1.trans (HRow.out.cell (by omega))
      have r5 : wr.cell? ⟨w.heap.size, 5, none⟩ = some (.slice a3 parts.length k3) := (HBt.out.kQ 5 (by omega)).1.trans (HRow.out.cell (by omega))
      have r6 : wr.cell? ⟨w.heap.size, 6, none⟩ = some (.slice a4 over.length k4) := (HBt.out.kQ 6 (by omega)).1.trans (HRow.out.cell (by omega))
      have r7 : wr.cell? ⟨w.heap.size, 7, none⟩ = some (.slice xf fl.length yf) := HD.out.f7
      have hQr : w.heap.size < wr.heap.size := by omega
      have hneF : some F ≠ (Value.slice xo no yo).ownBlock := fun e => hoF.out e.symm
      clear HT hlv
      go_wp2_with fail
      go_region_law
        ((refine step_push (by rfl) (.tmp 42) (.tmp 44) 30 (by rfl) Bo 42 _ 8 160 Try.underlying30 Try.infoRoute (by rfl) (by decide) (.slice xo no yo) no oc (by rfl) HOo.out wr.heap.size (by rfl) [.int .i64 st, .int .i64 sp, .slice a0 steps.length k0, .slice a1 lies.length k1, .slice a2 crosses.length k2, .slice a3 parts.length k3, .slice a4 over.length k4, .slice xf fl.length yf] (by rfl) (by rfl) (by simp [Value.oneCell']) (by unfold maxLen; omega) (by omega) (by omega) ?_; intro x' y' w2 ho2 hg2 ht2; have h4 := hg2.cell g4 hneF; have h4z := (World.frozen?_of_block (a := ⟨F, 4, none⟩) (hg2.block F hFr hneF)).trans gz4; have HO2 := hidP ho2; have HG2 := hidP hg2; have HT2 := hidP ht2; clear ho2 hg2 ht2))
      all_goals
        go_wp2_with fail
        first
          | refine bodyPost_end (results_none rfl _ _ _) rfl ?_
          | go_end0
        unfold DonePost
        rw [HFE.out]
        refine ⟨rfl, x', y', xf, yf, World.cell?_setCell_same _ _ _ h4, ?_, ?_, HT2.out.later (by omega), ?_, ?_, ?_, ?_⟩
        · exact ownsRow_setCell_other HO2.out (a := ⟨F, 4, none⟩) (fun e => (HT2.out F e).elim (fun h => hoF.out h) (fun h => by omega)) _
        · exact owns_base (ownsRow_setCell_below (HD.out.oF.kept HG2.out (owns_ne (by decide) HD.out.oF HOo.out)) (by show F < W.heap.size; omega) _) (by omega)
        · intro o h1 h2
          rw [World.cell?_setCell_other _ _ _ _ (by first | (simp; done) | (simp; omega))]
          exact (World.cell?_of_block (w := wr) (HG2.out.block F hFr hneF)).trans ((HBt.out.kF o h2).1.trans (World.cell?_of_block (w := w) (hbW.block F hFw)))
        · intro o
          rw [World.frozen?_setCell]
          refine (World.frozen?_of_block (HG2.out.block F hFr hneF)).trans ?_
          by_cases h6 : o = 6
          · subst h6
            rw [HD.out.z6, z6]
          · exact (HBt.out.kF o h6).2.trans (World.frozen?_of_block (hbW.block F hFw))
        · obtain ⟨v, hv⟩ := HD.out.s6
          refine ⟨v, ?_⟩
          rw [World.cell?_setCell_other _ _ _ _ (by simp)]
          exact (World.cell?_of_block (w := wr) (HG2.out.block F hFr hneF)).trans hv
        · have hO : Only (fun k => (k = F ∨ k = w.heap.size) ∨ (Value.slice xo no yo).ownBlock = some k) w (w2.setCell ⟨F, 4, none⟩ (.slice x' (no + 1) y')) :=
            (((Only.of_below hbW).trans (HBt.out.only.mono (fun k h => Or.inl h))).trans (Only.of_grown HG2.out (fun k e => Or.inr e))).setCell (p := ⟨F, 4, none⟩) (Or.inl (Or.inl (Or.inl rfl))) _
          exact ⟨hO.os, hO.tape, hO.output, hO.size, fun k hk hn => hO.block k hk (fun hs => by
            rcases hs with (h | h) | h
            · exact hn (Or.inl h)
            · omega
            · exact hn (Or.inr h))⟩

end Go.Proofs.Ytmkdgnmmebldgaa

namespace Go.Proofs.Ytmkdgnmmebldgaa
open Go.RowKit

/-! A walk as plain mathematics: what its tries and its routes come to. -/

/-- Within both limits. -/
def Fits (t m : Nat) (E : List MPath) : Prop := t + E.length ≤ 20000 ∧ m + (endedL E).length ≤ 300

/-- What a walk makes of the tries and of the routes: all of it, or past a limit. -/
structure Went (mk : MPath → MRoute) (t : Nat) (rs : List MRoute) (E : List MPath) (t' : Nat) (rs' : List MRoute) : Prop where
  le : t ≤ t'
  ge : rs.length ≤ rs'.length
  fit : Fits t rs.length E → t' = t + E.length ∧ rs' = rs ++ (endedL E).map mk
  past : ¬ Fits t rs.length E → 20000 < t' ∨ 300 < rs'.length

theorem endedL_app (A B : List MPath) : endedL (A ++ B) = endedL A ++ endedL B := by simp [endedL]

theorem Went.nil {mk : MPath → MRoute} {t : Nat} {rs : List MRoute} (h : t ≤ 20000) (hr : rs.length ≤ 300) : Went mk t rs [] t rs :=
  ⟨Nat.le_refl _, Nat.le_refl _, fun _ => by simp [endedL], fun h2 => absurd ⟨by simpa using h, by simpa [endedL] using hr⟩ h2⟩
/-- Nothing more to do, within the limits or past them. -/
theorem Went.stay {mk : MPath → MRoute} {t : Nat} {rs : List MRoute} : Went mk t rs [] t rs :=
  ⟨Nat.le_refl _, Nat.le_refl _, fun _ => by simp [endedL], fun h2 => by
    by_cases h1 : 20000 < t
    · exact Or.inl h1
    · refine Or.inr ?_
      refine Nat.lt_of_not_le (fun h3 => h2 ⟨by simp; omega, by simpa [endedL] using h3⟩)⟩
theorem Went.app {mk : MPath → MRoute} {t t1 t2 : Nat} {rs rs1 rs2 : List MRoute} {A B : List MPath} (h : Went mk t rs A t1 rs1) (k : Went mk t1 rs1 B t2 rs2) : Went mk t rs (A ++ B) t2 rs2 := by
  refine ⟨Nat.le_trans h.le k.le, Nat.le_trans h.ge k.ge, ?_, ?_⟩
  · rintro ⟨f1, f2⟩
    rw [List.length_append] at f1
    rw [endedL_app, List.length_append] at f2
    obtain ⟨e1, e2⟩ := h.fit ⟨by omega, by omega⟩
    have hl : rs1.length = rs.length + (endedL A).length := by rw [e2]; simp
    obtain ⟨e3, e4⟩ := k.fit ⟨by omega, by omega⟩
    refine ⟨by rw [List.length_append]; omega, ?_⟩
    rw [e4, e2, endedL_app, List.map_append, List.append_assoc]
  · intro hn
    by_cases f : Fits t rs.length A
    · obtain ⟨e1, e2⟩ := h.fit f
      have hl : rs1.length = rs.length + (endedL A).length := by rw [e2]; simp
      refine k.past (fun g => hn ?_)
      obtain ⟨g1, g2⟩ := g
      refine ⟨by rw [List.length_append]; omega, ?_⟩
      rw [endedL_app, List.length_append]
      omega
    · have h1 := h.le
      have h2 := k.le
      have h3 := k.ge
      rcases h.past f with h4 | h4
      · exact Or.inl (by omega)
      · exact Or.inr (by omega)
/-- One more try, of no route. -/
theorem Went.one {mk : MPath → MRoute} {t : Nat} {rs : List MRoute} {p : MPath} (hp : p.ended = false) : Went mk t rs [p] (t + 1) rs := by
  have e : endedL [p] = [] := by simp [endedL, hp]
  refine ⟨by omega, Nat.le_refl _, fun _ => by simp [e], fun h => ?_⟩
  by_cases h1 : 20000 < t + 1
  · exact Or.inl h1
  · refine Or.inr (Nat.lt_of_not_le (fun h3 => h ⟨by simp; omega, by rw [e]; simpa using h3⟩))
/-- One more try, and a route. -/
theorem Went.made {mk : MPath → MRoute} {t : Nat} {rs : List MRoute} {p : MPath} {r : MRoute} (hp : p.ended = true) (ht : t + 1 ≤ 20000) (hr : r = mk p) : Went mk t rs [p] (t + 1) (rs ++ [r]) := by
  have e : endedL [p] = [p] := by simp [endedL, hp]
  subst hr
  refine ⟨by omega, by simp, fun _ => by simp [e], fun h => ?_⟩
  refine Or.inr (Nat.lt_of_not_le (fun h3 => h ⟨by simpa using ht, by rw [e]; simpa using h3⟩))
/-- Past a limit on the way in: nothing is done. -/
theorem Went.out {mk : MPath → MRoute} {t : Nat} {rs : List MRoute} {p : MPath} {E : List MPath} (h : 20000 < t + 1 ∨ 300 < rs.length) : Went mk t rs (p :: E) (t + 1) rs := by
  refine ⟨by omega, Nat.le_refl _, ?_, fun _ => h⟩
  rintro ⟨f1, f2⟩
  rw [List.length_cons] at f1
  omega

/-! Where a walk stands. -/

structure WalkOk (ps : List MPiece) (js : List MJoint) (ss : List MPiece) (i : Nat) (pre : List MStep) (s : MStep) (lies : List MLie) (crosses : List Int) (pos : Int) : Prop where
  start : i < ss.length
  sv : ValidS ps s
  pv : ∀ x ∈ pre, ValidS ps x
  nd : pre.Nodup
  lv : ∀ l ∈ lies, ∃ (j : Nat) (hj : j < js.length), l.piece = j ∧ js[j].kind = 3 ∧ (l.side = 1 ∨ l.side = 2)
  ld : (lies.map MEnd.piece).Nodup
  cl : crosses.length ≤ pre.length
  place : pos = if pre.length = 0 then sigAt ss i else endAt ps (farE (aheadE s))
  p0 : 0 ≤ pos
  p1 : pos ≤ lenI ps s.piece

theorem aheadE_inj {ps : List MPiece} {a b : MStep} (ha : ValidS ps a) (hb : ValidS ps b) (h : aheadE a = aheadE b) : a = b := by
  obtain ⟨p, hp, e1, e2⟩ := ha
  obtain ⟨q, hq, f1, f2⟩ := hb
  cases a
  cases b
  simp only at e1 e2 f1 f2
  subst e1 f1
  rcases e2 with rfl | rfl <;> rcases f2 with rfl | rfl <;> simp [aheadE] at h ⊢ <;> omega

theorem steps_few {ps : List MPiece} {L : List MStep} (hd : L.Nodup) (hv : ∀ x ∈ L, ValidS ps x) : L.length ≤ 2 * ps.length := by
  have h : Seen ps (L.map aheadE) := by
    refine ⟨?_, ?_⟩
    · unfold List.Nodup
      rw [List.pairwise_map]
      exact List.Pairwise.imp_of_mem (fun ha hb hne e => hne (aheadE_inj (hv _ ha) (hv _ hb) e)) hd
    · intro e he
      obtain ⟨x, hx, rfl⟩ := List.mem_map.1 he
      exact aheadE_valid (hv x hx)
  simpa using h.few

theorem lies_few {js : List MJoint} {lies : List MLie} (hl : ∀ l ∈ lies, ∃ (j : Nat) (hj : j < js.length), l.piece = j ∧ js[j].kind = 3 ∧ (l.side = 1 ∨ l.side = 2)) (hd : (lies.map MEnd.piece).Nodup) : lies.length ≤ js.length := by
  have h1 : (lies.map (fun l => l.piece.toNat)).Nodup := by
    unfold List.Nodup at hd ⊢
    rw [List.pairwise_map] at hd ⊢
    refine List.Pairwise.imp_of_mem (fun ha hb hne e => hne ?_) hd
    obtain ⟨j, _, e1, _⟩ := hl _ ha
    obtain ⟨k, _, e2, _⟩ := hl _ hb
    rw [e1, e2] at e ⊢
    rw [Int.toNat_natCast, Int.toNat_natCast] at e
    rw [e]
  have := nats_few js.length h1 (fun x hx => by
    obtain ⟨l, hl', rfl⟩ := List.mem_map.1 hx
    obtain ⟨j, hj, e1, _⟩ := hl l hl'
    rw [e1]
    simpa using hj)
  simpa using this

theorem lies_like : ∀ {lies : List MLie}, (lies.map MEnd.piece).Nodup → ∀ a ∈ lies, ∀ b ∈ lies, a.piece = b.piece → a.side = b.side
  | [], _ => fun a ha => absurd ha (by simp)
  | x :: r, hd => by
    rw [List.map_cons, List.nodup_cons] at hd
    intro a ha b hb e
    rcases List.mem_cons.1 ha with ha' | ha' <;> rcases List.mem_cons.1 hb with hb' | hb'
    · rw [ha', hb']
    · exact absurd (List.mem_map.2 ⟨b, hb', by rw [← e, ha']⟩) hd.1
    · exact absurd (List.mem_map.2 ⟨a, ha', by rw [e, hb']⟩) hd.1
    · exact lies_like hd.2 a ha' b hb' e

/-- The parts of the steps behind, and one more. -/
theorem fullParts_snoc (ps : List MPiece) (a : Int) (pre : List MStep) (s : MStep) : fullParts ps a (pre ++ [s]) = fullParts ps a pre ++ [partI s.piece (if pre.length = 0 then a else endAt ps (farE (aheadE s))) (endAt ps (aheadE s))] := by
  cases pre with
  | nil => rfl
  | cons x r => simp [fullParts]
theorem fullParts_len (ps : List MPiece) (a : Int) (pre : List MStep) : (fullParts ps a pre).length = pre.length := by
  cases pre with
  | nil => rfl
  | cons x r => simp [fullParts]

theorem specPart_farI {ps : List MPiece} {p way a b : Int} (hw : way = 1 ∨ way = -1) (h : (a - b) * way ≤ 0) : specPart ps p way (farI ps p a way) (farI ps p b way) = partI p a b := by
  rcases hw with rfl | rfl
  · simp only [specPart, farI, partI, if_true]
    rw [if_neg (by omega), Int.min_eq_left (by omega), Int.max_eq_right (by omega)]
  · simp only [specPart, farI, partI]
    rw [if_pos trivial, if_neg (by omega), if_neg (by omega), Int.min_eq_right (by omega), Int.max_eq_left (by omega)]
    congr 1 <;> omega

/-- The whole of a piece ahead. -/
theorem farI_end {ps : List MPiece} {p : Nat} {way : Int} (hp : p < ps.length) (hw : way = 1 ∨ way = -1) : farI ps p (endAt ps (aheadE ⟨p, way⟩)) way = ps[p].len := by
  rcases hw with rfl | rfl
  · simp [farI, endAt, aheadE, lenI_at hp]
  · simp [farI, endAt, aheadE, lenI_at hp]
theorem farI_begin {ps : List MPiece} {e : MEnd} (h : ValidE ps e) : farI ps (stepFromE e).piece (endAt ps e) (stepFromE e).side = 0 ∧ endAt ps (farE (aheadE (stepFromE e))) = endAt ps e := by
  obtain ⟨p, hp, e1, e2⟩ := h
  cases e
  simp only at e1 e2
  subst e1
  rcases e2 with rfl | rfl <;> simp [farI, endAt, aheadE, farE, stepFromE]
theorem endAt_range {ps : List MPiece} {js : List MJoint} {ss : List MPiece} (R : Right ps js ss) {e : MEnd} (h : ValidE ps e) : 0 ≤ endAt ps e ∧ endAt ps e ≤ lenI ps e.piece := by
  obtain ⟨p, hp, e1, e2⟩ := h
  have := R.plen p hp
  have h1 := lenI_at hp
  unfold endAt
  rw [e1, h1]
  split <;> omega
theorem stepFromE_piece (e : MEnd) : (stepFromE e).piece = e.piece := by
  unfold stepFromE
  split <;> rfl

/-- One step on. -/
theorem WalkOk.next {ps : List MPiece} {js : List MJoint} {ss : List MPiece} (R : Right ps js ss) {i : Nat} {pre : List MStep} {s : MStep} {lies lies' : List MLie} {crosses crosses' : List Int} {pos : Int} (h : WalkOk ps js ss i pre s lies crosses pos) (hr : s ∉ pre)
    {e : MEnd} (he : ValidE ps e) (hl : ∀ l ∈ lies', ∃ (j : Nat) (hj : j < js.length), l.piece = j ∧ js[j].kind = 3 ∧ (l.side = 1 ∨ l.side = 2)) (hd : (lies'.map MEnd.piece).Nodup) (hc : crosses'.length ≤ pre.length + 1) :
    WalkOk ps js ss i (pre ++ [s]) (stepFromE e) lies' crosses' (endAt ps e) := by
  refine ⟨h.start, stepFromE_valid he, ?_, ?_, hl, hd, by simpa using hc, ?_, (endAt_range R he).1, by rw [stepFromE_piece]; exact (endAt_range R he).2⟩
  · intro x hx
    rcases List.mem_append.1 hx with hx | hx
    · exact h.pv x hx
    · have : x = s := by simpa using hx
      rw [this]; exact h.sv
  · refine List.nodup_append.2 ⟨h.nd, by simp, ?_⟩
    intro a ha b hb
    have : b = s := by simpa using hb
    subst this
    rintro rfl
    exact hr ha
  · rw [if_neg (by simp), (farI_begin he).2]
theorem WalkOk.few {ps : List MPiece} {js : List MJoint} {ss : List MPiece} {i : Nat} {pre : List MStep} {s : MStep} {lies : List MLie} {crosses : List Int} {pos : Int} (h : WalkOk ps js ss i pre s lies crosses pos) : pre.length ≤ 2 * ps.length := steps_few h.nd h.pv
theorem WalkOk.begin {ps : List MPiece} {js : List MJoint} {ss : List MPiece} (R : Right ps js ss) {i : Nat} (hi : i < ss.length) : WalkOk ps js ss i [] ⟨ss[i].len, ss[i].brake⟩ [] [] ss[i].speed := by
  obtain ⟨p, hp, e1, e2, e3, e4⟩ := R.sig i hi
  refine ⟨hi, ⟨p, hp, e1, e2⟩, by simp, by simp, by simp, by simp, by simp, ?_, by omega, ?_⟩
  · rw [if_pos (by simp), sigAt_at hi]
  · show ss[i].speed ≤ lenI ps ss[i].len
    rw [e1, lenI_at hp]
    omega

/-! What is come to from one place. -/

def pathOf (i : Nat) (L : List MStep) (lies : List MLie) (crosses : List Int) : MPath := ⟨i, 0, false, L, lies, crosses⟩
def endP (i : Nat) (stop : Int) (L : List MStep) (lies : List MLie) (crosses : List Int) : MPath := ⟨i, stop, true, L, lies, crosses⟩
def kidF (ps : List MPiece) (js : List MJoint) (ss : List MPiece) (n : Nat) (p : MPath) (j k t : Nat) : List MPath :=
  match overP js p j k t with
  | none => []
  | some q => evs ps js ss n q (endAt ps (endE js j t))
def kidsF (ps : List MPiece) (js : List MJoint) (ss : List MPiece) (n : Nat) (p : MPath) (j k : Nat) (L : List Nat) : List MPath := L.flatMap (kidF ps js ss n p j k)
theorem kidsF_snoc (ps : List MPiece) (js : List MJoint) (ss : List MPiece) (n : Nat) (p : MPath) (j k : Nat) (L : List Nat) (t : Nat) : kidsF ps js ss n p j k (L ++ [t]) = kidsF ps js ss n p j k L ++ kidF ps js ss n p j k t := by
  simp [kidsF]

theorem sameS_iff {a b : MStep} : sameS a b = true ↔ a = b := by
  cases a
  cases b
  simp [sameS]
theorem lastS_snoc (i : Nat) (pre : List MStep) (s : MStep) (lies : List MLie) (crosses : List Int) : lastS (pathOf i (pre ++ [s]) lies crosses) = s := by simp [lastS, pathOf]
theorem roundB_snoc (i : Nat) (pre : List MStep) (s : MStep) (lies : List MLie) (crosses : List Int) : roundB (pathOf i (pre ++ [s]) lies crosses) = true ↔ s ∈ pre := by
  unfold roundB
  rw [lastS_snoc]
  show ((pre ++ [s]).dropLast.any fun x => sameS x s) = true ↔ s ∈ pre
  rw [List.dropLast_concat, List.any_eq_true]
  constructor
  · rintro ⟨x, hx, h⟩
    rw [← sameS_iff.1 h]; exact hx
  · intro h
    exact ⟨s, h, sameS_iff.2 rfl⟩

section
variable {ps : List MPiece} {js : List MJoint} {ss : List MPiece} {n i : Nat} {pre : List MStep} {s : MStep} {lies : List MLie} {crosses : List Int} {pos : Int}
theorem evs_signal (h : 0 ≤ nextB ss s.piece s.side pos ss.length) : evs ps js ss (n + 1) (pathOf i (pre ++ [s]) lies crosses) pos = [endP i (nextB ss s.piece s.side pos ss.length) (pre ++ [s]) lies crosses] := by
  unfold evs stopP
  rw [lastS_snoc, if_pos h]
  simp [pathOf, endP]
theorem evs_round (h : ¬ 0 ≤ nextB ss s.piece s.side pos ss.length) (hr : s ∈ pre) : evs ps js ss (n + 1) (pathOf i (pre ++ [s]) lies crosses) pos = [pathOf i (pre ++ [s]) lies crosses] := by
  have hb := (roundB_snoc i pre s lies crosses).2 hr
  unfold evs stopP
  rw [lastS_snoc, if_neg h, hb]
  simp [pathOf]
theorem evs_buffer (h : ¬ 0 ≤ nextB ss s.piece s.side pos ss.length) (hr : s ∉ pre) (hk : kindE js (spotE js (aheadE s)).1 = 1) : evs ps js ss (n + 1) (pathOf i (pre ++ [s]) lies crosses) pos = [endP i (-1) (pre ++ [s]) lies crosses] := by
  have hb : roundB (pathOf i (pre ++ [s]) lies crosses) = false := by
    cases e : roundB (pathOf i (pre ++ [s]) lies crosses) with
    | false => rfl
    | true => exact absurd ((roundB_snoc i pre s lies crosses).1 e) hr
  unfold evs stopP
  rw [lastS_snoc, if_neg h, hb, hk]
  simp [pathOf, endP]
theorem evs_on (h : ¬ 0 ≤ nextB ss s.piece s.side pos ss.length) (hr : s ∉ pre) (hk : kindE js (spotE js (aheadE s)).1 ≠ 1) : evs ps js ss (n + 1) (pathOf i (pre ++ [s]) lies crosses) pos = pathOf i (pre ++ [s]) lies crosses :: kidsF ps js ss n (pathOf i (pre ++ [s]) lies crosses) (spotE js (aheadE s)).1 (spotE js (aheadE s)).2 (beyondF (kindE js (spotE js (aheadE s)).1) (spotE js (aheadE s)).2) := by
  have hb : roundB (pathOf i (pre ++ [s]) lies crosses) = false := by
    cases e : roundB (pathOf i (pre ++ [s]) lies crosses) with
    | false => rfl
    | true => exact absurd ((roundB_snoc i pre s lies crosses).1 e) hr
  have hst : stopP js ss (pathOf i (pre ++ [s]) lies crosses) pos = pathOf i (pre ++ [s]) lies crosses := by
    unfold stopP
    rw [lastS_snoc, if_neg h, if_neg (fun e => hk e.1)]
    rfl
  have hst2 : (pathOf i (pre ++ [s]) lies crosses).ended = false := rfl
  rw [evs, hst, lastS_snoc, hb, hst2, if_neg (by simp)]
  rfl
theorem evs_ne (m : Nat) (p : MPath) : ∃ q E, evs ps js ss (m + 1) p pos = q :: E := ⟨_, _, rfl⟩

theorem over_plain {j k t : Nat} {L : List MStep} (h : kindE js j = 2) : overP js (pathOf i L lies crosses) j k t = some (pathOf i (L ++ [stepFromE (endE js j t)]) lies crosses) := by
  unfold overP
  rw [h]
  simp [pathOf]
theorem over_cross {j k t : Nat} {L : List MStep} (h : kindE js j = 4) : overP js (pathOf i L lies crosses) j k t = some (pathOf i (L ++ [stepFromE (endE js j t)]) lies (crosses ++ [(j : Int)])) := by
  unfold overP
  rw [h]
  simp [pathOf]
theorem over_same {j k t : Nat} {L : List MStep} (h : kindE js j = 3) (hl : lieF lies j = (max k t : Nat)) (hz : lieF lies j ≠ 0) : overP js (pathOf i L lies crosses) j k t = some (pathOf i (L ++ [stepFromE (endE js j t)]) lies crosses) := by
  show (if kindE js j = 4 then _ else if kindE js j = 3 then (if lieF lies j ≠ 0 then (if lieF lies j = (max k t : Nat) then _ else _) else _) else _) = _
  rw [if_neg (by omega), if_pos h, if_pos hz, if_pos hl]
  rfl
theorem over_other {j k t : Nat} {L : List MStep} (h : kindE js j = 3) (hl : lieF lies j ≠ (max k t : Nat)) (hz : lieF lies j ≠ 0) : overP js (pathOf i L lies crosses) j k t = none := by
  show (if kindE js j = 4 then _ else if kindE js j = 3 then (if lieF lies j ≠ 0 then (if lieF lies j = (max k t : Nat) then _ else _) else _) else _) = _
  rw [if_neg (by omega), if_pos h, if_pos hz, if_neg hl]
theorem over_new {j k t : Nat} {L : List MStep} (h : kindE js j = 3) (hz : lieF lies j = 0) : overP js (pathOf i L lies crosses) j k t = some (pathOf i (L ++ [stepFromE (endE js j t)]) (lies ++ [⟨j, (max k t : Nat)⟩]) crosses) := by
  show (if kindE js j = 4 then _ else if kindE js j = 3 then (if lieF lies j ≠ 0 then (if lieF lies j = (max k t : Nat) then _ else _) else _) else _) = _
  rw [if_neg (by omega), if_pos h, if_neg (fun e => e hz)]
  rfl

theorem partsF_end {stop : Int} (h : WalkOk ps js ss i pre s lies crosses pos) : partsF ps ss (endP i stop (pre ++ [s]) lies crosses) = fullParts ps (sigAt ss i) pre ++ [partI s.piece pos (if 0 ≤ stop then sigAt ss stop else endAt ps (aheadE s))] := by
  unfold partsF
  have h1 : lastS (endP i stop (pre ++ [s]) lies crosses) = s := by simp [lastS, endP]
  rw [h1]
  simp only [endP, List.dropLast_concat, List.length_append, List.length_singleton]
  rw [h.place]
  congr 3
  by_cases hp : pre.length = 0
  · rw [if_pos (by omega), if_pos hp]
  · rw [if_neg (by omega), if_neg hp]
theorem fullParts_on (h : WalkOk ps js ss i pre s lies crosses pos) : fullParts ps (sigAt ss i) pre ++ [partI s.piece pos (endAt ps (aheadE s))] = fullParts ps (sigAt ss i) (pre ++ [s]) := by
  rw [fullParts_snoc, h.place]

/-- A joint's own Lie: the one that is wanted, or none. -/
theorem lieF_any (hl : ∀ l ∈ lies, ∃ (j : Nat) (hj : j < js.length), l.piece = j ∧ js[j].kind = 3 ∧ (l.side = 1 ∨ l.side = 2)) {j : Int} (h : lies.any (fun l => l.piece == j) = true) : lieF lies j ≠ 0 := by
  unfold lieF
  cases hf : lies.find? (fun l => l.piece == j) with
  | none =>
    obtain ⟨x, hx, h2⟩ := List.any_eq_true.1 h
    exact absurd h2 (by simpa using List.find?_eq_none.1 hf x hx)
  | some l =>
    obtain ⟨_, _, _, _, h3⟩ := hl l (List.mem_of_find?_eq_some hf)
    show l.side ≠ 0
    omega
theorem lieF_not {j : Int} (h : ¬ lies.any (fun l => l.piece == j) = true) : lieF lies j = 0 := by
  unfold lieF
  cases hf : lies.find? (fun l => l.piece == j) with
  | none => rfl
  | some l => exact absurd (List.any_eq_true.2 ⟨l, List.mem_of_find?_eq_some hf, List.find?_some hf⟩) h
theorem lies_push (hl : ∀ l ∈ lies, ∃ (j : Nat) (hj : j < js.length), l.piece = j ∧ js[j].kind = 3 ∧ (l.side = 1 ∨ l.side = 2)) {j : Nat} {x : Int} (hj : j < js.length) (hk : js[j].kind = 3) (hx : x = 1 ∨ x = 2) : ∀ l ∈ lies ++ [(⟨(j : Int), x⟩ : MLie)], ∃ (j : Nat) (hj : j < js.length), l.piece = j ∧ js[j].kind = 3 ∧ (l.side = 1 ∨ l.side = 2) := by
  intro l hm
  rcases List.mem_append.1 hm with hm | hm
  · exact hl l hm
  · have : l = (⟨(j : Int), x⟩ : MLie) := by simpa using hm
    subst this
    exact ⟨j, hj, rfl, hk, hx⟩
theorem lies_pushd (hd : (lies.map MEnd.piece).Nodup) {j : Int} {x : Int} (h : ¬ lies.any (fun l => l.piece == j) = true) : ((lies ++ [(⟨j, x⟩ : MLie)]).map MEnd.piece).Nodup := by
  rw [List.map_append]
  refine List.nodup_append.2 ⟨hd, by simp, ?_⟩
  intro a ha b hb
  have : b = j := by simpa using hb
  subst this
  rintro rfl
  obtain ⟨l, hl, e⟩ := List.mem_map.1 ha
  exact h (List.any_eq_true.2 ⟨l, hl, by simpa using e⟩)
end

end Go.Proofs.Ytmkdgnmmebldgaa

namespace Go.Proofs.Ytmkdgnmmebldgaa
open Go.RowKit Go.Deep

/-! What stands in memory while a walk goes on. -/

/-- The eight cells of a route. -/
def encR (x : RAddr × MRoute) : List Value := [.int .i64 x.2.start, .int .i64 x.2.stop, .slice x.1.a0 x.2.steps.length x.1.c0, .slice x.1.a1 x.2.lies.length x.1.c1, .slice x.1.a2 x.2.crosses.length x.1.c2, .slice x.1.a3 x.2.parts.length x.1.c3, .slice x.1.a4 x.2.over.length x.1.c4, .slice x.1.a5 x.2.flanks.length x.1.c5]
def flatR (pr : List (RAddr × MRoute)) : List Value := pr.flatMap encR
theorem flatR_snoc (pr : List (RAddr × MRoute)) (x : RAddr × MRoute) : flatR (pr ++ [x]) = flatR pr ++ encR x := by simp [flatR]

/-- A row of routes of one's own lies there. -/
def IsRow (w : World) (k : Nat) : Prop := ∃ cur, w.heap[k]? = some (.cells cur 42 (0, 0))
/-- A list lies neither in the finder nor in a row of routes. -/
def NotR (w : World) (F : Nat) (a : Option Addr) (n : Nat) : Prop := n = 0 ∨ ∀ b off, a = some ⟨b, off, none⟩ → b ≠ F ∧ b < w.heap.size ∧ ¬ IsRow w b
/-- What a walk may turn: the finder, and its own row of routes, which lies there behind where it lay, or in a new block. -/
structure Eff (F : Nat) (v v' : Value) (w w' : World) : Prop where
  only : Only (fun k => k = F ∨ v.ownBlock = some k) w w'
  tame : Tame w v v'
  rows : ∀ k, v.ownBlock = some k → F < k ∧ IsRow w k

abbrev noRow : Value := .slice none 0 0
theorem Eff.of_below {F : Nat} {w w' : World} (h : Below w.heap.size w w') : Eff F noRow noRow w w' := ⟨Only.of_below h, Tame.refl _ _, fun _ h => by cases h⟩
theorem Eff.size {F : Nat} {v v' : Value} {w w' : World} (h : Eff F v v' w w') : w.heap.size ≤ w'.heap.size := Only.size h.only
theorem Eff.trans {F : Nat} {v v1 v2 : Value} {a b c : World} (h : Eff F v v1 a b) (k : Eff F v1 v2 b c) : Eff F v v2 a c :=
  ⟨⟨k.only.os.trans h.only.os, k.only.tape.trans h.only.tape, k.only.output.trans h.only.output, Nat.le_trans h.size k.size, fun x hx hn => by
    refine (k.only.block x (Nat.lt_of_lt_of_le hx h.size) ?_).trans (h.only.block x hx hn)
    rintro (h1 | h1)
    · exact hn (Or.inl h1)
    · rcases h.tame x h1 with h2 | h2
      · exact hn (Or.inr h2)
      · omega⟩, h.tame.trans k.tame h.size, h.rows⟩
theorem Eff.later {F : Nat} {v v1 : Value} {a b c : World} (h : Eff F v v1 a b) (k : Below b.heap.size b c) : Eff F v v1 a c :=
  ⟨h.only.trans (Only.of_below k), h.tame, h.rows⟩
theorem Eff.set {F : Nat} {w : World} (o : Nat) (u : Value) : Eff F noRow noRow w (w.setCell ⟨F, o, none⟩ u) := ⟨Only.setCell (Only.refl _ _) (p := ⟨F, o, none⟩) (Or.inl (Or.inl rfl)) u, Tame.refl _ _, fun _ h => by cases h⟩
theorem Eff.below {F : Nat} {v v' : Value} {w w' : World} {B : Nat} (h : Eff F v v' w w') (hB : B ≤ F) (hz : F < w.heap.size) : Below B w w' :=
  ⟨h.only.os, h.only.tape, h.only.output, h.size, fun x hx => h.only.block x (by omega) (by
    rintro (h1 | h1)
    · omega
    · have := (h.rows x h1).1
      omega)⟩
theorem Eff.block {F : Nat} {v v' : Value} {w w' : World} (h : Eff F v v' w w') {b : Nat} (h1 : b ≠ F) (h2 : b < w.heap.size) (h3 : v.ownBlock ≠ some b) : w'.heap[b]? = w.heap[b]? := h.only.block b h2 (by
  rintro (h4 | h4)
  · exact h1 h4
  · exact h3 h4)
theorem Eff.blockR {F : Nat} {v v' : Value} {w w' : World} (h : Eff F v v' w w') {b : Nat} (h1 : b ≠ F) (h2 : b < w.heap.size) (h3 : ¬ IsRow w b) : w'.heap[b]? = w.heap[b]? := h.block h1 h2 (fun e => h3 (h.rows b e).2)

theorem NotR.kept {F : Nat} {v v' : Value} {w w' : World} {a : Option Addr} {n : Nat} (h : NotR w F a n) (he : Eff F v v' w w') : NotR w' F a n := by
  rcases h with h | h
  · exact Or.inl h
  · refine Or.inr (fun b off e => ?_)
    obtain ⟨h1, h2, h3⟩ := h b off e
    have hb := he.blockR h1 h2 h3
    exact ⟨h1, Nat.lt_of_lt_of_le h2 he.size, fun ⟨cur, hc⟩ => h3 ⟨cur, by rw [← hb]; exact hc⟩⟩
theorem notR_nil (w : World) (F : Nat) (a : Option Addr) : NotR w F a 0 := Or.inl rfl
theorem notR_own {w : World} {F B e s n : Nat} {a : Option Addr} {c : Nat} {xs : List Value} (h : w.ownsRow B e s (.slice a n c) n xs) (he : e ≠ 42) (hB : F < B) : NotR w F a n := by
  rcases h.2 with ⟨h1, h2⟩ | ⟨g, cap, cur, h1, h2, h3, _⟩
  · exact Or.inl h2
  · refine Or.inr (fun b off ea => ?_)
    cases h1
    cases ea
    refine ⟨by omega, (Array.getElem?_eq_some_iff.1 h3).1, fun ⟨cur', h4⟩ => ?_⟩
    rw [h3] at h4
    simp only [Option.some.injEq, Obj.cells.injEq] at h4
    exact he h4.2.1
theorem isRow_own {w : World} {B s n : Nat} {v : Value} {xs : List Value} (h : w.ownsRow B 42 s v n xs) {k : Nat} (hk : v.ownBlock = some k) : B ≤ k ∧ IsRow w k := by
  rcases h.2 with ⟨h1, h2⟩ | ⟨g, cap, cur, h1, h2, h3, _⟩
  · rw [h1] at hk; cases hk
  · rw [h1] at hk
    simp only [Value.ownBlock, Option.some.injEq] at hk
    subst hk
    exact ⟨h2, cur, h3⟩

/-- The lists of a route lie there, and no walk turns them. -/
structure RKeep (w : World) (F : Nat) (d : RAddr) (r : MRoute) : Prop where
  lists : RListsAt w d r
  n0 : NotR w F d.a0 r.steps.length
  n1 : NotR w F d.a1 r.lies.length
  n2 : NotR w F d.a2 r.crosses.length
  n3 : NotR w F d.a3 r.parts.length
  n4 : NotR w F d.a4 r.over.length
  n5 : NotR w F d.a5 r.flanks.length

theorem NotR.same {α : Type} {F : Nat} {v v' : Value} {w w' : World} {a : Option Addr} {L : List α} (h : NotR w F a L.length) (he : Eff F v v' w w') : L = [] ∨ ∀ b off, a = some ⟨b, off, none⟩ → w'.heap[b]? = w.heap[b]? := by
  rcases h with h | h
  · exact Or.inl (List.eq_nil_of_length_eq_zero h)
  · exact Or.inr (fun b off e => by obtain ⟨h1, h2, h3⟩ := h b off e; exact he.blockR h1 h2 h3)
theorem RKeep.kept {w w' : World} {F : Nat} {v v' : Value} {d : RAddr} {r : MRoute} (h : RKeep w F d r) (he : Eff F v v' w w') : RKeep w' F d r :=
  ⟨⟨h.lists.steps.kept (h.n0.same he), h.lists.lies.kept (h.n1.same he), h.lists.crosses.kept (h.n2.same he), h.lists.parts.kept (h.n3.same he), h.lists.over.kept (h.n4.same he), h.lists.flanks.kept (h.n5.same he), h.lists.nil1⟩, h.n0.kept he, h.n1.kept he, h.n2.kept he, h.n3.kept he, h.n4.kept he, h.n5.kept he⟩

/-- What stands while a walk goes on. -/
structure WS (w0 w : World) (F : Nat) (pa ja sa : Option Addr) (pc jc sc np nj ns : Nat) (over : Int) (xo : Option Addr) (yo t : Nat) (pr : List (RAddr × MRoute)) : Prop where
  base : Below w0.heap.size w0 w
  f : w0.heap.size ≤ F
  c0 : w.cell? ⟨F, 0, none⟩ = some (.slice pa np pc)
  c1 : w.cell? ⟨F, 1, none⟩ = some (.slice ja nj jc)
  c2 : w.cell? ⟨F, 2, none⟩ = some (.slice sa ns sc)
  c3 : w.cell? ⟨F, 3, none⟩ = some (.int .i64 over)
  c4 : w.cell? ⟨F, 4, none⟩ = some (.slice xo pr.length yo)
  z4 : w.frozen? ⟨F, 4, none⟩ = false
  c5 : w.cell? ⟨F, 5, none⟩ = some (.int .i64 (t : Int))
  z5 : w.frozen? ⟨F, 5, none⟩ = false
  s6 : ∃ v, w.cell? ⟨F, 6, none⟩ = some v
  z6 : w.frozen? ⟨F, 6, none⟩ = false
  own : w.ownsRow (F + 1) 42 8 (.slice xo pr.length yo) pr.length (flatR pr)
  keep : ∀ x ∈ pr, RKeep w F x.1 x.2

section
variable {w0 w w' : World} {F : Nat} {pa ja sa : Option Addr} {pc jc sc np nj ns : Nat} {over : Int} {xo : Option Addr} {yo t : Nat} {pr : List (RAddr × MRoute)}
theorem WS.lt (h : WS w0 w F pa ja sa pc jc sc np nj ns over xo yo t pr) : F < w.heap.size := cellLt h.c0
theorem WS.below (h : WS w0 w F pa ja sa pc jc sc np nj ns over xo yo t pr) (hb : Below w.heap.size w w') : WS w0 w' F pa ja sa pc jc sc np nj ns over xo yo t pr := by
  obtain ⟨v, hv⟩ := h.s6
  exact ⟨h.base.trans (hb.mono h.base.size), h.f, cell_later hb h.c0, cell_later hb h.c1, cell_later hb h.c2, cell_later hb h.c3, cell_later hb h.c4, (hb.frozen (p := ⟨F, 4, none⟩) h.lt).trans h.z4, cell_later hb h.c5, (hb.frozen (p := ⟨F, 5, none⟩) h.lt).trans h.z5, ⟨v, cell_later hb hv⟩, (hb.frozen (p := ⟨F, 6, none⟩) h.lt).trans h.z6, owns_below h.own hb, fun x hx => (h.keep x hx).kept (Eff.of_below hb)⟩
/-- 'f.tries++'. -/
theorem WS.inc (h : WS w0 w F pa ja sa pc jc sc np nj ns over xo yo t pr) (t' : Nat) : WS w0 (w.setCell ⟨F, 5, none⟩ (.int .i64 (t' : Int))) F pa ja sa pc jc sc np nj ns over xo yo t' pr := by
  obtain ⟨v, hv⟩ := h.s6
  have hc : ∀ {o : Nat} {u : Value}, o ≠ 5 → w.cell? ⟨F, o, none⟩ = some u → (w.setCell ⟨F, 5, none⟩ (.int .i64 (t' : Int))).cell? ⟨F, o, none⟩ = some u := fun ho hc => by
    rw [World.cell?_setCell_other _ _ _ _ (by first | (simp; done) | (simp; omega))]
    exact hc
  refine ⟨h.base.setCell (p := ⟨F, 5, none⟩) h.f _, h.f, hc (by omega) h.c0, hc (by omega) h.c1, hc (by omega) h.c2, hc (by omega) h.c3, hc (by omega) h.c4, ?_, World.cell?_setCell_same _ _ _ h.c5, ?_, ⟨v, hc (by omega) hv⟩, ?_, ownsRow_setCell_below h.own (Nat.lt_succ_self F) _, fun x hx => (h.keep x hx).kept (Eff.set 5 _)⟩
  · rw [World.frozen?_setCell]; exact h.z4
  · rw [World.frozen?_setCell]; exact h.z5
  · rw [World.frozen?_setCell]; exact h.z6
theorem WS.rows (h : WS w0 w F pa ja sa pc jc sc np nj ns over xo yo t pr) : ∀ k, (Value.slice xo pr.length yo).ownBlock = some k → F < k ∧ IsRow w k := fun _ hk => isRow_own h.own hk
theorem WS.eff0 (h : WS w0 w F pa ja sa pc jc sc np nj ns over xo yo t pr) (hb : Below w.heap.size w w') : Eff F (.slice xo pr.length yo) (.slice xo pr.length yo) w w' := ⟨Only.of_below hb, Tame.refl _ _, h.rows⟩
theorem WS.effI (h : WS w0 w F pa ja sa pc jc sc np nj ns over xo yo t pr) (u : Value) : Eff F (.slice xo pr.length yo) (.slice xo pr.length yo) w (w.setCell ⟨F, 5, none⟩ u) := ⟨Only.setCell (Only.refl _ _) (p := ⟨F, 5, none⟩) (Or.inl (Or.inl rfl)) u, Tame.refl _ _, h.rows⟩
/-- One route more. -/
theorem WS.more (h : WS w0 w F pa ja sa pc jc sc np nj ns over xo yo t pr) {fl : List MFlank} {news : Option Addr → Nat → List Value} {e : Ending} (hd : DonePost F (F + 1) pr.length (.slice xo pr.length yo) (flatR pr) w fl news e w')
    (d : Option Addr → Nat → RAddr) (r : MRoute) (hn : ∀ a c, news a c = encR (d a c, r)) (hk : ∀ a c v', w'.ownsRow w.heap.size 57 4 (.slice a fl.length c) fl.length (flatF fl) → Eff F (.slice xo pr.length yo) v' w w' → RKeep w' F (d a c) r) :
    e = .returned (.tuple #[]) ∧ ∃ x' y' dd, WS w0 w' F pa ja sa pc jc sc np nj ns over x' y' t (pr ++ [(dd, r)]) ∧ Eff F (.slice xo pr.length yo) (.slice x' (pr.length + 1) y') w w' := by
  obtain ⟨he, x', y', xf, yf, h4, ho, hf, hT, hc, hz, h6, hO⟩ := hd
  have hE : Eff F (.slice xo pr.length yo) (.slice x' (pr.length + 1) y') w w' := ⟨hO, hT, h.rows⟩
  have el : (pr ++ [(d xf yf, r)]).length = pr.length + 1 := by simp
  rw [hn, ← flatR_snoc] at ho
  refine ⟨he, x', y', d xf yf, ⟨h.base.trans (hE.below h.f h.lt), h.f, ?_, ?_, ?_, ?_, ?_, ?_, ?_, ?_, h6, ?_, ?_, ?_⟩, hE⟩
  · rw [hc 0 (by omega) (by omega)]; exact h.c0
  · rw [hc 1 (by omega) (by omega)]; exact h.c1
  · rw [hc 2 (by omega) (by omega)]; exact h.c2
  · rw [hc 3 (by omega) (by omega)]; exact h.c3
  · rw [el]; exact h4
  · rw [hz 4]; exact h.z4
  · rw [hc 5 (by omega) (by omega)]; exact h.c5
  · rw [hz 5]; exact h.z5
  · rw [hz 6]; exact h.z6
  · rw [el]; exact ho
  · intro x hx
    rcases List.mem_append.1 hx with hx | hx
    · exact (h.keep x hx).kept hE
    · have : x = (d xf yf, r) := by simpa using hx
      rw [this]
      exact hk xf yf _ hf hE
end

/-- The route that a walk is handed. -/
def walkR (ps : List MPiece) (ss : List MPiece) (i : Nat) (pre : List MStep) (lies : List MLie) (crosses : List Int) : MRoute := ⟨i, 0, pre, lies, crosses, fullParts ps (sigAt ss i) pre, [], []⟩

/-- What a walk leaves. -/
def WalkPost (w0 w : World) (F : Nat) (pa ja sa : Option Addr) (pc jc sc : Nat) (ps : List MPiece) (js : List MJoint) (ss : List MPiece) (over : Int) (n t : Nat) (vo : Value) (rs : List MRoute) (E : List MPath) (e : Ending) (w' : World) : Prop :=
  e = .returned (.tuple #[]) ∧ ∃ xo yo t' pr, WS w0 w' F pa ja sa pc jc sc ps.length js.length ss.length over xo yo t' pr ∧ Eff F vo (.slice xo pr.length yo) w w' ∧ Went (routeF ps js ss over) t rs E t' (pr.map Prod.snd) ∧ t' ≤ max (t + 1) (20000 + n) ∧ pr.length ≤ 301

def WalkSpec (w0 : World) (F : Nat) (pa ja sa : Option Addr) (pc jc sc : Nat) (ps : List MPiece) (js : List MJoint) (ss : List MPiece) (over : Int) (n : Nat) : Prop :=
  ∀ (a0 : Option Addr) (k0 : Nat) (a1 : Option Addr) (k1 : Nat) (a2 : Option Addr) (k2 : Nat) (a3 : Option Addr) (k3 : Nat) (i : Nat) (pre : List MStep) (p : Nat) (way : Int) (lies : List MLie) (crosses : List Int) (pos : Int) (xo : Option Addr) (yo t : Nat) (pr : List (RAddr × MRoute)) (w : World), WalkOk ps js ss i pre ⟨p, way⟩ lies crosses pos → n + pre.length = 2 * ps.length + 2 →
    WS w0 w F pa ja sa pc jc sc ps.length js.length ss.length over xo yo t pr → RKeep w F ⟨a0, k0, a1, k1, a2, k2, a3, k3, none, 0, none, 0⟩ (walkR ps ss i pre lies crosses) → NilR ⟨a0, k0, a1, k1, a2, k2, a3, k3, none, 0, none, 0⟩ (walkR ps ss i pre lies crosses) → t ≤ 100000 → pr.length ≤ 301 →
    Calls Try.prog 44 #[.pointer (some ⟨F, 0, none⟩), .agg #[.int .i64 i, .int .i64 0, .slice a0 pre.length k0, .slice a1 lies.length k1, .slice a2 crosses.length k2, .slice a3 pre.length k3, .slice none 0 0, .slice none 0 0], .int .i64 p, .int .i64 way, .int .i64 (farI ps p pos way)] w (WalkPost w0 w F pa ja sa pc jc sc ps js ss over n t (.slice xo pr.length yo) (pr.map Prod.snd) (evs ps js ss n (pathOf i (pre ++ [⟨p, way⟩]) lies crosses) pos))

end Go.Proofs.Ytmkdgnmmebldgaa

namespace Go.Proofs.Ytmkdgnmmebldgaa
open Go.RowKit Go.Deep

/-! The route that a walk builds, in a block of its own, its lists in rows of their own. -/

/-- The eight cells of a route's own block. -/
structure QC (W : World) (Q : Nat) (u0 u1 u2 u3 u4 u5 u6 u7 : Value) : Prop where
  q0 : W.cell? ⟨Q, 0, none⟩ = some u0
  q1 : W.cell? ⟨Q, 1, none⟩ = some u1
  q2 : W.cell? ⟨Q, 2, none⟩ = some u2
  q3 : W.cell? ⟨Q, 3, none⟩ = some u3
  q4 : W.cell? ⟨Q, 4, none⟩ = some u4
  q5 : W.cell? ⟨Q, 5, none⟩ = some u5
  q6 : W.cell? ⟨Q, 6, none⟩ = some u6
  q7 : W.cell? ⟨Q, 7, none⟩ = some u7
  z : ∀ o, W.frozen? ⟨Q, o, none⟩ = false
  ty : IsRow W Q

section
variable {W W' : World} {Q : Nat} {u0 u1 u2 u3 u4 u5 u6 u7 : Value}
theorem QC.lt (h : QC W Q u0 u1 u2 u3 u4 u5 u6 u7) : Q < W.heap.size := cellLt h.q0
theorem QC.of_block (h : QC W Q u0 u1 u2 u3 u4 u5 u6 u7) (e : W'.heap[Q]? = W.heap[Q]?) : QC W' Q u0 u1 u2 u3 u4 u5 u6 u7 :=
  ⟨(World.cell?_of_block (w := W) e).trans h.q0, (World.cell?_of_block (w := W) e).trans h.q1, (World.cell?_of_block (w := W) e).trans h.q2, (World.cell?_of_block (w := W) e).trans h.q3, (World.cell?_of_block (w := W) e).trans h.q4, (World.cell?_of_block (w := W) e).trans h.q5, (World.cell?_of_block (w := W) e).trans h.q6, (World.cell?_of_block (w := W) e).trans h.q7, fun o => (World.frozen?_of_block e).trans (h.z o), (by obtain ⟨cur, hc⟩ := h.ty; exact ⟨cur, e.trans hc⟩)⟩
theorem QC.below (h : QC W Q u0 u1 u2 u3 u4 u5 u6 u7) (hb : Below W.heap.size W W') : QC W' Q u0 u1 u2 u3 u4 u5 u6 u7 := h.of_block (hb.block Q h.lt)
theorem ty_set {W : World} {Q o : Nat} {v : Value} (h : IsRow W Q) : IsRow (W.setCell ⟨Q, o, none⟩ v) Q := by
  obtain ⟨cur, hb⟩ := h
  exact ⟨cur.setIfInBounds o v, by simp [World.setCell, Array.getElem?_modify, hb]⟩
theorem qc_alloc (W : World) (u0 u1 u2 u3 u4 u5 u6 u7 : Value) : QC (W.alloc (.cells #[u0, u1, u2, u3, u4, u5, u6, u7] 42)) W.heap.size u0 u1 u2 u3 u4 u5 u6 u7 := by
  have h := row_of_alloc2 W #[u0, u1, u2, u3, u4, u5, u6, u7] 42
  exact ⟨h.cell (i := 0) (by simp), h.cell (i := 1) (by simp), h.cell (i := 2) (by simp), h.cell (i := 3) (by simp), h.cell (i := 4) (by simp), h.cell (i := 5) (by simp), h.cell (i := 6) (by simp), h.cell (i := 7) (by simp), fun o => h.frozen o, (by obtain ⟨c, hc, _⟩ := h; exact ⟨c, hc⟩)⟩
theorem qc_setOther {o o' : Nat} {v u : Value} (ho : o ≠ o') (h : W.cell? ⟨Q, o, none⟩ = some u) : (W.setCell ⟨Q, o', none⟩ v).cell? ⟨Q, o, none⟩ = some u := by
  rw [World.cell?_setCell_other _ _ _ _ (by first | (simp; done) | (simp; omega))]
  exact h
theorem QC.set0 (h : QC W Q u0 u1 u2 u3 u4 u5 u6 u7) (v : Value) : QC (W.setCell ⟨Q, 0, none⟩ v) Q v u1 u2 u3 u4 u5 u6 u7 :=
  ⟨World.cell?_setCell_same _ _ _ h.q0, qc_setOther (by omega) h.q1, qc_setOther (by omega) h.q2, qc_setOther (by omega) h.q3, qc_setOther (by omega) h.q4, qc_setOther (by omega) h.q5, qc_setOther (by omega) h.q6, qc_setOther (by omega) h.q7, fun o => (by rw [World.frozen?_setCell]; exact h.z o), ty_set h.ty⟩
theorem QC.set1 (h : QC W Q u0 u1 u2 u3 u4 u5 u6 u7) (v : Value) : QC (W.setCell ⟨Q, 1, none⟩ v) Q u0 v u2 u3 u4 u5 u6 u7 :=
  ⟨qc_setOther (by omega) h.q0, World.cell?_setCell_same _ _ _ h.q1, qc_setOther (by omega) h.q2, qc_setOther (by omega) h.q3, qc_setOther (by omega) h.q4, qc_setOther (by omega) h.q5, qc_setOther (by omega) h.q6, qc_setOther (by omega) h.q7, fun o => (by rw [World.frozen?_setCell]; exact h.z o), ty_set h.ty⟩
theorem QC.set2 (h : QC W Q u0 u1 u2 u3 u4 u5 u6 u7) (v : Value) : QC (W.setCell ⟨Q, 2, none⟩ v) Q u0 u1 v u3 u4 u5 u6 u7 :=
  ⟨qc_setOther (by omega) h.q0, qc_setOther (by omega) h.q1, World.cell?_setCell_same _ _ _ h.q2, qc_setOther (by omega) h.q3, qc_setOther (by omega) h.q4, qc_setOther (by omega) h.q5, qc_setOther (by omega) h.q6, qc_setOther (by omega) h.q7, fun o => (by rw [World.frozen?_setCell]; exact h.z o), ty_set h.ty⟩
theorem QC.set3 (h : QC W Q u0 u1 u2 u3 u4 u5 u6 u7) (v : Value) : QC (W.setCell ⟨Q, 3, none⟩ v) Q u0 u1 u2 v u4 u5 u6 u7 :=
  ⟨qc_setOther (by omega) h.q0, qc_setOther (by omega) h.q1, qc_setOther (by omega) h.q2, World.cell?_setCell_same _ _ _ h.q3, qc_setOther (by omega) h.q4, qc_setOther (by omega) h.q5, qc_setOther (by omega) h.q6, qc_setOther (by omega) h.q7, fun o => (by rw [World.frozen?_setCell]; exact h.z o), ty_set h.ty⟩
theorem QC.set4 (h : QC W Q u0 u1 u2 u3 u4 u5 u6 u7) (v : Value) : QC (W.setCell ⟨Q, 4, none⟩ v) Q u0 u1 u2 u3 v u5 u6 u7 :=
  ⟨qc_setOther (by omega) h.q0, qc_setOther (by omega) h.q1, qc_setOther (by omega) h.q2, qc_setOther (by omega) h.q3, World.cell?_setCell_same _ _ _ h.q4, qc_setOther (by omega) h.q5, qc_setOther (by omega) h.q6, qc_setOther (by omega) h.q7, fun o => (by rw [World.frozen?_setCell]; exact h.z o), ty_set h.ty⟩
theorem QC.set5 (h : QC W Q u0 u1 u2 u3 u4 u5 u6 u7) (v : Value) : QC (W.setCell ⟨Q, 5, none⟩ v) Q u0 u1 u2 u3 u4 v u6 u7 :=
  ⟨qc_setOther (by omega) h.q0, qc_setOther (by omega) h.q1, qc_setOther (by omega) h.q2, qc_setOther (by omega) h.q3, qc_setOther (by omega) h.q4, World.cell?_setCell_same _ _ _ h.q5, qc_setOther (by omega) h.q6, qc_setOther (by omega) h.q7, fun o => (by rw [World.frozen?_setCell]; exact h.z o), ty_set h.ty⟩
theorem QC.set6 (h : QC W Q u0 u1 u2 u3 u4 u5 u6 u7) (v : Value) : QC (W.setCell ⟨Q, 6, none⟩ v) Q u0 u1 u2 u3 u4 u5 v u7 :=
  ⟨qc_setOther (by omega) h.q0, qc_setOther (by omega) h.q1, qc_setOther (by omega) h.q2, qc_setOther (by omega) h.q3, qc_setOther (by omega) h.q4, qc_setOther (by omega) h.q5, World.cell?_setCell_same _ _ _ h.q6, qc_setOther (by omega) h.q7, fun o => (by rw [World.frozen?_setCell]; exact h.z o), ty_set h.ty⟩
theorem QC.set7 (h : QC W Q u0 u1 u2 u3 u4 u5 u6 u7) (v : Value) : QC (W.setCell ⟨Q, 7, none⟩ v) Q u0 u1 u2 u3 u4 u5 u6 v :=
  ⟨qc_setOther (by omega) h.q0, qc_setOther (by omega) h.q1, qc_setOther (by omega) h.q2, qc_setOther (by omega) h.q3, qc_setOther (by omega) h.q4, qc_setOther (by omega) h.q5, qc_setOther (by omega) h.q6, World.cell?_setCell_same _ _ _ h.q7, fun o => (by rw [World.frozen?_setCell]; exact h.z o), ty_set h.ty⟩
/-- A whole route stored into its block. -/
theorem QC.store8 (h : QC W Q u0 u1 u2 u3 u4 u5 u6 u7) (v0 v1 v2 v3 v4 v5 v6 v7 : Value) : ∃ U, U = ((((((((W.setCell ⟨Q, 0, none⟩ v0).setCell ⟨Q, 1, none⟩ v1).setCell ⟨Q, 2, none⟩ v2).setCell ⟨Q, 3, none⟩ v3).setCell ⟨Q, 4, none⟩ v4).setCell ⟨Q, 5, none⟩ v5).setCell ⟨Q, 6, none⟩ v6).setCell ⟨Q, 7, none⟩ v7) ∧ QC U Q v0 v1 v2 v3 v4 v5 v6 v7 ∧ (∀ k, k ≠ Q → U.heap[k]? = W.heap[k]?) ∧ (∀ (B0 : Nat) (w0 : World), B0 ≤ Q → Below B0 w0 W → Below B0 w0 U) ∧ W.heap.size ≤ U.heap.size := by
  refine ⟨_, rfl, ((((((((h.set0 v0).set1 v1).set2 v2).set3 v3).set4 v4).set5 v5).set6 v6).set7 v7), ?_, ?_, by simp⟩
  · intro k hk
    iterate 8 rw [Below.heap_setCell _ _ _ _ hk]
  · intro B0 w0 hB hb
    exact ((((((((hb.setCell (show B0 ≤ (⟨Q, 0, none⟩ : Addr).block from hB) v0).setCell (show B0 ≤ (⟨Q, 1, none⟩ : Addr).block from hB) v1).setCell (show B0 ≤ (⟨Q, 2, none⟩ : Addr).block from hB) v2).setCell (show B0 ≤ (⟨Q, 3, none⟩ : Addr).block from hB) v3).setCell (show B0 ≤ (⟨Q, 4, none⟩ : Addr).block from hB) v4).setCell (show B0 ≤ (⟨Q, 5, none⟩ : Addr).block from hB) v5).setCell (show B0 ≤ (⟨Q, 6, none⟩ : Addr).block from hB) v6).setCell (show B0 ≤ (⟨Q, 7, none⟩ : Addr).block from hB) v7)
end

/-- A route under way: its block Q, its four lists from B on; w1 is an older world, nothing below A has turned since. -/
structure RB (w1 W : World) (A Q B : Nat) (x0 : Option Addr) (y0 : Nat) (x1 : Option Addr) (y1 : Nat) (x2 : Option Addr) (y2 : Nat) (x3 : Option Addr) (y3 : Nat) (v6 v7 : Value) (r : MRoute) : Prop where
  hB : Below A w1 W
  AQ : A ≤ Q
  AB : A ≤ B
  BW : B ≤ W.heap.size
  qc : QC W Q (.int .i64 r.start) (.int .i64 r.stop) (.slice x0 r.steps.length y0) (.slice x1 r.lies.length y1) (.slice x2 r.crosses.length y2) (.slice x3 r.parts.length y3) v6 v7
  own : OwnR W B (.slice x0 r.steps.length y0) (.slice x1 r.lies.length y1) (.slice x2 r.crosses.length y2) (.slice x3 r.parts.length y3) r

theorem row_ne_ty {W : World} {Q b e s n : Nat} {v : Value} {xs : List Value} (ty : IsRow W Q) (ho : W.ownsRow b e s v n xs) (he : e ≠ 42) : ¬ v.ownBlock = some Q := fun eq => by
  obtain ⟨cur, hc⟩ := ty
  rcases ho.2 with ⟨h1, _⟩ | ⟨g, cap, cur', h1, _, h3, _⟩
  · rw [h1] at eq; cases eq
  · rw [h1] at eq
    simp only [Value.ownBlock, Option.some.injEq] at eq
    rw [eq, hc] at h3
    simp only [Option.some.injEq, Obj.cells.injEq] at h3
    exact he h3.2.1.symm
theorem OwnR.below {W W' : World} {B : Nat} {v0 v1 v2 v3 : Value} {r : MRoute} (h : OwnR W B v0 v1 v2 v3 r) (hb : Below W.heap.size W W') : OwnR W' B v0 v1 v2 v3 r := ⟨owns_below h.o0 hb, owns_below h.o1 hb, owns_below h.o2 hb, owns_below h.o3 hb⟩

section
variable {w1 W W' : World} {A Q B : Nat} {x0 x1 x2 x3 : Option Addr} {y0 y1 y2 y3 : Nat} {v6 v7 : Value} {r : MRoute}
theorem RB.below (h : RB w1 W A Q B x0 y0 x1 y1 x2 y2 x3 y3 v6 v7 r) (hb : Below W.heap.size W W') : RB w1 W' A Q B x0 y0 x1 y1 x2 y2 x3 y3 v6 v7 r :=
  ⟨h.hB.trans (hb.mono (Nat.le_trans h.AQ (Nat.le_of_lt h.qc.lt))), h.AQ, h.AB, Nat.le_trans h.BW hb.size, h.qc.below hb, h.own.below hb⟩
theorem RB.nQ (h : RB w1 W A Q B x0 y0 x1 y1 x2 y2 x3 y3 v6 v7 r) {b e s n : Nat} {v : Value} {xs : List Value} (ho : W.ownsRow b e s v n xs) (he : e ≠ 42) : some Q ≠ v.ownBlock := fun eq => by
  obtain ⟨cur, hc⟩ := h.qc.ty
  rcases ho.2 with ⟨h1, _⟩ | ⟨g, cap, cur', h1, _, h3, _⟩
  · rw [h1] at eq; cases eq
  · rw [h1] at eq
    simp only [Value.ownBlock, Option.some.injEq] at eq
    rw [← eq, hc] at h3
    simp only [Option.some.injEq, Obj.cells.injEq] at h3
    exact he h3.2.1.symm
/-- Past a push onto one of the lists: all blocks but that row's stay. -/
theorem RB.hBg (h : RB w1 W A Q B x0 y0 x1 y1 x2 y2 x3 y3 v6 v7 r) {e s n : Nat} {v : Value} {xs : List Value} (ho : W.ownsRow B e s v n xs) {w2 : World} (hg : W.grownBy w2 v.ownBlock) (o : Nat) (u : Value) : Below A w1 (w2.setCell ⟨Q, o, none⟩ u) :=
  (h.hB.trans ((Only.of_grown (S := fun k => B ≤ k) hg (fun k e => (ho.lt k e).1)).below (Nat.le_trans h.AQ (Nat.le_of_lt h.qc.lt)) (fun k hk hs => by have := h.AB; omega))).setCell h.AQ _
theorem RB.set1 (h : RB w1 W A Q B x0 y0 x1 y1 x2 y2 x3 y3 v6 v7 r) (sp : Int) : RB w1 (W.setCell ⟨Q, 1, none⟩ (.int .i64 sp)) A Q B x0 y0 x1 y1 x2 y2 x3 y3 v6 v7 { r with stop := sp } :=
  ⟨h.hB.setCell h.AQ _, h.AQ, h.AB, by simpa using h.BW, h.qc.set1 _, ⟨ownsRow_setCell_other h.own.o0 (a := ⟨Q, _, none⟩) (fun e => h.nQ h.own.o0 (by decide) e.symm) _, ownsRow_setCell_other h.own.o1 (a := ⟨Q, _, none⟩) (fun e => h.nQ h.own.o1 (by decide) e.symm) _, ownsRow_setCell_other h.own.o2 (a := ⟨Q, _, none⟩) (fun e => h.nQ h.own.o2 (by decide) e.symm) _, ownsRow_setCell_other h.own.o3 (a := ⟨Q, _, none⟩) (fun e => h.nQ h.own.o3 (by decide) e.symm) _⟩⟩
theorem RB.set6 (h : RB w1 W A Q B x0 y0 x1 y1 x2 y2 x3 y3 v6 v7 r) (v : Value) : RB w1 (W.setCell ⟨Q, 6, none⟩ v) A Q B x0 y0 x1 y1 x2 y2 x3 y3 v v7 r :=
  ⟨h.hB.setCell h.AQ _, h.AQ, h.AB, by simpa using h.BW, h.qc.set6 _, ⟨ownsRow_setCell_other h.own.o0 (a := ⟨Q, _, none⟩) (fun e => h.nQ h.own.o0 (by decide) e.symm) _, ownsRow_setCell_other h.own.o1 (a := ⟨Q, _, none⟩) (fun e => h.nQ h.own.o1 (by decide) e.symm) _, ownsRow_setCell_other h.own.o2 (a := ⟨Q, _, none⟩) (fun e => h.nQ h.own.o2 (by decide) e.symm) _, ownsRow_setCell_other h.own.o3 (a := ⟨Q, _, none⟩) (fun e => h.nQ h.own.o3 (by decide) e.symm) _⟩⟩
theorem RB.over (h : RB w1 W A Q B x0 y0 x1 y1 x2 y2 x3 y3 v6 v7 r) (ov : List MPart) : RB w1 W A Q B x0 y0 x1 y1 x2 y2 x3 y3 v6 v7 { r with over := ov } := ⟨h.hB, h.AQ, h.AB, h.BW, h.qc, ⟨h.own.o0, h.own.o1, h.own.o2, h.own.o3⟩⟩
theorem RB.push0 (h : RB w1 W A Q B x0 y0 x1 y1 x2 y2 x3 y3 v6 v7 r) {e : MStep} {x' : Option Addr} {y' : Nat} {w2 : World} (hg : W.grownBy w2 (Value.slice x0 r.steps.length y0).ownBlock)
    (ho : w2.ownsRow B 51 2 (.slice x' (r.steps.length + 1) y') (r.steps.length + 1) (flatE (r.steps ++ [e]))) :
    RB w1 (w2.setCell ⟨Q, 2, none⟩ (.slice x' (r.steps.length + 1) y')) A Q B x' y' x1 y1 x2 y2 x3 y3 v6 v7 { r with steps := r.steps ++ [e] } := by
  have hq : QC w2 Q _ _ _ _ _ _ _ _ := h.qc.of_block (hg.block Q h.qc.lt (h.nQ h.own.o0 (by decide)))
  have hnQ : ∀ {b e s n : Nat} {v : Value} {xs : List Value}, w2.ownsRow b e s v n xs → e ≠ 42 → ¬ v.ownBlock = some Q := fun {b e s n v xs} hoo he eq => row_ne_ty hq.ty hoo he eq
  have hq2 := hq.set2 (.slice x' (r.steps.length + 1) y')
  refine ⟨h.hBg h.own.o0 hg _ _, h.AQ, h.AB, by have := hg.size; have := h.BW; simp; omega, ?_, ⟨(by simp only [List.length_append, List.length_singleton]; exact ownsRow_setCell_other ho (a := ⟨Q, _, none⟩) (hnQ ho (by decide)) _), ownsRow_setCell_other (h.own.o1.kept hg (owns_ne (by decide) h.own.o1 h.own.o0)) (a := ⟨Q, _, none⟩) (hnQ (h.own.o1.kept hg (owns_ne (by decide) h.own.o1 h.own.o0)) (by decide)) _, ownsRow_setCell_other (h.own.o2.kept hg (owns_ne (by decide) h.own.o2 h.own.o0)) (a := ⟨Q, _, none⟩) (hnQ (h.own.o2.kept hg (owns_ne (by decide) h.own.o2 h.own.o0)) (by decide)) _, ownsRow_setCell_other (h.own.o3.kept hg (owns_ne (by decide) h.own.o3 h.own.o0)) (a := ⟨Q, _, none⟩) (hnQ (h.own.o3.kept hg (owns_ne (by decide) h.own.o3 h.own.o0)) (by decide)) _⟩⟩
  simp only [List.length_append, List.length_singleton]
  exact hq2
theorem RB.push1 (h : RB w1 W A Q B x0 y0 x1 y1 x2 y2 x3 y3 v6 v7 r) {e : MLie} {x' : Option Addr} {y' : Nat} {w2 : World} (hg : W.grownBy w2 (Value.slice x1 r.lies.length y1).ownBlock)
    (ho : w2.ownsRow B 48 2 (.slice x' (r.lies.length + 1) y') (r.lies.length + 1) (flatE (r.lies ++ [e]))) :
    RB w1 (w2.setCell ⟨Q, 3, none⟩ (.slice x' (r.lies.length + 1) y')) A Q B x0 y0 x' y' x2 y2 x3 y3 v6 v7 { r with lies := r.lies ++ [e] } := by
  have hq : QC w2 Q _ _ _ _ _ _ _ _ := h.qc.of_block (hg.block Q h.qc.lt (h.nQ h.own.o1 (by decide)))
  have hnQ : ∀ {b e s n : Nat} {v : Value} {xs : List Value}, w2.ownsRow b e s v n xs → e ≠ 42 → ¬ v.ownBlock = some Q := fun {b e s n v xs} hoo he eq => row_ne_ty hq.ty hoo he eq
  have hq2 := hq.set3 (.slice x' (r.lies.length + 1) y')
  refine ⟨h.hBg h.own.o1 hg _ _, h.AQ, h.AB, by have := hg.size; have := h.BW; simp; omega, ?_, ⟨ownsRow_setCell_other (h.own.o0.kept hg (owns_ne (by decide) h.own.o0 h.own.o1)) (a := ⟨Q, _, none⟩) (hnQ (h.own.o0.kept hg (owns_ne (by decide) h.own.o0 h.own.o1)) (by decide)) _, (by simp only [List.length_append, List.length_singleton]; exact ownsRow_setCell_other ho (a := ⟨Q, _, none⟩) (hnQ ho (by decide)) _), ownsRow_setCell_other (h.own.o2.kept hg (owns_ne (by decide) h.own.o2 h.own.o1)) (a := ⟨Q, _, none⟩) (hnQ (h.own.o2.kept hg (owns_ne (by decide) h.own.o2 h.own.o1)) (by decide)) _, ownsRow_setCell_other (h.own.o3.kept hg (owns_ne (by decide) h.own.o3 h.own.o1)) (a := ⟨Q, _, none⟩) (hnQ (h.own.o3.kept hg (owns_ne (by decide) h.own.o3 h.own.o1)) (by decide)) _⟩⟩
  simp only [List.length_append, List.length_singleton]
  exact hq2
theorem RB.push2 (h : RB w1 W A Q B x0 y0 x1 y1 x2 y2 x3 y3 v6 v7 r) {e : Int} {x' : Option Addr} {y' : Nat} {w2 : World} (hg : W.grownBy w2 (Value.slice x2 r.crosses.length y2).ownBlock)
    (ho : w2.ownsRow B 3 1 (.slice x' (r.crosses.length + 1) y') (r.crosses.length + 1) (flatN (r.crosses ++ [e]))) :
    RB w1 (w2.setCell ⟨Q, 4, none⟩ (.slice x' (r.crosses.length + 1) y')) A Q B x0 y0 x1 y1 x' y' x3 y3 v6 v7 { r with crosses := r.crosses ++ [e] } := by
  have hq : QC w2 Q _ _ _ _ _ _ _ _ := h.qc.of_block (hg.block Q h.qc.lt (h.nQ h.own.o2 (by decide)))
  have hnQ : ∀ {b e s n : Nat} {v : Value} {xs : List Value}, w2.ownsRow b e s v n xs → e ≠ 42 → ¬ v.ownBlock = some Q := fun {b e s n v xs} hoo he eq => row_ne_ty hq.ty hoo he eq
  have hq2 := hq.set4 (.slice x' (r.crosses.length + 1) y')
  refine ⟨h.hBg h.own.o2 hg _ _, h.AQ, h.AB, by have := hg.size; have := h.BW; simp; omega, ?_, ⟨ownsRow_setCell_other (h.own.o0.kept hg (owns_ne (by decide) h.own.o0 h.own.o2)) (a := ⟨Q, _, none⟩) (hnQ (h.own.o0.kept hg (owns_ne (by decide) h.own.o0 h.own.o2)) (by decide)) _, ownsRow_setCell_other (h.own.o1.kept hg (owns_ne (by decide) h.own.o1 h.own.o2)) (a := ⟨Q, _, none⟩) (hnQ (h.own.o1.kept hg (owns_ne (by decide) h.own.o1 h.own.o2)) (by decide)) _, (by simp only [List.length_append, List.length_singleton]; exact ownsRow_setCell_other ho (a := ⟨Q, _, none⟩) (hnQ ho (by decide)) _), ownsRow_setCell_other (h.own.o3.kept hg (owns_ne (by decide) h.own.o3 h.own.o2)) (a := ⟨Q, _, none⟩) (hnQ (h.own.o3.kept hg (owns_ne (by decide) h.own.o3 h.own.o2)) (by decide)) _⟩⟩
  simp only [List.length_append, List.length_singleton]
  exact hq2
theorem RB.push3 (h : RB w1 W A Q B x0 y0 x1 y1 x2 y2 x3 y3 v6 v7 r) {e : MPart} {x' : Option Addr} {y' : Nat} {w2 : World} (hg : W.grownBy w2 (Value.slice x3 r.parts.length y3).ownBlock)
    (ho : w2.ownsRow B 44 3 (.slice x' (r.parts.length + 1) y') (r.parts.length + 1) (flatP (r.parts ++ [e]))) :
    RB w1 (w2.setCell ⟨Q, 5, none⟩ (.slice x' (r.parts.length + 1) y')) A Q B x0 y0 x1 y1 x2 y2 x' y' v6 v7 { r with parts := r.parts ++ [e] } := by
  have hq : QC w2 Q _ _ _ _ _ _ _ _ := h.qc.of_block (hg.block Q h.qc.lt (h.nQ h.own.o3 (by decide)))
  have hnQ : ∀ {b e s n : Nat} {v : Value} {xs : List Value}, w2.ownsRow b e s v n xs → e ≠ 42 → ¬ v.ownBlock = some Q := fun {b e s n v xs} hoo he eq => row_ne_ty hq.ty hoo he eq
  have hq2 := hq.set5 (.slice x' (r.parts.length + 1) y')
  refine ⟨h.hBg h.own.o3 hg _ _, h.AQ, h.AB, by have := hg.size; have := h.BW; simp; omega, ?_, ⟨ownsRow_setCell_other (h.own.o0.kept hg (owns_ne (by decide) h.own.o0 h.own.o3)) (a := ⟨Q, _, none⟩) (hnQ (h.own.o0.kept hg (owns_ne (by decide) h.own.o0 h.own.o3)) (by decide)) _, ownsRow_setCell_other (h.own.o1.kept hg (owns_ne (by decide) h.own.o1 h.own.o3)) (a := ⟨Q, _, none⟩) (hnQ (h.own.o1.kept hg (owns_ne (by decide) h.own.o1 h.own.o3)) (by decide)) _, ownsRow_setCell_other (h.own.o2.kept hg (owns_ne (by decide) h.own.o2 h.own.o3)) (a := ⟨Q, _, none⟩) (hnQ (h.own.o2.kept hg (owns_ne (by decide) h.own.o2 h.own.o3)) (by decide)) _, (by simp only [List.length_append, List.length_singleton]; exact ownsRow_setCell_other ho (a := ⟨Q, _, none⟩) (hnQ ho (by decide)) _)⟩⟩
  simp only [List.length_append, List.length_singleton]
  exact hq2
end

/-- 'append(v, x)' of one element onto a row of one's own, in a region that has drawn before. -/
theorem step_push0 {P : Program} {Wp : World} {ops : Array Oper} {o : Oper} {a : Act} {K : Act → World → Prop} {Q : Exit → Act → World → Prop} {E : Prop} (hgd : o.guard = none) (s x : Operand) (t : TypeId)
    (ho : o.op = .call { callee := .builtin .append, args := #[s, x], argTypes := #[t, t] })
    (B : Nat) (e : TypeId) (z : Value) (size bytes : Nat) (ht : P.underlying t = some (.slice e)) (hi : (P.info? e).map (fun i => (i.zero, i.size, i.bytes)) = some (some z, size, bytes)) (hzs : z.cells.size = size) (hsz : 0 < size)
    (v : Value) (n : Nat) (xs : List Value) (hs : a.eval s = v) (hown : Wp.ownsRow B e size v n xs)
    (g : Nat) (hgs : g = Wp.heap.size) (news : List Value) (hx : a.eval x = .slice (some ⟨g, 0, none⟩) 1 1) (hl : news.length = size) (h1 : ∀ u ∈ news, u.oneCell' = true)
    (h63 : n + 1 ≤ maxLen) (hbytes : (n + 1) * bytes ≤ 140737488355328) (hB : B ≤ Wp.heap.size)
    (h : ∀ x' y' w', w'.ownsRow B e size (.slice x' (n + 1) y') (n + 1) (xs ++ news) → Wp.grownBy w' v.ownBlock → K (a.put o.dst (.slice x' (n + 1) y')) w') :
    if Region.wanted o (yielded ops a.tmps) = true then Oper.wp P o a (Wp.alloc (.cells news.toArray e)) K Q else E := by
  subst hgs
  obtain ⟨i, hi1, hi2, hi3, hi4⟩ := info_parts hi
  refine step_append_lies _ hgd s x t ho B e i z size bytes ht hi1 hi2 hi3 hi4 hzs hsz v n xs hs (hown.alloc _) ⟨Wp.heap.size, 0, none⟩ 1 1 news hx (by omega) ?_ h1 (by omega) h63 hbytes (by simp; omega) _ rfl ?_
  · intro j u hu
    rw [addr_at, Nat.zero_add]
    have := cell_of_row (Wp.alloc (.cells news.toArray e)) Wp.heap.size j news.toArray e (0, 0) (heap_alloc_new Wp _)
    refine Eq.trans this ?_
    simpa using hu
  · intro g cap w' ho' hg' hq _
    refine h _ _ w' ho' ⟨hg'.os, hg'.tape, hg'.output, Nat.le_trans (by simp) hg'.size, fun k hk hne => ?_⟩
    exact (hg'.block k (by simp; omega) hne).trans (Below.heap_alloc _ _ _ hk)
theorem owns_max {w : World} {B e s n : Nat} {v : Value} {xs : List Value} (h : w.ownsRow B e s v n xs) : n ≤ maxLen := by
  rcases h.2 with ⟨_, h2⟩ | ⟨g, cap, cur, _, _, _, h3, h4, _⟩
  · rw [h2]; exact Nat.zero_le _
  · exact Nat.le_trans h3 h4
theorem own_listE {w : World} {B e : Nat} {x : Option Addr} {y : Nat} {es : List MEnd} (h : w.ownsRow B e 2 (.slice x es.length y) es.length (flatE es)) : EndsAt w x es ∧ (x = none → es.length = 0 ∧ y = 0) := by
  obtain ⟨a, c, e1, e2, e3, _⟩ := ownE h (owns_max h)
  cases e1
  exact ⟨e2, e3⟩
theorem own_listN {w : World} {B e : Nat} {x : Option Addr} {y : Nat} {es : List Int} (h : w.ownsRow B e 1 (.slice x es.length y) es.length (flatN es)) : NumsAt w x es ∧ (x = none → es.length = 0 ∧ y = 0) := by
  obtain ⟨a, c, e1, e2, e3, _⟩ := ownN h (owns_max h)
  cases e1
  exact ⟨e2, e3⟩
theorem own_listP {w : World} {B e : Nat} {x : Option Addr} {y : Nat} {es : List MPart} (h : w.ownsRow B e 3 (.slice x es.length y) es.length (flatP es)) : PartsAt w x es ∧ (x = none → es.length = 0 ∧ y = 0) := by
  obtain ⟨a, c, e1, e2, e3, _⟩ := ownP h (owns_max h)
  cases e1
  exact ⟨e2, e3⟩
theorem own_listF {w : World} {B e : Nat} {x : Option Addr} {y : Nat} {es : List MFlank} (h : w.ownsRow B e 4 (.slice x es.length y) es.length (flatF es)) : FlanksAt w x es ∧ (x = none → es.length = 0 ∧ y = 0) := by
  obtain ⟨a, c, e1, e2, e3, _⟩ := ownF h (owns_max h)
  cases e1
  exact ⟨e2, e3⟩

/-- A route that is whole is kept. -/
theorem keep_of {w1 w w' : World} {F A Q B B4 B5 : Nat} {x0 x1 x2 x3 x4 x5 : Option Addr} {y0 y1 y2 y3 y4 y5 : Nat} {v v' v7 : Value} {r : MRoute} {ov : List MPart} {fl : List MFlank} (h : RB w1 w A Q B x0 y0 x1 y1 x2 y2 x3 y3 (.slice x4 ov.length y4) v7 r) (hF : F < B)
    (h4 : w.ownsRow B4 44 3 (.slice x4 ov.length y4) ov.length (flatP ov)) (hF4 : F < B4) (he : Eff F v v' w w') (h5 : w'.ownsRow B5 57 4 (.slice x5 fl.length y5) fl.length (flatF fl)) (hF5 : F < B5) :
    RKeep w' F ⟨x0, y0, x1, y1, x2, y2, x3, y3, x4, y4, x5, y5⟩ { r with over := ov, flanks := fl } := by
  have n0 := notR_own h.own.o0 (by decide) hF
  have n1 := notR_own h.own.o1 (by decide) hF
  have n2 := notR_own h.own.o2 (by decide) hF
  have n3 := notR_own h.own.o3 (by decide) hF
  have n4 := notR_own h4 (by decide) hF4
  have n5 := notR_own h5 (by decide) hF5
  refine ⟨⟨(own_listE h.own.o0).1.kept (n0.same he), (own_listE h.own.o1).1.kept (n1.same he), (own_listN h.own.o2).1.kept (n2.same he), (own_listP h.own.o3).1.kept (n3.same he), (own_listP h4).1.kept (n4.same he), (own_listF h5).1, fun e => ((own_listE h.own.o1).2 e).2⟩, n0.kept he, n1.kept he, n2.kept he, n3.kept he, n4.kept he, n5⟩

/-- A walk that ends with a route. -/
theorem walk_end {w0 w w1 W w' : World} {F A Q B B4 : Nat} {pa ja sa : Option Addr} {pc jc sc : Nat} {ps : List MPiece} {js : List MJoint} {ss : List MPiece} {over : Int} {n t : Nat} {xo : Option Addr} {yo : Nat} {pr : List (RAddr × MRoute)} {x0 x1 x2 x3 x4 : Option Addr} {y0 y1 y2 y3 y4 : Nat} {v7 : Value} {st sp : Int} {steps : List MStep} {lies : List MLie} {crosses : List Int} {parts ov : List MPart} {e : Ending}
    (hs : WS w0 W F pa ja sa pc jc sc ps.length js.length ss.length over xo yo (t + 1) pr) (hE : Eff F (.slice xo pr.length yo) (.slice xo pr.length yo) w W) (h : RB w1 W A Q B x0 y0 x1 y1 x2 y2 x3 y3 (.slice x4 ov.length y4) v7 ⟨st, sp, steps, lies, crosses, parts, ov, []⟩) (hF : F < B)
    (h4 : W.ownsRow B4 44 3 (.slice x4 ov.length y4) ov.length (flatP ov)) (hF4 : F < B4)
    (hd : DonePost F (F + 1) pr.length (.slice xo pr.length yo) (flatR pr) W (flanksF ps js ss lies lies) (fun xf yf => [.int .i64 st, .int .i64 sp, .slice x0 steps.length y0, .slice x1 lies.length y1, .slice x2 crosses.length y2, .slice x3 parts.length y3, .slice x4 ov.length y4, .slice xf (flanksF ps js ss lies lies).length yf]) e w')
    {p' : MPath} (hp' : p'.ended = true) (hr : (⟨st, sp, steps, lies, crosses, parts, ov, flanksF ps js ss lies lies⟩ : MRoute) = routeF ps js ss over p') (ht : t + 1 ≤ 20000) (hpr : pr.length ≤ 300) :
    WalkPost w0 w F pa ja sa pc jc sc ps js ss over (n + 1) t (.slice xo pr.length yo) (pr.map Prod.snd) [p'] e w' := by
  obtain ⟨he, x', y', dd, hw, hE'⟩ := hs.more hd (fun a c => ⟨x0, y0, x1, y1, x2, y2, x3, y3, x4, y4, a, c⟩) ⟨st, sp, steps, lies, crosses, parts, ov, flanksF ps js ss lies lies⟩ (fun a c => rfl) (fun a c v' h5 hE2 => keep_of h hF h4 hF4 hE2 h5 (by have := hs.lt; omega))
  refine ⟨he, x', y', t + 1, pr ++ [(dd, _)], hw, ?_, ?_, by omega, by simp; omega⟩
  · have el : (pr ++ [(dd, (⟨st, sp, steps, lies, crosses, parts, ov, flanksF ps js ss lies lies⟩ : MRoute))]).length = pr.length + 1 := by simp
    rw [el]
    exact hE.trans hE'
  · rw [List.map_append]
    exact Went.made hp' ht hr

end Go.Proofs.Ytmkdgnmmebldgaa

namespace Go.Proofs.Ytmkdgnmmebldgaa
open Go.RowKit Go.Deep

theorem nextB_ahead (ss : List MPiece) (p way pos : Int) : ∀ k, k ≤ ss.length → nextB ss p way pos k = -1 ∨ ∃ (b : Nat) (hb : b < ss.length), nextB ss p way pos k = b ∧ 0 < (ss[b].speed - pos) * way
  | 0, _ => Or.inl rfl
  | k + 1, hk => by
    have ih := nextB_ahead ss p way pos k (by omega)
    have hk' : k < ss.length := by omega
    by_cases h : ss[k].len ≠ p ∨ ss[k].brake ≠ way ∨ (ss[k].speed - pos) * way ≤ 0
    · rw [nextB_skip hk' h]; exact ih
    · by_cases h2 : nextB ss p way pos k < 0 ∨ (ss[k].speed - sigAt ss (nextB ss p way pos k)) * way < 0
      · rw [nextB_take hk' h h2]
        exact Or.inr ⟨k, hk', rfl, by omega⟩
      · rw [nextB_leave hk' h h2]; exact ih

section
variable {ps : List MPiece} {js : List MJoint} {ss : List MPiece} {i p : Nat} {pre : List MStep} {way pos over : Int} {lies : List MLie} {crosses : List Int}

theorem route_signal (ok : WalkOk ps js ss i pre ⟨p, way⟩ lies crosses pos) (hway : way = 1 ∨ way = -1) {b : Nat} (hb : b < ss.length) (hn : nextB ss p way pos ss.length = b) (h1 : ss[b].len = p) (h2 : ss[b].brake = way) :
    (⟨i, b, pre ++ [⟨p, way⟩], lies, crosses, fullParts ps (sigAt ss i) pre ++ [specPart ps p way (farI ps p pos way) (farI ps p ss[b].speed way)], behindF ps js (over.toNat + 1) ⟨p, way⟩ ss[b].speed over, flanksF ps js ss lies lies⟩ : MRoute) = routeF ps js ss over (endP i b (pre ++ [⟨p, way⟩]) lies crosses) := by
  have ha : 0 < (ss[b].speed - pos) * way := by
    rcases nextB_ahead ss p way pos ss.length (Nat.le_refl _) with h | ⟨b', hb', h, h3⟩
    · rw [hn] at h; omega
    · rw [hn] at h
      have : b = b' := by omega
      subst this
      exact h3
  have hq : specPart ps p way (farI ps p pos way) (farI ps p ss[b].speed way) = partI p pos ss[b].speed := specPart_farI hway (by rcases hway with rfl | rfl <;> omega)
  have ho : overF ps js ss (b : Int) over = behindF ps js (over.toNat + 1) ⟨p, way⟩ ss[b].speed over := by
    unfold overF
    rw [if_neg (by omega), Int.toNat_natCast, List.getElem?_eq_getElem hb]
    simp only [h1, h2]
  unfold routeF
  rw [partsF_end ok, if_pos (by omega), sigAt_at hb]
  rw [hq]
  show _ = (⟨i, b, pre ++ [⟨p, way⟩], lies, crosses, _, overF ps js ss (b : Int) over, _⟩ : MRoute)
  rw [ho]
  rfl
theorem route_buffer (ok : WalkOk ps js ss i pre ⟨p, way⟩ lies crosses pos) (hway : way = 1 ∨ way = -1) (hp : p < ps.length) :
    (⟨i, -1, pre ++ [⟨p, way⟩], lies, crosses, fullParts ps (sigAt ss i) pre ++ [specPart ps p way (farI ps p pos way) ps[p].len], [], flanksF ps js ss lies lies⟩ : MRoute) = routeF ps js ss over (endP i (-1) (pre ++ [⟨p, way⟩]) lies crosses) := by
  have h0 := ok.p0
  have h1 := ok.p1
  dsimp only at h1
  rw [lenI_at hp] at h1
  have hq : specPart ps p way (farI ps p pos way) ps[p].len = partI p pos (endAt ps (aheadE ⟨p, way⟩)) := by
    rw [← farI_end hp hway]
    refine specPart_farI hway ?_
    rcases hway with rfl | rfl
    · have he : endAt ps (aheadE ⟨(p : Int), 1⟩) = ps[p].len := by simp [endAt, aheadE, lenI_at hp]
      rw [he]; omega
    · have he : endAt ps (aheadE ⟨(p : Int), -1⟩) = 0 := by simp [endAt, aheadE]
      rw [he]; omega
  unfold routeF
  rw [partsF_end ok, if_neg (by omega), hq]
  rfl
theorem parts_on (ok : WalkOk ps js ss i pre ⟨p, way⟩ lies crosses pos) (hway : way = 1 ∨ way = -1) (hp : p < ps.length) : fullParts ps (sigAt ss i) pre ++ [specPart ps p way (farI ps p pos way) ps[p].len] = fullParts ps (sigAt ss i) (pre ++ [⟨p, way⟩]) := by
  have h0 := ok.p0
  have h1 := ok.p1
  dsimp only at h1
  rw [lenI_at hp] at h1
  have hq : specPart ps p way (farI ps p pos way) ps[p].len = partI p pos (endAt ps (aheadE ⟨p, way⟩)) := by
    rw [← farI_end hp hway]
    refine specPart_farI hway ?_
    rcases hway with rfl | rfl
    · have he : endAt ps (aheadE ⟨(p : Int), 1⟩) = ps[p].len := by simp [endAt, aheadE, lenI_at hp]
      rw [he]; omega
    · have he : endAt ps (aheadE ⟨(p : Int), -1⟩) = 0 := by simp [endAt, aheadE]
      rw [he]; omega
  rw [hq]
  exact fullParts_on ok
end

/-- The net as the finder holds it. -/
theorem WS.net {w0 w : World} {F : Nat} {pa ja sa : Option Addr} {pc jc sc : Nat} {ps : List MPiece} {js : List MJoint} {ss : List MPiece} {over : Int} {xo : Option Addr} {yo t : Nat} {pr : List (RAddr × MRoute)} (h : WS w0 w F pa ja sa pc jc sc ps.length js.length ss.length over xo yo t pr) (HP : PiecesAt w0 pa ps) (HJ : JointsAt w0 ja js) (HS : PiecesAt w0 sa ss) : FNet w F pa ja sa pc jc sc ps js ss over :=
  ⟨h.c0, h.c1, h.c2, h.c3, HP.below h.base, HJ.below h.base, HS.below h.base⟩

/-- 'done', of a route that is built. -/
theorem done_rb {w0 w1 W : World} {F A Q B : Nat} {pa ja sa : Option Addr} {pc jc sc : Nat} {ps : List MPiece} {js : List MJoint} {ss : List MPiece} {over : Int} {t : Nat} {xo : Option Addr} {yo : Nat} {pr : List (RAddr × MRoute)} {x0 x1 x2 x3 x4 : Option Addr} {y0 y1 y2 y3 y4 : Nat} {v7 : Value} {st sp : Int} {steps : List MStep} {lies : List MLie} {crosses : List Int} {parts ov : List MPart}
    (R : Hid (Right ps js ss)) (HP : Hid (PiecesAt w0 pa ps)) (HJ : Hid (JointsAt w0 ja js)) (HS : Hid (PiecesAt w0 sa ss))
    (hfl : Hid (∀ (B Q : Nat) (la : Option Addr) (lc : Nat) (lies : List MLie) (pl : Int) (n : Nat), LB w0 B F Q pa ja sa la ps js ss lies → LookSpec w0 B F Q pa ja sa la pc jc sc lc ps js ss lies pl n))
    (hs : WS w0 W F pa ja sa pc jc sc ps.length js.length ss.length over xo yo t pr) (h : RB w1 W A Q B x0 y0 x1 y1 x2 y2 x3 y3 (.slice x4 ov.length y4) v7 ⟨st, sp, steps, lies, crosses, parts, ov, []⟩) (hF : F < B) (hpr : pr.length ≤ 300)
    (lv : ∀ l ∈ lies, ∃ (j : Nat) (hj : j < js.length), l.piece = j ∧ js[j].kind = 3 ∧ (l.side = 1 ∨ l.side = 2)) (ld : (lies.map MEnd.piece).Nodup) :
    Calls Try.prog 104 #[.pointer (some ⟨F, 0, none⟩), .agg #[.int .i64 st, .int .i64 sp, .slice x0 steps.length y0, .slice x1 lies.length y1, .slice x2 crosses.length y2, .slice x3 parts.length y3, .slice x4 ov.length y4, .slice none 0 0]] W (DonePost F (F + 1) pr.length (.slice xo pr.length yo) (flatR pr) W (flanksF ps js ss lies lies) (fun xf yf => [.int .i64 st, .int .i64 sp, .slice x0 steps.length y0, .slice x1 lies.length y1, .slice x2 crosses.length y2, .slice x3 parts.length y3, .slice x4 ov.length y4, .slice xf (flanksF ps js ss lies lies).length yf])) := by
  have hn : NotR W F x1 lies.length := notR_own h.own.o1 (by decide) hF
  refine done_any w0 F pa ja sa pc jc sc ps js ss R HP HJ HS hs.f hfl x0 x1 x2 x3 x4 y0 y1 y2 y3 y4 st sp steps lies crosses parts ov xo yo pr.length (F + 1) (flatR pr) W hs.base hs.c0 hs.c1 hs.c2 hs.c4 hs.z4 hs.s6 hs.z6 (own_listE h.own.o1).1 ?_ (Nat.le_trans (lies_few lv ld) R.out.nj) lv (lies_like ld) hs.own (by omega) hs.lt (fun e => by have := (hs.rows F e).1; omega)
  rcases hn with hn | hn
  · exact Or.inl (List.eq_nil_of_length_eq_zero hn)
  · exact Or.inr (fun b off e => (hn b off e).1)

end Go.Proofs.Ytmkdgnmmebldgaa
