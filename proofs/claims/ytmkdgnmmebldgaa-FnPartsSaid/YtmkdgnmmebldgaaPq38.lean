import Derived.Test.YtmkdgnmmebldgaaPq15
import Derived.OwnWalkIn
import Derived.RangeFuncIn
import Derived.Test.YtmkdgnmmebldgaaPq37
import Derived.Deep.LoopGhost
namespace Go.Proofs.Ytmkdgnmmebldgaa
open Go
theorem opsIn_of_ops {P : Program} {ops : Array Oper} {Q : Exit → Act → World → Prop} {r n : Nat} (hnd : ∀ (i : Nat) o, ops[i]? = some o → ∀ c, o.op ≠ .defer c) (hQ : ¬ LetsOut Q) :
    ∀ (L : List Nat) (a : Act) (w : World), wpOps P ops Q L a w → wpOpsIn (Fence.wide.inRound r) n P ops Q L a w
  | [], a, w, h => h
  | i :: rest, a, w, h => by
    have ih := opsIn_of_ops (P := P) (r := r) (n := n) hnd hQ rest
    simp only [wpOps] at h
    simp only [wpOpsIn]
    cases ho : ops[i]? with
    | none =>
      rw [ho] at h
      exact ih a w h
    | some o =>
      rw [ho] at h
      dsimp only at h ⊢
      by_cases hw : Region.wanted o (yielded ops a.tmps) = true
      · rw [if_pos hw] at h ⊢
        rcases h with h | h
        · refine ⟨fun _ _ => trivial, ?_⟩
          unfold Oper.wp at h
          rw [Oper.semAt_eq _ _ _ (hnd i o ho)]
          generalize (execOp a.eval o).run P w = res at h
          cases res with
          | halt x w' => cases x <;> first | exact h | exact absurd h (by intro h; exact h)
          | ok nx w' =>
            cases nx with
            | value v => exact ih _ _ h
            | skip => exact ih _ _ h
            | defer d => exact ih _ _ h
            | enter f args =>
              refine ⟨fun h => (by cases h), ?_⟩
              show CallsIn Fence.wide (n - 1) P f args w' _
              refine callsIn_wide.2 (Calls.mono h ?_)
              intro e w'' he
              cases e with
              | returned v => exact ih _ _ he
              | panicked ch => exact he
              | outgrown => exact he
            | row nm args =>
              refine ⟨fun h => (by cases h), ?_⟩
              intro c cs _
              obtain ⟨v, w'', h1, h2⟩ := h c cs
              exact ⟨v, w'', ih _ _ h1, stepsIn_wide.2 h2⟩
            | round a1 a2 a3 a4 a5 => exact h.elim
            | _ => exact h.elim
        · exact absurd h.2 hQ
      · rw [if_neg hw] at h ⊢
        exact ⟨fun _ _ => trivial, ih _ _ h⟩
def calmB (o : Oper) : Bool := match o.op with | .defer _ => false | _ => true
theorem calm_all {l : List Oper} (h : l.all calmB = true) : ∀ (i : Nat) o, l.toArray[i]? = some o → ∀ c, o.op ≠ .defer c := by
  intro i o ho c hc
  have hm : o ∈ l := by
    rw [List.getElem?_toArray] at ho
    exact List.mem_of_getElem? ho
  have := List.all_eq_true.1 h o hm
  unfold calmB at this
  rw [hc] at this
  cases this
section
variable {P : Program} {Q : Exit → Act → World → Prop} {l : List Oper}
theorem wpIn_region_tree {id r k : Nat} {a : Act} {w : World} (C : World → Prop) (n : Nat) (hnd : l.all calmB = true) (hQ : ¬ LetsOut Q) (hm : P.follows .mixedOrders = true) (hB : treeB l n = true) (hC : C w.drew)
    (h : wpT P l C n Q n (Array.replicate l.length false) a w.drew) : (Code.region id l.toArray true).wpIn (Fence.wide.inRound r) k P Q a w := by
  have hB' := hB
  simp only [treeB, Bool.and_eq_true, decide_eq_true_eq] at hB'
  obtain ⟨⟨⟨hsel, hn⟩, hs⟩, hc⟩ := hB'
  have hdl : (l.drop n).length = l.length - n := by simp
  have inv0 : HeadInv .any l.toArray n (Array.replicate l.length false) :=
    ⟨by simp, fun j oj _ hl => (by rw [getD_replicate_false] at hl; cases hl), fun t _ ht => getD_in (by simpa using ht) (getD_replicate_false _ _)⟩
  have H := h hB inv0 hC
  have this := wpAny_of_mix (Q := Q) (g := l.length - n) (fun listed a' w' hL => by
    have := wpAny_of_seq (md := .any) (Q' := Q) (l.drop n) n listed a' w' (fun j => by simp [List.getElem?_drop]) (by rw [hdl]; exact hL.1) hL.2
    rwa [hdl] at this) _ _ _ _ hC H
  rw [show n + (l.length - n) = l.toArray.size by simp; omega] at this
  refine wpIn_region_draw fun t => ?_
  simp only [Region.schedule, hm, Bool.true_or, if_true]
  refine opsIn_of_ops (calm_all hnd) hQ _ _ _ ?_
  refine wpAny_sound l.toArray.size t _ a _ ?_
  simpa using this
end
end Go.Proofs.Ytmkdgnmmebldgaa

namespace Go.Proofs.Ytmkdgnmmebldgaa
open Go.RowKit Go.Deep Go.Maps
theorem plainSteps_any (KT : Nat) (s : MStep) (w : World) :
    Calls Try.prog 158 #[.pointer (some ⟨KT, 0, none⟩), endV s] w fun e w' => e = .returned (.func (.func 173) #[] #[.pointer (some ⟨w.heap.size + 1, 0, none⟩), .pointer (some ⟨w.heap.size, 0, none⟩)]) ∧
      w'.cell? ⟨w.heap.size, 0, none⟩ = some (.pointer (some ⟨KT, 0, none⟩)) ∧ w'.cell? ⟨w.heap.size + 1, 0, none⟩ = some (.int .i64 s.piece) ∧ w'.cell? ⟨w.heap.size + 1, 1, none⟩ = some (.int .i64 s.side) ∧ Below w.heap.size w w' := by
  have hmf : ∀ (fn : Fn) (first cap : Array Value) (w : World), (Instr.makeFunc fn first cap).run Try.prog w = .ok (.func fn first cap) w := fun _ _ _ _ => rfl
  unfold endV
  go_enter Try.func158, Try.ntmps158
  go_wp2_with fail
  go_ret
  exact ⟨rfl, by simp [go_sem], by simp [go_sem], by simp [go_sem], blo⟩
theorem row_congr {w : World} {b T n : Nat} {f g : Nat → Value} (h : w.rowIs b T n f) (e : ∀ i, i < n → f i = g i) : w.rowIs b T n g := by
  obtain ⟨c, h1, h2, h3⟩ := h
  exact ⟨c, h1, h2, fun i hi => by rw [h3 i hi, e i hi]⟩
structure SRounds (KT tb l B0 : Nat) (js : List MJoint) (J N : Nat → MStep → (Nat → Prop) → World → Prop) (Sx : World → Prop) : Prop where
  ltJ : ∀ n s K W, J n s K W → ∀ k, K k → k < W.heap.size
  keepJ : ∀ n s K S W W', J n s K W → Only S W W' → (∀ k, S k → B0 ≤ k ∧ ¬ K k) → J n s K W'
  keepN : ∀ n s K S W W', N n s K W → Only S W W' → (∀ k, S k → B0 ≤ k ∧ ¬ K k) → N n s K W'
  tbN : ∀ n s K W, N n s K W → W.cell? ⟨tb, 0, none⟩ = some (.pointer (some ⟨KT, 0, none⟩))
  next : ∀ n s K W, N n s K W → (overPlainF js s).2 = true → J n (overPlainF js s).1 K W
  yield : ∀ n s K W, J n s K W → YieldAt Fence.wide 0 Try.prog l #[endV s] W (Visited (fun K' u => ∃ m, m < n ∧ N m s K' u) Sx K W)
def StepsPost (js : List MJoint) (N : Nat → MStep → (Nat → Prop) → World → Prop) (Sx : World → Prop) (K : Nat → Prop) (w : World) (e : Ending) (w' : World) : Prop :=
  (∃ v, e = .returned v) ∧ Only K w w' ∧ ((∃ n s K', N n s K' w' ∧ (overPlainF js s).2 = false ∧ Grow K K' w) ∨ Sx w')
set_option maxRecDepth 100000 in
set_option maxHeartbeats 4000000 in
theorem steps_any (KT M tb fb B0 : Nat) (pa ja sa : Option Addr) (pc jc sc : Nat) (ps : List MPiece) (js : List MJoint) (ss : List MPiece) (R : Hid (Right ps js ss)) (l : Nat) (J N : Nat → MStep → (Nat → Prop) → World → Prop) (Sx : World → Prop) (RD : Hid (SRounds KT tb l B0 js J N Sx))
    (hTN : Hid (∀ n s K W, N n s K W → TTrack W KT M pa ja sa pc jc sc ps js ss ∧ ValidS ps s)) (n : Nat) (s : MStep) (K : Nat → Prop) (w : World) (hB0 : B0 ≤ w.heap.size) (hJ : Hid (J n s K w)) (c0 : w.cell? ⟨fb, 0, none⟩ = some (.int .i64 s.piece)) (c1 : w.cell? ⟨fb, 1, none⟩ = some (.int .i64 s.side)) :
    Calls Try.prog 173 #[.func (.yield l) #[] #[], .pointer (some ⟨fb, 0, none⟩), .pointer (some ⟨tb, 0, none⟩)] w (StepsPost js N Sx K w) := by
  have hzf := cellLt c0
  dsimp only at hzf
  have HLT := hidP (RD.out.ltJ _ _ _ _ hJ.out)
  go_enter Try.func173, Try.ntmps173
  go_wp2_with fail
  generalize hW : World.alloc w _ = W
  have HBW : Hid (Below w.heap.size w W) := by rw [← hW]; exact blo
  have HR : Hid (W.rowIs w.heap.size 51 2 (fun i => (#[Value.int .i64 s.piece, .int .i64 s.side] : Array Value).getD i (.bool false))) := by
    unfold Hid
    rw [← hW]
    exact row_of_alloc2 w _ _
  clear hW c0 c1
  have HJW := hidP (RD.out.keepJ _ _ _ (fun _ => False) _ _ hJ.out (Only.of_below HBW.out) (fun k hk => hk.elim))
  have hzW : w.heap.size < W.heap.size := HR.out.lt
  go_loopg [5] n (fun k ok wr => (ok = .bool true ∧ ∃ s K', Hid (J k s K' wr) ∧ Hid (wr.rowIs w.heap.size 51 2 (fun i => (#[Value.int .i64 s.piece, .int .i64 s.side] : Array Value).getD i (.bool false))) ∧ Hid (Only K w wr) ∧ Hid (Grow K K' W) ∧ Hid (W.heap.size ≤ wr.heap.size)) ∨ (ok = .bool false ∧ ∃ m s K', Hid (N m s K' wr) ∧ Hid ((overPlainF js s).2 = false) ∧ Hid (Only K w wr) ∧ Hid (Grow K K' W)))
  case atStart => exact Or.inl ⟨rfl, s, K, HJW, HR, Only.of_below HBW.out, Grow.refl _ _, Nat.le_refl _⟩
  case round =>
    rcases hrel with ⟨rfl, s1, K', HJ, HX, HO, HG, HSZ⟩ | ⟨rfl, m, s1, K', HN, HF, HO, HG⟩
    · have q0 : wr.cell? ⟨w.heap.size, 0, none⟩ = some (.int .i64 s1.piece) := HX.out.cell (i := 0) (by omega)
      have q1 : wr.cell? ⟨w.heap.size, 1, none⟩ = some (.int .i64 s1.side) := HX.out.cell (i := 1) (by omega)
      have hnb : ¬ K' w.heap.size := fun hk => by
        rcases HG.out _ hk with h | h
        · exact Nat.lt_irrefl _ (HLT.out _ h)
        · omega
      have HNB := hidP hnb
      obtain ⟨fn, tm, asg, bdy, hy, hrnd⟩ := RD.out.yield _ _ _ _ HJ.out
      unfold endV at hy
      have HRN := hidP hrnd
      have hzr := HX.out.lt
      clear hrnd hnb HJW
      go_upto_region 1 with fail
      refine (wpIn_wide (n := 0)).1 ?_
      gi_wp2_with fail
      refine ⟨rfl, RoundIn.mono HRN.out ?_⟩
      rintro e w3 ⟨bb, rfl, ho3, hi3, hs3⟩
      dsimp only
      gi_wp2_with fail
      have HO3 : Hid (Only K w w3) := HO.out.thru (HG.out.mono HBW.out.size) ho3
      cases bb
      · have HS3 := hidP (hs3 rfl)
        clear hi3 hs3 ho3 hy q0 q1
        go_wp2_with fail
        exact bodyPost_end (results_none rfl _ _ _) rfl ⟨⟨_, rfl⟩, HO3.out, Or.inr HS3.out⟩
      · obtain ⟨K2, ⟨m, hm, hN⟩, hG2⟩ := hi3 rfl
        have HX3 := hidP (HX.out.of_block (ho3.block _ hzr HNB.out))
        have y0 : w3.cell? ⟨w.heap.size, 0, none⟩ = some (.int .i64 s1.piece) := HX3.out.cell (i := 0) (by omega)
        have y1 : w3.cell? ⟨w.heap.size, 1, none⟩ = some (.int .i64 s1.side) := HX3.out.cell (i := 1) (by omega)
        have t0 := RD.out.tbN _ _ _ _ hN
        have hzt := cellLt t0
        dsimp only at hzt
        have HTV := hidP (hTN.out _ _ _ _ hN)
        have HOP := hidP (overPlain_any KT M pa ja sa pc jc sc ps js ss R s1 w3 HTV.out.1 HTV.out.2)
        obtain ⟨os, ob⟩ : ∃ os, overPlainF js s1 = os := ⟨_, rfl⟩
        have HOS := hidP ob
        rw [ob] at HOP
        obtain ⟨os1, os2⟩ := os
        unfold Hid endV at HOP
        have HOP2 := hidP HOP
        have HN := hidP hN
        have HG3 : Hid (Grow K K2 W) := HG.out.trans hG2 HSZ.out
        have hz3 := HX3.out.lt
        have HS34 := hidP ho3.size
        clear hi3 hs3 hy q0 q1 hN hG2 ob HOP ho3
        have HMM := hidP hm
        clear hm
        go_wp2_with (go_at_call 174; refine HOP2.out.mono ?_; rintro e w4 ⟨rfl, hb4⟩; have hX4 := HX3.out.of_block (hb4.block _ hz3); have g0 := hX4.cell (i := 0) (by omega); have g1 := hX4.cell (i := 1) (by omega); have f0 := hX4.frozen 0; have f1 := hX4.frozen 1; have hz4 := hX4.lt; have HX4 := hidP ((hX4.set 0 (.int .i64 os1.piece)).set 1 (.int .i64 os1.side)); have HB4 := hidP hb4; clear hX4 hb4)
        have hO5 : Only (fun k => k = w.heap.size) w3 ((w4.setCell ⟨w.heap.size, 0, none⟩ (.int .i64 os1.piece)).setCell ⟨w.heap.size, 1, none⟩ (.int .i64 os1.side)) := ((Only.of_below (S := fun k => k = w.heap.size) HB4.out).setCell (p := ⟨w.heap.size, 0, none⟩) (Or.inl rfl) _).setCell (p := ⟨w.heap.size, 1, none⟩) (Or.inl rfl) _
        have hN5 := RD.out.keepN _ _ _ (fun k => k = w.heap.size) _ _ HN.out hO5 (fun k hk => by
          subst hk
          refine ⟨hB0, fun hk => ?_⟩
          rcases HG3.out _ hk with h | h
          · exact Nat.lt_irrefl _ (HLT.out _ h)
          · omega)
        have hOW : Only K w ((w4.setCell ⟨w.heap.size, 0, none⟩ (.int .i64 os1.piece)).setCell ⟨w.heap.size, 1, none⟩ (.int .i64 os1.side)) := ((HO3.out.trans (Only.of_below HB4.out)).setCell (p := ⟨w.heap.size, 0, none⟩) (Or.inr (Nat.le_refl _)) _).setCell (p := ⟨w.heap.size, 1, none⟩) (Or.inr (Nat.le_refl _)) _
        have hSZ5 : W.heap.size ≤ ((w4.setCell ⟨w.heap.size, 0, none⟩ (.int .i64 os1.piece)).setCell ⟨w.heap.size, 1, none⟩ (.int .i64 os1.side)).heap.size := Nat.le_trans (Nat.le_trans HSZ.out HS34.out) hO5.size
        go_roundg m
        case measure => exact HMM.out
        case rel =>
          cases os2
          · exact Or.inr ⟨rfl, m, s1, K2, hN5, by unfold Hid; rw [HOS.out], hOW, HG3⟩
          · refine Or.inl ⟨rfl, os1, K2, ?_, ?_, hOW, HG3, hSZ5⟩
            · have := RD.out.next _ _ _ _ hN5 (by rw [HOS.out])
              rw [HOS.out] at this
              exact this
            · refine row_congr HX4.out ?_
              intro i hi
              have hi' : i = 0 ∨ i = 1 := by omega
              rcases hi' with rfl | rfl <;> simp
    · go_wp2_with fail
      exact bodyPost_end (results_none rfl _ _ _) rfl ⟨⟨_, rfl⟩, HO.out, Or.inl ⟨m, s1, K', HN.out, HF.out, HG.out.mono HBW.out.size⟩⟩
end Go.Proofs.Ytmkdgnmmebldgaa

namespace Go.Proofs.Ytmkdgnmmebldgaa
open Go.RowKit Go.Deep Go.Maps
def posF (ps : List MPiece) (s : MStep) (at0 : Int) (parts : List MPart) : Int := if parts.length = 0 then at0 else endAt ps (farE (aheadE s))
def distF (ps : List MPiece) (s : MStep) (pos : Int) : Int := (endAt ps (aheadE s) - pos) * s.side
structure JMath (ps : List MPiece) (js : List MJoint) (tot : List MPart) (n : Nat) (s : MStep) (at0 left : Int) (parts : List MPart) : Prop where
  sv : ValidS ps s
  l0 : 0 ≤ left
  ln : left < n
  lb : (parts.length : Int) + left ≤ 100000
  p0 : 0 ≤ posF ps s at0 parts
  p1 : posF ps s at0 parts ≤ 10000000
  d0 : 1 ≤ distF ps s (posF ps s at0 parts)
  d1 : distF ps s (posF ps s at0 parts) ≤ 10000000
  a0 : 0 ≤ at0 ∧ at0 ≤ 10000000
  tot : tot = parts ++ behindF ps js n s (posF ps s at0 parts) left
structure NMath (ps : List MPiece) (js : List MJoint) (tot : List MPart) (m : Nat) (s : MStep) (left : Int) (parts : List MPart) : Prop where
  sv : ValidS ps s
  l0 : 0 ≤ left
  ln : left < m
  lb : (parts.length : Int) + left ≤ 100000
  ne : parts.length ≠ 0
  tot : tot = parts ++ (if kindE js (spotE js (aheadE s)).1 = 2 then behindF ps js m (stepFromE (endE js (spotE js (aheadE s)).1 (1 - (spotE js (aheadE s)).2))) (endAt ps (endE js (spotE js (aheadE s)).1 (1 - (spotE js (aheadE s)).2))) left else [])
theorem JMath.stop {ps : List MPiece} {js : List MJoint} {tot : List MPart} {n : Nat} {s : MStep} {at0 left : Int} {parts : List MPart} (h : JMath ps js tot n s at0 left parts) (h0 : left = 0) : tot = parts := by
  have hn := h.ln
  obtain ⟨m, rfl⟩ : ∃ m, n = m + 1 := ⟨n - 1, by omega⟩
  rw [h.tot, behindF, if_pos (by omega)]
  simp
theorem JMath.step {ps : List MPiece} {js : List MJoint} {tot : List MPart} {n : Nat} {s : MStep} {at0 left : Int} {parts : List MPart} (h : JMath ps js tot n s at0 left parts) (h0 : left ≠ 0) {L : Int} (hL : L = min left (distF ps s (posF ps s at0 parts))) :
    NMath ps js tot (n - 1) s (left - L) (parts ++ [partI s.piece (posF ps s at0 parts) (posF ps s at0 parts + L * s.side)]) := by
  have hn := h.ln
  have hl := h.l0
  have hd := h.d0
  have hb := h.lb
  have hL1 : 1 ≤ L ∧ L ≤ left := by rw [hL]; omega
  obtain ⟨m, rfl⟩ : ∃ m, n = m + 1 := ⟨n - 1, by omega⟩
  refine ⟨h.sv, by omega, by omega, by rw [List.length_append, List.length_singleton]; omega, by simp, ?_⟩
  have ht := h.tot
  rw [behindF, if_neg (by omega)] at ht
  unfold distF at hL
  rw [ht, hL, List.append_assoc]
  rfl
theorem NMath.stop {ps : List MPiece} {js : List MJoint} {tot : List MPart} {m : Nat} {s : MStep} {left : Int} {parts : List MPart} (h : NMath ps js tot m s left parts) (h0 : (overPlainF js s).2 = false) : tot = parts := by
  have ht := h.tot
  unfold overPlainF at h0
  by_cases hk : kindE js (spotE js (aheadE s)).1 = 2
  · rw [if_pos hk] at h0
    cases h0
  · rw [if_neg hk] at ht
    rw [ht]
    simp
theorem dist_begin {ps : List MPiece} {e : MEnd} (h : ValidE ps e) : distF ps (stepFromE e) (endAt ps e) = lenI ps e.piece := by
  obtain ⟨p, hp, e1, e2⟩ := h
  cases e
  simp only at e1 e2
  unfold distF stepFromE aheadE endAt
  rcases e2 with rfl | rfl <;> simp
theorem NMath.next {ps : List MPiece} {js : List MJoint} {ss : List MPiece} (R : Right ps js ss) {tot : List MPart} {m : Nat} {s : MStep} {left : Int} {parts : List MPart} (h : NMath ps js tot m s left parts) (h0 : (overPlainF js s).2 = true) {at0 : Int} (ha : 0 ≤ at0 ∧ at0 ≤ 10000000) : JMath ps js tot m (overPlainF js s).1 at0 left parts := by
  have ht := h.tot
  unfold overPlainF at h0 ⊢
  by_cases hk : kindE js (spotE js (aheadE s)).1 = 2
  · rw [if_pos hk] at h0 ht ⊢
    obtain ⟨j, k, hsp, hsp2⟩ := R.spot (aheadE_valid h.sv)
    obtain ⟨_, hj, hkk, _⟩ := spotF_some hsp
    simp only [Nat.sub_zero] at hj hkk
    rw [hsp2] at hk ht ⊢
    dsimp only at hk ht ⊢
    have hkd := R.kind j hj
    rw [kindE_at hj] at hk
    have hte : 1 - k < js[j].ends.length := by omega
    have hve : ValidE ps (endE js j (1 - k)) := by
      rw [endE_at hj hte]
      exact R.ends j hj _ hte
    obtain ⟨q, hq, q1, q2⟩ := hve
    have hpl := R.plen q hq
    have hlen : lenI ps (endE js j (1 - k)).piece = ps[q].len := by rw [q1]; exact lenI_at hq
    have hve : ValidE ps (endE js j (1 - k)) := ⟨q, hq, q1, q2⟩
    have hpos : posF ps (stepFromE (endE js j (1 - k))) at0 parts = endAt ps (endE js j (1 - k)) := by
      unfold posF
      rw [if_neg h.ne, (farI_begin hve).2]
    have hr := endAt_range R hve
    refine ⟨stepFromE_valid hve, h.l0, h.ln, h.lb, by rw [hpos]; exact hr.1, by rw [hpos]; omega, ?_, ?_, ha, by rw [hpos]; exact ht⟩
    · rw [hpos, dist_begin hve, hlen]
      exact hpl.1
    · rw [hpos, dist_begin hve, hlen]
      exact hpl.2
  · rw [if_neg hk] at h0
    cases h0
theorem JMath.begin {ps : List MPiece} {js : List MJoint} {ss : List MPiece} (R : Right ps js ss) {i : Nat} (hi : i < ss.length) {over : Int} (h0 : 0 ≤ over) (h1 : over ≤ 100000) : JMath ps js (overF ps js ss i over) (over.toNat + 1) ⟨ss[i].len, ss[i].brake⟩ ss[i].speed over [] := by
  obtain ⟨p, hp, e1, e2, e3, e4⟩ := R.sig i hi
  have hpl := R.plen p hp
  have hlen : lenI ps ss[i].len = ps[p].len := by rw [e1]; exact lenI_at hp
  have hpos : posF ps ⟨ss[i].len, ss[i].brake⟩ ss[i].speed [] = ss[i].speed := rfl
  have hd : 1 ≤ distF ps ⟨ss[i].len, ss[i].brake⟩ ss[i].speed ∧ distF ps ⟨ss[i].len, ss[i].brake⟩ ss[i].speed ≤ 10000000 := by
    unfold distF aheadE endAt
    rcases e2 with e2 | e2
    · rw [e2]
      simp only [if_true]
      rw [if_neg (by omega), hlen]
      omega
    · rw [e2]
      have hne : ¬ ((-1 : Int) = 1) := by decide
      simp [hne]
      omega
  refine ⟨⟨p, hp, e1, e2⟩, h0, by omega, by simpa using h1, by rw [hpos]; omega, by rw [hpos]; omega, by rw [hpos]; exact hd.1, by rw [hpos]; exact hd.2, by omega, ?_⟩
  unfold overF
  rw [if_neg (by omega), hpos]
  simp [hi]
end Go.Proofs.Ytmkdgnmmebldgaa
