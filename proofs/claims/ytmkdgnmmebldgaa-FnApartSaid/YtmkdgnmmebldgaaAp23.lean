import Derived.Test.YtmkdgnmmebldgaaAp11
import Derived.Test.YtmkdgnmmebldgaaAp7
import Derived.Deep.RegionHeld3
import Derived.Test.YtmkdgnmmebldgaaAp13
import Derived.Test.YtmkdgnmmebldgaaAp14
import Derived.Test.YtmkdgnmmebldgaaAp15
import Derived.Test.YtmkdgnmmebldgaaAp16
import Derived.Test.YtmkdgnmmebldgaaAp17
import Derived.Test.YtmkdgnmmebldgaaAp18
import Derived.Test.YtmkdgnmmebldgaaAp19
import Derived.Test.YtmkdgnmmebldgaaAp20
import Derived.Test.YtmkdgnmmebldgaaAp21
import Derived.Test.YtmkdgnmmebldgaaAp22
import Derived.Test.YtmkdgnmmebldgaaAp4
namespace Go.Proofs.Ytmkdgnmmebldgaa
open Go.RowKit Go.Deep

theorem encR_len (x : RAddr × MRoute) : (encR x).length = 8 := rfl
/-- The rows of a finder hold its routes. -/
theorem routes_of {w : World} {F B : Nat} {x : Option Addr} {y : Nat} {pr : List (RAddr × MRoute)} (h : w.ownsRow B 42 8 (.slice x pr.length y) pr.length (flatR pr)) (hk : ∀ z ∈ pr, RKeep w F z.1 z.2) : RoutesAt w x (pr.map Prod.snd) ∧ (x = none → y = 0) := by
  rcases h.2 with ⟨h1, h2⟩ | ⟨g, cap, cur, h1, h2, h3, h4, h5, _⟩
  · have : pr = [] := List.eq_nil_of_length_eq_zero h2
    subst this
    injection h1 with e1 e2 e3
    exact ⟨⟨Nat.zero_le _, Or.inl rfl⟩, fun _ => e3⟩
  · cases h1
    refine ⟨⟨by rw [List.length_map]; exact Nat.le_trans h4 h5, Or.inr ⟨g, 0, rfl, ?_⟩⟩, fun e => by cases e⟩
    intro i hi
    rw [List.length_map] at hi
    have hc := h.cells (g := g) rfl
    have hg : ∀ j, j < 8 → ∀ u, (encR pr[i])[j]? = some u → w.cell? ⟨g, 0 + i * 8 + j, none⟩ = some u := by
      intro j hj u hu
      have := hc (i * 8 + j) u ((flat_get encR 8 encR_len pr i j hi hj).trans hu)
      rw [addr_at] at this
      have e : 0 + (i * 8 + j) = 0 + i * 8 + j := by omega
      rw [e] at this
      exact this
    refine ⟨pr[i].1, ?_, ?_⟩
    · rw [List.getElem_map]
      exact ⟨hg 0 (by omega) _ rfl, hg 1 (by omega) _ rfl, hg 2 (by omega) _ rfl, hg 3 (by omega) _ rfl, hg 4 (by omega) _ rfl, hg 5 (by omega) _ rfl, hg 6 (by omega) _ rfl, hg 7 (by omega) _ rfl⟩
    · rw [List.getElem_map]
      exact (hk pr[i] (List.getElem_mem hi)).lists

set_option maxHeartbeats 1000000 in
theorem l1all_any (pa ja sa : Option Addr) (pc jc sc : Nat) (ps : List MPiece) (js : List MJoint) (ss : List MPiece) (w : World) (hp : Hid (PiecesAt w pa ps)) (hj : Hid (JointsAt w ja js)) (hs : Hid (PiecesAt w sa ss)) :
    Calls Try.prog 42 #[.agg #[.slice pa ps.length pc, .slice ja js.length jc], .slice sa ss.length sc] w fun e w' => e = .returned (.bool ((sigF ps js ss).1 == 0)) ∧ Below w.heap.size w w' := by
  go_enter Try.func42, Try.ntmps42
  go_wp2_with fail
  refine (specSignalsOk_any _ _ _ _ _ _ _ _ _ _ (hp.out.below (by repeat (first | exact Below.refl _ _ | assumption | refine Below.drew ?_ | refine bdrewN ?_ _ | refine Below.setCell ?_ (by first | omega | (simp; done) | (simp; omega)) _ | refine Below.alloc ?_ (by first | omega | (simp; done) | (simp; omega)) _))) (hj.out.below (by repeat (first | exact Below.refl _ _ | assumption | refine Below.drew ?_ | refine bdrewN ?_ _ | refine Below.setCell ?_ (by first | omega | (simp; done) | (simp; omega)) _ | refine Below.alloc ?_ (by first | omega | (simp; done) | (simp; omega)) _))) (hs.out.below (by repeat (first | exact Below.refl _ _ | assumption | refine Below.drew ?_ | refine bdrewN ?_ _ | refine Below.setCell ?_ (by first | omega | (simp; done) | (simp; omega)) _ | refine Below.alloc ?_ (by first | omega | (simp; done) | (simp; omega)) _)))).mono ?_
  rintro e w1 ⟨rfl, hb1⟩
  have hb : Below w.heap.size w w1 := Below.trans (by repeat (first | exact Below.refl _ _ | assumption | refine Below.drew ?_ | refine bdrewN ?_ _ | refine Below.setCell ?_ (by first | omega | (simp; done) | (simp; omega)) _ | refine Below.alloc ?_ (by first | omega | (simp; done) | (simp; omega)) _)) (hb1.mono (by simp))
  unfold faultV
  obtain ⟨c, hc⟩ : ∃ c, (sigF ps js ss).1 = c := ⟨_, rfl⟩
  obtain ⟨d, hd⟩ : ∃ d, (sigF ps js ss).2 = d := ⟨_, rfl⟩
  rw [hc, hd]
  have HC := hidP hc
  have hz := hb.size
  clear hb1 hc hd
  cases h : (c == 0)
  · go_wp2_with fail
    go_ret
    rw [HC.out, h]
    exact ⟨rfl, (by repeat (first | exact Below.refl _ _ | assumption | refine Below.drew ?_ | refine bdrewN ?_ _ | refine Below.setCell ?_ (by first | omega | (simp; done) | (simp; omega)) _ | refine Below.alloc ?_ (by first | omega | (simp; done) | (simp; omega)) _))⟩
  · go_wp2_with fail
    go_ret
    rw [HC.out, h]
    exact ⟨rfl, (by repeat (first | exact Below.refl _ _ | assumption | refine Below.drew ?_ | refine bdrewN ?_ _ | refine Below.setCell ?_ (by first | omega | (simp; done) | (simp; omega)) _ | refine Below.alloc ?_ (by first | omega | (simp; done) | (simp; omega)) _))⟩

/-- The walks from the first m signals. -/
def FindInv (w0 Wl wr : World) (F : Nat) (pa ja sa : Option Addr) (pc jc sc : Nat) (ps : List MPiece) (js : List MJoint) (ss : List MPiece) (over : Int) (vo : Value) (m : Nat) : Prop :=
  ∃ xo yo t pr, WS w0 wr F pa ja sa pc jc sc ps.length js.length ss.length over xo yo t pr ∧ Eff F vo (.slice xo pr.length yo) Wl wr ∧ Went (routeF ps js ss over) 0 [] (allEvs ps js ss m) t (pr.map Prod.snd) ∧ t ≤ 20000 + depthR ps + m ∧ pr.length ≤ 301

theorem sig_code {ps : List MPiece} {js : List MJoint} {ss : List MPiece} (h : (sigF ps js ss).1 = 0) : sigF ps js ss = (0, 0) := by
  unfold sigF at h ⊢
  split at h
  · rename_i h0
    rw [if_pos h0]
    split at h
    · simp at h
    · rename_i h1
      rw [if_neg h1]
      split at h
      · simp at h
      · rename_i h2
        rw [if_neg h2]
        split at h
        · simp at h
        · rename_i h3
          rw [if_neg h3]
  · simp at h

/-- What is found, when all signals have been gone from. -/
theorem found_all {ps : List MPiece} {js : List MJoint} {ss : List MPiece} {over : Int} (hs : sigF ps js ss = (0, 0)) (h0 : 0 ≤ over) (h1 : over ≤ 100000) {t : Nat} {rs : List MRoute} (h : Went (routeF ps js ss over) 0 [] (allEvs ps js ss ss.length) t rs) (hl : rs.length ≤ 300 ∧ t ≤ 20000) : rs = routesF ps js ss over := by
  have hf : Fits 0 ([] : List MRoute).length (allEvs ps js ss ss.length) := by
    refine Classical.byContradiction (fun hn => ?_)
    rcases h.past hn with h2 | h2 <;> omega
  obtain ⟨_, e⟩ := h.fit hf
  obtain ⟨f1, f2⟩ := hf
  unfold routesF
  rw [if_pos ⟨hs, h0, h1, by simpa using f1, by simpa using f2⟩, e, List.nil_append]
theorem found_none {ps : List MPiece} {js : List MJoint} {ss : List MPiece} {over : Int} {t : Nat} {rs : List MRoute} (h : Went (routeF ps js ss over) 0 [] (allEvs ps js ss ss.length) t rs) (hl : ¬ (rs.length ≤ 300 ∧ t ≤ 20000)) : routesF ps js ss over = [] := by
  unfold routesF
  rw [if_neg]
  rintro ⟨_, _, _, f1, f2⟩
  obtain ⟨e1, e2⟩ := h.fit ⟨by simpa using f1, by simpa using f2⟩
  refine hl ⟨?_, by omega⟩
  rw [e2]
  simpa using f2
theorem routesF_wrong {ps : List MPiece} {js : List MJoint} {ss : List MPiece} {over : Int} (h : ¬ (sigF ps js ss = (0, 0) ∧ 0 ≤ over ∧ over ≤ 100000)) : routesF ps js ss over = [] := by
  unfold routesF
  rw [if_neg (fun e => h ⟨e.1, e.2.1, e.2.2.1⟩)]

theorem keep_nil (w : World) (F : Nat) (st sp : Int) : RKeep w F ⟨none, 0, none, 0, none, 0, none, 0, none, 0, none, 0⟩ ⟨st, sp, [], [], [], [], [], []⟩ :=
  ⟨⟨⟨Nat.zero_le _, Or.inl rfl⟩, ⟨Nat.zero_le _, Or.inl rfl⟩, ⟨Nat.zero_le _, Or.inl rfl⟩, ⟨Nat.zero_le _, Or.inl rfl⟩, ⟨Nat.zero_le _, Or.inl rfl⟩, ⟨Nat.zero_le _, Or.inl rfl⟩, fun _ => rfl⟩, Or.inl rfl, Or.inl rfl, Or.inl rfl, Or.inl rfl, Or.inl rfl, Or.inl rfl⟩
theorem nil_nil (st sp : Int) : NilR ⟨none, 0, none, 0, none, 0, none, 0, none, 0, none, 0⟩ ⟨st, sp, [], [], [], [], [], []⟩ := ⟨fun _ => ⟨rfl, rfl⟩, fun _ => ⟨rfl, rfl⟩, fun _ => ⟨rfl, rfl⟩, fun _ => ⟨rfl, rfl⟩⟩

set_option maxRecDepth 20000 in
set_option maxHeartbeats 4000000 in
theorem specRoutes_of (pa ja sa : Option Addr) (pc jc sc : Nat) (ps : List MPiece) (js : List MJoint) (ss : List MPiece) (over : Int) (w : World) (hp : Hid (PiecesAt w pa ps)) (hj : Hid (JointsAt w ja js)) (hs : Hid (PiecesAt w sa ss))
    (hw : Hid (∀ F, w.heap.size ≤ F → Right ps js ss → 0 ≤ over → over ≤ 100000 → ∀ n, WalkSpec w F pa ja sa pc jc sc ps js ss over n)) :
    Calls Try.prog 10 #[.agg #[.slice pa ps.length pc, .slice ja js.length jc], .slice sa ss.length sc, .int .i64 over] w fun e w' => ∃ a c, e = .returned (.slice a (routesF ps js ss over).length c) ∧ RoutesAt w' a (routesF ps js ss over) ∧ (a = none → c = 0) ∧ Below w.heap.size w w' := by
  obtain ⟨RS, hRS⟩ : ∃ RS, routesF ps js ss over = RS := ⟨_, rfl⟩
  rw [hRS]
  have HRS := hidP hRS
  clear hRS
  go_enter Try.func10, Try.ntmps10
  go_wp2_with fail
  refine (l1all_any pa ja sa pc jc sc ps js ss _ (hp.out.below (by repeat (first | exact Below.refl _ _ | assumption | refine Below.drew ?_ | refine bdrewN ?_ _ | refine Below.setCell ?_ (by first | omega | (simp; done) | (simp; omega)) _ | refine Below.alloc ?_ (by first | omega | (simp; done) | (simp; omega)) _))) (hj.out.below (by repeat (first | exact Below.refl _ _ | assumption | refine Below.drew ?_ | refine bdrewN ?_ _ | refine Below.setCell ?_ (by first | omega | (simp; done) | (simp; omega)) _ | refine Below.alloc ?_ (by first | omega | (simp; done) | (simp; omega)) _))) (hs.out.below (by repeat (first | exact Below.refl _ _ | assumption | refine Below.drew ?_ | refine bdrewN ?_ _ | refine Below.setCell ?_ (by first | omega | (simp; done) | (simp; omega)) _ | refine Below.alloc ?_ (by first | omega | (simp; done) | (simp; omega)) _)))).mono ?_
  rintro e w1 ⟨rfl, hb1⟩
  have hb : Below w.heap.size w w1 := Below.trans (by repeat (first | exact Below.refl _ _ | assumption | refine Below.drew ?_ | refine bdrewN ?_ _ | refine Below.setCell ?_ (by first | omega | (simp; done) | (simp; omega)) _ | refine Below.alloc ?_ (by first | omega | (simp; done) | (simp; omega)) _)) (hb1.mono (by simp))
  have n0 : w1.cell? ⟨w.heap.size, 0, none⟩ = some (.slice pa ps.length pc) := cell_later hb1 (by simp [go_sem])
  have n1 : w1.cell? ⟨w.heap.size, 1, none⟩ = some (.slice ja js.length jc) := cell_later hb1 (by simp [go_sem])
  have hz1 := cellLt n0
  dsimp only at hz1
  clear hb1
  cases hc : ((sigF ps js ss).1 == 0)
  · have HR0 : Hid (RS = []) := by
      unfold Hid
      rw [← HRS.out]
      exact routesF_wrong (fun e => by rw [e.1] at hc; simp at hc)
    go_wp2_with fail
    go_ret
    rw [HR0.out]
    exact ⟨none, 0, rfl, ⟨Nat.zero_le _, Or.inl rfl⟩, fun _ => rfl, hb⟩
  · have HSIG := hidP (sig_code (ps := ps) (js := js) (ss := ss) (by simpa using hc))
    have R : Hid (Right ps js ss) := right_of HSIG.out
    clear hc
    go_wp2_with fail
    refine (l1in_any over 0 100000 _).mono ?_
    rintro e w2 ⟨rfl, rfl⟩
    by_cases hov : 0 ≤ over ∧ over ≤ 100000
    rotate_left
    · have hi : inB over 0 100000 = false := by
        by_cases h : 0 ≤ over
        · exact inB_f2 (fun h2 => hov ⟨h, h2⟩)
        · exact inB_f1 h
      rw [hi]
      have HR0 : Hid (RS = []) := by
        unfold Hid
        rw [← HRS.out]
        exact routesF_wrong (fun e => hov e.2)
      clear hi
      go_wp2_with fail
      go_ret
      rw [HR0.out]
      exact ⟨none, 0, rfl, ⟨Nat.zero_le _, Or.inl rfl⟩, fun _ => rfl, hb⟩
    · have hi : inB over 0 100000 = true := inB_t hov.1 hov.2
      rw [hi]
      clear hi
      have HOV := hidP hov
      clear hov
      go_wp2_with fail
      generalize hW : World.alloc w2 _ = W
      have HS0 : Hid (WS w W w2.heap.size pa ja sa pc jc sc ps.length js.length ss.length over none 0 0 []) := by
        rw [← hW]
        exact ⟨hb.alloc hb.size _, hb.size, by simp [go_sem], by simp [go_sem], by simp [go_sem], by simp [go_sem], by simp [go_sem], by simp [go_sem], by simp [go_sem], by simp [go_sem], ⟨.slice none 0 0, by simp [go_sem]⟩, by simp [go_sem], World.ownsRow_nil _ _ _ _, fun x hx => by cases hx⟩
      have hbW : Below w2.heap.size w2 W := by rw [← hW]; exact (Below.refl _ _).alloc (Nat.le_refl _) _
      have m0 := cell_later hbW n0
      have m1 := cell_later hbW n1
      have hzW : w2.heap.size < W.heap.size := by rw [← hW]; simp
      have HI0 : Hid (FindInv w W W w2.heap.size pa ja sa pc jc sc ps js ss over (.slice none 0 0) 0) := ⟨none, 0, 0, [], HS0.out, HS0.out.eff0 (Below.refl _ _), Went.stay, by omega, by simp⟩
      have hnss := R.out.ns
      clear hW n0 n1 hbW HS0
      go_loopw [26] (fun c wr => ∃ m : Nat, m ≤ ss.length ∧ c = .int .i64 m ∧ Hid (FindInv w W wr w2.heap.size pa ja sa pc jc sc ps js ss over (.slice none 0 0) m)) (fun c _ => ss.length - (intOf c).toNat)
      case atStart => exact ⟨0, Nat.zero_le _, rfl, HI0⟩
      case round =>
        clear HI0
        obtain ⟨m, hm, rfl, HI⟩ := hrel
        obtain ⟨xo, yo, t, pr, hws, heff, hwt, ht, hpr⟩ := HI.out
        have HWS := hidP hws
        have HEF := hidP heff
        have HWT := hidP hwt
        clear HI hws heff hwt
        by_cases hm' : m < ss.length
        · obtain ⟨bs, os, hsa, hpcs⟩ := (hs.out.below HWS.out.base).2.2.resolve_left (fun h => by rw [h] at hm'; exact absurd hm' (Nat.not_lt_zero _))
          subst hsa
          obtain ⟨s0, s1, s2, s3⟩ := hpcs m hm'
          obtain ⟨p, hpl, e1, e2, e3, e4⟩ := R.out.sig m hm'
          have hL := R.out.plen p hpl
          have n0 : wr.cell? ⟨w.heap.size, 0, none⟩ = some (.slice pa ps.length pc) := (World.cell?_of_block (w := W) (HEF.out.block (b := w.heap.size) (by omega) (by omega) (fun e => by cases e))).trans m0
          have n1 : wr.cell? ⟨w.heap.size, 1, none⟩ = some (.slice ja js.length jc) := (World.cell?_of_block (w := W) (HEF.out.block (b := w.heap.size) (by omega) (by omega) (fun e => by cases e))).trans m1
          have HEVS : Hid (allEvs ps js (ss) (m + 1) = allEvs ps js ss m ++ evs ps js ss (depthR ps) (pathOf m ([] ++ [⟨(p : Int), ss[m].brake⟩]) [] []) ss[m].speed) := by
            unfold Hid
            have h : allEvs ps js ss (m + 1) = allEvs ps js ss m ++ (match ss[m]? with | none => [] | some s => evs ps js ss (depthR ps) (beginP m s) s.speed) := rfl
            rw [h, List.getElem?_eq_getElem hm']
            have h2 : beginP m ss[m] = pathOf m ([] ++ [⟨(p : Int), ss[m].brake⟩]) [] [] := by
              unfold beginP pathOf
              rw [e1]
              rfl
            rw [← h2]
          have HOK : Hid (WalkOk ps js ss m [] ⟨p, ss[m].brake⟩ [] [] ss[m].speed) := by
            have h := WalkOk.begin R.out hm'
            rw [e1] at h
            exact h
          rw [e1] at s1
          obtain ⟨wy, hwy⟩ : ∃ wy, ss[m].brake = wy := ⟨_, rfl⟩
          obtain ⟨sp, hsp⟩ : ∃ sp, ss[m].speed = sp := ⟨_, rfl⟩
          rw [hwy] at s3 HEVS HOK e2
          rw [hsp] at s2 HEVS HOK e3 e4
          obtain ⟨far, hfar⟩ : ∃ far, farI ps p sp wy = far := ⟨_, rfl⟩
          have HFR : Hid (∀ u : World, Below wr.heap.size wr u → Calls Try.prog 45 #[.agg #[.slice pa ps.length pc, .slice ja js.length jc], .int .i64 p, .int .i64 sp, .int .i64 wy] u fun e w' => e = .returned (.int .i64 far) ∧ Below u.heap.size u w') := by
            intro u hu
            rw [← hfar]
            exact l2far_any pa ja pc js.length jc ps p sp wy u ((hp.out.below HWS.out.base).below hu) hpl hL (by omega) (by omega)
          have HWK : Hid (∀ u : World, Below wr.heap.size wr u → Calls Try.prog 44 #[.pointer (some ⟨w2.heap.size, 0, none⟩), .agg #[.int .i64 m, .int .i64 0, .slice none 0 0, .slice none 0 0, .slice none 0 0, .slice none 0 0, .slice none 0 0, .slice none 0 0], .int .i64 p, .int .i64 wy, .int .i64 far] u (WalkPost w u w2.heap.size pa ja (some ⟨bs, os, none⟩) pc jc sc ps js ss over (depthR ps) t (.slice xo pr.length yo) (pr.map Prod.snd) (evs ps js ss (depthR ps) (pathOf m ([] ++ [⟨(p : Int), wy⟩]) [] []) sp))) := by
            intro u hu
            rw [← hfar]
            exact hw.out w2.heap.size hb.size R.out HOV.out.1 HOV.out.2 (depthR ps) none 0 none 0 none 0 none 0 m [] p wy [] [] sp xo yo t pr u HOK.out (by unfold depthR; simp) (HWS.out.below hu) (keep_nil _ _ _ _) (nil_nil _ _) (by have := R.out.np; unfold depthR at ht; omega) hpr
          have hmi : (m : Int) < ss.length := by omega
          have hzs := cellLt s0
          dsimp only at hzs
          have hwz := HEF.out.size
          clear hpcs hfar hwy hsp e1 e2 e3 e4
          go_wp2_with fail
          generalize hWb : World.alloc wr _ = Wb
          have hbb : Below wr.heap.size wr Wb := by rw [← hWb]; exact (Below.refl _ _).alloc (Nat.le_refl _) _
          have b1 : Wb.cell? ⟨wr.heap.size, 1, none⟩ = some (.int .i64 p) := by rw [← hWb]; simp [go_sem]
          have b2 : Wb.cell? ⟨wr.heap.size, 2, none⟩ = some (.int .i64 sp) := by rw [← hWb]; simp [go_sem]
          have b3 : Wb.cell? ⟨wr.heap.size, 3, none⟩ = some (.int .i64 wy) := by rw [← hWb]; simp [go_sem]
          replace n0 := cell_later hbb n0
          replace n1 := cell_later hbb n1
          have hzb := hbb.size
          have hzbb : wr.heap.size < Wb.heap.size := by rw [← hWb]; simp
          have HBB := hidP hbb
          clear hWb hbb s0 s1 s2 s3 hzs
          go_region_held3 (fun w' => w'.cell? ⟨wr.heap.size, 1, none⟩ = some (.int .i64 p) ∧ w'.cell? ⟨wr.heap.size, 2, none⟩ = some (.int .i64 sp) ∧ w'.cell? ⟨wr.heap.size, 3, none⟩ = some (.int .i64 wy) ∧ w'.cell? ⟨w.heap.size, 0, none⟩ = some (.slice pa ps.length pc) ∧ w'.cell? ⟨w.heap.size, 1, none⟩ = some (.slice ja js.length jc)) (first | go_keep | (refine ⟨?_, ?_, ?_, ?_, ?_⟩ <;> assumption))
            (first
              | (go_at_call 45; refine (HFR.out _ (HBB.out.drew)).mono ?_; rintro e w5 ⟨rfl, hb5'⟩; have hb5 : Below Wb.heap.size Wb w5 := (Below.refl _ _).drew.trans hb5'; replace n0 := cell_later hb5 n0; replace n1 := cell_later hb5 n1; replace b1 := cell_later hb5 b1; replace b2 := cell_later hb5 b2; replace b3 := cell_later hb5 b3; have hz5 := hb5.size; have HB5 : Hid (Below wr.heap.size wr w5) := HBB.out.trans (hb5.mono hzb); clear hb5' hb5)
              | (go_at_call 44; refine (HWK.out w5 HB5.out).mono ?_; rintro e w6 ⟨rfl, xo6, yo6, t6, pr6, k1, k2, k3, k4, k5⟩; have hx1 : w6.heap[wr.heap.size]? = w5.heap[wr.heap.size]? := k2.block (by omega) (by omega) (fun e => by have := (HWS.out.own.lt _ e).2; omega); have hx2 : w6.heap[w.heap.size]? = w5.heap[w.heap.size]? := k2.block (by omega) (by omega) (fun e => by have := (HWS.out.own.lt _ e).1; omega); replace n0 := (World.cell?_of_block (w := w5) hx2).trans n0; replace n1 := (World.cell?_of_block (w := w5) hx2).trans n1; replace b1 := (World.cell?_of_block (w := w5) hx1).trans b1; replace b2 := (World.cell?_of_block (w := w5) hx1).trans b2; replace b3 := (World.cell?_of_block (w := w5) hx1).trans b3; have HIN : Hid (FindInv w W w6 w2.heap.size pa ja (some ⟨bs, os, none⟩) pc jc sc ps js ss over (.slice none 0 0) (m + 1)) := (by refine ⟨xo6, yo6, t6, pr6, k1, (HEF.out.later HB5.out).trans k2, ?_, by omega, k5⟩; rw [HEVS.out]; exact HWT.out.app k3); clear k1 k2 k3 k4 k5 hx1 hx2))
          all_goals
            go_wp2_with fail
            go_roundw
            case rel => exact ⟨m + 1, by omega, by go_num, HIN⟩
            case measure => simp [intOf]; omega
        · have hme : m = ss.length := by omega
          subst hme
          have c4 := HWS.out.c4
          have c5 := HWS.out.c5
          have hFr := HWS.out.lt
          have HRT := hidP (routes_of HWS.out.own HWS.out.keep)
          by_cases hl : (pr.map Prod.snd).length ≤ 300 ∧ t ≤ 20000
          · have HR0 : Hid (pr.map Prod.snd = RS) := by
              unfold Hid
              rw [← HRS.out]
              exact found_all HSIG.out HOV.out.1 HOV.out.2 HWT.out hl
            rw [HR0.out] at HRT
            have hlen : Hid (pr.length = RS.length) := by unfold Hid; rw [← HR0.out, List.length_map]
            rw [List.length_map] at hl
            have h1 : (pr.length : Int) ≤ 300 := by omega
            have h2 : (t : Int) ≤ 20000 := by omega
            clear hl
            go_wp2_with fail
            go_ret
            rw [← hlen.out]
            exact ⟨xo, yo, rfl, HRT.out.1, HRT.out.2, HWS.out.base⟩
          · have HR0 : Hid (RS = []) := by
              unfold Hid
              rw [← HRS.out]
              exact found_none HWT.out hl
            rw [List.length_map] at hl
            have hc : (300 : Int) < (pr.length : Int) ∨ ((pr.length : Int) ≤ 300 ∧ (20000 : Int) < (t : Int)) := by omega
            clear hl
            rcases hc with hc | ⟨hc, hc2⟩
            all_goals
              go_wp2_with fail
              go_ret
              rw [HR0.out]
              exact ⟨none, 0, rfl, ⟨Nat.zero_le _, Or.inl rfl⟩, fun _ => rfl, HWS.out.base⟩

end Go.Proofs.Ytmkdgnmmebldgaa

namespace Go.Proofs.Ytmkdgnmmebldgaa
open Go.RowKit Go.Deep

theorem walk_step (w0 : World) (F : Nat) (pa ja sa : Option Addr) (pc jc sc : Nat) (ps : List MPiece) (js : List MJoint) (ss : List MPiece) (over : Int) (n : Nat) (R : Hid (Right ps js ss)) (HP : Hid (PiecesAt w0 pa ps)) (HJ : Hid (JointsAt w0 ja js)) (HS : Hid (PiecesAt w0 sa ss)) (ho0 : 0 ≤ over) (ho1 : over ≤ 100000)
    (hfl : Hid (∀ (B Q : Nat) (la : Option Addr) (lc : Nat) (lies : List MLie) (pl : Int) (n : Nat), LB w0 B F Q pa ja sa la ps js ss lies → LookSpec w0 B F Q pa ja sa la pc jc sc lc ps js ss lies pl n))
    (ih : Hid (WalkSpec w0 F pa ja sa pc jc sc ps js ss over n))
    (a0 : Option Addr) (k0 : Nat) (a1 : Option Addr) (k1 : Nat) (a2 : Option Addr) (k2 : Nat) (a3 : Option Addr) (k3 : Nat) (i : Nat) (pre : List MStep) (p : Nat) (way : Int) (lies : List MLie) (crosses : List Int) (pos : Int) (xo : Option Addr) (yo t : Nat) (pr : List (RAddr × MRoute)) (w : World) (ok : Hid (WalkOk ps js ss i pre ⟨p, way⟩ lies crosses pos)) (hn : Hid (n + 1 + pre.length = 2 * ps.length + 2))
    (hs : Hid (WS w0 w F pa ja sa pc jc sc ps.length js.length ss.length over xo yo t pr)) (hk : Hid (RKeep w F ⟨a0, k0, a1, k1, a2, k2, a3, k3, none, 0, none, 0⟩ (walkR ps ss i pre lies crosses))) (hnil : Hid (NilR ⟨a0, k0, a1, k1, a2, k2, a3, k3, none, 0, none, 0⟩ (walkR ps ss i pre lies crosses))) (ht : t ≤ 100000) (hpr : pr.length ≤ 301) :
    Calls Try.prog 44 #[.pointer (some ⟨F, 0, none⟩), .agg #[.int .i64 i, .int .i64 0, .slice a0 pre.length k0, .slice a1 lies.length k1, .slice a2 crosses.length k2, .slice a3 pre.length k3, .slice none 0 0, .slice none 0 0], .int .i64 p, .int .i64 way, .int .i64 (farI ps p pos way)] w (WalkPost w0 w F pa ja sa pc jc sc ps js ss over (n + 1) t (.slice xo pr.length yo) (pr.map Prod.snd) (evs ps js ss (n + 1) (pathOf i (pre ++ [⟨p, way⟩]) lies crosses) pos)) := by
  by_cases hl : pr.length ≤ 300 ∧ t + 1 ≤ 20000
  rotate_left
  · exact walk_first w0 F pa ja sa pc jc sc ps js ss over n R HP HJ HS ho0 ho1 hfl ih a0 k0 a1 k1 a2 k2 a3 k3 i pre p way lies crosses pos xo yo t pr w ok hn hs hk hnil ht hpr (Or.inl hl)
  by_cases hnb : 0 ≤ nextB ss p way pos ss.length
  · exact walk_first w0 F pa ja sa pc jc sc ps js ss over n R HP HJ HS ho0 ho1 hfl ih a0 k0 a1 k1 a2 k2 a3 k3 i pre p way lies crosses pos xo yo t pr w ok hn hs hk hnil ht hpr (Or.inr (Or.inl hnb))
  by_cases hin : (⟨(p : Int), way⟩ : MStep) ∈ pre
  · exact walk_first w0 F pa ja sa pc jc sc ps js ss over n R HP HJ HS ho0 ho1 hfl ih a0 k0 a1 k1 a2 k2 a3 k3 i pre p way lies crosses pos xo yo t pr w ok hn hs hk hnil ht hpr (Or.inr (Or.inr hin))
  have hnb' : nextB ss p way pos ss.length < 0 := by omega
  have hk4 : kindE js (spotE js (aheadE ⟨(p : Int), way⟩)).1 = 1 ∨ kindE js (spotE js (aheadE ⟨(p : Int), way⟩)).1 = 2 ∨ kindE js (spotE js (aheadE ⟨(p : Int), way⟩)).1 = 4 ∨ kindE js (spotE js (aheadE ⟨(p : Int), way⟩)).1 = 3 := by
    obtain ⟨ji, ki, hsp, hse⟩ := R.out.spot (aheadE_valid (ps := ps) (s := ⟨p, way⟩) ok.out.sv)
    obtain ⟨_, hji, _⟩ := spotF_some hsp
    simp only [Nat.sub_zero] at hji
    rw [hse]
    dsimp only
    rw [kindE_at hji]
    have := R.out.kind ji hji
    omega
  rcases hk4 with h | h | h | h
  · exact walk_buffer w0 F pa ja sa pc jc sc ps js ss over n R HP HJ HS ho0 ho1 hfl ih a0 k0 a1 k1 a2 k2 a3 k3 i pre p way lies crosses pos xo yo t pr w ok hn hs hk hnil ht hpr hl hnb' hin h
  · exact walk_plain w0 F pa ja sa pc jc sc ps js ss over n R HP HJ HS ho0 ho1 hfl ih a0 k0 a1 k1 a2 k2 a3 k3 i pre p way lies crosses pos xo yo t pr w ok hn hs hk hnil ht hpr hl hnb' hin h
  · have hv := aheadE_valid (ps := ps) (s := ⟨p, way⟩) ok.out.sv
    have hacr := fun t ht => R.out.across hv (t := t) ht
    have hone : ∃ t0, beyondF (kindE js (spotE js (aheadE ⟨(p : Int), way⟩)).1) (spotE js (aheadE ⟨(p : Int), way⟩)).2 = [t0] := by
      rw [h]
      exact ⟨_, rfl⟩
    obtain ⟨t0, ht0⟩ := hone
    obtain ⟨q, _, _, hsd⟩ := hacr t0 (by rw [ht0]; simp)
    rcases hsd with hsd | hsd
    · exact walk_cross0 w0 F pa ja sa pc jc sc ps js ss over n R HP HJ HS ho0 ho1 hfl ih a0 k0 a1 k1 a2 k2 a3 k3 i pre p way lies crosses pos xo yo t pr w ok hn hs hk hnil ht hpr hl hnb' hin h (fun t ht => by rw [ht0] at ht; simp at ht; rw [ht]; exact hsd)
    · exact walk_cross1 w0 F pa ja sa pc jc sc ps js ss over n R HP HJ HS ho0 ho1 hfl ih a0 k0 a1 k1 a2 k2 a3 k3 i pre p way lies crosses pos xo yo t pr w ok hn hs hk hnil ht hpr hl hnb' hin h (fun t ht => by rw [ht0] at ht; simp at ht; rw [ht]; exact hsd)
  · by_cases ha : lies.any (fun l => l.piece == ((spotE js (aheadE ⟨(p : Int), way⟩)).1 : Int)) = true
    · by_cases h0 : (spotE js (aheadE ⟨(p : Int), way⟩)).2 = 0
      · exact walk_tip1 w0 F pa ja sa pc jc sc ps js ss over n R HP HJ HS ho0 ho1 hfl ih a0 k0 a1 k1 a2 k2 a3 k3 i pre p way lies crosses pos xo yo t pr w ok hn hs hk hnil ht hpr hl hnb' hin h ha h0
      · exact walk_side1 w0 F pa ja sa pc jc sc ps js ss over n R HP HJ HS ho0 ho1 hfl ih a0 k0 a1 k1 a2 k2 a3 k3 i pre p way lies crosses pos xo yo t pr w ok hn hs hk hnil ht hpr hl hnb' hin h ha h0
    · by_cases h0 : (spotE js (aheadE ⟨(p : Int), way⟩)).2 = 0
      · exact walk_tip2 w0 F pa ja sa pc jc sc ps js ss over n R HP HJ HS ho0 ho1 hfl ih a0 k0 a1 k1 a2 k2 a3 k3 i pre p way lies crosses pos xo yo t pr w ok hn hs hk hnil ht hpr hl hnb' hin h ha h0
      · exact walk_side2 w0 F pa ja sa pc jc sc ps js ss over n R HP HJ HS ho0 ho1 hfl ih a0 k0 a1 k1 a2 k2 a3 k3 i pre p way lies crosses pos xo yo t pr w ok hn hs hk hnil ht hpr hl hnb' hin h ha h0

theorem walk_any (w0 : World) (F : Nat) (pa ja sa : Option Addr) (pc jc sc : Nat) (ps : List MPiece) (js : List MJoint) (ss : List MPiece) (over : Int) (R : Hid (Right ps js ss)) (HP : Hid (PiecesAt w0 pa ps)) (HJ : Hid (JointsAt w0 ja js)) (HS : Hid (PiecesAt w0 sa ss)) (ho0 : 0 ≤ over) (ho1 : over ≤ 100000) : ∀ n, WalkSpec w0 F pa ja sa pc jc sc ps js ss over n
  | 0 => fun a0 k0 a1 k1 a2 k2 a3 k3 i pre p way lies crosses pos xo yo t pr w ok hn _ _ _ _ _ => absurd hn (by have := ok.few; omega)
  | n + 1 => fun a0 k0 a1 k1 a2 k2 a3 k3 i pre p way lies crosses pos xo yo t pr w ok hn hs hk hnil ht hpr =>
    walk_step w0 F pa ja sa pc jc sc ps js ss over n R HP HJ HS ho0 ho1 (fun B Q la lc lies pl n hb => flank_any w0 B F Q pa ja sa la pc jc sc lc ps js ss lies pl R hb n) (walk_any w0 F pa ja sa pc jc sc ps js ss over R HP HJ HS ho0 ho1 n) a0 k0 a1 k1 a2 k2 a3 k3 i pre p way lies crosses pos xo yo t pr w ok hn hs hk hnil ht hpr

theorem specRoutes_any (pa ja sa : Option Addr) (pc jc sc : Nat) (ps : List MPiece) (js : List MJoint) (ss : List MPiece) (over : Int) (w : World) (hp : Hid (PiecesAt w pa ps)) (hj : Hid (JointsAt w ja js)) (hs : Hid (PiecesAt w sa ss)) :
    Calls Try.prog 10 #[.agg #[.slice pa ps.length pc, .slice ja js.length jc], .slice sa ss.length sc, .int .i64 over] w fun e w' => ∃ a c, e = .returned (.slice a (routesF ps js ss over).length c) ∧ RoutesAt w' a (routesF ps js ss over) ∧ (a = none → c = 0) ∧ Below w.heap.size w w' :=
  specRoutes_of pa ja sa pc jc sc ps js ss over w hp hj hs (fun F _ R h0 h1 n => walk_any w F pa ja sa pc jc sc ps js ss over R hp hj hs h0 h1 n)

end Go.Proofs.Ytmkdgnmmebldgaa

namespace Go.Proofs.Ytmkdgnmmebldgaa
open Go.RowKit Go.Deep

/-! What the routes of a track are like. -/

def LiesOk (js : List MJoint) (lies : List MLie) : Prop := (∀ l ∈ lies, ∃ (j : Nat) (hj : j < js.length), l.piece = j ∧ js[j].kind = 3 ∧ (l.side = 1 ∨ l.side = 2)) ∧ (lies.map MEnd.piece).Nodup

theorem evs_lies {ps : List MPiece} {js : List MJoint} {ss : List MPiece} (R : Right ps js ss) : ∀ (n i : Nat) (pre : List MStep) (s : MStep) (lies : List MLie) (crosses : List Int) (pos : Int), WalkOk ps js ss i pre s lies crosses pos → ∀ q ∈ evs ps js ss n (pathOf i (pre ++ [s]) lies crosses) pos, LiesOk js q.lies
  | 0, _, _, _, _, _, _, _ => fun q hq => by cases hq
  | n + 1, i, pre, s, lies, crosses, pos, ok => by
    intro q hq
    have h0 : LiesOk js lies := ⟨ok.lv, ok.ld⟩
    by_cases hb : 0 ≤ nextB ss s.piece s.side pos ss.length
    · rw [evs_signal hb] at hq
      have : q = endP i (nextB ss s.piece s.side pos ss.length) (pre ++ [s]) lies crosses := by simpa using hq
      rw [this]; exact h0
    by_cases hr : s ∈ pre
    · rw [evs_round hb hr] at hq
      have : q = pathOf i (pre ++ [s]) lies crosses := by simpa using hq
      rw [this]; exact h0
    by_cases hk : kindE js (spotE js (aheadE s)).1 = 1
    · rw [evs_buffer hb hr hk] at hq
      have : q = endP i (-1) (pre ++ [s]) lies crosses := by simpa using hq
      rw [this]; exact h0
    rw [evs_on hb hr hk] at hq
    rcases List.mem_cons.1 hq with hq | hq
    · rw [hq]; exact h0
    · unfold kidsF at hq
      obtain ⟨t, ht, hq⟩ := List.mem_flatMap.1 hq
      have hv := aheadE_valid ok.sv
      have hacr := R.across hv ht
      obtain ⟨j, k, hsp, hse⟩ := R.spot hv
      obtain ⟨_, hj, hkl, _⟩ := spotF_some hsp
      simp only [Nat.sub_zero] at hj hkl
      rw [hse] at hq ht hacr hk
      dsimp only at hq ht hacr hk
      have hkd := R.kind j hj
      have hnext := fun (lies' : List MLie) (crosses' : List Int) (hl : LiesOk js lies') (hc : crosses'.length ≤ pre.length + 1) => WalkOk.next R ok hr hacr (lies' := lies') (crosses' := crosses') hl.1 hl.2 hc
      unfold kidF at hq
      rw [kindE_at hj] at hk
      have hcl := ok.cl
      have h4 : js[j].kind = 2 ∨ js[j].kind = 3 ∨ js[j].kind = 4 := by omega
      rcases h4 with h4 | h4 | h4
      · rw [over_plain (by rw [kindE_at hj]; exact h4)] at hq
        exact evs_lies R n i _ _ _ _ _ (hnext _ _ h0 (by omega)) q hq
      · by_cases ha : lies.any (fun l => l.piece == (j : Int)) = true
        · have hz := lieF_any ok.lv ha
          by_cases hl : lieF lies j = (max k t : Nat)
          · rw [over_same (by rw [kindE_at hj]; exact h4) hl hz] at hq
            exact evs_lies R n i _ _ _ _ _ (hnext _ _ h0 (by omega)) q hq
          · rw [over_other (by rw [kindE_at hj]; exact h4) hl hz] at hq
            cases hq
        · rw [over_new (by rw [kindE_at hj]; exact h4) (lieF_not ha)] at hq
          rw [kindE_at hj, h4] at ht
          have hm : ((max k t : Nat) : Int) = 1 ∨ ((max k t : Nat) : Int) = 2 := by
            unfold beyondF at ht
            rw [if_neg (by omega), if_pos rfl] at ht
            have hk3 : k < 3 := by have := hkd.2.2; omega
            by_cases hk0 : k = 0
            · rw [if_pos hk0] at ht
              have : t = 1 ∨ t = 2 := by simpa using ht
              omega
            · rw [if_neg hk0] at ht
              have : t = 0 := by simpa using ht
              omega
          exact evs_lies R n i _ _ _ _ _ (hnext _ _ ⟨lies_push ok.lv hj h4 hm, lies_pushd ok.ld ha⟩ (by omega)) q hq
      · rw [over_cross (by rw [kindE_at hj]; exact h4)] at hq
        exact evs_lies R n i _ _ _ _ _ (hnext _ _ h0 (by simp; omega)) q hq

theorem allEvs_lies {ps : List MPiece} {js : List MJoint} {ss : List MPiece} (R : Right ps js ss) : ∀ (m : Nat), m ≤ ss.length → ∀ q ∈ allEvs ps js ss m, LiesOk js q.lies
  | 0, _ => fun q hq => by cases hq
  | m + 1, hm => by
    intro q hq
    have hm' : m < ss.length := by omega
    have h : allEvs ps js ss (m + 1) = allEvs ps js ss m ++ (match ss[m]? with | none => [] | some s => evs ps js ss (depthR ps) (beginP m s) s.speed) := rfl
    rw [h, List.getElem?_eq_getElem hm'] at hq
    rcases List.mem_append.1 hq with hq | hq
    · exact allEvs_lies R m (by omega) q hq
    · exact evs_lies R (depthR ps) m [] ⟨ss[m].len, ss[m].brake⟩ [] [] ss[m].speed (WalkOk.begin R hm') q hq

/-- Numbers of 64 bits. -/
theorem wf_small {x : Int} (h0 : -1000000 ≤ x) (h1 : x ≤ 1000000) : (Lit.int .i64 x).wf = true := by
  have e1 : IntKind.i64.min = -9223372036854775808 := by decide
  have e2 : IntKind.i64.max = 9223372036854775807 := by decide
  simp only [Lit.wf, e1, e2]
  simp
  omega

def FlankOk (f : MFlank) : Prop := -10 ≤ f.of ∧ f.of ≤ 1000 ∧ -10 ≤ f.lie ∧ f.lie ≤ 10

theorem spotE_range {ps : List MPiece} {js : List MJoint} {ss : List MPiece} (R : Right ps js ss) (e : MEnd) : (spotE js e).1 ≤ 120 ∧ (spotE js e).2 ≤ 4 := by
  unfold spotE
  cases h : spotF js e 0 with
  | none => simp
  | some p =>
    obtain ⟨j, k⟩ := p
    obtain ⟨_, hj, hk, _⟩ := spotF_some h
    simp only [Nat.sub_zero] at hj hk
    have := R.kind j hj
    have := R.nj
    simp
    omega

theorem lookF_ok {ps : List MPiece} {js : List MJoint} {ss : List MPiece} (R : Right ps js ss) (lies : List MLie) (pl : Int) : ∀ (n : Nat) (st : List MEnd × List MFlank) (e : MEnd), (∀ f ∈ st.2, FlankOk f) → ∀ f ∈ (lookF js ss lies pl n st e).2, FlankOk f
  | 0, st, e, h => h
  | n + 1, st, e, h => by
    have hadd : ∀ (x : MFlank), FlankOk x → ∀ f ∈ st.2 ++ [x], FlankOk f := fun x hx f hf => by
      rcases List.mem_append.1 hf with hf | hf
      · exact h f hf
      · have : f = x := by simpa using hf
        rw [this]; exact hx
    have hsp := spotE_range R (farE e)
    simp only [lookF]
    generalize hwy : (if e.side = 0 then (-1 : Int) else 1) = wy
    split
    · exact h
    · split
      · refine hadd _ ⟨?_, ?_, by show (-10 : Int) ≤ 0; omega, by show (0 : Int) ≤ 10; omega⟩
        · rename_i hg
          show -10 ≤ guardB ss e.piece wy ss.length
          omega
        · have := R.ns
          rcases guardB_range ss e.piece wy ss.length (Nat.le_refl _) with h1 | ⟨b, hb, _, h1, _⟩
          · show guardB ss e.piece wy ss.length ≤ 1000
            rw [h1]; omega
          · show guardB ss e.piece wy ss.length ≤ 1000
            rw [h1]; omega
      · split
        · exact hadd _ ⟨by show -10 ≤ (((spotE js (farE e)).1 : Nat) : Int); omega, by show (((spotE js (farE e)).1 : Nat) : Int) ≤ 1000; omega, by show (-10 : Int) ≤ 0; omega, by show (0 : Int) ≤ 10; omega⟩
        · split
          · split
            · exact hadd _ ⟨by show -10 ≤ (((spotE js (farE e)).1 : Nat) : Int); omega, by show (((spotE js (farE e)).1 : Nat) : Int) ≤ 1000; omega, by show (-10 : Int) ≤ 0; omega, by show (0 : Int) ≤ 10; omega⟩
            · exact hadd _ ⟨by show -10 ≤ (((spotE js (farE e)).1 : Nat) : Int); omega, by show (((spotE js (farE e)).1 : Nat) : Int) ≤ 1000; omega, by show (-10 : Int) ≤ 3 - (((spotE js (farE e)).2 : Nat) : Int); omega, by show 3 - (((spotE js (farE e)).2 : Nat) : Int) ≤ 10; omega⟩
          · have hfold : ∀ (L : List Nat) (s : List MEnd × List MFlank), (∀ f ∈ s.2, FlankOk f) → ∀ f ∈ (L.foldl (fun s t => lookF js ss lies pl n s (endE js (spotE js (farE e)).1 t)) s).2, FlankOk f := by
              intro L
              induction L with
              | nil => exact fun s hs => hs
              | cons t r ih => exact fun s hs => ih _ (lookF_ok R lies pl n s _ hs)
            exact hfold _ _ h

theorem flanksF_ok {ps : List MPiece} {js : List MJoint} {ss : List MPiece} (R : Right ps js ss) (lies : List MLie) : ∀ (L : List MLie), ∀ f ∈ flanksF ps js ss lies L, FlankOk f
  | [] => fun f hf => by cases hf
  | l :: r => fun f hf => by
    rcases List.mem_append.1 hf with hf | hf
    · exact lookF_ok R lies l.piece _ ([], []) _ (fun f hf => by cases hf) f hf
    · exact flanksF_ok R lies r f hf

def PartOk (p : MPart) : Prop := 0 ≤ p.lo ∧ p.lo ≤ p.hi ∧ p.hi ≤ 10000000

theorem lenI_range {ps : List MPiece} {js : List MJoint} {ss : List MPiece} (R : Right ps js ss) (p : Int) : 0 ≤ lenI ps p ∧ lenI ps p ≤ 10000000 := by
  unfold lenI
  cases h : ps[p.toNat]? with
  | none => simp
  | some x =>
    obtain ⟨hi, rfl⟩ := List.getElem?_eq_some_iff.1 h
    have := R.plen _ hi
    simp
    omega
theorem endAt_small {ps : List MPiece} {js : List MJoint} {ss : List MPiece} (R : Right ps js ss) (e : MEnd) : 0 ≤ endAt ps e ∧ endAt ps e ≤ 10000000 := by
  unfold endAt
  split
  · omega
  · exact lenI_range R _
theorem sigAt_small {ps : List MPiece} {js : List MJoint} {ss : List MPiece} (R : Right ps js ss) (b : Int) : 0 ≤ sigAt ss b ∧ sigAt ss b ≤ 10000000 := by
  unfold sigAt
  cases h : ss[b.toNat]? with
  | none => simp
  | some x =>
    obtain ⟨hi, rfl⟩ := List.getElem?_eq_some_iff.1 h
    obtain ⟨p, hp, _, _, h1, h2⟩ := R.sig _ hi
    have := R.plen p hp
    simp
    omega
theorem partI_ok {p a b : Int} (ha : 0 ≤ a ∧ a ≤ 10000000) (hb : 0 ≤ b ∧ b ≤ 10000000) : PartOk (partI p a b) := by
  unfold partI PartOk
  refine ⟨?_, ?_, ?_⟩ <;> simp only <;> omega

theorem partsF_ok {ps : List MPiece} {js : List MJoint} {ss : List MPiece} (R : Right ps js ss) (q : MPath) : ∀ p ∈ partsF ps ss q, PartOk p := by
  intro p hp
  unfold partsF at hp
  rcases List.mem_append.1 hp with hp | hp
  · have hfull : ∀ (a : Int), (0 ≤ a ∧ a ≤ 10000000) → ∀ (L : List MStep), ∀ p ∈ fullParts ps a L, PartOk p := by
      intro a ha L p hp
      cases L with
      | nil => cases hp
      | cons s r =>
        rcases List.mem_cons.1 hp with hp | hp
        · rw [hp]; exact partI_ok ha (endAt_small R _)
        · obtain ⟨x, _, rfl⟩ := List.mem_map.1 hp
          exact partI_ok (endAt_small R _) (endAt_small R _)
    exact hfull _ (sigAt_small R _) _ p hp
  · have e := List.mem_singleton.1 hp
    rw [e]
    refine partI_ok ?_ ?_
    · split
      · exact sigAt_small R _
      · exact endAt_small R _
    · split
      · exact sigAt_small R _
      · exact endAt_small R _

/-- What a route of a track is like. -/
structure RtOk (r : MRoute) : Prop where
  short : ShortN r
  wf : WfR r
  some_ : r.parts ≠ []
  parts : ∀ p ∈ r.parts, PartOk p

theorem routesF_ok (ps : List MPiece) (js : List MJoint) (ss : List MPiece) (over : Int) : (routesF ps js ss over).length ≤ 300 ∧ ∀ r ∈ routesF ps js ss over, RtOk r := by
  unfold routesF
  split
  · rename_i hc
    have R : Right ps js ss := right_of hc.1
    refine ⟨by rw [List.length_map]; exact hc.2.2.2.2, fun r hr => ?_⟩
    obtain ⟨q, hq, rfl⟩ := List.mem_map.1 hr
    have hq' : q ∈ allEvs ps js ss ss.length := (List.mem_filter.1 hq).1
    have hl := allEvs_lies R ss.length (Nat.le_refl _) q hq'
    have hfew := lies_few hl.1 hl.2
    have hnj := R.nj
    have hnp := R.np
    have hval : ∀ l ∈ q.lies, ValidE ps (endE js l.piece.toNat (3 - l.side).toNat) := fun l hlm => by
      obtain ⟨j, hj, h1, h2, h3⟩ := hl.1 l hlm
      have hk := R.kind j hj
      have hlt : (3 - l.side).toNat < js[j].ends.length := by have := hk.2.2; omega
      rw [h1, Int.toNat_natCast, endE_at hj hlt]
      exact R.ends j hj _ hlt
    have hfl := flanksF_len R q.lies q.lies hval
    have hfl2 : 2 * ps.length * q.lies.length ≤ 200 * 120 := Nat.mul_le_mul (by omega) (by omega)
    refine ⟨⟨?_, ?_⟩, ⟨?_, ?_⟩, ?_, ?_⟩
    · show q.lies.length ≤ 1048576
      omega
    · show (flanksF ps js ss q.lies q.lies).length ≤ 1048576
      omega
    · intro i hi
      obtain ⟨j, hj, h1, _, h3⟩ := hl.1 _ (List.getElem_mem hi)
      exact ⟨wf_small (by rw [h1]; omega) (by rw [h1]; omega), wf_small (by omega) (by omega)⟩
    · intro i hi
      have hf := flanksF_ok R q.lies q.lies _ (List.getElem_mem (show i < (flanksF ps js ss q.lies q.lies).length from hi))
      exact ⟨wf_small (by have := hf.1; show -1000000 ≤ (flanksF ps js ss q.lies q.lies)[i].of; omega) (by have := hf.2.1; show (flanksF ps js ss q.lies q.lies)[i].of ≤ 1000000; omega), wf_small (by have := hf.2.2.1; show -1000000 ≤ (flanksF ps js ss q.lies q.lies)[i].lie; omega) (by have := hf.2.2.2; show (flanksF ps js ss q.lies q.lies)[i].lie ≤ 1000000; omega)⟩
    · show partsF ps ss q ≠ []
      unfold partsF
      simp
    · exact partsF_ok R q
  · exact ⟨Nat.zero_le _, fun r hr => by cases hr⟩

/-- Nothing is shared where nobody excludes. -/
theorem excl_zero {a b : MRoute} (h : exclF a b = 0) : touchL a.parts b.parts = false ∧ crossL a.crosses b.crosses = false ∧ wantL (needsF a.lies a.flanks) (needsF b.lies b.flanks) = false ∧ touchL a.over b.parts = false ∧ touchL a.parts b.over = false := by
  unfold exclF at h
  split at h
  · cases h
  · rename_i h1
    split at h
    · cases h
    · rename_i h2
      split at h
      · cases h
      · rename_i h3
        split at h
        · cases h
        · rename_i h4
          exact ⟨by simpa using h1, by simpa using h2, by simpa using h3, by simpa using fun e => h4 (Or.inl e), by simpa using fun e => h4 (Or.inr e)⟩
theorem excl_symm0 {a b : MRoute} (h : exclF a b = 0) : exclF b a = 0 := by
  obtain ⟨h1, h2, h3, h4, h5⟩ := excl_zero h
  rw [touchL_symm] at h1 h4 h5
  rw [crossL_symm] at h2
  rw [wantL_symm] at h3
  unfold exclF
  rw [if_neg (by simp [h1]), if_neg (by simp [h2]), if_neg (by simp [h3]), if_neg (by simp [h4, h5])]
theorem excl_self {r : MRoute} (h : RtOk r) : exclF r r = 1 := by
  obtain ⟨p, t, hp⟩ := List.exists_cons_of_ne_nil h.some_
  have hm : p ∈ r.parts := by rw [hp]; simp
  have ho := h.parts p hm
  refine exclF_1 (List.any_eq_true.2 ⟨p, hm, List.any_eq_true.2 ⟨p, hm, ?_⟩⟩)
  unfold touchP
  simp
  exact ho.2.1
def inL (parts : List MPart) (piece at_ : Int) : Bool := parts.any fun p => p.piece == piece && decide (p.lo ≤ at_) && decide (at_ ≤ p.hi)
theorem in_none {a : List MPart} {b : List MPart} (h : touchL a b = false) {p : MPart} (hp : p ∈ a) {at_ : Int} (h0 : p.lo ≤ at_) (h1 : at_ ≤ p.hi) : inL b p.piece at_ = false := by
  unfold inL
  rw [List.any_eq_false]
  intro y hy hc
  simp only [Bool.and_eq_true, beq_iff_eq, decide_eq_true_eq] at hc
  unfold touchL at h
  rw [List.any_eq_false] at h
  refine h p hp (List.any_eq_true.2 ⟨y, hy, ?_⟩)
  unfold touchP
  simp only [Bool.and_eq_true, beq_iff_eq, decide_eq_true_eq]
  exact ⟨⟨hc.1.1.symm, by omega⟩, by omega⟩
theorem want_none {a b : List MEnd} (h : wantL a b = false) {x y : MEnd} (hx : x ∈ a) (hy : y ∈ b) : (x.piece == y.piece && x.side != y.side) = false := by
  unfold wantL at h
  rw [List.any_eq_false] at h
  have h1 := h x hx
  rw [Bool.not_eq_true, List.any_eq_false] at h1
  simpa using h1 y hy

end Go.Proofs.Ytmkdgnmmebldgaa
