import Derived.Test.YtmkdgnmmebldgaaPq35
namespace Go.Proofs.Ytmkdgnmmebldgaa
open Go.RowKit Go.Deep Go.Maps
def AllPost (Inv : (Nat → Prop) → List MPath → World → Prop) (Stop : List MPath → World → Prop) (E : List MPath) (K : Nat → Prop) (w : World) (e : Ending) (w' : World) : Prop :=
  (∃ v, e = .returned v) ∧ Only K w w' ∧ ((∃ K', Inv K' E w' ∧ Grow K K' w) ∨ StopIn Stop E w')
theorem allEvs_succ {ps : List MPiece} {js : List MJoint} {ss : List MPiece} {m : Nat} (hm : m < ss.length) : allEvs ps js ss (m + 1) = allEvs ps js ss m ++ evs ps js ss (depthR ps) (beginP m ss[m]) ss[m].speed := by
  rw [allEvs, List.getElem?_eq_getElem hm]
theorem allEvs_app (ps : List MPiece) (js : List MJoint) (ss : List MPiece) : ∀ (k m : Nat), ∃ F, allEvs ps js ss (m + k) = allEvs ps js ss m ++ F
  | 0, m => ⟨[], by simp⟩
  | k + 1, m => by
    obtain ⟨F, hF⟩ := allEvs_app ps js ss k m
    rw [show m + (k + 1) = (m + k) + 1 from rfl, allEvs, hF, List.append_assoc]
    exact ⟨_, rfl⟩
theorem StopIn.more {Stop : List MPath → World → Prop} {A : List MPath} {u : World} (h : StopIn Stop A u) (B : List MPath) : StopIn Stop (A ++ B) u := by
  obtain ⟨E1, E2, h1, h2⟩ := h
  exact ⟨E1, E2 ++ B, by rw [h1, List.append_assoc], h2⟩
theorem away_begin {K : Nat → Prop} {w : World} {b : Nat} {i : Nat} {s : MStep} (hb : ¬ K b) (c0 : w.cell? ⟨b, 0, none⟩ = some (.int .i64 s.piece)) (c1 : w.cell? ⟨b, 1, none⟩ = some (.int .i64 s.side)) :
    PAway K w ⟨some ⟨b, 0, none⟩, 1, none, 0, none, 0⟩ (pathOf i ([] ++ [s]) [] []) := by
  intro u hu
  have d0 := hu.cell c0 hb
  have d1 := hu.cell c1 hb
  refine ⟨⟨by unfold maxLen; simp [pathOf], Or.inr ⟨b, 0, rfl, fun i hi => ?_⟩⟩, ⟨by simp [pathOf], Or.inl rfl⟩, ⟨by simp [pathOf], Or.inl rfl⟩, (fun h => by cases h), fun _ => ⟨rfl, rfl⟩, fun _ => ⟨rfl, rfl⟩, Nat.le_refl _⟩
  have : i = 0 := by simp [pathOf] at hi; exact hi
  subst this
  exact ⟨d0, d1⟩
set_option maxRecDepth 100000 in
set_option maxHeartbeats 8000000 in
theorem walk_any (w0 : World) (KT M : Nat) (pa ja sa : Option Addr) (pc jc sc : Nat) (ps : List MPiece) (js : List MJoint) (ss : List MPiece) (R : Hid (Right ps js ss)) (hT : Hid (TTrack w0 KT M pa ja sa pc jc sc ps js ss))
    (l : Nat) (Inv : (Nat → Prop) → List MPath → World → Prop) (Stop : List MPath → World → Prop) (RD : Hid (Rounds w0 l Inv Stop)) (K : Nat → Prop) (w : World) (hI : Hid (Inv K [] w)) :
    Calls Try.prog 123 #[.pointer (some ⟨KT, 0, none⟩), .func (.yield l) #[] #[]] w (AllPost Inv Stop (allEvs ps js ss ss.length) K w) := by
  have hns := R.out.ns
  have hbw := RD.out.base _ _ _ hI.out
  have HB : Hid (∀ u : World, Below w0.heap.size w0 u → TTrack u KT M pa ja sa pc jc sc ps js ss) := fun u hu => hT.out.below hu
  have c2 := (HB.out w hbw).net.c2
  have hK := cellLt c2
  dsimp only at hK
  have HCM := hidP (come_any w0 KT M pa ja sa pc jc sc ps js ss R hT l Inv Stop RD (depthR ps))
  clear hbw
  have hsf : ∀ (fn : Fn) (x y : Array Value) (ad : Addr) (u : World), (store ad (.func fn x y)).run Try.prog u = stored Try.prog u ad (.func fn x y) .plain := fun _ _ _ ad u => run_store Try.prog u ad _ _ rfl
  go_enter Try.func123, Try.ntmps123
  go_wp2_with fail
  clear c2
  go_loopw [13] (fun c wr => ∃ (m : Nat) (K' : Nat → Prop), m ≤ ss.length ∧ c = .int .i64 m ∧ Hid (Inv K' (allEvs ps js ss m) wr) ∧ Hid (Only K w wr) ∧ Hid (Grow K K' w)) (fun c _ => ss.length - (intOf c).toNat)
  case atStart => exact ⟨0, K, Nat.zero_le _, rfl, hI, Only.refl _ _, Grow.refl _ _⟩
  case round =>
    obtain ⟨m, K', hm, rfl, HI, HO, HG⟩ := hrel
    have hos := HO.out.size
    by_cases hm' : m < ss.length
    · have hmi : (m : Int) < ss.length := by omega
      have hbr := RD.out.base _ _ _ HI.out
      have HLT := hidP (RD.out.lt _ _ _ HI.out)
      have HTR := hidP (HB.out wr hbr)
      obtain ⟨bs, os, rfl, hpcs⟩ := HTR.out.net.S.2.2.resolve_left (fun h => by rw [h] at hm'; exact absurd hm' (Nat.not_lt_zero _))
      obtain ⟨s0, s1, s2, s3⟩ := hpcs m hm'
      have hzs := cellLt s0
      dsimp only at hzs
      have hwk := WalkOk.begin R.out hm'
      obtain ⟨sg, hsg⟩ : ∃ sg, ss[m] = sg := ⟨_, rfl⟩
      have HWK := hidP hwk
      have HSU : Hid (allEvs ps js ss (m + 1) = allEvs ps js ss m ++ evs ps js ss (depthR ps) (beginP m ss[m]) ss[m].speed) := allEvs_succ hm'
      rw [hsg] at s0 s1 s2 s3 HWK HSU
      clear hpcs hwk hbr hsg
      go_upto_region 5 with fail
      generalize hV : World.alloc (World.alloc (World.alloc (World.alloc wr _) _) _) _ = V
      have hbV : Below wr.heap.size wr V := by rw [← hV]; exact blo
      have g1 : V.cell? ⟨wr.heap.size, 1, none⟩ = some (.int .i64 sg.len) := by rw [← hV]; simp [go_sem]
      have g2 : V.cell? ⟨wr.heap.size, 2, none⟩ = some (.int .i64 sg.speed) := by rw [← hV]; simp [go_sem]
      have t0 : V.cell? ⟨wr.heap.size + 1, 0, none⟩ = some (.int .i64 sg.len) := by rw [← hV]; simp [go_sem]
      have t1 : V.cell? ⟨wr.heap.size + 1, 1, none⟩ = some (.int .i64 sg.brake) := by rw [← hV]; simp [go_sem]
      have x0 : V.cell? ⟨wr.heap.size + 1 + 1 + 1, 0, none⟩ = some (.pointer (some ⟨KT, 0, none⟩)) := by rw [← hV]; simp [go_sem]
      have x1 : V.cell? ⟨wr.heap.size + 1 + 1 + 1, 1, none⟩ = some (.int .i64 (m : Int)) := by rw [← hV]; simp [go_sem]
      have x2 : V.cell? ⟨wr.heap.size + 1 + 1 + 1, 2, none⟩ = some (.int .i64 0) := by rw [← hV]; simp [go_sem]
      have x3 : V.cell? ⟨wr.heap.size + 1 + 1 + 1, 3, none⟩ = some (.bool false) := by rw [← hV]; simp [go_sem]
      have x4 : V.cell? ⟨wr.heap.size + 1 + 1 + 1, 4, none⟩ = some (.slice (some ⟨wr.heap.size + 1, 0, none⟩) 1 1) := by rw [← hV]; simp [go_sem]
      have x5 : V.cell? ⟨wr.heap.size + 1 + 1 + 1, 5, none⟩ = some (.slice none 0 0) := by rw [← hV]; simp [go_sem]
      have x6 : V.cell? ⟨wr.heap.size + 1 + 1 + 1, 6, none⟩ = some (.slice none 0 0) := by rw [← hV]; simp [go_sem]
      have x7 : V.cell? ⟨wr.heap.size + 1 + 1 + 1, 7, none⟩ = some (.func (.yield l) #[] #[]) := by rw [← hV]; simp [go_sem]
      have hzV : wr.heap.size + 1 + 1 + 1 < V.heap.size := by rw [← hV]; simp
      have HAW : Hid (PAway K' V ⟨some ⟨wr.heap.size + 1, 0, none⟩, 1, none, 0, none, 0⟩ (pathOf m ([] ++ [⟨sg.len, sg.brake⟩]) [] [])) := away_begin (fun hk => by have h1 := HLT.out _ hk; omega) t0 t1
      have HCX : Hid (Calls Try.prog 153 #[.agg #[.pointer (some ⟨KT, 0, none⟩), .int .i64 (m : Int), .int .i64 0, .bool false, .slice (some ⟨wr.heap.size + 1, 0, none⟩) 1 1, .slice none 0 0, .slice none 0 0, .func (.yield l) #[] #[]], .int .i64 sg.speed] V (Visited (fun K2 u => Inv K2 (allEvs ps js ss (m + 1)) u) (StopIn Stop (allEvs ps js ss (m + 1))) K' V)) := by
        unfold Hid
        rw [HSU.out]
        exact HCM.out m [] ⟨sg.len, sg.brake⟩ [] [] sg.speed ⟨some ⟨wr.heap.size + 1, 0, none⟩, 1, none, 0, none, 0⟩ K' (allEvs ps js ss m) V HWK.out (by unfold depthR; simp) (RD.out.keep _ _ _ _ HI.out hbV) HAW.out
      have HBV := hidP hbV
      clear hV hbV t0 t1 s0 s1 s2 s3 hsf
      go_upto_if 34 with (go_at_call 153; refine HCX.out.mono ?_; rintro e w3 ⟨bb, rfl, ho3, hi3, hs3⟩)
      have HO3 : Hid (Only K w w3) := HO.out.thru HG.out ((Only.of_below HBV.out).trans ho3)
      cases bb
      · have HS3 := hidP (hs3 rfl)
        clear hi3 hs3 ho3 x0 x1 x2 x3 x4 x5 x6 x7 g1 g2
        go_wp2_with fail
        refine bodyPost_ret (results_none rfl _ _ _) rfl ⟨⟨_, rfl⟩, HO3.out, Or.inr ?_⟩
        obtain ⟨F, hF⟩ := allEvs_app ps js ss (ss.length - (m + 1)) (m + 1)
        have he : m + 1 + (ss.length - (m + 1)) = ss.length := by omega
        rw [he] at hF
        rw [hF]
        exact HS3.out.more F
      · obtain ⟨K2, hI4, hG4⟩ := hi3 rfl
        have HI4 := hidP hI4
        have HG4 : Hid (Grow K K2 w) := HG.out.trans hG4 (Nat.le_trans hos HBV.out.size)
        clear hi3 hs3 ho3 hI4 hG4 x0 x1 x2 x3 x4 x5 x6 x7 g1 g2
        go_wp2_with fail
        go_roundw
        case rel => exact ⟨m + 1, K2, by omega, by go_num, HI4, HO3, HG4⟩
        case measure => simp [intOf]; omega
    · have hme : m = ss.length := by omega
      have hmi : ¬ (m : Int) < ss.length := by omega
      subst hme
      go_wp2_with fail
      exact bodyPost_end (results_none rfl _ _ _) rfl ⟨⟨_, rfl⟩, HO.out, Or.inl ⟨K', HI.out, HG.out⟩⟩
end Go.Proofs.Ytmkdgnmmebldgaa
