import Derived.Test.YtmkdgnmmebldgaaPq34
import Derived.OwnWalkIn
namespace Go.Proofs.Ytmkdgnmmebldgaa
open Go.RowKit Go.Deep Go.Maps
theorem stopP_form (js : List MJoint) (ss : List MPiece) (p : MPath) (pos : Int) : ∃ st en, stopP js ss p pos = ⟨p.start, st, en, p.steps, p.lies, p.crosses⟩ := by
  unfold stopP
  split
  · exact ⟨_, _, rfl⟩
  · split
    · exact ⟨_, _, rfl⟩
    · exact ⟨_, _, rfl⟩
theorem stopP_on {js : List MJoint} {ss : List MPiece} {i : Nat} {L : List MStep} {lies : List MLie} {crosses : List Int} {pos : Int} {st : Int} {en : Bool} (h : stopP js ss (pathOf i L lies crosses) pos = ⟨(i : Int), st, en, L, lies, crosses⟩) (he : en = false) : st = 0 := by
  unfold stopP at h
  split at h
  · injection h with _ _ h3
    rw [he] at h3
    cases h3
  · split at h
    · injection h with _ _ h3
      rw [he] at h3
      cases h3
    · injection h with _ h2
      exact h2.symm
theorem PListsAt.other {w : World} {d : PAddr} {p : MPath} (h : PListsAt w d p) (st : Int) (en : Bool) : PListsAt w d ⟨p.start, st, en, p.steps, p.lies, p.crosses⟩ :=
  ⟨h.steps, h.lies, h.crosses, h.nil0, h.nil1, h.nil2, h.cap⟩
theorem PAway.other {K : Nat → Prop} {w : World} {d : PAddr} {p : MPath} (h : PAway K w d p) (st : Int) (en : Bool) : PAway K w d ⟨p.start, st, en, p.steps, p.lies, p.crosses⟩ := fun u hu => (h u hu).other st en
theorem kidsF_app (ps : List MPiece) (js : List MJoint) (ss : List MPiece) (n : Nat) (p : MPath) (j k : Nat) (A B : List Nat) : kidsF ps js ss n p j k (A ++ B) = kidsF ps js ss n p j k A ++ kidsF ps js ss n p j k B := by
  simp [kidsF]
def AmidW (Inv : (Nat → Prop) → List MPath → World → Prop) (E : List MPath) (ps : List MPiece) (js : List MJoint) (ss : List MPiece) (n : Nat) (p : MPath) (j k : Nat) (d : PAddr) (L : List Nat) (m : Nat) (K : Nat → Prop) (u : World) : Prop :=
  Inv K (E ++ kidsF ps js ss n p j k (L.take m)) u ∧ PAway K u d p
theorem Visited.amid {Inv : (Nat → Prop) → List MPath → World → Prop} {Stop : List MPath → World → Prop} {E : List MPath} {ps : List MPiece} {js : List MJoint} {ss : List MPiece} {n : Nat} {p : MPath} {j k : Nat} {d : PAddr} {L : List Nat} {m t : Nat} {K : Nat → Prop} {u : World} {e : Ending} {u' : World}
    (ht : L[m]? = some t) (hp : PAway K u d p) (h : Visited (fun K' u => Inv K' (E ++ kidsF ps js ss n p j k (L.take m) ++ kidF ps js ss n p j k t) u) (StopIn Stop (E ++ kidsF ps js ss n p j k (L.take m) ++ kidF ps js ss n p j k t)) K u e u') :
    Visited (AmidW Inv E ps js ss n p j k d L (m + 1)) (StopIn Stop (E ++ kidsF ps js ss n p j k L)) K u e u' := by
  obtain ⟨b, e1, ho, h1, h2⟩ := h
  have ht2 : L.take (m + 1) = L.take m ++ [t] := by rw [List.take_add_one, ht, Option.toList]
  refine ⟨b, e1, ho, fun hb => ?_, fun hb => ?_⟩
  · obtain ⟨K', h3, h4⟩ := h1 hb
    refine ⟨K', ⟨?_, hp.thru ho h4⟩, h4⟩
    rw [ht2, kidsF_snoc, ← List.append_assoc]
    exact h3
  · obtain ⟨E1, E2, h3, h4⟩ := h2 hb
    refine ⟨E1, E2 ++ kidsF ps js ss n p j k (L.drop (m + 1)), ?_, h4⟩
    rw [← List.append_assoc, ← h3]
    have : kidsF ps js ss n p j k L = kidsF ps js ss n p j k (L.take (m + 1)) ++ kidsF ps js ss n p j k (L.drop (m + 1)) := by rw [← kidsF_app, List.take_append_drop]
    rw [this, ht2, kidsF_snoc]
    simp [List.append_assoc]
set_option maxRecDepth 100000 in
set_option maxHeartbeats 8000000 in
theorem come_step (w0 : World) (KT M : Nat) (pa ja sa : Option Addr) (pc jc sc : Nat) (ps : List MPiece) (js : List MJoint) (ss : List MPiece) (R : Hid (Right ps js ss)) (hT : Hid (TTrack w0 KT M pa ja sa pc jc sc ps js ss))
    (l : Nat) (Inv : (Nat → Prop) → List MPath → World → Prop) (Stop : List MPath → World → Prop) (RD : Hid (Rounds w0 l Inv Stop)) (n : Nat) (IH : Hid (ComeAt KT l ps js ss Inv Stop n)) : ComeAt KT l ps js ss Inv Stop (n + 1) := by
  intro i pre s lies crosses pos d K E w hwk hn hI hP
  have HWK := hidP hwk
  have HI := hidP hI
  have HP := hidP hP
  obtain ⟨p, hp⟩ : ∃ p, pathOf i (pre ++ [s]) lies crosses = p := ⟨_, rfl⟩
  obtain ⟨st, en, hq⟩ := stopP_form js ss p pos
  have hls : lastS p = s := by rw [← hp]; exact lastS_snoc i pre s lies crosses
  have h0 : 0 < p.steps.length := by rw [← hp]; simp [pathOf]
  have hbw := RD.out.base _ _ _ hI
  have HB : Hid (∀ u : World, Below w.heap.size w u → TTrack u KT M pa ja sa pc jc sc ps js ss) := fun u hu => hT.out.below (hbw.trans (hu.mono hbw.size))
  have HEO : Hid (∀ u : World, Below w.heap.size w u → Calls Try.prog 168 #[.pointer (some ⟨KT, 0, none⟩), pathV d p, .int .i64 pos] u fun e w' => e = .returned (.tuple #[.int .i64 st, .bool en]) ∧ Below u.heap.size u w') := fun u hu => by
    obtain ⟨x, hx, e1, e2⟩ := hwk.sv
    have h1 := hwk.p1
    have h2 := (R.out.plen x hx).2
    rw [e1, lenI_at hx] at h1
    have h := endOf_any KT M pa ja sa pc jc sc ps js ss R d p pos u (HB.out u hu) ((hp ▸ hP).below hu).at h0 (by rw [hls]; exact hwk.sv) hwk.p0 (by omega)
    rw [hq] at h
    exact h
  rw [hp] at hP HP ⊢
  have HIR : Hid (∀ u : World, PListsAt u d p → Calls Try.prog 169 #[.agg #[.int .i64 p.start, .int .i64 st, .bool en, .slice d.a0 p.steps.length d.c0, .slice d.a1 p.lies.length d.c1, .slice d.a2 p.crosses.length d.c2]] u fun e w' => e = .returned (.bool (roundB p)) ∧ Below u.heap.size u w') := fun u hu =>
    isRound_any d ⟨p.start, st, en, p.steps, p.lies, p.crosses⟩ u (hu.other st en) h0
  have HLA : Hid (∀ u : World, PListsAt u d p → Calls Try.prog 171 #[.agg #[.int .i64 p.start, .int .i64 st, .bool en, .slice d.a0 p.steps.length d.c0, .slice d.a1 p.lies.length d.c1, .slice d.a2 p.crosses.length d.c2]] u fun e w' => e = .returned (.agg #[.int .i64 s.piece, .int .i64 s.side]) ∧ Below u.heap.size u w') := fun u hu => by
    have h := last_any d ⟨p.start, st, en, p.steps, p.lies, p.crosses⟩ u (hu.other st en) h0
    have e : lastS ⟨p.start, st, en, p.steps, p.lies, p.crosses⟩ = s := hls
    rw [e] at h
    exact h
  have HEV : Hid (en = true ∨ roundB p = true → evs ps js ss (n + 1) p pos = [⟨p.start, st, en, p.steps, p.lies, p.crosses⟩]) := fun h => by
    rw [evs, hq, if_pos h]
  have HEX : Hid (∃ rest, evs ps js ss (n + 1) p pos = ⟨p.start, st, en, p.steps, p.lies, p.crosses⟩ :: rest) := by
    unfold Hid
    rw [evs, hq]
    exact ⟨_, rfl⟩
  have HLT := hidP (RD.out.lt _ _ _ hI)
  have hpz : p.stop = 0 ∧ p.ended = false := by rw [← hp]; exact ⟨rfl, rfl⟩
  have HON : Hid (en = false → st = 0) := fun he => by
    rw [← hp] at hq
    exact stopP_on hq he
  obtain ⟨j, k, hspF, hsp⟩ := R.out.spot (aheadE_valid hwk.sv)
  obtain ⟨hj, hk⟩ : ∃ hj : j < js.length, k < js[j].ends.length := by
    obtain ⟨_, hj, hk, _⟩ := spotF_some hspF
    simp only [Nat.sub_zero] at hj hk
    exact ⟨hj, hk⟩
  have HSP := hidP hsp
  have HKD : Hid (en = false → roundB p = false → evs ps js ss (n + 1) p pos = p :: kidsF ps js ss n p j k (beyondF (kindE js j) k)) := fun he hr => by
    have hst := HON.out he
    have hpp : (⟨p.start, st, en, p.steps, p.lies, p.crosses⟩ : MPath) = p := by rw [hst, he, ← hpz.1, ← hpz.2]
    rw [evs, hq, hpp, hpz.2, hr, if_neg (by simp), hls, hsp]
    rfl
  have HNR : Hid (roundB p = false → s ∉ pre) := fun hr hm => by
    rw [← hp, (roundB_snoc i pre s lies crosses).2 hm] at hr
    cases hr
  have HPA : Hid (∀ E' K' u t, Inv K' E' u → PAway K' u d p → roundB p = false → t ∈ beyondF (kindE js j) k → Calls Try.prog 172 #[walkerV KT d p l, passV j k t (kindE js j)] u (Visited (fun K' u => Inv K' (E' ++ kidF ps js ss n p j k t) u) (StopIn Stop (E' ++ kidF ps js ss n p j k t)) K' u)) := fun E' K' u t hI' hP' hr ht => by
    have h := pass_any w0 KT M pa ja sa pc jc sc ps js ss R hT l Inv Stop RD n IH i pre s lies crosses pos d K' E' u HWK (HNR.out hr) (by have h1 := hn; unfold Hid; omega) j k t hj hk ht hI' (by rw [hp]; exact hP')
    rw [hp] at h
    exact h
  have HPS : Hid (∀ E' K' u, Inv K' E' u → PAway K' u d p → roundB p = false → Calls Try.prog 170 #[.pointer (some ⟨KT, 0, none⟩), endV (aheadE s), .func (.func 172) #[walkerV KT d p l] #[]] u (Visited (AmidW Inv E' ps js ss n p j k d (beyondF (kindE js j) k) (beyondF (kindE js j) k).length) (StopIn Stop (E' ++ kidsF ps js ss n p j k (beyondF (kindE js j) k))) K' u)) := fun E' K' u hI' hP' hr => by
    have hb' := RD.out.base _ _ _ hI'
    refine passages_any KT M pa ja sa pc jc sc ps js ss R (aheadE s) 172 (walkerV KT d p l) (AmidW Inv E' ps js ss n p j k d (beyondF (kindE js j) k)) (StopIn Stop (E' ++ kidsF ps js ss n p j k (beyondF (kindE js j) k))) K' u (hT.out.below hb') (aheadE_valid hwk.sv) (fun args u => by kernel_rfl) j k hsp ⟨by simpa [kidsF] using hI', hP'⟩ (fun m K2 u2 h => RD.out.lt _ _ _ h.1) (fun m K2 u2 u3 h hb => ⟨RD.out.keep _ _ _ _ h.1 hb, h.2.below hb⟩) ?_
    intro m t K2 u2 ht h2
    refine (HPA.out _ K2 u2 t h2.1 h2.2 hr (List.mem_of_getElem? ht)).mono ?_
    intro e u3 h3
    exact h3.amid ht h2.2
  have HPZ := hidP hpz
  clear hbw hI hP h0 hspF hsp hj hk hpz
  unfold walkerV at HPS
  unfold endV at HPS
  unfold walkerV
  unfold pathV at HEO
  go_enter Try.func153, Try.ntmps153
  go_upto_region 1 with fail
  generalize hWF : (fun i : Nat => (#[Value.pointer (some ⟨KT, 0, none⟩), .int .i64 p.start, .int .i64 p.stop, .bool p.ended, .slice d.a0 p.steps.length d.c0, .slice d.a1 p.lies.length d.c1, .slice d.a2 p.crosses.length d.c2, .func (.yield l) #[] #[]] : Array Value).getD i (.bool false)) = wf
  generalize hW : World.alloc w _ = W
  have HRP : Hid (W.rowIs w.heap.size 258 8 wf) := by
    unfold Hid
    rw [← hW, ← hWF]
    exact row_of_alloc2 w _ _
  have HBW : Hid (Below w.heap.size w W) := by rw [← hW]; exact blo
  have hzW : w.heap.size < W.heap.size := by rw [← hW]; simp
  clear hW
  have c0 : W.cell? ⟨w.heap.size, 0, none⟩ = some (.pointer (some ⟨KT, 0, none⟩)) := (HRP.out.cell (i := 0) (by omega)).trans (by rw [← hWF]; rfl)
  have c1 : W.cell? ⟨w.heap.size, 1, none⟩ = some (.int .i64 p.start) := (HRP.out.cell (i := 1) (by omega)).trans (by rw [← hWF]; rfl)
  have c2 : W.cell? ⟨w.heap.size, 2, none⟩ = some (.int .i64 p.stop) := (HRP.out.cell (i := 2) (by omega)).trans (by rw [← hWF]; rfl)
  have c3 : W.cell? ⟨w.heap.size, 3, none⟩ = some (.bool p.ended) := (HRP.out.cell (i := 3) (by omega)).trans (by rw [← hWF]; rfl)
  have c4 : W.cell? ⟨w.heap.size, 4, none⟩ = some (.slice d.a0 p.steps.length d.c0) := (HRP.out.cell (i := 4) (by omega)).trans (by rw [← hWF]; rfl)
  have c5 : W.cell? ⟨w.heap.size, 5, none⟩ = some (.slice d.a1 p.lies.length d.c1) := (HRP.out.cell (i := 5) (by omega)).trans (by rw [← hWF]; rfl)
  have c6 : W.cell? ⟨w.heap.size, 6, none⟩ = some (.slice d.a2 p.crosses.length d.c2) := (HRP.out.cell (i := 6) (by omega)).trans (by rw [← hWF]; rfl)
  go_upto_region 2 with (go_at_call 168; refine (HEO.out _ HBW.out).mono ?_; rintro e w2 ⟨rfl, hb2⟩; have hR2 := HRP.out.of_block (hb2.block _ HRP.out.lt); have f2 := hR2.frozen 2; have f3 := hR2.frozen 3; have g2 := hR2.cell (i := 2) (by omega); have g3 := hR2.cell (i := 3) (by omega); have hz2 := hR2.lt; have HR2 := hidP ((hR2.set 2 (.int .i64 st)).set 3 (.bool en)); clear hR2)
  generalize hV : World.setCell (World.setCell w2 _ _) _ _ = V
  rw [hV] at HR2
  have hOV : Only (fun k => k = w.heap.size) w2 V := by
    rw [← hV]
    exact ((Only.refl (fun k => k = w.heap.size) w2).setCell (p := ⟨w.heap.size, 2, none⟩) (Or.inl rfl) _).setCell (p := ⟨w.heap.size, 3, none⟩) (Or.inl rfl) _
  clear hV f2 f3 g2 g3
  have hbw2 : Below w.heap.size w w2 := HBW.out.trans (hb2.mono HBW.out.size)
  have HBV : Hid (Below w.heap.size w V) := hbw2.trans (hOV.below hbw2.size (fun k hk e => by omega))
  have x0 : V.cell? ⟨w.heap.size, 0, none⟩ = some (.pointer (some ⟨KT, 0, none⟩)) := (HR2.out.cell (i := 0) (by omega)).trans (by rw [← hWF]; rfl)
  have x1 : V.cell? ⟨w.heap.size, 1, none⟩ = some (.int .i64 p.start) := (HR2.out.cell (i := 1) (by omega)).trans (by rw [← hWF]; rfl)
  have x2 : V.cell? ⟨w.heap.size, 2, none⟩ = some (.int .i64 st) := (HR2.out.cell (i := 2) (by omega)).trans (by simp)
  have x3 : V.cell? ⟨w.heap.size, 3, none⟩ = some (.bool en) := (HR2.out.cell (i := 3) (by omega)).trans (by simp)
  have x4 : V.cell? ⟨w.heap.size, 4, none⟩ = some (.slice d.a0 p.steps.length d.c0) := (HR2.out.cell (i := 4) (by omega)).trans (by rw [← hWF]; rfl)
  have x5 : V.cell? ⟨w.heap.size, 5, none⟩ = some (.slice d.a1 p.lies.length d.c1) := (HR2.out.cell (i := 5) (by omega)).trans (by rw [← hWF]; rfl)
  have x6 : V.cell? ⟨w.heap.size, 6, none⟩ = some (.slice d.a2 p.crosses.length d.c2) := (HR2.out.cell (i := 6) (by omega)).trans (by rw [← hWF]; rfl)
  have x7 : V.cell? ⟨w.heap.size, 7, none⟩ = some (.func (.yield l) #[] #[]) := (HR2.out.cell (i := 7) (by omega)).trans (by rw [← hWF]; rfl)
  have HIV := hidP (RD.out.keep _ _ _ _ HI.out HBV.out)
  have HPV := hidP (HP.out.below HBV.out)
  obtain ⟨fn, tm, asg, bdy, hy, hrnd⟩ := RD.out.yield K E V d ⟨p.start, st, en, p.steps, p.lies, p.crosses⟩ HIV.out (HPV.out.other st en)
  unfold pathV at hy
  dsimp only at hy
  have HRN := hidP hrnd
  have hzV : w.heap.size < V.heap.size := HR2.out.lt
  clear hrnd hOV hbw2 hb2 HBW HRP HR2 hWF hz2 c0 c1 c2 c3 c4 c5 c6 hzW
  refine (wpIn_wide (n := 0)).1 ?_
  gi_wp2_with fail
  refine ⟨rfl, RoundIn.mono HRN.out ?_⟩
  rintro e w3 ⟨bb, rfl, ho3, hi3, hs3⟩
  dsimp only
  gi_wp2_with fail
  have HO3 : Hid (Only K w w3) := (Only.of_below HBV.out).trans ho3
  have hnK : ¬ K w.heap.size := fun hk => Nat.lt_irrefl _ (HLT.out _ hk)
  replace x0 := ho3.cell x0 hnK
  replace x1 := ho3.cell x1 hnK
  replace x2 := ho3.cell x2 hnK
  replace x3 := ho3.cell x3 hnK
  replace x4 := ho3.cell x4 hnK
  replace x5 := ho3.cell x5 hnK
  replace x6 := ho3.cell x6 hnK
  replace x7 := ho3.cell x7 hnK
  cases bb
  · have HS3 := hidP (hs3 rfl)
    clear hi3 hs3 hnK ho3 hy
    go_wp2_with fail
    go_ret
    obtain ⟨rest, hre⟩ := HEX.out
    exact ⟨false, rfl, HO3.out, (fun h => by cases h), fun _ => ⟨_, rest, by rw [hre, List.append_assoc]; rfl, HS3.out⟩⟩
  · obtain ⟨K', hI4, hG4⟩ := hi3 rfl
    have HI4 := hidP hI4
    have HG4 := hidP (hG4.mono HBV.out.size)
    have HP4 := hidP (HPV.out.thru ho3 hG4)
    have hz3 := cellLt x0
    dsimp only at hz3
    clear hi3 hs3 hnK ho3 hy hI4 hG4
    cases en
    · by_cases hrd : roundB p = true
      · have HE := hidP (HEV.out (Or.inr hrd))
        have HIR2 := hidP (HIR.out w3 HP4.out.at)
        rw [hrd] at HIR2
        clear hrd
        go_wp2_with (go_at_call 169; refine HIR2.out.mono ?_; rintro e w4 ⟨rfl, hb4⟩)
        go_ret
        exact ⟨true, rfl, HO3.out.trans (Only.of_below hb4), fun _ => ⟨K', by rw [HE.out]; exact RD.out.keep _ _ _ _ HI4.out hb4, HG4.out⟩, fun h => by cases h⟩
      · have hrd : roundB p = false := by simpa using hrd
        have HRD := hidP hrd
        have HIR2 := hidP (HIR.out w3 HP4.out.at)
        rw [hrd] at HIR2
        clear hrd
        go_upto_region 6 with (go_at_call 169; refine HIR2.out.mono ?_; rintro e w4 ⟨rfl, hb4⟩)
        have hst : st = 0 := HON.out (by first | rfl | trivial)
        subst hst
        have HI5 := hidP (RD.out.keep _ _ _ _ HI4.out hb4)
        have HP5 := hidP (HP4.out.below hb4)
        have HO5 : Hid (Only K w w4) := HO3.out.trans (Only.of_below hb4)
        replace x0 := cell_later hb4 x0
        replace x1 := cell_later hb4 x1
        replace x2 := cell_later hb4 x2
        replace x3 := cell_later hb4 x3
        replace x4 := cell_later hb4 x4
        replace x5 := cell_later hb4 x5
        replace x6 := cell_later hb4 x6
        replace x7 := cell_later hb4 x7
        have hpq : (⟨p.start, 0, false, p.steps, p.lies, p.crosses⟩ : MPath) = p := by rw [← HPZ.out.1, ← HPZ.out.2]
        have HKE := hidP (HKD.out (by first | rfl | trivial) HRD.out)
        have HPX : Hid (∀ u : World, Below w4.heap.size w4 u → Calls Try.prog 170 #[.pointer (some ⟨KT, 0, none⟩), .agg #[.int .i64 (aheadE s).piece, .int .i64 (aheadE s).side], .func (.func 172) #[.agg #[.pointer (some ⟨KT, 0, none⟩), .int .i64 p.start, .int .i64 0, .bool false, .slice d.a0 p.steps.length d.c0, .slice d.a1 p.lies.length d.c1, .slice d.a2 p.crosses.length d.c2, .func (.yield l) #[] #[]]] #[]] u (Visited (fun K2 u2 => Inv K2 (E ++ evs ps js ss (n + 1) p pos) u2) (StopIn Stop (E ++ evs ps js ss (n + 1) p pos)) K' u)) := fun u hu => by
          have h := HPS.out _ K' u (RD.out.keep _ _ _ _ HI5.out hu) (HP5.out.below hu) HRD.out
          rw [HPZ.out.1, HPZ.out.2] at h
          refine h.mono ?_
          rintro e u3 ⟨b3, h1, h2, h3, h4⟩
          have he : E ++ [(⟨p.start, 0, false, p.steps, p.lies, p.crosses⟩ : MPath)] ++ kidsF ps js ss n p j k (beyondF (kindE js j) k) = E ++ evs ps js ss (n + 1) p pos := by
            rw [HKE.out, hpq]
            simp
          refine ⟨b3, h1, h2, fun hb => ?_, fun hb => ?_⟩
          · obtain ⟨K3, ⟨g1, _⟩, g2⟩ := h3 hb
            rw [List.take_length, he] at g1
            exact ⟨K3, g1, g2⟩
          · rw [← he]
            exact h4 hb
        have HLX : Hid (∀ u : World, Below w4.heap.size w4 u → Calls Try.prog 171 #[.agg #[.int .i64 p.start, .int .i64 0, .bool false, .slice d.a0 p.steps.length d.c0, .slice d.a1 p.lies.length d.c1, .slice d.a2 p.crosses.length d.c2]] u fun e w' => e = .returned (.agg #[.int .i64 s.piece, .int .i64 s.side]) ∧ Below u.heap.size u w') := fun u hu => HLA.out u (HP5.out.below hu).at
        have HAH : Hid (∀ u : World, Calls Try.prog 156 #[.agg #[.int .i64 s.piece, .int .i64 s.side]] u fun e w' => e = .returned (.agg #[.int .i64 (aheadE s).piece, .int .i64 (aheadE s).side]) ∧ Below u.heap.size u w') := fun u => ahead_any s.piece s.side u
        generalize aheadE s = ah at HPX HAH
        have hmf : ∀ (fn : Fn) (first cap : Array Value) (w : World), (Instr.makeFunc fn first cap).run Try.prog w = .ok (.func fn first cap) w := fun _ _ _ _ => rfl
        obtain ⟨S, hS⟩ : ∃ S : World → Prop, ∀ u, S u ↔ Below w4.heap.size w4 u := ⟨_, fun _ => Iff.rfl⟩
        have HS0 := hidP hS
        have r0 : ∀ u : Held S, World.cell? u.val ⟨w.heap.size, 0, none⟩ = some (.pointer (some ⟨KT, 0, none⟩)) := fun u => cell_later ((hS u.val).1 u.2) x0
        have r1 : ∀ u : Held S, World.cell? u.val ⟨w.heap.size, 1, none⟩ = some (.int .i64 p.start) := fun u => cell_later ((hS u.val).1 u.2) x1
        have r2 : ∀ u : Held S, World.cell? u.val ⟨w.heap.size, 2, none⟩ = some (.int .i64 0) := fun u => cell_later ((hS u.val).1 u.2) x2
        have r3 : ∀ u : Held S, World.cell? u.val ⟨w.heap.size, 3, none⟩ = some (.bool false) := fun u => cell_later ((hS u.val).1 u.2) x3
        have r4 : ∀ u : Held S, World.cell? u.val ⟨w.heap.size, 4, none⟩ = some (.slice d.a0 p.steps.length d.c0) := fun u => cell_later ((hS u.val).1 u.2) x4
        have r5 : ∀ u : Held S, World.cell? u.val ⟨w.heap.size, 5, none⟩ = some (.slice d.a1 p.lies.length d.c1) := fun u => cell_later ((hS u.val).1 u.2) x5
        have r6 : ∀ u : Held S, World.cell? u.val ⟨w.heap.size, 6, none⟩ = some (.slice d.a2 p.crosses.length d.c2) := fun u => cell_later ((hS u.val).1 u.2) x6
        have r7 : ∀ u : Held S, World.cell? u.val ⟨w.heap.size, 7, none⟩ = some (.func (.yield l) #[] #[]) := fun u => cell_later ((hS u.val).1 u.2) x7
        have hS1 : S w4.drew := (hS _).2 ((Below.refl _ _).drew)
        have hne := held_ne hS1
        clear hS hpq x0 x1 x2 x3 x4 x5 x6 x7 hb4
        refine wp_region_tree (fun w' => ∃ u : Held S, w' = u.val) 8 (by kernel_rfl) (by kernel_rfl) (held_some hS1) ?_
        (refine wpT_see 0 (by rfl) (by kernel_rfl) (by kernel_rfl) ?_; intro K hK; go_big_quiet_op; go_big_quiet_on); (refine wpT_see 1 (by rfl) (by kernel_rfl) (by kernel_rfl) ?_; intro K hK; go_big_quiet_op; go_big_quiet_on); (refine wpT_see 2 (by rfl) (by kernel_rfl) (by kernel_rfl) ?_; intro K hK; go_big_quiet_op; go_big_quiet_on); (refine wpT_see 3 (by rfl) (by kernel_rfl) (by kernel_rfl) ?_; intro K hK; go_big_quiet_op; go_big_quiet_on)
        (refine wpT_see 6 (by rfl) (by kernel_rfl) (by kernel_rfl) ?_; intro K hK; go_big_quiet_op; go_big_quiet_on); (refine wpT_see 7 (by rfl) (by kernel_rfl) (by kernel_rfl) ?_; intro K hK; go_big_quiet_op; go_big_quiet_on)
        refine wpT_loud 4 (by rfl) (by kernel_rfl) (by kernel_rfl) ?_
        intro KK hK
        go_wp2_with (go_at_call 171; refine (HLX.out _ ((Below.refl _ _).drew)).mono ?_; rintro e u2 ⟨rfl, hb2'⟩)
        have hb2 : Below w4.heap.size w4 u2 := (Below.refl _ _).drew.trans hb2'
        refine hK _ _ (held_some ((HS0.out _).2 hb2)) ?_
        clear hK KK hb2'
        refine wpT_loud 5 (by rfl) (by kernel_rfl) (by kernel_rfl) ?_
        intro KK hK
        go_wp2_with (go_at_call 156; refine (HAH.out _).mono ?_; rintro e u3 ⟨rfl, hb3'⟩)
        have hb3 : Below w4.heap.size w4 u3 := hb2.trans (hb3'.mono hb2.size)
        refine hK _ _ (held_some ((HS0.out _).2 hb3)) ?_
        clear hK KK hb3' r0 r1 r2 r3 r4 r5 r6 r7 hS1 hne hb2
        have HB3 := hidP hb3
        clear hb3
        refine wpT_done (by kernel_rfl) ?_
        go_wp2_with (go_at_call 170; refine (HPX.out _ HB3.out).mono ?_; rintro e z3 ⟨b3, rfl, ho3, hi3, hs3⟩)
        go_ret
        exact ⟨b3, rfl, HO5.out.thru HG4.out ((Only.of_below HB3.out).trans ho3), fun h => by obtain ⟨K2, h1, h2⟩ := hi3 h; exact ⟨K2, h1, HG4.out.trans h2 (Nat.le_trans HO5.out.size HB3.out.size)⟩, hs3⟩
    · have HE := hidP (HEV.out (Or.inl rfl))
      go_wp2_with fail
      go_ret
      exact ⟨true, rfl, HO3.out, fun _ => ⟨K', by rw [HE.out]; exact HI4.out, HG4.out⟩, fun h => by cases h⟩
theorem come_any (w0 : World) (KT M : Nat) (pa ja sa : Option Addr) (pc jc sc : Nat) (ps : List MPiece) (js : List MJoint) (ss : List MPiece) (R : Hid (Right ps js ss)) (hT : Hid (TTrack w0 KT M pa ja sa pc jc sc ps js ss))
    (l : Nat) (Inv : (Nat → Prop) → List MPath → World → Prop) (Stop : List MPath → World → Prop) (RD : Hid (Rounds w0 l Inv Stop)) : ∀ n, ComeAt KT l ps js ss Inv Stop n
  | 0 => fun _ _ _ _ _ _ _ _ _ _ hwk hn _ _ => by
    have := hwk.few
    omega
  | n + 1 => come_step w0 KT M pa ja sa pc jc sc ps js ss R hT l Inv Stop RD n (come_any w0 KT M pa ja sa pc jc sc ps js ss R hT l Inv Stop RD n)
end Go.Proofs.Ytmkdgnmmebldgaa
