import Derived.Test.YtmkdgnmmebldgaaPq33
import Derived.RangeFuncSeq
namespace Go.Proofs.Ytmkdgnmmebldgaa
open Go.RowKit Go.Deep Go.Maps
theorem beyond3 {k t : Nat} (hk : k < 3) (ht : t ∈ beyondF 3 k) : max k t = 1 ∨ max k t = 2 := by
  have : k = 0 ∨ k = 1 ∨ k = 2 := by omega
  rcases this with rfl | rfl | rfl
  · have : t = 1 ∨ t = 2 := by simpa [beyondF] using ht
    omega
  · have : t = 0 := by simpa [beyondF] using ht
    omega
  · have : t = 0 := by simpa [beyondF] using ht
    omega
theorem WalkOk.over {ps : List MPiece} {js : List MJoint} {ss : List MPiece} (R : Right ps js ss) {i : Nat} {pre : List MStep} {s : MStep} {lies : List MLie} {crosses : List Int} {pos : Int} (h : WalkOk ps js ss i pre s lies crosses pos) (hr : s ∉ pre)
    {j k t : Nat} (hj : j < js.length) (hk : k < js[j].ends.length) (ht : t ∈ beyondF (kindE js j) k) {q : MPath} (hq : overP js (pathOf i (pre ++ [s]) lies crosses) j k t = some q) :
    ∃ lies' crosses', q = pathOf i (pre ++ [s] ++ [stepFromE (endE js j t)]) lies' crosses' ∧ WalkOk ps js ss i (pre ++ [s]) (stepFromE (endE js j t)) lies' crosses' (endAt ps (endE js j t)) := by
  have hkd := R.kind j hj
  have hke := kindE_at hj
  have htl : t < js[j].ends.length := beyond_lt hkd.2.2 hk (by rw [← hke]; exact ht)
  have hve : ValidE ps (endE js j t) := by
    rw [endE_at hj htl]
    exact R.ends j hj t htl
  have hcl := h.cl
  by_cases h4 : kindE js j = 4
  · rw [over_cross h4] at hq
    injection hq with hq
    exact ⟨lies, crosses ++ [(j : Int)], hq.symm, h.next R hr hve h.lv h.ld (by simp; exact hcl)⟩
  · by_cases h3 : kindE js j = 3
    · by_cases hz : lieF lies j = 0
      · rw [over_new h3 hz] at hq
        injection hq with hq
        have hna : ¬ lies.any (fun l => l.piece == (j : Int)) = true := fun ha => lieF_any h.lv ha hz
        have hk3 : js[j].kind = 3 := by rw [← hke]; exact h3
        have hmx := beyond3 (k := k) (t := t) (by have := hkd.2.2; omega) (by rw [← h3]; exact ht)
        exact ⟨_, crosses, hq.symm, h.next R hr hve (lies_push h.lv hj hk3 (by omega)) (lies_pushd h.ld hna) (by omega)⟩
      · by_cases hm : lieF lies j = (max k t : Nat)
        · rw [over_same h3 hm hz] at hq
          injection hq with hq
          exact ⟨lies, crosses, hq.symm, h.next R hr hve h.lv h.ld (by omega)⟩
        · rw [over_other h3 hm hz] at hq
          exact absurd hq (by simp)
    · have hq2 : overP js (pathOf i (pre ++ [s]) lies crosses) j k t = some (pathOf i (pre ++ [s] ++ [stepFromE (endE js j t)]) lies crosses) := by
        unfold overP
        dsimp only
        rw [if_neg h4, if_neg h3]
        rfl
      rw [hq2] at hq
      injection hq with hq
      exact ⟨lies, crosses, hq.symm, h.next R hr hve h.lv h.ld (by omega)⟩
def PAway (K : Nat → Prop) (w : World) (d : PAddr) (p : MPath) : Prop := ∀ u, Only K w u → PListsAt u d p
theorem PAway.at {K : Nat → Prop} {w : World} {d : PAddr} {p : MPath} (h : PAway K w d p) : PListsAt w d p := h w (Only.refl K w)
theorem PAway.below {K : Nat → Prop} {w w' : World} {d : PAddr} {p : MPath} (h : PAway K w d p) (hb : Below w.heap.size w w') : PAway K w' d p := fun u hu => h u ((Only.of_below hb).trans hu)
theorem PAway.thru {K K' : Nat → Prop} {w w' : World} {d : PAddr} {p : MPath} (h : PAway K w d p) (ho : Only K w w') (hg : Grow K K' w) : PAway K' w' d p := fun u hu => h u (ho.thru hg hu)
def walkerV (KT : Nat) (d : PAddr) (p : MPath) (l : Nat) : Value := .agg #[.pointer (some ⟨KT, 0, none⟩), .int .i64 p.start, .int .i64 p.stop, .bool p.ended, .slice d.a0 p.steps.length d.c0, .slice d.a1 p.lies.length d.c1, .slice d.a2 p.crosses.length d.c2, .func (.yield l) #[] #[]]
structure Rounds (w0 : World) (l : Nat) (Inv : (Nat → Prop) → List MPath → World → Prop) (Stop : List MPath → World → Prop) : Prop where
  lt : ∀ K E W, Inv K E W → ∀ k, K k → k < W.heap.size
  base : ∀ K E W, Inv K E W → Below w0.heap.size w0 W
  keep : ∀ K E W W', Inv K E W → Below W.heap.size W W' → Inv K E W'
  keepS : ∀ E W W', Stop E W → Below W.heap.size W W' → Stop E W'
  yield : ∀ K E W d p, Inv K E W → PAway K W d p → YieldAt Fence.wide 0 Try.prog l #[pathV d p] W (Visited (fun K' u => Inv K' (E ++ [p]) u) (fun u => Stop (E ++ [p]) u) K W)
def StopIn (Stop : List MPath → World → Prop) (E : List MPath) (u : World) : Prop := ∃ E1 E2, E = E1 ++ E2 ∧ Stop E1 u
def ComeAt (KT l : Nat) (ps : List MPiece) (js : List MJoint) (ss : List MPiece) (Inv : (Nat → Prop) → List MPath → World → Prop) (Stop : List MPath → World → Prop) (n : Nat) : Prop :=
  ∀ i pre s lies crosses pos d K E w, WalkOk ps js ss i pre s lies crosses pos → 2 * ps.length + 2 ≤ n + pre.length → Inv K E w → PAway K w d (pathOf i (pre ++ [s]) lies crosses) →
    Calls Try.prog 153 #[walkerV KT d (pathOf i (pre ++ [s]) lies crosses) l, .int .i64 pos] w
      (Visited (fun K' u => Inv K' (E ++ evs ps js ss n (pathOf i (pre ++ [s]) lies crosses) pos) u) (StopIn Stop (E ++ evs ps js ss n (pathOf i (pre ++ [s]) lies crosses) pos)) K w)
set_option maxRecDepth 100000 in
set_option maxHeartbeats 8000000 in
theorem pass_any (w0 : World) (KT M : Nat) (pa ja sa : Option Addr) (pc jc sc : Nat) (ps : List MPiece) (js : List MJoint) (ss : List MPiece) (R : Hid (Right ps js ss)) (hT : Hid (TTrack w0 KT M pa ja sa pc jc sc ps js ss))
    (l : Nat) (Inv : (Nat → Prop) → List MPath → World → Prop) (Stop : List MPath → World → Prop) (RD : Hid (Rounds w0 l Inv Stop)) (n : Nat) (IH : Hid (ComeAt KT l ps js ss Inv Stop n))
    (i : Nat) (pre : List MStep) (s : MStep) (lies : List MLie) (crosses : List Int) (pos : Int) (d : PAddr) (K : Nat → Prop) (E : List MPath) (w : World) (hwk : Hid (WalkOk ps js ss i pre s lies crosses pos)) (hr : Hid (s ∉ pre)) (hn : Hid (2 * ps.length + 2 ≤ n + 1 + pre.length))
    (j k t : Nat) (hj : j < js.length) (hk : Hid (k < js[j].ends.length)) (ht : Hid (t ∈ beyondF (kindE js j) k)) (hI : Hid (Inv K E w)) (hP : Hid (PAway K w d (pathOf i (pre ++ [s]) lies crosses))) :
    Calls Try.prog 172 #[walkerV KT d (pathOf i (pre ++ [s]) lies crosses) l, passV j k t (kindE js j)] w
      (Visited (fun K' u => Inv K' (E ++ kidF ps js ss n (pathOf i (pre ++ [s]) lies crosses) j k t) u) (StopIn Stop (E ++ kidF ps js ss n (pathOf i (pre ++ [s]) lies crosses) j k t)) K w) := by
  have hkd := R.out.kind j hj
  have hke := kindE_at hj
  have htl : t < js[j].ends.length := beyond_lt hkd.2.2 hk.out (by rw [← hke]; exact ht.out)
  have h1 : 1 ≤ kindE js j := by rw [hke]; exact hkd.1
  have h4 : kindE js j ≤ 4 := by rw [hke]; exact hkd.2.1
  have hee := endE_at hj htl
  have HVE : Hid (ValidE ps (endE js j t)) := by
    unfold Hid
    rw [hee]
    exact R.out.ends j hj t htl
  obtain ⟨p, hp⟩ : ∃ p, pathOf i (pre ++ [s]) lies crosses = p := ⟨_, rfl⟩
  have hbw := RD.out.base _ _ _ hI.out
  have hlt := RD.out.lt _ _ _ hI.out
  have HB : Hid (∀ u : World, Below w.heap.size w u → TTrack u KT M pa ja sa pc jc sc ps js ss) := fun u hu => hT.out.below (hbw.trans (hu.mono hbw.size))
  have HEB : Hid (∀ u : World, Below w.heap.size w u → ∀ fr kd : Value, Calls Try.prog 183 #[.pointer (some ⟨KT, 0, none⟩), .agg #[.int .i64 j, fr, .int .i64 t, kd]] u fun e w' => e = .returned (endV (endE js j t)) ∧ Below u.heap.size u w') := fun u hu fr kd => by
    have h := endBehind_any KT pa ja sa pc jc sc ps js ss j t fr kd u (HB.out u hu).net hj htl
    rw [← hee] at h
    exact h
  have hcl := hwk.out.cl
  have hfew := hwk.out.few
  have hlf := lies_few hwk.out.lv hwk.out.ld
  have hnp := R.out.np
  have hnj := R.out.nj
  have HOV : Hid (∀ u : World, PListsAt u d p → Calls Try.prog 184 #[pathV d p, passV j k t (kindE js j), endV (endE js j t)] u fun e w' => ∃ d', e = .returned (.tuple #[pathV d' (overI p j k t (kindE js j) (endE js j t)).1, .bool (overI p j k t (kindE js j) (endE js j t)).2]) ∧ PSound u w' d d' p (overI p j k t (kindE js j) (endE js j t)).1 ∧ Below u.heap.size u w') := fun u hu =>
    path_over_any d p j k t (kindE js j) (endE js j t) u hu (by rw [← hp]; simp [pathOf]; omega) (by rw [← hp]; simp [pathOf]; omega) (by rw [← hp]; simp [pathOf]; omega) h1 h4
  have HAT : Hid (∀ u : World, Below w.heap.size w u → Calls Try.prog 154 #[.pointer (some ⟨KT, 0, none⟩), endV (endE js j t)] u fun e w' => e = .returned (.int .i64 (endAt ps (endE js j t))) ∧ Below u.heap.size u w') := fun u hu => by
    obtain ⟨x, hx, e1, e2⟩ := HVE.out
    obtain ⟨en, hen⟩ : ∃ en, endE js j t = en := ⟨_, rfl⟩
    rw [hen] at e1 ⊢
    obtain ⟨ep, es⟩ := en
    simp only at e1
    subst e1
    exact at_any KT pa ja sa pc jc sc ps js ss x es u (HB.out u hu).net hx
  have HKF : Hid (∀ q, overP js p j k t = some q → kidF ps js ss n p j k t = evs ps js ss n q (endAt ps (endE js j t))) := fun q hq => by unfold kidF; rw [hq]
  have HKN : Hid (overP js p j k t = none → kidF ps js ss n p j k t = []) := fun hq => by unfold kidF; rw [hq]
  have HNX : Hid (∀ q, overP js p j k t = some q → ∃ lies' crosses', q = pathOf i (pre ++ [s] ++ [stepFromE (endE js j t)]) lies' crosses' ∧ WalkOk ps js ss i (pre ++ [s]) (stepFromE (endE js j t)) lies' crosses' (endAt ps (endE js j t))) := fun q hq => hwk.out.over R.out hr.out hj hk.out ht.out (by rw [hp]; exact hq)
  have HOS : Hid (∀ q, overP js p j k t = some q → overI p j k t (kindE js j) (endE js j t) = (q, true)) := fun q hq => overI_some hq
  have HON : Hid (overP js p j k t = none → (overI p j k t (kindE js j) (endE js j t)).2 = false) := fun hq => overI_none hq
  rw [hp] at hP ⊢
  have HLT := hidP hlt
  generalize kidF ps js ss n p j k t = kids at HKF HKN ⊢
  generalize overI p j k t (kindE js j) (endE js j t) = oi at HOV HOS HON
  generalize overP js p j k t = op at HKF HKN HNX HOS HON
  generalize kindE js j = kd at HOV h1 h4 ht hke ⊢
  generalize endE js j t = en at HEB HVE HOV HAT HKF HNX hee
  obtain ⟨oq, ob⟩ := oi
  clear hkd hke htl hee hbw hlt hcl hfew hlf hnp hnj hp h1 h4 hk hj ht
  unfold walkerV passV
  unfold passV at HOV
  unfold pathV endV at HOV
  unfold endV at HEB HAT
  go_enter Try.func172, Try.ntmps172
  go_upto_region 1 with fail
  generalize hWF : (fun i : Nat => (#[Value.pointer (some ⟨KT, 0, none⟩), .int .i64 p.start, .int .i64 p.stop, .bool p.ended, .slice d.a0 p.steps.length d.c0, .slice d.a1 p.lies.length d.c1, .slice d.a2 p.crosses.length d.c2, .func (.yield l) #[] #[]] : Array Value).getD i (.bool false)) = wf
  generalize hW : World.alloc (World.alloc w _) _ = W
  have HRP : Hid (W.rowIs w.heap.size 258 8 wf) := by
    unfold Hid
    rw [← hW, ← hWF]
    exact (row_of_alloc2 w _ _).alloc _
  have q0 : W.cell? ⟨w.heap.size + 1, 0, none⟩ = some (.int .i64 (j : Int)) := by rw [← hW]; simp [go_sem]
  have q1 : W.cell? ⟨w.heap.size + 1, 1, none⟩ = some (.int .i64 (k : Int)) := by rw [← hW]; simp [go_sem]
  have q2 : W.cell? ⟨w.heap.size + 1, 2, none⟩ = some (.int .i64 (t : Int)) := by rw [← hW]; simp [go_sem]
  have q3 : W.cell? ⟨w.heap.size + 1, 3, none⟩ = some (.iface (kindT kd) (.agg #[])) := by rw [← hW]; simp [go_sem]
  have HBW : Hid (Below w.heap.size w W) := by rw [← hW]; exact blo
  have hzW : w.heap.size + 1 < W.heap.size := by rw [← hW]; simp
  clear hW
  have c0 : W.cell? ⟨w.heap.size, 0, none⟩ = some (.pointer (some ⟨KT, 0, none⟩)) := (HRP.out.cell (i := 0) (by omega)).trans (by rw [← hWF]; rfl)
  have c1 : W.cell? ⟨w.heap.size, 1, none⟩ = some (.int .i64 p.start) := (HRP.out.cell (i := 1) (by omega)).trans (by rw [← hWF]; rfl)
  have c2 : W.cell? ⟨w.heap.size, 2, none⟩ = some (.int .i64 p.stop) := (HRP.out.cell (i := 2) (by omega)).trans (by rw [← hWF]; rfl)
  have c3 : W.cell? ⟨w.heap.size, 3, none⟩ = some (.bool p.ended) := (HRP.out.cell (i := 3) (by omega)).trans (by rw [← hWF]; rfl)
  have c4 : W.cell? ⟨w.heap.size, 4, none⟩ = some (.slice d.a0 p.steps.length d.c0) := (HRP.out.cell (i := 4) (by omega)).trans (by rw [← hWF]; rfl)
  have c5 : W.cell? ⟨w.heap.size, 5, none⟩ = some (.slice d.a1 p.lies.length d.c1) := (HRP.out.cell (i := 5) (by omega)).trans (by rw [← hWF]; rfl)
  have c6 : W.cell? ⟨w.heap.size, 6, none⟩ = some (.slice d.a2 p.crosses.length d.c2) := (HRP.out.cell (i := 6) (by omega)).trans (by rw [← hWF]; rfl)
  have c7 : W.cell? ⟨w.heap.size, 7, none⟩ = some (.func (.yield l) #[] #[]) := (HRP.out.cell (i := 7) (by omega)).trans (by rw [← hWF]; rfl)
  go_upto_region 2 with (go_at_call 183; refine (HEB.out _ HBW.out _ _).mono ?_; rintro e w2 ⟨rfl, hb2⟩)
  generalize hV : World.alloc w2 _ = V
  have hbV : Below W.heap.size W V := by rw [← hV]; exact hb2.trans (((Below.refl _ _).alloc (Nat.le_refl _) _).mono hb2.size)
  have e0 : V.cell? ⟨w2.heap.size, 0, none⟩ = some (.int .i64 en.piece) := by rw [← hV]; simp [go_sem]
  have e1 : V.cell? ⟨w2.heap.size, 1, none⟩ = some (.int .i64 en.side) := by rw [← hV]; simp [go_sem]
  have hz2 := hb2.size
  have hzV : w2.heap.size < V.heap.size := by rw [← hV]; simp
  clear hV hb2
  replace q0 := cell_later hbV q0
  replace q1 := cell_later hbV q1
  replace q2 := cell_later hbV q2
  replace q3 := cell_later hbV q3
  have HRV := hidP (HRP.out.of_block (hbV.block _ HRP.out.lt))
  have HBV := hidP (HBW.out.trans (hbV.mono HBW.out.size))
  replace c0 := cell_later hbV c0
  replace c1 := cell_later hbV c1
  replace c2 := cell_later hbV c2
  replace c3 := cell_later hbV c3
  replace c4 := cell_later hbV c4
  replace c5 := cell_later hbV c5
  replace c6 := cell_later hbV c6
  replace c7 := cell_later hbV c7
  clear hbV HRP HBW
  have HPV := hidP ((hP.out.below HBV.out).at)
  go_upto_region 3 with (go_at_call 184; refine (HOV.out _ HPV.out).mono ?_; rintro e w3 ⟨d', rfl, hps, hb3⟩)
  generalize hU : World.alloc w3 _ = U
  have hbU : Below V.heap.size V U := by rw [← hU]; exact hb3.trans (((Below.refl _ _).alloc (Nat.le_refl _) _).mono hb3.size)
  have hb3U : Below w3.heap.size w3 U := by rw [← hU]; exact (Below.refl _ _).alloc (Nat.le_refl _) _
  have m0 : U.cell? ⟨w3.heap.size, 0, none⟩ = some (.int .i64 oq.start) := by rw [← hU]; simp [go_sem]
  have m1 : U.cell? ⟨w3.heap.size, 1, none⟩ = some (.int .i64 oq.stop) := by rw [← hU]; simp [go_sem]
  have m2 : U.cell? ⟨w3.heap.size, 2, none⟩ = some (.bool oq.ended) := by rw [← hU]; simp [go_sem]
  have m3 : U.cell? ⟨w3.heap.size, 3, none⟩ = some (.slice d'.a0 oq.steps.length d'.c0) := by rw [← hU]; simp [go_sem]
  have m4 : U.cell? ⟨w3.heap.size, 4, none⟩ = some (.slice d'.a1 oq.lies.length d'.c1) := by rw [← hU]; simp [go_sem]
  have m5 : U.cell? ⟨w3.heap.size, 5, none⟩ = some (.slice d'.a2 oq.crosses.length d'.c2) := by rw [← hU]; simp [go_sem]
  have hz3 := hb3.size
  have hzU : w3.heap.size < U.heap.size := by rw [← hU]; simp
  have HB3 := hidP hb3
  have HB3U := hidP hb3U
  have HPS := hidP hps
  have HRU := hidP (HRV.out.of_block (hbU.block _ HRV.out.lt))
  have HBU := hidP (HBV.out.trans (hbU.mono HBV.out.size))
  replace e0 := cell_later hbU e0
  replace e1 := cell_later hbU e1
  clear hU hbU hb3 hb3U hps q0 q1 q2 q3 c0 c1 c2 c3 c4 c5 c6 c7 HPV HOV HRV
  cases op with
  | none =>
    have hob : ob = false := HON.out rfl
    subst hob
    have HI2 := hidP (RD.out.keep _ _ _ _ hI.out HBU.out)
    have HKD := hidP (HKN.out rfl)
    go_wp2_with fail
    go_ret
    exact ⟨true, rfl, Only.of_below HBU.out, fun _ => ⟨K, by rw [HKD.out, List.append_nil]; exact HI2.out, Grow.refl _ _⟩, fun h => by cases h⟩
  | some q =>
    have hoq := HOS.out q rfl
    injection hoq with hq1 hq2
    subst hq1 hq2
    have hz8 := HRU.out.lt
    have HR7 := hidP ((((((HRU.out.set 1 (.int .i64 oq.start)).set 2 (.int .i64 oq.stop)).set 3 (.bool oq.ended)).set 4 (.slice d'.a0 oq.steps.length d'.c0)).set 5 (.slice d'.a1 oq.lies.length d'.c1)).set 6 (.slice d'.a2 oq.crosses.length d'.c2))
    have f1 := HRU.out.frozen 1
    have f2 := HRU.out.frozen 2
    have f3 := HRU.out.frozen 3
    have f4 := HRU.out.frozen 4
    have f5 := HRU.out.frozen 5
    have f6 := HRU.out.frozen 6
    have c1 := HRU.out.cell (i := 1) (by omega)
    have c2 := HRU.out.cell (i := 2) (by omega)
    have c3 := HRU.out.cell (i := 3) (by omega)
    have c4 := HRU.out.cell (i := 4) (by omega)
    have c5 := HRU.out.cell (i := 5) (by omega)
    have c6 := HRU.out.cell (i := 6) (by omega)
    have HKD := hidP (HKF.out oq rfl)
    go_upto_region 6 with fail
    generalize hZ : World.setCell (World.setCell (World.setCell (World.setCell (World.setCell (World.setCell U _ _) _ _) _ _) _ _) _ _) _ _ = Z
    have HRZ := hidP HR7.out
    rw [hZ] at HRZ
    have hOU : Only (fun k => k = w.heap.size) U Z := by
      rw [← hZ]
      exact ((((((Only.refl (fun k => k = w.heap.size) U).setCell (p := ⟨w.heap.size, 1, none⟩) (Or.inl rfl) _).setCell (p := ⟨w.heap.size, 2, none⟩) (Or.inl rfl) _).setCell (p := ⟨w.heap.size, 3, none⟩) (Or.inl rfl) _).setCell (p := ⟨w.heap.size, 4, none⟩) (Or.inl rfl) _).setCell (p := ⟨w.heap.size, 5, none⟩) (Or.inl rfl) _).setCell (p := ⟨w.heap.size, 6, none⟩) (Or.inl rfl) _
    clear hZ HR7 f1 f2 f3 f4 f5 f6 c1 c2 c3 c4 c5 c6 m0 m1 m2 m3 m4 m5
    replace e0 := hOU.cell e0 (by show ¬ w2.heap.size = w.heap.size; omega)
    replace e1 := hOU.cell e1 (by show ¬ w2.heap.size = w.heap.size; omega)
    have hbZ : Below w.heap.size w Z := HBU.out.trans (hOU.below (by have h1 := HBU.out.size; omega) (fun k hk e => by omega))
    have HBZ := hidP hbZ
    have HO3 : Hid (Only (fun x => K x ∨ x = w.heap.size) w3 Z) := (Only.of_below HB3U.out).trans (hOU.mono (fun k hk => Or.inr hk))
    have HPQ : Hid (∀ u, Only K Z u → PListsAt u d' oq) := fun u hu =>
      HPS.out (fun x => K x ∨ x = w.heap.size) u (fun x hx => by rcases hx with hx | hx; exact Nat.lt_of_lt_of_le (HLT.out x hx) HBV.out.size; omega) (HO3.out.trans (hu.mono (fun k hk => Or.inl hk))) (hP.out u ((Only.of_below HBZ.out).trans hu))
    have x0 : Z.cell? ⟨w.heap.size, 0, none⟩ = some (.pointer (some ⟨KT, 0, none⟩)) := (HRZ.out.cell (i := 0) (by omega)).trans (by rw [← hWF]; rfl)
    have x1 : Z.cell? ⟨w.heap.size, 1, none⟩ = some (.int .i64 oq.start) := (HRZ.out.cell (i := 1) (by omega)).trans (by simp)
    have x2 : Z.cell? ⟨w.heap.size, 2, none⟩ = some (.int .i64 oq.stop) := (HRZ.out.cell (i := 2) (by omega)).trans (by simp)
    have x3 : Z.cell? ⟨w.heap.size, 3, none⟩ = some (.bool oq.ended) := (HRZ.out.cell (i := 3) (by omega)).trans (by simp)
    have x4 : Z.cell? ⟨w.heap.size, 4, none⟩ = some (.slice d'.a0 oq.steps.length d'.c0) := (HRZ.out.cell (i := 4) (by omega)).trans (by simp)
    have x5 : Z.cell? ⟨w.heap.size, 5, none⟩ = some (.slice d'.a1 oq.lies.length d'.c1) := (HRZ.out.cell (i := 5) (by omega)).trans (by simp)
    have x6 : Z.cell? ⟨w.heap.size, 6, none⟩ = some (.slice d'.a2 oq.crosses.length d'.c2) := (HRZ.out.cell (i := 6) (by omega)).trans (by simp)
    have x7 : Z.cell? ⟨w.heap.size, 7, none⟩ = some (.func (.yield l) #[] #[]) := (HRZ.out.cell (i := 7) (by omega)).trans (by rw [← hWF]; rfl)
    obtain ⟨lies', crosses', hoq, hwk'⟩ := HNX.out oq rfl
    have HCM : Hid (∀ u : World, Below Z.heap.size Z u → Calls Try.prog 153 #[walkerV KT d' oq l, .int .i64 (endAt ps en)] u (Visited (fun K' u => Inv K' (E ++ evs ps js ss n oq (endAt ps en)) u) (StopIn Stop (E ++ evs ps js ss n oq (endAt ps en))) K u)) := fun u hu => by
      have hb : Below w.heap.size w u := HBZ.out.trans (hu.mono HBZ.out.size)
      have hpw : PAway K u d' oq := fun v hv => HPQ.out v ((Only.of_below hu).trans hv)
      rw [hoq] at hpw ⊢
      exact IH.out i (pre ++ [s]) (stepFromE en) lies' crosses' (endAt ps en) d' K E u hwk' (by have h1 := hn.out; simp; omega) (RD.out.keep _ _ _ _ hI.out hb) hpw
    unfold walkerV at HCM
    obtain ⟨S, hS⟩ : ∃ S : World → Prop, ∀ u, S u ↔ Below Z.heap.size Z u := ⟨_, fun _ => Iff.rfl⟩
    have HS0 := hidP hS
    have r0 : ∀ u : Held S, World.cell? u.val ⟨w.heap.size, 0, none⟩ = some (.pointer (some ⟨KT, 0, none⟩)) := fun u => cell_later ((hS u.val).1 u.2) x0
    have r1 : ∀ u : Held S, World.cell? u.val ⟨w.heap.size, 1, none⟩ = some (.int .i64 oq.start) := fun u => cell_later ((hS u.val).1 u.2) x1
    have r2 : ∀ u : Held S, World.cell? u.val ⟨w.heap.size, 2, none⟩ = some (.int .i64 oq.stop) := fun u => cell_later ((hS u.val).1 u.2) x2
    have r3 : ∀ u : Held S, World.cell? u.val ⟨w.heap.size, 3, none⟩ = some (.bool oq.ended) := fun u => cell_later ((hS u.val).1 u.2) x3
    have r4 : ∀ u : Held S, World.cell? u.val ⟨w.heap.size, 4, none⟩ = some (.slice d'.a0 oq.steps.length d'.c0) := fun u => cell_later ((hS u.val).1 u.2) x4
    have r5 : ∀ u : Held S, World.cell? u.val ⟨w.heap.size, 5, none⟩ = some (.slice d'.a1 oq.lies.length d'.c1) := fun u => cell_later ((hS u.val).1 u.2) x5
    have r6 : ∀ u : Held S, World.cell? u.val ⟨w.heap.size, 6, none⟩ = some (.slice d'.a2 oq.crosses.length d'.c2) := fun u => cell_later ((hS u.val).1 u.2) x6
    have r7 : ∀ u : Held S, World.cell? u.val ⟨w.heap.size, 7, none⟩ = some (.func (.yield l) #[] #[]) := fun u => cell_later ((hS u.val).1 u.2) x7
    have r8 : ∀ u : Held S, World.cell? u.val ⟨w2.heap.size, 0, none⟩ = some (.int .i64 en.piece) := fun u => cell_later ((hS u.val).1 u.2) e0
    have r9 : ∀ u : Held S, World.cell? u.val ⟨w2.heap.size, 1, none⟩ = some (.int .i64 en.side) := fun u => cell_later ((hS u.val).1 u.2) e1
    have hS1 : S Z.drew := (hS _).2 ((Below.refl _ _).drew)
    have hne := held_ne hS1
    clear hS hOU hbZ hoq hwk' x0 x1 x2 x3 x4 x5 x6 x7 e0 e1
    refine wp_region_tree (fun w' => ∃ u : Held S, w' = u.val) 5 (by kernel_rfl) (by kernel_rfl) (held_some hS1) ?_
    (refine wpT_see 0 (by rfl) (by kernel_rfl) (by kernel_rfl) ?_; intro K hK; go_big_quiet_op; go_big_quiet_on); (refine wpT_see 1 (by rfl) (by kernel_rfl) (by kernel_rfl) ?_; intro K hK; go_big_quiet_op; go_big_quiet_on); (refine wpT_see 2 (by rfl) (by kernel_rfl) (by kernel_rfl) ?_; intro K hK; go_big_quiet_op; go_big_quiet_on); (refine wpT_see 3 (by rfl) (by kernel_rfl) (by kernel_rfl) ?_; intro K hK; go_big_quiet_op; go_big_quiet_on)
    refine wpT_loud 4 (by rfl) (by kernel_rfl) (by kernel_rfl) ?_
    intro K' hK'
    go_wp2_with (go_at_call 154; refine (HAT.out _ (HBZ.out.trans ((Below.refl _ _).drew.mono HBZ.out.size))).mono ?_; rintro e z2 ⟨rfl, hb2'⟩)
    have hb2 : Below Z.heap.size Z z2 := (Below.refl _ _).drew.trans hb2'
    refine hK' _ _ (held_some ((HS0.out _).2 hb2)) ?_
    clear hK' K' hb2' r0 r1 r2 r3 r4 r5 r6 r7 r8 r9 hS1 hne
    have HB2 := hidP hb2
    clear hb2
    refine wpT_done (by kernel_rfl) ?_
    go_wp2_with (go_at_call 153; refine (HCM.out _ HB2.out).mono ?_; rintro e z3 ⟨bb, rfl, ho3, hi3, hs3⟩)
    go_ret
    have hbz : Below w.heap.size w z2 := HBZ.out.trans (HB2.out.mono HBZ.out.size)
    rw [HKD.out]
    exact ⟨bb, rfl, (Only.of_below hbz).trans ho3, fun h => by obtain ⟨K', h1, h2⟩ := hi3 h; exact ⟨K', h1, h2.mono hbz.size⟩, hs3⟩
end Go.Proofs.Ytmkdgnmmebldgaa
