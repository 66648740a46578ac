import Derived.Test.YtmkdgnmmebldgaaGreatEx29
import Derived.RangeFuncSeq
import Derived.OwnWalkIn
namespace Go.Proofs.YtmkdgnmmebldgaaGreat
open Go.RowKit Go.Deep Go.Maps

/-! What one who is called back owns may change; what he owns later is of old, or new. -/

def Grow (K K' : Nat → Prop) (w : World) : Prop := ∀ k, K' k → K k ∨ w.heap.size ≤ k
theorem Grow.refl (K : Nat → Prop) (w : World) : Grow K K w := fun _ h => Or.inl h
theorem Grow.mono {K K' : Nat → Prop} {w w' : World} (h : Grow K K' w') (hs : w.heap.size ≤ w'.heap.size) : Grow K K' w := fun k hk => (h k hk).imp id (fun h => Nat.le_trans hs h)
theorem Grow.trans {K K' K'' : Nat → Prop} {w w' : World} (h : Grow K K' w) (h' : Grow K' K'' w') (hs : w.heap.size ≤ w'.heap.size) : Grow K K'' w := fun k hk => by
  rcases h' k hk with h1 | h1
  · exact h k h1
  · exact Or.inr (Nat.le_trans hs h1)
theorem Only.thru {K K' : Nat → Prop} {w u v : World} (h : Only K w u) (hg : Grow K K' w) (h' : Only K' u v) : Only K w v :=
  ⟨h'.os.trans h.os, h'.tape.trans h.tape, h'.output.trans h.output, Nat.le_trans h.size h'.size, fun k hk hn => (h'.block k (Nat.lt_of_lt_of_le hk h.size) (fun e => (hg k e).elim hn (fun e2 => by omega))).trans (h.block k hk hn)⟩
/-- What one who is called back answers: whether to go on; what he holds then. -/
def Visited (J : (Nat → Prop) → World → Prop) (Sx : World → Prop) (K : Nat → Prop) (u : World) (e : Ending) (u' : World) : Prop :=
  ∃ b : Bool, e = .returned (.bool b) ∧ Only K u u' ∧ (b = true → ∃ K', J K' u' ∧ Grow K K' u) ∧ (b = false → Sx u')

set_option maxRecDepth 100000 in
set_option maxHeartbeats 8000000 in
theorem passages_any (KT M : Nat) (pa ja sa : Option Addr) (pc jc sc : Nat) (ps : List MPiece) (js : List MJoint) (ss : List MPiece) (R : Hid (Right ps js ss)) (e : MEnd) (g : Nat) (rv : Value) (J : Nat → (Nat → Prop) → World → Prop) (Sx : World → Prop) (K0 : Nat → Prop) (w : World)
    (hT : Hid (TTrack w KT M pa ja sa pc jc sc ps js ss)) (hv : Hid (ValidE ps e)) (hg : ∀ args u, (callFunc g args).run Tryz.prog u = .ok (.enter g args) u) (j k : Nat) (hsp : Hid (spotE js e = (j, k)))
    (hJ0 : Hid (J 0 K0 w)) (hJl : Hid (∀ m K u, J m K u → ∀ k, K k → k < u.heap.size)) (hJk : Hid (∀ m K u u', J m K u → Below u.heap.size u u' → J m K u'))
    (hV : Hid (∀ m t K u, (beyondF (kindE js j) k)[m]? = some t → J m K u → Calls Tryz.prog g #[rv, passV j k t (kindE js j)] u (Visited (J (m + 1)) Sx K u))) :
    Calls Tryz.prog 109 #[.pointer (some ⟨KT, 0, none⟩), endV e, .func (.func g) #[rv] #[]] w (Visited (J (beyondF (kindE js j) k).length) Sx K0 w) := by
  have HLK : Hid (∀ u : World, Below w.heap.size w u → (Instr.lookup 121 (.map (some M)) (endV e) false).run Tryz.prog u = .ok (spotV j k (kindE js j)) u) := fun u hu => by
    have h := (hT.out.below hu).lookup R.out hv.out
    rw [hsp.out] at h
    exact h
  obtain ⟨hj, hk⟩ : ∃ hj : j < js.length, k < js[j].ends.length := by
    obtain ⟨j', k', g1, g2⟩ := R.out.spot hv.out
    obtain ⟨_, hj, hk, g3, _⟩ := spotF_some g1
    rw [hsp.out] at g2
    injection g2 with e1 e2
    subst e1 e2
    simp only [Nat.sub_zero] at hj hk
    exact ⟨hj, hk⟩
  obtain ⟨kd, hkd⟩ : ∃ kd, kindE js j = kd := ⟨_, rfl⟩
  have hkk := R.out.kind j hj
  have h1 : 1 ≤ kd := by rw [← hkd, kindE_at hj]; exact hkk.1
  have h4 : kd ≤ 4 := by rw [← hkd, kindE_at hj]; exact hkk.2.1
  have hkl : (k : Int) < kd := by rw [← hkd, kindE_at hj, ← hkk.2.2]; omega
  rw [hkd] at HLK hV ⊢
  have HBY : Hid (∀ u : World, Calls Tryz.prog (beyondFn kd) #[.agg #[], .int .i64 k] u (BeyondPost u (beyondF kd k))) := fun u => beyondM_any kd k h1 h4 hkl u
  obtain ⟨L, hL⟩ : ∃ L, beyondF kd k = L := ⟨_, rfl⟩
  have hL2 : L.length ≤ 2 := by rw [← hL]; exact beyondF_few _ _
  rw [hL] at hV HBY ⊢
  have hm := meth_beyond kd h1 h4
  have hcb := call_beyond kd
  have c3 := hT.out.c3
  have hK := cellLt c3
  dsimp only at hK
  have HJL0 := hidP (hJl.out _ _ _ hJ0.out)
  clear hL hkd hkk hkl
  unfold endV
  go_enter Tryz.func109, Tryz.ntmps109
  go_upto_region 1 with fail
  generalize hW : World.alloc w _ = W
  have hbW : Below w.heap.size w W := by rw [← hW]; exact (by repeat (first | exact Below.refl _ _ | assumption | refine Below.drew ?_ | refine bdrewN ?_ _ | refine Below.setCell ?_ (by first | omega | (simp; done) | (simp; omega)) _ | refine Below.alloc ?_ (by first | omega | (simp; done) | (simp; omega)) _))
  have x0 : W.cell? ⟨w.heap.size, 0, none⟩ = some (.int .i64 e.piece) := by rw [← hW]; simp [go_sem]
  have x1 : W.cell? ⟨w.heap.size, 1, none⟩ = some (.int .i64 e.side) := by rw [← hW]; simp [go_sem]
  have y3 := cell_later hbW c3
  have HBW := hidP hbW
  have hzW : w.heap.size < W.heap.size := by rw [← hW]; simp
  obtain ⟨S, hS⟩ : ∃ S : World → Prop, ∀ u, S u ↔ Below W.heap.size W u := ⟨_, fun _ => Iff.rfl⟩
  have HS0 := hidP hS
  have r0 : ∀ u : Held S, World.cell? u.val ⟨w.heap.size, 0, none⟩ = some (.int .i64 e.piece) := fun u => cell_later ((hS u.val).1 u.2) x0
  have r1 : ∀ u : Held S, World.cell? u.val ⟨w.heap.size, 1, none⟩ = some (.int .i64 e.side) := fun u => cell_later ((hS u.val).1 u.2) x1
  have r3 : ∀ u : Held S, World.cell? u.val ⟨KT, 3, none⟩ = some (.map (some M)) := fun u => cell_later ((hS u.val).1 u.2) y3
  have r4 : ∀ u : Held S, (Instr.lookup 121 (.map (some M)) (.agg #[.int .i64 e.piece, .int .i64 e.side]) false).run Tryz.prog u.val = .ok (spotV j k kd) u.val := fun u => HLK.out u.val (HBW.out.trans (((hS u.val).1 u.2).mono HBW.out.size))
  have hS1 : S W.drew := (hS _).2 ((Below.refl _ _).drew)
  have hne := held_ne hS1
  clear hS hW hbW
  go_cut [7] (fun v wx => ∃ b, v = .pointer (some ⟨b, 0, none⟩) ∧ W.heap.size ≤ b ∧ wx.cell? ⟨b, 0, none⟩ = some (.int .i64 (j : Int)) ∧ wx.cell? ⟨b, 1, none⟩ = some (.int .i64 (k : Int)) ∧ wx.cell? ⟨b, 2, none⟩ = some (.iface (kindT kd) (.agg #[])) ∧ Below W.heap.size W wx)
  case first =>
    refine wp_region_tree (fun w' => ∃ u : Held S, w' = u.val) 7 (by kernel_rfl) (by kernel_rfl) (held_some hS1) ?_
    (refine wpT_see 0 (by rfl) (by kernel_rfl) (by kernel_rfl) ?_; intro K hK; go_big_quiet_op; go_big_quiet_on); (refine wpT_see 1 (by rfl) (by kernel_rfl) (by kernel_rfl) ?_; intro K hK; go_big_quiet_op; go_big_quiet_on); (refine wpT_see 2 (by rfl) (by kernel_rfl) (by kernel_rfl) ?_; intro K hK; go_big_quiet_op; go_big_quiet_on); (refine wpT_see 3 (by rfl) (by kernel_rfl) (by kernel_rfl) ?_; intro K hK; go_big_quiet_op; go_big_quiet_on); (refine wpT_see 4 (by rfl) (by kernel_rfl) (by kernel_rfl) ?_; intro K hK; go_big_quiet_op; go_big_quiet_on); (refine wpT_see 5 (by rfl) (by kernel_rfl) (by kernel_rfl) ?_; intro K hK; go_big_quiet_op; go_big_quiet_on)
    refine wpT_loud 6 (by rfl) (by kernel_rfl) (by kernel_rfl) ?_
    intro K hK
    go_wp2_with fail
    have hb3 : Below W.heap.size W (W.alloc (Obj.cells #[Value.int IntKind.i64 0, Value.int IntKind.i64 0, Value.nilIface] 129)).drew := ((Below.refl _ _).alloc (Nat.le_refl _) _).drew
    refine hK _ _ (held_some ((HS0.out _).2 hb3)) ?_
    clear hK K
    refine wpT_done (by kernel_rfl) ?_
    unfold spotV
    clear r0 r1 r3 r4 hS1 hne hb3
    go_wp2_with fail
    go_meet
    exact ⟨_, rfl, Nat.le_refl _, by simp [go_sem], by simp [go_sem], by simp [go_sem], ((Below.refl _ _).alloc (Nat.le_refl _) _).drew⟩
  case rest =>
    obtain ⟨b, rfl, hb, z0, z1, z2, hbc⟩ := hcut
    clear r0 r1 r3 r4 hS1 hne y3 x0 x1
    have hzb := cellLt z0
    dsimp only at hzb
    go_wp2_with (refine Calls.mono (HBY.out _) ?_; rintro e w2 ⟨a, c, rfl, hna, hnew, hb2⟩)
    have hbV : Below w.heap.size w w2 := (HBW.out.trans (hbc.mono HBW.out.size)).trans (hb2.mono (by have h1 := HBW.out.size; have h2 := hbc.size; omega))
    replace z0 := cell_later hb2 z0
    replace z1 := cell_later hb2 z1
    replace z2 := cell_later hb2 z2
    have hsz := hbc.size
    have HNB : Hid (¬ K0 b) := fun hk => by have h1 := HJL0.out b hk; omega
    have HNA : Hid (∀ x, a = some x → ¬ K0 x.block) := fun x hx hk => by have h1 := HJL0.out _ hk; have h2 := hnew x hx; omega
    have HNM := hidP hna
    have HBV := hidP hbV
    have HJV := hidP (hJk.out _ _ _ _ hJ0.out hbV)
    have Z0 := hidP z0
    have Z1 := hidP z1
    have Z2 := hidP z2
    clear hna hnew hb2 hbV z0 z1 z2 hm hcb hbc
    go_loopw [22] (fun c wr => ∃ (m : Nat) (K : Nat → Prop), m ≤ L.length ∧ c = .int .i64 m ∧ Hid (J m K wr) ∧ Hid (Only K0 w2 wr) ∧ Hid (Grow K0 K w2)) (fun c _ => L.length - (intOf c).toNat)
    case atStart => exact ⟨0, K0, Nat.zero_le _, rfl, HJV, Only.refl _ _, Grow.refl _ _⟩
    case round =>
      obtain ⟨m, K, hm, rfl, HJ, HO, HG⟩ := hrel
      clear HJV
      have hos := HO.out.size
      by_cases hm' : m < L.length
      · have hmi : (m : Int) < L.length := by omega
        obtain ⟨b2, off2, rfl, hpc⟩ := HNM.out.2.resolve_left (fun h => by rw [List.map_eq_nil_iff] at h; rw [h] at hm'; exact absurd hm' (Nat.not_lt_zero _))
        have q0 := HO.out.cell Z0.out HNB.out
        have q1 := HO.out.cell Z1.out HNB.out
        have q2 := HO.out.cell Z2.out HNB.out
        have q3 := HO.out.cell (hpc m (by simpa using hm')) (HNA.out ⟨b2, off2, none⟩ rfl)
        obtain ⟨t, ht⟩ : ∃ t, L[m] = t := ⟨_, rfl⟩
        have ht2 : L[m]? = some t := by rw [List.getElem?_eq_getElem hm', ht]
        have e3 : (L.map Int.ofNat)[m]'(by simpa using hm') = (t : Int) := by rw [List.getElem_map, ht]; rfl
        rw [e3] at q3
        have HVm := hidP (hV.out m t K wr ht2 HJ.out)
        unfold Hid passV at HVm
        have HVH := hidP HVm
        have hzq := cellLt q3
        have hzq0 := cellLt q0
        dsimp only at hzq hzq0
        clear hpc ht ht2 e3 HVm
        go_upto_if 36 with (refine Calls.mono HVH.out ?_; rintro e w3 ⟨bb, rfl, ho3, hJ3, hS3⟩)
        have HO3 := hidP (HO.out.thru HG.out ho3)
        cases bb
        · have HS3 := hidP (hS3 rfl)
          clear hJ3 hS3 ho3
          go_wp2_with fail
          go_ret
          exact ⟨false, rfl, (Only.of_below HBV.out).trans HO3.out, (fun h => by cases h), fun _ => HS3.out⟩
        · obtain ⟨K', hJ4, hG4⟩ := hJ3 rfl
          have HJ4 := hidP hJ4
          have HG4 := hidP (HG.out.trans hG4 hos)
          clear hJ3 hS3 ho3 hJ4 hG4
          go_wp2_with fail
          go_roundw
          case rel => exact ⟨m + 1, K', by omega, by go_num, HJ4, HO3, HG4⟩
          case measure => simp [intOf]; omega
      · have hme : m = L.length := by omega
        have hmi : ¬ (m : Int) < L.length := by omega
        subst hme
        go_wp2_with fail
        go_ret
        exact ⟨true, rfl, (Only.of_below HBV.out).trans HO.out, fun _ => ⟨K, HJ.out, HG.out.mono HBV.out.size⟩, fun h => by cases h⟩

end Go.Proofs.YtmkdgnmmebldgaaGreat

namespace Go.Proofs.YtmkdgnmmebldgaaGreat
open Go.RowKit Go.Deep Go.Maps

/-! One way over a joint, from a walk's stand on. -/

theorem beyond3 {k t : Nat} (hk : k < 3) (ht : t ∈ beyondF 3 k) : max k t = 1 ∨ max k t = 2 := by
  have : k = 0 ∨ k = 1 ∨ k = 2 := by omega
  rcases this with rfl | rfl | rfl
  · have : t = 1 ∨ t = 2 := by simpa [beyondF] using ht
    omega
  · have : t = 0 := by simpa [beyondF] using ht
    omega
  · have : t = 0 := by simpa [beyondF] using ht
    omega

theorem WalkOk.over {ps : List MPiece} {js : List MJoint} {ss : List MPiece} (R : Right ps js ss) {i : Nat} {pre : List MStep} {s : MStep} {lies : List MLie} {crosses : List Int} {pos : Int} (h : WalkOk ps js ss i pre s lies crosses pos) (hr : s ∉ pre)
    {j k t : Nat} (hj : j < js.length) (hk : k < js[j].ends.length) (ht : t ∈ beyondF (kindE js j) k) {q : MPath} (hq : overP js (pathOf i (pre ++ [s]) lies crosses) j k t = some q) :
    ∃ lies' crosses', q = pathOf i (pre ++ [s] ++ [stepFromE (endE js j t)]) lies' crosses' ∧ WalkOk ps js ss i (pre ++ [s]) (stepFromE (endE js j t)) lies' crosses' (endAt ps (endE js j t)) := by
  have hkd := R.kind j hj
  have hke := kindE_at hj
  have htl : t < js[j].ends.length := beyond_lt hkd.2.2 hk (by rw [← hke]; exact ht)
  have hve : ValidE ps (endE js j t) := by
    rw [endE_at hj htl]
    exact R.ends j hj t htl
  have hcl := h.cl
  by_cases h4 : kindE js j = 4
  · rw [over_cross h4] at hq
    injection hq with hq
    exact ⟨lies, crosses ++ [(j : Int)], hq.symm, h.next R hr hve h.lv h.ld (by simp; exact hcl)⟩
  · by_cases h3 : kindE js j = 3
    · by_cases hz : lieF lies j = 0
      · rw [over_new h3 hz] at hq
        injection hq with hq
        have hna : ¬ lies.any (fun l => l.piece == (j : Int)) = true := fun ha => lieF_any h.lv ha hz
        have hk3 : js[j].kind = 3 := by rw [← hke]; exact h3
        have hmx := beyond3 (k := k) (t := t) (by have := hkd.2.2; omega) (by rw [← h3]; exact ht)
        exact ⟨_, crosses, hq.symm, h.next R hr hve (lies_push h.lv hj hk3 (by omega)) (lies_pushd h.ld hna) (by omega)⟩
      · by_cases hm : lieF lies j = (max k t : Nat)
        · rw [over_same h3 hm hz] at hq
          injection hq with hq
          exact ⟨lies, crosses, hq.symm, h.next R hr hve h.lv h.ld (by omega)⟩
        · rw [over_other h3 hm hz] at hq
          exact absurd hq (by simp)
    · have hq2 : overP js (pathOf i (pre ++ [s]) lies crosses) j k t = some (pathOf i (pre ++ [s] ++ [stepFromE (endE js j t)]) lies crosses) := by
        unfold overP
        dsimp only
        rw [if_neg h4, if_neg h3]
        rfl
      rw [hq2] at hq
      injection hq with hq
      exact ⟨lies, crosses, hq.symm, h.next R hr hve h.lv h.ld (by omega)⟩

/-- The lists of a path lie there, whatever becomes of the blocks of K. -/
def PAway (K : Nat → Prop) (w : World) (d : PAddr) (p : MPath) : Prop := ∀ u, Only K w u → PListsAt u d p
theorem PAway.at {K : Nat → Prop} {w : World} {d : PAddr} {p : MPath} (h : PAway K w d p) : PListsAt w d p := h w (Only.refl K w)
theorem PAway.below {K : Nat → Prop} {w w' : World} {d : PAddr} {p : MPath} (h : PAway K w d p) (hb : Below w.heap.size w w') : PAway K w' d p := fun u hu => h u ((Only.of_below hb).trans hu)
theorem PAway.thru {K K' : Nat → Prop} {w w' : World} {d : PAddr} {p : MPath} (h : PAway K w d p) (ho : Only K w w') (hg : Grow K K' w) : PAway K' w' d p := fun u hu => h u (ho.thru hg hu)

/-- A walker that shows its paths to the rounds of loop l. -/
def walkerV (KT : Nat) (d : PAddr) (p : MPath) (l : Nat) : Value := .agg #[.pointer (some ⟨KT, 0, none⟩), .int .i64 p.start, .int .i64 p.stop, .bool p.ended, .slice d.a0 p.steps.length d.c0, .slice d.a1 p.lies.length d.c1, .slice d.a2 p.crosses.length d.c2, .func (.yield l) #[] #[]]

/-- The rounds of a loop, as one who shows paths to them knows them. -/
structure Rounds (w0 : World) (l : Nat) (Inv : (Nat → Prop) → List MPath → World → Prop) (Stop : List MPath → World → Prop) : Prop where
  lt : ∀ K E W, Inv K E W → ∀ k, K k → k < W.heap.size
  base : ∀ K E W, Inv K E W → Below w0.heap.size w0 W
  keep : ∀ K E W W', Inv K E W → Below W.heap.size W W' → Inv K E W'
  keepS : ∀ E W W', Stop E W → Below W.heap.size W W' → Stop E W'
  yield : ∀ K E W d p, Inv K E W → PAway K W d p → YieldAt Fence.wide 0 Tryz.prog l #[pathV d p] W (Visited (fun K' u => Inv K' (E ++ [p]) u) (fun u => Stop (E ++ [p]) u) K W)

/-- Stopped on the way. -/
def StopIn (Stop : List MPath → World → Prop) (E : List MPath) (u : World) : Prop := ∃ E1 E2, E = E1 ++ E2 ∧ Stop E1 u
def ComeAt (KT l : Nat) (ps : List MPiece) (js : List MJoint) (ss : List MPiece) (Inv : (Nat → Prop) → List MPath → World → Prop) (Stop : List MPath → World → Prop) (n : Nat) : Prop :=
  ∀ i pre s lies crosses pos d K E w, WalkOk ps js ss i pre s lies crosses pos → 2 * ps.length + 2 ≤ n + pre.length → Inv K E w → PAway K w d (pathOf i (pre ++ [s]) lies crosses) →
    Calls Tryz.prog 86 #[walkerV KT d (pathOf i (pre ++ [s]) lies crosses) l, .int .i64 pos] w
      (Visited (fun K' u => Inv K' (E ++ evs ps js ss n (pathOf i (pre ++ [s]) lies crosses) pos) u) (StopIn Stop (E ++ evs ps js ss n (pathOf i (pre ++ [s]) lies crosses) pos)) K w)

set_option maxRecDepth 100000 in
set_option maxHeartbeats 8000000 in
theorem pass_any (w0 : World) (KT M : Nat) (pa ja sa : Option Addr) (pc jc sc : Nat) (ps : List MPiece) (js : List MJoint) (ss : List MPiece) (R : Hid (Right ps js ss)) (hT : Hid (TTrack w0 KT M pa ja sa pc jc sc ps js ss))
    (l : Nat) (Inv : (Nat → Prop) → List MPath → World → Prop) (Stop : List MPath → World → Prop) (RD : Hid (Rounds w0 l Inv Stop)) (n : Nat) (IH : Hid (ComeAt KT l ps js ss Inv Stop n))
    (i : Nat) (pre : List MStep) (s : MStep) (lies : List MLie) (crosses : List Int) (pos : Int) (d : PAddr) (K : Nat → Prop) (E : List MPath) (w : World) (hwk : Hid (WalkOk ps js ss i pre s lies crosses pos)) (hr : Hid (s ∉ pre)) (hn : Hid (2 * ps.length + 2 ≤ n + 1 + pre.length))
    (j k t : Nat) (hj : j < js.length) (hk : Hid (k < js[j].ends.length)) (ht : Hid (t ∈ beyondF (kindE js j) k)) (hI : Hid (Inv K E w)) (hP : Hid (PAway K w d (pathOf i (pre ++ [s]) lies crosses))) :
    Calls Tryz.prog 111 #[walkerV KT d (pathOf i (pre ++ [s]) lies crosses) l, passV j k t (kindE js j)] w
      (Visited (fun K' u => Inv K' (E ++ kidF ps js ss n (pathOf i (pre ++ [s]) lies crosses) j k t) u) (StopIn Stop (E ++ kidF ps js ss n (pathOf i (pre ++ [s]) lies crosses) j k t)) K w) := by
  have hkd := R.out.kind j hj
  have hke := kindE_at hj
  have htl : t < js[j].ends.length := beyond_lt hkd.2.2 hk.out (by rw [← hke]; exact ht.out)
  have h1 : 1 ≤ kindE js j := by rw [hke]; exact hkd.1
  have h4 : kindE js j ≤ 4 := by rw [hke]; exact hkd.2.1
  have hee := endE_at hj htl
  have HVE : Hid (ValidE ps (endE js j t)) := by
    unfold Hid
    rw [hee]
    exact R.out.ends j hj t htl
  obtain ⟨p, hp⟩ : ∃ p, pathOf i (pre ++ [s]) lies crosses = p := ⟨_, rfl⟩
  have hbw := RD.out.base _ _ _ hI.out
  have hlt := RD.out.lt _ _ _ hI.out
  have HB : Hid (∀ u : World, Below w.heap.size w u → TTrack u KT M pa ja sa pc jc sc ps js ss) := fun u hu => hT.out.below (hbw.trans (hu.mono hbw.size))
  have HEB : Hid (∀ u : World, Below w.heap.size w u → ∀ fr kd : Value, Calls Tryz.prog 125 #[.pointer (some ⟨KT, 0, none⟩), .agg #[.int .i64 j, fr, .int .i64 t, kd]] u fun e w' => e = .returned (endV (endE js j t)) ∧ Below u.heap.size u w') := fun u hu fr kd => by
    have h := endBehind_any KT pa ja sa pc jc sc ps js ss j t fr kd u (HB.out u hu).net hj htl
    rw [← hee] at h
    exact h
  have hcl := hwk.out.cl
  have hfew := hwk.out.few
  have hlf := lies_few hwk.out.lv hwk.out.ld
  have hnp := R.out.np
  have hnj := R.out.nj
  have HOV : Hid (∀ u : World, PListsAt u d p → Calls Tryz.prog 126 #[pathV d p, passV j k t (kindE js j), endV (endE js j t)] u fun e w' => ∃ d', e = .returned (.tuple #[pathV d' (overI p j k t (kindE js j) (endE js j t)).1, .bool (overI p j k t (kindE js j) (endE js j t)).2]) ∧ PSound u w' d d' p (overI p j k t (kindE js j) (endE js j t)).1 ∧ Below u.heap.size u w') := fun u hu =>
    path_over_any d p j k t (kindE js j) (endE js j t) u hu (by rw [← hp]; simp [pathOf]; omega) (by rw [← hp]; simp [pathOf]; omega) (by rw [← hp]; simp [pathOf]; omega) h1 h4
  have HAT : Hid (∀ u : World, Below w.heap.size w u → Calls Tryz.prog 87 #[.pointer (some ⟨KT, 0, none⟩), endV (endE js j t)] u fun e w' => e = .returned (.int .i64 (endAt ps (endE js j t))) ∧ Below u.heap.size u w') := fun u hu => by
    obtain ⟨x, hx, e1, e2⟩ := HVE.out
    obtain ⟨en, hen⟩ : ∃ en, endE js j t = en := ⟨_, rfl⟩
    rw [hen] at e1 ⊢
    obtain ⟨ep, es⟩ := en
    simp only at e1
    subst e1
    exact at_any KT pa ja sa pc jc sc ps js ss x es u (HB.out u hu).net hx
  have HKF : Hid (∀ q, overP js p j k t = some q → kidF ps js ss n p j k t = evs ps js ss n q (endAt ps (endE js j t))) := fun q hq => by unfold kidF; rw [hq]
  have HKN : Hid (overP js p j k t = none → kidF ps js ss n p j k t = []) := fun hq => by unfold kidF; rw [hq]
  have HNX : Hid (∀ q, overP js p j k t = some q → ∃ lies' crosses', q = pathOf i (pre ++ [s] ++ [stepFromE (endE js j t)]) lies' crosses' ∧ WalkOk ps js ss i (pre ++ [s]) (stepFromE (endE js j t)) lies' crosses' (endAt ps (endE js j t))) := fun q hq => hwk.out.over R.out hr.out hj hk.out ht.out (by rw [hp]; exact hq)
  have HOS : Hid (∀ q, overP js p j k t = some q → overI p j k t (kindE js j) (endE js j t) = (q, true)) := fun q hq => overI_some hq
  have HON : Hid (overP js p j k t = none → (overI p j k t (kindE js j) (endE js j t)).2 = false) := fun hq => overI_none hq
  rw [hp] at hP ⊢
  have HLT := hidP hlt
  generalize kidF ps js ss n p j k t = kids at HKF HKN ⊢
  generalize overI p j k t (kindE js j) (endE js j t) = oi at HOV HOS HON
  generalize overP js p j k t = op at HKF HKN HNX HOS HON
  generalize kindE js j = kd at HOV h1 h4 ht hke ⊢
  generalize endE js j t = en at HEB HVE HOV HAT HKF HNX hee
  obtain ⟨oq, ob⟩ := oi
  clear hkd hke htl hee hbw hlt hcl hfew hlf hnp hnj hp h1 h4 hk hj ht
  unfold walkerV passV
  unfold passV at HOV
  unfold pathV endV at HOV
  unfold endV at HEB HAT
  go_enter Tryz.func111, Tryz.ntmps111
  go_upto_region 1 with fail
  generalize hWF : (fun i : Nat => (#[Value.pointer (some ⟨KT, 0, none⟩), .int .i64 p.start, .int .i64 p.stop, .bool p.ended, .slice d.a0 p.steps.length d.c0, .slice d.a1 p.lies.length d.c1, .slice d.a2 p.crosses.length d.c2, .func (.yield l) #[] #[]] : Array Value).getD i (.bool false)) = wf
  generalize hW : World.alloc (World.alloc w _) _ = W
  have HRP : Hid (W.rowIs w.heap.size 163 8 wf) := by
    unfold Hid
    rw [← hW, ← hWF]
    exact (row_of_alloc2 w _ _).alloc _
  have q0 : W.cell? ⟨w.heap.size + 1, 0, none⟩ = some (.int .i64 (j : Int)) := by rw [← hW]; simp [go_sem]
  have q1 : W.cell? ⟨w.heap.size + 1, 1, none⟩ = some (.int .i64 (k : Int)) := by rw [← hW]; simp [go_sem]
  have q2 : W.cell? ⟨w.heap.size + 1, 2, none⟩ = some (.int .i64 (t : Int)) := by rw [← hW]; simp [go_sem]
  have q3 : W.cell? ⟨w.heap.size + 1, 3, none⟩ = some (.iface (kindT kd) (.agg #[])) := by rw [← hW]; simp [go_sem]
  have HBW : Hid (Below w.heap.size w W) := by rw [← hW]; exact (by repeat (first | exact Below.refl _ _ | assumption | refine Below.drew ?_ | refine bdrewN ?_ _ | refine Below.setCell ?_ (by first | omega | (simp; done) | (simp; omega)) _ | refine Below.alloc ?_ (by first | omega | (simp; done) | (simp; omega)) _))
  have hzW : w.heap.size + 1 < W.heap.size := by rw [← hW]; simp
  clear hW
  have c0 : W.cell? ⟨w.heap.size, 0, none⟩ = some (.pointer (some ⟨KT, 0, none⟩)) := (HRP.out.cell (i := 0) (by omega)).trans (by rw [← hWF]; rfl)
  have c1 : W.cell? ⟨w.heap.size, 1, none⟩ = some (.int .i64 p.start) := (HRP.out.cell (i := 1) (by omega)).trans (by rw [← hWF]; rfl)
  have c2 : W.cell? ⟨w.heap.size, 2, none⟩ = some (.int .i64 p.stop) := (HRP.out.cell (i := 2) (by omega)).trans (by rw [← hWF]; rfl)
  have c3 : W.cell? ⟨w.heap.size, 3, none⟩ = some (.bool p.ended) := (HRP.out.cell (i := 3) (by omega)).trans (by rw [← hWF]; rfl)
  have c4 : W.cell? ⟨w.heap.size, 4, none⟩ = some (.slice d.a0 p.steps.length d.c0) := (HRP.out.cell (i := 4) (by omega)).trans (by rw [← hWF]; rfl)
  have c5 : W.cell? ⟨w.heap.size, 5, none⟩ = some (.slice d.a1 p.lies.length d.c1) := (HRP.out.cell (i := 5) (by omega)).trans (by rw [← hWF]; rfl)
  have c6 : W.cell? ⟨w.heap.size, 6, none⟩ = some (.slice d.a2 p.crosses.length d.c2) := (HRP.out.cell (i := 6) (by omega)).trans (by rw [← hWF]; rfl)
  have c7 : W.cell? ⟨w.heap.size, 7, none⟩ = some (.func (.yield l) #[] #[]) := (HRP.out.cell (i := 7) (by omega)).trans (by rw [← hWF]; rfl)
  go_upto_region 2 with (go_at_call 125; refine (HEB.out _ HBW.out _ _).mono ?_; rintro e w2 ⟨rfl, hb2⟩)
  generalize hV : World.alloc w2 _ = V
  have hbV : Below W.heap.size W V := by rw [← hV]; exact hb2.trans (((Below.refl _ _).alloc (Nat.le_refl _) _).mono hb2.size)
  have e0 : V.cell? ⟨w2.heap.size, 0, none⟩ = some (.int .i64 en.piece) := by rw [← hV]; simp [go_sem]
  have e1 : V.cell? ⟨w2.heap.size, 1, none⟩ = some (.int .i64 en.side) := by rw [← hV]; simp [go_sem]
  have hz2 := hb2.size
  have hzV : w2.heap.size < V.heap.size := by rw [← hV]; simp
  clear hV hb2
  replace q0 := cell_later hbV q0
  replace q1 := cell_later hbV q1
  replace q2 := cell_later hbV q2
  replace q3 := cell_later hbV q3
  have HRV := hidP (HRP.out.of_block (hbV.block _ HRP.out.lt))
  have HBV := hidP (HBW.out.trans (hbV.mono HBW.out.size))
  replace c0 := cell_later hbV c0
  replace c1 := cell_later hbV c1
  replace c2 := cell_later hbV c2
  replace c3 := cell_later hbV c3
  replace c4 := cell_later hbV c4
  replace c5 := cell_later hbV c5
  replace c6 := cell_later hbV c6
  replace c7 := cell_later hbV c7
  clear hbV HRP HBW
  have HPV := hidP ((hP.out.below HBV.out).at)
  go_upto_region 3 with (go_at_call 126; refine (HOV.out _ HPV.out).mono ?_; rintro e w3 ⟨d', rfl, hps, hb3⟩)
  generalize hU : World.alloc w3 _ = U
  have hbU : Below V.heap.size V U := by rw [← hU]; exact hb3.trans (((Below.refl _ _).alloc (Nat.le_refl _) _).mono hb3.size)
  have hb3U : Below w3.heap.size w3 U := by rw [← hU]; exact (Below.refl _ _).alloc (Nat.le_refl _) _
  have m0 : U.cell? ⟨w3.heap.size, 0, none⟩ = some (.int .i64 oq.start) := by rw [← hU]; simp [go_sem]
  have m1 : U.cell? ⟨w3.heap.size, 1, none⟩ = some (.int .i64 oq.stop) := by rw [← hU]; simp [go_sem]
  have m2 : U.cell? ⟨w3.heap.size, 2, none⟩ = some (.bool oq.ended) := by rw [← hU]; simp [go_sem]
  have m3 : U.cell? ⟨w3.heap.size, 3, none⟩ = some (.slice d'.a0 oq.steps.length d'.c0) := by rw [← hU]; simp [go_sem]
  have m4 : U.cell? ⟨w3.heap.size, 4, none⟩ = some (.slice d'.a1 oq.lies.length d'.c1) := by rw [← hU]; simp [go_sem]
  have m5 : U.cell? ⟨w3.heap.size, 5, none⟩ = some (.slice d'.a2 oq.crosses.length d'.c2) := by rw [← hU]; simp [go_sem]
  have hz3 := hb3.size
  have hzU : w3.heap.size < U.heap.size := by rw [← hU]; simp
  have HB3 := hidP hb3
  have HB3U := hidP hb3U
  have HPS := hidP hps
  have HRU := hidP (HRV.out.of_block (hbU.block _ HRV.out.lt))
  have HBU := hidP (HBV.out.trans (hbU.mono HBV.out.size))
  replace e0 := cell_later hbU e0
  replace e1 := cell_later hbU e1
  clear hU hbU hb3 hb3U hps q0 q1 q2 q3 c0 c1 c2 c3 c4 c5 c6 c7 HPV HOV HRV
  cases op with
  | none =>
    have hob : ob = false := HON.out rfl
    subst hob
    have HI2 := hidP (RD.out.keep _ _ _ _ hI.out HBU.out)
    have HKD := hidP (HKN.out rfl)
    go_wp2_with fail
    go_ret
    exact ⟨true, rfl, Only.of_below HBU.out, fun _ => ⟨K, by rw [HKD.out, List.append_nil]; exact HI2.out, Grow.refl _ _⟩, fun h => by cases h⟩
  | some q =>
    have hoq := HOS.out q rfl
    injection hoq with hq1 hq2
    subst hq1 hq2
    have hz8 := HRU.out.lt
    have HR7 := hidP ((((((HRU.out.set 1 (.int .i64 oq.start)).set 2 (.int .i64 oq.stop)).set 3 (.bool oq.ended)).set 4 (.slice d'.a0 oq.steps.length d'.c0)).set 5 (.slice d'.a1 oq.lies.length d'.c1)).set 6 (.slice d'.a2 oq.crosses.length d'.c2))
    have f1 := HRU.out.frozen 1
    have f2 := HRU.out.frozen 2
    have f3 := HRU.out.frozen 3
    have f4 := HRU.out.frozen 4
    have f5 := HRU.out.frozen 5
    have f6 := HRU.out.frozen 6
    have c1 := HRU.out.cell (i := 1) (by omega)
    have c2 := HRU.out.cell (i := 2) (by omega)
    have c3 := HRU.out.cell (i := 3) (by omega)
    have c4 := HRU.out.cell (i := 4) (by omega)
    have c5 := HRU.out.cell (i := 5) (by omega)
    have c6 := HRU.out.cell (i := 6) (by omega)
    have HKD := hidP (HKF.out oq rfl)
    go_upto_region 6 with fail
    generalize hZ : World.setCell (World.setCell (World.setCell (World.setCell (World.setCell (World.setCell U _ _) _ _) _ _) _ _) _ _) _ _ = Z
    have HRZ := hidP HR7.out
    rw [hZ] at HRZ
    have hOU : Only (fun k => k = w.heap.size) U Z := by
      rw [← hZ]
      exact ((((((Only.refl (fun k => k = w.heap.size) U).setCell (p := ⟨w.heap.size, 1, none⟩) (Or.inl rfl) _).setCell (p := ⟨w.heap.size, 2, none⟩) (Or.inl rfl) _).setCell (p := ⟨w.heap.size, 3, none⟩) (Or.inl rfl) _).setCell (p := ⟨w.heap.size, 4, none⟩) (Or.inl rfl) _).setCell (p := ⟨w.heap.size, 5, none⟩) (Or.inl rfl) _).setCell (p := ⟨w.heap.size, 6, none⟩) (Or.inl rfl) _
    clear hZ HR7 f1 f2 f3 f4 f5 f6 c1 c2 c3 c4 c5 c6 m0 m1 m2 m3 m4 m5
    replace e0 := hOU.cell e0 (by show ¬ w2.heap.size = w.heap.size; omega)
    replace e1 := hOU.cell e1 (by show ¬ w2.heap.size = w.heap.size; omega)
    have hbZ : Below w.heap.size w Z := HBU.out.trans (hOU.below (by have h1 := HBU.out.size; omega) (fun k hk e => by omega))
    have HBZ := hidP hbZ
    have HO3 : Hid (Only (fun x => K x ∨ x = w.heap.size) w3 Z) := (Only.of_below HB3U.out).trans (hOU.mono (fun k hk => Or.inr hk))
    have HPQ : Hid (∀ u, Only K Z u → PListsAt u d' oq) := fun u hu =>
      HPS.out (fun x => K x ∨ x = w.heap.size) u (fun x hx => by rcases hx with hx | hx; exact Nat.lt_of_lt_of_le (HLT.out x hx) HBV.out.size; omega) (HO3.out.trans (hu.mono (fun k hk => Or.inl hk))) (hP.out u ((Only.of_below HBZ.out).trans hu))
    have x0 : Z.cell? ⟨w.heap.size, 0, none⟩ = some (.pointer (some ⟨KT, 0, none⟩)) := (HRZ.out.cell (i := 0) (by omega)).trans (by rw [← hWF]; rfl)
    have x1 : Z.cell? ⟨w.heap.size, 1, none⟩ = some (.int .i64 oq.start) := (HRZ.out.cell (i := 1) (by omega)).trans (by simp)
    have x2 : Z.cell? ⟨w.heap.size, 2, none⟩ = some (.int .i64 oq.stop) := (HRZ.out.cell (i := 2) (by omega)).trans (by simp)
    have x3 : Z.cell? ⟨w.heap.size, 3, none⟩ = some (.bool oq.ended) := (HRZ.out.cell (i := 3) (by omega)).trans (by simp)
    have x4 : Z.cell? ⟨w.heap.size, 4, none⟩ = some (.slice d'.a0 oq.steps.length d'.c0) := (HRZ.out.cell (i := 4) (by omega)).trans (by simp)
    have x5 : Z.cell? ⟨w.heap.size, 5, none⟩ = some (.slice d'.a1 oq.lies.length d'.c1) := (HRZ.out.cell (i := 5) (by omega)).trans (by simp)
    have x6 : Z.cell? ⟨w.heap.size, 6, none⟩ = some (.slice d'.a2 oq.crosses.length d'.c2) := (HRZ.out.cell (i := 6) (by omega)).trans (by simp)
    have x7 : Z.cell? ⟨w.heap.size, 7, none⟩ = some (.func (.yield l) #[] #[]) := (HRZ.out.cell (i := 7) (by omega)).trans (by rw [← hWF]; rfl)
    obtain ⟨lies', crosses', hoq, hwk'⟩ := HNX.out oq rfl
    have HCM : Hid (∀ u : World, Below Z.heap.size Z u → Calls Tryz.prog 86 #[walkerV KT d' oq l, .int .i64 (endAt ps en)] u (Visited (fun K' u => Inv K' (E ++ evs ps js ss n oq (endAt ps en)) u) (StopIn Stop (E ++ evs ps js ss n oq (endAt ps en))) K u)) := fun u hu => by
      have hb : Below w.heap.size w u := HBZ.out.trans (hu.mono HBZ.out.size)
      have hpw : PAway K u d' oq := fun v hv => HPQ.out v ((Only.of_below hu).trans hv)
      rw [hoq] at hpw ⊢
      exact IH.out i (pre ++ [s]) (stepFromE en) lies' crosses' (endAt ps en) d' K E u hwk' (by have h1 := hn.out; simp; omega) (RD.out.keep _ _ _ _ hI.out hb) hpw
    unfold walkerV at HCM
    obtain ⟨S, hS⟩ : ∃ S : World → Prop, ∀ u, S u ↔ Below Z.heap.size Z u := ⟨_, fun _ => Iff.rfl⟩
    have HS0 := hidP hS
    have r0 : ∀ u : Held S, World.cell? u.val ⟨w.heap.size, 0, none⟩ = some (.pointer (some ⟨KT, 0, none⟩)) := fun u => cell_later ((hS u.val).1 u.2) x0
    have r1 : ∀ u : Held S, World.cell? u.val ⟨w.heap.size, 1, none⟩ = some (.int .i64 oq.start) := fun u => cell_later ((hS u.val).1 u.2) x1
    have r2 : ∀ u : Held S, World.cell? u.val ⟨w.heap.size, 2, none⟩ = some (.int .i64 oq.stop) := fun u => cell_later ((hS u.val).1 u.2) x2
    have r3 : ∀ u : Held S, World.cell? u.val ⟨w.heap.size, 3, none⟩ = some (.bool oq.ended) := fun u => cell_later ((hS u.val).1 u.2) x3
    have r4 : ∀ u : Held S, World.cell? u.val ⟨w.heap.size, 4, none⟩ = some (.slice d'.a0 oq.steps.length d'.c0) := fun u => cell_later ((hS u.val).1 u.2) x4
    have r5 : ∀ u : Held S, World.cell? u.val ⟨w.heap.size, 5, none⟩ = some (.slice d'.a1 oq.lies.length d'.c1) := fun u => cell_later ((hS u.val).1 u.2) x5
    have r6 : ∀ u : Held S, World.cell? u.val ⟨w.heap.size, 6, none⟩ = some (.slice d'.a2 oq.crosses.length d'.c2) := fun u => cell_later ((hS u.val).1 u.2) x6
    have r7 : ∀ u : Held S, World.cell? u.val ⟨w.heap.size, 7, none⟩ = some (.func (.yield l) #[] #[]) := fun u => cell_later ((hS u.val).1 u.2) x7
    have r8 : ∀ u : Held S, World.cell? u.val ⟨w2.heap.size, 0, none⟩ = some (.int .i64 en.piece) := fun u => cell_later ((hS u.val).1 u.2) e0
    have r9 : ∀ u : Held S, World.cell? u.val ⟨w2.heap.size, 1, none⟩ = some (.int .i64 en.side) := fun u => cell_later ((hS u.val).1 u.2) e1
    have hS1 : S Z.drew := (hS _).2 ((Below.refl _ _).drew)
    have hne := held_ne hS1
    clear hS hOU hbZ hoq hwk' x0 x1 x2 x3 x4 x5 x6 x7 e0 e1
    refine wp_region_tree (fun w' => ∃ u : Held S, w' = u.val) 5 (by kernel_rfl) (by kernel_rfl) (held_some hS1) ?_
    (refine wpT_see 0 (by rfl) (by kernel_rfl) (by kernel_rfl) ?_; intro K hK; go_big_quiet_op; go_big_quiet_on); (refine wpT_see 1 (by rfl) (by kernel_rfl) (by kernel_rfl) ?_; intro K hK; go_big_quiet_op; go_big_quiet_on); (refine wpT_see 2 (by rfl) (by kernel_rfl) (by kernel_rfl) ?_; intro K hK; go_big_quiet_op; go_big_quiet_on); (refine wpT_see 3 (by rfl) (by kernel_rfl) (by kernel_rfl) ?_; intro K hK; go_big_quiet_op; go_big_quiet_on)
    refine wpT_loud 4 (by rfl) (by kernel_rfl) (by kernel_rfl) ?_
    intro K' hK'
    go_wp2_with (go_at_call 87; refine (HAT.out _ (HBZ.out.trans ((Below.refl _ _).drew.mono HBZ.out.size))).mono ?_; rintro e z2 ⟨rfl, hb2'⟩)
    have hb2 : Below Z.heap.size Z z2 := (Below.refl _ _).drew.trans hb2'
    refine hK' _ _ (held_some ((HS0.out _).2 hb2)) ?_
    clear hK' K' hb2' r0 r1 r2 r3 r4 r5 r6 r7 r8 r9 hS1 hne
    have HB2 := hidP hb2
    clear hb2
    refine wpT_done (by kernel_rfl) ?_
    go_wp2_with (go_at_call 86; refine (HCM.out _ HB2.out).mono ?_; rintro e z3 ⟨bb, rfl, ho3, hi3, hs3⟩)
    go_ret
    have hbz : Below w.heap.size w z2 := HBZ.out.trans (HB2.out.mono HBZ.out.size)
    rw [HKD.out]
    exact ⟨bb, rfl, (Only.of_below hbz).trans ho3, fun h => by obtain ⟨K', h1, h2⟩ := hi3 h; exact ⟨K', h1, h2.mono hbz.size⟩, hs3⟩

end Go.Proofs.YtmkdgnmmebldgaaGreat

namespace Go.Proofs.YtmkdgnmmebldgaaGreat
open Go.RowKit Go.Deep Go.Maps

theorem stopP_form (js : List MJoint) (ss : List MPiece) (p : MPath) (pos : Int) : ∃ st en, stopP js ss p pos = ⟨p.start, st, en, p.steps, p.lies, p.crosses⟩ := by
  unfold stopP
  split
  · exact ⟨_, _, rfl⟩
  · split
    · exact ⟨_, _, rfl⟩
    · exact ⟨_, _, rfl⟩
theorem stopP_on {js : List MJoint} {ss : List MPiece} {i : Nat} {L : List MStep} {lies : List MLie} {crosses : List Int} {pos : Int} {st : Int} {en : Bool} (h : stopP js ss (pathOf i L lies crosses) pos = ⟨(i : Int), st, en, L, lies, crosses⟩) (he : en = false) : st = 0 := by
  unfold stopP at h
  split at h
  · injection h with _ _ h3
    rw [he] at h3
    cases h3
  · split at h
    · injection h with _ _ h3
      rw [he] at h3
      cases h3
    · injection h with _ h2
      exact h2.symm
theorem PListsAt.other {w : World} {d : PAddr} {p : MPath} (h : PListsAt w d p) (st : Int) (en : Bool) : PListsAt w d ⟨p.start, st, en, p.steps, p.lies, p.crosses⟩ :=
  ⟨h.steps, h.lies, h.crosses, h.nil0, h.nil1, h.nil2, h.cap⟩
theorem PAway.other {K : Nat → Prop} {w : World} {d : PAddr} {p : MPath} (h : PAway K w d p) (st : Int) (en : Bool) : PAway K w d ⟨p.start, st, en, p.steps, p.lies, p.crosses⟩ := fun u hu => (h u hu).other st en

theorem kidsF_app (ps : List MPiece) (js : List MJoint) (ss : List MPiece) (n : Nat) (p : MPath) (j k : Nat) (A B : List Nat) : kidsF ps js ss n p j k (A ++ B) = kidsF ps js ss n p j k A ++ kidsF ps js ss n p j k B := by
  simp [kidsF]
/-- What is held between two ways over a joint. -/
def AmidW (Inv : (Nat → Prop) → List MPath → World → Prop) (E : List MPath) (ps : List MPiece) (js : List MJoint) (ss : List MPiece) (n : Nat) (p : MPath) (j k : Nat) (d : PAddr) (L : List Nat) (m : Nat) (K : Nat → Prop) (u : World) : Prop :=
  Inv K (E ++ kidsF ps js ss n p j k (L.take m)) u ∧ PAway K u d p
theorem Visited.amid {Inv : (Nat → Prop) → List MPath → World → Prop} {Stop : List MPath → World → Prop} {E : List MPath} {ps : List MPiece} {js : List MJoint} {ss : List MPiece} {n : Nat} {p : MPath} {j k : Nat} {d : PAddr} {L : List Nat} {m t : Nat} {K : Nat → Prop} {u : World} {e : Ending} {u' : World}
    (ht : L[m]? = some t) (hp : PAway K u d p) (h : Visited (fun K' u => Inv K' (E ++ kidsF ps js ss n p j k (L.take m) ++ kidF ps js ss n p j k t) u) (StopIn Stop (E ++ kidsF ps js ss n p j k (L.take m) ++ kidF ps js ss n p j k t)) K u e u') :
    Visited (AmidW Inv E ps js ss n p j k d L (m + 1)) (StopIn Stop (E ++ kidsF ps js ss n p j k L)) K u e u' := by
  obtain ⟨b, e1, ho, h1, h2⟩ := h
  have ht2 : L.take (m + 1) = L.take m ++ [t] := by rw [List.take_add_one, ht, Option.toList]
  refine ⟨b, e1, ho, fun hb => ?_, fun hb => ?_⟩
  · obtain ⟨K', h3, h4⟩ := h1 hb
    refine ⟨K', ⟨?_, hp.thru ho h4⟩, h4⟩
    rw [ht2, kidsF_snoc, ← List.append_assoc]
    exact h3
  · obtain ⟨E1, E2, h3, h4⟩ := h2 hb
    refine ⟨E1, E2 ++ kidsF ps js ss n p j k (L.drop (m + 1)), ?_, h4⟩
    rw [← List.append_assoc, ← h3]
    have : kidsF ps js ss n p j k L = kidsF ps js ss n p j k (L.take (m + 1)) ++ kidsF ps js ss n p j k (L.drop (m + 1)) := by rw [← kidsF_app, List.take_append_drop]
    rw [this, ht2, kidsF_snoc]
    simp [List.append_assoc]

set_option maxRecDepth 100000 in
set_option maxHeartbeats 8000000 in
theorem come_step (w0 : World) (KT M : Nat) (pa ja sa : Option Addr) (pc jc sc : Nat) (ps : List MPiece) (js : List MJoint) (ss : List MPiece) (R : Hid (Right ps js ss)) (hT : Hid (TTrack w0 KT M pa ja sa pc jc sc ps js ss))
    (l : Nat) (Inv : (Nat → Prop) → List MPath → World → Prop) (Stop : List MPath → World → Prop) (RD : Hid (Rounds w0 l Inv Stop)) (n : Nat) (IH : Hid (ComeAt KT l ps js ss Inv Stop n)) : ComeAt KT l ps js ss Inv Stop (n + 1) := by
  intro i pre s lies crosses pos d K E w hwk hn hI hP
  have HWK := hidP hwk
  have HI := hidP hI
  have HP := hidP hP
  obtain ⟨p, hp⟩ : ∃ p, pathOf i (pre ++ [s]) lies crosses = p := ⟨_, rfl⟩
  obtain ⟨st, en, hq⟩ := stopP_form js ss p pos
  have hls : lastS p = s := by rw [← hp]; exact lastS_snoc i pre s lies crosses
  have h0 : 0 < p.steps.length := by rw [← hp]; simp [pathOf]
  have hbw := RD.out.base _ _ _ hI
  have HB : Hid (∀ u : World, Below w.heap.size w u → TTrack u KT M pa ja sa pc jc sc ps js ss) := fun u hu => hT.out.below (hbw.trans (hu.mono hbw.size))
  have HEO : Hid (∀ u : World, Below w.heap.size w u → Calls Tryz.prog 107 #[.pointer (some ⟨KT, 0, none⟩), pathV d p, .int .i64 pos] u fun e w' => e = .returned (.tuple #[.int .i64 st, .bool en]) ∧ Below u.heap.size u w') := fun u hu => by
    obtain ⟨x, hx, e1, e2⟩ := hwk.sv
    have h1 := hwk.p1
    have h2 := (R.out.plen x hx).2
    rw [e1, lenI_at hx] at h1
    have h := endOf_any KT M pa ja sa pc jc sc ps js ss R d p pos u (HB.out u hu) ((hp ▸ hP).below hu).at h0 (by rw [hls]; exact hwk.sv) hwk.p0 (by omega)
    rw [hq] at h
    exact h
  rw [hp] at hP HP ⊢
  have HIR : Hid (∀ u : World, PListsAt u d p → Calls Tryz.prog 108 #[.agg #[.int .i64 p.start, .int .i64 st, .bool en, .slice d.a0 p.steps.length d.c0, .slice d.a1 p.lies.length d.c1, .slice d.a2 p.crosses.length d.c2]] u fun e w' => e = .returned (.bool (roundB p)) ∧ Below u.heap.size u w') := fun u hu =>
    isRound_any d ⟨p.start, st, en, p.steps, p.lies, p.crosses⟩ u (hu.other st en) h0
  have HLA : Hid (∀ u : World, PListsAt u d p → Calls Tryz.prog 110 #[.agg #[.int .i64 p.start, .int .i64 st, .bool en, .slice d.a0 p.steps.length d.c0, .slice d.a1 p.lies.length d.c1, .slice d.a2 p.crosses.length d.c2]] u fun e w' => e = .returned (.agg #[.int .i64 s.piece, .int .i64 s.side]) ∧ Below u.heap.size u w') := fun u hu => by
    have h := last_any d ⟨p.start, st, en, p.steps, p.lies, p.crosses⟩ u (hu.other st en) h0
    have e : lastS ⟨p.start, st, en, p.steps, p.lies, p.crosses⟩ = s := hls
    rw [e] at h
    exact h
  have HEV : Hid (en = true ∨ roundB p = true → evs ps js ss (n + 1) p pos = [⟨p.start, st, en, p.steps, p.lies, p.crosses⟩]) := fun h => by
    rw [evs, hq, if_pos h]
  have HEX : Hid (∃ rest, evs ps js ss (n + 1) p pos = ⟨p.start, st, en, p.steps, p.lies, p.crosses⟩ :: rest) := by
    unfold Hid
    rw [evs, hq]
    exact ⟨_, rfl⟩
  have HLT := hidP (RD.out.lt _ _ _ hI)
  have hpz : p.stop = 0 ∧ p.ended = false := by rw [← hp]; exact ⟨rfl, rfl⟩
  have HON : Hid (en = false → st = 0) := fun he => by
    rw [← hp] at hq
    exact stopP_on hq he
  obtain ⟨j, k, hspF, hsp⟩ := R.out.spot (aheadE_valid hwk.sv)
  obtain ⟨hj, hk⟩ : ∃ hj : j < js.length, k < js[j].ends.length := by
    obtain ⟨_, hj, hk, _⟩ := spotF_some hspF
    simp only [Nat.sub_zero] at hj hk
    exact ⟨hj, hk⟩
  have HSP := hidP hsp
  have HKD : Hid (en = false → roundB p = false → evs ps js ss (n + 1) p pos = p :: kidsF ps js ss n p j k (beyondF (kindE js j) k)) := fun he hr => by
    have hst := HON.out he
    have hpp : (⟨p.start, st, en, p.steps, p.lies, p.crosses⟩ : MPath) = p := by rw [hst, he, ← hpz.1, ← hpz.2]
    rw [evs, hq, hpp, hpz.2, hr, if_neg (by simp), hls, hsp]
    rfl
  have HNR : Hid (roundB p = false → s ∉ pre) := fun hr hm => by
    rw [← hp, (roundB_snoc i pre s lies crosses).2 hm] at hr
    cases hr
  have HPA : Hid (∀ E' K' u t, Inv K' E' u → PAway K' u d p → roundB p = false → t ∈ beyondF (kindE js j) k → Calls Tryz.prog 111 #[walkerV KT d p l, passV j k t (kindE js j)] u (Visited (fun K' u => Inv K' (E' ++ kidF ps js ss n p j k t) u) (StopIn Stop (E' ++ kidF ps js ss n p j k t)) K' u)) := fun E' K' u t hI' hP' hr ht => by
    have h := pass_any w0 KT M pa ja sa pc jc sc ps js ss R hT l Inv Stop RD n IH i pre s lies crosses pos d K' E' u HWK (HNR.out hr) (by have h1 := hn; unfold Hid; omega) j k t hj hk ht hI' (by rw [hp]; exact hP')
    rw [hp] at h
    exact h
  have HPS : Hid (∀ E' K' u, Inv K' E' u → PAway K' u d p → roundB p = false → Calls Tryz.prog 109 #[.pointer (some ⟨KT, 0, none⟩), endV (aheadE s), .func (.func 111) #[walkerV KT d p l] #[]] u (Visited (AmidW Inv E' ps js ss n p j k d (beyondF (kindE js j) k) (beyondF (kindE js j) k).length) (StopIn Stop (E' ++ kidsF ps js ss n p j k (beyondF (kindE js j) k))) K' u)) := fun E' K' u hI' hP' hr => by
    have hb' := RD.out.base _ _ _ hI'
    refine passages_any KT M pa ja sa pc jc sc ps js ss R (aheadE s) 111 (walkerV KT d p l) (AmidW Inv E' ps js ss n p j k d (beyondF (kindE js j) k)) (StopIn Stop (E' ++ kidsF ps js ss n p j k (beyondF (kindE js j) k))) K' u (hT.out.below hb') (aheadE_valid hwk.sv) (fun args u => by kernel_rfl) j k hsp ⟨by simpa [kidsF] using hI', hP'⟩ (fun m K2 u2 h => RD.out.lt _ _ _ h.1) (fun m K2 u2 u3 h hb => ⟨RD.out.keep _ _ _ _ h.1 hb, h.2.below hb⟩) ?_
    intro m t K2 u2 ht h2
    refine (HPA.out _ K2 u2 t h2.1 h2.2 hr (List.mem_of_getElem? ht)).mono ?_
    intro e u3 h3
    exact h3.amid ht h2.2
  have HPZ := hidP hpz
  clear hbw hI hP h0 hspF hsp hj hk hpz
  unfold walkerV at HPS
  unfold endV at HPS
  unfold walkerV
  unfold pathV at HEO
  go_enter Tryz.func86, Tryz.ntmps86
  go_upto_region 1 with fail
  generalize hWF : (fun i : Nat => (#[Value.pointer (some ⟨KT, 0, none⟩), .int .i64 p.start, .int .i64 p.stop, .bool p.ended, .slice d.a0 p.steps.length d.c0, .slice d.a1 p.lies.length d.c1, .slice d.a2 p.crosses.length d.c2, .func (.yield l) #[] #[]] : Array Value).getD i (.bool false)) = wf
  generalize hW : World.alloc w _ = W
  have HRP : Hid (W.rowIs w.heap.size 163 8 wf) := by
    unfold Hid
    rw [← hW, ← hWF]
    exact row_of_alloc2 w _ _
  have HBW : Hid (Below w.heap.size w W) := by rw [← hW]; exact (by repeat (first | exact Below.refl _ _ | assumption | refine Below.drew ?_ | refine bdrewN ?_ _ | refine Below.setCell ?_ (by first | omega | (simp; done) | (simp; omega)) _ | refine Below.alloc ?_ (by first | omega | (simp; done) | (simp; omega)) _))
  have hzW : w.heap.size < W.heap.size := by rw [← hW]; simp
  clear hW
  have c0 : W.cell? ⟨w.heap.size, 0, none⟩ = some (.pointer (some ⟨KT, 0, none⟩)) := (HRP.out.cell (i := 0) (by omega)).trans (by rw [← hWF]; rfl)
  have c1 : W.cell? ⟨w.heap.size, 1, none⟩ = some (.int .i64 p.start) := (HRP.out.cell (i := 1) (by omega)).trans (by rw [← hWF]; rfl)
  have c2 : W.cell? ⟨w.heap.size, 2, none⟩ = some (.int .i64 p.stop) := (HRP.out.cell (i := 2) (by omega)).trans (by rw [← hWF]; rfl)
  have c3 : W.cell? ⟨w.heap.size, 3, none⟩ = some (.bool p.ended) := (HRP.out.cell (i := 3) (by omega)).trans (by rw [← hWF]; rfl)
  have c4 : W.cell? ⟨w.heap.size, 4, none⟩ = some (.slice d.a0 p.steps.length d.c0) := (HRP.out.cell (i := 4) (by omega)).trans (by rw [← hWF]; rfl)
  have c5 : W.cell? ⟨w.heap.size, 5, none⟩ = some (.slice d.a1 p.lies.length d.c1) := (HRP.out.cell (i := 5) (by omega)).trans (by rw [← hWF]; rfl)
  have c6 : W.cell? ⟨w.heap.size, 6, none⟩ = some (.slice d.a2 p.crosses.length d.c2) := (HRP.out.cell (i := 6) (by omega)).trans (by rw [← hWF]; rfl)
  go_upto_region 2 with (go_at_call 107; refine (HEO.out _ HBW.out).mono ?_; rintro e w2 ⟨rfl, hb2⟩; have hR2 := HRP.out.of_block (hb2.block _ HRP.out.lt); have f2 := hR2.frozen 2; have f3 := hR2.frozen 3; have g2 := hR2.cell (i := 2) (by omega); have g3 := hR2.cell (i := 3) (by omega); have hz2 := hR2.lt; have HR2 := hidP ((hR2.set 2 (.int .i64 st)).set 3 (.bool en)); clear hR2)
  generalize hV : World.setCell (World.setCell w2 _ _) _ _ = V
  rw [hV] at HR2
  have hOV : Only (fun k => k = w.heap.size) w2 V := by
    rw [← hV]
    exact ((Only.refl (fun k => k = w.heap.size) w2).setCell (p := ⟨w.heap.size, 2, none⟩) (Or.inl rfl) _).setCell (p := ⟨w.heap.size, 3, none⟩) (Or.inl rfl) _
  clear hV f2 f3 g2 g3
  have hbw2 : Below w.heap.size w w2 := HBW.out.trans (hb2.mono HBW.out.size)
  have HBV : Hid (Below w.heap.size w V) := hbw2.trans (hOV.below hbw2.size (fun k hk e => by omega))
  have x0 : V.cell? ⟨w.heap.size, 0, none⟩ = some (.pointer (some ⟨KT, 0, none⟩)) := (HR2.out.cell (i := 0) (by omega)).trans (by rw [← hWF]; rfl)
  have x1 : V.cell? ⟨w.heap.size, 1, none⟩ = some (.int .i64 p.start) := (HR2.out.cell (i := 1) (by omega)).trans (by rw [← hWF]; rfl)
  have x2 : V.cell? ⟨w.heap.size, 2, none⟩ = some (.int .i64 st) := (HR2.out.cell (i := 2) (by omega)).trans (by simp)
  have x3 : V.cell? ⟨w.heap.size, 3, none⟩ = some (.bool en) := (HR2.out.cell (i := 3) (by omega)).trans (by simp)
  have x4 : V.cell? ⟨w.heap.size, 4, none⟩ = some (.slice d.a0 p.steps.length d.c0) := (HR2.out.cell (i := 4) (by omega)).trans (by rw [← hWF]; rfl)
  have x5 : V.cell? ⟨w.heap.size, 5, none⟩ = some (.slice d.a1 p.lies.length d.c1) := (HR2.out.cell (i := 5) (by omega)).trans (by rw [← hWF]; rfl)
  have x6 : V.cell? ⟨w.heap.size, 6, none⟩ = some (.slice d.a2 p.crosses.length d.c2) := (HR2.out.cell (i := 6) (by omega)).trans (by rw [← hWF]; rfl)
  have x7 : V.cell? ⟨w.heap.size, 7, none⟩ = some (.func (.yield l) #[] #[]) := (HR2.out.cell (i := 7) (by omega)).trans (by rw [← hWF]; rfl)
  have HIV := hidP (RD.out.keep _ _ _ _ HI.out HBV.out)
  have HPV := hidP (HP.out.below HBV.out)
  obtain ⟨fn, tm, asg, bdy, hy, hrnd⟩ := RD.out.yield K E V d ⟨p.start, st, en, p.steps, p.lies, p.crosses⟩ HIV.out (HPV.out.other st en)
  unfold pathV at hy
  dsimp only at hy
  have HRN := hidP hrnd
  have hzV : w.heap.size < V.heap.size := HR2.out.lt
  clear hrnd hOV hbw2 hb2 HBW HRP HR2 hWF hz2 c0 c1 c2 c3 c4 c5 c6 hzW
  refine (wpIn_wide (n := 0)).1 ?_
  gi_wp2_with fail
  refine ⟨rfl, RoundIn.mono HRN.out ?_⟩
  rintro e w3 ⟨bb, rfl, ho3, hi3, hs3⟩
  dsimp only
  gi_wp2_with fail
  have HO3 : Hid (Only K w w3) := (Only.of_below HBV.out).trans ho3
  have hnK : ¬ K w.heap.size := fun hk => Nat.lt_irrefl _ (HLT.out _ hk)
  replace x0 := ho3.cell x0 hnK
  replace x1 := ho3.cell x1 hnK
  replace x2 := ho3.cell x2 hnK
  replace x3 := ho3.cell x3 hnK
  replace x4 := ho3.cell x4 hnK
  replace x5 := ho3.cell x5 hnK
  replace x6 := ho3.cell x6 hnK
  replace x7 := ho3.cell x7 hnK
  cases bb
  · have HS3 := hidP (hs3 rfl)
    clear hi3 hs3 hnK ho3 hy
    go_wp2_with fail
    go_ret
    obtain ⟨rest, hre⟩ := HEX.out
    exact ⟨false, rfl, HO3.out, (fun h => by cases h), fun _ => ⟨_, rest, by rw [hre, List.append_assoc]; rfl, HS3.out⟩⟩
  · obtain ⟨K', hI4, hG4⟩ := hi3 rfl
    have HI4 := hidP hI4
    have HG4 := hidP (hG4.mono HBV.out.size)
    have HP4 := hidP (HPV.out.thru ho3 hG4)
    have hz3 := cellLt x0
    dsimp only at hz3
    clear hi3 hs3 hnK ho3 hy hI4 hG4
    cases en
    · by_cases hrd : roundB p = true
      · have HE := hidP (HEV.out (Or.inr hrd))
        have HIR2 := hidP (HIR.out w3 HP4.out.at)
        rw [hrd] at HIR2
        clear hrd
        go_wp2_with (go_at_call 108; refine HIR2.out.mono ?_; rintro e w4 ⟨rfl, hb4⟩)
        go_ret
        exact ⟨true, rfl, HO3.out.trans (Only.of_below hb4), fun _ => ⟨K', by rw [HE.out]; exact RD.out.keep _ _ _ _ HI4.out hb4, HG4.out⟩, fun h => by cases h⟩
      · have hrd : roundB p = false := by simpa using hrd
        have HRD := hidP hrd
        have HIR2 := hidP (HIR.out w3 HP4.out.at)
        rw [hrd] at HIR2
        clear hrd
        go_upto_region 6 with (go_at_call 108; refine HIR2.out.mono ?_; rintro e w4 ⟨rfl, hb4⟩)
        have hst : st = 0 := HON.out (by first | rfl | trivial)
        subst hst
        have HI5 := hidP (RD.out.keep _ _ _ _ HI4.out hb4)
        have HP5 := hidP (HP4.out.below hb4)
        have HO5 : Hid (Only K w w4) := HO3.out.trans (Only.of_below hb4)
        replace x0 := cell_later hb4 x0
        replace x1 := cell_later hb4 x1
        replace x2 := cell_later hb4 x2
        replace x3 := cell_later hb4 x3
        replace x4 := cell_later hb4 x4
        replace x5 := cell_later hb4 x5
        replace x6 := cell_later hb4 x6
        replace x7 := cell_later hb4 x7
        have hpq : (⟨p.start, 0, false, p.steps, p.lies, p.crosses⟩ : MPath) = p := by rw [← HPZ.out.1, ← HPZ.out.2]
        have HKE := hidP (HKD.out (by first | rfl | trivial) HRD.out)
        have HPX : Hid (∀ u : World, Below w4.heap.size w4 u → Calls Tryz.prog 109 #[.pointer (some ⟨KT, 0, none⟩), .agg #[.int .i64 (aheadE s).piece, .int .i64 (aheadE s).side], .func (.func 111) #[.agg #[.pointer (some ⟨KT, 0, none⟩), .int .i64 p.start, .int .i64 0, .bool false, .slice d.a0 p.steps.length d.c0, .slice d.a1 p.lies.length d.c1, .slice d.a2 p.crosses.length d.c2, .func (.yield l) #[] #[]]] #[]] u (Visited (fun K2 u2 => Inv K2 (E ++ evs ps js ss (n + 1) p pos) u2) (StopIn Stop (E ++ evs ps js ss (n + 1) p pos)) K' u)) := fun u hu => by
          have h := HPS.out _ K' u (RD.out.keep _ _ _ _ HI5.out hu) (HP5.out.below hu) HRD.out
          rw [HPZ.out.1, HPZ.out.2] at h
          refine h.mono ?_
          rintro e u3 ⟨b3, h1, h2, h3, h4⟩
          have he : E ++ [(⟨p.start, 0, false, p.steps, p.lies, p.crosses⟩ : MPath)] ++ kidsF ps js ss n p j k (beyondF (kindE js j) k) = E ++ evs ps js ss (n + 1) p pos := by
            rw [HKE.out, hpq]
            simp
          refine ⟨b3, h1, h2, fun hb => ?_, fun hb => ?_⟩
          · obtain ⟨K3, ⟨g1, _⟩, g2⟩ := h3 hb
            rw [List.take_length, he] at g1
            exact ⟨K3, g1, g2⟩
          · rw [← he]
            exact h4 hb
        have HLX : Hid (∀ u : World, Below w4.heap.size w4 u → Calls Tryz.prog 110 #[.agg #[.int .i64 p.start, .int .i64 0, .bool false, .slice d.a0 p.steps.length d.c0, .slice d.a1 p.lies.length d.c1, .slice d.a2 p.crosses.length d.c2]] u fun e w' => e = .returned (.agg #[.int .i64 s.piece, .int .i64 s.side]) ∧ Below u.heap.size u w') := fun u hu => HLA.out u (HP5.out.below hu).at
        have HAH : Hid (∀ u : World, Calls Tryz.prog 89 #[.agg #[.int .i64 s.piece, .int .i64 s.side]] u fun e w' => e = .returned (.agg #[.int .i64 (aheadE s).piece, .int .i64 (aheadE s).side]) ∧ Below u.heap.size u w') := fun u => ahead_any s.piece s.side u
        generalize aheadE s = ah at HPX HAH
        have hmf : ∀ (fn : Fn) (first cap : Array Value) (w : World), (Instr.makeFunc fn first cap).run Tryz.prog w = .ok (.func fn first cap) w := fun _ _ _ _ => rfl
        obtain ⟨S, hS⟩ : ∃ S : World → Prop, ∀ u, S u ↔ Below w4.heap.size w4 u := ⟨_, fun _ => Iff.rfl⟩
        have HS0 := hidP hS
        have r0 : ∀ u : Held S, World.cell? u.val ⟨w.heap.size, 0, none⟩ = some (.pointer (some ⟨KT, 0, none⟩)) := fun u => cell_later ((hS u.val).1 u.2) x0
        have r1 : ∀ u : Held S, World.cell? u.val ⟨w.heap.size, 1, none⟩ = some (.int .i64 p.start) := fun u => cell_later ((hS u.val).1 u.2) x1
        have r2 : ∀ u : Held S, World.cell? u.val ⟨w.heap.size, 2, none⟩ = some (.int .i64 0) := fun u => cell_later ((hS u.val).1 u.2) x2
        have r3 : ∀ u : Held S, World.cell? u.val ⟨w.heap.size, 3, none⟩ = some (.bool false) := fun u => cell_later ((hS u.val).1 u.2) x3
        have r4 : ∀ u : Held S, World.cell? u.val ⟨w.heap.size, 4, none⟩ = some (.slice d.a0 p.steps.length d.c0) := fun u => cell_later ((hS u.val).1 u.2) x4
        have r5 : ∀ u : Held S, World.cell? u.val ⟨w.heap.size, 5, none⟩ = some (.slice d.a1 p.lies.length d.c1) := fun u => cell_later ((hS u.val).1 u.2) x5
        have r6 : ∀ u : Held S, World.cell? u.val ⟨w.heap.size, 6, none⟩ = some (.slice d.a2 p.crosses.length d.c2) := fun u => cell_later ((hS u.val).1 u.2) x6
        have r7 : ∀ u : Held S, World.cell? u.val ⟨w.heap.size, 7, none⟩ = some (.func (.yield l) #[] #[]) := fun u => cell_later ((hS u.val).1 u.2) x7
        have hS1 : S w4.drew := (hS _).2 ((Below.refl _ _).drew)
        have hne := held_ne hS1
        clear hS hpq x0 x1 x2 x3 x4 x5 x6 x7 hb4
        refine wp_region_tree (fun w' => ∃ u : Held S, w' = u.val) 8 (by kernel_rfl) (by kernel_rfl) (held_some hS1) ?_
        (refine wpT_see 0 (by rfl) (by kernel_rfl) (by kernel_rfl) ?_; intro K hK; go_big_quiet_op; go_big_quiet_on); (refine wpT_see 1 (by rfl) (by kernel_rfl) (by kernel_rfl) ?_; intro K hK; go_big_quiet_op; go_big_quiet_on); (refine wpT_see 2 (by rfl) (by kernel_rfl) (by kernel_rfl) ?_; intro K hK; go_big_quiet_op; go_big_quiet_on); (refine wpT_see 3 (by rfl) (by kernel_rfl) (by kernel_rfl) ?_; intro K hK; go_big_quiet_op; go_big_quiet_on)
        (refine wpT_see 6 (by rfl) (by kernel_rfl) (by kernel_rfl) ?_; intro K hK; go_big_quiet_op; go_big_quiet_on); (refine wpT_see 7 (by rfl) (by kernel_rfl) (by kernel_rfl) ?_; intro K hK; go_big_quiet_op; go_big_quiet_on)
        refine wpT_loud 4 (by rfl) (by kernel_rfl) (by kernel_rfl) ?_
        intro KK hK
        go_wp2_with (go_at_call 110; refine (HLX.out _ ((Below.refl _ _).drew)).mono ?_; rintro e u2 ⟨rfl, hb2'⟩)
        have hb2 : Below w4.heap.size w4 u2 := (Below.refl _ _).drew.trans hb2'
        refine hK _ _ (held_some ((HS0.out _).2 hb2)) ?_
        clear hK KK hb2'
        refine wpT_loud 5 (by rfl) (by kernel_rfl) (by kernel_rfl) ?_
        intro KK hK
        go_wp2_with (go_at_call 89; refine (HAH.out _).mono ?_; rintro e u3 ⟨rfl, hb3'⟩)
        have hb3 : Below w4.heap.size w4 u3 := hb2.trans (hb3'.mono hb2.size)
        refine hK _ _ (held_some ((HS0.out _).2 hb3)) ?_
        clear hK KK hb3' r0 r1 r2 r3 r4 r5 r6 r7 hS1 hne hb2
        have HB3 := hidP hb3
        clear hb3
        refine wpT_done (by kernel_rfl) ?_
        go_wp2_with (go_at_call 109; refine (HPX.out _ HB3.out).mono ?_; rintro e z3 ⟨b3, rfl, ho3, hi3, hs3⟩)
        go_ret
        exact ⟨b3, rfl, HO5.out.thru HG4.out ((Only.of_below HB3.out).trans ho3), fun h => by obtain ⟨K2, h1, h2⟩ := hi3 h; exact ⟨K2, h1, HG4.out.trans h2 (Nat.le_trans HO5.out.size HB3.out.size)⟩, hs3⟩
    · have HE := hidP (HEV.out (Or.inl rfl))
      go_wp2_with fail
      go_ret
      exact ⟨true, rfl, HO3.out, fun _ => ⟨K', by rw [HE.out]; exact HI4.out, HG4.out⟩, fun h => by cases h⟩

theorem come_any (w0 : World) (KT M : Nat) (pa ja sa : Option Addr) (pc jc sc : Nat) (ps : List MPiece) (js : List MJoint) (ss : List MPiece) (R : Hid (Right ps js ss)) (hT : Hid (TTrack w0 KT M pa ja sa pc jc sc ps js ss))
    (l : Nat) (Inv : (Nat → Prop) → List MPath → World → Prop) (Stop : List MPath → World → Prop) (RD : Hid (Rounds w0 l Inv Stop)) : ∀ n, ComeAt KT l ps js ss Inv Stop n
  | 0 => fun _ _ _ _ _ _ _ _ _ _ hwk hn _ _ => by
    have := hwk.few
    omega
  | n + 1 => come_step w0 KT M pa ja sa pc jc sc ps js ss R hT l Inv Stop RD n (come_any w0 KT M pa ja sa pc jc sc ps js ss R hT l Inv Stop RD n)

end Go.Proofs.YtmkdgnmmebldgaaGreat
