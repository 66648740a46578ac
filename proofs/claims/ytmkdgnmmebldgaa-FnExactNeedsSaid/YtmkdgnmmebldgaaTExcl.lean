import Derived.Test.YtmkdgnmmebldgaaTNeeds
import Derived.Test.YtmkdgnmmebldgaaTTouch
namespace Go.Proofs.Ytmkdgnmmebldgaa
open Go.RowKit Go.Deep

structure ShortN (r : MRoute) : Prop where
  lies : r.lies.length ≤ 1048576
  flanks : r.flanks.length ≤ 1048576

theorem exclF_1 {a b : MRoute} (h : touchL a.parts b.parts = true) : exclF a b = 1 := by unfold exclF; rw [if_pos h]
theorem exclF_2 {a b : MRoute} (h : touchL a.parts b.parts = false) (h2 : crossL a.crosses b.crosses = true) : exclF a b = 2 := by unfold exclF; rw [if_neg (by simp [h]), if_pos h2]
theorem exclF_3 {a b : MRoute} (h : touchL a.parts b.parts = false) (h2 : crossL a.crosses b.crosses = false) (h3 : wantL (needsF a.lies a.flanks) (needsF b.lies b.flanks) = true) : exclF a b = 3 := by unfold exclF; rw [if_neg (by simp [h]), if_neg (by simp [h2]), if_pos h3]
theorem exclF_4 {a b : MRoute} (h : touchL a.parts b.parts = false) (h2 : crossL a.crosses b.crosses = false) (h3 : wantL (needsF a.lies a.flanks) (needsF b.lies b.flanks) = false) (h4 : touchL a.over b.parts = true ∨ touchL a.parts b.over = true) : exclF a b = 4 := by unfold exclF; rw [if_neg (by simp [h]), if_neg (by simp [h2]), if_neg (by simp [h3]), if_pos h4]
theorem exclF_0 {a b : MRoute} (h : touchL a.parts b.parts = false) (h2 : crossL a.crosses b.crosses = false) (h3 : wantL (needsF a.lies a.flanks) (needsF b.lies b.flanks) = false) (h4 : touchL a.over b.parts = false) (h5 : touchL a.parts b.over = false) : exclF a b = 0 := by unfold exclF; rw [if_neg (by simp [h]), if_neg (by simp [h2]), if_neg (by simp [h3]), if_neg (by simp [h4, h5])]

theorem routeCell_box (w : World) (d : RAddr) (r : MRoute) (T : Nat) : RouteCell (w.alloc (.cells #[.int .i64 r.start, .int .i64 r.stop, .slice d.a0 r.steps.length d.c0, .slice d.a1 r.lies.length d.c1, .slice d.a2 r.crosses.length d.c2, .slice d.a3 r.parts.length d.c3, .slice d.a4 r.over.length d.c4, .slice d.a5 r.flanks.length d.c5] T)) w.heap.size 0 d r := by
  constructor <;> simp [go_sem]

theorem routeCell_box2 (w : World) (o : Obj) (d : RAddr) (r : MRoute) (T : Nat) : RouteCell ((w.alloc o).alloc (.cells #[.int .i64 r.start, .int .i64 r.stop, .slice d.a0 r.steps.length d.c0, .slice d.a1 r.lies.length d.c1, .slice d.a2 r.crosses.length d.c2, .slice d.a3 r.parts.length d.c3, .slice d.a4 r.over.length d.c4, .slice d.a5 r.flanks.length d.c5] T)) (w.heap.size + 1) 0 d r := by
  have := routeCell_box (w.alloc o) d r T
  rwa [World.size_alloc] at this

set_option maxRecDepth 4000 in
set_option maxHeartbeats 4000000 in
theorem specExclude_any (d d' : RAddr) (a b : MRoute) (w : World) (ha : Hid (RListsAt w d a)) (hb : Hid (RListsAt w d' b)) (hsa : Hid (ShortN a)) (hsb : Hid (ShortN b)) :
    Calls Try.prog 14 #[routeV d a, routeV d' b] w fun e w' => e = .returned (.int .i64 (exclF a b)) ∧ Below w.heap.size w w' := by
  unfold routeV
  go_enter Try.func14, Try.ntmps14
  go_wp2_with fail
  generalize hW : (w.alloc _).alloc _ = W
  have HA : Hid (RouteCell W w.heap.size 0 d a) := by rw [← hW]; exact (routeCell_box w d a _).below (by repeat (first | exact Below.refl _ _ | assumption | refine Below.drew ?_ | refine bdrewN ?_ _ | refine Below.setCell ?_ (by first | omega | (simp; done) | (simp; omega)) _ | refine Below.alloc ?_ (by first | omega | (simp; done) | (simp; omega)) _))
  have HB : Hid (RouteCell W (w.heap.size + 1) 0 d' b) := by rw [← hW]; exact routeCell_box2 _ _ _ _ _
  have hz : w.heap.size + 2 = W.heap.size := by rw [← hW]; simp
  have hbW : Below w.heap.size w W := by rw [← hW]; exact (by repeat (first | exact Below.refl _ _ | assumption | refine Below.drew ?_ | refine bdrewN ?_ _ | refine Below.setCell ?_ (by first | omega | (simp; done) | (simp; omega)) _ | refine Below.alloc ?_ (by first | omega | (simp; done) | (simp; omega)) _))
  have LA := hidP (ha.out.below hbW)
  have LB := hidP (hb.out.below hbW)
  clear hW ha hb
  refine (l3touch_any _ _ _ _ _ _ _ LA.out.parts LB.out.parts).mono ?_
  rintro e w1 ⟨rfl, hb1⟩
  cases hT : touchL a.parts b.parts
  rotate_left
  · have HX := hidP (exclF_1 hT)
    clear hT
    go_wp2_with fail
    go_ret
    exact ⟨ret_int HX.out.symm, hbW.trans (hb1.mono hbW.size)⟩
  have HT := hidP hT
  clear hT
  have x4 : w1.cell? ⟨w.heap.size, 4, none⟩ = some (.slice d.a2 a.crosses.length d.c2) := (HA.out.below hb1).k4
  have hz1 : w.heap.size + 2 ≤ w1.heap.size := by have := hb1.size; omega
  have hl4 := LA.out.crosses.1
  have hl4' := LB.out.crosses.1
  unfold maxLen at hl4 hl4'
  have HB1 := hidP hb1
  go_wp2_with fail
  clear x4 hz1 hb1
  go_loopw [21] (fun i wr => ∃ (k : Nat), k ≤ a.crosses.length ∧ i = .int .i64 k ∧ Hid (∀ q (hq : q < a.crosses.length), q < k → (b.crosses.any fun y => a.crosses[q] == y) = false) ∧ Below W.heap.size W wr) (fun i _ => a.crosses.length - (intOf i).toNat)
  case atStart => exact ⟨0, Nat.zero_le _, rfl, (fun q _ h => absurd h (Nat.not_lt_zero q)), HB1.out⟩
  case round =>
    clear HB1
    obtain ⟨k, hk, rfl, HQ, hbw⟩ := hrel
    have hbs := hbw.size
    have hz2 : w.heap.size + 1 < wr.heap.size := by omega
    have hz3 : w.heap.size < wr.heap.size := by omega
    by_cases hk' : k < a.crosses.length
    · have c0 : ∃ b1 off1, d.a2 = some ⟨b1, off1, none⟩ ∧ wr.cell? ⟨b1, off1 + k, none⟩ = some (.int .i64 a.crosses[k]) := by
        obtain ⟨b1, off1, h1, hpc⟩ := LA.out.crosses.2.resolve_left (fun h => by rw [h] at hk'; exact absurd hk' (Nat.not_lt_zero _))
        exact ⟨b1, off1, h1, (hpc.below hbw) k hk'⟩
      obtain ⟨b1, off1, hd2, c0⟩ := c0
      rw [hd2]
      have y4 : wr.cell? ⟨(w.heap.size + 1), 4, none⟩ = some (.slice d'.a2 b.crosses.length d'.c2) := (HB.out.below hbw).k4
      clear hd2
      go_wp2_with fail
      have HBW := hidP hbw
      clear y4 c0 hz2 hz3
      go_loopw [28] (fun i wr2 => ∃ (m : Nat), m ≤ b.crosses.length ∧ i = .int .i64 m ∧ Hid (∀ q (hq : q < b.crosses.length), q < m → (a.crosses[k] == b.crosses[q]) = false) ∧ Below W.heap.size W wr2) (fun i _ => b.crosses.length - (intOf i).toNat)
      case atStart => exact ⟨0, Nat.zero_le _, rfl, (fun q _ h => absurd h (Nat.not_lt_zero q)), HBW.out⟩
      case round =>
        clear HBW hbw hbs
        obtain ⟨m, hm, rfl, HM, hbw⟩ := hrel
        have hbs := hbw.size
        by_cases hm' : m < b.crosses.length
        · have c0 : ∃ b2 off2, d'.a2 = some ⟨b2, off2, none⟩ ∧ wr.cell? ⟨b2, off2 + m, none⟩ = some (.int .i64 b.crosses[m]) := by
            obtain ⟨b2, off2, h1, hpc⟩ := LB.out.crosses.2.resolve_left (fun h => by rw [h] at hm'; exact absurd hm' (Nat.not_lt_zero _))
            exact ⟨b2, off2, h1, (hpc.below hbw) m hm'⟩
          obtain ⟨b2, off2, hd3, c0⟩ := c0
          rw [hd3]
          clear hd3
          cases t : (a.crosses[k] == b.crosses[m])
          · have HM2 : Hid (∀ q (hq : q < b.crosses.length), q < m + 1 → (a.crosses[k] == b.crosses[q]) = false) := by
              intro q hq hqm
              by_cases e : q < m
              · exact HM.out q hq e
              · have : q = m := by omega
                subst this; exact t
            clear HM
            go_wp2_with fail
            go_roundw
            case rel => exact ⟨m + 1, by omega, by go_num, HM2, hbw⟩
            case measure => simp [intOf]; omega
          · have HX := hidP (exclF_2 HT.out (any_hit hk' (any_hit hm' t)))
            clear HM HQ
            go_wp2_with fail
            go_ret
            exact ⟨ret_int HX.out.symm, hbW.trans (hbw.mono hbW.size)⟩
        · have HQ2 : Hid (∀ q (hq : q < a.crosses.length), q < k + 1 → (b.crosses.any fun y => a.crosses[q] == y) = false) := by
            intro q hq hqk
            by_cases e : q < k
            · exact HQ.out q hq e
            · have : q = k := by omega
              subst this
              exact any_none (fun i hi => HM.out i hi (by omega))
          clear HM HQ
          go_wp2_with fail
          go_roundw
          case rel => exact ⟨k + 1, by omega, by go_num, HQ2, hbw⟩
          case measure => simp [intOf]; omega
    · have HC : Hid (crossL a.crosses b.crosses = false) := any_none (fun i hi => HQ.out i hi (by omega))
      clear HQ
      have x0 : wr.cell? ⟨w.heap.size, 0, none⟩ = some (.int .i64 a.start) := (HA.out.below hbw).k0
      have x1 : wr.cell? ⟨w.heap.size, 1, none⟩ = some (.int .i64 a.stop) := (HA.out.below hbw).k1
      have x2 : wr.cell? ⟨w.heap.size, 2, none⟩ = some (.slice d.a0 a.steps.length d.c0) := (HA.out.below hbw).k2
      have x3 : wr.cell? ⟨w.heap.size, 3, none⟩ = some (.slice d.a1 a.lies.length d.c1) := (HA.out.below hbw).k3
      have x4 : wr.cell? ⟨w.heap.size, 4, none⟩ = some (.slice d.a2 a.crosses.length d.c2) := (HA.out.below hbw).k4
      have x5 : wr.cell? ⟨w.heap.size, 5, none⟩ = some (.slice d.a3 a.parts.length d.c3) := (HA.out.below hbw).k5
      have x6 : wr.cell? ⟨w.heap.size, 6, none⟩ = some (.slice d.a4 a.over.length d.c4) := (HA.out.below hbw).k6
      have x7 : wr.cell? ⟨w.heap.size, 7, none⟩ = some (.slice d.a5 a.flanks.length d.c5) := (HA.out.below hbw).k7
      go_wp2_with (go_at_call 19; refine (specNeeds_any d a _ (LA.out.below hbw).lies (LA.out.below hbw).flanks hsa.out.lies hsa.out.flanks).mono ?_; rintro e w2 ⟨xn, yn, rfl, ho2, hb2⟩)
      obtain ⟨xa, ya, hxy, hea, _, _⟩ := ownE ho2 (by have h1 := needs_len a.flanks a.lies; have h2 := hsa.out.lies; have h3 := hsa.out.flanks; unfold needsF maxLen; omega)
      cases hxy
      have HEA := hidP hea
      have HNA : Hid ((needsF a.lies a.flanks).length ≤ 2097152) := by have h1 := needs_len a.flanks a.lies; have h2 := hsa.out.lies; have h3 := hsa.out.flanks; unfold Hid needsF; omega
      have hna := HNA.out
      have hb3 := hbw.trans (hb2.mono hbw.size)
      have HB2 : Hid (Below w2.heap.size w2 w2) := Below.refl _ _
      clear ho2 hea hb2 x0 x1 x2 x3 x4 x5 x6 x7 hz2 hz3 hbw hbs hk hk'
      generalize hNA : needsF a.lies a.flanks = na at *
      have HNAe := hidP hNA
      clear hNA
      go_loopw [40] (fun i wr => ∃ (k : Nat), k ≤ na.length ∧ i = .int .i64 k ∧ Hid (∀ q (hq : q < na.length), q < k → ((needsF b.lies b.flanks).any fun y => na[q].piece == y.piece && na[q].side != y.side) = false) ∧ Below w2.heap.size w2 wr) (fun i _ => na.length - (intOf i).toNat)
      case atStart => exact ⟨0, Nat.zero_le _, rfl, (fun q _ h => absurd h (Nat.not_lt_zero q)), HB2.out⟩
      case round =>
        clear HB2
        obtain ⟨k, hk, rfl, HQ, hbw⟩ := hrel
        have hbF := hb3.trans (hbw.mono hb3.size)
        have hbs := hbF.size
        have hz2 : w.heap.size + 1 < wr.heap.size := by omega
        have hz3 : w.heap.size < wr.heap.size := by omega
        by_cases hk' : k < na.length
        · obtain ⟨b1, off1, rfl, hpc⟩ := HEA.out.2.resolve_left (fun h => by rw [h] at hk'; exact absurd hk' (Nat.not_lt_zero _))
          obtain ⟨c0, c1⟩ := (hpc.below hbw) k hk'
          clear hpc
          have y0 : wr.cell? ⟨(w.heap.size + 1), 0, none⟩ = some (.int .i64 b.start) := (HB.out.below hbF).k0
          have y1 : wr.cell? ⟨(w.heap.size + 1), 1, none⟩ = some (.int .i64 b.stop) := (HB.out.below hbF).k1
          have y2 : wr.cell? ⟨(w.heap.size + 1), 2, none⟩ = some (.slice d'.a0 b.steps.length d'.c0) := (HB.out.below hbF).k2
          have y3 : wr.cell? ⟨(w.heap.size + 1), 3, none⟩ = some (.slice d'.a1 b.lies.length d'.c1) := (HB.out.below hbF).k3
          have y4 : wr.cell? ⟨(w.heap.size + 1), 4, none⟩ = some (.slice d'.a2 b.crosses.length d'.c2) := (HB.out.below hbF).k4
          have y5 : wr.cell? ⟨(w.heap.size + 1), 5, none⟩ = some (.slice d'.a3 b.parts.length d'.c3) := (HB.out.below hbF).k5
          have y6 : wr.cell? ⟨(w.heap.size + 1), 6, none⟩ = some (.slice d'.a4 b.over.length d'.c4) := (HB.out.below hbF).k6
          have y7 : wr.cell? ⟨(w.heap.size + 1), 7, none⟩ = some (.slice d'.a5 b.flanks.length d'.c5) := (HB.out.below hbF).k7
          go_wp2_with (go_at_call 19; refine (specNeeds_any d' b _ (LB.out.below (hbF.trans (Below.mono (show Below wr.heap.size wr _ from (by repeat (first | exact Below.refl _ _ | assumption | refine Below.drew ?_ | refine bdrewN ?_ _ | refine Below.setCell ?_ (by first | omega | (simp; done) | (simp; omega)) _ | refine Below.alloc ?_ (by first | omega | (simp; done) | (simp; omega)) _))) hbF.size))).lies (LB.out.below (hbF.trans (Below.mono (show Below wr.heap.size wr _ from (by repeat (first | exact Below.refl _ _ | assumption | refine Below.drew ?_ | refine bdrewN ?_ _ | refine Below.setCell ?_ (by first | omega | (simp; done) | (simp; omega)) _ | refine Below.alloc ?_ (by first | omega | (simp; done) | (simp; omega)) _))) hbF.size))).flanks hsb.out.lies hsb.out.flanks).mono ?_; rintro e w4 ⟨xm, ym, rfl, ho4, hb4⟩)
          have p0 := cell_later hb4 (show (wr.alloc (Obj.cells #[Value.int IntKind.i64 na[k].piece, Value.int IntKind.i64 na[k].side] 48)).cell? ⟨wr.heap.size, 0, none⟩ = some (.int .i64 na[k].piece) by simp [go_sem])
          have p1 := cell_later hb4 (show (wr.alloc (Obj.cells #[Value.int IntKind.i64 na[k].piece, Value.int IntKind.i64 na[k].side] 48)).cell? ⟨wr.heap.size, 1, none⟩ = some (.int .i64 na[k].side) by simp [go_sem])
          obtain ⟨xb, yb, hxy, heb, _, _⟩ := ownE ho4 (by have h1 := needs_len b.flanks b.lies; have h2 := hsb.out.lies; have h3 := hsb.out.flanks; unfold needsF maxLen; omega)
          cases hxy
          have HEB := hidP heb
          have hnb : (needsF b.lies b.flanks).length ≤ 2097152 := by have h1 := needs_len b.flanks b.lies; have h2 := hsb.out.lies; have h3 := hsb.out.flanks; unfold needsF; omega
          have hb5 : Below w2.heap.size w2 w4 := hbw.trans (Below.mono (Below.trans (show Below wr.heap.size wr _ from (by repeat (first | exact Below.refl _ _ | assumption | refine Below.drew ?_ | refine bdrewN ?_ _ | refine Below.setCell ?_ (by first | omega | (simp; done) | (simp; omega)) _ | refine Below.alloc ?_ (by first | omega | (simp; done) | (simp; omega)) _))) (hb4.mono (by simp))) hbw.size)
          have hzz := cellLt p0
          clear ho4 heb hb4 y0 y1 y2 y3 y4 y5 y6 y7 hz2 hz3 hbw hbs c0 c1 hbF
          generalize hNB : needsF b.lies b.flanks = nb at *
          have HNBe := hidP hNB
          clear hNB
          go_loopw [47] (fun i wr2 => ∃ (m : Nat), m ≤ nb.length ∧ i = .int .i64 m ∧ Hid (∀ q (hq : q < nb.length), q < m → (na[k].piece == nb[q].piece && na[k].side != nb[q].side) = false) ∧ Below w4.heap.size w4 wr2) (fun i _ => nb.length - (intOf i).toNat)
          case atStart => exact ⟨0, Nat.zero_le _, rfl, (fun q _ h => absurd h (Nat.not_lt_zero q)), Below.refl _ _⟩
          case round =>
            obtain ⟨m, hm, rfl, HM, hb6⟩ := hrel
            have hbs6 := hb6.size
            have hb7 := hb5.trans (hb6.mono hb5.size)
            have hbs7 := hb7.size
            by_cases hm' : m < nb.length
            · obtain ⟨b2, off2, rfl, hpc2⟩ := HEB.out.2.resolve_left (fun h => by rw [h] at hm'; exact absurd hm' (Nat.not_lt_zero _))
              obtain ⟨e0, e1⟩ := (hpc2.below hb6) m hm'
              have p0' := cell_later hb6 p0
              have p1' := cell_later hb6 p1
              have hzz' := Nat.lt_of_lt_of_le hzz hb6.size
              clear hpc2
              cases t : (na[k].piece == nb[m].piece && na[k].side != nb[m].side)
              · have HM2 : Hid (∀ q (hq : q < nb.length), q < m + 1 → (na[k].piece == nb[q].piece && na[k].side != nb[q].side) = false) := by
                  intro q hq hqm
                  by_cases e : q < m
                  · exact HM.out q hq e
                  · have : q = m := by omega
                    subst this; exact t
                have hcs : (na[k].piece == nb[m].piece) = false ∨ (na[k].piece == nb[m].piece) = true ∧ (na[k].side != nb[m].side) = false := by
                  revert t
                  cases (na[k].piece == nb[m].piece) <;> cases (na[k].side != nb[m].side) <;> simp
                clear HM t
                rcases hcs with t1 | ⟨t1, t2⟩
                all_goals
                  go_wp2_with fail
                  go_roundw
                  case rel => exact ⟨m + 1, by omega, by go_num, HM2, (by repeat (first | exact Below.refl _ _ | assumption | refine Below.drew ?_ | refine bdrewN ?_ _ | refine Below.setCell ?_ (by first | omega | (simp; done) | (simp; omega)) _ | refine Below.alloc ?_ (by first | omega | (simp; done) | (simp; omega)) _))⟩
                  case measure => simp [intOf]; omega
              · have HX : Hid (exclF a b = 3) := exclF_3 HT.out HC.out (by rw [HNAe.out, HNBe.out]; exact any_hit hk' (any_hit hm' t))
                obtain ⟨t1, t2⟩ : (na[k].piece == nb[m].piece) = true ∧ (na[k].side != nb[m].side) = true := by simpa only [Bool.and_eq_true] using t
                clear HM HQ t
                go_wp2_with fail
                go_ret
                exact ⟨ret_int HX.out.symm, hbW.trans ((hb3.trans (Below.mono (show Below w2.heap.size w2 _ from (by repeat (first | exact Below.refl _ _ | assumption | refine Below.drew ?_ | refine bdrewN ?_ _ | refine Below.setCell ?_ (by first | omega | (simp; done) | (simp; omega)) _ | refine Below.alloc ?_ (by first | omega | (simp; done) | (simp; omega)) _))) hb3.size)).mono hbW.size)⟩
            · have HQ2 : Hid (∀ q (hq : q < na.length), q < k + 1 → (nb.any fun y => na[q].piece == y.piece && na[q].side != y.side) = false) := by
                intro q hq hqk
                by_cases e : q < k
                · exact HQ.out q hq e
                · have : q = k := by omega
                  subst this
                  exact any_none (fun i hi => HM.out i hi (by omega))
              clear HM HQ
              go_wp2_with fail
              go_roundw
              case rel => exact ⟨k + 1, by omega, by go_num, (by rw [HNBe.out]; exact HQ2), hb7⟩
              case measure => simp [intOf]; omega
        · have HD : Hid (wantL (needsF a.lies a.flanks) (needsF b.lies b.flanks) = false) := by
            unfold Hid
            rw [HNAe.out]
            exact any_none (fun i hi => HQ.out i hi (by omega))
          clear HQ
          have x5 : wr.cell? ⟨w.heap.size, 5, none⟩ = some (.slice d.a3 a.parts.length d.c3) := (HA.out.below hbF).k5
          have x6 : wr.cell? ⟨w.heap.size, 6, none⟩ = some (.slice d.a4 a.over.length d.c4) := (HA.out.below hbF).k6
          have y5 : wr.cell? ⟨(w.heap.size + 1), 5, none⟩ = some (.slice d'.a3 b.parts.length d'.c3) := (HB.out.below hbF).k5
          have y6 : wr.cell? ⟨(w.heap.size + 1), 6, none⟩ = some (.slice d'.a4 b.over.length d'.c4) := (HB.out.below hbF).k6
          go_wp2_with fail
          refine (l3touch_any _ _ _ _ _ _ _ (LA.out.below hbF).over (LB.out.below hbF).parts).mono ?_
          rintro e w5 ⟨rfl, hb5⟩
          have hb6 := hbF.trans (hb5.mono hbF.size)
          replace x5 := cell_later hb5 x5
          replace y6 := cell_later hb5 y6
          have hbs6 := hb6.size
          have hz4 : w.heap.size + 1 < w5.heap.size := by omega
          have hz5 : w.heap.size < w5.heap.size := by omega
          clear hb5 x6 y5 hz2 hz3
          cases t4 : touchL a.over b.parts
          rotate_left
          · have HX := hidP (exclF_4 HT.out HC.out HD.out (Or.inl t4))
            clear t4
            go_wp2_with fail
            go_ret
            exact ⟨ret_int HX.out.symm, hbW.trans (hb6.mono hbW.size)⟩
          cases t5 : touchL a.parts b.over
          · have HX := hidP (exclF_0 HT.out HC.out HD.out t4 t5)
            have T5 := hidP t5
            clear t4 t5
            go_wp2_with (go_at_call 49; refine (l3touch_any _ _ _ _ _ _ _ (LA.out.below hb6).parts (LB.out.below hb6).over).mono ?_; rintro e w6 ⟨rfl, hb7⟩; rw [T5.out])
            go_ret
            exact ⟨ret_int HX.out.symm, hbW.trans ((hb6.trans (hb7.mono hb6.size)).mono hbW.size)⟩
          · have HX := hidP (exclF_4 HT.out HC.out HD.out (Or.inr t5))
            have T5 := hidP t5
            clear t4 t5
            go_wp2_with (go_at_call 49; refine (l3touch_any _ _ _ _ _ _ _ (LA.out.below hb6).parts (LB.out.below hb6).over).mono ?_; rintro e w6 ⟨rfl, hb7⟩; rw [T5.out])
            go_ret
            exact ⟨ret_int HX.out.symm, hbW.trans ((hb6.trans (hb7.mono hb6.size)).mono hbW.size)⟩

end Go.Proofs.Ytmkdgnmmebldgaa
