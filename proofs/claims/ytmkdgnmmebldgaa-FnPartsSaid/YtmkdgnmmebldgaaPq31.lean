import Derived.Test.YtmkdgnmmebldgaaPq30
namespace Go.Proofs.Ytmkdgnmmebldgaa
open Go.RowKit Go.Deep
theorem list3 {α : Type} {l : List α} (h : l.length = 3) : ∃ a b c, l = [a, b, c] := by
  match l, h with
  | [a, b, c], _ => exact ⟨a, b, c, rfl⟩
theorem l1acrossN_any (kind : Int) (nm : ByteArray) (es : List MEnd) (k : Nat) (hk : k < es.length) (hl : (es.length : Int) = kind) (hkd : kind = 2 ∨ kind = 3 ∨ kind = 4) (ea : Option Addr) (ec : Nat) (w : World) (he : Hid (EndsAt w ea es)) :
    Calls Try.prog 107 #[.agg #[.int .i64 kind, .string nm, .slice ea es.length ec], .int .i64 k] w (AcrossPostN w ((beyondF kind k).map (fun t => es.getD t ⟨0, 0⟩))) := by
  have hc : (kind = 2 ∨ kind = 4) ∨ kind = 3 := by omega
  rcases hc with hc | rfl
  · obtain ⟨t, ht, hb, h⟩ := l1acrossN_one kind nm es k hk hl hc ea ec w he
    rw [hb]
    have e : [t].map (fun t => es.getD t ⟨0, 0⟩) = [es[t]] := by simp [ht]
    rw [e]
    exact h
  · obtain ⟨a, b, c, rfl⟩ := list3 (show es.length = 3 by omega)
    have hk3 : k = 0 ∨ k = 1 ∨ k = 2 := by simp at hk; omega
    rcases hk3 with rfl | rfl | rfl
    · exact l1acrossN_3_0 nm a b c ea ec w he
    · exact l1acrossN_3_1 nm a b c ea ec w he
    · exact l1acrossN_3_2 nm a b c ea ec w he
theorem beyondF_few (kind : Int) (k : Nat) : (beyondF kind k).length ≤ 2 := by
  unfold beyondF
  split
  · simp
  · split
    · split <;> simp
    · split <;> simp
section
variable {w1 W : World} {F A Q B : Nat} {x0 x1 x2 x3 : Option Addr} {y0 y1 y2 y3 : Nat} {v7 : Value} {st sp : Int} {steps : List MStep} {lies : List MLie} {crosses : List Int} {parts : List MPart}
theorem keep_rb (h : RB w1 W A Q B x0 y0 x1 y1 x2 y2 x3 y3 (.slice none 0 0) v7 ⟨st, sp, steps, lies, crosses, parts, [], []⟩) (hF : F < B) : RKeep W F ⟨x0, y0, x1, y1, x2, y2, x3, y3, none, 0, none, 0⟩ ⟨st, sp, steps, lies, crosses, parts, [], []⟩ :=
  keep_of (ov := []) (fl := []) (x4 := none) (y4 := 0) (x5 := none) (y5 := 0) (v := noRow) (v' := noRow) (B4 := F + 1) (B5 := F + 1) h hF (World.ownsRow_nil _ _ _ _) (Nat.lt_succ_self F) (Eff.of_below (Below.refl _ _)) (World.ownsRow_nil _ _ _ _) (Nat.lt_succ_self F)
theorem nil_rb (h : RB w1 W A Q B x0 y0 x1 y1 x2 y2 x3 y3 (.slice none 0 0) v7 ⟨st, sp, steps, lies, crosses, parts, [], []⟩) : NilR ⟨x0, y0, x1, y1, x2, y2, x3, y3, none, 0, none, 0⟩ ⟨st, sp, steps, lies, crosses, parts, [], []⟩ :=
  ⟨(own_listE h.own.o0).2, (own_listE h.own.o1).2, (own_listN h.own.o2).2, (own_listP h.own.o3).2⟩
end
def LoopInv (w0 Wl wr : World) (F : Nat) (pa ja sa : Option Addr) (pc jc sc : Nat) (ps : List MPiece) (js : List MJoint) (ss : List MPiece) (over : Int) (n t : Nat) (vo : Value) (rs : List MRoute) (path : MPath) (j k : Nat) (T : List Nat) (m : Nat) : Prop :=
  ∃ xo yo t' pr, WS w0 wr F pa ja sa pc jc sc ps.length js.length ss.length over xo yo t' pr ∧ Eff F vo (.slice xo pr.length yo) Wl wr ∧ Went (routeF ps js ss over) t rs (path :: kidsF ps js ss n path j k (T.take m)) t' (pr.map Prod.snd) ∧ t' + 1 ≤ 20000 + n + m ∧ pr.length ≤ 301
section
variable {w0 Wl wr W w' : World} {F : Nat} {pa ja sa : Option Addr} {pc jc sc : Nat} {ps : List MPiece} {js : List MJoint} {ss : List MPiece} {over : Int} {n t : Nat} {vo : Value} {rs : List MRoute} {path : MPath} {j k m : Nat} {T : List Nat}
theorem LoopInv.start {xo : Option Addr} {yo : Nat} {pr : List (RAddr × MRoute)} (h : WS w0 Wl F pa ja sa pc jc sc ps.length js.length ss.length over xo yo (t + 1) pr) (hn : 1 ≤ n) (ht : t + 1 ≤ 20000) (hp : path.ended = false) (hpr : pr.length ≤ 301) : LoopInv w0 Wl Wl F pa ja sa pc jc sc ps js ss over n t (.slice xo pr.length yo) (pr.map Prod.snd) path j k T 0 :=
  ⟨xo, yo, t + 1, pr, h, h.eff0 (Below.refl _ _), Went.one hp, by omega, hpr⟩
theorem LoopInv.below (h : LoopInv w0 Wl wr F pa ja sa pc jc sc ps js ss over n t vo rs path j k T m) (hb : Below wr.heap.size wr W) : LoopInv w0 Wl W F pa ja sa pc jc sc ps js ss over n t vo rs path j k T m := by
  obtain ⟨xo, yo, t', pr, h1, h2, h3, h4, h5⟩ := h
  exact ⟨xo, yo, t', pr, h1.below hb, h2.later hb, h3, h4, h5⟩
theorem LoopInv.none (h : LoopInv w0 Wl wr F pa ja sa pc jc sc ps js ss over n t vo rs path j k T m) (hm : m < T.length) (hk : overP js path j k T[m] = none) : LoopInv w0 Wl wr F pa ja sa pc jc sc ps js ss over n t vo rs path j k T (m + 1) := by
  obtain ⟨xo, yo, t', pr, h1, h2, h3, h4, h5⟩ := h
  refine ⟨xo, yo, t', pr, h1, h2, ?_, by omega, h5⟩
  rw [List.take_succ_eq_append_getElem hm, kidsF_snoc]
  have hkk : kidF ps js ss n path j k T[m] = [] := by unfold kidF; rw [hk]
  rw [hkk, List.append_nil]
  exact h3
theorem LoopInv.gone {xo : Option Addr} {yo t' : Nat} {pr : List (RAddr × MRoute)} (h2 : Eff F vo (.slice xo pr.length yo) Wl wr) (h3 : Went (routeF ps js ss over) t rs (path :: kidsF ps js ss n path j k (T.take m)) t' (pr.map Prod.snd)) (h4 : t' + 1 ≤ 20000 + n + m) (hb : Below wr.heap.size wr W) (hm : m < T.length) {q : MPath} (hk : overP js path j k T[m] = some q)
    {e : Ending} (hw : WalkPost w0 W F pa ja sa pc jc sc ps js ss over n t' (.slice xo pr.length yo) (pr.map Prod.snd) (evs ps js ss n q (endAt ps (endE js j T[m]))) e w') : e = .returned (.tuple #[]) ∧ LoopInv w0 Wl w' F pa ja sa pc jc sc ps js ss over n t vo rs path j k T (m + 1) := by
  obtain ⟨he, xo', yo', t'', pr', k1, k2, k3, k4, k5⟩ := hw
  refine ⟨he, xo', yo', t'', pr', k1, (h2.later hb).trans k2, ?_, by omega, k5⟩
  rw [List.take_succ_eq_append_getElem hm, kidsF_snoc]
  have hkk : kidF ps js ss n path j k T[m] = evs ps js ss n q (endAt ps (endE js j T[m])) := by unfold kidF; rw [hk]
  rw [hkk]
  exact h3.app k3
theorem LoopInv.stop {w : World} {xo : Option Addr} {yo : Nat} {pr : List (RAddr × MRoute)} {E : List MPath} (h : LoopInv w0 Wl wr F pa ja sa pc jc sc ps js ss over n t (.slice xo pr.length yo) (pr.map Prod.snd) path j k T m) (hm : m = T.length) (hT : T.length ≤ 2) (hE : Eff F (.slice xo pr.length yo) (.slice xo pr.length yo) w Wl) (hev : E = path :: kidsF ps js ss n path j k T) :
    WalkPost w0 w F pa ja sa pc jc sc ps js ss over (n + 1) t (.slice xo pr.length yo) (pr.map Prod.snd) E (.returned (.tuple #[])) wr := by
  obtain ⟨xo', yo', t', pr', h1, h2, h3, h4, h5⟩ := h
  refine ⟨rfl, xo', yo', t', pr', h1, hE.trans h2, ?_, by omega, h5⟩
  rw [hm, List.take_length] at h3
  rw [hev]
  exact h3
end
theorem child_call {w0 w1 W : World} {F A Q B : Nat} {pa ja sa : Option Addr} {pc jc sc : Nat} {ps : List MPiece} {js : List MJoint} {ss : List MPiece} {over : Int} {n t i p pe : Nat} {way pos : Int} {xo : Option Addr} {yo : Nat} {pr : List (RAddr × MRoute)} {x0 x1 x2 x3 : Option Addr} {y0 y1 y2 y3 : Nat} {v7 : Value} {pre L : List MStep} {lies lies' : List MLie} {crosses crosses' : List Int} {PL : List MPart} {e : MEnd}
    (ih : WalkSpec w0 F pa ja sa pc jc sc ps js ss over n) (R : Right ps js ss) (ok : WalkOk ps js ss i pre ⟨p, way⟩ lies crosses pos) (hnot : (⟨(p : Int), way⟩ : MStep) ∉ pre) (hn : n + 1 + pre.length = 2 * ps.length + 2) (hL : pre ++ [(⟨(p : Int), way⟩ : MStep)] = L) (hPL : PL = fullParts ps (sigAt ss i) L)
    (hv : ValidE ps e) (hpe : e.piece = pe) (lv : ∀ l ∈ lies', ∃ (j : Nat) (hj : j < js.length), l.piece = j ∧ js[j].kind = 3 ∧ (l.side = 1 ∨ l.side = 2)) (ld : (lies'.map MEnd.piece).Nodup) (cl : crosses'.length ≤ pre.length + 1)
    (hs : WS w0 W F pa ja sa pc jc sc ps.length js.length ss.length over xo yo t pr) (h : RB w1 W A Q B x0 y0 x1 y1 x2 y2 x3 y3 (.slice none 0 0) v7 ⟨i, 0, L, lies', crosses', PL, [], []⟩) (hF : F < B) (ht : t ≤ 100000) (hpr : pr.length ≤ 301) {wy : Int} (hwy : (stepFromE e).side = wy) :
    Calls Try.prog 44 #[.pointer (some ⟨F, 0, none⟩), .agg #[.int .i64 i, .int .i64 0, .slice x0 L.length y0, .slice x1 lies'.length y1, .slice x2 crosses'.length y2, .slice x3 PL.length y3, .slice none 0 0, .slice none 0 0], .int .i64 pe, .int .i64 wy, .int .i64 0] W
      (WalkPost w0 W F pa ja sa pc jc sc ps js ss over n t (.slice xo pr.length yo) (pr.map Prod.snd) (evs ps js ss n (pathOf i (L ++ [stepFromE e]) lies' crosses') (endAt ps e))) := by
  have hw := ok.next R hnot hv lv ld cl
  have hse : stepFromE e = ⟨(pe : Int), wy⟩ := by
    have h1 := stepFromE_piece e
    generalize stepFromE e = s at h1 hwy
    cases s
    simp only at h1 hwy
    rw [h1, hwy, hpe]
  have hf := (farI_begin hv).1
  rw [hse] at hf hw ⊢
  dsimp only at hf
  rw [hL] at hw
  have hk := keep_rb h hF
  have hni := nil_rb h
  have hlen : PL.length = L.length := by rw [hPL, fullParts_len]
  have hag : (Value.agg #[.int .i64 i, .int .i64 0, .slice x0 L.length y0, .slice x1 lies'.length y1, .slice x2 crosses'.length y2, .slice x3 L.length y3, .slice none 0 0, .slice none 0 0]) = .agg #[.int .i64 i, .int .i64 0, .slice x0 L.length y0, .slice x1 lies'.length y1, .slice x2 crosses'.length y2, .slice x3 PL.length y3, .slice none 0 0, .slice none 0 0] := by rw [hlen]
  subst hPL
  have hc := ih x0 y0 x1 y1 x2 y2 x3 y3 i L pe wy lies' crosses' (endAt ps e) xo yo t pr W hw (by rw [← hL]; simp; omega) hs hk hni ht hpr
  rw [hag, hf] at hc
  exact hc
theorem stepFrom_side0 {e : MEnd} (h : e.side = 0) : (stepFromE e).side = 1 := by unfold stepFromE; rw [if_pos h]
theorem stepFrom_side1 {e : MEnd} (h : e.side = 1) : (stepFromE e).side = -1 := by unfold stepFromE; rw [if_neg (by omega)]
theorem rb_new {wr w5 : World} {z0 z1 z2 z3 : Option Addr} {t0 t1 t2 t3 : Nat} {st sp : Int} {steps : List MStep} {lies : List MLie} {crosses : List Int} {parts : List MPart} (hb : Below wr.heap.size wr w5) (hz : wr.heap.size + 1 ≤ w5.heap.size)
    (ho : OwnR w5 (wr.heap.size + 1) (.slice z0 steps.length t0) (.slice z1 lies.length t1) (.slice z2 crosses.length t2) (.slice z3 parts.length t3) ⟨st, sp, steps, lies, crosses, parts, [], []⟩) :
    RB wr (w5.alloc (.cells #[.int .i64 st, .int .i64 sp, .slice z0 steps.length t0, .slice z1 lies.length t1, .slice z2 crosses.length t2, .slice z3 parts.length t3, .slice none 0 0, .slice none 0 0] 42)) wr.heap.size w5.heap.size (wr.heap.size + 1) z0 t0 z1 t1 z2 t2 z3 t3 (.slice none 0 0) (.slice none 0 0) ⟨st, sp, steps, lies, crosses, parts, [], []⟩ :=
  ⟨hb.alloc (by omega) _, by omega, by omega, by simp; omega, qc_alloc _ _ _ _ _ _ _ _ _, ho.below ((Below.refl _ _).alloc (Nat.le_refl _) _)⟩
theorem flatN_push (cs : List Int) (x : Int) : flatN cs ++ [.int .i64 x] = flatN (cs ++ [x]) := by
  rw [flatN_snoc]
  rfl
end Go.Proofs.Ytmkdgnmmebldgaa
