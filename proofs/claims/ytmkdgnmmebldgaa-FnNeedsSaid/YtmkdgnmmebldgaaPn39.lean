import Derived.Test.YtmkdgnmmebldgaaPn38
import Derived.RangeFuncSeq
import Derived.OwnWalkIn
import Derived.RangeFuncLeaves
import Derived.RangeFuncNested
import Derived.Test.YtmkdgnmmebldgaaPn20
import Derived.RangeFuncIn
import Derived.Deep.LoopGhost
namespace Go.Proofs.Ytmkdgnmmebldgaa
open Go.RowKit Go.Deep
theorem list3 {α : Type} {l : List α} (h : l.length = 3) : ∃ a b c, l = [a, b, c] := by
  match l, h with
  | [a, b, c], _ => exact ⟨a, b, c, rfl⟩
theorem l1acrossN_any (kind : Int) (nm : ByteArray) (es : List MEnd) (k : Nat) (hk : k < es.length) (hl : (es.length : Int) = kind) (hkd : kind = 2 ∨ kind = 3 ∨ kind = 4) (ea : Option Addr) (ec : Nat) (w : World) (he : Hid (EndsAt w ea es)) :
    Calls Try.prog 107 #[.agg #[.int .i64 kind, .string nm, .slice ea es.length ec], .int .i64 k] w (AcrossPostN w ((beyondF kind k).map (fun t => es.getD t ⟨0, 0⟩))) := by
  have hc : (kind = 2 ∨ kind = 4) ∨ kind = 3 := by omega
  rcases hc with hc | rfl
  · obtain ⟨t, ht, hb, h⟩ := l1acrossN_one kind nm es k hk hl hc ea ec w he
    rw [hb]
    have e : [t].map (fun t => es.getD t ⟨0, 0⟩) = [es[t]] := by simp [ht]
    rw [e]
    exact h
  · obtain ⟨a, b, c, rfl⟩ := list3 (show es.length = 3 by omega)
    have hk3 : k = 0 ∨ k = 1 ∨ k = 2 := by simp at hk; omega
    rcases hk3 with rfl | rfl | rfl
    · exact l1acrossN_3_0 nm a b c ea ec w he
    · exact l1acrossN_3_1 nm a b c ea ec w he
    · exact l1acrossN_3_2 nm a b c ea ec w he
theorem beyondF_few (kind : Int) (k : Nat) : (beyondF kind k).length ≤ 2 := by
  unfold beyondF
  split
  · simp
  · split
    · split <;> simp
    · split <;> simp
section
variable {w1 W : World} {F A Q B : Nat} {x0 x1 x2 x3 : Option Addr} {y0 y1 y2 y3 : Nat} {v7 : Value} {st sp : Int} {steps : List MStep} {lies : List MLie} {crosses : List Int} {parts : List MPart}
theorem keep_rb (h : RB w1 W A Q B x0 y0 x1 y1 x2 y2 x3 y3 (.slice none 0 0) v7 ⟨st, sp, steps, lies, crosses, parts, [], []⟩) (hF : F < B) : RKeep W F ⟨x0, y0, x1, y1, x2, y2, x3, y3, none, 0, none, 0⟩ ⟨st, sp, steps, lies, crosses, parts, [], []⟩ :=
  keep_of (ov := []) (fl := []) (x4 := none) (y4 := 0) (x5 := none) (y5 := 0) (v := noRow) (v' := noRow) (B4 := F + 1) (B5 := F + 1) h hF (World.ownsRow_nil _ _ _ _) (Nat.lt_succ_self F) (Eff.of_below (Below.refl _ _)) (World.ownsRow_nil _ _ _ _) (Nat.lt_succ_self F)
theorem nil_rb (h : RB w1 W A Q B x0 y0 x1 y1 x2 y2 x3 y3 (.slice none 0 0) v7 ⟨st, sp, steps, lies, crosses, parts, [], []⟩) : NilR ⟨x0, y0, x1, y1, x2, y2, x3, y3, none, 0, none, 0⟩ ⟨st, sp, steps, lies, crosses, parts, [], []⟩ :=
  ⟨(own_listE h.own.o0).2, (own_listE h.own.o1).2, (own_listN h.own.o2).2, (own_listP h.own.o3).2⟩
end
def LoopInv (w0 Wl wr : World) (F : Nat) (pa ja sa : Option Addr) (pc jc sc : Nat) (ps : List MPiece) (js : List MJoint) (ss : List MPiece) (over : Int) (n t : Nat) (vo : Value) (rs : List MRoute) (path : MPath) (j k : Nat) (T : List Nat) (m : Nat) : Prop :=
  ∃ xo yo t' pr, WS w0 wr F pa ja sa pc jc sc ps.length js.length ss.length over xo yo t' pr ∧ Eff F vo (.slice xo pr.length yo) Wl wr ∧ Went (routeF ps js ss over) t rs (path :: kidsF ps js ss n path j k (T.take m)) t' (pr.map Prod.snd) ∧ t' + 1 ≤ 20000 + n + m ∧ pr.length ≤ 301
section
variable {w0 Wl wr W w' : World} {F : Nat} {pa ja sa : Option Addr} {pc jc sc : Nat} {ps : List MPiece} {js : List MJoint} {ss : List MPiece} {over : Int} {n t : Nat} {vo : Value} {rs : List MRoute} {path : MPath} {j k m : Nat} {T : List Nat}
theorem LoopInv.start {xo : Option Addr} {yo : Nat} {pr : List (RAddr × MRoute)} (h : WS w0 Wl F pa ja sa pc jc sc ps.length js.length ss.length over xo yo (t + 1) pr) (hn : 1 ≤ n) (ht : t + 1 ≤ 20000) (hp : path.ended = false) (hpr : pr.length ≤ 301) : LoopInv w0 Wl Wl F pa ja sa pc jc sc ps js ss over n t (.slice xo pr.length yo) (pr.map Prod.snd) path j k T 0 :=
  ⟨xo, yo, t + 1, pr, h, h.eff0 (Below.refl _ _), Went.one hp, by omega, hpr⟩
theorem LoopInv.below (h : LoopInv w0 Wl wr F pa ja sa pc jc sc ps js ss over n t vo rs path j k T m) (hb : Below wr.heap.size wr W) : LoopInv w0 Wl W F pa ja sa pc jc sc ps js ss over n t vo rs path j k T m := by
  obtain ⟨xo, yo, t', pr, h1, h2, h3, h4, h5⟩ := h
  exact ⟨xo, yo, t', pr, h1.below hb, h2.later hb, h3, h4, h5⟩
theorem LoopInv.none (h : LoopInv w0 Wl wr F pa ja sa pc jc sc ps js ss over n t vo rs path j k T m) (hm : m < T.length) (hk : overP js path j k T[m] = none) : LoopInv w0 Wl wr F pa ja sa pc jc sc ps js ss over n t vo rs path j k T (m + 1) := by
  obtain ⟨xo, yo, t', pr, h1, h2, h3, h4, h5⟩ := h
  refine ⟨xo, yo, t', pr, h1, h2, ?_, by omega, h5⟩
  rw [List.take_succ_eq_append_getElem hm, kidsF_snoc]
  have hkk : kidF ps js ss n path j k T[m] = [] := by unfold kidF; rw [hk]
  rw [hkk, List.append_nil]
  exact h3
theorem LoopInv.gone {xo : Option Addr} {yo t' : Nat} {pr : List (RAddr × MRoute)} (h2 : Eff F vo (.slice xo pr.length yo) Wl wr) (h3 : Went (routeF ps js ss over) t rs (path :: kidsF ps js ss n path j k (T.take m)) t' (pr.map Prod.snd)) (h4 : t' + 1 ≤ 20000 + n + m) (hb : Below wr.heap.size wr W) (hm : m < T.length) {q : MPath} (hk : overP js path j k T[m] = some q)
    {e : Ending} (hw : WalkPost w0 W F pa ja sa pc jc sc ps js ss over n t' (.slice xo pr.length yo) (pr.map Prod.snd) (evs ps js ss n q (endAt ps (endE js j T[m]))) e w') : e = .returned (.tuple #[]) ∧ LoopInv w0 Wl w' F pa ja sa pc jc sc ps js ss over n t vo rs path j k T (m + 1) := by
  obtain ⟨he, xo', yo', t'', pr', k1, k2, k3, k4, k5⟩ := hw
  refine ⟨he, xo', yo', t'', pr', k1, (h2.later hb).trans k2, ?_, by omega, k5⟩
  rw [List.take_succ_eq_append_getElem hm, kidsF_snoc]
  have hkk : kidF ps js ss n path j k T[m] = evs ps js ss n q (endAt ps (endE js j T[m])) := by unfold kidF; rw [hk]
  rw [hkk]
  exact h3.app k3
theorem LoopInv.stop {w : World} {xo : Option Addr} {yo : Nat} {pr : List (RAddr × MRoute)} {E : List MPath} (h : LoopInv w0 Wl wr F pa ja sa pc jc sc ps js ss over n t (.slice xo pr.length yo) (pr.map Prod.snd) path j k T m) (hm : m = T.length) (hT : T.length ≤ 2) (hE : Eff F (.slice xo pr.length yo) (.slice xo pr.length yo) w Wl) (hev : E = path :: kidsF ps js ss n path j k T) :
    WalkPost w0 w F pa ja sa pc jc sc ps js ss over (n + 1) t (.slice xo pr.length yo) (pr.map Prod.snd) E (.returned (.tuple #[])) wr := by
  obtain ⟨xo', yo', t', pr', h1, h2, h3, h4, h5⟩ := h
  refine ⟨rfl, xo', yo', t', pr', h1, hE.trans h2, ?_, by omega, h5⟩
  rw [hm, List.take_length] at h3
  rw [hev]
  exact h3
end
theorem child_call {w0 w1 W : World} {F A Q B : Nat} {pa ja sa : Option Addr} {pc jc sc : Nat} {ps : List MPiece} {js : List MJoint} {ss : List MPiece} {over : Int} {n t i p pe : Nat} {way pos : Int} {xo : Option Addr} {yo : Nat} {pr : List (RAddr × MRoute)} {x0 x1 x2 x3 : Option Addr} {y0 y1 y2 y3 : Nat} {v7 : Value} {pre L : List MStep} {lies lies' : List MLie} {crosses crosses' : List Int} {PL : List MPart} {e : MEnd}
    (ih : WalkSpec w0 F pa ja sa pc jc sc ps js ss over n) (R : Right ps js ss) (ok : WalkOk ps js ss i pre ⟨p, way⟩ lies crosses pos) (hnot : (⟨(p : Int), way⟩ : MStep) ∉ pre) (hn : n + 1 + pre.length = 2 * ps.length + 2) (hL : pre ++ [(⟨(p : Int), way⟩ : MStep)] = L) (hPL : PL = fullParts ps (sigAt ss i) L)
    (hv : ValidE ps e) (hpe : e.piece = pe) (lv : ∀ l ∈ lies', ∃ (j : Nat) (hj : j < js.length), l.piece = j ∧ js[j].kind = 3 ∧ (l.side = 1 ∨ l.side = 2)) (ld : (lies'.map MEnd.piece).Nodup) (cl : crosses'.length ≤ pre.length + 1)
    (hs : WS w0 W F pa ja sa pc jc sc ps.length js.length ss.length over xo yo t pr) (h : RB w1 W A Q B x0 y0 x1 y1 x2 y2 x3 y3 (.slice none 0 0) v7 ⟨i, 0, L, lies', crosses', PL, [], []⟩) (hF : F < B) (ht : t ≤ 100000) (hpr : pr.length ≤ 301) {wy : Int} (hwy : (stepFromE e).side = wy) :
    Calls Try.prog 44 #[.pointer (some ⟨F, 0, none⟩), .agg #[.int .i64 i, .int .i64 0, .slice x0 L.length y0, .slice x1 lies'.length y1, .slice x2 crosses'.length y2, .slice x3 PL.length y3, .slice none 0 0, .slice none 0 0], .int .i64 pe, .int .i64 wy, .int .i64 0] W
      (WalkPost w0 W F pa ja sa pc jc sc ps js ss over n t (.slice xo pr.length yo) (pr.map Prod.snd) (evs ps js ss n (pathOf i (L ++ [stepFromE e]) lies' crosses') (endAt ps e))) := by
  have hw := ok.next R hnot hv lv ld cl
  have hse : stepFromE e = ⟨(pe : Int), wy⟩ := by
    have h1 := stepFromE_piece e
    generalize stepFromE e = s at h1 hwy
    cases s
    simp only at h1 hwy
    rw [h1, hwy, hpe]
  have hf := (farI_begin hv).1
  rw [hse] at hf hw ⊢
  dsimp only at hf
  rw [hL] at hw
  have hk := keep_rb h hF
  have hni := nil_rb h
  have hlen : PL.length = L.length := by rw [hPL, fullParts_len]
  have hag : (Value.agg #[.int .i64 i, .int .i64 0, .slice x0 L.length y0, .slice x1 lies'.length y1, .slice x2 crosses'.length y2, .slice x3 L.length y3, .slice none 0 0, .slice none 0 0]) = .agg #[.int .i64 i, .int .i64 0, .slice x0 L.length y0, .slice x1 lies'.length y1, .slice x2 crosses'.length y2, .slice x3 PL.length y3, .slice none 0 0, .slice none 0 0] := by rw [hlen]
  subst hPL
  have hc := ih x0 y0 x1 y1 x2 y2 x3 y3 i L pe wy lies' crosses' (endAt ps e) xo yo t pr W hw (by rw [← hL]; simp; omega) hs hk hni ht hpr
  rw [hag, hf] at hc
  exact hc
theorem stepFrom_side0 {e : MEnd} (h : e.side = 0) : (stepFromE e).side = 1 := by unfold stepFromE; rw [if_pos h]
theorem stepFrom_side1 {e : MEnd} (h : e.side = 1) : (stepFromE e).side = -1 := by unfold stepFromE; rw [if_neg (by omega)]
theorem rb_new {wr w5 : World} {z0 z1 z2 z3 : Option Addr} {t0 t1 t2 t3 : Nat} {st sp : Int} {steps : List MStep} {lies : List MLie} {crosses : List Int} {parts : List MPart} (hb : Below wr.heap.size wr w5) (hz : wr.heap.size + 1 ≤ w5.heap.size)
    (ho : OwnR w5 (wr.heap.size + 1) (.slice z0 steps.length t0) (.slice z1 lies.length t1) (.slice z2 crosses.length t2) (.slice z3 parts.length t3) ⟨st, sp, steps, lies, crosses, parts, [], []⟩) :
    RB wr (w5.alloc (.cells #[.int .i64 st, .int .i64 sp, .slice z0 steps.length t0, .slice z1 lies.length t1, .slice z2 crosses.length t2, .slice z3 parts.length t3, .slice none 0 0, .slice none 0 0] 42)) wr.heap.size w5.heap.size (wr.heap.size + 1) z0 t0 z1 t1 z2 t2 z3 t3 (.slice none 0 0) (.slice none 0 0) ⟨st, sp, steps, lies, crosses, parts, [], []⟩ :=
  ⟨hb.alloc (by omega) _, by omega, by omega, by simp; omega, qc_alloc _ _ _ _ _ _ _ _ _, ho.below ((Below.refl _ _).alloc (Nat.le_refl _) _)⟩
theorem flatN_push (cs : List Int) (x : Int) : flatN cs ++ [.int .i64 x] = flatN (cs ++ [x]) := by
  rw [flatN_snoc]
  rfl
end Go.Proofs.Ytmkdgnmmebldgaa

namespace Go.Proofs.Ytmkdgnmmebldgaa
open Go.RowKit Go.Deep Go.Maps
theorem owns_only {K : Nat → Prop} {w u : World} {B e s n : Nat} {v : Value} {xs : List Value} (h : w.ownsRow B e s v n xs) (hO : Only K w u) (hK : ∀ k, K k → k < B) : u.ownsRow B e s v n xs := by
  refine ⟨h.1, ?_⟩
  rcases h.2 with h2 | ⟨g, cap, cur, h1, h2, h3, h4⟩
  · exact Or.inl h2
  · exact Or.inr ⟨g, cap, cur, h1, h2, (hO.block g (Array.getElem?_eq_some_iff.1 h3).1 (fun hk => by have := hK g hk; omega)).trans h3, h4⟩
end Go.Proofs.Ytmkdgnmmebldgaa

namespace Go.Proofs.Ytmkdgnmmebldgaa
open Go.RowKit Go.Deep Go.Maps
end Go.Proofs.Ytmkdgnmmebldgaa

namespace Go.Proofs.Ytmkdgnmmebldgaa
open Go.RowKit Go.Deep Go.Maps
def Grow (K K' : Nat → Prop) (w : World) : Prop := ∀ k, K' k → K k ∨ w.heap.size ≤ k
theorem Grow.refl (K : Nat → Prop) (w : World) : Grow K K w := fun _ h => Or.inl h
theorem Grow.mono {K K' : Nat → Prop} {w w' : World} (h : Grow K K' w') (hs : w.heap.size ≤ w'.heap.size) : Grow K K' w := fun k hk => (h k hk).imp id (fun h => Nat.le_trans hs h)
theorem Grow.trans {K K' K'' : Nat → Prop} {w w' : World} (h : Grow K K' w) (h' : Grow K' K'' w') (hs : w.heap.size ≤ w'.heap.size) : Grow K K'' w := fun k hk => by
  rcases h' k hk with h1 | h1
  · exact h k h1
  · exact Or.inr (Nat.le_trans hs h1)
def Visited (J : (Nat → Prop) → World → Prop) (Sx : World → Prop) (K : Nat → Prop) (u : World) (e : Ending) (u' : World) : Prop :=
  ∃ b : Bool, e = .returned (.bool b) ∧ Only K u u' ∧ (b = true → ∃ K', J K' u' ∧ Grow K K' u) ∧ (b = false → Sx u')
end Go.Proofs.Ytmkdgnmmebldgaa

namespace Go.Proofs.Ytmkdgnmmebldgaa
open Go.RowKit Go.Deep Go.Maps
theorem beyond3 {k t : Nat} (hk : k < 3) (ht : t ∈ beyondF 3 k) : max k t = 1 ∨ max k t = 2 := by
  have : k = 0 ∨ k = 1 ∨ k = 2 := by omega
  rcases this with rfl | rfl | rfl
  · have : t = 1 ∨ t = 2 := by simpa [beyondF] using ht
    omega
  · have : t = 0 := by simpa [beyondF] using ht
    omega
  · have : t = 0 := by simpa [beyondF] using ht
    omega
theorem WalkOk.over {ps : List MPiece} {js : List MJoint} {ss : List MPiece} (R : Right ps js ss) {i : Nat} {pre : List MStep} {s : MStep} {lies : List MLie} {crosses : List Int} {pos : Int} (h : WalkOk ps js ss i pre s lies crosses pos) (hr : s ∉ pre)
    {j k t : Nat} (hj : j < js.length) (hk : k < js[j].ends.length) (ht : t ∈ beyondF (kindE js j) k) {q : MPath} (hq : overP js (pathOf i (pre ++ [s]) lies crosses) j k t = some q) :
    ∃ lies' crosses', q = pathOf i (pre ++ [s] ++ [stepFromE (endE js j t)]) lies' crosses' ∧ WalkOk ps js ss i (pre ++ [s]) (stepFromE (endE js j t)) lies' crosses' (endAt ps (endE js j t)) := by
  have hkd := R.kind j hj
  have hke := kindE_at hj
  have htl : t < js[j].ends.length := beyond_lt hkd.2.2 hk (by rw [← hke]; exact ht)
  have hve : ValidE ps (endE js j t) := by
    rw [endE_at hj htl]
    exact R.ends j hj t htl
  have hcl := h.cl
  by_cases h4 : kindE js j = 4
  · rw [over_cross h4] at hq
    injection hq with hq
    exact ⟨lies, crosses ++ [(j : Int)], hq.symm, h.next R hr hve h.lv h.ld (by simp; exact hcl)⟩
  · by_cases h3 : kindE js j = 3
    · by_cases hz : lieF lies j = 0
      · rw [over_new h3 hz] at hq
        injection hq with hq
        have hna : ¬ lies.any (fun l => l.piece == (j : Int)) = true := fun ha => lieF_any h.lv ha hz
        have hk3 : js[j].kind = 3 := by rw [← hke]; exact h3
        have hmx := beyond3 (k := k) (t := t) (by have := hkd.2.2; omega) (by rw [← h3]; exact ht)
        exact ⟨_, crosses, hq.symm, h.next R hr hve (lies_push h.lv hj hk3 (by omega)) (lies_pushd h.ld hna) (by omega)⟩
      · by_cases hm : lieF lies j = (max k t : Nat)
        · rw [over_same h3 hm hz] at hq
          injection hq with hq
          exact ⟨lies, crosses, hq.symm, h.next R hr hve h.lv h.ld (by omega)⟩
        · rw [over_other h3 hm hz] at hq
          exact absurd hq (by simp)
    · have hq2 : overP js (pathOf i (pre ++ [s]) lies crosses) j k t = some (pathOf i (pre ++ [s] ++ [stepFromE (endE js j t)]) lies crosses) := by
        unfold overP
        dsimp only
        rw [if_neg h4, if_neg h3]
        rfl
      rw [hq2] at hq
      injection hq with hq
      exact ⟨lies, crosses, hq.symm, h.next R hr hve h.lv h.ld (by omega)⟩
def PAway (K : Nat → Prop) (w : World) (d : PAddr) (p : MPath) : Prop := ∀ u, Only K w u → PListsAt u d p
theorem PAway.at {K : Nat → Prop} {w : World} {d : PAddr} {p : MPath} (h : PAway K w d p) : PListsAt w d p := h w (Only.refl K w)
theorem PAway.below {K : Nat → Prop} {w w' : World} {d : PAddr} {p : MPath} (h : PAway K w d p) (hb : Below w.heap.size w w') : PAway K w' d p := fun u hu => h u ((Only.of_below hb).trans hu)
def StopIn (Stop : List MPath → World → Prop) (E : List MPath) (u : World) : Prop := ∃ E1 E2, E = E1 ++ E2 ∧ Stop E1 u
end Go.Proofs.Ytmkdgnmmebldgaa

namespace Go.Proofs.Ytmkdgnmmebldgaa
open Go.RowKit Go.Deep Go.Maps
end Go.Proofs.Ytmkdgnmmebldgaa

namespace Go.Proofs.Ytmkdgnmmebldgaa
open Go.RowKit Go.Deep Go.Maps
theorem allEvs_succ {ps : List MPiece} {js : List MJoint} {ss : List MPiece} {m : Nat} (hm : m < ss.length) : allEvs ps js ss (m + 1) = allEvs ps js ss m ++ evs ps js ss (depthR ps) (beginP m ss[m]) ss[m].speed := by
  rw [allEvs, List.getElem?_eq_getElem hm]
theorem StopIn.more {Stop : List MPath → World → Prop} {A : List MPath} {u : World} (h : StopIn Stop A u) (B : List MPath) : StopIn Stop (A ++ B) u := by
  obtain ⟨E1, E2, h1, h2⟩ := h
  exact ⟨E1, E2 ++ B, by rw [h1, List.append_assoc], h2⟩
end Go.Proofs.Ytmkdgnmmebldgaa

namespace Go.Proofs.Ytmkdgnmmebldgaa
open Go.RowKit Go.Deep Go.Maps
def encQ (x : PAddr × MPath) : List Value := [.int .i64 x.2.start, .int .i64 x.2.stop, .bool x.2.ended, .slice x.1.a0 x.2.steps.length x.1.c0, .slice x.1.a1 x.2.lies.length x.1.c1, .slice x.1.a2 x.2.crosses.length x.1.c2]
def flatQ (xs : List (PAddr × MPath)) : List Value := xs.flatMap encQ
structure EInv (w0 : World) (l D A B C bs : Nat) (rec : LoopState → Option Code → Loop) (K : Nat → Prop) (E : List MPath) (W : World) : Prop where
  below : Below w0.heap.size w0 W
  loop : W.heap[l]? = some (.loop (rec .ready none))
  dfr : W.heap[D]? = some (.deferred (some []))
  come : W.rowIs C 3 1 (fun _ => .int .i64 (E.length : Int))
  res : W.rowIs B 126 1 (fun _ => .slice none 0 0)
  own : ∃ (x : Option Addr) (y : Nat) (xs : List (PAddr × MPath)), W.rowIs A 126 1 (fun _ => .slice x xs.length y) ∧ W.ownsRow bs 129 6 (.slice x xs.length y) xs.length (flatQ xs) ∧ xs.map Prod.snd = endedL E ∧ (∀ q ∈ xs, PAway K W q.1 q.2) ∧
    ∀ k, K k ↔ k = l ∨ k = D ∨ k = A ∨ k = B ∨ k = C ∨ (Value.slice x xs.length y).ownBlock = some k
  few : E.length ≤ 20000 ∧ (endedL E).length ≤ 300
  low : w0.heap.size ≤ B ∧ B < A ∧ A < C ∧ C < D ∧ D < l ∧ l < bs
structure EStop (w0 : World) (l D B : Nat) (rec : LoopState → Option Code → Loop) (E : List MPath) (W : World) : Prop where
  below : Below w0.heap.size w0 W
  loop : W.heap[l]? = some (.loop (rec .done (some .ret)))
  dfr : W.heap[D]? = some (.deferred (some []))
  res : W.rowIs B 126 1 (fun _ => .slice none 0 0)
  past : 20000 < E.length ∨ 300 < (endedL E).length
theorem get_lt {w : World} {k : Nat} {o : Obj} (h : w.heap[k]? = some o) : k < w.heap.size := (Array.getElem?_eq_some_iff.1 h).1
theorem EInv.lt {w0 : World} {l D A B C bs : Nat} {rec : LoopState → Option Code → Loop} {K : Nat → Prop} {E : List MPath} {W : World} (h : EInv w0 l D A B C bs rec K E W) : ∀ k, K k → k < W.heap.size := by
  intro k hk
  obtain ⟨x, y, xs, h1, h2, _, _, h5⟩ := h.own
  rcases (h5 k).1 hk with rfl | rfl | rfl | rfl | rfl | hk
  · exact get_lt h.loop
  · exact get_lt h.dfr
  · exact h1.lt
  · exact h.res.lt
  · exact h.come.lt
  · exact (h2.lt k hk).2
theorem EInv.keep {w0 : World} {l D A B C bs : Nat} {rec : LoopState → Option Code → Loop} {K : Nat → Prop} {E : List MPath} {W W' : World} (h : EInv w0 l D A B C bs rec K E W) (hb : Below W.heap.size W W') : EInv w0 l D A B C bs rec K E W' := by
  obtain ⟨x, y, xs, h1, h2, h3, h4, h5⟩ := h.own
  exact ⟨h.below.trans (hb.mono h.below.size), (hb.block _ (get_lt h.loop)).trans h.loop, (hb.block _ (get_lt h.dfr)).trans h.dfr, h.come.of_block (hb.block _ h.come.lt), h.res.of_block (hb.block _ h.res.lt),
    ⟨x, y, xs, h1.of_block (hb.block _ h1.lt), owns_below h2 hb, h3, fun q hq => (h4 q hq).below hb, h5⟩, h.few, h.low⟩
theorem EStop.keep {w0 : World} {l D B : Nat} {rec : LoopState → Option Code → Loop} {E : List MPath} {W W' : World} (h : EStop w0 l D B rec E W) (hb : Below W.heap.size W W') : EStop w0 l D B rec E W' :=
  ⟨h.below.trans (hb.mono h.below.size), (hb.block _ (get_lt h.loop)).trans h.loop, (hb.block _ (get_lt h.dfr)).trans h.dfr, h.res.of_block (hb.block _ h.res.lt), h.past⟩
def PathsOut (w : World) (v : Value) (L : List MPath) : Prop :=
  ∃ (x : Option Addr) (y : Nat) (xs : List (PAddr × MPath)), v = .slice x xs.length y ∧ xs.map Prod.snd = L ∧
    (xs = [] ∨ ∃ b, x = some ⟨b, 0, none⟩ ∧ ∀ i (h : i < xs.length) j u, (encQ xs[i])[j]? = some u → w.cell? ⟨b, i * 6 + j, none⟩ = some u) ∧ ∀ q ∈ xs, PListsAt w q.1 q.2
theorem PathsOut.nil (w : World) : PathsOut w (.slice none 0 0) [] := ⟨none, 0, [], rfl, rfl, Or.inl rfl, fun q hq => by cases hq⟩
theorem PathsOut.below {w w' : World} {v : Value} {L : List MPath} (h : PathsOut w v L) (hb : Below w.heap.size w w') : PathsOut w' v L := by
  obtain ⟨x, y, xs, h1, h2, h3, h4⟩ := h
  refine ⟨x, y, xs, h1, h2, ?_, fun q hq => (h4 q hq).below hb⟩
  rcases h3 with h3 | ⟨b, h3, h5⟩
  · exact Or.inl h3
  · exact Or.inr ⟨b, h3, fun i hi j u hu => cell_later hb (h5 i hi j u hu)⟩
end Go.Proofs.Ytmkdgnmmebldgaa

namespace Go.Proofs.Ytmkdgnmmebldgaa
open Go
section
variable {P : Program} {Q : Exit → Act → World → Prop} {l : List Oper}
end
end Go.Proofs.Ytmkdgnmmebldgaa

namespace Go.Proofs.Ytmkdgnmmebldgaa
open Go.RowKit Go.Deep Go.Maps
end Go.Proofs.Ytmkdgnmmebldgaa
