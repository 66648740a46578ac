import Derived.Test.YtmkdgnmmebldgaaGreatEx1
import Derived.StillTail
import Derived.BigQuiet
import Derived.Test.YtmkdgnmmebldgaaGreatEx23
namespace Go.Proofs.YtmkdgnmmebldgaaGreat
open Go

/-! A region that draws its order: some operations only read, and read the same in every world of a class C; the others ('loud') wait for each other in the order of the text, and keep the class; behind them a tail that is a chain. One walk in the order of the text serves every order. -/

section
variable {P : Program} {ops : Array Oper} {md : Region.Mode} {C : World → Prop} {lo : Oper → Bool}

/-- Nothing but a normal end. -/
def noExit : Exit → Act → World → Prop := fun _ _ _ => False

/-- The operation hands back v and leaves the world alone. -/
def ReadsAt (P : Program) (o : Oper) (a : Act) (w : World) (v : Value) : Prop :=
  (execOp a.eval o).run P w = .ok (.value v) w ∨ ((execOp a.eval o).run P w = .ok .skip w ∧ v = undef)

theorem ReadsAt.one {o : Oper} {a : Act} {w : World} {v u : Value} (h : ReadsAt P o a w v) (k : ReadsAt P o a w u) : v = u := by
  unfold ReadsAt at *
  rcases h with h | ⟨h, h'⟩ <;> rcases k with k | ⟨k, k'⟩
  · rw [h] at k
    injection k with k1 _
    injection k1
  · rw [h] at k
    injection k with k1 _
    cases k1
  · rw [h] at k
    injection k with k1 _
    cases k1
  · rw [h', k']

/-- One operation, by its kind. -/
def mixO (P : Program) (ops : Array Oper) (C : World → Prop) (lo : Oper → Bool) (o : Oper) (K : Act → World → Prop) (a : Act) (w : World) : Prop :=
  if Region.wanted o (yielded ops a.tmps) = true then
    (if lo o = true then o.wp P a w (fun a' w' => C w' ∧ K a' w') noExit else ∃ v, (∀ w', C w' → ReadsAt P o a w' v) ∧ K (a.put o.dst v) w)
  else K (a.put o.dst undef) w

def mixOp (P : Program) (ops : Array Oper) (C : World → Prop) (lo : Oper → Bool) (i : Nat) (K : Act → World → Prop) (a : Act) (w : World) : Prop :=
  match ops[i]? with
  | none => False
  | some o => mixO P ops C lo o K a w

/-- The walk in the order of the text. -/
def wpMix (P : Program) (ops : Array Oper) (C : World → Prop) (lo : Oper → Bool) (T : Act → World → Prop) : List Oper → Act → World → Prop
  | [], a, w => T a w
  | o :: rest, a, w => mixO P ops C lo o (wpMix P ops C lo T rest) a w

theorem mixO_mono {o : Oper} {K K' : Act → World → Prop} {a : Act} {w : World} (hC : C w) (h : ∀ a w, C w → K a w → K' a w) (hh : mixO P ops C lo o K a w) : mixO P ops C lo o K' a w := by
  unfold mixO at *
  split
  · rename_i hw
    rw [if_pos hw] at hh
    split
    · rename_i hl
      rw [if_pos hl] at hh
      exact Oper.wp_mono (fun a w hk => ⟨hk.1, h a w hk.1 hk.2⟩) hh
    · rename_i hl
      rw [if_neg hl] at hh
      obtain ⟨v, h1, h2⟩ := hh
      exact ⟨v, h1, h _ _ hC h2⟩
  · rename_i hw
    rw [if_neg hw] at hh
    exact h _ _ hC hh

theorem mixOp_mono {i : Nat} {K K' : Act → World → Prop} {a : Act} {w : World} (hC : C w) (h : ∀ a w, C w → K a w → K' a w) (hh : mixOp P ops C lo i K a w) : mixOp P ops C lo i K' a w := by
  unfold mixOp at *
  split
  · rename_i ho; simp only [ho] at hh
  · rename_i o ho; simp only [ho] at hh; exact mixO_mono hC h hh

theorem upon_noExit {o : Oper} {a : Act} {K : Act → World → Prop} {Q : Exit → Act → World → Prop} {r : Result Next} (h : o.upon P a K noExit r) : o.upon P a K Q r := by
  cases r with
  | ok n w' =>
    cases n <;> simp only [Oper.upon] at h ⊢ <;> first | exact h | exact h.mono (fun e w'' he => by
      cases e with
      | returned v => exact he
      | panicked c => exact absurd he (fun h => h)
      | outgrown => obtain ⟨_, _, he⟩ := he; exact absurd he (fun h => h))
  | halt x w' => cases x <;> simp only [Oper.upon] at h ⊢ <;> exact absurd h (fun h => h)

theorem wpOp_of_mixOp {i : Nat} {K : Act → World → Prop} {K' : Act → World → Prop} {Q : Exit → Act → World → Prop} {a : Act} {w : World} (hC : C w) (h : ∀ a w, C w → K a w → K' a w) (hh : mixOp P ops C lo i K a w) : wpOp P ops Q i K' a w := by
  unfold mixOp at hh
  unfold wpOp
  split
  · rename_i ho; simp only [ho] at hh
  · rename_i o ho
    simp only [ho] at hh
    unfold mixO at hh
    split
    · rename_i hw
      rw [if_pos hw] at hh
      split at hh
      · exact .inl (Oper.wp_mono (fun a w hk => h a w hk.1 hk.2) (upon_noExit hh))
      · obtain ⟨v, h1, h2⟩ := hh
        refine .inl ?_
        unfold Oper.wp
        rcases h1 w hC with h3 | ⟨h3, h4⟩
        · rw [h3]; exact h _ _ hC h2
        · rw [h3]
          subst h4
          exact h _ _ hC h2
    · rename_i hw
      rw [if_neg hw] at hh
      exact h _ _ hC hh

/-- Whatever order is picked for the head. -/
def wpAnyM (P : Program) (md : Region.Mode) (ops : Array Oper) (C : World → Prop) (lo : Oper → Bool) (n : Nat) (L : Array Bool → Act → World → Prop) : Nat → Array Bool → Act → World → Prop
  | 0, listed, a, w => L listed a w
  | f + 1, listed, a, w =>
    Region.ready md ops listed ≠ [] ∧ ∀ i ∈ Region.ready md ops listed, i < n ∧ mixOp P ops C lo i (wpAnyM P md ops C lo n L f (listed.setIfInBounds i true)) a w

theorem wpAny_of_mix {n g : Nat} {L : Array Bool → Act → World → Prop} {Q : Exit → Act → World → Prop} (hL : ∀ listed a w, L listed a w → wpAny P md ops Q g listed a w) :
    ∀ (f : Nat) (listed : Array Bool) (a : Act) (w : World), C w → wpAnyM P md ops C lo n L f listed a w → wpAny P md ops Q (f + g) listed a w
  | 0, listed, a, w, _, h => by rw [Nat.zero_add]; exact hL _ _ _ h
  | f + 1, listed, a, w, hC, h => by
    rw [show f + 1 + g = (f + g) + 1 by omega]
    exact ⟨fun h0 => absurd h0 h.1, fun i hi => wpOp_of_mixOp hC (fun a' w' hC' h' => wpAny_of_mix hL f _ a' w' hC' h') (h.2 i hi).2⟩

/-- In state a the operation leaves v in its temporary, in every world of the class. -/
def YieldsM (P : Program) (ops : Array Oper) (C : World → Prop) (o : Oper) (v : Value) (a : Act) : Prop :=
  (Region.wanted o (yielded ops a.tmps) = true ∧ ∀ w, C w → ReadsAt P o a w v) ∨ (Region.wanted o (yielded ops a.tmps) = false ∧ v = undef)

theorem YieldsM.of_same {o : Oper} {v : Value} {a a' : Act} (hy : YieldsM P ops C o v a) (he : execOp a'.eval o = execOp a.eval o)
    (hw : Region.wanted o (yielded ops a'.tmps) = Region.wanted o (yielded ops a.tmps)) : YieldsM P ops C o v a' := by
  unfold YieldsM ReadsAt at *
  rw [he, hw]
  exact hy

theorem YieldsM.one {o : Oper} {v u : Value} {a : Act} {w : World} (hC : C w) (h : YieldsM P ops C o v a) (k : YieldsM P ops C o u a) : v = u := by
  rcases h with ⟨h1, h2⟩ | ⟨h1, h2⟩ <;> rcases k with ⟨k1, k2⟩ | ⟨k1, k2⟩
  · exact (h2 w hC).one (k2 w hC)
  · rw [h1] at k1; cases k1
  · rw [h1] at k1; cases k1
  · rw [h2, k2]

theorem YieldsM.mixO {o : Oper} {v : Value} {a : Act} {w : World} {K : Act → World → Prop} (hl : lo o = false ∨ Region.wanted o (yielded ops a.tmps) = false) (hy : YieldsM P ops C o v a) (h : K (a.put o.dst v) w) : mixO P ops C lo o K a w := by
  unfold Go.Proofs.YtmkdgnmmebldgaaGreat.mixO
  rcases hy with ⟨hw, hv⟩ | ⟨hw, rfl⟩
  · have hl' : lo o = false := hl.resolve_right (by rw [hw]; simp)
    rw [if_pos hw, if_neg (by rw [hl']; simp)]
    exact ⟨v, hv, h⟩
  · rw [if_neg (by rw [hw]; simp)]
    exact h

theorem yieldsM_of {o : Oper} {a : Act} {w : World} {K : Act → World → Prop} (hl : lo o = false ∨ Region.wanted o (yielded ops a.tmps) = false) (h : mixO P ops C lo o K a w) : ∃ v, YieldsM P ops C o v a ∧ K (a.put o.dst v) w := by
  unfold mixO at h
  by_cases hw : Region.wanted o (yielded ops a.tmps) = true
  · have hl' : lo o = false := hl.resolve_right (by rw [hw]; simp)
    rw [if_pos hw, if_neg (by rw [hl']; simp)] at h
    obtain ⟨v, h1, h2⟩ := h
    exact ⟨v, .inl ⟨hw, h1⟩, h2⟩
  · rw [if_neg hw] at h
    exact ⟨undef, .inr ⟨by simpa using hw, rfl⟩, h⟩

/-- What an operation runs to, told without the state. -/
def outO (P : Program) (G : Value → Option Deferred → World → Prop) : Result Next → Prop
  | .ok (.value v) w' => G v none w'
  | .ok .skip w' => G undef none w'
  | .ok (.defer d) w' => G undef (some d) w'
  | .ok (.enter f args) w' => Calls P f args w' fun e w'' => ∃ v, e = .returned v ∧ G v none w''
  | .ok (.row row args) w' => Rows P row args w' fun v w'' => G v none w''
  | _ => False

def after1 (a : Act) (dst : Option Tmp) (v : Value) : Option Deferred → Act
  | none => a.put dst v
  | some d => { a with defers := d :: a.defers }.put dst v

theorem out_of_upon {o : Oper} {a : Act} {K : Act → World → Prop} {r : Result Next} (h : o.upon P a K noExit r) : outO P (fun v d w' => K (after1 a o.dst v d) w') r := by
  cases r with
  | ok n w' =>
    cases n <;> simp only [Oper.upon] at h <;> simp only [outO, after1] <;> first | exact h | exact h.mono (fun e w'' he => by
      rcases e with v | c | _
      · exact ⟨v, rfl, he⟩
      · exact absurd he (fun h => h)
      · obtain ⟨_, _, he⟩ := he
        exact absurd he (fun h => h))
  | halt x w' => cases x <;> simp only [Oper.upon] at h <;> exact absurd h (fun h => h)

theorem upon_of_out {o : Oper} {a : Act} {K : Act → World → Prop} {r : Result Next} (h : outO P (fun v d w' => K (after1 a o.dst v d) w') r) : o.upon P a K noExit r := by
  cases r with
  | ok n w' =>
    cases n <;> simp only [outO, after1] at h <;> simp only [Oper.upon] <;> first | exact h | exact h.mono (fun e w'' he => by obtain ⟨v, rfl, hk⟩ := he; exact hk) | exact h.mono (fun _ _ h => h)
  | halt x w' => cases x <;> simp only [outO] at h

theorem outO_mono {G G' : Value → Option Deferred → World → Prop} {r : Result Next} (hg : ∀ v d w, G v d w → G' v d w) (h : outO P G r) : outO P G' r := by
  cases r with
  | ok n w' =>
    cases n <;> simp only [outO] at h ⊢ <;> first | exact hg _ _ _ h | exact h.mono (fun e w'' ⟨v, he, hk⟩ => ⟨v, he, hg _ _ _ hk⟩) | exact h.mono (fun _ _ h => hg _ _ _ h)
  | halt x w' => cases x <;> simp only [outO] at h

theorem outO_some {G : Value → Option Deferred → World → Prop} {r : Result Next} (h : outO P G r) : ∃ v d w, G v d w := by
  cases r with
  | ok n w' =>
    cases n <;> simp only [outO] at h
    case value => exact ⟨_, _, _, h⟩
    case skip => exact ⟨_, _, _, h⟩
    case defer => exact ⟨_, _, _, h⟩
    case enter =>
      obtain ⟨_, _, _, ⟨v, _, hk⟩, _⟩ := h []
      exact ⟨_, _, _, hk⟩
    case row =>
      obtain ⟨_, _, hk, _⟩ := h default []
      exact ⟨_, _, _, hk⟩
  | halt x w' => cases x <;> simp only [outO] at h

theorem after1_put (a : Act) {x y : Option Tmp} (v u : Value) (d : Option Deferred) (h : ∀ t, x = some t → y ≠ some t) : after1 (a.put x v) y u d = (after1 a y u d).put x v := by
  cases d with
  | none => exact Act.put_comm a v u h
  | some d =>
    have := Act.put_comm ({ a with defers := d :: a.defers } : Act) v u h
    cases x <;> cases y <;> simp_all [after1, Act.put]

theorem after1_eval (o : Oper) (hs : ∀ cs b, o.op ≠ .select cs b) (a : Act) (dst : Option Tmp) (v : Value) (d : Option Deferred) (h : ∀ t, dst = some t → t ∉ o.looksAt ops) :
    execOp (after1 a dst v d).eval o = execOp a.eval o ∧ Region.wanted o (yielded ops (after1 a dst v d).tmps) = Region.wanted o (yielded ops a.tmps) := by
  cases d with
  | none => exact ⟨execOp_put o hs a dst v h, wanted_put o a dst v h⟩
  | some d =>
    have e1 := execOp_put o hs ({ a with defers := d :: a.defers } : Act) dst v h
    have e2 := wanted_put o ({ a with defers := d :: a.defers } : Act) dst v h
    refine ⟨e1.trans ?_, e2⟩
    have : ({ a with defers := d :: a.defers } : Act).eval = a.eval := by
      funext x
      cases x <;> rfl
    rw [this]

/-- One operation oj, apart from oi, which reads. -/
theorem mixO_put {oi oj : Oper} {v : Value} (hap : oi.apart ops oj = true)
    (hsi : ∀ cs b, oi.op ≠ .select cs b) (hsj : ∀ cs b, oj.op ≠ .select cs b) {K : Act → World → Prop} {a : Act} {w : World}
    (hy : YieldsM P ops C oi v a) (h : mixO P ops C lo oj K (a.put oi.dst v) w) :
    mixO P ops C lo oj (fun a' w' => (YieldsM P ops C oi v a' ∧ Region.wanted oi (yielded ops a'.tmps) = Region.wanted oi (yielded ops a.tmps)) ∧ K (a'.put oi.dst v) w') a w := by
  obtain ⟨h1, h2, h3⟩ := Oper.apart_spec hap
  have keep : ∀ u, YieldsM P ops C oi v (a.put oj.dst u) ∧ Region.wanted oi (yielded ops (a.put oj.dst u).tmps) = Region.wanted oi (yielded ops a.tmps) := fun u =>
    ⟨hy.of_same (execOp_put oi hsi a oj.dst u h3) (wanted_put oi a oj.dst u h3), wanted_put oi a oj.dst u h3⟩
  unfold mixO at *
  rw [wanted_put oj a oi.dst v h1] at h
  split
  · rename_i hw
    rw [if_pos hw] at h
    split
    · rename_i hl
      rw [if_pos hl] at h
      unfold Oper.wp at *
      rw [execOp_put oj hsj a oi.dst v h1] at h
      refine upon_of_out (outO_mono ?_ (out_of_upon h))
      rintro u d w' ⟨hc, hk⟩
      refine ⟨hc, ?_, ?_⟩
      · obtain ⟨e1, e2⟩ := after1_eval (ops := ops) oi hsi a oj.dst u d h3
        exact ⟨hy.of_same e1 e2, e2⟩
      · rw [← after1_put a v u d h2]
        exact hk
    · rename_i hl
      rw [if_neg hl] at h
      obtain ⟨u, hu, hk⟩ := h
      refine ⟨u, fun w' hC => ?_, keep u, by rw [← Act.put_comm a v u h2]; exact hk⟩
      have := hu w' hC
      unfold ReadsAt at *
      rwa [execOp_put oj hsj a oi.dst v h1] at this
  · rename_i hw
    rw [if_neg hw] at h
    exact ⟨keep _, by rw [← Act.put_comm a v undef h2]; exact h⟩

/-- An operation that reads may be taken first. -/
theorem wpAnyM_first {n i : Nat} {oi : Oper} {v : Value} {L : Array Bool → Act → World → Prop} (hi : ops[i]? = some oi) (hsel : ∀ (j : Nat) (o : Oper) cs b, ops[j]? = some o → o.op ≠ .select cs b)
    (hs : Region.sinkB md ops n = true) (hc : Region.chainB md ops n = true) (hn : n < ops.size) (hin : i < n)
    (hdone : ∀ listed a w, L listed a w → ∀ j ∈ Region.ready md ops listed, n ≤ j) :
    ∀ (f : Nat) (listed : Array Bool) (a : Act) (w : World), C w → HeadInv md ops n listed →
      (∀ j oj, ops[j]? = some oj → j ≠ i → listed.getD j true = false → (∀ e ∈ oj.after, Region.binds md e = true → e.on ≠ i) → oi.apart ops oj = true) →
      i ∈ Region.ready md ops listed → (lo oi = false ∨ Region.wanted oi (yielded ops a.tmps) = false) → YieldsM P ops C oi v a →
      wpAnyM P md ops C lo n L f (listed.setIfInBounds i true) (a.put oi.dst v) w → wpAnyM P md ops C lo n L (f + 1) listed a w := by
  intro f
  induction f with
  | zero =>
    intro listed a w _ inv _ hr hl hy H
    have hun := (mem_ready.1 hr).1
    refine ⟨fun h => (by rw [h] at hr; cases hr), fun j hj => ?_⟩
    have hjn : j < n := by
      rcases Nat.lt_or_ge j n with h | h
      · exact h
      · exact absurd hj (tail_waits hs hc hn inv _ i rfl hin hun j h)
    refine ⟨hjn, ?_⟩
    by_cases hji : j = i
    · subst hji
      unfold mixOp
      simp only [hi]
      exact hy.mixO hl H
    · have := hdone _ _ _ H j (ready_mono hj hji)
      omega
  | succ f ih =>
    intro listed a w hC inv hfree hr hl hy H
    have hun := (mem_ready.1 hr).1
    refine ⟨fun h => (by rw [h] at hr; cases hr), fun j hj => ?_⟩
    have hjn : j < n := by
      rcases Nat.lt_or_ge j n with h | h
      · exact h
      · exact absurd hj (tail_waits hs hc hn inv _ i rfl hin hun j h)
    refine ⟨hjn, ?_⟩
    by_cases hji : j = i
    · subst hji
      unfold mixOp
      simp only [hi]
      exact hy.mixO hl H
    · have h1 := (H.2 j (ready_mono hj hji)).2
      obtain ⟨hjun, oj, hoj, hall⟩ := mem_ready.1 hj
      have hnot : ∀ e ∈ oj.after, Region.binds md e = true → e.on ≠ i := fun e he hb heq => by
        have h1 := hall e he hb
        rw [heq, getD_both hun] at h1
        cases h1
      have hap := hfree j oj hoj hji hjun hnot
      have hfree' : ∀ k ok, ops[k]? = some ok → k ≠ i → (listed.setIfInBounds j true).getD k true = false →
          (∀ e ∈ ok.after, Region.binds md e = true → e.on ≠ i) → oi.apart ops ok = true := fun k ok hk hki hun hno => by
        refine hfree k ok hk hki ?_ hno
        by_cases hjk : j = k
        · subst hjk; exact hjun
        · rw [getD_set_ne true hjk] at hun; exact hun
      unfold mixOp at h1 ⊢
      simp only [hoj] at h1 ⊢
      have h2 := mixO_put hap (fun cs b => hsel i oi cs b hi) (fun cs b => hsel j oj cs b hoj) hy h1
      refine mixO_mono hC (fun a' w' hC' h => ih (listed.setIfInBounds j true) a' w' hC' (inv.set hj hjn) hfree' (ready_mono hr (Ne.symm hji)) (hl.imp id (fun h0 => h.1.2.trans h0)) h.1.1 ?_) h2
      rw [Array.setIfInBounds_comm _ _ hji]
      exact h.2

/-- The loud operation oi is run behind the reading oj as ahead of it. -/
theorem wp_put {oi oj : Oper} {v : Value} (hap : oj.apart ops oi = true) (hsi : ∀ cs b, oi.op ≠ .select cs b) {K : Act → World → Prop} {a : Act} {w : World}
    (h : oi.wp P a w (fun a' w' => K (a'.put oj.dst v) w') noExit) : oi.wp P (a.put oj.dst v) w K noExit := by
  obtain ⟨h1, h2, h3⟩ := Oper.apart_spec hap
  unfold Oper.wp at *
  rw [execOp_put oi hsi a oj.dst v h1]
  refine upon_of_out (outO_mono ?_ (out_of_upon h))
  intro u d w' hk
  rw [after1_put a v u d h2]
  exact hk

/-- What waits for i: closed under what may come up while i has not. -/
structure Able (md : Region.Mode) (ops : Array Oper) (lo : Oper → Bool) (i : Nat) (listed : Array Bool) (A : Nat → Bool) : Prop where
  has : ∀ j, listed.getD j false = true → A j = true
  next : ∀ j oj, ops[j]? = some oj → j ≠ i → (∀ e ∈ oj.after, Region.binds md e = true → A e.on = true) → A j = true
  loud : ∀ j oj, ops[j]? = some oj → A j = true → lo oj = true → listed.getD j false = true

theorem Able.set {i j : Nat} {listed : Array Bool} {A : Nat → Bool} (h : Able md ops lo i listed A) (hj : j ∈ Region.ready md ops listed) (hji : j ≠ i) : Able md ops lo i (listed.setIfInBounds j true) A := by
  obtain ⟨_, oj, hoj, hall⟩ := mem_ready.1 hj
  have hA : A j = true := h.next j oj hoj hji (fun e he hb => h.has _ (hall e he hb))
  refine ⟨fun k hk => ?_, h.next, fun k ok hk hk1 hk2 => getD_set_true (h.loud k ok hk hk1 hk2)⟩
  by_cases hjk : j = k
  · subst hjk; exact hA
  · rw [getD_set_ne false hjk] at hk
    exact h.has k hk

/-- A loud operation that may come up may be taken first: those that may come up beside it only read. -/
theorem wpAnyM_loud {n i : Nat} {oi : Oper} {A : Nat → Bool} {L : Array Bool → Act → World → Prop} (hi : ops[i]? = some oi) (hlo : lo oi = true) (hsel : ∀ (j : Nat) (o : Oper) cs b, ops[j]? = some o → o.op ≠ .select cs b)
    (hs : Region.sinkB md ops n = true) (hc : Region.chainB md ops n = true) (hn : n < ops.size) (hin : i < n)
    (hdone : ∀ listed a w, L listed a w → ∀ j ∈ Region.ready md ops listed, n ≤ j) :
    ∀ (f : Nat) (listed : Array Bool) (a : Act) (w : World), C w → HeadInv md ops n listed → Able md ops lo i listed A →
      (∀ j oj, ops[j]? = some oj → j ≠ i → listed.getD j true = false → (∀ e ∈ oj.after, Region.binds md e = true → e.on ≠ i) → oi.apart ops oj = true) →
      i ∈ Region.ready md ops listed → Region.wanted oi (yielded ops a.tmps) = true →
      oi.wp P a w (fun a' w' => C w' ∧ wpAnyM P md ops C lo n L f (listed.setIfInBounds i true) a' w') noExit → wpAnyM P md ops C lo n L (f + 1) listed a w := by
  intro f
  induction f with
  | zero =>
    intro listed a w _ inv _ _ hr hw H
    have hun := (mem_ready.1 hr).1
    refine ⟨fun h => (by rw [h] at hr; cases hr), fun j hj => ?_⟩
    have hjn : j < n := by
      rcases Nat.lt_or_ge j n with h | h
      · exact h
      · exact absurd hj (tail_waits hs hc hn inv _ i rfl hin hun j h)
    refine ⟨hjn, ?_⟩
    by_cases hji : j = i
    · subst hji
      unfold mixOp mixO
      simp only [hi]
      rw [if_pos hw, if_pos hlo]
      exact H
    · unfold Oper.wp at H
      obtain ⟨_, _, _, _, h1⟩ := outO_some (out_of_upon H)
      have := hdone _ _ _ h1 j (ready_mono hj hji)
      omega
  | succ f ih =>
    intro listed a w hC inv hab hfree hr hw H
    have hun := (mem_ready.1 hr).1
    refine ⟨fun h => (by rw [h] at hr; cases hr), fun j hj => ?_⟩
    have hjn : j < n := by
      rcases Nat.lt_or_ge j n with h | h
      · exact h
      · exact absurd hj (tail_waits hs hc hn inv _ i rfl hin hun j h)
    refine ⟨hjn, ?_⟩
    by_cases hji : j = i
    · subst hji
      unfold mixOp mixO
      simp only [hi]
      rw [if_pos hw, if_pos hlo]
      exact H
    · obtain ⟨hjun, oj, hoj, hall⟩ := mem_ready.1 hj
      have hnot : ∀ e ∈ oj.after, Region.binds md e = true → e.on ≠ i := fun e he hb heq => by
        have h1 := hall e he hb
        rw [heq, getD_both hun] at h1
        cases h1
      have hlj : lo oj = false := by
        cases h : lo oj with
        | false => rfl
        | true =>
          have hA : A j = true := hab.next j oj hoj hji (fun e he hb => hab.has _ (hall e he hb))
          have := hab.loud j oj hoj hA h
          rw [getD_both hjun] at this
          cases this
      have hap := hfree j oj hoj hji hjun hnot
      obtain ⟨a1, a2, a3⟩ := Oper.apart_spec hap
      have hap' : oj.apart ops oi = true := by
        unfold Oper.apart at hap ⊢
        cases hx : oi.dst <;> cases hy : oj.dst <;> simp_all
        exact fun e => absurd e.symm (by simp_all)
      have hfree' : ∀ k ok, ops[k]? = some ok → k ≠ i → (listed.setIfInBounds j true).getD k true = false →
          (∀ e ∈ ok.after, Region.binds md e = true → e.on ≠ i) → oi.apart ops ok = true := fun k ok hk hki hun hno => by
        refine hfree k ok hk hki ?_ hno
        by_cases hjk : j = k
        · subst hjk; exact hjun
        · rw [getD_set_ne true hjk] at hun; exact hun
      -- the value that oj reads
      have hread : ∀ (u : Value) (d : Option Deferred) (w' : World), C w' ∧ wpAnyM P md ops C lo n L (f + 1) (listed.setIfInBounds i true) (after1 a oi.dst u d) w' →
          ∃ v, YieldsM P ops C oj v a ∧ wpAnyM P md ops C lo n L f ((listed.setIfInBounds i true).setIfInBounds j true) ((after1 a oi.dst u d).put oj.dst v) w' := fun u d w' h => by
        have h1 := (h.2.2 j (ready_mono hj hji)).2
        unfold mixOp at h1
        simp only [hoj] at h1
        obtain ⟨v, hv, hk⟩ := yieldsM_of (Or.inl hlj) h1
        obtain ⟨e1, e2⟩ := after1_eval (ops := ops) oj (fun cs b => hsel j oj cs b hoj) a oi.dst u d a1
        exact ⟨v, hv.of_same e1.symm e2.symm, hk⟩
      have HO := H
      unfold Oper.wp at HO
      obtain ⟨u, d, w', hG⟩ := outO_some (out_of_upon HO)
      obtain ⟨v, hv, _⟩ := hread u d w' hG
      unfold mixOp
      simp only [hoj]
      refine hv.mixO (Or.inl hlj) ?_
      refine ih (listed.setIfInBounds j true) (a.put oj.dst v) w hC (inv.set hj hjn) (hab.set hj hji) hfree' (ready_mono hr (Ne.symm hji)) ?_ ?_
      · rw [wanted_put oi a oj.dst v a3]; exact hw
      · refine wp_put hap' (fun cs b => hsel i oi cs b hi) ?_
        refine upon_of_out (outO_mono ?_ (out_of_upon HO))
        intro u d w' hG
        obtain ⟨v', hv', hk⟩ := hread u d w' hG
        have : v = v' := YieldsM.one hC hv hv'
        subst this
        refine ⟨hG.1, ?_⟩
        rw [Array.setIfInBounds_comm _ _ hji]
        exact hk

/-- What may come up while i has not, reckoned in the order of the text. -/
def ableA (md : Region.Mode) (ops : Array Oper) (i : Nat) (listed : Array Bool) : Array Bool :=
  (List.range ops.size).foldl (fun A j => if j != i && (listed.getD j false || ((ops[j]?).map (fun o => o.after.all (fun e => !Region.binds md e || A.getD e.on false))).getD false) then A.setIfInBounds j true else A) (Array.replicate ops.size false)
def ableB (md : Region.Mode) (ops : Array Oper) (lo : Oper → Bool) (i : Nat) (listed : Array Bool) (A : Array Bool) : Bool :=
  (List.range ops.size).all fun j =>
    match ops[j]? with
    | none => true
    | some o => (!listed.getD j false || A.getD j false) && (j == i || A.getD j false || !(o.after.all (fun e => !Region.binds md e || A.getD e.on false))) && (!A.getD j false || !lo o || listed.getD j false)

theorem able_of {i n : Nat} {listed : Array Bool} {A : Array Bool} (inv : HeadInv md ops n listed) (h : ableB md ops lo i listed A = true) : Able md ops lo i listed (fun j => A.getD j false) := by
  have hall : ∀ j oj, ops[j]? = some oj → ((!listed.getD j false || A.getD j false) && (j == i || A.getD j false || !(oj.after.all (fun e => !Region.binds md e || A.getD e.on false))) && (!A.getD j false || !lo oj || listed.getD j false)) = true := by
    intro j oj hj
    have hlt : j < ops.size := (Array.getElem?_eq_some_iff.1 hj).1
    have := List.all_eq_true.1 h j (List.mem_range.2 hlt)
    rw [hj] at this
    exact this
  refine ⟨fun j hj => ?_, fun j oj hoj hji hd => ?_, fun j oj hoj hA hl => ?_⟩
  · rcases Nat.lt_or_ge j ops.size with h' | h'
    · have := hall j ops[j] (Array.getElem?_eq_getElem h')
      rw [hj] at this
      simp at this
      simpa using this.1
    · exfalso
      have : listed.size ≤ j := by rw [inv.size]; exact h'
      simp [Array.getElem?_eq_none this] at hj
  · have := hall j oj hoj
    simp only [Bool.and_eq_true, Bool.or_eq_true, beq_iff_eq, Bool.not_eq_true'] at this
    rcases this.1.2 with (h1 | h1) | h1
    · exact absurd h1 hji
    · exact h1
    · rw [Array.all_eq_false] at h1
      obtain ⟨k, hk, h2⟩ := h1
      exfalso
      apply h2
      have h3 := hd _ (Array.getElem_mem hk)
      cases hb : Region.binds md oj.after[k] with
      | false => simp
      | true => simpa using h3 hb
  · have := hall j oj hoj
    simp only [Bool.and_eq_true, Bool.or_eq_true, Bool.not_eq_true'] at this
    rcases this.2 with (h1 | h1) | h1
    · rw [h1] at hA; cases hA
    · rw [h1] at hl; cases hl
    · exact h1

/-- The Bool over a region: each operation of the head may come up in the order of the text, is apart from those that don't wait for it; a loud one waits for all loud ones ahead of it; then the tail. -/
def mixHead (md : Region.Mode) (ops : Array Oper) (lo : Oper → Bool) (g : Nat) : Nat → Nat → Array Bool → Bool
  | 0, k, listed => Region.seqB md ops g k listed
  | f + 1, k, listed => (Region.ready md ops listed).contains k && Region.free md ops listed k && (match ops[k]? with | none => false | some o => !lo o || ableB md ops lo k listed (ableA md ops k listed)) && mixHead md ops lo g f (k + 1) (listed.setIfInBounds k true)
def mixB (md : Region.Mode) (ops : Array Oper) (lo : Oper → Bool) (n : Nat) : Bool :=
  Region.noSelect ops && decide (n < ops.size) && Region.sinkB md ops n && Region.chainB md ops n && mixHead md ops lo (ops.size - n) n 0 (Array.replicate ops.size false)

theorem wpAnyM_lex {n g : Nat} {T : Act → World → Prop} (hsel : Region.noSelect ops = true) (hs : Region.sinkB md ops n = true) (hc : Region.chainB md ops n = true) (hn : n < ops.size) :
    ∀ (l : List Oper) (k : Nat) (listed : Array Bool) (a : Act) (w : World), (∀ j, j < l.length → l[j]? = ops[k + j]?) → k + l.length = n → HeadInv md ops n listed → C w →
    mixHead md ops lo g l.length k listed = true → wpMix P ops C lo T l a w →
    wpAnyM P md ops C lo n (fun listed' a' w' => Region.seqB md ops g n listed' = true ∧ T a' w') l.length listed a w
  | [], k, listed, a, w, _, hk, _, _, hB, h => by
    have : k = n := by simpa using hk
    subst this
    exact ⟨by simpa [mixHead] using hB, h⟩
  | o :: l, k, listed, a, w, hl, hk, inv, hC, hB, h => by
    have h0 : ops[k]? = some o := by simpa using (hl 0 (by simp)).symm
    simp only [List.length_cons, mixHead, Bool.and_eq_true, h0] at hB
    obtain ⟨⟨⟨hr, hf⟩, hab⟩, hB'⟩ := hB
    have hkn : k < n := by simp only [List.length_cons] at hk; omega
    have hr' : k ∈ Region.ready md ops listed := by simpa using hr
    have hrec : ∀ a' w', C w' → wpMix P ops C lo T l a' w' → wpAnyM P md ops C lo n (fun listed' a' w' => Region.seqB md ops g n listed' = true ∧ T a' w') l.length (listed.setIfInBounds k true) a' w' := fun a' w' hC' h' =>
      wpAnyM_lex hsel hs hc hn l (k + 1) _ a' w' (fun j hj => by have := hl (j + 1) (by simp; omega); simpa [Nat.add_assoc, Nat.add_comm 1 j] using this) (by simp only [List.length_cons] at hk; omega) (inv.set hr' hkn) hC' hB' h'
    have hdone : ∀ listed' a' w', Region.seqB md ops g n listed' = true ∧ T a' w' → ∀ j ∈ Region.ready md ops listed', n ≤ j := fun listed' a' w' hL => seqB_ready hL.1
    have h' : mixO P ops C lo o (wpMix P ops C lo T l) a w := h
    by_cases hlo : lo o = true
    · by_cases hw : Region.wanted o (yielded ops a.tmps) = true
      · have hA : ableB md ops lo k listed (ableA md ops k listed) = true := by
          rw [hlo] at hab
          simpa using hab
        unfold mixO at h'
        rw [if_pos hw, if_pos hlo] at h'
        exact wpAnyM_loud h0 hlo (Region.noSelect_spec hsel) hs hc hn hkn hdone l.length listed a w hC inv (able_of inv hA) (Region.free_spec h0 hf) hr' hw
          (Oper.wp_mono (fun a' w' hk => ⟨hk.1, hrec a' w' hk.1 hk.2⟩) h')
      · have hw' : Region.wanted o (yielded ops a.tmps) = false := by simpa using hw
        obtain ⟨v, hy, hK⟩ := yieldsM_of (Or.inr hw') h'
        exact wpAnyM_first h0 (Region.noSelect_spec hsel) hs hc hn hkn hdone l.length listed a w hC inv (Region.free_spec h0 hf) hr' (Or.inr hw') hy (hrec _ _ hC hK)
    · have hlo' : lo o = false := by simpa using hlo
      obtain ⟨v, hy, hK⟩ := yieldsM_of (Or.inl hlo') h'
      exact wpAnyM_first h0 (Region.noSelect_spec hsel) hs hc hn hkn hdone l.length listed a w hC inv (Region.free_spec h0 hf) hr' (Or.inl hlo') hy (hrec _ _ hC hK)

/-- One walk in the order of the text serves every order. -/
theorem wp_region_mix {id : Nat} {Q : Exit → Act → World → Prop} {a : Act} {w : World} {l : List Oper} (C : World → Prop) (lo : Oper → Bool) (n : Nat) (hm : P.follows .mixedOrders = true) (hB : mixB .any l.toArray lo n = true) (hC : C w.drew)
    (h : wpMix P l.toArray C lo (fun a' w' => wpList P l.toArray Q (l.drop n) a' w') (l.take n) a w.drew) : (Code.region id l.toArray true).wp P Q a w := by
  simp only [mixB, Bool.and_eq_true, decide_eq_true_eq] at hB
  obtain ⟨⟨⟨⟨hsel, hn⟩, hs⟩, hc⟩, hlex⟩ := hB
  have hn' : n < l.length := by simpa using hn
  have htl : (l.take n).length = n := by simp; omega
  have hdl : (l.drop n).length = l.toArray.size - n := by simp
  have inv0 : HeadInv .any l.toArray n (Array.replicate l.toArray.size false) :=
    ⟨by simp, fun j oj _ hl => (by rw [getD_replicate_false] at hl; cases hl), fun t _ ht => getD_in (by simpa using ht) (getD_replicate_false _ _)⟩
  have H := wpAnyM_lex (md := .any) (g := l.toArray.size - n) hsel hs hc hn (l.take n) 0 _ a w.drew (fun j hj => by
    have hj' : j < n := by rw [htl] at hj; exact hj
    simp [hj']) (by simpa using htl) inv0 hC (by rw [htl]; exact hlex) h
  refine wp_region_any hm ?_
  have := wpAny_of_mix (Q := Q) (g := l.toArray.size - n) (fun listed a' w' hL => by
    have := wpAny_of_seq (md := .any) (Q' := Q) (l.drop n) n listed a' w' (fun j => by simp [List.getElem?_drop]) (by rw [hdl]; exact hL.1) hL.2
    rwa [hdl] at this) _ _ _ _ hC H
  rw [htl, show n + (l.toArray.size - n) = l.toArray.size by omega] at this
  exact this
end

end Go.Proofs.YtmkdgnmmebldgaaGreat

namespace Go.Proofs.YtmkdgnmmebldgaaGreat
open Go.RowKit

/-! The steps of a mixed walk. -/

/-- What makes or turns memory, or calls. -/
def loudB (o : Oper) : Bool :=
  match o.op with
  | .call c => (match c.callee with | .builtin .len => false | .builtin .cap => false | .builtin .max => false | .builtin .min => false | _ => true)
  | .alloc _ => true
  | .box _ _ => true
  | .buildSlice _ _ _ => true
  | .store _ _ _ => true
  | .makeMap _ _ => true
  | .makeSlice _ _ _ => true
  | .mapUpdate _ _ _ _ => true
  | .insert _ _ _ _ => true
  | .mapEntry _ _ _ => true
  | .entryStore _ _ _ _ => true
  | _ => false

theorem run_value {P : Program} {w w' : World} {s : Sem Value} {f : FuncId} {args : Array Value} (h : (do let x ← s; pure (Next.value x) : Sem Next).run P w = .ok (.enter f args) w') : False := by
  rw [Sem.run_bind] at h
  cases hs : s.run P w with
  | ok x w1 =>
    rw [hs] at h
    simp [Result.andThen] at h
  | halt x w1 =>
    rw [hs] at h
    simp [Result.andThen] at h
theorem run_unit {P : Program} {w w' : World} {s : Sem Unit} {f : FuncId} {args : Array Value} (h : (do s; pure Next.skip : Sem Next).run P w = .ok (.enter f args) w') : False := by
  rw [Sem.run_bind] at h
  cases hs : s.run P w with
  | ok x w1 =>
    rw [hs] at h
    simp [Result.andThen] at h
  | halt x w1 =>
    rw [hs] at h
    simp [Result.andThen] at h

section
variable {P : Program} {ops : Array Oper} {C : World → Prop} {lo : Oper → Bool} {T : Act → World → Prop} {o : Oper} {rest : List Oper} {a : Act} {w : World}

theorem wpMix_nil (h : T a w) : wpMix P ops C lo T [] a w := h
theorem wpMix_read (hw : Region.wanted o (yielded ops a.tmps) = true) (hl : lo o = false) (hne : ∀ w f args w', (execOp a.eval o).run P w ≠ .ok (.enter f args) w')
    (h : ∀ K : Act → Prop, (∀ a, wpMix P ops C lo T rest a w → K a) → o.quiet P a C K) : wpMix P ops C lo T (o :: rest) a w := by
  obtain ⟨v, h1, h2⟩ := h _ (fun _ h => h)
  show mixO P ops C lo o _ a w
  unfold mixO
  rw [if_pos hw, if_neg (by rw [hl]; simp)]
  refine ⟨v, fun w' hC => ?_, h2⟩
  have h3 := h1 w' hC
  unfold Oper.quietAt at h3
  unfold ReadsAt
  generalize hr : (execOp a.eval o).run P w' = r at h3
  cases r with
  | ok n w2 =>
    cases n <;> simp only [Oper.quietUpon] at h3
    case value u => rw [h3.1, h3.2]; exact Or.inl rfl
    case skip => rw [h3.1]; exact Or.inr ⟨rfl, h3.2⟩
    case enter f args => exact absurd hr (hne _ _ _ _)
  | halt x w2 => simp only [Oper.quietUpon] at h3
theorem wpMix_skip (hw : Region.wanted o (yielded ops a.tmps) = false) (h : wpMix P ops C lo T rest (a.put o.dst undef) w) : wpMix P ops C lo T (o :: rest) a w := by
  show mixO P ops C lo o _ a w
  unfold mixO
  rw [if_neg (by rw [hw]; simp)]
  exact h
theorem wpMix_loud (hw : Region.wanted o (yielded ops a.tmps) = true) (hl : lo o = true)
    (h : ∀ K : Act → World → Prop, (∀ a w, C w → wpMix P ops C lo T rest a w → K a w) → wpList P ops (fun e a w => e = .normal ∧ K a w) [o] a w) : wpMix P ops C lo T (o :: rest) a w := by
  have h1 := h (fun a w => C w ∧ wpMix P ops C lo T rest a w) (fun _ _ h1 h2 => ⟨h1, h2⟩)
  show mixO P ops C lo o _ a w
  unfold mixO
  rw [if_pos hw, if_pos hl]
  unfold wpList at h1
  rw [if_pos hw] at h1
  rcases h1 with h1 | ⟨_, _, _, h1, _⟩
  · unfold Oper.wp at h1 ⊢
    generalize (execOp a.eval o).run P w = r at *
    cases r with
    | ok n w' =>
      cases n <;> simp only [Oper.upon] at h1 ⊢
      case value => exact h1.2
      case skip => exact h1.2
      case defer => exact h1.2
      case row => exact h1.mono (fun _ _ h => h.2)
      case enter =>
        refine h1.mono (fun e w'' he => ?_)
        cases e with
        | returned v => exact he.2
        | panicked c => exact absurd he.1 (by simp)
        | outgrown => obtain ⟨_, _, he, _⟩ := he; cases he
    | halt x w' =>
      cases x <;> simp only [Oper.upon] at h1 ⊢
      exact absurd h1.1 (by simp)
  · cases h1
end

theorem run_then {P : Program} {w w' : World} {α : Type} {s : Sem α} {k : α → Sem Next} {f : FuncId} {args : Array Value} (h : (s >>= k).run P w = .ok (.enter f args) w') : ∃ x w1, (k x).run P w1 = .ok (.enter f args) w' := by
  rw [Sem.run_bind] at h
  cases hs : s.run P w with
  | ok x w1 =>
    rw [hs] at h
    exact ⟨x, w1, h⟩
  | halt x w1 =>
    rw [hs] at h
    simp [Result.andThen] at h

/-- An operation that only reads does not enter a function. -/
def readB (o : Oper) : Bool := !loudB o && (match o.op with | .go _ => false | .defer _ => false | .send _ _ => false | .recv _ _ _ => false | .select _ _ => false | _ => true)
theorem not_enter {P : Program} {o : Oper} (h0 : readB o = true) (ρ : Operand → Value) (w : World) (f : FuncId) (args : Array Value) (w' : World) : (execOp ρ o).run P w ≠ .ok (.enter f args) w' := by
  intro hr
  unfold readB at h0
  rw [Bool.and_eq_true, Bool.not_eq_true'] at h0
  obtain ⟨h, hc⟩ := h0
  unfold execOp at hr
  unfold loudB at h
  cases hop : o.op <;> rw [hop] at hr h hc <;> simp only at hr h hc
  all_goals first
    | exact run_value hr
    | exact run_unit hr
    | (simp [go_sem] at hr; done)
    | (cases h; done)
    | (cases hc; done)
    | skip
  case pick =>
    obtain ⟨_, _, h1⟩ := run_then hr
    simp [go_sem] at h1
  case nilCheck =>
    split at hr
    · simp [go_sem] at hr
    · simp [go_sem] at hr
    · simp [go_sem] at hr
    · split at hr
      · simp [go_sem] at hr
      · obtain ⟨_, _, h1⟩ := run_then hr
        obtain ⟨_, _, h2⟩ := run_then h1
        split at h2
        · obtain ⟨_, _, h3⟩ := run_then h2
          simp [go_sem] at h3
        · simp [go_sem] at h2
      · simp [go_sem] at hr
    · simp [go_sem] at hr
  case call c =>
    have hb : ∃ b, c.callee = .builtin b ∧ (b = .len ∨ b = .cap ∨ b = .max ∨ b = .min) := by
      split at h
      all_goals first
        | (rename_i e; exact ⟨_, e, by simp⟩)
        | cases h
    obtain ⟨b, e, hb⟩ := hb
    unfold resolve at hr
    rw [e] at hr
    simp only [Sem.run_bind, Sem.run_pure, Result.andThen] at hr
    unfold invoke builtin at hr
    rcases hb with rfl | rfl | rfl | rfl
    all_goals exact run_value hr

theorem wpMix_see {P : Program} {ops : Array Oper} {C : World → Prop} {T : Act → World → Prop} {o : Oper} {rest : List Oper} {a : Act} {w : World} (hw : Region.wanted o (yielded ops a.tmps) = true) (hr : readB o = true)
    (h : ∀ K : Act → Prop, (∀ a, wpMix P ops C loudB T rest a w → K a) → o.quiet P a C K) : wpMix P ops C loudB T (o :: rest) a w :=
  wpMix_read hw (by unfold readB at hr; rw [Bool.and_eq_true, Bool.not_eq_true'] at hr; exact hr.1) (fun w f args w' => not_enter hr _ w f args w') h

/-- Worlds of which S holds. -/
def Held (S : World → Prop) : Type := {u : World // S u}
theorem Held.cell {S : World → Prop} {p : Addr} {v : Value} (h : ∀ u, S u → u.cell? p = some v) : ∀ u : Held S, World.cell? u.val p = some v := fun u => h u.val u.2
theorem held_some {S : World → Prop} {w : World} (h : S w) : ∃ u : Held S, w = u.val := ⟨⟨w, h⟩, rfl⟩
theorem held_ne {S : World → Prop} {w : World} (h : S w) : Nonempty (Held S) := ⟨⟨w, h⟩⟩
end Go.Proofs.YtmkdgnmmebldgaaGreat

namespace Go.Proofs.YtmkdgnmmebldgaaGreat
open Go.RowKit

/-! The same, the order chosen by hand: reads as early as they may come; where two loud ones may come up, both ways. -/

section
variable {P : Program} {l : List Oper} {C : World → Prop} {n : Nat} {Q : Exit → Act → World → Prop}

/-- What the Bools of a region say. -/
def treeB (l : List Oper) (n : Nat) : Bool := Region.noSelect l.toArray && decide (n < l.length) && Region.sinkB .any l.toArray n && Region.chainB .any l.toArray n

/-- All orders from here on. -/
def wpT (P : Program) (l : List Oper) (C : World → Prop) (n : Nat) (Q : Exit → Act → World → Prop) (f : Nat) (listed : Array Bool) (a : Act) (w : World) : Prop :=
  treeB l n = true → HeadInv .any l.toArray n listed → C w →
    wpAnyM P .any l.toArray C loudB n (fun listed' a' w' => Region.seqB .any l.toArray (l.length - n) n listed' = true ∧ wpList P l.toArray Q (l.drop n) a' w') f listed a w

theorem at_drop {i : Nat} {o : Oper} {rest : List Oper} (h : l.drop i = o :: rest) : l.toArray[i]? = some o := by
  have : (l.drop i)[0]? = some o := by rw [h]; rfl
  simpa using this

/-- Reading, of operation number i. -/
theorem wpT_see (i : Nat) {o : Oper} {rest : List Oper} {f : Nat} {listed : Array Bool} {a : Act} {w : World} (hi : l.drop i = o :: rest) (hw : Region.wanted o (yielded l.toArray a.tmps) = true)
    (hB : (readB o && (decide (i < n) && ((Region.ready .any l.toArray listed).contains i && Region.free .any l.toArray listed i))) = true)
    (h : ∀ K : Act → Prop, (∀ a, wpT P l C n Q f (listed.setIfInBounds i true) a w → K a) → o.quiet P a C K) : wpT P l C n Q (f + 1) listed a w := by
  intro hT inv hC
  have hT' := hT
  simp only [treeB, Bool.and_eq_true, decide_eq_true_eq] at hT'
  obtain ⟨⟨⟨hsel, hn⟩, hs⟩, hc⟩ := hT'
  simp only [Bool.and_eq_true, decide_eq_true_eq] at hB
  obtain ⟨hr, hin, hrd, hf⟩ := hB
  have h0 := at_drop hi
  have hr' : i ∈ Region.ready .any l.toArray listed := by simpa using hrd
  have hm := wpMix_see (T := fun a w => wpT P l C n Q f (listed.setIfInBounds i true) a w) (rest := []) hw hr (fun K hK => h K hK)
  have hlo : loudB o = false := by unfold readB at hr; rw [Bool.and_eq_true, Bool.not_eq_true'] at hr; exact hr.1
  obtain ⟨v, hy, hk⟩ := yieldsM_of (Or.inl hlo) (show mixO P l.toArray C loudB o (fun a w => wpT P l C n Q f (listed.setIfInBounds i true) a w) a w from hm)
  exact wpAnyM_first h0 (Region.noSelect_spec hsel) hs hc (by simpa using hn) hin (fun listed' a' w' hL => seqB_ready hL.1) f listed a w hC inv (Region.free_spec h0 hf) hr' (Or.inl hlo) hy (hk hT (inv.set hr' hin) hC)

/-- Passed over by its guard, operation number i. -/
theorem wpT_skip (i : Nat) {o : Oper} {rest : List Oper} {f : Nat} {listed : Array Bool} {a : Act} {w : World} (hi : l.drop i = o :: rest) (hw : Region.wanted o (yielded l.toArray a.tmps) = false)
    (hB : (decide (i < n) && ((Region.ready .any l.toArray listed).contains i && Region.free .any l.toArray listed i)) = true)
    (h : wpT P l C n Q f (listed.setIfInBounds i true) (a.put o.dst undef) w) : wpT P l C n Q (f + 1) listed a w := by
  intro hT inv hC
  have hT' := hT
  simp only [treeB, Bool.and_eq_true, decide_eq_true_eq] at hT'
  obtain ⟨⟨⟨hsel, hn⟩, hs⟩, hc⟩ := hT'
  simp only [Bool.and_eq_true, decide_eq_true_eq] at hB
  obtain ⟨hin, hrd, hf⟩ := hB
  have h0 := at_drop hi
  have hr' : i ∈ Region.ready .any l.toArray listed := by simpa using hrd
  exact wpAnyM_first h0 (Region.noSelect_spec hsel) hs hc (by simpa using hn) hin (fun listed' a' w' hL => seqB_ready hL.1) f listed a w hC inv (Region.free_spec h0 hf) hr' (Or.inr hw) (.inr ⟨hw, rfl⟩) (h hT (inv.set hr' hin) hC)

/-- A loud operation, number i, as one of those that may come up. -/
theorem mix_loud {T : Act → World → Prop} {o : Oper} {ops : Array Oper} {a : Act} {w : World} (hw : Region.wanted o (yielded ops a.tmps) = true) (hl : loudB o = true)
    (h : ∀ K : Act → World → Prop, (∀ a w, C w → T a w → K a w) → wpList P ops (fun e a w => e = .normal ∧ K a w) [o] a w) : mixO P ops C loudB o T a w :=
  wpMix_loud (rest := []) hw hl h

theorem wpT_loud (i : Nat) {o : Oper} {rest : List Oper} {f : Nat} {listed : Array Bool} {a : Act} {w : World} (hi : l.drop i = o :: rest) (hw : Region.wanted o (yielded l.toArray a.tmps) = true)
    (hB : (loudB o && (decide (i < n) && decide (Region.ready .any l.toArray listed = [i]))) = true)
    (h : ∀ K : Act → World → Prop, (∀ a w, C w → wpT P l C n Q f (listed.setIfInBounds i true) a w → K a w) → wpList P l.toArray (fun e a w => e = .normal ∧ K a w) [o] a w) : wpT P l C n Q (f + 1) listed a w := by
  intro hT inv hC
  simp only [Bool.and_eq_true, decide_eq_true_eq] at hB
  obtain ⟨hlo, hin, hrd⟩ := hB
  refine ⟨by rw [hrd]; simp, fun j hj => ?_⟩
  have hj' : j = i := by rw [hrd] at hj; simpa using hj
  subst hj'
  refine ⟨hin, ?_⟩
  unfold mixOp
  simp only [at_drop hi]
  exact mixO_mono hC (fun a w hC' hk => hk hT (inv.set hj hin) hC') (mix_loud hw hlo h)

theorem wpT_loud2 (i k : Nat) {o o' : Oper} {rest rest' : List Oper} {f : Nat} {listed : Array Bool} {a : Act} {w : World} (hi : l.drop i = o :: rest) (hk : l.drop k = o' :: rest') (hw : Region.wanted o (yielded l.toArray a.tmps) = true) (hw' : Region.wanted o' (yielded l.toArray a.tmps) = true)
    (hB : (loudB o && (loudB o' && (decide (i < n) && (decide (k < n) && decide (Region.ready .any l.toArray listed = [i, k]))))) = true)
    (h : ∀ K : Act → World → Prop, (∀ a w, C w → wpT P l C n Q f (listed.setIfInBounds i true) a w → K a w) → wpList P l.toArray (fun e a w => e = .normal ∧ K a w) [o] a w)
    (h' : ∀ K : Act → World → Prop, (∀ a w, C w → wpT P l C n Q f (listed.setIfInBounds k true) a w → K a w) → wpList P l.toArray (fun e a w => e = .normal ∧ K a w) [o'] a w) : wpT P l C n Q (f + 1) listed a w := by
  intro hT inv hC
  simp only [Bool.and_eq_true, decide_eq_true_eq] at hB
  obtain ⟨hlo, hlo', hin, hkn, hrd⟩ := hB
  refine ⟨by rw [hrd]; simp, fun j hj => ?_⟩
  have hj' : j = i ∨ j = k := by rw [hrd] at hj; simpa using hj
  rcases hj' with hj' | hj'
  · subst hj'
    refine ⟨hin, ?_⟩
    unfold mixOp
    simp only [at_drop hi]
    exact mixO_mono hC (fun a w hC' hk => hk hT (inv.set hj hin) hC') (mix_loud hw hlo h)
  · subst hj'
    refine ⟨hkn, ?_⟩
    unfold mixOp
    simp only [at_drop hk]
    exact mixO_mono hC (fun a w hC' hk => hk hT (inv.set hj hkn) hC') (mix_loud hw' hlo' h')

theorem wpT_done {listed : Array Bool} {a : Act} {w : World} (hB : Region.seqB .any l.toArray (l.length - n) n listed = true) (h : wpList P l.toArray Q (l.drop n) a w) : wpT P l C n Q 0 listed a w :=
  fun _ _ _ => ⟨hB, h⟩

theorem wp_region_tree {id : Nat} {a : Act} {w : World} (C : World → Prop) (n : Nat) (hm : P.follows .mixedOrders = true) (hB : treeB l n = true) (hC : C w.drew)
    (h : wpT P l C n Q n (Array.replicate l.length false) a w.drew) : (Code.region id l.toArray true).wp P Q a w := by
  have hB' := hB
  simp only [treeB, Bool.and_eq_true, decide_eq_true_eq] at hB'
  obtain ⟨⟨⟨hsel, hn⟩, hs⟩, hc⟩ := hB'
  have hdl : (l.drop n).length = l.length - n := by simp
  have inv0 : HeadInv .any l.toArray n (Array.replicate l.length false) :=
    ⟨by simp, fun j oj _ hl => (by rw [getD_replicate_false] at hl; cases hl), fun t _ ht => getD_in (by simpa using ht) (getD_replicate_false _ _)⟩
  have H := h hB inv0 hC
  refine wp_region_any hm ?_
  have := wpAny_of_mix (Q := Q) (g := l.length - n) (fun listed a' w' hL => by
    have := wpAny_of_seq (md := .any) (Q' := Q) (l.drop n) n listed a' w' (fun j => by simp [List.getElem?_drop]) (by rw [hdl]; exact hL.1) hL.2
    rwa [hdl] at this) _ _ _ _ hC H
  rw [show n + (l.length - n) = l.toArray.size by simp; omega] at this
  simpa using this
end
end Go.Proofs.YtmkdgnmmebldgaaGreat

namespace Go.Proofs.YtmkdgnmmebldgaaGreat
open Go.RowKit Go.Deep

/-! Paths. -/

structure PAddr where
  a0 : Option Addr
  c0 : Nat
  a1 : Option Addr
  c1 : Nat
  a2 : Option Addr
  c2 : Nat
/-- The lists of a path lie there. -/
structure PListsAt (w : World) (d : PAddr) (p : MPath) : Prop where
  steps : EndsAt w d.a0 p.steps
  lies : EndsAt w d.a1 p.lies
  crosses : NumsAt w d.a2 p.crosses
  nil0 : d.a0 = none → p.steps.length = 0 ∧ d.c0 = 0
  nil1 : d.a1 = none → p.lies.length = 0 ∧ d.c1 = 0
  nil2 : d.a2 = none → p.crosses.length = 0 ∧ d.c2 = 0
  cap : p.steps.length ≤ d.c0
theorem PListsAt.below {w w' : World} {d : PAddr} {p : MPath} (h : PListsAt w d p) (hb : Below w.heap.size w w') : PListsAt w' d p :=
  ⟨h.steps.below hb, h.lies.below hb, h.crosses.below hb, h.nil0, h.nil1, h.nil2, h.cap⟩
def pathV (d : PAddr) (p : MPath) : Value := .agg #[.int .i64 p.start, .int .i64 p.stop, .bool p.ended, .slice d.a0 p.steps.length d.c0, .slice d.a1 p.lies.length d.c1, .slice d.a2 p.crosses.length d.c2]

set_option maxHeartbeats 1000000 in
theorem lie_any (j a b : Nat) (kd : Value) (w : World) :
    Calls Tryz.prog 133 #[.agg #[.int .i64 j, .int .i64 a, .int .i64 b, kd]] w fun e w' => e = .returned (endV ⟨j, (max a b : Nat)⟩) ∧ Below w.heap.size w w' := by
  have hm : ((a : Int) < b ∧ ((max a b : Nat) : Int) = b) ∨ ((a : Int) = b ∧ ((max a b : Nat) : Int) = b) ∨ ((b : Int) < a ∧ ((max a b : Nat) : Int) = a) := by omega
  obtain ⟨m, hm0⟩ : ∃ m, ((max a b : Nat) : Int) = m := ⟨_, rfl⟩
  rw [hm0] at hm ⊢
  clear hm0
  rcases hm with ⟨h1, rfl⟩ | ⟨h1, rfl⟩ | ⟨h1, rfl⟩
  · go_enter Tryz.func133, Tryz.ntmps133
    go_wp2_with fail
    exact bodyPost_ret (v := .agg #[.int .i64 (j : Int), .int .i64 (b : Int)]) (by simp [results, Tryz.results133, go_sem]) rfl ⟨rfl, (by repeat (first | exact Below.refl _ _ | assumption | refine Below.drew ?_ | refine bdrewN ?_ _ | refine Below.setCell ?_ (by first | omega | (simp; done) | (simp; omega)) _ | refine Below.alloc ?_ (by first | omega | (simp; done) | (simp; omega)) _))⟩
  · rw [h1]
    go_enter Tryz.func133, Tryz.ntmps133
    go_wp2_with fail
    exact bodyPost_ret (v := .agg #[.int .i64 (j : Int), .int .i64 (b : Int)]) (by simp [results, Tryz.results133, go_sem]) rfl ⟨rfl, (by repeat (first | exact Below.refl _ _ | assumption | refine Below.drew ?_ | refine bdrewN ?_ _ | refine Below.setCell ?_ (by first | omega | (simp; done) | (simp; omega)) _ | refine Below.alloc ?_ (by first | omega | (simp; done) | (simp; omega)) _))⟩
  · go_enter Tryz.func133, Tryz.ntmps133
    go_wp2_with fail
    exact bodyPost_ret (v := .agg #[.int .i64 (j : Int), .int .i64 (a : Int)]) (by simp [results, Tryz.results133, go_sem]) rfl ⟨rfl, (by repeat (first | exact Below.refl _ _ | assumption | refine Below.drew ?_ | refine bdrewN ?_ _ | refine Below.setCell ?_ (by first | omega | (simp; done) | (simp; omega)) _ | refine Below.alloc ?_ (by first | omega | (simp; done) | (simp; omega)) _))⟩

theorem lastS_get {p : MPath} (h : 0 < p.steps.length) : p.steps[p.steps.length - 1]'(by omega) = lastS p := by
  unfold lastS
  rw [List.getLastD_eq_getLast?, List.getLast?_eq_getElem?, List.getElem?_eq_getElem (by omega)]
  rfl

set_option maxHeartbeats 1000000 in
theorem last_any (d : PAddr) (p : MPath) (w : World) (h : Hid (PListsAt w d p)) (h0 : 0 < p.steps.length) :
    Calls Tryz.prog 110 #[pathV d p] w fun e w' => e = .returned (endV (lastS p)) ∧ Below w.heap.size w w' := by
  have hl := h.out.steps.1
  unfold maxLen at hl
  obtain ⟨b1, off1, ha, hpc⟩ := h.out.steps.2.resolve_left (fun h => by rw [h] at h0; exact absurd h0 (by simp))
  obtain ⟨c0, c1⟩ := hpc (p.steps.length - 1) (by omega)
  rw [lastS_get h0] at c0 c1
  obtain ⟨n, hn⟩ : ∃ n, p.steps.length = n + 1 := ⟨p.steps.length - 1, by omega⟩
  unfold pathV
  rw [ha, hn]
  rw [hn] at c0 c1 hl
  have e : n + 1 - 1 = n := by omega
  rw [e] at c0 c1
  obtain ⟨ls, hls⟩ : ∃ ls, lastS p = ls := ⟨_, rfl⟩
  rw [hls] at c0 c1 ⊢
  have hz := cellLt c0
  dsimp only at hz
  clear hpc e
  go_enter Tryz.func110, Tryz.ntmps110
  go_wp2_with fail
  exact bodyPost_ret (v := .agg #[.int .i64 ls.piece, .int .i64 ls.side]) (by simp [results, Tryz.results110, go_sem]) rfl ⟨rfl, (by repeat (first | exact Below.refl _ _ | assumption | refine Below.drew ?_ | refine bdrewN ?_ _ | refine Below.setCell ?_ (by first | omega | (simp; done) | (simp; omega)) _ | refine Below.alloc ?_ (by first | omega | (simp; done) | (simp; omega)) _))⟩

theorem round_take {p : MPath} {k : Nat} (hk : k < p.steps.length - 1) : (p.steps.take (k + 1)).any (fun s => sameS s (lastS p)) = ((p.steps.take k).any (fun s => sameS s (lastS p)) || sameS (p.steps[k]'(by omega)) (lastS p)) := by
  rw [List.take_succ_eq_append_getElem (by omega), List.any_append]
  simp
theorem round_all (p : MPath) : (p.steps.take (p.steps.length - 1)).any (fun s => sameS s (lastS p)) = roundB p := by
  unfold roundB
  rw [List.dropLast_eq_take]

set_option maxRecDepth 10000 in
set_option maxHeartbeats 4000000 in
theorem isRound_any (d : PAddr) (p : MPath) (w : World) (h : Hid (PListsAt w d p)) (h0 : 0 < p.steps.length) :
    Calls Tryz.prog 108 #[pathV d p] w fun e w' => e = .returned (.bool (roundB p)) ∧ Below w.heap.size w w' := by
  have hl := h.out.steps.1
  unfold maxLen at hl
  obtain ⟨b1, off1, ha, hpc⟩ := h.out.steps.2.resolve_left (fun h => by rw [h] at h0; exact absurd h0 (by simp))
  have HPC := hidP hpc
  have HLA : Hid (∀ u : World, Below w.heap.size w u → Calls Tryz.prog 110 #[.agg #[.int .i64 p.start, .int .i64 p.stop, .bool p.ended, .slice (some ⟨b1, off1, none⟩) p.steps.length d.c0, .slice d.a1 p.lies.length d.c1, .slice d.a2 p.crosses.length d.c2]] u fun e w' => e = .returned (.agg #[.int .i64 (lastS p).piece, .int .i64 (lastS p).side]) ∧ Below u.heap.size u w') := fun u hu => by
    have hh := last_any d p u (h.out.below hu) h0
    unfold pathV at hh
    rw [ha] at hh
    exact hh
  obtain ⟨ls, hls⟩ : ∃ ls, lastS p = ls := ⟨_, rfl⟩
  have HLS := hidP hls
  rw [hls] at HLA
  obtain ⟨n, hn⟩ : ∃ n, p.steps.length = n + 1 := ⟨p.steps.length - 1, by omega⟩
  have HN := hidP hn
  unfold pathV
  rw [ha, hn]
  rw [hn] at HLA hl
  have hcap := h.out.cap
  rw [hn] at hcap
  clear hpc ha hls hn
  go_enter Tryz.func108, Tryz.ntmps108
  go_wp2_with fail
  generalize hW : World.alloc w _ = W
  have hbW : Below w.heap.size w W := by rw [← hW]; exact (by repeat (first | exact Below.refl _ _ | assumption | refine Below.drew ?_ | refine bdrewN ?_ _ | refine Below.setCell ?_ (by first | omega | (simp; done) | (simp; omega)) _ | refine Below.alloc ?_ (by first | omega | (simp; done) | (simp; omega)) _))
  have x0 : W.cell? ⟨w.heap.size, 0, none⟩ = some (.int .i64 p.start) := by rw [← hW]; simp [go_sem]
  have x1 : W.cell? ⟨w.heap.size, 1, none⟩ = some (.int .i64 p.stop) := by rw [← hW]; simp [go_sem]
  have x2 : W.cell? ⟨w.heap.size, 2, none⟩ = some (.bool p.ended) := by rw [← hW]; simp [go_sem]
  have x3 : W.cell? ⟨w.heap.size, 3, none⟩ = some (.slice (some ⟨b1, off1, none⟩) (n + 1) d.c0) := by rw [← hW]; simp [go_sem]
  have x4 : W.cell? ⟨w.heap.size, 4, none⟩ = some (.slice d.a1 p.lies.length d.c1) := by rw [← hW]; simp [go_sem]
  have x5 : W.cell? ⟨w.heap.size, 5, none⟩ = some (.slice d.a2 p.crosses.length d.c2) := by rw [← hW]; simp [go_sem]
  have HBW := hidP hbW
  have hzW : w.heap.size < W.heap.size := by rw [← hW]; simp
  clear hW hbW
  go_loopw [13] (fun i wr => ∃ k : Nat, k ≤ n ∧ i = .int .i64 k ∧ Hid ((p.steps.take k).any (fun s => sameS s ls) = false) ∧ Below W.heap.size W wr) (fun i _ => n - (intOf i).toNat)
  case atStart => exact ⟨0, Nat.zero_le _, rfl, rfl, Below.refl _ _⟩
  case round =>
    obtain ⟨k, hk, rfl, HQ, hb⟩ := hrel
    have hbs := hb.size
    have hbF := HBW.out.trans (hb.mono HBW.out.size)
    by_cases hk' : k < n
    · have hkl : k < p.steps.length := by rw [HN.out]; omega
      obtain ⟨c0, c1⟩ := (HPC.out.below hbF) k hkl
      have HTK : Hid ((p.steps.take (k + 1)).any (fun s => sameS s ls) = sameS p.steps[k] ls) := by
        unfold Hid
        rw [List.take_succ_eq_append_getElem hkl, List.any_append, HQ.out]
        simp
      have HHIT : Hid (sameS p.steps[k] ls = true → roundB p = true) := fun hs => by
        rw [← round_all, List.any_eq_true]
        refine ⟨p.steps[k], ?_, by rw [HLS.out]; exact hs⟩
        rw [HN.out]
        exact List.mem_take_iff_getElem.2 ⟨k, by simp; omega, rfl⟩
      generalize p.steps[k] = sk at c0 c1 HTK HHIT
      have y0 := cell_later hb x0
      have y1 := cell_later hb x1
      have y2 := cell_later hb x2
      have y3 := cell_later hb x3
      have y4 := cell_later hb x4
      have y5 := cell_later hb x5
      have hki : (k : Int) < n := by omega
      have hzc := cellLt c0
      dsimp only at hzc
      clear HQ
      go_upto_region 4 with fail
      generalize hWa : World.alloc wr _ = Wa
      have hba : Below wr.heap.size wr Wa := by rw [← hWa]; exact (Below.refl _ _).alloc (Nat.le_refl _) _
      have z0 : Wa.cell? ⟨wr.heap.size, 0, none⟩ = some (.int .i64 sk.piece) := by rw [← hWa]; simp [go_sem]
      have z1 : Wa.cell? ⟨wr.heap.size, 1, none⟩ = some (.int .i64 sk.side) := by rw [← hWa]; simp [go_sem]
      have HBa := hidP (hb.trans (hba.mono hbs))
      have HBF := hidP (hbF.trans (hba.mono (by omega)))
      have m0 := Later.cell (cell_later hba y0)
      have m1 := Later.cell (cell_later hba y1)
      have m2 := Later.cell (cell_later hba y2)
      have m3 := Later.cell (cell_later hba y3)
      have m4 := Later.cell (cell_later hba y4)
      have m5 := Later.cell (cell_later hba y5)
      have l0 := Later.cell z0
      have l1 := Later.cell z1
      have hne := later_some Wa
      clear hWa hba y0 y1 y2 y3 y4 y5 z0 z1 c0 c1 hb hbF
      have hcs : (sameS sk ls = false ∧ (sk.piece == ls.piece) = false) ∨ (sameS sk ls = false ∧ (sk.piece == ls.piece) = true ∧ (sk.side == ls.side) = false) ∨ (sameS sk ls = true ∧ (sk.piece == ls.piece) = true ∧ (sk.side == ls.side) = true) := by
        unfold sameS
        cases (sk.piece == ls.piece) <;> cases (sk.side == ls.side) <;> simp
      rcases hcs with ⟨hs, g1⟩ | ⟨hs, g1, g2⟩ | ⟨hs, g1, g2⟩
      · have HT2 : Hid ((p.steps.take (k + 1)).any (fun s => sameS s ls) = false) := HTK.out.trans hs
        clear hs
        refine wp_region_later (by kernel_rfl) (by kernel_rfl) ?_
        iterate 2 (go_big_quiet_step (fail))
        go_big_quiet_step ((rename_i u; exact Later.calls u (HLA.out u.val (HBF.out.trans (u.2.mono HBF.out.size)))))
        iterate 1 (go_big_quiet_step (fail))
        refine wpQuiet_nil ?_
        intro _ hw'
        obtain ⟨u, hw''⟩ := hw'
        subst hw''
        have hbu := u.2
        generalize u.val = w6 at hbu ⊢
        have HB6 := hidP (HBa.out.trans (hbu.mono HBa.out.size))
        clear m0 m1 m2 m3 m4 m5 l0 l1 hne hbu
        go_wp2_with fail
        go_roundw
        case rel => exact ⟨k + 1, by omega, by go_num, HT2, HB6.out⟩
        case measure => simp [intOf]; omega
      · have HT2 : Hid ((p.steps.take (k + 1)).any (fun s => sameS s ls) = false) := HTK.out.trans hs
        clear hs
        refine wp_region_later (by kernel_rfl) (by kernel_rfl) ?_
        iterate 2 (go_big_quiet_step (fail))
        go_big_quiet_step ((rename_i u; exact Later.calls u (HLA.out u.val (HBF.out.trans (u.2.mono HBF.out.size)))))
        iterate 1 (go_big_quiet_step (fail))
        refine wpQuiet_nil ?_
        intro _ hw'
        obtain ⟨u, hw''⟩ := hw'
        subst hw''
        have hbu := u.2
        generalize u.val = w6 at hbu ⊢
        have HB6 := hidP (HBa.out.trans (hbu.mono HBa.out.size))
        clear m0 m1 m2 m3 m4 m5 l0 l1 hne hbu
        go_wp2_with fail
        go_roundw
        case rel => exact ⟨k + 1, by omega, by go_num, HT2, HB6.out⟩
        case measure => simp [intOf]; omega
      · have HT2 : Hid (roundB p = true) := HHIT.out hs
        clear hs
        refine wp_region_later (by kernel_rfl) (by kernel_rfl) ?_
        iterate 2 (go_big_quiet_step (fail))
        go_big_quiet_step ((rename_i u; exact Later.calls u (HLA.out u.val (HBF.out.trans (u.2.mono HBF.out.size)))))
        iterate 1 (go_big_quiet_step (fail))
        refine wpQuiet_nil ?_
        intro _ hw'
        obtain ⟨u, hw''⟩ := hw'
        subst hw''
        have hbu := u.2
        generalize u.val = w6 at hbu ⊢
        have HB6 := hidP (HBF.out.trans (hbu.mono HBF.out.size))
        clear m0 m1 m2 m3 m4 m5 l0 l1 hne hbu
        go_wp2_with fail
        go_ret
        rw [HT2.out]
        exact ⟨rfl, HB6.out⟩
    · have hkn : k = n := by omega
      have HT2 : Hid (roundB p = false) := by
        unfold Hid
        have h := HQ.out
        rw [hkn] at h
        rw [← round_all, HN.out, HLS.out]
        exact h
      have hki : ¬ (k : Int) < n := by omega
      clear HQ hkn
      go_wp2_with fail
      go_ret
      rw [HT2.out]
      exact ⟨rfl, hbF⟩

end Go.Proofs.YtmkdgnmmebldgaaGreat
