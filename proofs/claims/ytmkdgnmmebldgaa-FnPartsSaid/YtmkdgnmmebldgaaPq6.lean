import Derived.Test.YtmkdgnmmebldgaaPq4
import Derived.Test.YtmkdgnmmebldgaaPq5
import Derived.RegionTactic
import Derived.Deep.RegionWith
import Derived.Deep.QuietTactic
import Derived.BigQuiet
namespace Go.Proofs.Ytmkdgnmmebldgaa
open Go.RowKit Go.Deep
theorem lieF_hit {lies : List MLie} {j : Int} {m : Nat} (hm : m < lies.length) (h : (lies[m].piece == j) = true) (hq : ∀ q (hq : q < lies.length), q < m → (lies[q].piece == j) = false) : lieF lies j = lies[m].side := by
  unfold lieF
  have : lies.find? (fun l => l.piece == j) = some lies[m] := by
    rw [List.find?_eq_some_iff_getElem]
    exact ⟨h, m, hm, rfl, fun q hqm => by simpa using hq q (by omega) hqm⟩
  rw [this]
  rfl
theorem lieF_none {lies : List MLie} {j : Int} (h : ∀ q (hq : q < lies.length), (lies[q].piece == j) = false) : lies.any (fun l => l.piece == j) = false := by
  rw [List.any_eq_false]
  intro x hx
  obtain ⟨i, hi, rfl⟩ := List.getElem_of_mem hx
  rw [h i hi]
  simp
def LiesPost (Q B n : Nat) (x : Option Addr) (y : Nat) (lies : List MLie) (j lie : Int) (w : World) (e : Ending) (w' : World) : Prop :=
  if lies.any (fun l => l.piece == j) = true then e = .returned (.bool (lieF lies j == lie)) ∧ Below w.heap.size w w'
  else e = .returned (.bool true) ∧ ∃ x' y' w2, w' = w2.setCell ⟨Q, 3, none⟩ (.slice x' (n + 1) y') ∧ w2.ownsRow B 48 2 (.slice x' (n + 1) y') (n + 1) (flatE (lies ++ [⟨j, lie⟩])) ∧ w.grownBy w2 (Value.slice x n y).ownBlock
set_option maxHeartbeats 1000000 in
theorem l2lies_any (Q B n : Nat) (x : Option Addr) (y : Nat) (lies : List MLie) (j lie : Int) (w : World) (hc : w.cell? ⟨Q, 3, none⟩ = some (.slice x n y)) (hf : w.frozen? ⟨Q, 3, none⟩ = false) (ho : Hid (w.ownsRow B 48 2 (.slice x n y) n (flatE lies))) (hn : n = lies.length) (hl : n ≤ 1000) (hQ : some Q ≠ (Value.slice x n y).ownBlock) (hB : B ≤ w.heap.size) :
    Calls Try.prog 108 #[.pointer (some ⟨Q, 0, none⟩), .int .i64 j, .int .i64 lie] w (LiesPost Q B n x y lies j lie w) := by
  subst hn
  obtain ⟨xa, ya, hxy, hea, _, _⟩ := ownE ho.out (by unfold maxLen; omega)
  cases hxy
  have HE := hidP hea
  clear hea
  have hzQ := cellLt hc
  go_enter Try.func108, Try.ntmps108
  go_wp2_with fail
  go_loopw [14] (fun i wr => ∃ (m : Nat), m ≤ lies.length ∧ i = .int .i64 m ∧ Hid (∀ q (hq : q < lies.length), q < m → (lies[q].piece == j) = false) ∧ Below w.heap.size w wr) (fun i _ => lies.length - (intOf i).toNat)
  case atStart => exact ⟨0, Nat.zero_le _, rfl, (fun q _ h => absurd h (Nat.not_lt_zero q)), Below.refl _ _⟩
  case round =>
    obtain ⟨m, hm, rfl, HQ, hb⟩ := hrel
    have hbs := hb.size
    by_cases hm' : m < lies.length
    · obtain ⟨b1, off1, rfl, hpc⟩ := HE.out.2.resolve_left (fun h => by rw [h] at hm'; exact absurd hm' (Nat.not_lt_zero _))
      obtain ⟨c0, c1⟩ := (hpc.below hb) m hm'
      clear hpc
      cases t : (lies[m].piece == j)
      · have HQ2 : Hid (∀ q (hq : q < lies.length), q < m + 1 → (lies[q].piece == j) = false) := by
          intro q hq hqm
          by_cases e : q < m
          · exact HQ.out q hq e
          · have : q = m := by omega
            subst this; exact t
        clear HQ
        go_wp2_with fail
        go_roundw
        case rel => exact ⟨m + 1, by omega, by go_num, HQ2, blo⟩
        case measure => simp [intOf]; omega
      · have HX := hidP (lieF_hit hm' t HQ.out)
        have HY : Hid (lies.any (fun l => l.piece == j) = true) := List.any_eq_true.2 ⟨_, List.getElem_mem hm', t⟩
        clear HQ
        go_wp2_with fail
        go_ret
        unfold LiesPost
        rw [if_pos HY.out, HX.out]
        exact ⟨rfl, blo⟩
    · have HY := hidP (lieF_none (fun q hq => HQ.out q hq (by omega)))
      have hc' := cell_later hb hc
      have hf' := (hb.frozen (p := ⟨Q, 3, none⟩) (by simpa using hzQ)).trans hf
      have hz' := Nat.lt_of_lt_of_le hzQ hb.size
      have HO := hidP (owns_below ho.out hb)
      have HF : Hid (flatE lies ++ [.int .i64 j, .int .i64 lie] = flatE (lies ++ [⟨j, lie⟩])) := by unfold Hid; rw [flatE_snoc]; rfl
      clear HQ
      go_wp2_with (at_builtin; refine wpList_push rfl (.tmp 31) (.tmp 35) 38 rfl B 48 _ 2 16 Try.underlying38 Try.infoLie rfl (by decide) (.slice x lies.length y) lies.length (flatE lies) rfl HO.out wr.heap.size rfl [.int .i64 j, .int .i64 lie] rfl rfl (by simp [Value.oneCell']) (by unfold maxLen; omega) (by omega) (by omega) ?_; intro x' y' w2 ho2 hg2; rw [HF.out] at ho2; have HO2 := hidP ho2; have HG2 := hidP hg2; have hne : some Q ≠ (Value.slice x lies.length y).ownBlock := hQ; have k0 := hg2.cell hc' hne; have k1 := (World.frozen?_of_block (a := ⟨Q, 3, none⟩) (hg2.block Q hz' hne)).trans hf'; clear ho2 hg2)
      go_ret
      unfold LiesPost
      rw [if_neg (by rw [HY.out]; simp)]
      refine ⟨rfl, x', y', w2, rfl, HO2.out, ⟨HG2.out.os.trans hb.os, HG2.out.tape.trans hb.tape, HG2.out.output.trans hb.output, Nat.le_trans hb.size HG2.out.size, fun k hk hne => (HG2.out.block k (Nat.lt_of_lt_of_le hk hb.size) hne).trans (hb.block k hk)⟩⟩
end Go.Proofs.Ytmkdgnmmebldgaa

namespace Go.Proofs.Ytmkdgnmmebldgaa
open Go.RowKit
structure Right (ps : List MPiece) (js : List MJoint) (ss : List MPiece) : Prop where
  np0 : 0 < ps.length
  np : ps.length ≤ 100
  nj : js.length ≤ 120
  ns : ss.length ≤ 60
  plen : ∀ i (h : i < ps.length), 1 ≤ ps[i].len ∧ ps[i].len ≤ 10000000
  kind : ∀ j (h : j < js.length), 1 ≤ js[j].kind ∧ js[j].kind ≤ 4 ∧ (js[j].ends.length : Int) = js[j].kind
  ends : ∀ j (h : j < js.length) k (hk : k < js[j].ends.length), ∃ p : Nat, p < ps.length ∧ js[j].ends[k].piece = p ∧ (js[j].ends[k].side = 0 ∨ js[j].ends[k].side = 1)
  uses : ∀ i, i < ps.length → uses js i 0 = 1 ∧ uses js i 1 = 1
  sig : ∀ i (h : i < ss.length), ∃ (p : Nat) (hp : p < ps.length), ss[i].len = p ∧ (ss[i].brake = 1 ∨ ss[i].brake = -1) ∧ 1 ≤ ss[i].speed ∧ ss[i].speed ≤ ps[p].len - 1
theorem firstBad_negR {bad : Nat → Bool} {n : Nat} (h : ¬ 0 ≤ firstBad bad n) : ∀ i, i < n → bad i = false := by
  rcases firstBad_cases bad n with ⟨_, h2⟩ | ⟨i, _, h2, _⟩
  · exact h2
  · rw [h2] at h
    omega
theorem right_of {ps : List MPiece} {js : List MJoint} {ss : List MPiece} (h : sigF ps js ss = (0, 0)) : Right ps js ss := by
  have hN : netF ps js = (0, 0) := by
    by_cases e : netF ps js = (0, 0)
    · exact e
    · rw [sigF_1 e] at h; simp at h
  unfold sigF at h
  rw [if_pos hN] at h
  by_cases h60 : 60 < ss.length
  · rw [if_pos h60] at h; simp at h
  rw [if_neg h60] at h
  by_cases h3 : 0 ≤ firstBad (badS3 ps ss) ss.length
  · rw [if_pos h3] at h; simp at h
  have hs3 := firstBad_negR h3
  clear h
  unfold netF at hN
  by_cases c1 : sizeB ps.length js.length = false
  · simp [c1] at hN
  have c1' : sizeB ps.length js.length = true := by simpa using c1
  by_cases c2 : 0 ≤ firstBad (badPi ps) ps.length
  · simp [c1', c2] at hN
  by_cases c3 : 0 ≤ firstBad (bad3i ps.length js) js.length
  · simp [c1', c2, c3] at hN
  by_cases c4 : 0 ≤ firstBad (bad4i js) js.length
  · simp [c1', c2, c3, c4] at hN
  by_cases c5 : 0 ≤ firstBad (bad5i js) ps.length
  · simp [c1', c2, c3, c4, c5] at hN
  have k2 := firstBad_negR c2
  have k3 := firstBad_negR c3
  have k5 := firstBad_negR c5
  unfold sizeB at c1'
  simp only [decide_eq_true_eq] at c1'
  refine ⟨c1'.1, c1'.2.1, c1'.2.2, by omega, ?_, ?_, ?_, ?_, ?_⟩
  · intro i hi
    have := k2 i hi
    rw [badPi_at hi] at this
    simp only [Bool.not_eq_false', okP, pieceB, Bool.and_eq_true] at this
    have h1 := this.1.1.1.2
    unfold inB at h1
    simpa using h1
  · intro j hj
    have := k3 j hj
    rw [bad3i_at hj] at this
    simp only [Bool.not_eq_false', ok3, Bool.and_eq_true] at this
    have h1 := this.1.1
    have h2 := this.1.2
    unfold inB at h1
    simp only [decide_eq_true_eq] at h1
    simp only [beq_iff_eq] at h2
    exact ⟨h1.1, h1.2, h2⟩
  · intro j hj k hk
    have := k3 j hj
    rw [bad3i_at hj] at this
    simp only [Bool.not_eq_false', ok3, Bool.and_eq_true] at this
    have h1 := (List.all_eq_true.1 this.2) _ (List.getElem_mem hk)
    unfold endB inB at h1
    simp only [Bool.and_eq_true, decide_eq_true_eq] at h1
    exact ⟨js[j].ends[k].piece.toNat, by omega, by omega, by omega⟩
  · intro i hi
    have := k5 i hi
    unfold bad5i at this
    simpa using this
  · intro i hi
    have := hs3 i hi
    rw [badS3_at hi] at this
    simp only [Bool.not_eq_false', okSig, okSigC, Bool.and_eq_true] at this
    obtain ⟨⟨⟨_, h1⟩, h2⟩, h3⟩ := this
    unfold inB at h1 h3
    simp only [decide_eq_true_eq] at h1 h3
    have hp : ss[i].len.toNat < ps.length := by omega
    have e : ss[i].len = (ss[i].len.toNat : Int) := by omega
    rw [e, lenAt_at hp] at h3
    refine ⟨ss[i].len.toNat, hp, e, ?_, h3.1, h3.2⟩
    unfold wayB at h2
    simpa using h2
theorem sameE_iff {a b : MEnd} : sameE a b = true ↔ a = b := by
  cases a
  cases b
  simp [sameE]
theorem spotF_some : ∀ {js : List MJoint} {e : MEnd} {n i k : Nat}, spotF js e n = some (i, k) → n ≤ i ∧ ∃ (hi : i - n < js.length) (hk : k < js[i - n].ends.length), js[i - n].ends[k] = e ∧
    (∀ k' (hk' : k' < js[i - n].ends.length), k' < k → sameE js[i - n].ends[k'] e = false) ∧ ∀ i' (hi' : i' < js.length), i' < i - n → ∀ k' (hk' : k' < js[i'].ends.length), sameE js[i'].ends[k'] e = false
  | [], _, _, _, _, h => by simp [spotF] at h
  | j :: r, e, n, i, k, h => by
    simp only [spotF] at h
    cases hf : j.ends.findIdx? (fun x => sameE x e) with
    | some k0 =>
      rw [hf] at h
      simp only [Option.some.injEq, Prod.mk.injEq] at h
      obtain ⟨rfl, rfl⟩ := h
      obtain ⟨h1, h2, h3⟩ := List.findIdx?_eq_some_iff_getElem.1 hf
      refine ⟨Nat.le_refl _, by simp, by simpa using h1, by simpa using sameE_iff.1 h2, ?_, ?_⟩
      · intro k' hk' hlt
        simp only [Nat.sub_self, List.getElem_cons_zero] at hk' ⊢
        have := h3 k' hlt
        simpa using this
      · intro i' _ hlt
        omega
    | none =>
      rw [hf] at h
      obtain ⟨h1, h2, h3, h4, h5, h6⟩ := spotF_some h
      have e1 : i - n = (i - (n + 1)) + 1 := by omega
      have hn := List.findIdx?_eq_none_iff.1 hf
      refine ⟨by omega, by simp only [List.length_cons]; omega, ?_⟩
      simp only [e1, List.getElem_cons_succ]
      refine ⟨h3, h4, h5, ?_⟩
      intro i' hi' hlt k' hk'
      cases i' with
      | zero =>
        simp only [List.getElem_cons_zero] at hk' ⊢
        have := hn _ (List.getElem_mem hk')
        simpa using this
      | succ i' =>
        simp only [List.getElem_cons_succ] at hk' ⊢
        exact h6 i' (by simpa using hi') (by omega) k' hk'
theorem spotF_none : ∀ {js : List MJoint} {e : MEnd} {n : Nat}, spotF js e n = none → usesIn (js.flatMap (·.ends)) e.piece e.side = 0
  | [], _, _, _ => rfl
  | j :: r, e, n, h => by
    simp only [spotF] at h
    cases hf : j.ends.findIdx? (fun x => sameE x e) with
    | some k0 => rw [hf] at h; simp at h
    | none =>
      rw [hf] at h
      have ih := spotF_none h
      have hn := List.findIdx?_eq_none_iff.1 hf
      have h0 : usesIn j.ends e.piece e.side = 0 := by
        unfold usesIn
        rw [List.countP_eq_zero]
        intro x hx
        have := hn x hx
        unfold sameE at this
        simpa using this
      unfold usesIn at ih h0 ⊢
      rw [List.flatMap_cons, List.countP_append, h0, ih]
def ValidE (ps : List MPiece) (e : MEnd) : Prop := ∃ p : Nat, p < ps.length ∧ e.piece = p ∧ (e.side = 0 ∨ e.side = 1)
def ValidS (ps : List MPiece) (s : MStep) : Prop := ∃ p : Nat, p < ps.length ∧ s.piece = p ∧ (s.side = 1 ∨ s.side = -1)
theorem Right.spot {ps : List MPiece} {js : List MJoint} {ss : List MPiece} (R : Right ps js ss) {e : MEnd} (he : ValidE ps e) : ∃ j k, spotF js e 0 = some (j, k) ∧ spotE js e = (j, k) := by
  obtain ⟨p, hp, h1, h2⟩ := he
  have hu : usesIn (js.flatMap (·.ends)) e.piece e.side = 1 := by
    rw [h1]
    rcases h2 with h2 | h2 <;> rw [h2]
    · exact (R.uses p hp).1
    · exact (R.uses p hp).2
  cases hs : spotF js e 0 with
  | none => rw [spotF_none hs] at hu; simp at hu
  | some x =>
    obtain ⟨j, k⟩ := x
    exact ⟨j, k, rfl, by simp [spotE, hs]⟩
theorem aheadE_valid {ps : List MPiece} {s : MStep} (h : ValidS ps s) : ValidE ps (aheadE s) := by
  obtain ⟨p, hp, h1, h2⟩ := h
  unfold aheadE
  split
  · exact ⟨p, hp, h1, Or.inr rfl⟩
  · exact ⟨p, hp, h1, Or.inl rfl⟩
theorem stepFromE_valid {ps : List MPiece} {e : MEnd} (h : ValidE ps e) : ValidS ps (stepFromE e) := by
  obtain ⟨p, hp, h1, h2⟩ := h
  unfold stepFromE
  split
  · exact ⟨p, hp, h1, Or.inl rfl⟩
  · exact ⟨p, hp, h1, Or.inr rfl⟩
theorem farE_valid {ps : List MPiece} {e : MEnd} (h : ValidE ps e) : ValidE ps (farE e) := by
  obtain ⟨p, hp, h1, h2⟩ := h
  refine ⟨p, hp, h1, ?_⟩
  unfold farE
  rcases h2 with h2 | h2 <;> simp [h2]
theorem lenI_at {ps : List MPiece} {k : Nat} (h : k < ps.length) : lenI ps (k : Int) = ps[k].len := by simp [lenI, h]
theorem sigAt_at {ss : List MPiece} {k : Nat} (h : k < ss.length) : sigAt ss (k : Int) = ss[k].speed := by simp [sigAt, h]
theorem kindE_at {js : List MJoint} {j : Nat} (h : j < js.length) : kindE js j = js[j].kind := by simp [kindE, h]
theorem endE_at {js : List MJoint} {j k : Nat} (h : j < js.length) (hk : k < js[j].ends.length) : endE js j k = js[j].ends[k] := by simp [endE, h, hk]
end Go.Proofs.Ytmkdgnmmebldgaa

namespace Go.Proofs.Ytmkdgnmmebldgaa
open Go.RowKit
set_option maxHeartbeats 1000000 in
theorem l1uses_any (pa ja : Option Addr) (pl pc jc : Nat) (js : List MJoint) (p s : Int) (w : World) (hj : Hid (JointsAt w ja js)) (hn : endsNo js ≤ 1000000) :
    Calls Try.prog 60 #[.agg #[.slice pa pl pc, .slice ja js.length jc], .agg #[.int .i64 p, .int .i64 s]] w fun e w' => e = .returned (.int .i64 (uses js p s)) ∧ Below w.heap.size w w' := by
  have hl := hj.out.1
  unfold maxLen at hl
  have HU : Hid (∀ k, uses (js.take k) p s ≤ 1000000) := fun k => Nat.le_trans (uses_le js p s k) hn
  clear hn
  go_enter Try.func60, Try.ntmps60
  go_wp2_with fail
  generalize hW : (w.alloc (Obj.cells #[Value.slice pa pl pc, Value.slice ja js.length jc] 26)).alloc (Obj.cells #[Value.int IntKind.i64 p, Value.int IntKind.i64 s] 139) = W
  have e0 : W.cell? ⟨w.heap.size + 1, 0, none⟩ = some (.int .i64 p) := by rw [← hW]; simp [go_sem]
  have e1 : W.cell? ⟨w.heap.size + 1, 1, none⟩ = some (.int .i64 s) := by rw [← hW]; simp [go_sem]
  have hz : w.heap.size + 2 = W.heap.size := by rw [← hW]; simp
  have hbW : Below w.heap.size w W := by rw [← hW]; exact blo
  clear hW
  go_loopw [5, 13] (fun c i wr => ∃ (k : Nat), k ≤ js.length ∧ i = .int .i64 k ∧ c = .int .i64 (uses (js.take k) p s) ∧ Below W.heap.size W wr) (fun _ i _ => js.length - (intOf i).toNat)
  case atStart => exact ⟨0, Nat.zero_le _, rfl, rfl, blo⟩
  case round =>
    obtain ⟨k, hk, rfl, rfl, hb⟩ := hrel
    by_cases hk' : k < js.length
    · obtain ⟨b1, off1, rfl, hpc1⟩ := hj.out.2.2.resolve_left (fun h => by rw [h] at hk'; exact absurd hk' (Nat.not_lt_zero _))
      obtain ⟨c1, c2, ea, ec, c3, c4⟩ := (hpc1.below hbW) k hk'
      have C4 := hidQ c4
      replace c1 := cell_later hb c1
      replace c2 := cell_later hb c2
      replace c3 := cell_later hb c3
      have hel := c4.1
      unfold maxLen at hel
      clear hpc1 c4
      have hbs := hb.size
      have hu1 := HU.out k
      have hu2 := HU.out (k + 1)
      have HU2 : Hid (uses (js.take (k + 1)) p s = uses (js.take k) p s + usesIn js[k].ends p s) := uses_succ js p s k hk'
      have hu3 : usesIn js[k].ends p s ≤ 1000000 := by have := HU2.out; omega
      have HM : Hid (∀ m, usesIn (js[k].ends.take m) p s ≤ usesIn js[k].ends p s) := fun m => (List.take_sublist m js[k].ends).countP_le
      go_wp2_with fail
      go_loopw [5, 20] (fun c i wr2 => ∃ (m : Nat), m ≤ js[k].ends.length ∧ i = .int .i64 m ∧ c = .int .i64 ((uses (js.take k) p s : Int) + (usesIn (js[k].ends.take m) p s : Int)) ∧ Below W.heap.size W wr2) (fun _ i _ => js[k].ends.length - (intOf i).toNat)
      case atStart => exact ⟨0, Nat.zero_le _, rfl, (congrArg (Value.int IntKind.i64) (Int.add_zero _)).symm, blo⟩
      case round =>
        clear c1 c2 c3 hb hbs
        obtain ⟨m, hm, rfl, rfl, hb⟩ := hrel
        have hbs := hb.size
        have hu4 := HM.out m
        by_cases hm' : m < js[k].ends.length
        · obtain ⟨b2, off2, rfl, hpc2⟩ := C4.out.2.resolve_left (fun h => by rw [h] at hm'; exact absurd hm' (Nat.not_lt_zero _))
          obtain ⟨d1, d2⟩ := (hpc2.below hb) m hm'
          have hz2 : w.heap.size + 1 < _ := Nat.lt_of_lt_of_le (by omega : w.heap.size + 1 < W.heap.size) hb.size
          have f0 := cell_later hb e0
          have f1 := cell_later hb e1
          clear hpc2
          have HS : Hid (usesIn (js[k].ends.take (m + 1)) p s = usesIn (js[k].ends.take m) p s + if (js[k].ends[m].piece == p && js[k].ends[m].side == s) = true then 1 else 0) := usesIn_succ _ p s m hm'
          cases h1 : (js[k].ends[m].piece == p) <;> cases h2 : (js[k].ends[m].side == s)
          all_goals
            have HS2 := HS.out
            rw [h1, h2] at HS2
            simp at HS2
            have HS3 := hidQ HS2
            clear HS HS2
            go_wp2_with fail
            go_roundw
            case rel => exact ⟨m + 1, by omega, by go_num, by rw [HS3.out] <;> go_num, blo⟩
            case measure => simp [intOf]; omega
        · have HX : Hid ((uses (js.take k) p s : Int) + (usesIn (js[k].ends.take m) p s : Int) = (uses (js.take (k + 1)) p s : Int)) := by
            have := HU2.out
            rw [List.take_of_length_le (l := js[k].ends) (by omega)]
            unfold Hid
            omega
          go_wp2_with fail
          go_roundw
          case rel => exact ⟨k + 1, by omega, by go_num, by rw [HX.out], hb⟩
          case measure => simp [intOf]; omega
    · have HX : Hid (js.take k = js) := List.take_of_length_le (by omega)
      go_wp2_with fail
      go_ret
      exact ⟨ret_int (by rw [HX.out]), hbW.trans (hb.mono hbW.size)⟩
end Go.Proofs.Ytmkdgnmmebldgaa

namespace Go.Proofs.Ytmkdgnmmebldgaa
open Go.RowKit
set_option maxHeartbeats 1000000 in
theorem l1joint_any (pa ja : Option Addr) (pl pc jc : Nat) (js : List MJoint) (i : Nat) (hi : i < js.length) (w : World) (hj : Hid (JointsAt w ja js)) (hpl : pl ≤ maxLen) :
    Calls Try.prog 59 #[.agg #[.slice pa pl pc, .slice ja js.length jc], .int .i64 i] w fun e w' => e = .returned (.int .i64 (jointC js pl i js[i])) ∧ Below w.heap.size w w' := by
  have hl := hj.out.1
  unfold maxLen at hl
  obtain ⟨b1, off1, rfl, hpc1⟩ := hj.out.2.2.resolve_left (fun h => by rw [h] at hi; exact absurd hi (Nat.not_lt_zero _))
  have HPC := hidQ hpc1
  have HN := hidQ hj.out.2.1
  clear hj
  obtain ⟨c1, c2, ea, ec, c3, c4⟩ := hpc1 i hi
  have C4 := hidQ c4
  have hel := c4.1
  unfold maxLen at hel
  have hz1 : b1 < w.heap.size := cellLt c1
  clear hpc1 c4
  cases hk : inB js[i].kind 1 4
  · have HX := hidQ (jointC_3a (js := js) (np := pl) (i := i) hk)
    go_enter Try.func59, Try.ntmps59
    go_wp2_with (go_at_call 43; refine (l1in_any _ _ _ _).mono ?_; rintro e w' ⟨rfl, rfl⟩)
    go_ret
    exact ⟨ret_int HX.out.symm, blo⟩
  · cases hk2 : ((js[i].ends.length : Int) == js[i].kind)
    · have HX := hidQ (jointC_3b (js := js) (np := pl) (i := i) hk2)
      go_enter Try.func59, Try.ntmps59
      go_wp2_with (go_at_call 43; refine (l1in_any _ _ _ _).mono ?_; rintro e w' ⟨rfl, rfl⟩)
      go_ret
      exact ⟨ret_int HX.out.symm, blo⟩
    · go_enter Try.func59, Try.ntmps59
      go_wp2_with (go_at_call 43; refine (l1in_any _ _ _ _).mono ?_; rintro e w' ⟨rfl, rfl⟩)
      have HK := hidQ hk
      have HK2 := hidQ hk2
      have hbn : ((js[i].ends.length : Int) != js[i].kind) = false := by rw [bne, hk2]; rfl
      simp only [hbn]
      clear hk hk2 hbn
      generalize hW : (w.alloc (Obj.cells #[Value.slice pa pl pc, Value.slice (some ⟨b1, off1, none⟩) js.length jc] 26)).alloc (Obj.cells #[Value.int IntKind.i64 js[i].kind, Value.string js[i].name, Value.slice ea js[i].ends.length ec] 182) = W
      have e0 : W.cell? ⟨w.heap.size, 0, none⟩ = some (.slice pa pl pc) := by rw [← hW]; simp [go_sem]
      have e1 : W.cell? ⟨w.heap.size, 1, none⟩ = some (.slice (some ⟨b1, off1, none⟩) js.length jc) := by rw [← hW]; simp [go_sem]
      have g0 : W.cell? ⟨w.heap.size + 1, 0, none⟩ = some (.int .i64 js[i].kind) := by rw [← hW]; simp [go_sem]
      have g1 : W.cell? ⟨w.heap.size + 1, 1, none⟩ = some (.string js[i].name) := by rw [← hW]; simp [go_sem]
      have g2 : W.cell? ⟨w.heap.size + 1, 2, none⟩ = some (.slice ea js[i].ends.length ec) := by rw [← hW]; simp [go_sem]
      have hz : w.heap.size + 2 = W.heap.size := by rw [← hW]; simp
      have hbW : Below w.heap.size w W := by rw [← hW]; exact blo
      clear hW c1 c2 c3
      go_loopw [29] (fun c wr => ∃ (m : Nat), m ≤ js[i].ends.length ∧ c = .int .i64 m ∧ Hid (∀ q (hq : q < js[i].ends.length), q < m → endB pl js[i].ends[q].piece js[i].ends[q].side = true) ∧ Below W.heap.size W wr) (fun c _ => js[i].ends.length - (intOf c).toNat)
      case atStart => exact ⟨0, Nat.zero_le _, rfl, (fun q _ h => absurd h (Nat.not_lt_zero q)), blo⟩
      case round =>
        obtain ⟨m, hm, rfl, HQ, hb⟩ := hrel
        have hbs := hb.size
        have hz2 : w.heap.size + 1 < wr.heap.size := by omega
        have hz3 : w.heap.size < wr.heap.size := by omega
        have e0' := cell_later hb e0
        have e1' := cell_later hb e1
        have g0' := cell_later hb g0
        have g1' := cell_later hb g1
        by_cases hm' : m < js[i].ends.length
        · obtain ⟨b2, off2, rfl, hpc2⟩ := C4.out.2.resolve_left (fun h => by rw [h] at hm'; exact absurd hm' (Nat.not_lt_zero _))
          obtain ⟨d1, d2⟩ := ((hpc2.below hbW).below hb) m hm'
          clear hpc2
          go_wp2_with fail
          refine (l1end_any _ _ _ _ _ _ _ _ _ hpl).mono ?_
          rintro e w2 ⟨rfl, hb2⟩
          have hb3 : Below W.heap.size W w2 := Below.trans blo (hb2.mono (by simp; omega))
          clear hb2 d1 d2 e0' e1' g0' g1' hb
          cases hE : endB pl js[i].ends[m].piece js[i].ends[m].side
          · have HX := hidQ (jointC_3c (js := js) (np := pl) (i := i) m hm' hE)
            clear hE
            go_wp2_with fail
            go_ret
            exact ⟨ret_int HX.out.symm, hbW.trans (hb3.mono hbW.size)⟩
          · have HQ2 : Hid (∀ q (hq : q < js[i].ends.length), q < m + 1 → endB pl js[i].ends[q].piece js[i].ends[q].side = true) := by
              intro q hq hqm
              by_cases e : q < m
              · exact HQ.out q hq e
              · have : q = m := by omega
                subst this; exact hE
            clear hE HQ
            go_wp2_with fail
            go_roundw
            case rel => exact ⟨m + 1, by omega, by go_num, HQ2, hb3⟩
            case measure => simp [intOf]; omega
        · have H3 : Hid (ok3 pl js[i] = true) := ok3_of HK.out HK2.out (fun q hq => HQ.out q hq (by omega))
          clear HQ
          have hbF := hidQ (hbW.trans (hb.mono hbW.size))
          have HB := hidQ hb
          by_cases hk3 : js[i].kind < 3
          · by_cases hne : js[i].name = ⟨#[]⟩
            · have HX := hidQ (jointC_0a (js := js) (i := i) H3.out hk3 hne)
              rw [hne] at g1'
              clear hne
              go_wp2_with fail
              go_ret
              exact ⟨ret_int HX.out.symm, hbF.out⟩
            · have HX := hidQ (jointC_4a (js := js) (i := i) H3.out hk3 hne)
              have hne' := emptyS_ne hne
              go_wp2_with fail
              go_ret
              exact ⟨ret_int HX.out.symm, hbF.out⟩
          · have HK3 := hidQ hk3
            cases hnb : nameB js[i].name
            · have HX := hidQ (jointC_4b (js := js) (i := i) H3.out hk3 hnb)
              go_wp2_with (go_at_call 58; refine (l1name_any _ _ (HN.out _ (List.getElem_mem hi))).mono ?_; rintro e w' ⟨rfl, rfl⟩)
              go_ret
              exact ⟨ret_int HX.out.symm, hbF.out⟩
            · go_wp2_with (go_at_call 58; refine (l1name_any _ _ (HN.out _ (List.getElem_mem hi))).mono ?_; rintro e w' ⟨rfl, rfl⟩)
              have HNB := hidQ hnb
              clear hnb
              clear hb
              go_loopw [8] (fun c wr => ∃ (q : Nat), q ≤ i ∧ c = .int .i64 q ∧ Hid (∀ m (hm : m < js.length), m < q → js[m].name ≠ js[i].name) ∧ Below W.heap.size W wr) (fun c _ => i - (intOf c).toNat)
              case atStart => exact ⟨0, Nat.zero_le _, rfl, (fun q _ h => absurd h (Nat.not_lt_zero q)), HB.out⟩
              case round =>
                clear e0' e1' g0' g1' hbF hbs hz2 hz3
                obtain ⟨q, hq, rfl, HQ, hb⟩ := hrel
                have hbs := hb.size
                have hz2 : w.heap.size + 1 < wr.heap.size := by omega
                have hz3 : w.heap.size < wr.heap.size := by omega
                have e1' := cell_later hb e1
                have g1' := cell_later hb g1
                have hbF := hidQ (hbW.trans (hb.mono hbW.size))
                by_cases hq' : q < i
                · have hqj : q < js.length := by omega
                  obtain ⟨x1, c2, x2⟩ := ((HPC.out.below hbW).below hb) q hqj
                  clear x1 x2
                  by_cases hne : js[q].name = js[i].name
                  · have HX := hidQ (jointC_4c (js := js) (i := i) H3.out (by have := HK3.out; omega) (aheadB_hit hq' hqj hne))
                    rw [hne] at c2
                    clear hne
                    go_wp2_with fail
                    go_quiet (fail)
                    go_wp2_with fail
                    go_ret
                    exact ⟨ret_int HX.out.symm, (by have := hbF.out; exact blo)⟩
                  · have HQ2 : Hid (∀ m (hm : m < js.length), m < q + 1 → js[m].name ≠ js[i].name) := by
                      intro m hm hmq
                      by_cases e : m < q
                      · exact HQ.out m hm e
                      · have : m = q := by omega
                        subst this; exact hne
                    have hne' := beqS_ne hne
                    clear hne HQ
                    go_wp2_with fail
                    go_quiet (fail)
                    go_wp2_with fail
                    go_roundw
                    case rel => exact ⟨q + 1, by omega, by go_num, HQ2, blo⟩
                    case measure => simp [intOf]; omega
                · have HX := hidQ (jointC_0b (js := js) (i := i) H3.out (by have := HK3.out; omega) HNB.out (aheadB_none (fun m hm hmi => HQ.out m hm (by omega))))
                  go_wp2_with fail
                  go_ret
                  exact ⟨ret_int HX.out.symm, hbF.out⟩
end Go.Proofs.Ytmkdgnmmebldgaa
