import Derived.Test.YtmkdgnmmebldgaaPn40
import Derived.Test.YtmkdgnmmebldgaaPn35
import Derived.Test.YtmkdgnmmebldgaaPn10
import Derived.Test.YtmkdgnmmebldgaaPn9
import Derived.Test.YtmkdgnmmebldgaaPn14
namespace Go.Proofs.Ytmkdgnmmebldgaa
open Go.RowKit Go.Deep Go.Maps
structure PathOk (ps : List MPiece) (js : List MJoint) (ss : List MPiece) (p : MPath) : Prop where
  s0 : 0 < p.steps.length
  s1 : p.steps.length ≤ 202
  sv : ∀ s ∈ p.steps, ValidS ps s
  start : ∃ i : Nat, i < ss.length ∧ p.start = i
  stop : p.stop = -1 ∨ ∃ i : Nat, i < ss.length ∧ p.stop = i
  lv : ∀ l ∈ p.lies, ∃ (j : Nat) (hj : j < js.length), l.piece = j ∧ js[j].kind = 3 ∧ (l.side = 1 ∨ l.side = 2)
  ll : p.lies.length ≤ 120
  cl : p.crosses.length ≤ 202
theorem RClaims.only {B : Nat} {w w' : World} {d : RAddr} {r : MRoute} (h : RClaims B w d r) {K : Nat → Prop} (hO : Only K w w') (hK : ∀ k, K k → k < B) : RClaims B w' d r :=
  ⟨owns_only h.steps hO hK, owns_only h.lies hO hK, owns_only h.crosses hO hK, owns_only h.parts hO hK, owns_only h.over hO hK, owns_only h.flanks hO hK, h.dis⟩
theorem RClaims.mono {B B' : Nat} {w : World} {d : RAddr} {r : MRoute} (h : RClaims B w d r) (hB : B' ≤ B) : RClaims B' w d r :=
  ⟨owns_mono h.steps hB, owns_mono h.lies hB, owns_mono h.crosses hB, owns_mono h.parts hB, owns_mono h.over hB, owns_mono h.flanks hB, h.dis⟩
end Go.Proofs.Ytmkdgnmmebldgaa

namespace Go.Proofs.Ytmkdgnmmebldgaa
open Go.RowKit
end Go.Proofs.Ytmkdgnmmebldgaa

namespace Go.Proofs.Ytmkdgnmmebldgaa
open Go.RowKit Go.Maps
open Go.WideMaps (KeyLaw)
end Go.Proofs.Ytmkdgnmmebldgaa

namespace Go.Proofs.Ytmkdgnmmebldgaa
open Go.RowKit Go.Maps
open Go.WideMaps (KeyLaw)
end Go.Proofs.Ytmkdgnmmebldgaa

namespace Go.Proofs.Ytmkdgnmmebldgaa
open Go.RowKit
end Go.Proofs.Ytmkdgnmmebldgaa

namespace Go.Proofs.Ytmkdgnmmebldgaa
open Go.RowKit
end Go.Proofs.Ytmkdgnmmebldgaa

namespace Go.Proofs.Ytmkdgnmmebldgaa
open Go.RowKit
end Go.Proofs.Ytmkdgnmmebldgaa

namespace Go.Proofs.Ytmkdgnmmebldgaa
open Go.RowKit
end Go.Proofs.Ytmkdgnmmebldgaa

namespace Go.Proofs.Ytmkdgnmmebldgaa
open Go.RowKit
end Go.Proofs.Ytmkdgnmmebldgaa

namespace Go.Proofs.Ytmkdgnmmebldgaa
open Go.RowKit
end Go.Proofs.Ytmkdgnmmebldgaa

namespace Go.Proofs.Ytmkdgnmmebldgaa
open Go.RowKit
end Go.Proofs.Ytmkdgnmmebldgaa

namespace Go.Proofs.Ytmkdgnmmebldgaa
open Go.RowKit
end Go.Proofs.Ytmkdgnmmebldgaa

namespace Go.Proofs.Ytmkdgnmmebldgaa
open Go.RowKit
end Go.Proofs.Ytmkdgnmmebldgaa

namespace Go.Proofs.Ytmkdgnmmebldgaa
open Go.RowKit
end Go.Proofs.Ytmkdgnmmebldgaa

namespace Go.Proofs.Ytmkdgnmmebldgaa
open Go.RowKit Go.Deep Go.Maps
theorem WalkOk.path {ps : List MPiece} {js : List MJoint} {ss : List MPiece} (R : Right ps js ss) {i : Nat} {pre : List MStep} {s : MStep} {lies : List MLie} {crosses : List Int} {pos : Int} (h : WalkOk ps js ss i pre s lies crosses pos) {stop : Int} (hst : stop = -1 ∨ ∃ k : Nat, k < ss.length ∧ stop = k) : PathOk ps js ss (endP i stop (pre ++ [s]) lies crosses) := by
  have hf := h.few
  have hnp := R.np
  have hl := lies_few h.lv h.ld
  have hnj := R.nj
  have hc := h.cl
  refine ⟨by simp [endP], by simp [endP]; omega, ?_, ⟨i, h.start, rfl⟩, hst, h.lv, by simp [endP]; omega, by simp [endP]; omega⟩
  intro x hx
  rcases List.mem_append.1 hx with hx | hx
  · exact h.pv x hx
  · have : x = s := by simpa using hx
    rw [this]; exact h.sv
end Go.Proofs.Ytmkdgnmmebldgaa

namespace Go.Proofs.Ytmkdgnmmebldgaa
open Go.RowKit Go.Deep
theorem few_of_in {α : Type} [DecidableEq α] : ∀ {L M : List α}, L.Nodup → (∀ x ∈ L, x ∈ M) → L.length ≤ M.length
  | [], _, _, _ => Nat.zero_le _
  | a :: r, M, hd, h => by
    have ha := h a (by simp)
    have hd' := List.nodup_cons.1 hd
    have h1 := few_of_in (L := r) (M := M.erase a) hd'.2 (fun x hx => (List.mem_erase_of_ne (fun e : x = a => hd'.1 (e ▸ hx))).2 (h x (by simp [hx])))
    rw [List.length_erase_of_mem ha] at h1
    have : 0 < M.length := List.length_pos_of_mem ha
    simp
    omega
theorem onto_of {α : Type} [DecidableEq α] {S : List α} (hd : S.Nodup) (g : α → α) (hin : ∀ x ∈ S, g x ∈ S) (hi : ∀ x ∈ S, ∀ y ∈ S, g x = g y → x = y) : ∀ y ∈ S, ∃ x ∈ S, g x = y := by
  intro y hy
  by_cases h : y ∈ S.map g
  · obtain ⟨x, hx, e⟩ := List.mem_map.1 h
    exact ⟨x, hx, e⟩
  · exfalso
    have hm : (S.map g).Nodup := by
      unfold List.Nodup
      rw [List.pairwise_map]
      refine List.Pairwise.imp_of_mem ?_ hd
      intro a b ha hb hne e
      exact hne (hi a ha b hb e)
    have h1 := few_of_in (L := S.map g) (M := S.erase y) hm (fun x hx => by
      obtain ⟨z, hz, rfl⟩ := List.mem_map.1 hx
      exact (List.mem_erase_of_ne (fun e : g z = y => h (e ▸ hx))).2 (hin z hz))
    rw [List.length_erase_of_mem hy, List.length_map] at h1
    have : 0 < S.length := List.length_pos_of_mem hy
    omega
def LClosed (js : List MJoint) (S : List MEnd) (x : MEnd) : Prop :=
  ¬ kindE js (spotE js (farE x)).1 = 1 ∧ ¬ (kindE js (spotE js (farE x)).1 = 3 ∧ (spotE js (farE x)).2 ≠ 0) ∧
    ∀ t ∈ beyondF (kindE js (spotE js (farE x)).1) (spotE js (farE x)).2, endE js (spotE js (farE x)).1 t ∈ S
theorem LClosed.mono {js : List MJoint} {S S' : List MEnd} {x : MEnd} (h : LClosed js S x) (hs : ∀ y ∈ S, y ∈ S') : LClosed js S' x :=
  ⟨h.1, h.2.1, fun t ht => hs _ (h.2.2 t ht)⟩
def LookQ (js : List MJoint) (st r : List MEnd × List MFlank) (E : List MEnd) : Prop :=
  r.2 = [] → st.2 = [] ∧ (∀ x ∈ st.1, x ∈ r.1) ∧ (∀ x ∈ E, x ∈ r.1) ∧ ∀ x ∈ r.1, x ∈ st.1 ∨ LClosed js r.1 x
theorem look_fold {ps : List MPiece} {js : List MJoint} (B : Nat) {f : List MEnd × List MFlank → Nat → List MEnd × List MFlank} {en : Nat → MEnd} : ∀ (L : List Nat) (s : List MEnd × List MFlank), Seen ps s.1 → B ≤ s.1.length →
    (∀ t ∈ L, ∀ s, Seen ps s.1 → B ≤ s.1.length → Grew ps s (f s t) ∧ LookQ js s (f s t) [en t]) → LookQ js s (L.foldl f s) (L.map en)
  | [], s, _, _, _ => fun h => ⟨h, fun x hx => hx, fun x hx => (by cases hx), fun x hx => Or.inl hx⟩
  | t :: r, s, hs, hb, h => by
    intro h0
    obtain ⟨hg, hq⟩ := h t (by simp) s hs hb
    have ih := look_fold B r (f s t) hg.1 (Nat.le_trans hb hg.2.1) (fun t' ht => h t' (by simp [ht])) h0
    obtain ⟨q1, q2, q3, q4⟩ := hq ih.1
    refine ⟨q1, fun x hx => ih.2.1 x (q2 x hx), fun x hx => ?_, fun x hx => ?_⟩
    · rcases List.mem_cons.1 hx with rfl | hx
      · exact ih.2.1 _ (q3 _ (by simp))
      · exact ih.2.2.1 x hx
    · rcases ih.2.2.2 x hx with hx | hx
      · rcases q4 x hx with hx | hx
        · exact Or.inl hx
        · exact Or.inr (hx.mono ih.2.1)
      · exact Or.inr hx
theorem look_closed {ps : List MPiece} {js : List MJoint} {ss : List MPiece} (R : Right ps js ss) (lies : List MLie) (pl : Int) : ∀ (n : Nat) (st : List MEnd × List MFlank) (e : MEnd), Seen ps st.1 → ValidE ps e → 2 * ps.length + 1 ≤ n + st.1.length → LookQ js st (lookF js ss lies pl n st e) [e]
  | 0, st, e, h, _, hf => by
    have := h.few
    omega
  | n + 1, st, e, h, hv, hf => by
    simp only [lookF]
    generalize (if e.side = 0 then (-1 : Int) else 1) = wy
    split
    · rename_i hn
      intro h0
      obtain ⟨x, hx, he⟩ := List.any_eq_true.1 hn
      have := sameE_iff.1 he
      subst this
      exact ⟨h0, fun y hy => hy, fun y hy => (by have : y = x := by simpa using hy
                                                 exact this ▸ hx), fun y hy => Or.inl hy⟩
    · rename_i hn
      have h1 := h.push hv hn
      have hg : ∀ x : MFlank, LookQ js st (st.1 ++ [e], st.2 ++ [x]) [e] := fun x h0 => by simp at h0
      split
      · exact hg _
      · split
        · exact hg _
        · rename_i hk1
          split
          · exact hg _
          · rename_i hk3
            intro h0
            obtain ⟨q1, q2, q3, q4⟩ := look_fold (ps := ps) (js := js) (2 * ps.length + 1 - n) (en := endE js (spotE js (farE e)).1) _ (st.1 ++ [e], st.2) h1 (by simp; omega) (fun t ht s hs hb =>
              ⟨look_grew R lies pl n s _ hs (R.across (farE_valid hv) ht), look_closed R lies pl n s _ hs (R.across (farE_valid hv) ht) (by omega)⟩) h0
            refine ⟨q1, fun x hx => q2 x (by simp [hx]), fun x hx => q2 x (by simp at hx; simp [hx]), fun x hx => ?_⟩
            rcases q4 x hx with hx | hx
            · rcases List.mem_append.1 hx with hx | hx
              · exact Or.inl hx
              · have : x = e := by simpa using hx
                subst this
                exact Or.inr ⟨hk1, hk3, fun t ht => q3 _ (List.mem_map.2 ⟨t, ht, rfl⟩)⟩
            · exact Or.inr hx
def headP (kind : Int) (k : Nat) : Nat := (beyondF kind k).headD 0
def headS (js : List MJoint) (e : MEnd) : MEnd := endE js (spotE js (farE e)).1 (headP (kindE js (spotE js (farE e)).1) (spotE js (farE e)).2)
theorem farE_far {a b : MEnd} (h : farE a = farE b) : a = b := by
  cases a
  cases b
  simp only [farE, MEnd.mk.injEq] at h ⊢
  omega
theorem found_some {ps : List MPiece} {js : List MJoint} {ss : List MPiece} (R : Right ps js ss) (lies : List MLie) (pl : Int) {j k : Nat} (hj : j < js.length) (h3 : js[j].kind = 3) (hk : k = 1 ∨ k = 2) :
    (lookF js ss lies pl (depthR ps) ([], []) (endE js j k)).2 ≠ [] := by
  intro h0
  have hkd := (R.kind j hj).2.2
  have hk' : k < js[j].ends.length := by omega
  have hv : ValidE ps (endE js j k) := by rw [endE_at hj hk']; exact R.ends j hj k hk'
  have hgr := look_grew R lies pl (depthR ps) ([], []) _ (Seen.nil ps) hv
  obtain ⟨_, _, he, hc⟩ := look_closed R lies pl (depthR ps) ([], []) _ (Seen.nil ps) hv (by unfold depthR; simp) h0
  have hS := hgr.1
  clear hgr
  generalize (lookF js ss lies pl (depthR ps) ([], []) (endE js j k)).1 = S at hS he hc
  haveI : DecidableEq MEnd := fun a b => Classical.propDecidable _
  have he' := he _ (List.mem_singleton.2 rfl)
  have hcl : ∀ x ∈ S, LClosed js S x := fun x hx => (hc x hx).resolve_left (by simp)
  have hspot : ∀ x ∈ S, ∃ (i t : Nat) (hi : i < js.length) (ht : t < js[i].ends.length) (hh : headP js[i].kind t < js[i].ends.length), spotE js (farE x) = (i, t) ∧ js[i].ends[t] = farE x ∧ headS js x = js[i].ends[headP js[i].kind t] ∧ headP js[i].kind t ∈ beyondF js[i].kind t ∧ (js[i].kind = 3 → t = 0) := fun x hx => by
    obtain ⟨i, t, h1, h2⟩ := R.spot (farE_valid (hS.2 x hx))
    obtain ⟨_, hi, ht, h3, _⟩ := spotF_some h1
    simp only [Nat.sub_zero] at hi ht h3
    have hcx := hcl x hx
    unfold LClosed at hcx
    rw [h2] at hcx
    dsimp only at hcx
    rw [kindE_at hi] at hcx
    have hki := R.kind i hi
    have hne : beyondF js[i].kind t ≠ [] := by
      have h4 : js[i].kind = 2 ∨ js[i].kind = 3 ∨ js[i].kind = 4 := by omega
      unfold beyondF
      rcases h4 with h | h | h <;> rw [h] <;> simp
      split <;> simp
    have hm : headP js[i].kind t ∈ beyondF js[i].kind t := by
      unfold headP
      cases hb : beyondF js[i].kind t with
      | nil => exact absurd hb hne
      | cons a r => simp
    have hl := beyond_lt hki.2.2 ht hm
    refine ⟨i, t, hi, ht, hl, h2, h3, ?_, hm, fun h => ?_⟩
    · unfold headS
      rw [h2]
      dsimp only
      rw [kindE_at hi, endE_at hi hl]
    · by_cases h0 : t = 0
      · exact h0
      · exact absurd ⟨h, h0⟩ hcx.2.1
  have huniq : ∀ (i t : Nat) (hi : i < js.length) (ht : t < js[i].ends.length) (i' t' : Nat) (hi' : i' < js.length) (ht' : t' < js[i'].ends.length), js[i].ends[t] = js[i'].ends[t'] → i = i' ∧ t = t' := fun i t hi ht i' t' hi' ht' e => by
    have h1 := R.uniq hi ht
    have h2 := R.uniq hi' ht'
    rw [e, h2] at h1
    simp at h1
    omega
  have honto := onto_of hS.1 (headS js) (fun x hx => by
      obtain ⟨i, t, hi, ht, hh, h1, _, h3, h4, _⟩ := hspot x hx
      have := (hcl x hx).2.2 (headP js[i].kind t) (by rw [h1]; dsimp only; rw [kindE_at hi]; exact h4)
      rw [h1] at this
      dsimp only at this
      rw [endE_at hi hh] at this
      rw [h3]; exact this)
    (fun x hx y hy e => by
      obtain ⟨i, t, hi, ht, hh, _, h2, h3, _, h5⟩ := hspot x hx
      obtain ⟨i', t', hi', ht', hh', _, h2', h3', _, h5'⟩ := hspot y hy
      rw [h3, h3'] at e
      obtain ⟨rfl, e2⟩ := huniq _ _ _ _ _ _ _ _ e
      have hki := R.kind i hi
      have hcx := (hcl x hx).1
      have htt : t = t' := by
        unfold headP beyondF at e2
        have h4 : js[i].kind = 1 ∨ js[i].kind = 2 ∨ js[i].kind = 3 ∨ js[i].kind = 4 := by omega
        have hlk := hki.2.2
        rcases h4 with h | h | h | h
        · rw [h] at hlk
          omega
        · rw [h] at e2 hlk
          simp at e2
          omega
        · have := h5 h
          have := h5' h
          omega
        · rw [h] at e2 hlk
          simp at e2
          have c1 : t = 0 ∨ t = 1 ∨ t = 2 ∨ t = 3 := by omega
          have c2 : t' = 0 ∨ t' = 1 ∨ t' = 2 ∨ t' = 3 := by omega
          rcases c1 with rfl | rfl | rfl | rfl <;> rcases c2 with rfl | rfl | rfl | rfl <;> simp at e2 ⊢
      subst htt
      exact farE_far (h2.symm.trans h2'))
  have hbef : ∀ (m : Nat) (hm : m < js[j].ends.length), m ≠ 0 → js[j].ends[m] ∈ S → m = 1 ∧ (∀ (h2 : 2 < js[j].ends.length), js[j].ends[2] ∈ S) := fun m hm hm0 hin => by
    obtain ⟨x, hx, e⟩ := honto _ hin
    obtain ⟨i, t, hi, ht, hh, h1, _, h3', h4, h5⟩ := hspot x hx
    rw [h3'] at e
    obtain ⟨rfl, e2⟩ := huniq _ _ _ _ _ _ _ _ e
    have ht0 := h5 h3
    subst ht0
    rw [h3] at e2
    refine ⟨by rw [← e2]; rfl, fun h2 => ?_⟩
    have := (hcl x hx).2.2 2 (by rw [h1]; dsimp only; rw [kindE_at hi, h3]; decide)
    rw [h1] at this
    dsimp only at this
    rw [endE_at hi h2] at this
    exact this
  rw [endE_at hj hk'] at he'
  have h2 : 2 < js[j].ends.length := by omega
  have hb := hbef k hk' (by omega) he'
  have hb2 := hbef 2 h2 (by omega) (hb.2 h2)
  omega
theorem look_place {js : List MJoint} {ss : List MPiece} (lies : List MLie) (pl : Int) : ∀ (n : Nat) (st : List MEnd × List MFlank) (e : MEnd), (∀ f ∈ st.2, f.place = pl) → ∀ f ∈ (lookF js ss lies pl n st e).2, f.place = pl
  | 0, st, e, h => h
  | n + 1, st, e, h => by
    have hadd : ∀ (x : MFlank), x.place = pl → ∀ f ∈ st.2 ++ [x], f.place = pl := fun x hx f hf => by
      rcases List.mem_append.1 hf with hf | hf
      · exact h f hf
      · have : f = x := by simpa using hf
        rw [this]; exact hx
    simp only [lookF]
    generalize (if e.side = 0 then (-1 : Int) else 1) = wy
    split
    · exact h
    · split
      · exact hadd _ rfl
      · split
        · exact hadd _ rfl
        · split
          · refine hadd _ ?_
            split <;> rfl
          · have hfold : ∀ (L : List Nat) (s : List MEnd × List MFlank), (∀ f ∈ s.2, f.place = pl) → ∀ f ∈ (L.foldl (fun s t => lookF js ss lies pl n s (endE js (spotE js (farE e)).1 t)) s).2, f.place = pl := by
              intro L
              induction L with
              | nil => exact fun s hs => hs
              | cons t r ih => exact fun s hs => ih _ (look_place lies pl n s _ hs)
            exact hfold _ _ h
theorem flanksF_some {ps : List MPiece} {js : List MJoint} {ss : List MPiece} (R : Right ps js ss) (lies : List MLie) : ∀ (L : List MLie), (∀ l ∈ L, ∃ (j : Nat) (hj : j < js.length), l.piece = j ∧ js[j].kind = 3 ∧ (l.side = 1 ∨ l.side = 2)) → ∀ l ∈ L, ∃ f ∈ flanksF ps js ss lies L, f.place = l.piece
  | [], _ => fun l hl => by cases hl
  | a :: r, h => fun l hl => by
    rcases List.mem_cons.1 hl with rfl | hl
    · obtain ⟨j, hj, h1, h2, h3⟩ := h l (by simp)
      have hf := found_some R lies l.piece (k := (3 - l.side).toNat) hj h2 (by omega)
      have hp := look_place (js := js) (ss := ss) lies l.piece (depthR ps) ([], []) (endE js j (3 - l.side).toNat) (fun f hf => by cases hf)
      have he : j = l.piece.toNat := by omega
      rw [he] at hf hp
      obtain ⟨f, r', hr⟩ := List.exists_cons_of_ne_nil hf
      exact ⟨f, List.mem_append.2 (Or.inl (by rw [hr]; simp)), hp f (by rw [hr]; simp)⟩
    · obtain ⟨f, hf, e⟩ := flanksF_some R lies r (fun l hl => h l (by simp [hl])) l hl
      exact ⟨f, List.mem_append.2 (Or.inr hf), e⟩
end Go.Proofs.Ytmkdgnmmebldgaa
