import Derived.Test.YtmkdgnmmebldgabTTable
import Derived.Test.YtmkdgnmmebldgabSClaim
import Derived.Laws.OwnMore
import Derived.OneCell
namespace Go.Proofs.Ytmkdgnmmebldgab
open Go.RowKit Go.Deep

/-! A square table that is filled from both sides. -/

def rowsM (n : Nat) (M : Nat → Nat → Int) : List (List Int) := (List.range n).map fun p => (List.range n).map (M p)
def updM (M : Nat → Nat → Int) (i k : Nat) (v : Int) (p q : Nat) : Int := if p = i ∧ q = k then v else M p q
def cellM (f : Nat → Nat → Int) (i m p q : Nat) : Int := if (p < i ∧ q < i) ∨ (p = i ∧ q < m) ∨ (q = i ∧ p < m) then f p q else 0

theorem rowsM_len (n : Nat) (M : Nat → Nat → Int) : (rowsM n M).length = n := by simp [rowsM]
theorem rowsM_row (n : Nat) (M : Nat → Nat → Int) (p : Nat) (h : p < (rowsM n M).length) : (rowsM n M)[p] = (List.range n).map (M p) := by simp [rowsM]
theorem rowsM_congr {n : Nat} {M M' : Nat → Nat → Int} (h : ∀ p q, p < n → q < n → M p q = M' p q) : rowsM n M = rowsM n M' := by
  unfold rowsM
  apply List.map_congr_left
  intro p hp
  apply List.map_congr_left
  intro q hq
  exact h p q (List.mem_range.1 hp) (List.mem_range.1 hq)
theorem cellM_step {f : Nat → Nat → Int} (hf : ∀ p q, f p q = f q p) (i m : Nat) (p q : Nat) : updM (updM (cellM f i m) i m (f i m)) m i (f i m) p q = cellM f i (m + 1) p q := by
  unfold updM cellM
  by_cases h1 : p = m ∧ q = i
  · obtain ⟨rfl, rfl⟩ := h1
    rw [if_pos ⟨rfl, rfl⟩, if_pos (by omega), hf]
  · rw [if_neg h1]
    by_cases h2 : p = i ∧ q = m
    · obtain ⟨rfl, rfl⟩ := h2
      rw [if_pos ⟨rfl, rfl⟩, if_pos (by omega)]
    · rw [if_neg h2]
      by_cases h3 : (p < i ∧ q < i) ∨ (p = i ∧ q < m) ∨ (q = i ∧ p < m)
      · rw [if_pos h3, if_pos (by omega)]
      · rw [if_neg h3, if_neg (by omega)]
theorem cellM_next (f : Nat → Nat → Int) (i : Nat) (p q : Nat) : cellM f i (i + 1) p q = cellM f (i + 1) 0 p q := by
  unfold cellM
  by_cases h3 : (p < i ∧ q < i) ∨ (p = i ∧ q < i + 1) ∨ (q = i ∧ p < i + 1)
  · rw [if_pos h3, if_pos (by omega)]
  · rw [if_neg h3, if_neg (by omega)]
theorem cellM_zero (f : Nat → Nat → Int) (p q : Nat) : cellM f 0 0 p q = 0 := by
  unfold cellM
  rw [if_neg (by omega)]
theorem cellM_all (f : Nat → Nat → Int) (n p q : Nat) (hp : p < n) (hq : q < n) : cellM f n 0 p q = f p q := by
  unfold cellM
  rw [if_pos (by omega)]

theorem flatN_set (l : List Int) (k : Nat) (v : Int) : (flatN l).set k (.int .i64 v) = flatN (l.set k v) := by
  have h : ∀ l : List Int, flatN l = l.map (Value.int .i64) := by
    intro l
    induction l with
    | nil => rfl
    | cons x r ih => show encN x ++ flatN r = _; rw [ih]; rfl
  rw [h, h, List.map_set]
theorem range_set (n i k : Nat) (M : Nat → Nat → Int) (v : Int) : ((List.range n).map (M i)).set k v = (List.range n).map (updM M i k v i) := by
  apply List.ext_getElem
  · simp
  · intro q h1 h2
    simp only [List.length_set, List.length_map, List.length_range] at h1
    rw [List.getElem_set]
    unfold updM
    by_cases e : k = q
    · subst e; simp
    · have e' : ¬ q = k := fun h => e h.symm
      simp [e, e']

theorem RowsOwn.row {w : World} {B n : Nat} {cells : List Value} {M : Nat → Nat → Int} (h : RowsOwn w B cells (rowsM n M)) (hn : 0 < n) (i : Nat) (hi : i < n) :
    ∃ g cap, cells[i]? = some (.slice (some ⟨g, 0, none⟩) n cap) ∧ w.ownsRow B 3 1 (.slice (some ⟨g, 0, none⟩) n cap) n (flatN ((List.range n).map (M i))) := by
  obtain ⟨v, h1, h2⟩ := h.2 i (by rw [rowsM_len]; exact hi)
  rw [rowsM_row] at h2
  have hl : ((List.range n).map (M i)).length = n := by simp
  rw [hl] at h2
  rcases h2.2 with ⟨_, h0⟩ | ⟨g, cap, cur, hv, _⟩
  · omega
  · subst hv
    exact ⟨g, cap, h1, h2⟩

theorem RowsOwn.set {w : World} {B n : Nat} {cells : List Value} {M : Nat → Nat → Int} (h : RowsOwn w B cells (rowsM n M)) (hA : RowsApart cells) {i k g cap : Nat} (hi : i < n) (hc : cells[i]? = some (.slice (some ⟨g, 0, none⟩) n cap)) (v : Int) :
    RowsOwn (w.setCell ⟨g, k, none⟩ (.int .i64 v)) B cells (rowsM n (updM M i k v)) := by
  refine ⟨by rw [h.1, rowsM_len, rowsM_len], fun p hp => ?_⟩
  rw [rowsM_len] at hp
  obtain ⟨u, h1, h2⟩ := h.2 p (by rw [rowsM_len]; exact hp)
  refine ⟨u, h1, ?_⟩
  rw [rowsM_row] at h2 ⊢
  by_cases e : p = i
  · subst e
    rw [hc] at h1
    cases h1
    have hl : ((List.range n).map (M p)).length = n := by simp
    have hl2 : ((List.range n).map (updM M p k v p)).length = n := by simp
    rw [hl] at h2
    rw [hl2]
    have h3 := (h2.stored k (.int .i64 v)).1
    rw [flatN_set, range_set] at h3
    exact h3
  · have hM : (List.range n).map (updM M i k v p) = (List.range n).map (M p) := by
      apply List.map_congr_left
      intro q _
      unfold updM
      rw [if_neg (fun h => e h.1)]
    rw [hM]
    exact ownsRow_setCell_other h2 (fun hb => e (hA p i u _ g h1 hc hb rfl)) _

theorem flatN_zeros : ∀ n : Nat, flatN (List.replicate n 0) = List.replicate n (Value.int .i64 0)
  | 0 => rfl
  | n + 1 => by
    rw [List.replicate_succ, List.replicate_succ]
    show encN 0 ++ flatN _ = _
    rw [flatN_zeros n]
    rfl
theorem make_zero (w : World) (n : Nat) (hn : n ≤ 1048576) :
    ∃ w', (Instr.makeSlice 24 (.int .i64 (n : Int)) (.int .i64 (n : Int))).run Try.prog w = .ok (.slice (some ⟨w.heap.size, 0, none⟩) n n) w' ∧
      w'.ownsRow w.heap.size 3 1 (.slice (some ⟨w.heap.size, 0, none⟩) n n) n (flatN (List.replicate n 0)) ∧ Below w.heap.size w w' := by
  obtain ⟨i, hi1, hi2, hi3, hi4⟩ := info_parts Try.infoInt
  have hr := run_make (P := Try.prog) w 24 3 i _ Try.underlying24 hi1 hi2 .i64 .i64 n n (by omega) (by omega) (by rw [hi4]; omega) (by omega)
  simp only [Int.toNat_natCast] at hr
  rw [hi3, Nat.mul_one] at hr
  refine ⟨_, hr, ?_, (by repeat (first | exact Below.refl _ _ | assumption | refine Below.drew ?_ | refine bdrewN ?_ _ | refine Below.setCell ?_ (by first | omega | (simp; done) | (simp; omega)) _ | refine Below.alloc ?_ (by first | omega | (simp; done) | (simp; omega)) _))⟩
  have h := World.ownsRow_lit w (base := w.heap.size) (e := 3) (size := 1) (n := n) (cs := madeCells (Value.int .i64 0).cells n) (Nat.le_refl _) (by unfold maxLen; omega) (by rw [size_madeCells]; omega)
  rw [show (madeCells (Value.int IntKind.i64 0).cells n).toList = List.replicate n (Value.int .i64 0) from toList_madeCells_one _ _] at h
  rw [flatN_zeros]
  exact h
theorem rows_zero (n : Nat) (f : Nat → Nat → Int) : List.replicate n (List.replicate n 0) = rowsM n (cellM f 0 0) := by
  apply List.ext_getElem
  · simp [rowsM]
  · intro p h1 h2
    rw [rowsM_row, List.getElem_replicate]
    apply List.ext_getElem
    · simp
    · intro q h3 h4
      simp [cellM_zero]

/-! The claims of a list. -/

def ClaimsAt (w : World) (a : Option Addr) (cs : List MClaim) : Prop := cs.length ≤ maxLen ∧ (cs = [] ∨ ∃ b off, a = some ⟨b, off, none⟩ ∧ ∀ i (h : i < cs.length), ∃ d, ClaimCell w b (off + i * 12) d cs[i] ∧ ClaimAt w d cs[i])
theorem ClaimsAt.below {w w' : World} {a : Option Addr} {cs : List MClaim} (h : ClaimsAt w a cs) (hb : Below w.heap.size w w') : ClaimsAt w' a cs := by
  obtain ⟨h1, h3⟩ := h
  refine ⟨h1, ?_⟩
  rcases h3 with h3 | ⟨b, off, h3, h4⟩
  · exact Or.inl h3
  · exact Or.inr ⟨b, off, h3, fun i hi => by obtain ⟨d, h5, h6⟩ := h4 i hi; exact ⟨d, h5.below hb, h6.below hb⟩⟩
theorem exclC_symm (a b : MClaim) : exclC a b = exclC b a := by
  unfold exclC
  rw [touchL_symm a.parts, crossL_symm a.crosses, wantL_symm a.needs]
  simp only [Or.comm]
def exM (cs : List MClaim) (p q : Nat) : Int := match cs[p]?, cs[q]? with
  | some a, some b => exclC a b
  | _, _ => 0
theorem exM_at {cs : List MClaim} {p q : Nat} (hp : p < cs.length) (hq : q < cs.length) : exM cs p q = exclC cs[p] cs[q] := by
  unfold exM
  rw [List.getElem?_eq_getElem hp, List.getElem?_eq_getElem hq]
theorem exM_symm (cs : List MClaim) (p q : Nat) : exM cs p q = exM cs q p := by
  unfold exM
  cases cs[p]? <;> cases cs[q]? <;> simp [exclC_symm]
theorem table_rowsM (rs : List MRoute) : rowsM rs.length (exM (rs.map claimF)) = rs.map fun a => rs.map (exclF a) := by
  apply List.ext_getElem
  · simp [rowsM]
  · intro p h1 h2
    rw [rowsM_row]
    apply List.ext_getElem
    · simp
    · intro q h3 h4
      have hp : p < rs.length := by simpa using h2
      have hq : q < rs.length := by simpa using h3
      simp only [List.getElem_map, List.getElem_range]
      rw [exM_at (by simpa using hp) (by simpa using hq)]
      simp only [List.getElem_map]
      exact exclC_eq _ _

end Go.Proofs.Ytmkdgnmmebldgab
