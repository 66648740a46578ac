import Derived.Test.YtmkdgnmmebldgabTExcl
namespace Go.Proofs.Ytmkdgnmmebldgab
open Go.RowKit Go.Deep

theorem Try.infoInts : (Try.prog.info? 24).map (fun i => (i.zero, i.size, i.bytes)) = some (some (.slice none 0 0), 1, 24) := by kernel_rfl

/-- The rows of a table, each in a row of one's own. -/
def RowsOwn (w : World) (B : Nat) (cells : List Value) (tt : List (List Int)) : Prop :=
  cells.length = tt.length ∧ ∀ i (h : i < tt.length), ∃ v, cells[i]? = some v ∧ w.ownsRow B 3 1 v tt[i].length (flatN tt[i])

theorem RowsOwn.below {w w' : World} {B : Nat} {cells : List Value} {tt : List (List Int)} (h : RowsOwn w B cells tt) (hb : Below w.heap.size w w') : RowsOwn w' B cells tt := by
  refine ⟨h.1, fun i hi => ?_⟩
  obtain ⟨v, h1, h2⟩ := h.2 i hi
  exact ⟨v, h1, owns_below h2 hb⟩

theorem RowsOwn.push {w w' : World} {B B' n : Nat} {v r : Value} {cells xs : List Value} {tt : List (List Int)} {row : List Int} (h : RowsOwn w B cells tt) (ho : w.ownsRow B' 24 1 v n xs) (hr : w.ownsRow B 3 1 r row.length (flatN row)) (hg : w.grownBy w' v.ownBlock) : RowsOwn w' B (cells ++ [r]) (tt ++ [row]) := by
  refine ⟨by simp [h.1], fun i hi => ?_⟩
  by_cases e : i < tt.length
  · obtain ⟨u, h1, h2⟩ := h.2 i e
    refine ⟨u, by rw [List.getElem?_append_left (by rw [h.1]; exact e)]; exact h1, ?_⟩
    rw [List.getElem_append_left e]
    exact h2.kept hg (owns_ne (by decide) h2 ho)
  · have : i = tt.length := by simp at hi; omega
    subst this
    refine ⟨r, by rw [← h.1]; simp, ?_⟩
    rw [List.getElem_append_right (Nat.le_refl _)]
    simp only [Nat.sub_self, List.getElem_cons_zero]
    exact hr.kept hg (owns_ne (by decide) hr ho)

/-- No two rows of a table share a block. -/
def RowsApart (cells : List Value) : Prop := ∀ (i j : Nat) (u v : Value) (b : Nat), cells[i]? = some u → cells[j]? = some v → u.ownBlock = some b → v.ownBlock = some b → i = j

theorem rowsApart_nil : RowsApart [] := by
  intro i j u v b h
  simp at h

theorem RowsApart.push {w : World} {B M : Nat} {cells : List Value} {tt : List (List Int)} {r : Value} (h : RowsApart cells) (ho : RowsOwn w B cells tt) (hM : w.heap.size ≤ M) (hr : ∀ b, r.ownBlock = some b → M ≤ b) : RowsApart (cells ++ [r]) := by
  have old : ∀ i u b, i < cells.length → cells[i]? = some u → u.ownBlock = some b → b < w.heap.size := by
    intro i u b hi hu hb
    obtain ⟨v, h1, h2⟩ := ho.2 i (by rw [← ho.1]; exact hi)
    rw [hu] at h1
    cases h1
    exact (h2.lt b hb).2
  intro i j u v b hu hv hub hvb
  by_cases hi : i < cells.length <;> by_cases hj : j < cells.length
  · rw [List.getElem?_append_left hi] at hu
    rw [List.getElem?_append_left hj] at hv
    exact h i j u v b hu hv hub hvb
  · rw [List.getElem?_append_left hi] at hu
    have h1 := old i u b hi hu hub
    rw [List.getElem?_append_right (by omega)] at hv
    have hj0 : j - cells.length = 0 := by have := (List.getElem?_eq_some_iff.1 hv).1; simp at this; omega
    rw [hj0] at hv
    simp at hv
    subst hv
    have := hr b hvb
    omega
  · rw [List.getElem?_append_left hj] at hv
    have h1 := old j v b hj hv hvb
    rw [List.getElem?_append_right (by omega)] at hu
    have hi0 : i - cells.length = 0 := by have := (List.getElem?_eq_some_iff.1 hu).1; simp at this; omega
    rw [hi0] at hu
    simp at hu
    subst hu
    have := hr b hub
    omega
  · have h1 := (List.getElem?_eq_some_iff.1 hu).1
    have h2 := (List.getElem?_eq_some_iff.1 hv).1
    simp at h1 h2
    omega

theorem flatN_take (xs : List Int) (k : Nat) (hk : k < xs.length) : flatN (xs.take k) ++ [.int .i64 xs[k]] = flatN (xs.take (k + 1)) := by
  rw [List.take_succ_eq_append_getElem hk, flatN_snoc]
  rfl

def ShortRs (rs : List MRoute) : Prop := ∀ r, r ∈ rs → ShortN r

set_option maxRecDepth 4000 in
set_option maxHeartbeats 4000000 in
theorem specTable_any (a : Option Addr) (cap : Nat) (rs : List MRoute) (w : World) (hr : Hid (RoutesAt w a rs)) (hs : Hid (ShortRs rs)) :
    Calls Try.prog 11 #[.slice a rs.length cap] w fun e w' => ∃ x y cells, e = .returned (.slice x (tableF rs).length y) ∧ w'.ownsRow w.heap.size 24 1 (.slice x (tableF rs).length y) (tableF rs).length cells ∧ RowsOwn w' w.heap.size cells (tableF rs) ∧ RowsApart cells ∧ Below w.heap.size w w' := by
  have hl := hr.out.1
  unfold maxLen at hl
  by_cases h3 : 300 < rs.length
  · have HE : Hid (tableF rs = []) := by unfold Hid tableF; rw [if_pos h3]
    rw [HE.out]
    go_enter Try.func11, Try.ntmps11
    go_wp2_with fail
    go_ret
    exact ⟨none, 0, [], rfl, World.ownsRow_nil _ _ _ _, ⟨rfl, fun i h => absurd h (by simp)⟩, rowsApart_nil, Below.refl _ _⟩
  have HE : Hid (tableF rs = rs.map fun a => rs.map (exclF a)) := by unfold Hid tableF; rw [if_neg h3]
  rw [HE.out]
  have h3' : rs.length ≤ 300 := by omega
  clear h3 HE
  go_enter Try.func11, Try.ntmps11
  go_wp2_with fail
  go_loopw [3, 14] (fun v i wr => ∃ (k : Nat) (x : Option Addr) (y : Nat) (cells : List Value), k ≤ rs.length ∧ i = .int .i64 k ∧ v = .slice x k y ∧ Hid (wr.ownsRow w.heap.size 24 1 (.slice x k y) k cells) ∧ Hid (RowsOwn wr w.heap.size cells ((rs.take k).map fun a => rs.map (exclF a))) ∧ Hid (RowsApart cells) ∧ Below w.heap.size w wr) (fun _ i _ => rs.length - (intOf i).toNat)
  case atStart => exact ⟨0, none, 0, [], Nat.zero_le _, rfl, rfl, World.ownsRow_nil _ _ _ _, ⟨rfl, fun i h => absurd h (by simp)⟩, rowsApart_nil, Below.refl _ _⟩
  case round =>
    obtain ⟨k, x, y, cells, hk, rfl, rfl, ho, hR, hAp, hb⟩ := hrel
    have hbs := hb.size
    by_cases hk' : k < rs.length
    · have HTS : Hid ((rs.take (k + 1)).map (fun a => rs.map (exclF a)) = (rs.take k).map (fun a => rs.map (exclF a)) ++ [rs.map (exclF rs[k])]) := by unfold Hid; rw [List.take_succ_eq_append_getElem hk', List.map_append]; rfl
      obtain ⟨b1, off1, rfl, hpc⟩ := hr.out.2.resolve_left (fun h => by rw [h] at hk'; exact absurd hk' (Nat.not_lt_zero _))
      have HPC := hidP hpc
      obtain ⟨d1, ⟨c0, c1, c2, c3, c4, c5, c6, c7⟩, l1⟩ := (hpc.below hb) k hk'
      have L1 := hidP l1
      clear hpc l1
      go_wp2_with fail
      generalize hW : wr.alloc _ = W
      have HX : Hid (RouteCell W wr.heap.size 0 d1 rs[k]) := by rw [← hW]; exact routeCell_box _ _ _ _
      have hbW : Below wr.heap.size wr W := by rw [← hW]; exact (by repeat (first | exact Below.refl _ _ | assumption | refine Below.drew ?_ | refine bdrewN ?_ _ | refine Below.setCell ?_ (by first | omega | (simp; done) | (simp; omega)) _ | refine Below.alloc ?_ (by first | omega | (simp; done) | (simp; omega)) _))
      have hzW : wr.heap.size < W.heap.size := by rw [← hW]; simp
      clear hW c0 c1 c2 c3 c4 c5 c6 c7
      have L2 := hidP (L1.out.below hbW)
      have hbw2 := hb.trans (hbW.mono hb.size)
      go_loopw [6, 20] (fun v i wr2 => ∃ (m : Nat) (x2 : Option Addr) (y2 : Nat), m ≤ rs.length ∧ i = .int .i64 m ∧ v = .slice x2 m y2 ∧ Hid (wr2.ownsRow W.heap.size 3 1 (.slice x2 m y2) m (flatN ((rs.take m).map (exclF rs[k])))) ∧ Below W.heap.size W wr2) (fun _ i _ => rs.length - (intOf i).toNat)
      case atStart => exact ⟨0, none, 0, Nat.zero_le _, rfl, rfl, World.ownsRow_nil _ _ _ _, Below.refl _ _⟩
      case round =>
        obtain ⟨m, x2, y2, hm, rfl, rfl, ho2, hb2⟩ := hrel
        have hbs2 := hb2.size
        have hbF := hbw2.trans (hb2.mono hbw2.size)
        have hbsF := hbF.size
        by_cases hm' : m < rs.length
        · obtain ⟨d2, ⟨c0, c1, c2, c3, c4, c5, c6, c7⟩, l2⟩ := (HPC.out.below hbF) m hm'
          have L3 := hidP l2
          have q0 := (HX.out.below hb2).k0
          have q1 := (HX.out.below hb2).k1
          have q2 := (HX.out.below hb2).k2
          have q3 := (HX.out.below hb2).k3
          have q4 := (HX.out.below hb2).k4
          have q5 := (HX.out.below hb2).k5
          have q6 := (HX.out.below hb2).k6
          have q7 := (HX.out.below hb2).k7
          simp only [Nat.zero_add] at q0 q1 q2 q3 q4 q5 q6 q7
          have hz2 := Nat.lt_of_lt_of_le hzW hb2.size
          have HS1 := hidP (hs.out _ (List.getElem_mem hk'))
          have HS2 := hidP (hs.out _ (List.getElem_mem hm'))
          have HL2 := hidP (L2.out.below hb2)
          have HFT : Hid (flatN ((rs.take m).map (exclF rs[k])) ++ [.int .i64 (exclF rs[k] rs[m])] = flatN ((rs.take (m + 1)).map (exclF rs[k]))) := by
            unfold Hid; rw [List.take_succ_eq_append_getElem hm', List.map_append, List.map_cons, List.map_nil, flatN_snoc]; rfl
          clear l2
          go_wp2_with (first
            | (go_at_call 6; refine (specExclude_any d1 d2 rs[k] rs[m] _ (HL2.out.below (by repeat (first | exact Below.refl _ _ | assumption | refine Below.drew ?_ | refine bdrewN ?_ _ | refine Below.setCell ?_ (by first | omega | (simp; done) | (simp; omega)) _ | refine Below.alloc ?_ (by first | omega | (simp; done) | (simp; omega)) _))) (L3.out.below (by repeat (first | exact Below.refl _ _ | assumption | refine Below.drew ?_ | refine bdrewN ?_ _ | refine Below.setCell ?_ (by first | omega | (simp; done) | (simp; omega)) _ | refine Below.alloc ?_ (by first | omega | (simp; done) | (simp; omega)) _))) HS1 HS2).mono ?_; rintro e w3 ⟨rfl, hb3⟩; have hb4 : Below wr.heap.size wr w3 := Below.trans (show Below wr.heap.size wr _ from (by repeat (first | exact Below.refl _ _ | assumption | refine Below.drew ?_ | refine bdrewN ?_ _ | refine Below.setCell ?_ (by first | omega | (simp; done) | (simp; omega)) _ | refine Below.alloc ?_ (by first | omega | (simp; done) | (simp; omega)) _))) (hb3.mono (by simp)); have HO3 := hidP (owns_below ho2.out hb4); have hb5 := hb2.trans (hb4.mono hb2.size); have hbs5 := hb5.size; clear hb3)
            | (at_builtin; refine wpList_push rfl (.tmp 24) (.tmp 28) 24 rfl W.heap.size 3 _ 1 8 Try.underlying24 Try.infoInt rfl (by decide) (.slice x2 m y2) m _ rfl HO3.out w3.heap.size rfl [.int .i64 (exclF rs[k] rs[m])] rfl rfl (by simp [Value.oneCell']) (by unfold maxLen; omega) (by omega) (by omega) ?_; intro x' y' w4 ho4 hg4; have hb6 := push_below hb5 HO3.out hg4 (by omega); rw [HFT.out] at ho4; have HO4 := hidP ho4; clear ho4 hg4))
          go_roundw
          case rel => exact ⟨m + 1, x', y', by omega, by go_num, rfl, HO4, hb6⟩
          case measure => simp [intOf]; omega
        · have HTk : Hid (rs.take m = rs) := List.take_of_length_le (by omega)
          rw [HTk.out] at ho2
          have HLn : Hid ((rs.map (exclF rs[k])).length = m) := by unfold Hid; rw [List.length_map]; omega
          have HOo := hidP (owns_below (owns_below ho.out hbW) hb2)
          have HRo := hidP ((hR.out.below hbW).below hb2)
          have HOr : Hid (wr.ownsRow w.heap.size 3 1 (.slice x2 m y2) (rs.map (exclF rs[k])).length (flatN (rs.map (exclF rs[k])))) := by rw [HLn.out]; exact owns_base ho2.out (by omega)
          have HAp := hidP (hAp.out.push hR.out (Nat.le_of_lt hzW) (fun b hb => (ho2.out.lt b hb).1))
          clear ho hR ho2 hb2 HTk hAp
          go_wp2_with (at_builtin; refine wpList_push rfl (.tmp 31) (.tmp 33) 42 rfl w.heap.size 24 _ 1 24 Try.underlying42 Try.infoInts rfl (by decide) (.slice x k y) k cells rfl HOo.out wr.heap.size rfl [.slice x2 m y2] rfl rfl (by simp [Value.oneCell']) (by unfold maxLen; omega) (by omega) (by omega) ?_; intro x' y' w4 ho4 hg4; have hb6 := push_below hbF HOo.out hg4 (by omega); have HO4 := hidP ho4; have HR4 := hidP (HRo.out.push HOo.out HOr.out hg4); clear ho4 hg4)
          go_roundw
          case rel => exact ⟨k + 1, x', y', _, by omega, by go_num, rfl, HO4, by rw [HTS.out]; exact HR4, HAp, hb6⟩
          case measure => simp [intOf]; omega
    · have HT : Hid (rs.take k = rs) := List.take_of_length_le (by omega)
      rw [HT.out] at hR
      clear HT
      go_wp2_with fail
      go_ret
      have hkk : k = rs.length := by omega
      subst hkk
      exact ⟨x, y, cells, by simp, by simpa using ho.out, hR.out, hAp.out, hb⟩

end Go.Proofs.Ytmkdgnmmebldgab
