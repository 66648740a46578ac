import Derived.Test.YtmkdgnmmebldgaaRMarkR
import Derived.Test.YtmkdgnmmebldgaaRPush
namespace Go.Proofs.Ytmkdgnmmebldgaa
open Go.RowKit Go.Deep

/-! The copies that a law makes of routes, as rows that may be written. -/

/-- A row that holds just these values. -/
def LRow (w : World) (T g : Nat) (vals : List Value) : Prop := ∃ f, w.rowIs g T vals.length f ∧ ∀ j (h : j < vals.length), f j = vals[j]
theorem LRow.kept {w w' : World} {T g : Nat} {vals : List Value} (h : LRow w T g vals) (e : w'.heap[g]? = w.heap[g]?) : LRow w' T g vals := by
  obtain ⟨f, h1, h2⟩ := h
  exact ⟨f, h1.of_block e, h2⟩
theorem LRow.lt {w : World} {T g : Nat} {vals : List Value} (h : LRow w T g vals) : g < w.heap.size := by
  obtain ⟨f, h1, _⟩ := h
  exact h1.lt
theorem LRow.below {w w' : World} {T g : Nat} {vals : List Value} (h : LRow w T g vals) (hb : Below w.heap.size w w') : LRow w' T g vals := h.kept (hb.block g h.lt)
theorem LRow.set {w : World} {T g : Nat} {vals : List Value} (h : LRow w T g vals) {b : Nat} (hb : g ≠ b) (o : Nat) (v : Value) : LRow (w.setCell ⟨b, o, none⟩ v) T g vals := h.kept (Below.heap_setCell _ _ _ _ hb)
theorem LRow.cell {w : World} {T g : Nat} {vals : List Value} (h : LRow w T g vals) : ∀ j u, vals[j]? = some u → w.cell? ((⟨g, 0, none⟩ : Addr).add j) = some u := by
  obtain ⟨f, h1, h2⟩ := h
  intro j u hu
  obtain ⟨hj, hu⟩ := List.getElem?_eq_some_iff.1 hu
  rw [addr_at, Nat.zero_add, h1.cell hj, h2 j hj, hu]
theorem LRow.own {w : World} {T g K n : Nat} {vals : List Value} (h : LRow w T g vals) (hn : vals.length = n * K) : OwnA w T K (some ⟨g, 0, none⟩) n := by
  obtain ⟨f, h1, _⟩ := h
  exact Or.inr ⟨g, _, f, rfl, h1, by omega⟩

set_option maxHeartbeats 400000 in
theorem szStepS_any (a : Option Addr) (len cap : Nat) (left : Int) (w : World) (hs : len ≤ maxLen) (h0 : 0 ≤ left) (h1 : left ≤ 1048576) :
    Calls Try.prog 77 #[.slice a len cap, .int .i64 left] w fun e w' => e = .returned (.int .i64 (if left < len then -1 else left - len)) ∧ Below w.heap.size w w' := by
  unfold maxLen at hs
  by_cases hl : left < len
  · rw [if_pos hl]
    go_enter Try.func77, Try.ntmps77
    go_wp2
    go_ret
    exact ⟨rfl, (by repeat (first | exact Below.refl _ _ | assumption | refine Below.drew ?_ | refine bdrewN ?_ _ | refine Below.setCell ?_ (by first | omega | (simp; done) | (simp; omega)) _ | refine Below.alloc ?_ (by first | omega | (simp; done) | (simp; omega)) _))⟩
  · rw [if_neg hl]
    go_enter Try.func77, Try.ntmps77
    go_wp2
    go_ret
    exact ⟨rfl, (by repeat (first | exact Below.refl _ _ | assumption | refine Below.drew ?_ | refine bdrewN ?_ _ | refine Below.setCell ?_ (by first | omega | (simp; done) | (simp; omega)) _ | refine Below.alloc ?_ (by first | omega | (simp; done) | (simp; omega)) _))⟩

set_option maxHeartbeats 400000 in
theorem toStep_any (x0 x1 : Int) (w : World) :
    Calls Try.prog 140 #[.agg #[.int .i64 x0, .int .i64 x1]] w fun e w' => e = .returned (.agg #[.int .i64 x0, .int .i64 x1]) ∧ Below w.heap.size w w' := by
  go_enter Try.func140, Try.ntmps140
  go_wp2
  exact bodyPost_ret (v := .agg #[.int .i64 x0, .int .i64 x1]) (by simp [results, Try.results140, go_sem]) rfl ⟨rfl, (by repeat (first | exact Below.refl _ _ | assumption | refine Below.drew ?_ | refine bdrewN ?_ _ | refine Below.setCell ?_ (by first | omega | (simp; done) | (simp; omega)) _ | refine Below.alloc ?_ (by first | omega | (simp; done) | (simp; omega)) _))⟩

theorem rowE_next {es : List MEnd} {k : Nat} {f : Nat → Value} (hk : k < es.length) (h : ∀ j (hj : j < (flatE es).length), j < k * 2 → f j = (flatE es)[j]) :
    ∀ j (hj : j < (flatE es).length), j < (k + 1) * 2 → (fun j : Nat => if j = k * 2 + 1 then .int .i64 es[k].side else if j = k * 2 then .int .i64 es[k].piece else f j) j = (flatE es)[j] := by
  intro j hj hjk
  by_cases e1 : j = k * 2 + 1
  · subst e1
    have hh : (flatE es)[k * 2 + 1]? = some (.int .i64 es[k].side) := (flat_get encE 2 (fun _ => rfl) es k 1 hk (by omega)).trans rfl
    have := (List.getElem?_eq_some_iff.1 hh).2
    rw [this]
    simp
  by_cases e0 : j = k * 2
  · subst e0
    have hh : (flatE es)[k * 2]? = some (.int .i64 es[k].piece) := (flat_get encE 2 (fun _ => rfl) es k 0 hk (by omega)).trans rfl
    have := (List.getElem?_eq_some_iff.1 hh).2
    rw [this]
    simp
  have hj2 : j < k * 2 := by omega
  have := h j hj hj2
  rw [← this]
  simp only []
  rw [if_neg e1]; rw [if_neg e0]

set_option maxHeartbeats 1000000 in
theorem toStepS_row (a : Option Addr) (cap : Nat) (es : List MEnd) (w : World) (hp : Hid (EndsAt w a es)) (hl : es.length ≤ 1048576) :
    Calls Try.prog 82 #[.slice a es.length cap] w fun e w' => ∃ g, e = .returned (.slice (some ⟨g, 0, none⟩) es.length es.length) ∧ Hid (LRow w' 51 g (flatE es)) ∧ Below w.heap.size w w' ∧ w.heap.size ≤ g := by
  obtain ⟨w1, hm, hrow, hb1, hz1⟩ := make_structs (P := Try.prog) w 37 51 _ _ _ Try.underlying37 Try.infoStep (by omega) es.length hl
  rw [← flatE_len] at hrow
  have HROW : Hid (∃ f, w1.rowIs w.heap.size 51 (flatE es).length f) := hrow
  have HLN := hidP (flatE_len es)
  clear hrow
  go_enter Try.func82, Try.ntmps82
  go_wp2_with fail
  go_loopw [4] (fun i wr => ∃ (k : Nat) (f : Nat → Value), k ≤ es.length ∧ i = .int .i64 k ∧ Hid (wr.rowIs w.heap.size 51 (flatE es).length f) ∧ Hid (∀ j (hj : j < (flatE es).length), j < k * 2 → f j = (flatE es)[j]) ∧ Below w.heap.size w wr ∧ w.heap.size < wr.heap.size) (fun i _ => es.length - (intOf i).toNat)
  case atStart =>
    obtain ⟨f, hf⟩ := HROW.out
    exact ⟨0, f, Nat.zero_le _, rfl, hf, (fun j _ h => absurd h (by omega)), hb1, by omega⟩
  case round =>
    obtain ⟨k, f, hk, rfl, hrow, hpr, hb, hz⟩ := hrel
    clear hm HROW hb1 hz1
    by_cases hk' : k < es.length
    · obtain ⟨b, off, rfl, hpc⟩ := hp.out.2.resolve_left (fun h => by rw [h] at hk'; exact absurd hk' (Nat.not_lt_zero _))
      obtain ⟨c0, c1⟩ := (hpc.below hb) k hk'
      clear hpc
      have HNX := hidP (rowE_next hk' hpr.out)
      clear hpr
      go_wp2_with fail
      refine (toStep_any _ _ _).mono ?_
      rintro e w2 ⟨rfl, hb2⟩
      have hr2 : w2.rowIs w.heap.size 51 (flatE es).length f := hrow.out.of_block (hb2.block _ hz)
      have d0 := hr2.cell (i := k * 2) (by have := flatE_len es; omega)
      have e0 := hr2.frozen (k * 2)
      have d1 := hr2.cell (i := k * 2 + 1) (by have := flatE_len es; omega)
      have e1 := hr2.frozen (k * 2 + 1)
      have HR2 := hidP hr2
      clear hr2 hrow
      have hb3 : Below w.heap.size w w2 := hb.trans (hb2.mono hb.size)
      have hz2 : w.heap.size < w2.heap.size := Nat.lt_of_lt_of_le hz hb2.size
      clear hb hb2 hz c0 c1
      go_wp2_with fail
      go_roundw
      case rel =>
        refine ⟨k + 1, _, by omega, by go_num, ((HR2.out.set (k * 2) _).set (k * 2 + 1) _), HNX, (by repeat (first | exact Below.refl _ _ | assumption | refine Below.drew ?_ | refine bdrewN ?_ _ | refine Below.setCell ?_ (by first | omega | (simp; done) | (simp; omega)) _ | refine Below.alloc ?_ (by first | omega | (simp; done) | (simp; omega)) _)), by simpa using hz2⟩
      case measure => simp [intOf]; omega
    · have HC : Hid (LRow wr 51 w.heap.size (flatE es)) := ⟨f, hrow.out, fun j hj => hpr.out j hj (by have := HLN.out; omega)⟩
      clear hrow hpr HLN
      go_wp2
      go_ret
      exact ⟨_, rfl, HC, hb, Nat.le_refl _⟩

set_option maxHeartbeats 400000 in
theorem szLieS_any (a : Option Addr) (len cap : Nat) (left : Int) (w : World) (hs : len ≤ maxLen) (h0 : 0 ≤ left) (h1 : left ≤ 1048576) :
    Calls Try.prog 78 #[.slice a len cap, .int .i64 left] w fun e w' => e = .returned (.int .i64 (if left < len then -1 else left - len)) ∧ Below w.heap.size w w' := by
  unfold maxLen at hs
  by_cases hl : left < len
  · rw [if_pos hl]
    go_enter Try.func78, Try.ntmps78
    go_wp2
    go_ret
    exact ⟨rfl, (by repeat (first | exact Below.refl _ _ | assumption | refine Below.drew ?_ | refine bdrewN ?_ _ | refine Below.setCell ?_ (by first | omega | (simp; done) | (simp; omega)) _ | refine Below.alloc ?_ (by first | omega | (simp; done) | (simp; omega)) _))⟩
  · rw [if_neg hl]
    go_enter Try.func78, Try.ntmps78
    go_wp2
    go_ret
    exact ⟨rfl, (by repeat (first | exact Below.refl _ _ | assumption | refine Below.drew ?_ | refine bdrewN ?_ _ | refine Below.setCell ?_ (by first | omega | (simp; done) | (simp; omega)) _ | refine Below.alloc ?_ (by first | omega | (simp; done) | (simp; omega)) _))⟩

set_option maxHeartbeats 400000 in
theorem toLie_any (x0 x1 : Int) (w : World) :
    Calls Try.prog 141 #[.agg #[.int .i64 x0, .int .i64 x1]] w fun e w' => e = .returned (.agg #[.int .i64 x0, .int .i64 x1]) ∧ Below w.heap.size w w' := by
  go_enter Try.func141, Try.ntmps141
  go_wp2
  exact bodyPost_ret (v := .agg #[.int .i64 x0, .int .i64 x1]) (by simp [results, Try.results141, go_sem]) rfl ⟨rfl, (by repeat (first | exact Below.refl _ _ | assumption | refine Below.drew ?_ | refine bdrewN ?_ _ | refine Below.setCell ?_ (by first | omega | (simp; done) | (simp; omega)) _ | refine Below.alloc ?_ (by first | omega | (simp; done) | (simp; omega)) _))⟩

set_option maxHeartbeats 1000000 in
theorem toLieS_row (a : Option Addr) (cap : Nat) (es : List MEnd) (w : World) (hp : Hid (EndsAt w a es)) (hl : es.length ≤ 1048576) :
    Calls Try.prog 83 #[.slice a es.length cap] w fun e w' => ∃ g, e = .returned (.slice (some ⟨g, 0, none⟩) es.length es.length) ∧ Hid (LRow w' 48 g (flatE es)) ∧ Below w.heap.size w w' ∧ w.heap.size ≤ g := by
  obtain ⟨w1, hm, hrow, hb1, hz1⟩ := make_structs (P := Try.prog) w 38 48 _ _ _ Try.underlying38 Try.infoLie (by omega) es.length hl
  rw [← flatE_len] at hrow
  have HROW : Hid (∃ f, w1.rowIs w.heap.size 48 (flatE es).length f) := hrow
  have HLN := hidP (flatE_len es)
  clear hrow
  go_enter Try.func83, Try.ntmps83
  go_wp2_with fail
  go_loopw [4] (fun i wr => ∃ (k : Nat) (f : Nat → Value), k ≤ es.length ∧ i = .int .i64 k ∧ Hid (wr.rowIs w.heap.size 48 (flatE es).length f) ∧ Hid (∀ j (hj : j < (flatE es).length), j < k * 2 → f j = (flatE es)[j]) ∧ Below w.heap.size w wr ∧ w.heap.size < wr.heap.size) (fun i _ => es.length - (intOf i).toNat)
  case atStart =>
    obtain ⟨f, hf⟩ := HROW.out
    exact ⟨0, f, Nat.zero_le _, rfl, hf, (fun j _ h => absurd h (by omega)), hb1, by omega⟩
  case round =>
    obtain ⟨k, f, hk, rfl, hrow, hpr, hb, hz⟩ := hrel
    clear hm HROW hb1 hz1
    by_cases hk' : k < es.length
    · obtain ⟨b, off, rfl, hpc⟩ := hp.out.2.resolve_left (fun h => by rw [h] at hk'; exact absurd hk' (Nat.not_lt_zero _))
      obtain ⟨c0, c1⟩ := (hpc.below hb) k hk'
      clear hpc
      have HNX := hidP (rowE_next hk' hpr.out)
      clear hpr
      go_wp2_with fail
      refine (toLie_any _ _ _).mono ?_
      rintro e w2 ⟨rfl, hb2⟩
      have hr2 : w2.rowIs w.heap.size 48 (flatE es).length f := hrow.out.of_block (hb2.block _ hz)
      have d0 := hr2.cell (i := k * 2) (by have := flatE_len es; omega)
      have e0 := hr2.frozen (k * 2)
      have d1 := hr2.cell (i := k * 2 + 1) (by have := flatE_len es; omega)
      have e1 := hr2.frozen (k * 2 + 1)
      have HR2 := hidP hr2
      clear hr2 hrow
      have hb3 : Below w.heap.size w w2 := hb.trans (hb2.mono hb.size)
      have hz2 : w.heap.size < w2.heap.size := Nat.lt_of_lt_of_le hz hb2.size
      clear hb hb2 hz c0 c1
      go_wp2_with fail
      go_roundw
      case rel =>
        refine ⟨k + 1, _, by omega, by go_num, ((HR2.out.set (k * 2) _).set (k * 2 + 1) _), HNX, (by repeat (first | exact Below.refl _ _ | assumption | refine Below.drew ?_ | refine bdrewN ?_ _ | refine Below.setCell ?_ (by first | omega | (simp; done) | (simp; omega)) _ | refine Below.alloc ?_ (by first | omega | (simp; done) | (simp; omega)) _)), by simpa using hz2⟩
      case measure => simp [intOf]; omega
    · have HC : Hid (LRow wr 48 w.heap.size (flatE es)) := ⟨f, hrow.out, fun j hj => hpr.out j hj (by have := HLN.out; omega)⟩
      clear hrow hpr HLN
      go_wp2
      go_ret
      exact ⟨_, rfl, HC, hb, Nat.le_refl _⟩

set_option maxHeartbeats 400000 in
theorem szIntS_any (a : Option Addr) (len cap : Nat) (left : Int) (w : World) (hs : len ≤ maxLen) (h0 : 0 ≤ left) (h1 : left ≤ 1048576) :
    Calls Try.prog 79 #[.slice a len cap, .int .i64 left] w fun e w' => e = .returned (.int .i64 (if left < len then -1 else left - len)) ∧ Below w.heap.size w w' := by
  unfold maxLen at hs
  by_cases hl : left < len
  · rw [if_pos hl]
    go_enter Try.func79, Try.ntmps79
    go_wp2
    go_ret
    exact ⟨rfl, (by repeat (first | exact Below.refl _ _ | assumption | refine Below.drew ?_ | refine bdrewN ?_ _ | refine Below.setCell ?_ (by first | omega | (simp; done) | (simp; omega)) _ | refine Below.alloc ?_ (by first | omega | (simp; done) | (simp; omega)) _))⟩
  · rw [if_neg hl]
    go_enter Try.func79, Try.ntmps79
    go_wp2
    go_ret
    exact ⟨rfl, (by repeat (first | exact Below.refl _ _ | assumption | refine Below.drew ?_ | refine bdrewN ?_ _ | refine Below.setCell ?_ (by first | omega | (simp; done) | (simp; omega)) _ | refine Below.alloc ?_ (by first | omega | (simp; done) | (simp; omega)) _))⟩

theorem rowN_next {es : List Int} {k : Nat} {f : Nat → Value} (hk : k < es.length) (h : ∀ j (hj : j < (flatN es).length), j < k * 1 → f j = (flatN es)[j]) :
    ∀ j (hj : j < (flatN es).length), j < (k + 1) * 1 → (fun j : Nat => if j = k then .int .i64 es[k] else f j) j = (flatN es)[j] := by
  intro j hj hjk
  by_cases e0 : j = k
  · subst e0
    have hh : (flatN es)[j * 1 + 0]? = some (.int .i64 es[j]) := (flat_get encN 1 (fun _ => rfl) es j 0 hk (by omega)).trans rfl
    simp only [Nat.mul_one, Nat.add_zero] at hh
    have := (List.getElem?_eq_some_iff.1 hh).2
    rw [this]
    simp
  have hj2 : j < k * 1 := by omega
  have := h j hj hj2
  rw [← this]
  simp only []
  rw [if_neg e0]

set_option maxHeartbeats 1000000 in
theorem toIntS_row (a : Option Addr) (cap : Nat) (es : List Int) (w : World) (hp : Hid (NumsAt w a es)) (hl : es.length ≤ 1048576) :
    Calls Try.prog 84 #[.slice a es.length cap] w fun e w' => ∃ g, e = .returned (.slice (some ⟨g, 0, none⟩) es.length es.length) ∧ Hid (LRow w' 3 g (flatN es)) ∧ Below w.heap.size w w' ∧ w.heap.size ≤ g := by
  obtain ⟨w1, hm, hrow, hb1, hz1⟩ := make_structs (P := Try.prog) w 34 3 _ _ _ Try.underlying34 Try.infoInt (by omega) es.length hl
  rw [← flatN_len] at hrow
  have HROW : Hid (∃ f, w1.rowIs w.heap.size 3 (flatN es).length f) := hrow
  have HLN := hidP (flatN_len es)
  clear hrow
  go_enter Try.func84, Try.ntmps84
  go_wp2_with fail
  go_loopw [4] (fun i wr => ∃ (k : Nat) (f : Nat → Value), k ≤ es.length ∧ i = .int .i64 k ∧ Hid (wr.rowIs w.heap.size 3 (flatN es).length f) ∧ Hid (∀ j (hj : j < (flatN es).length), j < k * 1 → f j = (flatN es)[j]) ∧ Below w.heap.size w wr ∧ w.heap.size < wr.heap.size) (fun i _ => es.length - (intOf i).toNat)
  case atStart =>
    obtain ⟨f, hf⟩ := HROW.out
    exact ⟨0, f, Nat.zero_le _, rfl, hf, (fun j _ h => absurd h (by omega)), hb1, by omega⟩
  case round =>
    obtain ⟨k, f, hk, rfl, hrow, hpr, hb, hz⟩ := hrel
    clear hm HROW hb1 hz1
    by_cases hk' : k < es.length
    · obtain ⟨b, off, rfl, hpc⟩ := hp.out.2.resolve_left (fun h => by rw [h] at hk'; exact absurd hk' (Nat.not_lt_zero _))
      have c0 := (hpc.below hb) k hk'
      clear hpc
      have HNX := hidP (rowN_next hk' hpr.out)
      clear hpr
      have hr2 : wr.rowIs w.heap.size 3 (flatN es).length f := hrow.out
      have d0 := hr2.cell (i := k) (by have := flatN_len es; omega)
      have e0 := hr2.frozen (k)
      have HR2 := hidP hr2
      clear hr2 hrow
      have hb3 := hb
      have hz2 := hz
      clear hb hz
      go_wp2_with fail
      go_roundw
      case rel =>
        refine ⟨k + 1, _, by omega, by go_num, (HR2.out.set (k) _), HNX, (by repeat (first | exact Below.refl _ _ | assumption | refine Below.drew ?_ | refine bdrewN ?_ _ | refine Below.setCell ?_ (by first | omega | (simp; done) | (simp; omega)) _ | refine Below.alloc ?_ (by first | omega | (simp; done) | (simp; omega)) _)), by simpa using hz2⟩
      case measure => simp [intOf]; omega
    · have HC : Hid (LRow wr 3 w.heap.size (flatN es)) := ⟨f, hrow.out, fun j hj => hpr.out j hj (by have := HLN.out; omega)⟩
      clear hrow hpr HLN
      go_wp2
      go_ret
      exact ⟨_, rfl, HC, hb, Nat.le_refl _⟩

set_option maxHeartbeats 400000 in
theorem szPartS_any (a : Option Addr) (len cap : Nat) (left : Int) (w : World) (hs : len ≤ maxLen) (h0 : 0 ≤ left) (h1 : left ≤ 1048576) :
    Calls Try.prog 80 #[.slice a len cap, .int .i64 left] w fun e w' => e = .returned (.int .i64 (if left < len then -1 else left - len)) ∧ Below w.heap.size w w' := by
  unfold maxLen at hs
  by_cases hl : left < len
  · rw [if_pos hl]
    go_enter Try.func80, Try.ntmps80
    go_wp2
    go_ret
    exact ⟨rfl, (by repeat (first | exact Below.refl _ _ | assumption | refine Below.drew ?_ | refine bdrewN ?_ _ | refine Below.setCell ?_ (by first | omega | (simp; done) | (simp; omega)) _ | refine Below.alloc ?_ (by first | omega | (simp; done) | (simp; omega)) _))⟩
  · rw [if_neg hl]
    go_enter Try.func80, Try.ntmps80
    go_wp2
    go_ret
    exact ⟨rfl, (by repeat (first | exact Below.refl _ _ | assumption | refine Below.drew ?_ | refine bdrewN ?_ _ | refine Below.setCell ?_ (by first | omega | (simp; done) | (simp; omega)) _ | refine Below.alloc ?_ (by first | omega | (simp; done) | (simp; omega)) _))⟩

set_option maxHeartbeats 400000 in
theorem toPart_any (x0 x1 x2 : Int) (w : World) :
    Calls Try.prog 142 #[.agg #[.int .i64 x0, .int .i64 x1, .int .i64 x2]] w fun e w' => e = .returned (.agg #[.int .i64 x0, .int .i64 x1, .int .i64 x2]) ∧ Below w.heap.size w w' := by
  go_enter Try.func142, Try.ntmps142
  go_wp2
  exact bodyPost_ret (v := .agg #[.int .i64 x0, .int .i64 x1, .int .i64 x2]) (by simp [results, Try.results142, go_sem]) rfl ⟨rfl, (by repeat (first | exact Below.refl _ _ | assumption | refine Below.drew ?_ | refine bdrewN ?_ _ | refine Below.setCell ?_ (by first | omega | (simp; done) | (simp; omega)) _ | refine Below.alloc ?_ (by first | omega | (simp; done) | (simp; omega)) _))⟩

theorem rowP_next {es : List MPart} {k : Nat} {f : Nat → Value} (hk : k < es.length) (h : ∀ j (hj : j < (flatP es).length), j < k * 3 → f j = (flatP es)[j]) :
    ∀ j (hj : j < (flatP es).length), j < (k + 1) * 3 → (fun j : Nat => if j = k * 3 + 2 then .int .i64 es[k].hi else if j = k * 3 + 1 then .int .i64 es[k].lo else if j = k * 3 then .int .i64 es[k].piece else f j) j = (flatP es)[j] := by
  intro j hj hjk
  by_cases e2 : j = k * 3 + 2
  · subst e2
    have hh : (flatP es)[k * 3 + 2]? = some (.int .i64 es[k].hi) := (flat_get encP 3 (fun _ => rfl) es k 2 hk (by omega)).trans rfl
    have := (List.getElem?_eq_some_iff.1 hh).2
    rw [this]
    simp
  by_cases e1 : j = k * 3 + 1
  · subst e1
    have hh : (flatP es)[k * 3 + 1]? = some (.int .i64 es[k].lo) := (flat_get encP 3 (fun _ => rfl) es k 1 hk (by omega)).trans rfl
    have := (List.getElem?_eq_some_iff.1 hh).2
    rw [this]
    simp
  by_cases e0 : j = k * 3
  · subst e0
    have hh : (flatP es)[k * 3]? = some (.int .i64 es[k].piece) := (flat_get encP 3 (fun _ => rfl) es k 0 hk (by omega)).trans rfl
    have := (List.getElem?_eq_some_iff.1 hh).2
    rw [this]
    simp
  have hj2 : j < k * 3 := by omega
  have := h j hj hj2
  rw [← this]
  simp only []
  rw [if_neg e2]; rw [if_neg e1]; rw [if_neg e0]

set_option maxHeartbeats 1000000 in
theorem toPartS_row (a : Option Addr) (cap : Nat) (es : List MPart) (w : World) (hp : Hid (PartsAt w a es)) (hl : es.length ≤ 1048576) :
    Calls Try.prog 85 #[.slice a es.length cap] w fun e w' => ∃ g, e = .returned (.slice (some ⟨g, 0, none⟩) es.length es.length) ∧ Hid (LRow w' 44 g (flatP es)) ∧ Below w.heap.size w w' ∧ w.heap.size ≤ g := by
  obtain ⟨w1, hm, hrow, hb1, hz1⟩ := make_structs (P := Try.prog) w 39 44 _ _ _ Try.underlying39 Try.infoPart (by omega) es.length hl
  rw [← flatP_len] at hrow
  have HROW : Hid (∃ f, w1.rowIs w.heap.size 44 (flatP es).length f) := hrow
  have HLN := hidP (flatP_len es)
  clear hrow
  go_enter Try.func85, Try.ntmps85
  go_wp2_with fail
  go_loopw [4] (fun i wr => ∃ (k : Nat) (f : Nat → Value), k ≤ es.length ∧ i = .int .i64 k ∧ Hid (wr.rowIs w.heap.size 44 (flatP es).length f) ∧ Hid (∀ j (hj : j < (flatP es).length), j < k * 3 → f j = (flatP es)[j]) ∧ Below w.heap.size w wr ∧ w.heap.size < wr.heap.size) (fun i _ => es.length - (intOf i).toNat)
  case atStart =>
    obtain ⟨f, hf⟩ := HROW.out
    exact ⟨0, f, Nat.zero_le _, rfl, hf, (fun j _ h => absurd h (by omega)), hb1, by omega⟩
  case round =>
    obtain ⟨k, f, hk, rfl, hrow, hpr, hb, hz⟩ := hrel
    clear hm HROW hb1 hz1
    by_cases hk' : k < es.length
    · obtain ⟨b, off, rfl, hpc⟩ := hp.out.2.resolve_left (fun h => by rw [h] at hk'; exact absurd hk' (Nat.not_lt_zero _))
      obtain ⟨c0, c1, c2⟩ := (hpc.below hb) k hk'
      clear hpc
      have HNX := hidP (rowP_next hk' hpr.out)
      clear hpr
      go_wp2_with fail
      refine (toPart_any _ _ _ _).mono ?_
      rintro e w2 ⟨rfl, hb2⟩
      have hr2 : w2.rowIs w.heap.size 44 (flatP es).length f := hrow.out.of_block (hb2.block _ hz)
      have d0 := hr2.cell (i := k * 3) (by have := flatP_len es; omega)
      have e0 := hr2.frozen (k * 3)
      have d1 := hr2.cell (i := k * 3 + 1) (by have := flatP_len es; omega)
      have e1 := hr2.frozen (k * 3 + 1)
      have d2 := hr2.cell (i := k * 3 + 2) (by have := flatP_len es; omega)
      have e2 := hr2.frozen (k * 3 + 2)
      have HR2 := hidP hr2
      clear hr2 hrow
      have hb3 : Below w.heap.size w w2 := hb.trans (hb2.mono hb.size)
      have hz2 : w.heap.size < w2.heap.size := Nat.lt_of_lt_of_le hz hb2.size
      clear hb hb2 hz c0 c1 c2
      go_wp2_with fail
      go_roundw
      case rel =>
        refine ⟨k + 1, _, by omega, by go_num, (((HR2.out.set (k * 3) _).set (k * 3 + 1) _).set (k * 3 + 2) _), HNX, (by repeat (first | exact Below.refl _ _ | assumption | refine Below.drew ?_ | refine bdrewN ?_ _ | refine Below.setCell ?_ (by first | omega | (simp; done) | (simp; omega)) _ | refine Below.alloc ?_ (by first | omega | (simp; done) | (simp; omega)) _)), by simpa using hz2⟩
      case measure => simp [intOf]; omega
    · have HC : Hid (LRow wr 44 w.heap.size (flatP es)) := ⟨f, hrow.out, fun j hj => hpr.out j hj (by have := HLN.out; omega)⟩
      clear hrow hpr HLN
      go_wp2
      go_ret
      exact ⟨_, rfl, HC, hb, Nat.le_refl _⟩

set_option maxHeartbeats 400000 in
theorem szFlankS_any (a : Option Addr) (len cap : Nat) (left : Int) (w : World) (hs : len ≤ maxLen) (h0 : 0 ≤ left) (h1 : left ≤ 1048576) :
    Calls Try.prog 81 #[.slice a len cap, .int .i64 left] w fun e w' => e = .returned (.int .i64 (if left < len then -1 else left - len)) ∧ Below w.heap.size w w' := by
  unfold maxLen at hs
  by_cases hl : left < len
  · rw [if_pos hl]
    go_enter Try.func81, Try.ntmps81
    go_wp2
    go_ret
    exact ⟨rfl, (by repeat (first | exact Below.refl _ _ | assumption | refine Below.drew ?_ | refine bdrewN ?_ _ | refine Below.setCell ?_ (by first | omega | (simp; done) | (simp; omega)) _ | refine Below.alloc ?_ (by first | omega | (simp; done) | (simp; omega)) _))⟩
  · rw [if_neg hl]
    go_enter Try.func81, Try.ntmps81
    go_wp2
    go_ret
    exact ⟨rfl, (by repeat (first | exact Below.refl _ _ | assumption | refine Below.drew ?_ | refine bdrewN ?_ _ | refine Below.setCell ?_ (by first | omega | (simp; done) | (simp; omega)) _ | refine Below.alloc ?_ (by first | omega | (simp; done) | (simp; omega)) _))⟩

set_option maxHeartbeats 400000 in
theorem toFlank_any (x0 x1 x2 x3 : Int) (w : World) :
    Calls Try.prog 143 #[.agg #[.int .i64 x0, .int .i64 x1, .int .i64 x2, .int .i64 x3]] w fun e w' => e = .returned (.agg #[.int .i64 x0, .int .i64 x1, .int .i64 x2, .int .i64 x3]) ∧ Below w.heap.size w w' := by
  go_enter Try.func143, Try.ntmps143
  go_wp2
  exact bodyPost_ret (v := .agg #[.int .i64 x0, .int .i64 x1, .int .i64 x2, .int .i64 x3]) (by simp [results, Try.results143, go_sem]) rfl ⟨rfl, (by repeat (first | exact Below.refl _ _ | assumption | refine Below.drew ?_ | refine bdrewN ?_ _ | refine Below.setCell ?_ (by first | omega | (simp; done) | (simp; omega)) _ | refine Below.alloc ?_ (by first | omega | (simp; done) | (simp; omega)) _))⟩

theorem rowF_next {es : List MFlank} {k : Nat} {f : Nat → Value} (hk : k < es.length) (h : ∀ j (hj : j < (flatF es).length), j < k * 4 → f j = (flatF es)[j]) :
    ∀ j (hj : j < (flatF es).length), j < (k + 1) * 4 → (fun j : Nat => if j = k * 4 + 3 then .int .i64 es[k].lie else if j = k * 4 + 2 then .int .i64 es[k].of else if j = k * 4 + 1 then .int .i64 es[k].kind else if j = k * 4 then .int .i64 es[k].place else f j) j = (flatF es)[j] := by
  intro j hj hjk
  by_cases e3 : j = k * 4 + 3
  · subst e3
    have hh : (flatF es)[k * 4 + 3]? = some (.int .i64 es[k].lie) := (flat_get encF 4 (fun _ => rfl) es k 3 hk (by omega)).trans rfl
    have := (List.getElem?_eq_some_iff.1 hh).2
    rw [this]
    simp
  by_cases e2 : j = k * 4 + 2
  · subst e2
    have hh : (flatF es)[k * 4 + 2]? = some (.int .i64 es[k].of) := (flat_get encF 4 (fun _ => rfl) es k 2 hk (by omega)).trans rfl
    have := (List.getElem?_eq_some_iff.1 hh).2
    rw [this]
    simp
  by_cases e1 : j = k * 4 + 1
  · subst e1
    have hh : (flatF es)[k * 4 + 1]? = some (.int .i64 es[k].kind) := (flat_get encF 4 (fun _ => rfl) es k 1 hk (by omega)).trans rfl
    have := (List.getElem?_eq_some_iff.1 hh).2
    rw [this]
    simp
  by_cases e0 : j = k * 4
  · subst e0
    have hh : (flatF es)[k * 4]? = some (.int .i64 es[k].place) := (flat_get encF 4 (fun _ => rfl) es k 0 hk (by omega)).trans rfl
    have := (List.getElem?_eq_some_iff.1 hh).2
    rw [this]
    simp
  have hj2 : j < k * 4 := by omega
  have := h j hj hj2
  rw [← this]
  simp only []
  rw [if_neg e3]; rw [if_neg e2]; rw [if_neg e1]; rw [if_neg e0]

set_option maxHeartbeats 1000000 in
theorem toFlankS_row (a : Option Addr) (cap : Nat) (es : List MFlank) (w : World) (hp : Hid (FlanksAt w a es)) (hl : es.length ≤ 1048576) :
    Calls Try.prog 86 #[.slice a es.length cap] w fun e w' => ∃ g, e = .returned (.slice (some ⟨g, 0, none⟩) es.length es.length) ∧ Hid (LRow w' 57 g (flatF es)) ∧ Below w.heap.size w w' ∧ w.heap.size ≤ g := by
  obtain ⟨w1, hm, hrow, hb1, hz1⟩ := make_structs (P := Try.prog) w 40 57 _ _ _ Try.underlying40 Try.infoFlank (by omega) es.length hl
  rw [← flatF_len] at hrow
  have HROW : Hid (∃ f, w1.rowIs w.heap.size 57 (flatF es).length f) := hrow
  have HLN := hidP (flatF_len es)
  clear hrow
  go_enter Try.func86, Try.ntmps86
  go_wp2_with fail
  go_loopw [4] (fun i wr => ∃ (k : Nat) (f : Nat → Value), k ≤ es.length ∧ i = .int .i64 k ∧ Hid (wr.rowIs w.heap.size 57 (flatF es).length f) ∧ Hid (∀ j (hj : j < (flatF es).length), j < k * 4 → f j = (flatF es)[j]) ∧ Below w.heap.size w wr ∧ w.heap.size < wr.heap.size) (fun i _ => es.length - (intOf i).toNat)
  case atStart =>
    obtain ⟨f, hf⟩ := HROW.out
    exact ⟨0, f, Nat.zero_le _, rfl, hf, (fun j _ h => absurd h (by omega)), hb1, by omega⟩
  case round =>
    obtain ⟨k, f, hk, rfl, hrow, hpr, hb, hz⟩ := hrel
    clear hm HROW hb1 hz1
    by_cases hk' : k < es.length
    · obtain ⟨b, off, rfl, hpc⟩ := hp.out.2.resolve_left (fun h => by rw [h] at hk'; exact absurd hk' (Nat.not_lt_zero _))
      obtain ⟨c0, c1, c2, c3⟩ := (hpc.below hb) k hk'
      clear hpc
      have HNX := hidP (rowF_next hk' hpr.out)
      clear hpr
      go_wp2_with fail
      refine (toFlank_any _ _ _ _ _).mono ?_
      rintro e w2 ⟨rfl, hb2⟩
      have hr2 : w2.rowIs w.heap.size 57 (flatF es).length f := hrow.out.of_block (hb2.block _ hz)
      have d0 := hr2.cell (i := k * 4) (by have := flatF_len es; omega)
      have e0 := hr2.frozen (k * 4)
      have d1 := hr2.cell (i := k * 4 + 1) (by have := flatF_len es; omega)
      have e1 := hr2.frozen (k * 4 + 1)
      have d2 := hr2.cell (i := k * 4 + 2) (by have := flatF_len es; omega)
      have e2 := hr2.frozen (k * 4 + 2)
      have d3 := hr2.cell (i := k * 4 + 3) (by have := flatF_len es; omega)
      have e3 := hr2.frozen (k * 4 + 3)
      have HR2 := hidP hr2
      clear hr2 hrow
      have hb3 : Below w.heap.size w w2 := hb.trans (hb2.mono hb.size)
      have hz2 : w.heap.size < w2.heap.size := Nat.lt_of_lt_of_le hz hb2.size
      clear hb hb2 hz c0 c1 c2 c3
      go_wp2_with fail
      go_roundw
      case rel =>
        refine ⟨k + 1, _, by omega, by go_num, ((((HR2.out.set (k * 4) _).set (k * 4 + 1) _).set (k * 4 + 2) _).set (k * 4 + 3) _), HNX, (by repeat (first | exact Below.refl _ _ | assumption | refine Below.drew ?_ | refine bdrewN ?_ _ | refine Below.setCell ?_ (by first | omega | (simp; done) | (simp; omega)) _ | refine Below.alloc ?_ (by first | omega | (simp; done) | (simp; omega)) _)), by simpa using hz2⟩
      case measure => simp [intOf]; omega
    · have HC : Hid (LRow wr 57 w.heap.size (flatF es)) := ⟨f, hrow.out, fun j hj => hpr.out j hj (by have := HLN.out; omega)⟩
      clear hrow hpr HLN
      go_wp2
      go_ret
      exact ⟨_, rfl, HC, hb, Nat.le_refl _⟩

end Go.Proofs.Ytmkdgnmmebldgaa
