import Derived.Test.YtmkdgnmmebldgabSBits
import Derived.Test.YtmkdgnmmebldgabTRoute
import Derived.Deep.RegionHeld3
namespace Go.Proofs.Ytmkdgnmmebldgab
open Go.RowKit Go.Deep

def fnV (f : FuncId) : Value := .func (.func f) #[] #[]
def keyedV (a : Option Addr) (n c : Nat) (s : MSet) : Value := .agg #[.slice a n c, .int .u64 s.a, .int .u64 s.b]
theorem keys_take {α : Type} (key : α → Int) (xs : List α) (k : Nat) (hk : k < xs.length) : keysF ((xs.take (k + 1)).map key) = withF (keysF ((xs.take k).map key)) (key xs[k]) := by
  rw [List.take_succ_eq_append_getElem hk, List.map_append, List.map_cons, List.map_nil, keys_snoc]

/-- The box of a list with its keys. -/
def KBox (w : World) (B : Nat) (T : TypeId) (a : Option Addr) (n c : Nat) (s : MSet) : Prop := ∃ f, w.rowIs B T 3 f ∧ f 0 = .slice a n c ∧ f 1 = .int .u64 s.a ∧ f 2 = .int .u64 s.b
theorem KBox.kept {w w' : World} {B : Nat} {T : TypeId} {a : Option Addr} {n c : Nat} {s : MSet} (h : KBox w B T a n c s) (e : w'.heap[B]? = w.heap[B]?) : KBox w' B T a n c s := by
  obtain ⟨f, h1, h2⟩ := h
  exact ⟨f, h1.of_block e, h2⟩
theorem KBox.c0 {w : World} {B : Nat} {T : TypeId} {a : Option Addr} {n c : Nat} {s : MSet} (h : KBox w B T a n c s) : w.cell? ⟨B, 0, none⟩ = some (.slice a n c) := by
  obtain ⟨f, h1, h2, h3, h4⟩ := h
  rw [h1.cell (by omega), h2]
theorem KBox.c1 {w : World} {B : Nat} {T : TypeId} {a : Option Addr} {n c : Nat} {s : MSet} (h : KBox w B T a n c s) : w.cell? ⟨B, 1, none⟩ = some (.int .u64 s.a) := by
  obtain ⟨f, h1, h2, h3, h4⟩ := h
  rw [h1.cell (by omega), h3]
theorem KBox.c2 {w : World} {B : Nat} {T : TypeId} {a : Option Addr} {n c : Nat} {s : MSet} (h : KBox w B T a n c s) : w.cell? ⟨B, 2, none⟩ = some (.int .u64 s.b) := by
  obtain ⟨f, h1, h2, h3, h4⟩ := h
  rw [h1.cell (by omega), h4]
theorem KBox.lt {w : World} {B : Nat} {T : TypeId} {a : Option Addr} {n c : Nat} {s : MSet} (h : KBox w B T a n c s) : B < w.heap.size := cellLt h.c0
theorem KBox.below {w w' : World} {B : Nat} {T : TypeId} {a : Option Addr} {n c : Nat} {s : MSet} (h : KBox w B T a n c s) (hb : Below w.heap.size w w') : KBox w' B T a n c s := h.kept (hb.block B h.lt)
theorem KBox.frozen {w : World} {B : Nat} {T : TypeId} {a : Option Addr} {n c : Nat} {s : MSet} (h : KBox w B T a n c s) (i : Nat) : w.frozen? ⟨B, i, none⟩ = false := by
  obtain ⟨f, h1, _⟩ := h
  exact h1.frozen i
theorem KBox.setS {w : World} {B : Nat} {T : TypeId} {a : Option Addr} {n c : Nat} {s : MSet} (h : KBox w B T a n c s) (s' : MSet) : KBox ((w.setCell ⟨B, 1, none⟩ (.int .u64 s'.a)).setCell ⟨B, 2, none⟩ (.int .u64 s'.b)) B T a n c s' := by
  obtain ⟨f, h1, h2, h3, h4⟩ := h
  exact ⟨_, (h1.set 1 _).set 2 _, by simpa using h2, by simp, by simp⟩
theorem KBox.made (w : World) (T : TypeId) (a : Option Addr) (n c : Nat) (s : MSet) : KBox (w.alloc (.cells #[.slice a n c, .int .u64 s.a, .int .u64 s.b] T)) w.heap.size T a n c s :=
  ⟨_, row_of_alloc w #[.slice a n c, .int .u64 s.a, .int .u64 s.b] T, rfl, rfl, rfl⟩

set_option maxRecDepth 8000 in
set_option maxHeartbeats 4000000 in
theorem keyedByP_any (a : Option Addr) (c : Nat) (xs : List MPart) (w : World) (ha : Hid (PartsAt w a xs)) :
    Calls Try.prog 49 #[.slice a xs.length c, fnV 50] w fun e w' => e = .returned (keyedV a xs.length c (keysF (xs.map MPart.piece))) ∧ Below w.heap.size w w' := by
  have hl := ha.out.1
  unfold maxLen at hl
  unfold keyedV fnV
  go_enter Try.func49, Try.ntmps49
  go_wp2_with fail
  generalize hW : (w.alloc _).alloc _ = W
  have HQ0 : Hid (KBox W w.heap.size 69 none 0 0 emptyF) := by rw [← hW]; exact (KBox.made w _ none 0 0 emptyF).below (by repeat (first | exact Below.refl _ _ | assumption | refine Below.drew ?_ | refine bdrewN ?_ _ | refine Below.setCell ?_ (by first | omega | (simp; done) | (simp; omega)) _ | refine Below.alloc ?_ (by first | omega | (simp; done) | (simp; omega)) _))
  have HK0 : Hid (KBox W (w.heap.size + 1) 69 a xs.length c (keysF ((xs.take 0).map MPart.piece))) := by rw [← hW]; have h := KBox.made (w.alloc (Obj.cells #[Value.slice none 0 0, Value.int IntKind.u64 0, Value.int IntKind.u64 0] 69)) 69 a xs.length c emptyF; rw [show (w.alloc (Obj.cells #[Value.slice none 0 0, Value.int IntKind.u64 0, Value.int IntKind.u64 0] 69)).heap.size = w.heap.size + 1 by simp] at h; exact h
  have hbW : Below w.heap.size w W := by rw [← hW]; exact (by repeat (first | exact Below.refl _ _ | assumption | refine Below.drew ?_ | refine bdrewN ?_ _ | refine Below.setCell ?_ (by first | omega | (simp; done) | (simp; omega)) _ | refine Below.alloc ?_ (by first | omega | (simp; done) | (simp; omega)) _))
  clear hW
  go_loopw [12] (fun i wr => ∃ (k : Nat), k ≤ xs.length ∧ i = .int .i64 k ∧ Hid (KBox wr w.heap.size 69 none 0 0 emptyF) ∧ Hid (KBox wr (w.heap.size + 1) 69 a xs.length c (keysF ((xs.take k).map MPart.piece))) ∧ Below w.heap.size w wr) (fun i _ => xs.length - (intOf i).toNat)
  case atStart => exact ⟨0, Nat.zero_le _, rfl, HQ0, HK0, hbW⟩
  case round =>
    clear HQ0 HK0 hbW
    obtain ⟨k, hk, rfl, HQ, HK, hb⟩ := hrel
    have hbs := hb.size
    by_cases hk' : k < xs.length
    · obtain ⟨b1, off1, rfl, hpc⟩ := ha.out.2.resolve_left (fun h => by rw [h] at hk'; exact absurd hk' (Nat.not_lt_zero _))
      obtain ⟨c0, c1, c2⟩ := (hpc.below hb) k hk'
      have HS := hidP (keys_take MPart.piece xs k hk')
      have HOk := hidP (keysF_ok ((xs.take k).map MPart.piece))
      generalize keysF ((xs.take k).map MPart.piece) = s at HK HS HOk
      have kc0 := HK.out.c0
      have kc1 := HK.out.c1
      have kc2 := HK.out.c2
      have hzk := HK.out.lt
      have hzk' : w.heap.size < wr.heap.size := by omega
      clear hpc
      go_wp2_with fail
      generalize hW2 : wr.alloc _ = W2
      have hbw2 : Below wr.heap.size wr W2 := by rw [← hW2]; exact (by repeat (first | exact Below.refl _ _ | assumption | refine Below.drew ?_ | refine bdrewN ?_ _ | refine Below.setCell ?_ (by first | omega | (simp; done) | (simp; omega)) _ | refine Below.alloc ?_ (by first | omega | (simp; done) | (simp; omega)) _))
      have i0 : W2.cell? ⟨wr.heap.size, 0, none⟩ = some (.int .i64 xs[k].piece) := by rw [← hW2]; simp [go_sem]
      have i1 : W2.cell? ⟨wr.heap.size, 1, none⟩ = some (.int .i64 xs[k].lo) := by rw [← hW2]; simp [go_sem]
      have i2 : W2.cell? ⟨wr.heap.size, 2, none⟩ = some (.int .i64 xs[k].hi) := by rw [← hW2]; simp [go_sem]
      have hzw2 : wr.heap.size < W2.heap.size := cellLt i0
      clear hW2 c0 c1 c2
      replace kc0 := cell_later hbw2 kc0
      replace kc1 := cell_later hbw2 kc1
      replace kc2 := cell_later hbw2 kc2
      have HK2 := hidP (HK.out.below hbw2)
      have HQ2 := hidP (HQ.out.below hbw2)
      replace hzk := Nat.lt_of_lt_of_le hzk hbw2.size
      have hb2w := hb.trans (hbw2.mono hb.size)
      clear HK HQ hbw2 hb hbs hzk'
      go_region_with (first
        | (go_at_call 50; refine (partKey_any xs[k] _).mono ?_; rintro e w2 ⟨rfl, hb2⟩; have hbD : Below W2.heap.size W2 w2 := (Below.refl _ _).drew.trans hb2; have kc1' := cell_later hbD kc1; have kc2' := cell_later hbD kc2; have kc0' := cell_later hbD kc0; have hzk2 := Nat.lt_of_lt_of_le hzk hbD.size)
        | (go_at_call 66; refine (with_any s _ HOk.out _).mono ?_; rintro e w3 ⟨rfl, hb3⟩; unfold setV; have hbE := hbD.trans (hb3.mono hbD.size); have HK3 := hidP (HK2.out.below hbE); have HQ3 := hidP (HQ2.out.below hbE); have kc1'' := HK3.out.c1; have kc2'' := HK3.out.c2; have kf1 := HK3.out.frozen 1; have kf2 := HK3.out.frozen 2; have hzk3 := HK3.out.lt))
      all_goals
        have hb4 := hb2w.trans (hbE.mono hb2w.size)
        have hbs4 := hb4.size
        have HK4 := hidP (HK3.out.setS (withF s xs[k].piece))
        clear hb2 hb3
        go_wp2_with fail
        go_roundw
        case rel => exact ⟨k + 1, by omega, by go_num, HQ3.out.kept (by rw [Below.heap_setCell _ _ _ _ (by simp), Below.heap_setCell _ _ _ _ (by simp)]), by rw [HS.out]; exact HK4, (by repeat (first | exact Below.refl _ _ | assumption | refine Below.drew ?_ | refine bdrewN ?_ _ | refine Below.setCell ?_ (by first | omega | (simp; done) | (simp; omega)) _ | refine Below.alloc ?_ (by first | omega | (simp; done) | (simp; omega)) _))⟩
        case measure => simp [intOf]; omega
    · have HT : Hid (xs.take k = xs) := List.take_of_length_le (by omega)
      rw [HT.out] at HK
      have kc0 := HK.out.c0
      have kc1 := HK.out.c1
      have kc2 := HK.out.c2
      have hzk := HK.out.lt
      have q0 := HQ.out.c0
      have q1 := HQ.out.c1
      have q2 := HQ.out.c2
      have qf0 := HQ.out.frozen 0
      have qf1 := HQ.out.frozen 1
      have qf2 := HQ.out.frozen 2
      have hzk' : w.heap.size < wr.heap.size := by omega
      clear HT HQ HK
      go_wp2_with fail
      exact bodyPost_ret (v := .agg #[.slice a xs.length c, .int .u64 (keysF (xs.map MPart.piece)).a, .int .u64 (keysF (xs.map MPart.piece)).b]) (by simp [results, Try.results49, go_sem, q0, q1, q2]) rfl ⟨rfl, (by repeat (first | exact Below.refl _ _ | assumption | refine Below.drew ?_ | refine bdrewN ?_ _ | refine Below.setCell ?_ (by first | omega | (simp; done) | (simp; omega)) _ | refine Below.alloc ?_ (by first | omega | (simp; done) | (simp; omega)) _))⟩

set_option maxRecDepth 8000 in
set_option maxHeartbeats 4000000 in
theorem keyedByN_any (a : Option Addr) (c : Nat) (xs : List Int) (w : World) (ha : Hid (NumsAt w a xs)) :
    Calls Try.prog 51 #[.slice a xs.length c, fnV 52] w fun e w' => e = .returned (keyedV a xs.length c (keysF (xs.map id))) ∧ Below w.heap.size w w' := by
  have hl := ha.out.1
  unfold maxLen at hl
  unfold keyedV fnV
  go_enter Try.func51, Try.ntmps51
  go_wp2_with fail
  generalize hW : (w.alloc _).alloc _ = W
  have HQ0 : Hid (KBox W w.heap.size 71 none 0 0 emptyF) := by rw [← hW]; exact (KBox.made w _ none 0 0 emptyF).below (by repeat (first | exact Below.refl _ _ | assumption | refine Below.drew ?_ | refine bdrewN ?_ _ | refine Below.setCell ?_ (by first | omega | (simp; done) | (simp; omega)) _ | refine Below.alloc ?_ (by first | omega | (simp; done) | (simp; omega)) _))
  have HK0 : Hid (KBox W (w.heap.size + 1) 71 a xs.length c (keysF ((xs.take 0).map id))) := by rw [← hW]; have h := KBox.made (w.alloc (Obj.cells #[Value.slice none 0 0, Value.int IntKind.u64 0, Value.int IntKind.u64 0] 71)) 71 a xs.length c emptyF; rw [show (w.alloc (Obj.cells #[Value.slice none 0 0, Value.int IntKind.u64 0, Value.int IntKind.u64 0] 71)).heap.size = w.heap.size + 1 by simp] at h; exact h
  have hbW : Below w.heap.size w W := by rw [← hW]; exact (by repeat (first | exact Below.refl _ _ | assumption | refine Below.drew ?_ | refine bdrewN ?_ _ | refine Below.setCell ?_ (by first | omega | (simp; done) | (simp; omega)) _ | refine Below.alloc ?_ (by first | omega | (simp; done) | (simp; omega)) _))
  clear hW
  go_loopw [12] (fun i wr => ∃ (k : Nat), k ≤ xs.length ∧ i = .int .i64 k ∧ Hid (KBox wr w.heap.size 71 none 0 0 emptyF) ∧ Hid (KBox wr (w.heap.size + 1) 71 a xs.length c (keysF ((xs.take k).map id))) ∧ Below w.heap.size w wr) (fun i _ => xs.length - (intOf i).toNat)
  case atStart => exact ⟨0, Nat.zero_le _, rfl, HQ0, HK0, hbW⟩
  case round =>
    clear HQ0 HK0 hbW
    obtain ⟨k, hk, rfl, HQ, HK, hb⟩ := hrel
    have hbs := hb.size
    by_cases hk' : k < xs.length
    · obtain ⟨b1, off1, rfl, hpc⟩ := ha.out.2.resolve_left (fun h => by rw [h] at hk'; exact absurd hk' (Nat.not_lt_zero _))
      have c0 := (hpc.below hb) k hk'
      have HS := hidP (keys_take id xs k hk')
      have HOk := hidP (keysF_ok ((xs.take k).map id))
      generalize keysF ((xs.take k).map id) = s at HK HS HOk
      have kc0 := HK.out.c0
      have kc1 := HK.out.c1
      have kc2 := HK.out.c2
      have hzk := HK.out.lt
      have hzk' : w.heap.size < wr.heap.size := by omega
      clear hpc
      go_wp2_with fail
      generalize hW2 : wr = W2 at *
      have HK2 := HK
      have HQ2 := HQ
      have hb2w := hb
      clear HK HQ hb hbs hzk'
      go_region_with (first
        | (go_at_call 52; refine (ownKey_any _ _).mono ?_; rintro e w2 ⟨rfl, hb2⟩; have hbD : Below W2.heap.size W2 w2 := (Below.refl _ _).drew.trans hb2; have kc1' := cell_later hbD kc1; have kc2' := cell_later hbD kc2; have kc0' := cell_later hbD kc0; have hzk2 := Nat.lt_of_lt_of_le hzk hbD.size)
        | (go_at_call 66; refine (with_any s _ HOk.out _).mono ?_; rintro e w3 ⟨rfl, hb3⟩; unfold setV; have hbE := hbD.trans (hb3.mono hbD.size); have HK3 := hidP (HK2.out.below hbE); have HQ3 := hidP (HQ2.out.below hbE); have kc1'' := HK3.out.c1; have kc2'' := HK3.out.c2; have kf1 := HK3.out.frozen 1; have kf2 := HK3.out.frozen 2; have hzk3 := HK3.out.lt))
      all_goals
        have hb4 := hb2w.trans (hbE.mono hb2w.size)
        have hbs4 := hb4.size
        have HK4 := hidP (HK3.out.setS (withF s xs[k]))
        clear hb2 hb3
        go_wp2_with fail
        go_roundw
        case rel => exact ⟨k + 1, by omega, by go_num, HQ3.out.kept (by rw [Below.heap_setCell _ _ _ _ (by simp), Below.heap_setCell _ _ _ _ (by simp)]), by rw [HS.out]; exact HK4, (by repeat (first | exact Below.refl _ _ | assumption | refine Below.drew ?_ | refine bdrewN ?_ _ | refine Below.setCell ?_ (by first | omega | (simp; done) | (simp; omega)) _ | refine Below.alloc ?_ (by first | omega | (simp; done) | (simp; omega)) _))⟩
        case measure => simp [intOf]; omega
    · have HT : Hid (xs.take k = xs) := List.take_of_length_le (by omega)
      rw [HT.out] at HK
      have kc0 := HK.out.c0
      have kc1 := HK.out.c1
      have kc2 := HK.out.c2
      have hzk := HK.out.lt
      have q0 := HQ.out.c0
      have q1 := HQ.out.c1
      have q2 := HQ.out.c2
      have qf0 := HQ.out.frozen 0
      have qf1 := HQ.out.frozen 1
      have qf2 := HQ.out.frozen 2
      have hzk' : w.heap.size < wr.heap.size := by omega
      clear HT HQ HK
      go_wp2_with fail
      exact bodyPost_ret (v := .agg #[.slice a xs.length c, .int .u64 (keysF (xs.map id)).a, .int .u64 (keysF (xs.map id)).b]) (by simp [results, Try.results51, go_sem, q0, q1, q2]) rfl ⟨rfl, (by repeat (first | exact Below.refl _ _ | assumption | refine Below.drew ?_ | refine bdrewN ?_ _ | refine Below.setCell ?_ (by first | omega | (simp; done) | (simp; omega)) _ | refine Below.alloc ?_ (by first | omega | (simp; done) | (simp; omega)) _))⟩

set_option maxRecDepth 8000 in
set_option maxHeartbeats 4000000 in
theorem keyedByL_any (a : Option Addr) (c : Nat) (xs : List MEnd) (w : World) (ha : Hid (EndsAt w a xs)) :
    Calls Try.prog 53 #[.slice a xs.length c, fnV 55] w fun e w' => e = .returned (keyedV a xs.length c (keysF (xs.map MEnd.piece))) ∧ Below w.heap.size w w' := by
  have hl := ha.out.1
  unfold maxLen at hl
  unfold keyedV fnV
  go_enter Try.func53, Try.ntmps53
  go_wp2_with fail
  generalize hW : (w.alloc _).alloc _ = W
  have HQ0 : Hid (KBox W w.heap.size 73 none 0 0 emptyF) := by rw [← hW]; exact (KBox.made w _ none 0 0 emptyF).below (by repeat (first | exact Below.refl _ _ | assumption | refine Below.drew ?_ | refine bdrewN ?_ _ | refine Below.setCell ?_ (by first | omega | (simp; done) | (simp; omega)) _ | refine Below.alloc ?_ (by first | omega | (simp; done) | (simp; omega)) _))
  have HK0 : Hid (KBox W (w.heap.size + 1) 73 a xs.length c (keysF ((xs.take 0).map MEnd.piece))) := by rw [← hW]; have h := KBox.made (w.alloc (Obj.cells #[Value.slice none 0 0, Value.int IntKind.u64 0, Value.int IntKind.u64 0] 73)) 73 a xs.length c emptyF; rw [show (w.alloc (Obj.cells #[Value.slice none 0 0, Value.int IntKind.u64 0, Value.int IntKind.u64 0] 73)).heap.size = w.heap.size + 1 by simp] at h; exact h
  have hbW : Below w.heap.size w W := by rw [← hW]; exact (by repeat (first | exact Below.refl _ _ | assumption | refine Below.drew ?_ | refine bdrewN ?_ _ | refine Below.setCell ?_ (by first | omega | (simp; done) | (simp; omega)) _ | refine Below.alloc ?_ (by first | omega | (simp; done) | (simp; omega)) _))
  clear hW
  go_loopw [12] (fun i wr => ∃ (k : Nat), k ≤ xs.length ∧ i = .int .i64 k ∧ Hid (KBox wr w.heap.size 73 none 0 0 emptyF) ∧ Hid (KBox wr (w.heap.size + 1) 73 a xs.length c (keysF ((xs.take k).map MEnd.piece))) ∧ Below w.heap.size w wr) (fun i _ => xs.length - (intOf i).toNat)
  case atStart => exact ⟨0, Nat.zero_le _, rfl, HQ0, HK0, hbW⟩
  case round =>
    clear HQ0 HK0 hbW
    obtain ⟨k, hk, rfl, HQ, HK, hb⟩ := hrel
    have hbs := hb.size
    by_cases hk' : k < xs.length
    · obtain ⟨b1, off1, rfl, hpc⟩ := ha.out.2.resolve_left (fun h => by rw [h] at hk'; exact absurd hk' (Nat.not_lt_zero _))
      obtain ⟨c0, c1⟩ := (hpc.below hb) k hk'
      have HS := hidP (keys_take MEnd.piece xs k hk')
      have HOk := hidP (keysF_ok ((xs.take k).map MEnd.piece))
      generalize keysF ((xs.take k).map MEnd.piece) = s at HK HS HOk
      have kc0 := HK.out.c0
      have kc1 := HK.out.c1
      have kc2 := HK.out.c2
      have hzk := HK.out.lt
      have hzk' : w.heap.size < wr.heap.size := by omega
      clear hpc
      go_wp2_with fail
      generalize hW2 : wr.alloc _ = W2
      have hbw2 : Below wr.heap.size wr W2 := by rw [← hW2]; exact (by repeat (first | exact Below.refl _ _ | assumption | refine Below.drew ?_ | refine bdrewN ?_ _ | refine Below.setCell ?_ (by first | omega | (simp; done) | (simp; omega)) _ | refine Below.alloc ?_ (by first | omega | (simp; done) | (simp; omega)) _))
      have i0 : W2.cell? ⟨wr.heap.size, 0, none⟩ = some (.int .i64 xs[k].piece) := by rw [← hW2]; simp [go_sem]
      have i1 : W2.cell? ⟨wr.heap.size, 1, none⟩ = some (.int .i64 xs[k].side) := by rw [← hW2]; simp [go_sem]
      have hzw2 : wr.heap.size < W2.heap.size := cellLt i0
      clear hW2 c0 c1
      replace kc0 := cell_later hbw2 kc0
      replace kc1 := cell_later hbw2 kc1
      replace kc2 := cell_later hbw2 kc2
      have HK2 := hidP (HK.out.below hbw2)
      have HQ2 := hidP (HQ.out.below hbw2)
      replace hzk := Nat.lt_of_lt_of_le hzk hbw2.size
      have hb2w := hb.trans (hbw2.mono hb.size)
      clear HK HQ hbw2 hb hbs hzk'
      go_region_with (first
        | (go_at_call 55; refine (lieKey_any xs[k] _).mono ?_; rintro e w2 ⟨rfl, hb2⟩; have hbD : Below W2.heap.size W2 w2 := (Below.refl _ _).drew.trans hb2; have kc1' := cell_later hbD kc1; have kc2' := cell_later hbD kc2; have kc0' := cell_later hbD kc0; have hzk2 := Nat.lt_of_lt_of_le hzk hbD.size)
        | (go_at_call 66; refine (with_any s _ HOk.out _).mono ?_; rintro e w3 ⟨rfl, hb3⟩; unfold setV; have hbE := hbD.trans (hb3.mono hbD.size); have HK3 := hidP (HK2.out.below hbE); have HQ3 := hidP (HQ2.out.below hbE); have kc1'' := HK3.out.c1; have kc2'' := HK3.out.c2; have kf1 := HK3.out.frozen 1; have kf2 := HK3.out.frozen 2; have hzk3 := HK3.out.lt))
      all_goals
        have hb4 := hb2w.trans (hbE.mono hb2w.size)
        have hbs4 := hb4.size
        have HK4 := hidP (HK3.out.setS (withF s xs[k].piece))
        clear hb2 hb3
        go_wp2_with fail
        go_roundw
        case rel => exact ⟨k + 1, by omega, by go_num, HQ3.out.kept (by rw [Below.heap_setCell _ _ _ _ (by simp), Below.heap_setCell _ _ _ _ (by simp)]), by rw [HS.out]; exact HK4, (by repeat (first | exact Below.refl _ _ | assumption | refine Below.drew ?_ | refine bdrewN ?_ _ | refine Below.setCell ?_ (by first | omega | (simp; done) | (simp; omega)) _ | refine Below.alloc ?_ (by first | omega | (simp; done) | (simp; omega)) _))⟩
        case measure => simp [intOf]; omega
    · have HT : Hid (xs.take k = xs) := List.take_of_length_le (by omega)
      rw [HT.out] at HK
      have kc0 := HK.out.c0
      have kc1 := HK.out.c1
      have kc2 := HK.out.c2
      have hzk := HK.out.lt
      have q0 := HQ.out.c0
      have q1 := HQ.out.c1
      have q2 := HQ.out.c2
      have qf0 := HQ.out.frozen 0
      have qf1 := HQ.out.frozen 1
      have qf2 := HQ.out.frozen 2
      have hzk' : w.heap.size < wr.heap.size := by omega
      clear HT HQ HK
      go_wp2_with fail
      exact bodyPost_ret (v := .agg #[.slice a xs.length c, .int .u64 (keysF (xs.map MEnd.piece)).a, .int .u64 (keysF (xs.map MEnd.piece)).b]) (by simp [results, Try.results53, go_sem, q0, q1, q2]) rfl ⟨rfl, (by repeat (first | exact Below.refl _ _ | assumption | refine Below.drew ?_ | refine bdrewN ?_ _ | refine Below.setCell ?_ (by first | omega | (simp; done) | (simp; omega)) _ | refine Below.alloc ?_ (by first | omega | (simp; done) | (simp; omega)) _))⟩

end Go.Proofs.Ytmkdgnmmebldgab
