import Derived.Test.YtmkdgnmmebldgaaAp25
import Derived.Test.YtmkdgnmmebldgaaAp4
import Derived.Test.YtmkdgnmmebldgaaAp24
import Derived.Laws.OwnMore
import Derived.OneCell
namespace Go.Proofs.Ytmkdgnmmebldgaa
open Go.RowKit Go.Deep

/-- What a route takes for itself, and where its lists lie. -/
structure MClaim where
  parts : List MPart
  over : List MPart
  crosses : List Int
  needs : List MEnd
structure CAddr where
  pa : Option Addr
  pc : Nat
  ps : MSet
  oa : Option Addr
  oc : Nat
  os : MSet
  xa : Option Addr
  xc : Nat
  xs : MSet
  na : Option Addr
  nc : Nat
  ns : MSet
def claimF (r : MRoute) : MClaim := ⟨r.parts, r.over, r.crosses, needsF r.lies r.flanks⟩
def claimV (d : CAddr) (c : MClaim) : Value :=
  .agg #[.slice d.pa c.parts.length d.pc, .int .u64 d.ps.a, .int .u64 d.ps.b, .slice d.oa c.over.length d.oc, .int .u64 d.os.a, .int .u64 d.os.b,
    .slice d.xa c.crosses.length d.xc, .int .u64 d.xs.a, .int .u64 d.xs.b, .slice d.na c.needs.length d.nc, .int .u64 d.ns.a, .int .u64 d.ns.b]
structure ClaimAt (w : World) (d : CAddr) (c : MClaim) : Prop where
  parts : PartsAt w d.pa c.parts
  over : PartsAt w d.oa c.over
  crosses : NumsAt w d.xa c.crosses
  needs : EndsAt w d.na c.needs
  kp : d.ps = keysF (c.parts.map MPart.piece)
  ko : d.os = keysF (c.over.map MPart.piece)
  kx : d.xs = keysF (c.crosses.map id)
  kn : d.ns = keysF (c.needs.map MEnd.piece)
theorem ClaimAt.below {w w' : World} {d : CAddr} {c : MClaim} (h : ClaimAt w d c) (hb : Below w.heap.size w w') : ClaimAt w' d c :=
  ⟨h.parts.below hb, h.over.below hb, h.crosses.below hb, h.needs.below hb, h.kp, h.ko, h.kx, h.kn⟩
/-- The same, its needs in a row of one's own; the other lists lie as they lay in an elder world. -/
structure ClaimOwn (w wr : World) (d : CAddr) (c : MClaim) : Prop where
  parts : PartsAt w d.pa c.parts
  over : PartsAt w d.oa c.over
  crosses : NumsAt w d.xa c.crosses
  needs : ∃ B, wr.ownsRow B 48 2 (.slice d.na c.needs.length d.nc) c.needs.length (flatE c.needs)
  short : c.needs.length ≤ maxLen
  kp : d.ps = keysF (c.parts.map MPart.piece)
  ko : d.os = keysF (c.over.map MPart.piece)
  kx : d.xs = keysF (c.crosses.map id)
  kn : d.ns = keysF (c.needs.map MEnd.piece)
theorem ClaimOwn.at {w wr : World} {d : CAddr} {c : MClaim} (h : ClaimOwn w wr d c) (hb : Below w.heap.size w wr) : ClaimAt wr d c := by
  obtain ⟨B, ho⟩ := h.needs
  obtain ⟨xa, ya, hxy, he, _, _⟩ := ownE ho h.short
  cases hxy
  exact ⟨h.parts.below hb, h.over.below hb, h.crosses.below hb, he, h.kp, h.ko, h.kx, h.kn⟩
theorem owns_kept {w w' : World} {B e s n : Nat} {v : Value} {xs : List Value} (h : w.ownsRow B e s v n xs) (hk : ∀ b, v.ownBlock = some b → w'.heap[b]? = w.heap[b]?) : w'.ownsRow B e s v n xs := by
  refine ⟨h.1, ?_⟩
  rcases h.2 with h2 | ⟨g, cap, cur, h1, h2, h3, h4⟩
  · exact Or.inl h2
  · exact Or.inr ⟨g, cap, cur, h1, h2, (hk g (by rw [h1]; rfl)).trans h3, h4⟩
theorem ClaimOwn.below {w wr wr' : World} {d : CAddr} {c : MClaim} (h : ClaimOwn w wr d c) (hb : Below wr.heap.size wr wr') : ClaimOwn w wr' d c := by
  obtain ⟨B, ho⟩ := h.needs
  exact ⟨h.parts, h.over, h.crosses, ⟨B, owns_below ho hb⟩, h.short, h.kp, h.ko, h.kx, h.kn⟩
theorem ClaimOwn.grown {w wr wr' : World} {d : CAddr} {c : MClaim} {B e s n : Nat} {v : Value} {xs : List Value} (h : ClaimOwn w wr d c) (hv : wr.ownsRow B e s v n xs) (he : 48 ≠ e) (hg : wr.grownBy wr' v.ownBlock) : ClaimOwn w wr' d c := by
  obtain ⟨B', ho⟩ := h.needs
  exact ⟨h.parts, h.over, h.crosses, ⟨B', ho.kept hg (owns_ne he ho hv)⟩, h.short, h.kp, h.ko, h.kx, h.kn⟩
theorem ClaimOwn.base {w0 w wr : World} {d : CAddr} {c : MClaim} (h : ClaimOwn w wr d c) (hp : PartsAt w0 d.pa c.parts) (ho : PartsAt w0 d.oa c.over) (hx : NumsAt w0 d.xa c.crosses) : ClaimOwn w0 wr d c := ⟨hp, ho, hx, h.needs, h.short, h.kp, h.ko, h.kx, h.kn⟩
/-- The twelve cells of a claim. -/
structure ClaimCell (w : World) (b o : Nat) (d : CAddr) (c : MClaim) : Prop where
  k0 : w.cell? ⟨b, o, none⟩ = some (.slice d.pa c.parts.length d.pc)
  k1 : w.cell? ⟨b, o + 1, none⟩ = some (.int .u64 d.ps.a)
  k2 : w.cell? ⟨b, o + 2, none⟩ = some (.int .u64 d.ps.b)
  k3 : w.cell? ⟨b, o + 3, none⟩ = some (.slice d.oa c.over.length d.oc)
  k4 : w.cell? ⟨b, o + 4, none⟩ = some (.int .u64 d.os.a)
  k5 : w.cell? ⟨b, o + 5, none⟩ = some (.int .u64 d.os.b)
  k6 : w.cell? ⟨b, o + 6, none⟩ = some (.slice d.xa c.crosses.length d.xc)
  k7 : w.cell? ⟨b, o + 7, none⟩ = some (.int .u64 d.xs.a)
  k8 : w.cell? ⟨b, o + 8, none⟩ = some (.int .u64 d.xs.b)
  k9 : w.cell? ⟨b, o + 9, none⟩ = some (.slice d.na c.needs.length d.nc)
  k10 : w.cell? ⟨b, o + 10, none⟩ = some (.int .u64 d.ns.a)
  k11 : w.cell? ⟨b, o + 11, none⟩ = some (.int .u64 d.ns.b)
theorem ClaimCell.kept {w w' : World} {b o : Nat} {d : CAddr} {c : MClaim} (h : ClaimCell w b o d c) (e : w'.heap[b]? = w.heap[b]?) : ClaimCell w' b o d c :=
  ⟨(World.cell?_of_block (w := w) e).trans h.k0, (World.cell?_of_block (w := w) e).trans h.k1, (World.cell?_of_block (w := w) e).trans h.k2, (World.cell?_of_block (w := w) e).trans h.k3,
   (World.cell?_of_block (w := w) e).trans h.k4, (World.cell?_of_block (w := w) e).trans h.k5, (World.cell?_of_block (w := w) e).trans h.k6, (World.cell?_of_block (w := w) e).trans h.k7,
   (World.cell?_of_block (w := w) e).trans h.k8, (World.cell?_of_block (w := w) e).trans h.k9, (World.cell?_of_block (w := w) e).trans h.k10, (World.cell?_of_block (w := w) e).trans h.k11⟩
theorem ClaimCell.lt {w : World} {b o : Nat} {d : CAddr} {c : MClaim} (h : ClaimCell w b o d c) : b < w.heap.size := cellLt h.k0
theorem ClaimCell.below {w w' : World} {b o : Nat} {d : CAddr} {c : MClaim} (h : ClaimCell w b o d c) (hb : Below w.heap.size w w') : ClaimCell w' b o d c := h.kept (hb.block b h.lt)
theorem claimCell_box (w : World) (d : CAddr) (c : MClaim) (T : TypeId) : ClaimCell (w.alloc (.cells #[.slice d.pa c.parts.length d.pc, .int .u64 d.ps.a, .int .u64 d.ps.b, .slice d.oa c.over.length d.oc, .int .u64 d.os.a, .int .u64 d.os.b,
    .slice d.xa c.crosses.length d.xc, .int .u64 d.xs.a, .int .u64 d.xs.b, .slice d.na c.needs.length d.nc, .int .u64 d.ns.a, .int .u64 d.ns.b] T)) w.heap.size 0 d c := by
  constructor <;> simp [go_sem]
theorem claimCell_box1 {w W : World} {o : Obj} (hW : W = w.alloc o) (d : CAddr) (c : MClaim) (T : TypeId) : ClaimCell (W.alloc (.cells #[.slice d.pa c.parts.length d.pc, .int .u64 d.ps.a, .int .u64 d.ps.b, .slice d.oa c.over.length d.oc, .int .u64 d.os.a, .int .u64 d.os.b,
    .slice d.xa c.crosses.length d.xc, .int .u64 d.xs.a, .int .u64 d.xs.b, .slice d.na c.needs.length d.nc, .int .u64 d.ns.a, .int .u64 d.ns.b] T)) (w.heap.size + 1) 0 d c := by
  have h := claimCell_box W d c T
  rw [show W.heap.size = w.heap.size + 1 by rw [hW]; simp] at h
  exact h

def exclC (a b : MClaim) : Int :=
  if touchL a.parts b.parts = true then 1
  else if crossL a.crosses b.crosses = true then 2
  else if wantL a.needs b.needs = true then 3
  else if touchL a.over b.parts = true ∨ touchL b.over a.parts = true then 4
  else 0
theorem exclC_eq (a b : MRoute) : exclC (claimF a) (claimF b) = exclF a b := by
  unfold exclC exclF claimF
  rw [touchL_symm b.over]
theorem exclC_1 {a b : MClaim} (h : touchL a.parts b.parts = true) : exclC a b = 1 := by unfold exclC; rw [if_pos h]
theorem exclC_2 {a b : MClaim} (h1 : touchL a.parts b.parts = false) (h : crossL a.crosses b.crosses = true) : exclC a b = 2 := by unfold exclC; rw [if_neg (by simp [h1]), if_pos h]
theorem exclC_3 {a b : MClaim} (h1 : touchL a.parts b.parts = false) (h2 : crossL a.crosses b.crosses = false) (h : wantL a.needs b.needs = true) : exclC a b = 3 := by unfold exclC; rw [if_neg (by simp [h1]), if_neg (by simp [h2]), if_pos h]
theorem exclC_4 {a b : MClaim} (h1 : touchL a.parts b.parts = false) (h2 : crossL a.crosses b.crosses = false) (h3 : wantL a.needs b.needs = false) (h : touchL a.over b.parts = true ∨ touchL b.over a.parts = true) : exclC a b = 4 := by unfold exclC; rw [if_neg (by simp [h1]), if_neg (by simp [h2]), if_neg (by simp [h3]), if_pos h]
theorem exclC_0 {a b : MClaim} (h1 : touchL a.parts b.parts = false) (h2 : crossL a.crosses b.crosses = false) (h3 : wantL a.needs b.needs = false) (h4 : touchL a.over b.parts = false) (h5 : touchL b.over a.parts = false) : exclC a b = 0 := by unfold exclC; rw [if_neg (by simp [h1]), if_neg (by simp [h2]), if_neg (by simp [h3]), if_neg (by simp [h4, h5])]

set_option maxRecDepth 8000 in
set_option maxHeartbeats 4000000 in
theorem against_any (d d' : CAddr) (a b : MClaim) (w : World) (ha : Hid (ClaimAt w d a)) (hb : Hid (ClaimAt w d' b)) :
    Calls Try.prog 48 #[claimV d a, claimV d' b] w fun e w' => e = .returned (.int .i64 (exclC a b)) ∧ Below w.heap.size w w' := by
  unfold claimV
  go_enter Try.func48, Try.ntmps48
  go_wp2_with fail
  generalize hW : (w.alloc _).alloc _ = W
  have HA : Hid (ClaimCell W w.heap.size 0 d a) := by rw [← hW]; exact (claimCell_box w d a _).below (by repeat (first | exact Below.refl _ _ | assumption | refine Below.drew ?_ | refine bdrewN ?_ _ | refine Below.setCell ?_ (by first | omega | (simp; done) | (simp; omega)) _ | refine Below.alloc ?_ (by first | omega | (simp; done) | (simp; omega)) _))
  have HB : Hid (ClaimCell W (w.heap.size + 1) 0 d' b) := by rw [← hW]; exact claimCell_box1 rfl d' b _
  have hbW : Below w.heap.size w W := by rw [← hW]; exact (by repeat (first | exact Below.refl _ _ | assumption | refine Below.drew ?_ | refine bdrewN ?_ _ | refine Below.setCell ?_ (by first | omega | (simp; done) | (simp; omega)) _ | refine Below.alloc ?_ (by first | omega | (simp; done) | (simp; omega)) _))
  have hz : w.heap.size + 1 < W.heap.size := by rw [← hW]; simp
  have LA := hidP (ha.out.below hbW)
  have LB := hidP (hb.out.below hbW)
  clear hW ha hb
  refine (anyTwoP_any _ _ _ _ a.parts b.parts d.ps d'.ps LA.out.kp LB.out.kp _ LA.out.parts LB.out.parts).mono ?_
  rintro e w1 ⟨rfl, hb1⟩
  have hz1 : w.heap.size + 1 < w1.heap.size := Nat.lt_of_lt_of_le hz hb1.size
  have hz1' : w.heap.size < w1.heap.size := by omega
  cases t1 : touchL a.parts b.parts
  rotate_left
  · have HX := hidP (exclC_1 t1)
    clear t1
    go_wp2_with fail
    go_ret
    exact ⟨ret_int HX.out.symm, hbW.trans (hb1.mono hbW.size)⟩
  have T1 := hidP t1
  clear t1
  have x6 : w1.cell? ⟨w.heap.size, 6, none⟩ = some (.slice d.xa a.crosses.length d.xc) := (HA.out.below hb1).k6
  have x7 : w1.cell? ⟨w.heap.size, 7, none⟩ = some (.int .u64 d.xs.a) := (HA.out.below hb1).k7
  have x8 : w1.cell? ⟨w.heap.size, 8, none⟩ = some (.int .u64 d.xs.b) := (HA.out.below hb1).k8
  have y6 : w1.cell? ⟨w.heap.size + 1, 6, none⟩ = some (.slice d'.xa b.crosses.length d'.xc) := (HB.out.below hb1).k6
  have y7 : w1.cell? ⟨w.heap.size + 1, 7, none⟩ = some (.int .u64 d'.xs.a) := (HB.out.below hb1).k7
  have y8 : w1.cell? ⟨w.heap.size + 1, 8, none⟩ = some (.int .u64 d'.xs.b) := (HB.out.below hb1).k8
  go_wp2_with fail
  clear x6 x7 x8 y6 y7 y8 hz1 hz1'
  refine (anyTwoN_any _ _ _ _ a.crosses b.crosses d.xs d'.xs LA.out.kx LB.out.kx _ (LA.out.below hb1).crosses (LB.out.below hb1).crosses).mono ?_
  rintro e w2 ⟨rfl, hb2'⟩
  have hb2 := hb1.trans (hb2'.mono hb1.size)
  have hz2 : w.heap.size + 1 < w2.heap.size := Nat.lt_of_lt_of_le hz hb2.size
  have hz2' : w.heap.size < w2.heap.size := by omega
  clear hb1 hb2'
  cases t2 : crossL a.crosses b.crosses
  rotate_left
  · have HX := hidP (exclC_2 T1.out t2)
    clear t2
    go_wp2_with fail
    go_ret
    exact ⟨ret_int HX.out.symm, hbW.trans (hb2.mono hbW.size)⟩
  have T2 := hidP t2
  clear t2
  have x6 : w2.cell? ⟨w.heap.size, 9, none⟩ = some (.slice d.na a.needs.length d.nc) := (HA.out.below hb2).k9
  have x7 : w2.cell? ⟨w.heap.size, 10, none⟩ = some (.int .u64 d.ns.a) := (HA.out.below hb2).k10
  have x8 : w2.cell? ⟨w.heap.size, 11, none⟩ = some (.int .u64 d.ns.b) := (HA.out.below hb2).k11
  have y6 : w2.cell? ⟨w.heap.size + 1, 9, none⟩ = some (.slice d'.na b.needs.length d'.nc) := (HB.out.below hb2).k9
  have y7 : w2.cell? ⟨w.heap.size + 1, 10, none⟩ = some (.int .u64 d'.ns.a) := (HB.out.below hb2).k10
  have y8 : w2.cell? ⟨w.heap.size + 1, 11, none⟩ = some (.int .u64 d'.ns.b) := (HB.out.below hb2).k11
  go_wp2_with fail
  clear x6 x7 x8 y6 y7 y8 hz2 hz2'
  refine (anyTwoL_any _ _ _ _ a.needs b.needs d.ns d'.ns LA.out.kn LB.out.kn _ (LA.out.below hb2).needs (LB.out.below hb2).needs).mono ?_
  rintro e w3 ⟨rfl, hb3'⟩
  have hb3 := hb2.trans (hb3'.mono hb2.size)
  have hz3 : w.heap.size + 1 < w3.heap.size := Nat.lt_of_lt_of_le hz hb3.size
  have hz3' : w.heap.size < w3.heap.size := by omega
  clear hb2 hb3'
  cases t3 : wantL a.needs b.needs
  rotate_left
  · have HX := hidP (exclC_3 T1.out T2.out t3)
    clear t3
    go_wp2_with fail
    go_ret
    exact ⟨ret_int HX.out.symm, hbW.trans (hb3.mono hbW.size)⟩
  have T3 := hidP t3
  clear t3
  have x6 : w3.cell? ⟨w.heap.size, 3, none⟩ = some (.slice d.oa a.over.length d.oc) := (HA.out.below hb3).k3
  have x7 : w3.cell? ⟨w.heap.size, 4, none⟩ = some (.int .u64 d.os.a) := (HA.out.below hb3).k4
  have x8 : w3.cell? ⟨w.heap.size, 5, none⟩ = some (.int .u64 d.os.b) := (HA.out.below hb3).k5
  have y6 : w3.cell? ⟨w.heap.size + 1, 0, none⟩ = some (.slice d'.pa b.parts.length d'.pc) := (HB.out.below hb3).k0
  have y7 : w3.cell? ⟨w.heap.size + 1, 1, none⟩ = some (.int .u64 d'.ps.a) := (HB.out.below hb3).k1
  have y8 : w3.cell? ⟨w.heap.size + 1, 2, none⟩ = some (.int .u64 d'.ps.b) := (HB.out.below hb3).k2
  go_wp2_with fail
  clear x6 x7 x8 y6 y7 y8 hz3 hz3'
  refine (anyTwoP_any _ _ _ _ a.over b.parts d.os d'.ps LA.out.ko LB.out.kp _ (LA.out.below hb3).over (LB.out.below hb3).parts).mono ?_
  rintro e w4 ⟨rfl, hb4'⟩
  have hb4 := hb3.trans (hb4'.mono hb3.size)
  have hz4 : w.heap.size + 1 < w4.heap.size := Nat.lt_of_lt_of_le hz hb4.size
  have hz4' : w.heap.size < w4.heap.size := by omega
  clear hb3 hb4'
  cases t4 : touchL a.over b.parts
  rotate_left
  · have HX := hidP (exclC_4 T1.out T2.out T3.out (Or.inl t4))
    clear t4
    go_wp2_with fail
    go_ret
    exact ⟨ret_int HX.out.symm, hbW.trans (hb4.mono hbW.size)⟩
  have T4 := hidP t4
  clear t4
  have x6 : w4.cell? ⟨w.heap.size + 1, 3, none⟩ = some (.slice d'.oa b.over.length d'.oc) := (HB.out.below hb4).k3
  have x7 : w4.cell? ⟨w.heap.size + 1, 4, none⟩ = some (.int .u64 d'.os.a) := (HB.out.below hb4).k4
  have x8 : w4.cell? ⟨w.heap.size + 1, 5, none⟩ = some (.int .u64 d'.os.b) := (HB.out.below hb4).k5
  have y6 : w4.cell? ⟨w.heap.size, 0, none⟩ = some (.slice d.pa a.parts.length d.pc) := (HA.out.below hb4).k0
  have y7 : w4.cell? ⟨w.heap.size, 1, none⟩ = some (.int .u64 d.ps.a) := (HA.out.below hb4).k1
  have y8 : w4.cell? ⟨w.heap.size, 2, none⟩ = some (.int .u64 d.ps.b) := (HA.out.below hb4).k2
  go_wp2_with fail
  clear x6 x7 x8 y6 y7 y8 hz4 hz4'
  refine (anyTwoP_any _ _ _ _ b.over a.parts d'.os d.ps LB.out.ko LA.out.kp _ (LB.out.below hb4).over (LA.out.below hb4).parts).mono ?_
  rintro e w5 ⟨rfl, hb5'⟩
  have hb5 := hb4.trans (hb5'.mono hb4.size)
  clear hb4 hb5'
  cases t5 : touchL b.over a.parts
  · have HX := hidP (exclC_0 T1.out T2.out T3.out T4.out t5)
    clear t5
    go_wp2_with fail
    go_ret
    exact ⟨ret_int HX.out.symm, hbW.trans (hb5.mono hbW.size)⟩
  · have HX := hidP (exclC_4 T1.out T2.out T3.out (Or.inr t5))
    clear t5
    go_wp2_with fail
    go_ret
    exact ⟨ret_int HX.out.symm, hbW.trans (hb5.mono hbW.size)⟩

end Go.Proofs.Ytmkdgnmmebldgaa

namespace Go.Proofs.Ytmkdgnmmebldgaa
open Go.RowKit Go.Deep

theorem row_of_alloc1 {w W : World} {o : Obj} (hW : W = w.alloc o) (c : Array Value) (T : Nat) : (W.alloc (.cells c T)).rowIs (w.heap.size + 1) T c.size (fun j => c.getD j (.bool false)) := by
  have h := row_of_alloc W c T
  rw [show W.heap.size = w.heap.size + 1 by rw [hW]; simp] at h
  exact h

theorem store12 {u : World} {B : Nat} {T : TypeId} {f : Nat → Value} (h : u.rowIs B T 12 f) (v0 v1 v2 v3 v4 v5 v6 v7 v8 v9 v10 v11 : Value) :
    ∃ U, U = ((((((((((((u.setCell ⟨B, 0, none⟩ v0).setCell ⟨B, 1, none⟩ v1).setCell ⟨B, 2, none⟩ v2).setCell ⟨B, 3, none⟩ v3).setCell ⟨B, 4, none⟩ v4).setCell ⟨B, 5, none⟩ v5).setCell ⟨B, 6, none⟩ v6).setCell ⟨B, 7, none⟩ v7).setCell ⟨B, 8, none⟩ v8).setCell ⟨B, 9, none⟩ v9).setCell ⟨B, 10, none⟩ v10).setCell ⟨B, 11, none⟩ v11) ∧ U.cell? ⟨B, 0, none⟩ = some v0 ∧ U.cell? ⟨B, 1, none⟩ = some v1 ∧ U.cell? ⟨B, 2, none⟩ = some v2 ∧ U.cell? ⟨B, 3, none⟩ = some v3 ∧ U.cell? ⟨B, 4, none⟩ = some v4 ∧ U.cell? ⟨B, 5, none⟩ = some v5 ∧ U.cell? ⟨B, 6, none⟩ = some v6 ∧ U.cell? ⟨B, 7, none⟩ = some v7 ∧ U.cell? ⟨B, 8, none⟩ = some v8 ∧ U.cell? ⟨B, 9, none⟩ = some v9 ∧ U.cell? ⟨B, 10, none⟩ = some v10 ∧ U.cell? ⟨B, 11, none⟩ = some v11 ∧ (∀ k, k ≠ B → U.heap[k]? = u.heap[k]?) ∧ (∀ B0 w0, B0 ≤ B → Below B0 w0 u → Below B0 w0 U) := by
  have hr := ((((((((((((h.set 0 v0).set 1 v1).set 2 v2).set 3 v3).set 4 v4).set 5 v5).set 6 v6).set 7 v7).set 8 v8).set 9 v9).set 10 v10).set 11 v11)
  refine ⟨_, rfl, ?_, ?_, ?_, ?_, ?_, ?_, ?_, ?_, ?_, ?_, ?_, ?_, ?_, ?_⟩
  iterate 12 (rw [hr.cell (by omega)]; simp)
  · intro k hk
    iterate 12 rw [Below.heap_setCell _ _ _ _ hk]
  · intro B0 w0 hB hb
    exact ((((((((((((hb.setCell (show B0 ≤ (⟨B, 0, none⟩ : Addr).block from hB) v0).setCell (show B0 ≤ (⟨B, 1, none⟩ : Addr).block from hB) v1).setCell (show B0 ≤ (⟨B, 2, none⟩ : Addr).block from hB) v2).setCell (show B0 ≤ (⟨B, 3, none⟩ : Addr).block from hB) v3).setCell (show B0 ≤ (⟨B, 4, none⟩ : Addr).block from hB) v4).setCell (show B0 ≤ (⟨B, 5, none⟩ : Addr).block from hB) v5).setCell (show B0 ≤ (⟨B, 6, none⟩ : Addr).block from hB) v6).setCell (show B0 ≤ (⟨B, 7, none⟩ : Addr).block from hB) v7).setCell (show B0 ≤ (⟨B, 8, none⟩ : Addr).block from hB) v8).setCell (show B0 ≤ (⟨B, 9, none⟩ : Addr).block from hB) v9).setCell (show B0 ≤ (⟨B, 10, none⟩ : Addr).block from hB) v10).setCell (show B0 ≤ (⟨B, 11, none⟩ : Addr).block from hB) v11)

set_option maxRecDepth 8000 in
set_option maxHeartbeats 4000000 in
theorem claimOf_any (d : RAddr) (r : MRoute) (w : World) (hl : Hid (RListsAt w d r)) (hs : Hid (ShortN r)) (hwf : Hid (WfR r)) :
    Calls Try.prog 46 #[routeV d r] w fun e w' => ∃ dc, e = .returned (claimV dc (claimF r)) ∧ Hid (ClaimOwn w w' dc (claimF r)) ∧ Hid (dc.pa = d.a3 ∧ dc.oa = d.a4 ∧ dc.xa = d.a2) ∧ Below w.heap.size w w' := by
  obtain ⟨a0, c0, a1, c1, a2, c2, a3, c3, a4, c4, a5, c5⟩ := d
  unfold routeV
  dsimp only
  go_enter Try.func46, Try.ntmps46
  go_wp2_with fail
  generalize hW : (w.alloc _).alloc _ = W
  have HA : Hid (RouteCell W w.heap.size 0 ⟨a0, c0, a1, c1, a2, c2, a3, c3, a4, c4, a5, c5⟩ r) := by rw [← hW]; exact (routeCell_box w ⟨a0, c0, a1, c1, a2, c2, a3, c3, a4, c4, a5, c5⟩ r _).below (by repeat (first | exact Below.refl _ _ | assumption | refine Below.drew ?_ | refine bdrewN ?_ _ | refine Below.setCell ?_ (by first | omega | (simp; done) | (simp; omega)) _ | refine Below.alloc ?_ (by first | omega | (simp; done) | (simp; omega)) _))
  have HR : Hid (∃ f, W.rowIs (w.heap.size + 1) 116 12 f) := by rw [← hW]; exact ⟨_, row_of_alloc1 rfl _ _⟩
  have hbW : Below w.heap.size w W := by rw [← hW]; exact (by repeat (first | exact Below.refl _ _ | assumption | refine Below.drew ?_ | refine bdrewN ?_ _ | refine Below.setCell ?_ (by first | omega | (simp; done) | (simp; omega)) _ | refine Below.alloc ?_ (by first | omega | (simp; done) | (simp; omega)) _))
  have hz : w.heap.size + 1 < W.heap.size := by rw [← hW]; simp
  have hz' : w.heap.size < W.heap.size := by omega
  have HL := hidP (hl.out.below hbW)
  have HL0 := hl
  clear hW hl
  obtain ⟨f, hf⟩ := HR.out
  have HF := hidP hf
  clear hf HR
  have z0 : W.cell? ⟨w.heap.size, 0, none⟩ = some (.int .i64 r.start) := HA.out.k0
  have z1 : W.cell? ⟨w.heap.size, 1, none⟩ = some (.int .i64 r.stop) := HA.out.k1
  have z2 : W.cell? ⟨w.heap.size, 2, none⟩ = some (.slice a0 r.steps.length c0) := HA.out.k2
  have z3 : W.cell? ⟨w.heap.size, 3, none⟩ = some (.slice a1 r.lies.length c1) := HA.out.k3
  have z4 : W.cell? ⟨w.heap.size, 4, none⟩ = some (.slice a2 r.crosses.length c2) := HA.out.k4
  have z5 : W.cell? ⟨w.heap.size, 5, none⟩ = some (.slice a3 r.parts.length c3) := HA.out.k5
  have z6 : W.cell? ⟨w.heap.size, 6, none⟩ = some (.slice a4 r.over.length c4) := HA.out.k6
  have z7 : W.cell? ⟨w.heap.size, 7, none⟩ = some (.slice a5 r.flanks.length c5) := HA.out.k7
  clear HA
  go_region_held3 (fun w' => w'.cell? ⟨w.heap.size, 0, none⟩ = some (.int .i64 r.start) ∧ w'.cell? ⟨w.heap.size, 1, none⟩ = some (.int .i64 r.stop) ∧ w'.cell? ⟨w.heap.size, 2, none⟩ = some (.slice a0 r.steps.length c0) ∧ w'.cell? ⟨w.heap.size, 3, none⟩ = some (.slice a1 r.lies.length c1) ∧ w'.cell? ⟨w.heap.size, 4, none⟩ = some (.slice a2 r.crosses.length c2) ∧ w'.cell? ⟨w.heap.size, 5, none⟩ = some (.slice a3 r.parts.length c3) ∧ w'.cell? ⟨w.heap.size, 6, none⟩ = some (.slice a4 r.over.length c4) ∧ w'.cell? ⟨w.heap.size, 7, none⟩ = some (.slice a5 r.flanks.length c5)) (first | go_keep | (refine ⟨?_, ?_, ?_, ?_, ?_, ?_, ?_, ?_⟩ <;> assumption))
    (first
      | (go_at_call_of 109 (r.parts); refine (keyedByP_any a3 c3 r.parts W.drew (HL.out.below (Below.refl _ _).drew).parts).mono ?_; rintro e w1 ⟨rfl, hb1'⟩; unfold keyedV; generalize hsp : keysF (r.parts.map MPart.piece) = sp; have HSP := hidP hsp; have hb1 : Below W.heap.size W w1 := (Below.refl _ _).drew.trans hb1'; replace z0 := cell_later hb1 z0; replace z1 := cell_later hb1 z1; replace z2 := cell_later hb1 z2; replace z3 := cell_later hb1 z3; replace z4 := cell_later hb1 z4; replace z5 := cell_later hb1 z5; replace z6 := cell_later hb1 z6; replace z7 := cell_later hb1 z7; clear hb1' hsp)
      | (go_at_call_of 109 (r.over); refine (keyedByP_any a4 c4 r.over w1 (HL.out.below hb1).over).mono ?_; rintro e w2 ⟨rfl, hb2'⟩; unfold keyedV; generalize hso : keysF (r.over.map MPart.piece) = so; have HSO := hidP hso; have hb2 := hb1.trans (hb2'.mono hb1.size); replace z0 := cell_later hb2' z0; replace z1 := cell_later hb2' z1; replace z2 := cell_later hb2' z2; replace z3 := cell_later hb2' z3; replace z4 := cell_later hb2' z4; replace z5 := cell_later hb2' z5; replace z6 := cell_later hb2' z6; replace z7 := cell_later hb2' z7; clear hb2' hso)
      | (go_at_call 111; refine (keyedByN_any a2 c2 r.crosses w2 (HL.out.below hb2).crosses).mono ?_; rintro e w3 ⟨rfl, hb3'⟩; unfold keyedV; generalize hsx : keysF (r.crosses.map id) = sx; have HSX := hidP hsx; have hb3 := hb2.trans (hb3'.mono hb2.size); replace z0 := cell_later hb3' z0; replace z1 := cell_later hb3' z1; replace z2 := cell_later hb3' z2; replace z3 := cell_later hb3' z3; replace z4 := cell_later hb3' z4; replace z5 := cell_later hb3' z5; replace z6 := cell_later hb3' z6; replace z7 := cell_later hb3' z7; clear hb3' hsx)
      | (go_at_call 16; refine (implNeeds_any ⟨a0, c0, a1, c1, a2, c2, a3, c3, a4, c4, a5, c5⟩ r w3 (HL.out.below hb3).lies (HL.out.below hb3).flanks hs.out.lies hs.out.flanks hwf (HL.out.below hb3).nil1).mono ?_; rintro e w4 ⟨x, y, rfl, ho4, hb4'⟩; generalize hnn : needsF r.lies r.flanks = nn at ho4 ⊢; have HNN := hidP hnn; have hb4 := hb3.trans (hb4'.mono hb3.size); replace z0 := cell_later hb4' z0; replace z1 := cell_later hb4' z1; replace z2 := cell_later hb4' z2; replace z3 := cell_later hb4' z3; replace z4 := cell_later hb4' z4; replace z5 := cell_later hb4' z5; replace z6 := cell_later hb4' z6; replace z7 := cell_later hb4' z7; obtain ⟨xa, ya, hxy, he, _, _⟩ := ownE ho4 (by have h1 := needs_len r.flanks r.lies; have h2 := hs.out.lies; have h3 := hs.out.flanks; rw [← hnn]; unfold needsF maxLen; omega); cases hxy; have HE4 := hidP he; have HXB : Hid (∀ b, (Value.slice x nn.length y).ownBlock = some b → w.heap.size + 1 < b) := (fun b e => by have h1 := (ho4.lt b e).1; have h2 := hb3.size; omega); have HO4 := hidP ho4; have HSh : Hid (nn.length ≤ maxLen) := (by have h1 := needs_len r.flanks r.lies; have h2 := hs.out.lies; have h3 := hs.out.flanks; unfold Hid; rw [← hnn]; unfold needsF maxLen; omega); clear he hb4' ho4 hnn)
      | (go_at_call 113; refine (keyedByL_any x y nn w4 HE4).mono ?_; rintro e w5 ⟨rfl, hb5'⟩; unfold keyedV; generalize hsn : keysF (nn.map MEnd.piece) = sn; have HSN := hidP hsn; have hb5 := hb4.trans (hb5'.mono hb4.size); have HO5 := hidP (owns_below HO4.out hb5'); replace z0 := cell_later hb5' z0; replace z1 := cell_later hb5' z1; replace z2 := cell_later hb5' z2; replace z3 := cell_later hb5' z3; replace z4 := cell_later hb5' z4; replace z5 := cell_later hb5' z5; replace z6 := cell_later hb5' z6; replace z7 := cell_later hb5' z7; have hf5 := HF.out.of_block (hb5.block _ hz); have g0 := hf5.cell (i := 0) (by omega); have fz0 := hf5.frozen 0; have g1 := hf5.cell (i := 1) (by omega); have fz1 := hf5.frozen 1; have g2 := hf5.cell (i := 2) (by omega); have fz2 := hf5.frozen 2; have g3 := hf5.cell (i := 3) (by omega); have fz3 := hf5.frozen 3; have g4 := hf5.cell (i := 4) (by omega); have fz4 := hf5.frozen 4; have g5 := hf5.cell (i := 5) (by omega); have fz5 := hf5.frozen 5; have g6 := hf5.cell (i := 6) (by omega); have fz6 := hf5.frozen 6; have g7 := hf5.cell (i := 7) (by omega); have fz7 := hf5.frozen 7; have g8 := hf5.cell (i := 8) (by omega); have fz8 := hf5.frozen 8; have g9 := hf5.cell (i := 9) (by omega); have fz9 := hf5.frozen 9; have g10 := hf5.cell (i := 10) (by omega); have fz10 := hf5.frozen 10; have g11 := hf5.cell (i := 11) (by omega); have fz11 := hf5.frozen 11; have hz5 : w.heap.size + 1 < w5.heap.size := Nat.lt_of_lt_of_le hz hb5.size; have HF5 := hidP hf5; clear hb5' hf5 hsn))
  all_goals
    clear z0 z1 z2 z3 z4 z5 z6 z7
    have hbF := hbW.trans (hb5.mono hbW.size)
    go_wp2_with fail
    obtain ⟨U, hU, k0, k1, k2, k3, k4, k5, k6, k7, k8, k9, k10, k11, hblk, hbel⟩ := store12 HF5.out (.slice a3 r.parts.length c3) (.int .u64 sp.a) (.int .u64 sp.b) (.slice a4 r.over.length c4) (.int .u64 so.a) (.int .u64 so.b) (.slice a2 r.crosses.length c2) (.int .u64 sx.a) (.int .u64 sx.b) (.slice x nn.length y) (.int .u64 sn.a) (.int .u64 sn.b)
    rw [← hU]
    have hbU := hbel _ _ (Nat.le_succ _) hbF
    clear hU hbel g0 g1 g2 g3 g4 g5 g6 g7 g8 g9 g10 g11
    refine bodyPost_ret (v := claimV ⟨a3, c3, sp, a4, c4, so, a2, c2, sx, x, y, sn⟩ ⟨r.parts, r.over, r.crosses, nn⟩) (by unfold claimV; simp [results, Try.results46, go_sem, k0, k1, k2, k3, k4, k5, k6, k7, k8, k9, k10, k11]) rfl ⟨⟨a3, c3, sp, a4, c4, so, a2, c2, sx, x, y, sn⟩, ?_, ?_, ⟨rfl, rfl, rfl⟩, hbU⟩
    · unfold claimF; rw [HNN.out]
    · unfold claimF
      rw [HNN.out]
      exact ⟨HL0.out.parts, HL0.out.over, HL0.out.crosses, ⟨_, owns_kept HO5.out (fun b e => hblk b (by have h := HXB.out b e; omega))⟩, HSh.out, HSP.out.symm, HSO.out.symm, HSX.out.symm, HSN.out.symm⟩

end Go.Proofs.Ytmkdgnmmebldgaa

namespace Go.Proofs.Ytmkdgnmmebldgaa
open Go.RowKit Go.Deep

set_option maxRecDepth 8000 in
set_option maxHeartbeats 4000000 in
theorem implExclude_any (d d' : RAddr) (a b : MRoute) (w : World) (ha : Hid (RListsAt w d a)) (hb : Hid (RListsAt w d' b)) (hsa : Hid (ShortN a)) (hsb : Hid (ShortN b)) (hwa : Hid (WfR a)) (hwb : Hid (WfR b)) :
    Calls Try.prog 13 #[routeV d a, routeV d' b] w fun e w' => e = .returned (.int .i64 (exclF a b)) ∧ Below w.heap.size w w' := by
  unfold routeV
  go_enter Try.func13, Try.ntmps13
  go_wp2_with fail
  generalize hW : (w.alloc _).alloc _ = W
  have HA : Hid (RouteCell W w.heap.size 0 d a) := by rw [← hW]; exact (routeCell_box w d a _).below (by repeat (first | exact Below.refl _ _ | assumption | refine Below.drew ?_ | refine bdrewN ?_ _ | refine Below.setCell ?_ (by first | omega | (simp; done) | (simp; omega)) _ | refine Below.alloc ?_ (by first | omega | (simp; done) | (simp; omega)) _))
  have HB : Hid (RouteCell W (w.heap.size + 1) 0 d' b) := by rw [← hW]; exact routeCell_box2 _ _ _ _ _
  have hbW : Below w.heap.size w W := by rw [← hW]; exact (by repeat (first | exact Below.refl _ _ | assumption | refine Below.drew ?_ | refine bdrewN ?_ _ | refine Below.setCell ?_ (by first | omega | (simp; done) | (simp; omega)) _ | refine Below.alloc ?_ (by first | omega | (simp; done) | (simp; omega)) _))
  have hz : w.heap.size + 1 < W.heap.size := by rw [← hW]; simp
  have hz' : w.heap.size < W.heap.size := by omega
  have LA := hidP (ha.out.below hbW)
  have LB := hidP (hb.out.below hbW)
  clear hW ha hb
  have a0 : W.cell? ⟨w.heap.size, 0, none⟩ = some (.int .i64 a.start) := HA.out.k0
  have a1 : W.cell? ⟨w.heap.size, 1, none⟩ = some (.int .i64 a.stop) := HA.out.k1
  have a2 : W.cell? ⟨w.heap.size, 2, none⟩ = some (.slice d.a0 a.steps.length d.c0) := HA.out.k2
  have a3 : W.cell? ⟨w.heap.size, 3, none⟩ = some (.slice d.a1 a.lies.length d.c1) := HA.out.k3
  have a4 : W.cell? ⟨w.heap.size, 4, none⟩ = some (.slice d.a2 a.crosses.length d.c2) := HA.out.k4
  have a5 : W.cell? ⟨w.heap.size, 5, none⟩ = some (.slice d.a3 a.parts.length d.c3) := HA.out.k5
  have a6 : W.cell? ⟨w.heap.size, 6, none⟩ = some (.slice d.a4 a.over.length d.c4) := HA.out.k6
  have a7 : W.cell? ⟨w.heap.size, 7, none⟩ = some (.slice d.a5 a.flanks.length d.c5) := HA.out.k7
  have b0 : W.cell? ⟨w.heap.size + 1, 0, none⟩ = some (.int .i64 b.start) := HB.out.k0
  have b1 : W.cell? ⟨w.heap.size + 1, 1, none⟩ = some (.int .i64 b.stop) := HB.out.k1
  have b2 : W.cell? ⟨w.heap.size + 1, 2, none⟩ = some (.slice d'.a0 b.steps.length d'.c0) := HB.out.k2
  have b3 : W.cell? ⟨w.heap.size + 1, 3, none⟩ = some (.slice d'.a1 b.lies.length d'.c1) := HB.out.k3
  have b4 : W.cell? ⟨w.heap.size + 1, 4, none⟩ = some (.slice d'.a2 b.crosses.length d'.c2) := HB.out.k4
  have b5 : W.cell? ⟨w.heap.size + 1, 5, none⟩ = some (.slice d'.a3 b.parts.length d'.c3) := HB.out.k5
  have b6 : W.cell? ⟨w.heap.size + 1, 6, none⟩ = some (.slice d'.a4 b.over.length d'.c4) := HB.out.k6
  have b7 : W.cell? ⟨w.heap.size + 1, 7, none⟩ = some (.slice d'.a5 b.flanks.length d'.c5) := HB.out.k7
  clear HA HB
  go_region_held3 (fun w' => w'.cell? ⟨w.heap.size, 0, none⟩ = some (.int .i64 a.start) ∧ w'.cell? ⟨w.heap.size, 1, none⟩ = some (.int .i64 a.stop) ∧ w'.cell? ⟨w.heap.size, 2, none⟩ = some (.slice d.a0 a.steps.length d.c0) ∧ w'.cell? ⟨w.heap.size, 3, none⟩ = some (.slice d.a1 a.lies.length d.c1) ∧ w'.cell? ⟨w.heap.size, 4, none⟩ = some (.slice d.a2 a.crosses.length d.c2) ∧ w'.cell? ⟨w.heap.size, 5, none⟩ = some (.slice d.a3 a.parts.length d.c3) ∧ w'.cell? ⟨w.heap.size, 6, none⟩ = some (.slice d.a4 a.over.length d.c4) ∧ w'.cell? ⟨w.heap.size, 7, none⟩ = some (.slice d.a5 a.flanks.length d.c5) ∧ w'.cell? ⟨w.heap.size + 1, 0, none⟩ = some (.int .i64 b.start) ∧ w'.cell? ⟨w.heap.size + 1, 1, none⟩ = some (.int .i64 b.stop) ∧ w'.cell? ⟨w.heap.size + 1, 2, none⟩ = some (.slice d'.a0 b.steps.length d'.c0) ∧ w'.cell? ⟨w.heap.size + 1, 3, none⟩ = some (.slice d'.a1 b.lies.length d'.c1) ∧ w'.cell? ⟨w.heap.size + 1, 4, none⟩ = some (.slice d'.a2 b.crosses.length d'.c2) ∧ w'.cell? ⟨w.heap.size + 1, 5, none⟩ = some (.slice d'.a3 b.parts.length d'.c3) ∧ w'.cell? ⟨w.heap.size + 1, 6, none⟩ = some (.slice d'.a4 b.over.length d'.c4) ∧ w'.cell? ⟨w.heap.size + 1, 7, none⟩ = some (.slice d'.a5 b.flanks.length d'.c5)) (first | go_keep | (refine ⟨?_, ?_, ?_, ?_, ?_, ?_, ?_, ?_, ?_, ?_, ?_, ?_, ?_, ?_, ?_, ?_⟩ <;> assumption))
    (first
      | (go_at_call_of 46 (a.start); refine (claimOf_any d a W.drew (LA.out.below (Below.refl _ _).drew) hsa hwa).mono ?_; rintro e w1 ⟨da, rfl, hc1', _, hb1'⟩; have hc1 := hidP (hc1'.out.at hb1'); clear hc1'; have hb1 : Below W.heap.size W w1 := (Below.refl _ _).drew.trans hb1'; replace a0 := cell_later hb1 a0; replace a1 := cell_later hb1 a1; replace a2 := cell_later hb1 a2; replace a3 := cell_later hb1 a3; replace a4 := cell_later hb1 a4; replace a5 := cell_later hb1 a5; replace a6 := cell_later hb1 a6; replace a7 := cell_later hb1 a7; replace b0 := cell_later hb1 b0; replace b1 := cell_later hb1 b1; replace b2 := cell_later hb1 b2; replace b3 := cell_later hb1 b3; replace b4 := cell_later hb1 b4; replace b5 := cell_later hb1 b5; replace b6 := cell_later hb1 b6; replace b7 := cell_later hb1 b7; clear hb1'; unfold claimV)
      | (go_at_call_of 46 (b.start); refine (claimOf_any d' b w1 (LB.out.below hb1) hsb hwb).mono ?_; rintro e w2 ⟨db, rfl, hc2', _, hb2'⟩; have hc2 := hidP (hc2'.out.at hb2'); clear hc2'; have hb2 := hb1.trans (hb2'.mono hb1.size); have hc1' := hidP (hc1.out.below hb2'); replace a0 := cell_later hb2' a0; replace a1 := cell_later hb2' a1; replace a2 := cell_later hb2' a2; replace a3 := cell_later hb2' a3; replace a4 := cell_later hb2' a4; replace a5 := cell_later hb2' a5; replace a6 := cell_later hb2' a6; replace a7 := cell_later hb2' a7; replace b0 := cell_later hb2' b0; replace b1 := cell_later hb2' b1; replace b2 := cell_later hb2' b2; replace b3 := cell_later hb2' b3; replace b4 := cell_later hb2' b4; replace b5 := cell_later hb2' b5; replace b6 := cell_later hb2' b6; replace b7 := cell_later hb2' b7; clear hb2'; unfold claimV)
      | (go_at_call 48; refine (against_any da db (claimF a) (claimF b) w2 hc1' hc2).mono ?_; rintro e w3 ⟨rfl, hb3'⟩; have hb3 := hb2.trans (hb3'.mono hb2.size); replace a0 := cell_later hb3' a0; replace a1 := cell_later hb3' a1; replace a2 := cell_later hb3' a2; replace a3 := cell_later hb3' a3; replace a4 := cell_later hb3' a4; replace a5 := cell_later hb3' a5; replace a6 := cell_later hb3' a6; replace a7 := cell_later hb3' a7; replace b0 := cell_later hb3' b0; replace b1 := cell_later hb3' b1; replace b2 := cell_later hb3' b2; replace b3 := cell_later hb3' b3; replace b4 := cell_later hb3' b4; replace b5 := cell_later hb3' b5; replace b6 := cell_later hb3' b6; replace b7 := cell_later hb3' b7; clear hb3'))
  all_goals
    clear a0 a1 a2 a3 a4 a5 a6 a7 b0 b1 b2 b3 b4 b5 b6 b7
    have HX := hidP (exclC_eq a b)
    go_wp2_with fail
    go_ret
    exact ⟨ret_int HX.out, hbW.trans (hb3.mono hbW.size)⟩

end Go.Proofs.Ytmkdgnmmebldgaa

namespace Go.Proofs.Ytmkdgnmmebldgaa
open Go.RowKit Go.Deep

/-! A square table that is filled from both sides. -/

def rowsM (n : Nat) (M : Nat → Nat → Int) : List (List Int) := (List.range n).map fun p => (List.range n).map (M p)
def updM (M : Nat → Nat → Int) (i k : Nat) (v : Int) (p q : Nat) : Int := if p = i ∧ q = k then v else M p q
def cellM (f : Nat → Nat → Int) (i m p q : Nat) : Int := if (p < i ∧ q < i) ∨ (p = i ∧ q < m) ∨ (q = i ∧ p < m) then f p q else 0

theorem rowsM_len (n : Nat) (M : Nat → Nat → Int) : (rowsM n M).length = n := by simp [rowsM]
theorem rowsM_row (n : Nat) (M : Nat → Nat → Int) (p : Nat) (h : p < (rowsM n M).length) : (rowsM n M)[p] = (List.range n).map (M p) := by simp [rowsM]
theorem rowsM_congr {n : Nat} {M M' : Nat → Nat → Int} (h : ∀ p q, p < n → q < n → M p q = M' p q) : rowsM n M = rowsM n M' := by
  unfold rowsM
  apply List.map_congr_left
  intro p hp
  apply List.map_congr_left
  intro q hq
  exact h p q (List.mem_range.1 hp) (List.mem_range.1 hq)
theorem cellM_step {f : Nat → Nat → Int} (hf : ∀ p q, f p q = f q p) (i m : Nat) (p q : Nat) : updM (updM (cellM f i m) i m (f i m)) m i (f i m) p q = cellM f i (m + 1) p q := by
  unfold updM cellM
  by_cases h1 : p = m ∧ q = i
  · obtain ⟨rfl, rfl⟩ := h1
    rw [if_pos ⟨rfl, rfl⟩, if_pos (by omega), hf]
  · rw [if_neg h1]
    by_cases h2 : p = i ∧ q = m
    · obtain ⟨rfl, rfl⟩ := h2
      rw [if_pos ⟨rfl, rfl⟩, if_pos (by omega)]
    · rw [if_neg h2]
      by_cases h3 : (p < i ∧ q < i) ∨ (p = i ∧ q < m) ∨ (q = i ∧ p < m)
      · rw [if_pos h3, if_pos (by omega)]
      · rw [if_neg h3, if_neg (by omega)]
theorem cellM_next (f : Nat → Nat → Int) (i : Nat) (p q : Nat) : cellM f i (i + 1) p q = cellM f (i + 1) 0 p q := by
  unfold cellM
  by_cases h3 : (p < i ∧ q < i) ∨ (p = i ∧ q < i + 1) ∨ (q = i ∧ p < i + 1)
  · rw [if_pos h3, if_pos (by omega)]
  · rw [if_neg h3, if_neg (by omega)]
theorem cellM_zero (f : Nat → Nat → Int) (p q : Nat) : cellM f 0 0 p q = 0 := by
  unfold cellM
  rw [if_neg (by omega)]
theorem cellM_all (f : Nat → Nat → Int) (n p q : Nat) (hp : p < n) (hq : q < n) : cellM f n 0 p q = f p q := by
  unfold cellM
  rw [if_pos (by omega)]

theorem flatN_set (l : List Int) (k : Nat) (v : Int) : (flatN l).set k (.int .i64 v) = flatN (l.set k v) := by
  have h : ∀ l : List Int, flatN l = l.map (Value.int .i64) := by
    intro l
    induction l with
    | nil => rfl
    | cons x r ih => show encN x ++ flatN r = _; rw [ih]; rfl
  rw [h, h, List.map_set]
theorem range_set (n i k : Nat) (M : Nat → Nat → Int) (v : Int) : ((List.range n).map (M i)).set k v = (List.range n).map (updM M i k v i) := by
  apply List.ext_getElem
  · simp
  · intro q h1 h2
    simp only [List.length_set, List.length_map, List.length_range] at h1
    rw [List.getElem_set]
    unfold updM
    by_cases e : k = q
    · subst e; simp
    · have e' : ¬ q = k := fun h => e h.symm
      simp [e, e']

theorem RowsOwn.row {w : World} {B n : Nat} {cells : List Value} {M : Nat → Nat → Int} (h : RowsOwn w B cells (rowsM n M)) (hn : 0 < n) (i : Nat) (hi : i < n) :
    ∃ g cap, cells[i]? = some (.slice (some ⟨g, 0, none⟩) n cap) ∧ w.ownsRow B 3 1 (.slice (some ⟨g, 0, none⟩) n cap) n (flatN ((List.range n).map (M i))) := by
  obtain ⟨v, h1, h2⟩ := h.2 i (by rw [rowsM_len]; exact hi)
  rw [rowsM_row] at h2
  have hl : ((List.range n).map (M i)).length = n := by simp
  rw [hl] at h2
  rcases h2.2 with ⟨_, h0⟩ | ⟨g, cap, cur, hv, _⟩
  · omega
  · subst hv
    exact ⟨g, cap, h1, h2⟩

theorem RowsOwn.set {w : World} {B n : Nat} {cells : List Value} {M : Nat → Nat → Int} (h : RowsOwn w B cells (rowsM n M)) (hA : RowsApart cells) {i k g cap : Nat} (hi : i < n) (hc : cells[i]? = some (.slice (some ⟨g, 0, none⟩) n cap)) (v : Int) :
    RowsOwn (w.setCell ⟨g, k, none⟩ (.int .i64 v)) B cells (rowsM n (updM M i k v)) := by
  refine ⟨by rw [h.1, rowsM_len, rowsM_len], fun p hp => ?_⟩
  rw [rowsM_len] at hp
  obtain ⟨u, h1, h2⟩ := h.2 p (by rw [rowsM_len]; exact hp)
  refine ⟨u, h1, ?_⟩
  rw [rowsM_row] at h2 ⊢
  by_cases e : p = i
  · subst e
    rw [hc] at h1
    cases h1
    have hl : ((List.range n).map (M p)).length = n := by simp
    have hl2 : ((List.range n).map (updM M p k v p)).length = n := by simp
    rw [hl] at h2
    rw [hl2]
    have h3 := (h2.stored k (.int .i64 v)).1
    rw [flatN_set, range_set] at h3
    exact h3
  · have hM : (List.range n).map (updM M i k v p) = (List.range n).map (M p) := by
      apply List.map_congr_left
      intro q _
      unfold updM
      rw [if_neg (fun h => e h.1)]
    rw [hM]
    exact ownsRow_setCell_other h2 (fun hb => e (hA p i u _ g h1 hc hb rfl)) _

theorem flatN_zeros : ∀ n : Nat, flatN (List.replicate n 0) = List.replicate n (Value.int .i64 0)
  | 0 => rfl
  | n + 1 => by
    rw [List.replicate_succ, List.replicate_succ]
    show encN 0 ++ flatN _ = _
    rw [flatN_zeros n]
    rfl
theorem make_zero (w : World) (n : Nat) (hn : n ≤ 1048576) :
    ∃ w', (Instr.makeSlice 34 (.int .i64 (n : Int)) (.int .i64 (n : Int))).run Try.prog w = .ok (.slice (some ⟨w.heap.size, 0, none⟩) n n) w' ∧
      w'.ownsRow w.heap.size 3 1 (.slice (some ⟨w.heap.size, 0, none⟩) n n) n (flatN (List.replicate n 0)) ∧ Below w.heap.size w w' := by
  obtain ⟨i, hi1, hi2, hi3, hi4⟩ := info_parts Try.infoInt
  have hr := run_make (P := Try.prog) w 34 3 i _ Try.underlying34 hi1 hi2 .i64 .i64 n n (by omega) (by omega) (by rw [hi4]; omega) (by omega)
  simp only [Int.toNat_natCast] at hr
  rw [hi3, Nat.mul_one] at hr
  refine ⟨_, hr, ?_, (by repeat (first | exact Below.refl _ _ | assumption | refine Below.drew ?_ | refine bdrewN ?_ _ | refine Below.setCell ?_ (by first | omega | (simp; done) | (simp; omega)) _ | refine Below.alloc ?_ (by first | omega | (simp; done) | (simp; omega)) _))⟩
  have h := World.ownsRow_lit w (base := w.heap.size) (e := 3) (size := 1) (n := n) (cs := madeCells (Value.int .i64 0).cells n) (Nat.le_refl _) (by unfold maxLen; omega) (by rw [size_madeCells]; omega)
  rw [show (madeCells (Value.int IntKind.i64 0).cells n).toList = List.replicate n (Value.int .i64 0) from toList_madeCells_one _ _] at h
  rw [flatN_zeros]
  exact h
theorem rows_zero (n : Nat) (f : Nat → Nat → Int) : List.replicate n (List.replicate n 0) = rowsM n (cellM f 0 0) := by
  apply List.ext_getElem
  · simp [rowsM]
  · intro p h1 h2
    rw [rowsM_row, List.getElem_replicate]
    apply List.ext_getElem
    · simp
    · intro q h3 h4
      simp [cellM_zero]

/-! The claims of a list. -/

def ClaimsAt (w : World) (a : Option Addr) (cs : List MClaim) : Prop := cs.length ≤ maxLen ∧ (cs = [] ∨ ∃ b off, a = some ⟨b, off, none⟩ ∧ ∀ i (h : i < cs.length), ∃ d, ClaimCell w b (off + i * 12) d cs[i] ∧ ClaimAt w d cs[i])
theorem ClaimsAt.below {w w' : World} {a : Option Addr} {cs : List MClaim} (h : ClaimsAt w a cs) (hb : Below w.heap.size w w') : ClaimsAt w' a cs := by
  obtain ⟨h1, h3⟩ := h
  refine ⟨h1, ?_⟩
  rcases h3 with h3 | ⟨b, off, h3, h4⟩
  · exact Or.inl h3
  · exact Or.inr ⟨b, off, h3, fun i hi => by obtain ⟨d, h5, h6⟩ := h4 i hi; exact ⟨d, h5.below hb, h6.below hb⟩⟩
theorem exclC_symm (a b : MClaim) : exclC a b = exclC b a := by
  unfold exclC
  rw [touchL_symm a.parts, crossL_symm a.crosses, wantL_symm a.needs]
  simp only [Or.comm]
def exM (cs : List MClaim) (p q : Nat) : Int := match cs[p]?, cs[q]? with
  | some a, some b => exclC a b
  | _, _ => 0
theorem exM_at {cs : List MClaim} {p q : Nat} (hp : p < cs.length) (hq : q < cs.length) : exM cs p q = exclC cs[p] cs[q] := by
  unfold exM
  rw [List.getElem?_eq_getElem hp, List.getElem?_eq_getElem hq]
theorem exM_symm (cs : List MClaim) (p q : Nat) : exM cs p q = exM cs q p := by
  unfold exM
  cases cs[p]? <;> cases cs[q]? <;> simp [exclC_symm]
theorem table_rowsM (rs : List MRoute) : rowsM rs.length (exM (rs.map claimF)) = rs.map fun a => rs.map (exclF a) := by
  apply List.ext_getElem
  · simp [rowsM]
  · intro p h1 h2
    rw [rowsM_row]
    apply List.ext_getElem
    · simp
    · intro q h3 h4
      have hp : p < rs.length := by simpa using h2
      have hq : q < rs.length := by simpa using h3
      simp only [List.getElem_map, List.getElem_range]
      rw [exM_at (by simpa using hp) (by simpa using hq)]
      simp only [List.getElem_map]
      exact exclC_eq _ _

end Go.Proofs.Ytmkdgnmmebldgaa

namespace Go.Proofs.Ytmkdgnmmebldgaa
open Go.RowKit Go.Deep

set_option maxRecDepth 8000 in
set_option maxHeartbeats 8000000 in
theorem tableOf_any (a : Option Addr) (cap : Nat) (cs : List MClaim) (w : World) (ha : Hid (ClaimsAt w a cs)) (hcap : cs.length ≤ cap) (hn3 : cs.length ≤ 300) :
    Calls Try.prog 47 #[.slice a cs.length cap, fnV 48] w fun e w' => ∃ x y cells, e = .returned (.slice x cs.length y) ∧ Hid (w'.ownsRow w.heap.size 34 1 (.slice x cs.length y) cs.length cells) ∧ Hid (RowsOwn w' w.heap.size cells (rowsM cs.length (exM cs))) ∧ Hid (RowsApart cells) ∧ Below w.heap.size w w' := by
  unfold fnV
  go_enter Try.func47, Try.ntmps47
  go_wp2_with fail
  go_loopw [5, 13] (fun v i wr => ∃ (k : Nat) (x : Option Addr) (y : Nat) (cells : List Value), k ≤ cs.length ∧ i = .int .i64 k ∧ v = .slice x k y ∧ Hid (wr.ownsRow w.heap.size 34 1 (.slice x k y) k cells) ∧ Hid (RowsOwn wr w.heap.size cells (List.replicate k (List.replicate cs.length 0))) ∧ Hid (RowsApart cells) ∧ Below w.heap.size w wr) (fun _ i _ => cs.length - (intOf i).toNat)
  case atStart => exact ⟨0, none, 0, [], Nat.zero_le _, rfl, rfl, World.ownsRow_nil _ _ _ _, ⟨rfl, fun i h => absurd h (by simp)⟩, rowsApart_nil, Below.refl _ _⟩
  case round =>
    obtain ⟨k, x, y, cells, hk, rfl, rfl, ho, hR, hAp, hb⟩ := hrel
    have hbs := hb.size
    by_cases hk' : k < cs.length
    · obtain ⟨w1, hm, hrow, hb1⟩ := make_zero wr cs.length (by omega)
      have hz1 : wr.heap.size < w1.heap.size := (hrow.lt wr.heap.size rfl).2
      have hb2 := hb.trans (hb1.mono hb.size)
      have HO1 := hidP (owns_below ho.out hb1)
      have HR1 := hidP (hR.out.below hb1)
      have HNew : Hid (w1.ownsRow w.heap.size 3 1 (.slice (some ⟨wr.heap.size, 0, none⟩) cs.length cs.length) (List.replicate cs.length (0 : Int)).length (flatN (List.replicate cs.length 0))) := by rw [List.length_replicate]; exact owns_base hrow hbs
      have HAp := hidP (hAp.out.push hR.out (Nat.le_refl _) (r := .slice (some ⟨wr.heap.size, 0, none⟩) cs.length cs.length) (fun b hb => by cases hb; exact Nat.le_refl _))
      have HRS : Hid (List.replicate k (List.replicate cs.length (0 : Int)) ++ [List.replicate cs.length 0] = List.replicate (k + 1) (List.replicate cs.length 0)) := List.replicate_succ'.symm
      have hbs2 := hb2.size
      clear ho hR hAp hrow hb1 hb hbs
      go_wp2_with (at_builtin; refine wpList_push rfl (.tmp 15) (.tmp 19) 32 rfl w.heap.size 34 _ 1 24 Try.underlying32 Try.infoInts rfl (by decide) (.slice x k y) k cells rfl HO1.out w1.heap.size rfl [.slice (some ⟨wr.heap.size, 0, none⟩) cs.length cs.length] rfl rfl (by simp [Value.oneCell']) (by unfold maxLen; omega) (by omega) (by omega) ?_; intro x' y' w4 ho4 hg4; have hb6 := push_below hb2 HO1.out hg4 (by omega); have HO4 := hidP ho4; have HR4 := hidP (HR1.out.push HO1.out HNew.out hg4); clear ho4 hg4)
      go_roundw
      case rel => exact ⟨k + 1, x', y', _, by omega, by go_num, rfl, HO4, by rw [← HRS.out]; exact HR4, HAp, hb6⟩
      case measure => simp [intOf]; omega
    · have hkk : k = cs.length := by omega
      have HR2 : Hid (RowsOwn wr w.heap.size cells (rowsM cs.length (cellM (exM cs) 0 0))) := by have h := hR.out; rw [hkk, rows_zero cs.length (exM cs)] at h; exact h
      have HO2 : Hid (wr.ownsRow w.heap.size 34 1 (.slice x cs.length y) cs.length cells) := by have h := ho.out; rw [hkk] at h; exact h
      have HB := hidP hb
      rw [hkk]
      clear hR ho hk hk' hkk
      go_wp2_with fail
      clear hb hbs
      go_loopw [24] (fun i wr => ∃ (i' : Nat), i' ≤ cs.length ∧ i = .int .i64 i' ∧ Hid (wr.ownsRow w.heap.size 34 1 (.slice x cs.length y) cs.length cells) ∧ Hid (RowsOwn wr w.heap.size cells (rowsM cs.length (cellM (exM cs) i' 0))) ∧ Below w.heap.size w wr) (fun i _ => cs.length - (intOf i).toNat)
      case atStart => exact ⟨0, Nat.zero_le _, rfl, HO2, HR2, HB.out⟩
      case round =>
        clear HO2 HR2 HB
        obtain ⟨i, hi, rfl, ho, hR, hb⟩ := hrel
        have hbs := hb.size
        by_cases hi' : i < cs.length
        · obtain ⟨b1, off1, hba, hpc⟩ := ha.out.2.resolve_left (fun h => by rw [h] at hi'; exact absurd hi' (Nat.not_lt_zero _))
          subst hba
          have HPC := hidP hpc
          clear hpc
          obtain ⟨d1, q1, l1⟩ := HPC.out i hi'
          have Q1 := q1.below hb
          obtain ⟨c0, c1, c2, c3, c4, c5, c6, c7, c8, c9, c10, c11⟩ := Q1
          have HL1 := hidP l1
          clear q1 l1
          go_wp2_with fail
          generalize hW2 : wr.alloc _ = W2
          have HBox : Hid (ClaimCell W2 wr.heap.size 0 d1 cs[i]) := by rw [← hW2]; exact claimCell_box wr d1 cs[i] _
          have hbw2 : Below wr.heap.size wr W2 := by rw [← hW2]; exact (by repeat (first | exact Below.refl _ _ | assumption | refine Below.drew ?_ | refine bdrewN ?_ _ | refine Below.setCell ?_ (by first | omega | (simp; done) | (simp; omega)) _ | refine Below.alloc ?_ (by first | omega | (simp; done) | (simp; omega)) _))
          have HO2 := hidP (owns_below ho.out hbw2)
          have HR2 := hidP (hR.out.below hbw2)
          have hb2 := hb.trans (hbw2.mono hb.size)
          have HB2 := hidP hb2
          have HLt : Hid (∀ (p : Nat) (v : Value) (b : Nat), cells[p]? = some v → v.ownBlock = some b → b < wr.heap.size) := by
            intro p v b hv hvb
            have hp : p < cs.length := by
              have h1 := (List.getElem?_eq_some_iff.1 hv).1
              have h2 := hR.out.1
              rw [rowsM_len] at h2
              omega
            obtain ⟨u, h1, h2⟩ := hR.out.2 p (by rw [rowsM_len]; exact hp)
            rw [hv] at h1
            cases h1
            exact (h2.lt b hvb).2
          clear hW2 ho hR hb hbs hbw2 c0 c1 c2 c3 c4 c5 c6 c7 c8 c9 c10 c11 hb2
          generalize wr.heap.size = Bi at HBox HLt ⊢
          go_loopw [34] (fun j wr => ∃ (m : Nat), m ≤ i + 1 ∧ j = .int .i64 m ∧ Hid (wr.ownsRow w.heap.size 34 1 (.slice x cs.length y) cs.length cells) ∧ Hid (RowsOwn wr w.heap.size cells (rowsM cs.length (cellM (exM cs) i m))) ∧ Hid (ClaimCell wr Bi 0 d1 cs[i]) ∧ Below w.heap.size w wr) (fun j _ => i + 1 - (intOf j).toNat)
          case atStart => exact ⟨0, Nat.zero_le _, rfl, HO2, HR2, HBox, HB2.out⟩
          case round =>
            clear HO2 HR2 HBox HB2
            obtain ⟨m, hm, rfl, ho, hR, HBox, hb⟩ := hrel
            have hbs := hb.size
            by_cases hm' : m < i + 1
            · have hmc : m < cs.length := by omega
              obtain ⟨d2, q2, l2⟩ := HPC.out m hmc
              have Q2 := q2.below hb
              obtain ⟨c0, c1, c2, c3, c4, c5, c6, c7, c8, c9, c10, c11⟩ := Q2
              have HL2 := hidP l2
              have e0 : wr.cell? ⟨Bi, 0, none⟩ = some (.slice d1.pa cs[i].parts.length d1.pc) := HBox.out.k0
              have e1 : wr.cell? ⟨Bi, 1, none⟩ = some (.int .u64 d1.ps.a) := HBox.out.k1
              have e2 : wr.cell? ⟨Bi, 2, none⟩ = some (.int .u64 d1.ps.b) := HBox.out.k2
              have e3 : wr.cell? ⟨Bi, 3, none⟩ = some (.slice d1.oa cs[i].over.length d1.oc) := HBox.out.k3
              have e4 : wr.cell? ⟨Bi, 4, none⟩ = some (.int .u64 d1.os.a) := HBox.out.k4
              have e5 : wr.cell? ⟨Bi, 5, none⟩ = some (.int .u64 d1.os.b) := HBox.out.k5
              have e6 : wr.cell? ⟨Bi, 6, none⟩ = some (.slice d1.xa cs[i].crosses.length d1.xc) := HBox.out.k6
              have e7 : wr.cell? ⟨Bi, 7, none⟩ = some (.int .u64 d1.xs.a) := HBox.out.k7
              have e8 : wr.cell? ⟨Bi, 8, none⟩ = some (.int .u64 d1.xs.b) := HBox.out.k8
              have e9 : wr.cell? ⟨Bi, 9, none⟩ = some (.slice d1.na cs[i].needs.length d1.nc) := HBox.out.k9
              have e10 : wr.cell? ⟨Bi, 10, none⟩ = some (.int .u64 d1.ns.a) := HBox.out.k10
              have e11 : wr.cell? ⟨Bi, 11, none⟩ = some (.int .u64 d1.ns.b) := HBox.out.k11
              have hzB := HBox.out.lt
              clear q2 l2
              go_wp2_with fail
              generalize hW3 : wr.alloc _ = W3
              have hbw3 : Below wr.heap.size wr W3 := by rw [← hW3]; exact (by repeat (first | exact Below.refl _ _ | assumption | refine Below.drew ?_ | refine bdrewN ?_ _ | refine Below.setCell ?_ (by first | omega | (simp; done) | (simp; omega)) _ | refine Below.alloc ?_ (by first | omega | (simp; done) | (simp; omega)) _))
              clear hW3 c0 c1 c2 c3 c4 c5 c6 c7 c8 c9 c10 c11 e0 e1 e2 e3 e4 e5 e6 e7 e8 e9 e10 e11
              have hb3 := hb.trans (hbw3.mono hb.size)
              refine (against_any d1 d2 cs[i] cs[m] _ (HL1.out.below hb3) (HL2.out.below hb3)).mono ?_
              rintro e w4 ⟨rfl, hb4'⟩
              have hb34 := hbw3.trans (hb4'.mono hbw3.size)
              have HO4 := hidP (owns_below ho.out hb34)
              have HR4 := hidP (hR.out.below hb34)
              have HBox4 := hidP (HBox.out.below hb34)
              have hb4 := hb.trans (hb34.mono hb.size)
              have HV : Hid (exM cs i m = exclC cs[i] cs[m]) := exM_at hi' hmc
              generalize exclC cs[i] cs[m] = v at HV ⊢
              clear ho hR HBox hb hbs hbw3 hb4' hb34 hb3 hzB
              obtain ⟨gi, ci, hci, ri⟩ := HR4.out.row (by omega) i hi'
              obtain ⟨gm, cm, hcmm, rm⟩ := HR4.out.row (by omega) m hmc
              obtain ⟨gT, hxT⟩ : ∃ gT, x = some (⟨gT, 0, none⟩ : Addr) := by
                rcases HO4.out.2 with ⟨_, h0⟩ | ⟨g, cap', cur, h1, _⟩
                · omega
                · cases h1; exact ⟨g, rfl⟩
              subst hxT
              have tI : w4.cell? ⟨gT, i, none⟩ = some (.slice (some ⟨gi, 0, none⟩) cs.length ci) := (HO4.out.cellAt i (by omega)).trans hci
              have tM : w4.cell? ⟨gT, m, none⟩ = some (.slice (some ⟨gm, 0, none⟩) cs.length cm) := (HO4.out.cellAt m (by omega)).trans hcmm
              have uI : ∃ u, w4.cell? ⟨gi, m, none⟩ = some u := by
                rw [ri.cellAt m (by omega)]
                exact ⟨_, List.getElem?_eq_getElem (by rw [flatN_len]; simp; omega)⟩
              have uM : ∃ u, w4.cell? ⟨gm, i, none⟩ = some u := by
                rw [rm.cellAt i (by omega)]
                exact ⟨_, List.getElem?_eq_getElem (by rw [flatN_len]; simp; omega)⟩
              obtain ⟨uI, huI⟩ := uI
              obtain ⟨uM, huM⟩ := uM
              have fI := ri.frozenAt m
              have fM := rm.frozenAt i
              have hzT := cellLt tI
              have hzI := cellLt huI
              have hzM := cellLt huM
              dsimp only at hzT hzI hzM
              have HStep : Hid (RowsOwn ((w4.setCell ⟨gi, m, none⟩ (.int .i64 v)).setCell ⟨gm, i, none⟩ (.int .i64 v)) w.heap.size cells (rowsM cs.length (cellM (exM cs) i (m + 1)))) := by
                have h := (HR4.out.set hAp.out hi' hci v (k := m)).set hAp.out hmc hcmm v (k := i)
                rw [rowsM_congr (M' := cellM (exM cs) i (m + 1)) (fun p q _ _ => by rw [← HV.out]; exact cellM_step (exM_symm cs) i m p q)] at h
                exact h
              have hgI : gi ≠ gT := by
                have h := owns_ne (by decide) ri HO4.out
                simp only [Value.ownBlock] at h
                rcases h with h | h
                · cases h
                · exact fun e => h (by rw [e])
              have hgM : gm ≠ gT := by
                have h := owns_ne (by decide) rm HO4.out
                simp only [Value.ownBlock] at h
                rcases h with h | h
                · cases h
                · exact fun e => h (by rw [e])
              have hgI1 : gi < Bi := HLt.out i _ gi hci rfl
              have hgM1 : gm < Bi := HLt.out m _ gm hcmm rfl
              have hgI0 : w.heap.size ≤ gi := (ri.lt gi rfl).1
              have hgM0 : w.heap.size ≤ gm := (rm.lt gm rfl).1
              have HNext : Hid (((w4.setCell ⟨gi, m, none⟩ (.int .i64 v)).setCell ⟨gm, i, none⟩ (.int .i64 v)).ownsRow w.heap.size 34 1 (.slice (some ⟨gT, 0, none⟩) cs.length y) cs.length cells) := ownsRow_setCell_other (ownsRow_setCell_other HO4.out (a := ⟨gi, m, none⟩) (by simp only [Value.ownBlock]; intro e; cases e; exact hgI rfl) _) (a := ⟨gm, i, none⟩) (by simp only [Value.ownBlock]; intro e; cases e; exact hgM rfl) _
              have HBoxN : Hid (ClaimCell ((w4.setCell ⟨gi, m, none⟩ (.int .i64 v)).setCell ⟨gm, i, none⟩ (.int .i64 v)) Bi 0 d1 cs[i]) := HBox4.out.kept (by rw [Below.heap_setCell _ _ _ _ (by simp only [ne_eq]; omega), Below.heap_setCell _ _ _ _ (by simp only [ne_eq]; omega)])
              have hbN : Below w.heap.size w ((w4.setCell ⟨gi, m, none⟩ (.int .i64 v)).setCell ⟨gm, i, none⟩ (.int .i64 v)) := (hb4.setCell (p := ⟨gi, m, none⟩) hgI0 _).setCell (p := ⟨gm, i, none⟩) hgM0 _
              have HBN := hidP hbN
              clear HO4 HR4 HBox4 ri rm hgI1 hgM1 hbN
              by_cases him : m = i
              · subst him
                rw [hci] at hcmm
                cases hcmm
                clear hci
                go_wp2_with fail
                go_region
                all_goals
                  go_wp2_with fail
                  go_roundw
                  case rel => exact ⟨m + 1, by omega, by go_num, HNext, HStep, HBoxN.out.kept rfl, HBN.out.drew⟩
                  case measure => first | (simp [intOf]; done) | (simp [intOf]; omega)
              · have hgg : gi ≠ gm := fun e => him (hAp.out m i _ _ gm hcmm hci rfl (congrArg some e))
                clear hci hcmm
                go_wp2_with fail
                go_region
                all_goals
                  go_wp2_with fail
                  go_roundw
                  case rel => exact ⟨m + 1, by omega, by go_num, HNext, HStep, HBoxN.out.kept rfl, HBN.out.drew⟩
                  case measure => first | (simp [intOf]; done) | (simp [intOf]; omega)
            · have HR5 : Hid (RowsOwn wr w.heap.size cells (rowsM cs.length (cellM (exM cs) (i + 1) 0))) := by
                have h := hR.out
                have e : m = i + 1 := by omega
                rw [e, rowsM_congr (M' := cellM (exM cs) (i + 1) 0) (fun p q _ _ => cellM_next (exM cs) i p q)] at h
                exact h
              clear hR HBox
              go_wp2_with fail
              go_roundw
              case rel => exact ⟨i + 1, by omega, by go_num, ho, HR5, hb⟩
              case measure => simp [intOf]; omega
        · have HT : Hid (RowsOwn wr w.heap.size cells (rowsM cs.length (exM cs))) := by
            have h := hR.out
            have e : i = cs.length := by omega
            rw [e, rowsM_congr (fun p q hp hq => cellM_all (exM cs) cs.length p q hp hq)] at h
            exact h
          clear hR
          go_wp2_with fail
          go_ret
          exact ⟨x, y, cells, rfl, ho, HT, hAp, hb⟩

end Go.Proofs.Ytmkdgnmmebldgaa

namespace Go.Proofs.Ytmkdgnmmebldgaa
open Go.RowKit Go.Deep

theorem Try.infoClaim : (Try.prog.info? 116).map (fun i => (i.zero, i.size, i.bytes)) = some (some (.agg #[.slice none 0 0, .int .u64 0, .int .u64 0, .slice none 0 0, .int .u64 0, .int .u64 0, .slice none 0 0, .int .u64 0, .int .u64 0, .slice none 0 0, .int .u64 0, .int .u64 0]), 12, 160) := by kernel_rfl
def encC (p : CAddr × MClaim) : List Value :=
  [.slice p.1.pa p.2.parts.length p.1.pc, .int .u64 p.1.ps.a, .int .u64 p.1.ps.b, .slice p.1.oa p.2.over.length p.1.oc, .int .u64 p.1.os.a, .int .u64 p.1.os.b,
    .slice p.1.xa p.2.crosses.length p.1.xc, .int .u64 p.1.xs.a, .int .u64 p.1.xs.b, .slice p.1.na p.2.needs.length p.1.nc, .int .u64 p.1.ns.a, .int .u64 p.1.ns.b]
def flatC (ps : List (CAddr × MClaim)) : List Value := ps.flatMap encC
theorem flatC_snoc (ps : List (CAddr × MClaim)) (p : CAddr × MClaim) : flatC (ps ++ [p]) = flatC ps ++ encC p := by simp [flatC]
/-- The claims in a row of one's own. -/
theorem claimsAt_of {w : World} {B : Nat} {x : Option Addr} {y n : Nat} {ps : List (CAddr × MClaim)} {cs : List MClaim} (ho : w.ownsRow B 116 12 (.slice x n y) n (flatC ps)) (hn : ps.length = n) (hc : ps.map (·.2) = cs) (hm : n ≤ maxLen) (hp : ∀ p ∈ ps, ClaimAt w p.1 p.2) : ClaimsAt w x cs ∧ n ≤ y := by
  have hl : cs.length = n := by rw [← hc, List.length_map, hn]
  rcases ho.2 with ⟨h1, h2⟩ | ⟨g, cap, cur, h1, _, _, h4, _⟩
  · refine ⟨⟨by rw [hl]; exact hm, Or.inl (List.eq_nil_of_length_eq_zero (by omega))⟩, by omega⟩
  · cases h1
    refine ⟨⟨by rw [hl]; exact hm, Or.inr ⟨g, 0, rfl, fun i hi => ?_⟩⟩, h4⟩
    have hi2 : i < ps.length := by omega
    have hcs : cs[i] = ps[i].2 := by simp [← hc]
    refine ⟨ps[i].1, ?_, by rw [hcs]; exact hp _ (List.getElem_mem hi2)⟩
    rw [hcs]
    have key : ∀ j, j < 12 → w.cell? ⟨g, i * 12 + j, none⟩ = (encC ps[i])[j]? := by
      intro j hj
      rw [ho.cellAt (i * 12 + j) (by omega)]
      exact flat_get encC 12 (fun _ => rfl) ps i j hi2 hj
    simp only [Nat.zero_add]
    exact ⟨key 0 (by omega), key 1 (by omega), key 2 (by omega), key 3 (by omega), key 4 (by omega), key 5 (by omega), key 6 (by omega), key 7 (by omega), key 8 (by omega), key 9 (by omega), key 10 (by omega), key 11 (by omega)⟩

theorem RowsOwn.base {w : World} {B B' : Nat} {cells : List Value} {tt : List (List Int)} (h : RowsOwn w B cells tt) (hB : B' ≤ B) : RowsOwn w B' cells tt := by
  refine ⟨h.1, fun i hi => ?_⟩
  obtain ⟨v, h1, h2⟩ := h.2 i hi
  exact ⟨v, h1, owns_base h2 hB⟩

set_option maxRecDepth 8000 in
set_option maxHeartbeats 4000000 in
theorem implTable_any (a : Option Addr) (cap : Nat) (rs : List MRoute) (w : World) (hr : Hid (RoutesAt w a rs)) (hs : Hid (ShortRs rs)) (hwf : Hid (WfRs rs)) :
    Calls Try.prog 11 #[.slice a rs.length cap] w fun e w' => ∃ x y cells, e = .returned (.slice x (tableF rs).length y) ∧ w'.ownsRow w.heap.size 34 1 (.slice x (tableF rs).length y) (tableF rs).length cells ∧ RowsOwn w' w.heap.size cells (tableF rs) ∧ RowsApart cells ∧ Below w.heap.size w w' := by
  have hl := hr.out.1
  unfold maxLen at hl
  by_cases h3 : 300 < rs.length
  · have HE : Hid (tableF rs = []) := by unfold Hid tableF; rw [if_pos h3]
    rw [HE.out]
    go_enter Try.func11, Try.ntmps11
    go_wp2_with fail
    go_ret
    exact ⟨none, 0, [], rfl, World.ownsRow_nil _ _ _ _, ⟨rfl, fun i h => absurd h (by simp)⟩, rowsApart_nil, Below.refl _ _⟩
  have HE : Hid (tableF rs = rowsM rs.length (exM (rs.map claimF))) := by unfold Hid tableF; rw [if_neg h3, table_rowsM]
  rw [HE.out]
  have h3' : rs.length ≤ 300 := by omega
  have HLn : Hid ((rowsM rs.length (exM (rs.map claimF))).length = rs.length) := rowsM_len _ _
  rw [HLn.out]
  clear h3 HE HLn
  go_enter Try.func11, Try.ntmps11
  go_wp2_with fail
  go_loopw [3, 11] (fun v i wr => ∃ (k : Nat) (x : Option Addr) (y : Nat) (ps : List (CAddr × MClaim)), k ≤ rs.length ∧ i = .int .i64 k ∧ v = .slice x k y ∧ Hid (wr.ownsRow w.heap.size 116 12 (.slice x k y) k (flatC ps)) ∧ Hid (ps.length = k ∧ ps.map (·.2) = (rs.take k).map claimF ∧ ∀ p ∈ ps, ClaimOwn w wr p.1 p.2) ∧ Below w.heap.size w wr) (fun _ i _ => rs.length - (intOf i).toNat)
  case atStart => exact ⟨0, none, 0, [], Nat.zero_le _, rfl, rfl, World.ownsRow_nil _ _ _ _, ⟨rfl, rfl, fun p h => absurd h (by simp)⟩, Below.refl _ _⟩
  case round =>
    obtain ⟨k, x, y, ps, hk, rfl, rfl, ho, hP, hb⟩ := hrel
    have hbs := hb.size
    by_cases hk' : k < rs.length
    · obtain ⟨b1, off1, rfl, hpc⟩ := hr.out.2.resolve_left (fun h => by rw [h] at hk'; exact absurd hk' (Nat.not_lt_zero _))
      obtain ⟨d1, q1, l1⟩ := hpc k hk'
      obtain ⟨c0, c1, c2, c3, c4, c5, c6, c7⟩ := q1.below hb
      have L1 := hidP l1
      clear hpc l1 q1
      have HS1 := hidP (hs.out _ (List.getElem_mem hk'))
      have HW1 := hidP (hwf.out k hk')
      go_wp2_with fail
      generalize hW : wr.alloc _ = W
      have hbW : Below wr.heap.size wr W := by rw [← hW]; exact (by repeat (first | exact Below.refl _ _ | assumption | refine Below.drew ?_ | refine bdrewN ?_ _ | refine Below.setCell ?_ (by first | omega | (simp; done) | (simp; omega)) _ | refine Below.alloc ?_ (by first | omega | (simp; done) | (simp; omega)) _))
      clear hW c0 c1 c2 c3 c4 c5 c6 c7
      refine (claimOf_any d1 rs[k] W (L1.out.below (hb.trans (hbW.mono hb.size))) HS1 HW1).mono ?_
      rintro e w2 ⟨dc, rfl, hc2, hdc, hb2'⟩
      have hb2 := hbW.trans (hb2'.mono hbW.size)
      have HO2 := hidP (owns_below ho.out hb2)
      have hb3 := hb.trans (hb2.mono hb.size)
      have hbs3 := hb3.size
      have HP2 : Hid (∀ p ∈ ps ++ [(dc, claimF rs[k])], ClaimOwn w w2 p.1 p.2) := fun p hp => by
        rcases List.mem_append.1 hp with h | h
        · exact (hP.out.2.2 p h).below hb2
        · rw [List.mem_singleton.1 h]
          obtain ⟨e1, e2, e3⟩ := hdc.out
          exact hc2.out.base (by show PartsAt w dc.pa _; rw [e1]; exact L1.out.parts) (by show PartsAt w dc.oa _; rw [e2]; exact L1.out.over) (by show NumsAt w dc.xa _; rw [e3]; exact L1.out.crosses)
      have HPl := hidP hP.out.1
      have HPm := hidP hP.out.2.1
      have HFl : Hid (flatC ps ++ encC (dc, claimF rs[k]) = flatC (ps ++ [(dc, claimF rs[k])])) := (flatC_snoc _ _).symm
      clear ho hP hb hbs hb2 hb2' hbW
      unfold claimV
      go_wp2_with (at_builtin; refine wpList_push rfl (.tmp 15) (.tmp 18) 106 rfl w.heap.size 116 _ 12 160 Try.underlying106 Try.infoClaim rfl (by decide) (.slice x k y) k (flatC ps) rfl HO2.out w2.heap.size rfl (encC (dc, claimF rs[k])) rfl rfl (by simp [encC, Value.oneCell']) (by unfold maxLen; omega) (by omega) (by omega) ?_; intro x' y' w4 ho4 hg4; have hb6 := push_below hb3 HO2.out hg4 (by omega); have HP4 : Hid (∀ p ∈ ps ++ [(dc, claimF rs[k])], ClaimOwn w w4 p.1 p.2) := (fun p hp => (HP2.out p hp).grown HO2.out (by decide) hg4); rw [HFl.out] at ho4; have HO4 := hidP ho4; clear ho4 hg4)
      go_roundw
      case rel => exact ⟨k + 1, x', y', ps ++ [(dc, claimF rs[k])], by omega, by go_num, rfl, HO4, ⟨by rw [List.length_append, HPl.out]; rfl, by rw [List.map_append, HPm.out, List.take_succ_eq_append_getElem hk', List.map_append]; rfl, HP4.out⟩, hb6⟩
      case measure => simp [intOf]; omega
    · have hkk : k = rs.length := by omega
      have HT : Hid (rs.take k = rs) := List.take_of_length_le (by omega)
      obtain ⟨hC, hy⟩ := claimsAt_of ho.out hP.out.1 (hP.out.2.1.trans (by rw [HT.out])) (by unfold maxLen; omega) (fun p hp => (hP.out.2.2 p hp).at hb)
      have HC := hidP hC
      clear ho hP hC HT
      subst hkk
      go_wp2_with fail
      have T := tableOf_any x y (rs.map claimF) wr HC (by rw [List.length_map]; exact hy) (by rw [List.length_map]; exact h3')
      simp only [List.length_map] at T
      refine T.mono ?_
      rintro e w5 ⟨x5, y5, cells, rfl, HO5, HR5, HA5, hb5⟩
      clear T
      go_wp2_with fail
      go_ret
      exact ⟨x5, y5, cells, rfl, owns_base HO5.out hbs, HR5.out.base hbs, HA5.out, hb.trans (hb5.mono hbs)⟩

end Go.Proofs.Ytmkdgnmmebldgaa
