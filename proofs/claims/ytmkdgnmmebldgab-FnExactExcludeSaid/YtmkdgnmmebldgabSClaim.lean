import Derived.Test.YtmkdgnmmebldgabSAny
import Derived.Test.YtmkdgnmmebldgabSNeeds
import Derived.Test.YtmkdgnmmebldgabTExcl
namespace Go.Proofs.Ytmkdgnmmebldgab
open Go.RowKit Go.Deep

/-- What a route takes for itself, and where its lists lie. -/
structure MClaim where
  parts : List MPart
  over : List MPart
  crosses : List Int
  needs : List MEnd
structure CAddr where
  pa : Option Addr
  pc : Nat
  ps : MSet
  oa : Option Addr
  oc : Nat
  os : MSet
  xa : Option Addr
  xc : Nat
  xs : MSet
  na : Option Addr
  nc : Nat
  ns : MSet
def claimF (r : MRoute) : MClaim := ⟨r.parts, r.over, r.crosses, needsF r.lies r.flanks⟩
def claimV (d : CAddr) (c : MClaim) : Value :=
  .agg #[.slice d.pa c.parts.length d.pc, .int .u64 d.ps.a, .int .u64 d.ps.b, .slice d.oa c.over.length d.oc, .int .u64 d.os.a, .int .u64 d.os.b,
    .slice d.xa c.crosses.length d.xc, .int .u64 d.xs.a, .int .u64 d.xs.b, .slice d.na c.needs.length d.nc, .int .u64 d.ns.a, .int .u64 d.ns.b]
structure ClaimAt (w : World) (d : CAddr) (c : MClaim) : Prop where
  parts : PartsAt w d.pa c.parts
  over : PartsAt w d.oa c.over
  crosses : NumsAt w d.xa c.crosses
  needs : EndsAt w d.na c.needs
  kp : d.ps = keysF (c.parts.map MPart.piece)
  ko : d.os = keysF (c.over.map MPart.piece)
  kx : d.xs = keysF (c.crosses.map id)
  kn : d.ns = keysF (c.needs.map MEnd.piece)
theorem ClaimAt.below {w w' : World} {d : CAddr} {c : MClaim} (h : ClaimAt w d c) (hb : Below w.heap.size w w') : ClaimAt w' d c :=
  ⟨h.parts.below hb, h.over.below hb, h.crosses.below hb, h.needs.below hb, h.kp, h.ko, h.kx, h.kn⟩
/-- The same, its needs in a row of one's own; the other lists lie as they lay in an elder world. -/
structure ClaimOwn (w wr : World) (d : CAddr) (c : MClaim) : Prop where
  parts : PartsAt w d.pa c.parts
  over : PartsAt w d.oa c.over
  crosses : NumsAt w d.xa c.crosses
  needs : ∃ B, wr.ownsRow B 59 2 (.slice d.na c.needs.length d.nc) c.needs.length (flatE c.needs)
  short : c.needs.length ≤ maxLen
  kp : d.ps = keysF (c.parts.map MPart.piece)
  ko : d.os = keysF (c.over.map MPart.piece)
  kx : d.xs = keysF (c.crosses.map id)
  kn : d.ns = keysF (c.needs.map MEnd.piece)
theorem ClaimOwn.at {w wr : World} {d : CAddr} {c : MClaim} (h : ClaimOwn w wr d c) (hb : Below w.heap.size w wr) : ClaimAt wr d c := by
  obtain ⟨B, ho⟩ := h.needs
  obtain ⟨xa, ya, hxy, he, _, _⟩ := ownE ho h.short
  cases hxy
  exact ⟨h.parts.below hb, h.over.below hb, h.crosses.below hb, he, h.kp, h.ko, h.kx, h.kn⟩
theorem owns_kept {w w' : World} {B e s n : Nat} {v : Value} {xs : List Value} (h : w.ownsRow B e s v n xs) (hk : ∀ b, v.ownBlock = some b → w'.heap[b]? = w.heap[b]?) : w'.ownsRow B e s v n xs := by
  refine ⟨h.1, ?_⟩
  rcases h.2 with h2 | ⟨g, cap, cur, h1, h2, h3, h4⟩
  · exact Or.inl h2
  · exact Or.inr ⟨g, cap, cur, h1, h2, (hk g (by rw [h1]; rfl)).trans h3, h4⟩
theorem ClaimOwn.below {w wr wr' : World} {d : CAddr} {c : MClaim} (h : ClaimOwn w wr d c) (hb : Below wr.heap.size wr wr') : ClaimOwn w wr' d c := by
  obtain ⟨B, ho⟩ := h.needs
  exact ⟨h.parts, h.over, h.crosses, ⟨B, owns_below ho hb⟩, h.short, h.kp, h.ko, h.kx, h.kn⟩
theorem ClaimOwn.grown {w wr wr' : World} {d : CAddr} {c : MClaim} {B e s n : Nat} {v : Value} {xs : List Value} (h : ClaimOwn w wr d c) (hv : wr.ownsRow B e s v n xs) (he : 59 ≠ e) (hg : wr.grownBy wr' v.ownBlock) : ClaimOwn w wr' d c := by
  obtain ⟨B', ho⟩ := h.needs
  exact ⟨h.parts, h.over, h.crosses, ⟨B', ho.kept hg (owns_ne he ho hv)⟩, h.short, h.kp, h.ko, h.kx, h.kn⟩
theorem ClaimOwn.base {w0 w wr : World} {d : CAddr} {c : MClaim} (h : ClaimOwn w wr d c) (hp : PartsAt w0 d.pa c.parts) (ho : PartsAt w0 d.oa c.over) (hx : NumsAt w0 d.xa c.crosses) : ClaimOwn w0 wr d c := ⟨hp, ho, hx, h.needs, h.short, h.kp, h.ko, h.kx, h.kn⟩
/-- The twelve cells of a claim. -/
structure ClaimCell (w : World) (b o : Nat) (d : CAddr) (c : MClaim) : Prop where
  k0 : w.cell? ⟨b, o, none⟩ = some (.slice d.pa c.parts.length d.pc)
  k1 : w.cell? ⟨b, o + 1, none⟩ = some (.int .u64 d.ps.a)
  k2 : w.cell? ⟨b, o + 2, none⟩ = some (.int .u64 d.ps.b)
  k3 : w.cell? ⟨b, o + 3, none⟩ = some (.slice d.oa c.over.length d.oc)
  k4 : w.cell? ⟨b, o + 4, none⟩ = some (.int .u64 d.os.a)
  k5 : w.cell? ⟨b, o + 5, none⟩ = some (.int .u64 d.os.b)
  k6 : w.cell? ⟨b, o + 6, none⟩ = some (.slice d.xa c.crosses.length d.xc)
  k7 : w.cell? ⟨b, o + 7, none⟩ = some (.int .u64 d.xs.a)
  k8 : w.cell? ⟨b, o + 8, none⟩ = some (.int .u64 d.xs.b)
  k9 : w.cell? ⟨b, o + 9, none⟩ = some (.slice d.na c.needs.length d.nc)
  k10 : w.cell? ⟨b, o + 10, none⟩ = some (.int .u64 d.ns.a)
  k11 : w.cell? ⟨b, o + 11, none⟩ = some (.int .u64 d.ns.b)
theorem ClaimCell.kept {w w' : World} {b o : Nat} {d : CAddr} {c : MClaim} (h : ClaimCell w b o d c) (e : w'.heap[b]? = w.heap[b]?) : ClaimCell w' b o d c :=
  ⟨(World.cell?_of_block (w := w) e).trans h.k0, (World.cell?_of_block (w := w) e).trans h.k1, (World.cell?_of_block (w := w) e).trans h.k2, (World.cell?_of_block (w := w) e).trans h.k3,
   (World.cell?_of_block (w := w) e).trans h.k4, (World.cell?_of_block (w := w) e).trans h.k5, (World.cell?_of_block (w := w) e).trans h.k6, (World.cell?_of_block (w := w) e).trans h.k7,
   (World.cell?_of_block (w := w) e).trans h.k8, (World.cell?_of_block (w := w) e).trans h.k9, (World.cell?_of_block (w := w) e).trans h.k10, (World.cell?_of_block (w := w) e).trans h.k11⟩
theorem ClaimCell.lt {w : World} {b o : Nat} {d : CAddr} {c : MClaim} (h : ClaimCell w b o d c) : b < w.heap.size := cellLt h.k0
theorem ClaimCell.below {w w' : World} {b o : Nat} {d : CAddr} {c : MClaim} (h : ClaimCell w b o d c) (hb : Below w.heap.size w w') : ClaimCell w' b o d c := h.kept (hb.block b h.lt)
theorem claimCell_box (w : World) (d : CAddr) (c : MClaim) (T : TypeId) : ClaimCell (w.alloc (.cells #[.slice d.pa c.parts.length d.pc, .int .u64 d.ps.a, .int .u64 d.ps.b, .slice d.oa c.over.length d.oc, .int .u64 d.os.a, .int .u64 d.os.b,
    .slice d.xa c.crosses.length d.xc, .int .u64 d.xs.a, .int .u64 d.xs.b, .slice d.na c.needs.length d.nc, .int .u64 d.ns.a, .int .u64 d.ns.b] T)) w.heap.size 0 d c := by
  constructor <;> simp [go_sem]
theorem claimCell_box1 {w W : World} {o : Obj} (hW : W = w.alloc o) (d : CAddr) (c : MClaim) (T : TypeId) : ClaimCell (W.alloc (.cells #[.slice d.pa c.parts.length d.pc, .int .u64 d.ps.a, .int .u64 d.ps.b, .slice d.oa c.over.length d.oc, .int .u64 d.os.a, .int .u64 d.os.b,
    .slice d.xa c.crosses.length d.xc, .int .u64 d.xs.a, .int .u64 d.xs.b, .slice d.na c.needs.length d.nc, .int .u64 d.ns.a, .int .u64 d.ns.b] T)) (w.heap.size + 1) 0 d c := by
  have h := claimCell_box W d c T
  rw [show W.heap.size = w.heap.size + 1 by rw [hW]; simp] at h
  exact h

def exclC (a b : MClaim) : Int :=
  if touchL a.parts b.parts = true then 1
  else if crossL a.crosses b.crosses = true then 2
  else if wantL a.needs b.needs = true then 3
  else if touchL a.over b.parts = true ∨ touchL b.over a.parts = true then 4
  else 0
theorem exclC_eq (a b : MRoute) : exclC (claimF a) (claimF b) = exclF a b := by
  unfold exclC exclF claimF
  rw [touchL_symm b.over]
theorem exclC_1 {a b : MClaim} (h : touchL a.parts b.parts = true) : exclC a b = 1 := by unfold exclC; rw [if_pos h]
theorem exclC_2 {a b : MClaim} (h1 : touchL a.parts b.parts = false) (h : crossL a.crosses b.crosses = true) : exclC a b = 2 := by unfold exclC; rw [if_neg (by simp [h1]), if_pos h]
theorem exclC_3 {a b : MClaim} (h1 : touchL a.parts b.parts = false) (h2 : crossL a.crosses b.crosses = false) (h : wantL a.needs b.needs = true) : exclC a b = 3 := by unfold exclC; rw [if_neg (by simp [h1]), if_neg (by simp [h2]), if_pos h]
theorem exclC_4 {a b : MClaim} (h1 : touchL a.parts b.parts = false) (h2 : crossL a.crosses b.crosses = false) (h3 : wantL a.needs b.needs = false) (h : touchL a.over b.parts = true ∨ touchL b.over a.parts = true) : exclC a b = 4 := by unfold exclC; rw [if_neg (by simp [h1]), if_neg (by simp [h2]), if_neg (by simp [h3]), if_pos h]
theorem exclC_0 {a b : MClaim} (h1 : touchL a.parts b.parts = false) (h2 : crossL a.crosses b.crosses = false) (h3 : wantL a.needs b.needs = false) (h4 : touchL a.over b.parts = false) (h5 : touchL b.over a.parts = false) : exclC a b = 0 := by unfold exclC; rw [if_neg (by simp [h1]), if_neg (by simp [h2]), if_neg (by simp [h3]), if_neg (by simp [h4, h5])]

set_option maxRecDepth 8000 in
set_option maxHeartbeats 4000000 in
theorem against_any (d d' : CAddr) (a b : MClaim) (w : World) (ha : Hid (ClaimAt w d a)) (hb : Hid (ClaimAt w d' b)) :
    Calls Try.prog 32 #[claimV d a, claimV d' b] w fun e w' => e = .returned (.int .i64 (exclC a b)) ∧ Below w.heap.size w w' := by
  unfold claimV
  go_enter Try.func32, Try.ntmps32
  go_wp2_with fail
  generalize hW : (w.alloc _).alloc _ = W
  have HA : Hid (ClaimCell W w.heap.size 0 d a) := by rw [← hW]; exact (claimCell_box w d a _).below (by repeat (first | exact Below.refl _ _ | assumption | refine Below.drew ?_ | refine bdrewN ?_ _ | refine Below.setCell ?_ (by first | omega | (simp; done) | (simp; omega)) _ | refine Below.alloc ?_ (by first | omega | (simp; done) | (simp; omega)) _))
  have HB : Hid (ClaimCell W (w.heap.size + 1) 0 d' b) := by rw [← hW]; exact claimCell_box1 rfl d' b _
  have hbW : Below w.heap.size w W := by rw [← hW]; exact (by repeat (first | exact Below.refl _ _ | assumption | refine Below.drew ?_ | refine bdrewN ?_ _ | refine Below.setCell ?_ (by first | omega | (simp; done) | (simp; omega)) _ | refine Below.alloc ?_ (by first | omega | (simp; done) | (simp; omega)) _))
  have hz : w.heap.size + 1 < W.heap.size := by rw [← hW]; simp
  have LA := hidP (ha.out.below hbW)
  have LB := hidP (hb.out.below hbW)
  clear hW ha hb
  refine (anyTwoP_any _ _ _ _ a.parts b.parts d.ps d'.ps LA.out.kp LB.out.kp _ LA.out.parts LB.out.parts).mono ?_
  rintro e w1 ⟨rfl, hb1⟩
  have hz1 : w.heap.size + 1 < w1.heap.size := Nat.lt_of_lt_of_le hz hb1.size
  have hz1' : w.heap.size < w1.heap.size := by omega
  cases t1 : touchL a.parts b.parts
  rotate_left
  · have HX := hidP (exclC_1 t1)
    clear t1
    go_wp2_with fail
    go_ret
    exact ⟨ret_int HX.out.symm, hbW.trans (hb1.mono hbW.size)⟩
  have T1 := hidP t1
  clear t1
  have x6 : w1.cell? ⟨w.heap.size, 6, none⟩ = some (.slice d.xa a.crosses.length d.xc) := (HA.out.below hb1).k6
  have x7 : w1.cell? ⟨w.heap.size, 7, none⟩ = some (.int .u64 d.xs.a) := (HA.out.below hb1).k7
  have x8 : w1.cell? ⟨w.heap.size, 8, none⟩ = some (.int .u64 d.xs.b) := (HA.out.below hb1).k8
  have y6 : w1.cell? ⟨w.heap.size + 1, 6, none⟩ = some (.slice d'.xa b.crosses.length d'.xc) := (HB.out.below hb1).k6
  have y7 : w1.cell? ⟨w.heap.size + 1, 7, none⟩ = some (.int .u64 d'.xs.a) := (HB.out.below hb1).k7
  have y8 : w1.cell? ⟨w.heap.size + 1, 8, none⟩ = some (.int .u64 d'.xs.b) := (HB.out.below hb1).k8
  go_wp2_with fail
  clear x6 x7 x8 y6 y7 y8 hz1 hz1'
  refine (anyTwoN_any _ _ _ _ a.crosses b.crosses d.xs d'.xs LA.out.kx LB.out.kx _ (LA.out.below hb1).crosses (LB.out.below hb1).crosses).mono ?_
  rintro e w2 ⟨rfl, hb2'⟩
  have hb2 := hb1.trans (hb2'.mono hb1.size)
  have hz2 : w.heap.size + 1 < w2.heap.size := Nat.lt_of_lt_of_le hz hb2.size
  have hz2' : w.heap.size < w2.heap.size := by omega
  clear hb1 hb2'
  cases t2 : crossL a.crosses b.crosses
  rotate_left
  · have HX := hidP (exclC_2 T1.out t2)
    clear t2
    go_wp2_with fail
    go_ret
    exact ⟨ret_int HX.out.symm, hbW.trans (hb2.mono hbW.size)⟩
  have T2 := hidP t2
  clear t2
  have x6 : w2.cell? ⟨w.heap.size, 9, none⟩ = some (.slice d.na a.needs.length d.nc) := (HA.out.below hb2).k9
  have x7 : w2.cell? ⟨w.heap.size, 10, none⟩ = some (.int .u64 d.ns.a) := (HA.out.below hb2).k10
  have x8 : w2.cell? ⟨w.heap.size, 11, none⟩ = some (.int .u64 d.ns.b) := (HA.out.below hb2).k11
  have y6 : w2.cell? ⟨w.heap.size + 1, 9, none⟩ = some (.slice d'.na b.needs.length d'.nc) := (HB.out.below hb2).k9
  have y7 : w2.cell? ⟨w.heap.size + 1, 10, none⟩ = some (.int .u64 d'.ns.a) := (HB.out.below hb2).k10
  have y8 : w2.cell? ⟨w.heap.size + 1, 11, none⟩ = some (.int .u64 d'.ns.b) := (HB.out.below hb2).k11
  go_wp2_with fail
  clear x6 x7 x8 y6 y7 y8 hz2 hz2'
  refine (anyTwoL_any _ _ _ _ a.needs b.needs d.ns d'.ns LA.out.kn LB.out.kn _ (LA.out.below hb2).needs (LB.out.below hb2).needs).mono ?_
  rintro e w3 ⟨rfl, hb3'⟩
  have hb3 := hb2.trans (hb3'.mono hb2.size)
  have hz3 : w.heap.size + 1 < w3.heap.size := Nat.lt_of_lt_of_le hz hb3.size
  have hz3' : w.heap.size < w3.heap.size := by omega
  clear hb2 hb3'
  cases t3 : wantL a.needs b.needs
  rotate_left
  · have HX := hidP (exclC_3 T1.out T2.out t3)
    clear t3
    go_wp2_with fail
    go_ret
    exact ⟨ret_int HX.out.symm, hbW.trans (hb3.mono hbW.size)⟩
  have T3 := hidP t3
  clear t3
  have x6 : w3.cell? ⟨w.heap.size, 3, none⟩ = some (.slice d.oa a.over.length d.oc) := (HA.out.below hb3).k3
  have x7 : w3.cell? ⟨w.heap.size, 4, none⟩ = some (.int .u64 d.os.a) := (HA.out.below hb3).k4
  have x8 : w3.cell? ⟨w.heap.size, 5, none⟩ = some (.int .u64 d.os.b) := (HA.out.below hb3).k5
  have y6 : w3.cell? ⟨w.heap.size + 1, 0, none⟩ = some (.slice d'.pa b.parts.length d'.pc) := (HB.out.below hb3).k0
  have y7 : w3.cell? ⟨w.heap.size + 1, 1, none⟩ = some (.int .u64 d'.ps.a) := (HB.out.below hb3).k1
  have y8 : w3.cell? ⟨w.heap.size + 1, 2, none⟩ = some (.int .u64 d'.ps.b) := (HB.out.below hb3).k2
  go_wp2_with fail
  clear x6 x7 x8 y6 y7 y8 hz3 hz3'
  refine (anyTwoP_any _ _ _ _ a.over b.parts d.os d'.ps LA.out.ko LB.out.kp _ (LA.out.below hb3).over (LB.out.below hb3).parts).mono ?_
  rintro e w4 ⟨rfl, hb4'⟩
  have hb4 := hb3.trans (hb4'.mono hb3.size)
  have hz4 : w.heap.size + 1 < w4.heap.size := Nat.lt_of_lt_of_le hz hb4.size
  have hz4' : w.heap.size < w4.heap.size := by omega
  clear hb3 hb4'
  cases t4 : touchL a.over b.parts
  rotate_left
  · have HX := hidP (exclC_4 T1.out T2.out T3.out (Or.inl t4))
    clear t4
    go_wp2_with fail
    go_ret
    exact ⟨ret_int HX.out.symm, hbW.trans (hb4.mono hbW.size)⟩
  have T4 := hidP t4
  clear t4
  have x6 : w4.cell? ⟨w.heap.size + 1, 3, none⟩ = some (.slice d'.oa b.over.length d'.oc) := (HB.out.below hb4).k3
  have x7 : w4.cell? ⟨w.heap.size + 1, 4, none⟩ = some (.int .u64 d'.os.a) := (HB.out.below hb4).k4
  have x8 : w4.cell? ⟨w.heap.size + 1, 5, none⟩ = some (.int .u64 d'.os.b) := (HB.out.below hb4).k5
  have y6 : w4.cell? ⟨w.heap.size, 0, none⟩ = some (.slice d.pa a.parts.length d.pc) := (HA.out.below hb4).k0
  have y7 : w4.cell? ⟨w.heap.size, 1, none⟩ = some (.int .u64 d.ps.a) := (HA.out.below hb4).k1
  have y8 : w4.cell? ⟨w.heap.size, 2, none⟩ = some (.int .u64 d.ps.b) := (HA.out.below hb4).k2
  go_wp2_with fail
  clear x6 x7 x8 y6 y7 y8 hz4 hz4'
  refine (anyTwoP_any _ _ _ _ b.over a.parts d'.os d.ps LB.out.ko LA.out.kp _ (LB.out.below hb4).over (LA.out.below hb4).parts).mono ?_
  rintro e w5 ⟨rfl, hb5'⟩
  have hb5 := hb4.trans (hb5'.mono hb4.size)
  clear hb4 hb5'
  cases t5 : touchL b.over a.parts
  · have HX := hidP (exclC_0 T1.out T2.out T3.out T4.out t5)
    clear t5
    go_wp2_with fail
    go_ret
    exact ⟨ret_int HX.out.symm, hbW.trans (hb5.mono hbW.size)⟩
  · have HX := hidP (exclC_4 T1.out T2.out T3.out (Or.inr t5))
    clear t5
    go_wp2_with fail
    go_ret
    exact ⟨ret_int HX.out.symm, hbW.trans (hb5.mono hbW.size)⟩

end Go.Proofs.Ytmkdgnmmebldgab
