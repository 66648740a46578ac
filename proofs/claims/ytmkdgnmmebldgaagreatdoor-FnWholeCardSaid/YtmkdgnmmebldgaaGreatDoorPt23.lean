import Derived.Test.YtmkdgnmmebldgaaGreatDoorPt22
set_option maxRecDepth 100000
set_option maxHeartbeats 8000000
namespace Go.Proofs.YtmkdgnmmebldgaaGreatDoor
open Go.RowKit Go.Deep
structure QC (W:World)(Q:Nat)(u0 u1 u2 u3 u4 u5 u6 u7:Value):Prop where
 q0:W.cell? ⟨Q,0,none⟩=some u0
 q1:W.cell? ⟨Q,1,none⟩=some u1
 q2:W.cell? ⟨Q,2,none⟩=some u2
 q3:W.cell? ⟨Q,3,none⟩=some u3
 q4:W.cell? ⟨Q,4,none⟩=some u4
 q5:W.cell? ⟨Q,5,none⟩=some u5
 q6:W.cell? ⟨Q,6,none⟩=some u6
 q7:W.cell? ⟨Q,7,none⟩=some u7
 z:∀ o,W.frozen? ⟨Q,o,none⟩=false
 ty:IsRow W Q
section
variable {W W':World} {Q:Nat} {u0 u1 u2 u3 u4 u5 u6 u7:Value}
theorem QC.lt (h:QC W Q u0 u1 u2 u3 u4 u5 u6 u7):Q<W.heap.size:=cellLt h.q0
theorem QC.of_block (h:QC W Q u0 u1 u2 u3 u4 u5 u6 u7)(e:W'.heap[Q]? = W.heap[Q]?):QC W' Q u0 u1 u2 u3 u4 u5 u6 u7:=
 ⟨(World.cell?_of_block (w:=W) e).trans h.q0,(World.cell?_of_block (w:=W) e).trans h.q1,(World.cell?_of_block (w:=W) e).trans h.q2,(World.cell?_of_block (w:=W) e).trans h.q3,(World.cell?_of_block (w:=W) e).trans h.q4,(World.cell?_of_block (w:=W) e).trans h.q5,(World.cell?_of_block (w:=W) e).trans h.q6,(World.cell?_of_block (w:=W) e).trans h.q7,fun o=>(World.frozen?_of_block e).trans (h.z o),(by obtain ⟨cur,hc⟩:=h.ty;exact ⟨cur,e.trans hc⟩)⟩
theorem QC.below (h:QC W Q u0 u1 u2 u3 u4 u5 u6 u7)(hb:Below W.heap.size W W'):QC W' Q u0 u1 u2 u3 u4 u5 u6 u7:=h.of_block (hb.block Q h.lt)
theorem ty_set {W:World}{Q o:Nat}{v:Value}(h:IsRow W Q):IsRow (W.setCell ⟨Q,o,none⟩ v) Q:=by
 obtain ⟨cur,hb⟩:=h
 exact ⟨cur.setIfInBounds o v,by simp [World.setCell,Array.getElem?_modify,hb]⟩
theorem qc_alloc (W:World)(u0 u1 u2 u3 u4 u5 u6 u7:Value):QC (W.alloc (.cells #[u0,u1,u2,u3,u4,u5,u6,u7] 44)) W.heap.size u0 u1 u2 u3 u4 u5 u6 u7:=by
 have h:=row_of_alloc2 W #[u0,u1,u2,u3,u4,u5,u6,u7] 44
 exact ⟨h.cell (i:=0) (by simp),h.cell (i:=1) (by simp),h.cell (i:=2) (by simp),h.cell (i:=3) (by simp),h.cell (i:=4) (by simp),h.cell (i:=5) (by simp),h.cell (i:=6) (by simp),h.cell (i:=7) (by simp),fun o=>h.frozen o,(by obtain ⟨c,hc,_⟩:=h;exact ⟨c,hc⟩)⟩
theorem qc_setOther {o o':Nat}{v u:Value}(ho:o≠o')(h:W.cell? ⟨Q,o,none⟩=some u):(W.setCell ⟨Q,o',none⟩ v).cell? ⟨Q,o,none⟩=some u:=by
 rw [World.cell?_setCell_other _ _ _ _ (by first | (simp;done) | (simp;omega))]
 exact h
theorem QC.set0 (h:QC W Q u0 u1 u2 u3 u4 u5 u6 u7)(v:Value):QC (W.setCell ⟨Q,0,none⟩ v) Q v u1 u2 u3 u4 u5 u6 u7:=
 ⟨World.cell?_setCell_same _ _ _ h.q0,qc_setOther (by omega) h.q1,qc_setOther (by omega) h.q2,qc_setOther (by omega) h.q3,qc_setOther (by omega) h.q4,qc_setOther (by omega) h.q5,qc_setOther (by omega) h.q6,qc_setOther (by omega) h.q7,fun o=>(by rw [World.frozen?_setCell];exact h.z o),ty_set h.ty⟩
theorem QC.set1 (h:QC W Q u0 u1 u2 u3 u4 u5 u6 u7)(v:Value):QC (W.setCell ⟨Q,1,none⟩ v) Q u0 v u2 u3 u4 u5 u6 u7:=
 ⟨qc_setOther (by omega) h.q0,World.cell?_setCell_same _ _ _ h.q1,qc_setOther (by omega) h.q2,qc_setOther (by omega) h.q3,qc_setOther (by omega) h.q4,qc_setOther (by omega) h.q5,qc_setOther (by omega) h.q6,qc_setOther (by omega) h.q7,fun o=>(by rw [World.frozen?_setCell];exact h.z o),ty_set h.ty⟩
theorem QC.set2 (h:QC W Q u0 u1 u2 u3 u4 u5 u6 u7)(v:Value):QC (W.setCell ⟨Q,2,none⟩ v) Q u0 u1 v u3 u4 u5 u6 u7:=
 ⟨qc_setOther (by omega) h.q0,qc_setOther (by omega) h.q1,World.cell?_setCell_same _ _ _ h.q2,qc_setOther (by omega) h.q3,qc_setOther (by omega) h.q4,qc_setOther (by omega) h.q5,qc_setOther (by omega) h.q6,qc_setOther (by omega) h.q7,fun o=>(by rw [World.frozen?_setCell];exact h.z o),ty_set h.ty⟩
theorem QC.set3 (h:QC W Q u0 u1 u2 u3 u4 u5 u6 u7)(v:Value):QC (W.setCell ⟨Q,3,none⟩ v) Q u0 u1 u2 v u4 u5 u6 u7:=
 ⟨qc_setOther (by omega) h.q0,qc_setOther (by omega) h.q1,qc_setOther (by omega) h.q2,World.cell?_setCell_same _ _ _ h.q3,qc_setOther (by omega) h.q4,qc_setOther (by omega) h.q5,qc_setOther (by omega) h.q6,qc_setOther (by omega) h.q7,fun o=>(by rw [World.frozen?_setCell];exact h.z o),ty_set h.ty⟩
theorem QC.set4 (h:QC W Q u0 u1 u2 u3 u4 u5 u6 u7)(v:Value):QC (W.setCell ⟨Q,4,none⟩ v) Q u0 u1 u2 u3 v u5 u6 u7:=
 ⟨qc_setOther (by omega) h.q0,qc_setOther (by omega) h.q1,qc_setOther (by omega) h.q2,qc_setOther (by omega) h.q3,World.cell?_setCell_same _ _ _ h.q4,qc_setOther (by omega) h.q5,qc_setOther (by omega) h.q6,qc_setOther (by omega) h.q7,fun o=>(by rw [World.frozen?_setCell];exact h.z o),ty_set h.ty⟩
theorem QC.set5 (h:QC W Q u0 u1 u2 u3 u4 u5 u6 u7)(v:Value):QC (W.setCell ⟨Q,5,none⟩ v) Q u0 u1 u2 u3 u4 v u6 u7:=
 ⟨qc_setOther (by omega) h.q0,qc_setOther (by omega) h.q1,qc_setOther (by omega) h.q2,qc_setOther (by omega) h.q3,qc_setOther (by omega) h.q4,World.cell?_setCell_same _ _ _ h.q5,qc_setOther (by omega) h.q6,qc_setOther (by omega) h.q7,fun o=>(by rw [World.frozen?_setCell];exact h.z o),ty_set h.ty⟩
theorem QC.set6 (h:QC W Q u0 u1 u2 u3 u4 u5 u6 u7)(v:Value):QC (W.setCell ⟨Q,6,none⟩ v) Q u0 u1 u2 u3 u4 u5 v u7:=
 ⟨qc_setOther (by omega) h.q0,qc_setOther (by omega) h.q1,qc_setOther (by omega) h.q2,qc_setOther (by omega) h.q3,qc_setOther (by omega) h.q4,qc_setOther (by omega) h.q5,World.cell?_setCell_same _ _ _ h.q6,qc_setOther (by omega) h.q7,fun o=>(by rw [World.frozen?_setCell];exact h.z o),ty_set h.ty⟩
theorem QC.set7 (h:QC W Q u0 u1 u2 u3 u4 u5 u6 u7)(v:Value):QC (W.setCell ⟨Q,7,none⟩ v) Q u0 u1 u2 u3 u4 u5 u6 v:=
 ⟨qc_setOther (by omega) h.q0,qc_setOther (by omega) h.q1,qc_setOther (by omega) h.q2,qc_setOther (by omega) h.q3,qc_setOther (by omega) h.q4,qc_setOther (by omega) h.q5,qc_setOther (by omega) h.q6,World.cell?_setCell_same _ _ _ h.q7,fun o=>(by rw [World.frozen?_setCell];exact h.z o),ty_set h.ty⟩
theorem QC.store8 (h:QC W Q u0 u1 u2 u3 u4 u5 u6 u7)(v0 v1 v2 v3 v4 v5 v6 v7:Value):∃ U,U=((((((((W.setCell ⟨Q,0,none⟩ v0).setCell ⟨Q,1,none⟩ v1).setCell ⟨Q,2,none⟩ v2).setCell ⟨Q,3,none⟩ v3).setCell ⟨Q,4,none⟩ v4).setCell ⟨Q,5,none⟩ v5).setCell ⟨Q,6,none⟩ v6).setCell ⟨Q,7,none⟩ v7)∧QC U Q v0 v1 v2 v3 v4 v5 v6 v7∧(∀ k,k≠Q→U.heap[k]? = W.heap[k]?)∧(∀ (B0:Nat) (w0:World),B0≤Q→Below B0 w0 W→Below B0 w0 U)∧W.heap.size≤U.heap.size:=by
 refine ⟨_,rfl,((((((((h.set0 v0).set1 v1).set2 v2).set3 v3).set4 v4).set5 v5).set6 v6).set7 v7),?_,?_,by simp⟩
 ·intro k hk
  iterate 8 rw [Below.heap_setCell _ _ _ _ hk]
 ·intro B0 w0 hB hb
  exact ((((((((hb.setCell (show B0≤(⟨Q,0,none⟩:Addr).block from hB) v0).setCell (show B0≤(⟨Q,1,none⟩:Addr).block from hB) v1).setCell (show B0≤(⟨Q,2,none⟩:Addr).block from hB) v2).setCell (show B0≤(⟨Q,3,none⟩:Addr).block from hB) v3).setCell (show B0≤(⟨Q,4,none⟩:Addr).block from hB) v4).setCell (show B0≤(⟨Q,5,none⟩:Addr).block from hB) v5).setCell (show B0≤(⟨Q,6,none⟩:Addr).block from hB) v6).setCell (show B0≤(⟨Q,7,none⟩:Addr).block from hB) v7)
end
structure RB (w1 W:World)(A Q B:Nat)(x0:Option Addr)(y0:Nat)(x1:Option Addr)(y1:Nat)(x2:Option Addr)(y2:Nat)(x3:Option Addr)(y3:Nat)(v6 v7:Value)(r:MRoute):Prop where
 hB:Below A w1 W
 AQ:A≤Q
 AB:A≤B
 BW:B≤W.heap.size
 qc:QC W Q (.int .i64 r.start) (.int .i64 r.stop) (.slice x0 r.steps.length y0) (.slice x1 r.lies.length y1) (.slice x2 r.crosses.length y2) (.slice x3 r.parts.length y3) v6 v7
 own:OwnR W B (.slice x0 r.steps.length y0) (.slice x1 r.lies.length y1) (.slice x2 r.crosses.length y2) (.slice x3 r.parts.length y3) r
theorem row_ne_ty {W:World}{Q b e s n:Nat}{v:Value}{xs:List Value}(ty:IsRow W Q)(ho:W.ownsRow b e s v n xs)(he:e≠44):¬ v.ownBlock=some Q:=fun eq=>by
 obtain ⟨cur,hc⟩:=ty
 rcases ho.2 with ⟨h1,_⟩ | ⟨g,cap,cur',h1,_,h3,_⟩
 ·rw [h1] at eq;cases eq
 ·rw [h1] at eq
  simp only [Value.ownBlock,Option.some.injEq] at eq
  rw [eq,hc] at h3
  simp only [Option.some.injEq,Obj.cells.injEq] at h3
  exact he h3.2.1.symm
theorem OwnR.below {W W':World}{B:Nat}{v0 v1 v2 v3:Value}{r:MRoute}(h:OwnR W B v0 v1 v2 v3 r)(hb:Below W.heap.size W W'):OwnR W' B v0 v1 v2 v3 r:=⟨owns_below h.o0 hb,owns_below h.o1 hb,owns_below h.o2 hb,owns_below h.o3 hb⟩
section
variable {w1 W W':World} {A Q B:Nat} {x0 x1 x2 x3:Option Addr} {y0 y1 y2 y3:Nat} {v6 v7:Value} {r:MRoute}
theorem RB.below (h:RB w1 W A Q B x0 y0 x1 y1 x2 y2 x3 y3 v6 v7 r)(hb:Below W.heap.size W W'):RB w1 W' A Q B x0 y0 x1 y1 x2 y2 x3 y3 v6 v7 r:=
 ⟨h.hB.trans (hb.mono (Nat.le_trans h.AQ (Nat.le_of_lt h.qc.lt))),h.AQ,h.AB,Nat.le_trans h.BW hb.size,h.qc.below hb,h.own.below hb⟩
theorem RB.nQ (h:RB w1 W A Q B x0 y0 x1 y1 x2 y2 x3 y3 v6 v7 r){b e s n:Nat}{v:Value}{xs:List Value}(ho:W.ownsRow b e s v n xs)(he:e≠44):some Q≠v.ownBlock:=fun eq=>by
 obtain ⟨cur,hc⟩:=h.qc.ty
 rcases ho.2 with ⟨h1,_⟩ | ⟨g,cap,cur',h1,_,h3,_⟩
 ·rw [h1] at eq;cases eq
 ·rw [h1] at eq
  simp only [Value.ownBlock,Option.some.injEq] at eq
  rw [← eq,hc] at h3
  simp only [Option.some.injEq,Obj.cells.injEq] at h3
  exact he h3.2.1.symm
theorem RB.hBg (h:RB w1 W A Q B x0 y0 x1 y1 x2 y2 x3 y3 v6 v7 r){e s n:Nat}{v:Value}{xs:List Value}(ho:W.ownsRow B e s v n xs){w2:World}(hg:W.grownBy w2 v.ownBlock)(o:Nat)(u:Value):Below A w1 (w2.setCell ⟨Q,o,none⟩ u):=
 (h.hB.trans ((Only.of_grown (S:=fun k=>B≤k) hg (fun k e=>(ho.lt k e).1)).below (Nat.le_trans h.AQ (Nat.le_of_lt h.qc.lt)) (fun k hk hs=>by have:=h.AB;omega))).setCell h.AQ _
theorem RB.set1 (h:RB w1 W A Q B x0 y0 x1 y1 x2 y2 x3 y3 v6 v7 r)(sp:Int):RB w1 (W.setCell ⟨Q,1,none⟩ (.int .i64 sp)) A Q B x0 y0 x1 y1 x2 y2 x3 y3 v6 v7 { r with stop:=sp }:=
 ⟨h.hB.setCell h.AQ _,h.AQ,h.AB,by simpa using h.BW,h.qc.set1 _,⟨ownsRow_setCell_other h.own.o0 (a:=⟨Q,_,none⟩) (fun e=>h.nQ h.own.o0 (by decide) e.symm) _,ownsRow_setCell_other h.own.o1 (a:=⟨Q,_,none⟩) (fun e=>h.nQ h.own.o1 (by decide) e.symm) _,ownsRow_setCell_other h.own.o2 (a:=⟨Q,_,none⟩) (fun e=>h.nQ h.own.o2 (by decide) e.symm) _,ownsRow_setCell_other h.own.o3 (a:=⟨Q,_,none⟩) (fun e=>h.nQ h.own.o3 (by decide) e.symm) _⟩⟩
theorem RB.set6 (h:RB w1 W A Q B x0 y0 x1 y1 x2 y2 x3 y3 v6 v7 r)(v:Value):RB w1 (W.setCell ⟨Q,6,none⟩ v) A Q B x0 y0 x1 y1 x2 y2 x3 y3 v v7 r:=
 ⟨h.hB.setCell h.AQ _,h.AQ,h.AB,by simpa using h.BW,h.qc.set6 _,⟨ownsRow_setCell_other h.own.o0 (a:=⟨Q,_,none⟩) (fun e=>h.nQ h.own.o0 (by decide) e.symm) _,ownsRow_setCell_other h.own.o1 (a:=⟨Q,_,none⟩) (fun e=>h.nQ h.own.o1 (by decide) e.symm) _,ownsRow_setCell_other h.own.o2 (a:=⟨Q,_,none⟩) (fun e=>h.nQ h.own.o2 (by decide) e.symm) _,ownsRow_setCell_other h.own.o3 (a:=⟨Q,_,none⟩) (fun e=>h.nQ h.own.o3 (by decide) e.symm) _⟩⟩
theorem RB.over (h:RB w1 W A Q B x0 y0 x1 y1 x2 y2 x3 y3 v6 v7 r)(ov:List MPart):RB w1 W A Q B x0 y0 x1 y1 x2 y2 x3 y3 v6 v7 { r with over:=ov }:=⟨h.hB,h.AQ,h.AB,h.BW,h.qc,⟨h.own.o0,h.own.o1,h.own.o2,h.own.o3⟩⟩
theorem RB.push0 (h:RB w1 W A Q B x0 y0 x1 y1 x2 y2 x3 y3 v6 v7 r){e:MStep}{x':Option Addr}{y':Nat}{w2:World}(hg:W.grownBy w2 (Value.slice x0 r.steps.length y0).ownBlock)
  (ho:w2.ownsRow B 46 2 (.slice x' (r.steps.length+1) y') (r.steps.length+1) (flatE (r.steps++[e]))) :
  RB w1 (w2.setCell ⟨Q,2,none⟩ (.slice x' (r.steps.length+1) y')) A Q B x' y' x1 y1 x2 y2 x3 y3 v6 v7 { r with steps:=r.steps++[e] }:=by
 have hq:QC w2 Q _ _ _ _ _ _ _ _:=h.qc.of_block (hg.block Q h.qc.lt (h.nQ h.own.o0 (by decide)))
 have hnQ:∀ {b e s n:Nat} {v:Value} {xs:List Value},w2.ownsRow b e s v n xs→e≠44→¬ v.ownBlock=some Q:=fun {b e s n v xs} hoo he eq=>row_ne_ty hq.ty hoo he eq
 have hq2:=hq.set2 (.slice x' (r.steps.length+1) y')
 refine ⟨h.hBg h.own.o0 hg _ _,h.AQ,h.AB,by have:=hg.size;have:=h.BW;simp;omega,?_,⟨(by simp only [List.length_append,List.length_singleton];exact ownsRow_setCell_other ho (a:=⟨Q,_,none⟩) (hnQ ho (by decide)) _),ownsRow_setCell_other (h.own.o1.kept hg (owns_ne (by decide) h.own.o1 h.own.o0)) (a:=⟨Q,_,none⟩) (hnQ (h.own.o1.kept hg (owns_ne (by decide) h.own.o1 h.own.o0)) (by decide)) _,ownsRow_setCell_other (h.own.o2.kept hg (owns_ne (by decide) h.own.o2 h.own.o0)) (a:=⟨Q,_,none⟩) (hnQ (h.own.o2.kept hg (owns_ne (by decide) h.own.o2 h.own.o0)) (by decide)) _,ownsRow_setCell_other (h.own.o3.kept hg (owns_ne (by decide) h.own.o3 h.own.o0)) (a:=⟨Q,_,none⟩) (hnQ (h.own.o3.kept hg (owns_ne (by decide) h.own.o3 h.own.o0)) (by decide)) _⟩⟩
 simp only [List.length_append,List.length_singleton]
 exact hq2
theorem RB.push1 (h:RB w1 W A Q B x0 y0 x1 y1 x2 y2 x3 y3 v6 v7 r){e:MLie}{x':Option Addr}{y':Nat}{w2:World}(hg:W.grownBy w2 (Value.slice x1 r.lies.length y1).ownBlock)
  (ho:w2.ownsRow B 52 2 (.slice x' (r.lies.length+1) y') (r.lies.length+1) (flatE (r.lies++[e]))) :
  RB w1 (w2.setCell ⟨Q,3,none⟩ (.slice x' (r.lies.length+1) y')) A Q B x0 y0 x' y' x2 y2 x3 y3 v6 v7 { r with lies:=r.lies++[e] }:=by
 have hq:QC w2 Q _ _ _ _ _ _ _ _:=h.qc.of_block (hg.block Q h.qc.lt (h.nQ h.own.o1 (by decide)))
 have hnQ:∀ {b e s n:Nat} {v:Value} {xs:List Value},w2.ownsRow b e s v n xs→e≠44→¬ v.ownBlock=some Q:=fun {b e s n v xs} hoo he eq=>row_ne_ty hq.ty hoo he eq
 have hq2:=hq.set3 (.slice x' (r.lies.length+1) y')
 refine ⟨h.hBg h.own.o1 hg _ _,h.AQ,h.AB,by have:=hg.size;have:=h.BW;simp;omega,?_,⟨ownsRow_setCell_other (h.own.o0.kept hg (owns_ne (by decide) h.own.o0 h.own.o1)) (a:=⟨Q,_,none⟩) (hnQ (h.own.o0.kept hg (owns_ne (by decide) h.own.o0 h.own.o1)) (by decide)) _,(by simp only [List.length_append,List.length_singleton];exact ownsRow_setCell_other ho (a:=⟨Q,_,none⟩) (hnQ ho (by decide)) _),ownsRow_setCell_other (h.own.o2.kept hg (owns_ne (by decide) h.own.o2 h.own.o1)) (a:=⟨Q,_,none⟩) (hnQ (h.own.o2.kept hg (owns_ne (by decide) h.own.o2 h.own.o1)) (by decide)) _,ownsRow_setCell_other (h.own.o3.kept hg (owns_ne (by decide) h.own.o3 h.own.o1)) (a:=⟨Q,_,none⟩) (hnQ (h.own.o3.kept hg (owns_ne (by decide) h.own.o3 h.own.o1)) (by decide)) _⟩⟩
 simp only [List.length_append,List.length_singleton]
 exact hq2
theorem RB.push2 (h:RB w1 W A Q B x0 y0 x1 y1 x2 y2 x3 y3 v6 v7 r){e:Int}{x':Option Addr}{y':Nat}{w2:World}(hg:W.grownBy w2 (Value.slice x2 r.crosses.length y2).ownBlock)
  (ho:w2.ownsRow B 3 1 (.slice x' (r.crosses.length+1) y') (r.crosses.length+1) (flatN (r.crosses++[e]))) :
  RB w1 (w2.setCell ⟨Q,4,none⟩ (.slice x' (r.crosses.length+1) y')) A Q B x0 y0 x1 y1 x' y' x3 y3 v6 v7 { r with crosses:=r.crosses++[e] }:=by
 have hq:QC w2 Q _ _ _ _ _ _ _ _:=h.qc.of_block (hg.block Q h.qc.lt (h.nQ h.own.o2 (by decide)))
 have hnQ:∀ {b e s n:Nat} {v:Value} {xs:List Value},w2.ownsRow b e s v n xs→e≠44→¬ v.ownBlock=some Q:=fun {b e s n v xs} hoo he eq=>row_ne_ty hq.ty hoo he eq
 have hq2:=hq.set4 (.slice x' (r.crosses.length+1) y')
 refine ⟨h.hBg h.own.o2 hg _ _,h.AQ,h.AB,by have:=hg.size;have:=h.BW;simp;omega,?_,⟨ownsRow_setCell_other (h.own.o0.kept hg (owns_ne (by decide) h.own.o0 h.own.o2)) (a:=⟨Q,_,none⟩) (hnQ (h.own.o0.kept hg (owns_ne (by decide) h.own.o0 h.own.o2)) (by decide)) _,ownsRow_setCell_other (h.own.o1.kept hg (owns_ne (by decide) h.own.o1 h.own.o2)) (a:=⟨Q,_,none⟩) (hnQ (h.own.o1.kept hg (owns_ne (by decide) h.own.o1 h.own.o2)) (by decide)) _,(by simp only [List.length_append,List.length_singleton];exact ownsRow_setCell_other ho (a:=⟨Q,_,none⟩) (hnQ ho (by decide)) _),ownsRow_setCell_other (h.own.o3.kept hg (owns_ne (by decide) h.own.o3 h.own.o2)) (a:=⟨Q,_,none⟩) (hnQ (h.own.o3.kept hg (owns_ne (by decide) h.own.o3 h.own.o2)) (by decide)) _⟩⟩
 simp only [List.length_append,List.length_singleton]
 exact hq2
theorem RB.push3 (h:RB w1 W A Q B x0 y0 x1 y1 x2 y2 x3 y3 v6 v7 r){e:MPart}{x':Option Addr}{y':Nat}{w2:World}(hg:W.grownBy w2 (Value.slice x3 r.parts.length y3).ownBlock)
  (ho:w2.ownsRow B 48 3 (.slice x' (r.parts.length+1) y') (r.parts.length+1) (flatP (r.parts++[e]))) :
  RB w1 (w2.setCell ⟨Q,5,none⟩ (.slice x' (r.parts.length+1) y')) A Q B x0 y0 x1 y1 x2 y2 x' y' v6 v7 { r with parts:=r.parts++[e] }:=by
 have hq:QC w2 Q _ _ _ _ _ _ _ _:=h.qc.of_block (hg.block Q h.qc.lt (h.nQ h.own.o3 (by decide)))
 have hnQ:∀ {b e s n:Nat} {v:Value} {xs:List Value},w2.ownsRow b e s v n xs→e≠44→¬ v.ownBlock=some Q:=fun {b e s n v xs} hoo he eq=>row_ne_ty hq.ty hoo he eq
 have hq2:=hq.set5 (.slice x' (r.parts.length+1) y')
 refine ⟨h.hBg h.own.o3 hg _ _,h.AQ,h.AB,by have:=hg.size;have:=h.BW;simp;omega,?_,⟨ownsRow_setCell_other (h.own.o0.kept hg (owns_ne (by decide) h.own.o0 h.own.o3)) (a:=⟨Q,_,none⟩) (hnQ (h.own.o0.kept hg (owns_ne (by decide) h.own.o0 h.own.o3)) (by decide)) _,ownsRow_setCell_other (h.own.o1.kept hg (owns_ne (by decide) h.own.o1 h.own.o3)) (a:=⟨Q,_,none⟩) (hnQ (h.own.o1.kept hg (owns_ne (by decide) h.own.o1 h.own.o3)) (by decide)) _,ownsRow_setCell_other (h.own.o2.kept hg (owns_ne (by decide) h.own.o2 h.own.o3)) (a:=⟨Q,_,none⟩) (hnQ (h.own.o2.kept hg (owns_ne (by decide) h.own.o2 h.own.o3)) (by decide)) _,(by simp only [List.length_append,List.length_singleton];exact ownsRow_setCell_other ho (a:=⟨Q,_,none⟩) (hnQ ho (by decide)) _)⟩⟩
 simp only [List.length_append,List.length_singleton]
 exact hq2
end
theorem step_push0 {P:Program}{Wp:World}{ops:Array Oper}{o:Oper}{a:Act}{K:Act→World→Prop}{Q:Exit→Act→World→Prop}{E:Prop}(hgd:o.guard=none)(s x:Operand)(t:TypeId)
  (ho:o.op = .call { callee:=.builtin .append,args:=#[s,x],argTypes:=#[t,t] })
  (B:Nat) (e:TypeId) (z:Value) (size bytes:Nat) (ht:P.underlying t=some (.slice e)) (hi:(P.info? e).map (fun i=>(i.zero,i.size,i.bytes))=some (some z,size,bytes)) (hzs:z.cells.size=size) (hsz:0<size)
  (v:Value) (n:Nat) (xs:List Value) (hs:a.eval s=v) (hown:Wp.ownsRow B e size v n xs)
  (g:Nat) (hgs:g=Wp.heap.size) (news:List Value) (hx:a.eval x = .slice (some ⟨g,0,none⟩) 1 1) (hl:news.length=size) (h1:∀ u ∈ news,u.oneCell'=true)
  (h63:n+1≤maxLen) (hbytes:(n+1)*bytes≤140737488355328) (hB:B≤Wp.heap.size)
  (h:∀ x' y' w',w'.ownsRow B e size (.slice x' (n+1) y') (n+1) (xs++news)→Wp.grownBy w' v.ownBlock→K (a.put o.dst (.slice x' (n+1) y')) w') :
  if Region.wanted o (yielded ops a.tmps)=true then Oper.wp P o a (Wp.alloc (.cells news.toArray e)) K Q else E:=by
 subst hgs
 obtain ⟨i,hi1,hi2,hi3,hi4⟩:=info_parts hi
 refine step_append_lies _ hgd s x t ho B e i z size bytes ht hi1 hi2 hi3 hi4 hzs hsz v n xs hs (hown.alloc _) ⟨Wp.heap.size,0,none⟩ 1 1 news hx (by omega) ?_ h1 (by omega) h63 hbytes (by simp;omega) _ rfl ?_
 ·intro j u hu
  rw [addr_at,Nat.zero_add]
  have:=cell_of_row (Wp.alloc (.cells news.toArray e)) Wp.heap.size j news.toArray e (0,0) (heap_alloc_new Wp _)
  refine Eq.trans this ?_
  simpa using hu
 ·intro g cap w' ho' hg' hq _
  refine h _ _ w' ho' ⟨hg'.os,hg'.tape,hg'.output,Nat.le_trans (by simp) hg'.size,fun k hk hne=>?_⟩
  exact (hg'.block k (by simp;omega) hne).trans (Below.heap_alloc _ _ _ hk)
theorem owns_max {w:World}{B e s n:Nat}{v:Value}{xs:List Value}(h:w.ownsRow B e s v n xs):n≤maxLen:=by
 rcases h.2 with ⟨_,h2⟩ | ⟨g,cap,cur,_,_,_,h3,h4,_⟩
 ·rw [h2];exact Nat.zero_le _
 ·exact Nat.le_trans h3 h4
theorem own_listE {w:World}{B e:Nat}{x:Option Addr}{y:Nat}{es:List MEnd}(h:w.ownsRow B e 2 (.slice x es.length y) es.length (flatE es)):EndsAt w x es∧(x=none→es.length=0∧y=0):=by
 obtain ⟨a,c,e1,e2,e3,_⟩:=ownE h (owns_max h)
 cases e1
 exact ⟨e2,e3⟩
theorem own_listN {w:World}{B e:Nat}{x:Option Addr}{y:Nat}{es:List Int}(h:w.ownsRow B e 1 (.slice x es.length y) es.length (flatN es)):NumsAt w x es∧(x=none→es.length=0∧y=0):=by
 obtain ⟨a,c,e1,e2,e3,_⟩:=ownN h (owns_max h)
 cases e1
 exact ⟨e2,e3⟩
theorem own_listP {w:World}{B e:Nat}{x:Option Addr}{y:Nat}{es:List MPart}(h:w.ownsRow B e 3 (.slice x es.length y) es.length (flatP es)):PartsAt w x es∧(x=none→es.length=0∧y=0):=by
 obtain ⟨a,c,e1,e2,e3,_⟩:=ownP h (owns_max h)
 cases e1
 exact ⟨e2,e3⟩
theorem own_listF {w:World}{B e:Nat}{x:Option Addr}{y:Nat}{es:List MFlank}(h:w.ownsRow B e 4 (.slice x es.length y) es.length (flatF es)):FlanksAt w x es∧(x=none→es.length=0∧y=0):=by
 obtain ⟨a,c,e1,e2,e3,_⟩:=ownF h (owns_max h)
 cases e1
 exact ⟨e2,e3⟩
theorem keep_of {w1 w w':World}{F A Q B B4 B5:Nat}{x0 x1 x2 x3 x4 x5:Option Addr}{y0 y1 y2 y3 y4 y5:Nat}{v v' v7:Value}{r:MRoute}{ov:List MPart}{fl:List MFlank}(h:RB w1 w A Q B x0 y0 x1 y1 x2 y2 x3 y3 (.slice x4 ov.length y4) v7 r)(hF:F<B)
  (h4:w.ownsRow B4 48 3 (.slice x4 ov.length y4) ov.length (flatP ov)) (hF4:F<B4) (he:Eff F v v' w w') (h5:w'.ownsRow B5 50 4 (.slice x5 fl.length y5) fl.length (flatF fl)) (hF5:F<B5) :
  RKeep w' F ⟨x0,y0,x1,y1,x2,y2,x3,y3,x4,y4,x5,y5⟩ { r with over:=ov,flanks:=fl }:=by
 have n0:=notR_own h.own.o0 (by decide) hF
 have n1:=notR_own h.own.o1 (by decide) hF
 have n2:=notR_own h.own.o2 (by decide) hF
 have n3:=notR_own h.own.o3 (by decide) hF
 have n4:=notR_own h4 (by decide) hF4
 have n5:=notR_own h5 (by decide) hF5
 refine ⟨⟨(own_listE h.own.o0).1.kept (n0.same he),(own_listE h.own.o1).1.kept (n1.same he),(own_listN h.own.o2).1.kept (n2.same he),(own_listP h.own.o3).1.kept (n3.same he),(own_listP h4).1.kept (n4.same he),(own_listF h5).1,fun e=>((own_listE h.own.o1).2 e).2⟩,n0.kept he,n1.kept he,n2.kept he,n3.kept he,n4.kept he,n5⟩
theorem walk_end {w0 w w1 W w':World}{F A Q B B4:Nat}{pa ja sa:Option Addr}{pc jc sc:Nat}{ps:List MPiece}{js:List MJoint}{ss:List MPiece}{over:Int}{n t:Nat}{xo:Option Addr}{yo:Nat}{pr:List (RAddr × MRoute)}{x0 x1 x2 x3 x4:Option Addr}{y0 y1 y2 y3 y4:Nat}{v7:Value}{st sp:Int}{steps:List MStep}{lies:List MLie}{crosses:List Int}{parts ov:List MPart}{e:Ending}
  (hs:WS w0 W F pa ja sa pc jc sc ps.length js.length ss.length over xo yo (t+1) pr) (hE:Eff F (.slice xo pr.length yo) (.slice xo pr.length yo) w W) (h:RB w1 W A Q B x0 y0 x1 y1 x2 y2 x3 y3 (.slice x4 ov.length y4) v7 ⟨st,sp,steps,lies,crosses,parts,ov,[]⟩) (hF:F<B)
  (h4:W.ownsRow B4 48 3 (.slice x4 ov.length y4) ov.length (flatP ov)) (hF4:F<B4)
  (hd:DonePost F (F+1) pr.length (.slice xo pr.length yo) (flatR pr) W (flanksF ps js ss lies lies) (fun xf yf=>[.int .i64 st,.int .i64 sp,.slice x0 steps.length y0,.slice x1 lies.length y1,.slice x2 crosses.length y2,.slice x3 parts.length y3,.slice x4 ov.length y4,.slice xf (flanksF ps js ss lies lies).length yf]) e w')
  {p':MPath} (hp':p'.ended=true) (hr:(⟨st,sp,steps,lies,crosses,parts,ov,flanksF ps js ss lies lies⟩:MRoute)=routeF ps js ss over p') (ht:t+1≤20000) (hpr:pr.length≤300) :
  WalkPost w0 w F pa ja sa pc jc sc ps js ss over (n+1) t (.slice xo pr.length yo) (pr.map Prod.snd) [p'] e w':=by
 obtain ⟨he,x',y',dd,hw,hE'⟩:=hs.more hd (fun a c=>⟨x0,y0,x1,y1,x2,y2,x3,y3,x4,y4,a,c⟩) ⟨st,sp,steps,lies,crosses,parts,ov,flanksF ps js ss lies lies⟩ (fun a c=>rfl) (fun a c v' h5 hE2=>keep_of h hF h4 hF4 hE2 h5 (by have:=hs.lt;omega))
 refine ⟨he,x',y',t+1,pr++[(dd,_)],hw,?_,?_,by omega,by simp;omega⟩
 ·have el:(pr++[(dd,(⟨st,sp,steps,lies,crosses,parts,ov,flanksF ps js ss lies lies⟩:MRoute))]).length=pr.length+1:=by simp
  rw [el]
  exact hE.trans hE'
 ·rw [List.map_append]
  exact Went.made hp' ht hr
end Go.Proofs.YtmkdgnmmebldgaaGreatDoor
