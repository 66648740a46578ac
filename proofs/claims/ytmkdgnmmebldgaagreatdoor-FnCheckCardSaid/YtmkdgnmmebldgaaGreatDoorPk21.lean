import Derived.Test.YtmkdgnmmebldgaaGreatDoorPk20
set_option maxRecDepth 100000
set_option maxHeartbeats 8000000
open Go.Proofs.Tryz
namespace Go.Proofs.YtmkdgnmmebldgaaGreatDoor
open Go.RowKit Go.Deep
variable {B Q e n y:Nat}{W w:World}{v:Value}{x:Option Addr}
structure QC (W:World)(Q:Nat)(u0 u1 u2 u3 u4 u5 u6 u7:Value):Prop where
 q0:W.cell? ⟨Q,0,none⟩=some u0
 q1:W.cell? ⟨Q,1,none⟩=some u1
 q2:W.cell? ⟨Q,2,none⟩=some u2
 q3:W.cell? ⟨Q,3,none⟩=some u3
 q4:W.cell? ⟨Q,4,none⟩=some u4
 q5:W.cell? ⟨Q,5,none⟩=some u5
 q6:W.cell? ⟨Q,6,none⟩=some u6
 q7:W.cell? ⟨Q,7,none⟩=some u7
 z:∀ o,W.frozen? ⟨Q,o,none⟩=false
 ty:iQ W Q
section
variable {W W':World} {Q:Nat} {u0 u1 u2 u3 u4 u5 u6 u7:Value}
theorem QC.lt (h:QC W Q u0 u1 u2 u3 u4 u5 u6 u7):Q<W.heap.size:=ai h.q0
theorem QC.of_block (h:QC W Q u0 u1 u2 u3 u4 u5 u6 u7)(e:W'.heap[Q]? = W.heap[Q]?):QC W' Q u0 u1 u2 u3 u4 u5 u6 u7:=
 ⟨(World.cell?_of_block (w:=W) e).trans h.q0,(World.cell?_of_block (w:=W) e).trans h.q1,(World.cell?_of_block (w:=W) e).trans h.q2,(World.cell?_of_block (w:=W) e).trans h.q3,(World.cell?_of_block (w:=W) e).trans h.q4,(World.cell?_of_block (w:=W) e).trans h.q5,(World.cell?_of_block (w:=W) e).trans h.q6,(World.cell?_of_block (w:=W) e).trans h.q7,fun o=>(World.frozen?_of_block e).trans (h.z o),(by obtain ⟨a,hc⟩:=h.ty;exact ⟨a,e.trans hc⟩)⟩
theorem QC.below (h:QC W Q u0 u1 u2 u3 u4 u5 u6 u7)(hb:Cx W W'):QC W' Q u0 u1 u2 u3 u4 u5 u6 u7:=h.of_block (hb.block Q h.lt)
theorem jo {W:World}{Q o:Nat}{v:Value}(h:iQ W Q):iQ (W.setCell ⟨Q,o,none⟩ v) Q:=by
 obtain ⟨a,hb⟩:=h;exact ⟨a.setIfInBounds o v,by simp [World.setCell,Array.getElem?_modify,hb]⟩
theorem py (W:World)(u0 u1 u2 u3 u4 u5 u6 u7:Value):QC (W.alloc (.cells #[u0,u1,u2,u3,u4,u5,u6,u7] 44)) W.heap.size u0 u1 u2 u3 u4 u5 u6 u7:=by
 have h:=cG W #[u0,u1,u2,u3,u4,u5,u6,u7] 44;exact ⟨h.cell (i:=0) CI,h.cell (i:=1) CI,h.cell (i:=2) CI,h.cell (i:=3) CI,h.cell (i:=4) CI,h.cell (i:=5) CI,h.cell (i:=6) CI,h.cell (i:=7) CI,fun o=>h.frozen o,(by obtain ⟨c,hc,_⟩:=h;exact ⟨c,hc⟩)⟩
theorem ay {o o':Nat}{v u:Value}(ho:o≠o')(h:W.cell? ⟨Q,o,none⟩=some u):(W.setCell ⟨Q,o',none⟩ v).cell? ⟨Q,o,none⟩=some u:=by
 rw [World.cell?_setCell_other _ _ _ _ CP]
 exact h
theorem QC.set0 (h:QC W Q u0 u1 u2 u3 u4 u5 u6 u7)(v:Value):QC (W.setCell ⟨Q,0,none⟩ v) Q v u1 u2 u3 u4 u5 u6 u7:=
 ⟨World.cell?_setCell_same _ _ _ h.q0,ay CG h.q1,ay CG h.q2,ay CG h.q3,ay CG h.q4,ay CG h.q5,ay CG h.q6,ay CG h.q7,fun o=>(by rw [World.frozen?_setCell];exact h.z o),jo h.ty⟩
theorem QC.set1 (h:QC W Q u0 u1 u2 u3 u4 u5 u6 u7)(v:Value):QC (W.setCell ⟨Q,1,none⟩ v) Q u0 v u2 u3 u4 u5 u6 u7:=
 ⟨ay CG h.q0,World.cell?_setCell_same _ _ _ h.q1,ay CG h.q2,ay CG h.q3,ay CG h.q4,ay CG h.q5,ay CG h.q6,ay CG h.q7,fun o=>(by rw [World.frozen?_setCell];exact h.z o),jo h.ty⟩
theorem QC.set2 (h:QC W Q u0 u1 u2 u3 u4 u5 u6 u7)(v:Value):QC (W.setCell ⟨Q,2,none⟩ v) Q u0 u1 v u3 u4 u5 u6 u7:=
 ⟨ay CG h.q0,ay CG h.q1,World.cell?_setCell_same _ _ _ h.q2,ay CG h.q3,ay CG h.q4,ay CG h.q5,ay CG h.q6,ay CG h.q7,fun o=>(by rw [World.frozen?_setCell];exact h.z o),jo h.ty⟩
theorem QC.set3 (h:QC W Q u0 u1 u2 u3 u4 u5 u6 u7)(v:Value):QC (W.setCell ⟨Q,3,none⟩ v) Q u0 u1 u2 v u4 u5 u6 u7:=
 ⟨ay CG h.q0,ay CG h.q1,ay CG h.q2,World.cell?_setCell_same _ _ _ h.q3,ay CG h.q4,ay CG h.q5,ay CG h.q6,ay CG h.q7,fun o=>(by rw [World.frozen?_setCell];exact h.z o),jo h.ty⟩
theorem QC.set4 (h:QC W Q u0 u1 u2 u3 u4 u5 u6 u7)(v:Value):QC (W.setCell ⟨Q,4,none⟩ v) Q u0 u1 u2 u3 v u5 u6 u7:=
 ⟨ay CG h.q0,ay CG h.q1,ay CG h.q2,ay CG h.q3,World.cell?_setCell_same _ _ _ h.q4,ay CG h.q5,ay CG h.q6,ay CG h.q7,fun o=>(by rw [World.frozen?_setCell];exact h.z o),jo h.ty⟩
theorem QC.set5 (h:QC W Q u0 u1 u2 u3 u4 u5 u6 u7)(v:Value):QC (W.setCell ⟨Q,5,none⟩ v) Q u0 u1 u2 u3 u4 v u6 u7:=
 ⟨ay CG h.q0,ay CG h.q1,ay CG h.q2,ay CG h.q3,ay CG h.q4,World.cell?_setCell_same _ _ _ h.q5,ay CG h.q6,ay CG h.q7,fun o=>(by rw [World.frozen?_setCell];exact h.z o),jo h.ty⟩
theorem QC.set6 (h:QC W Q u0 u1 u2 u3 u4 u5 u6 u7)(v:Value):QC (W.setCell ⟨Q,6,none⟩ v) Q u0 u1 u2 u3 u4 u5 v u7:=
 ⟨ay CG h.q0,ay CG h.q1,ay CG h.q2,ay CG h.q3,ay CG h.q4,ay CG h.q5,World.cell?_setCell_same _ _ _ h.q6,ay CG h.q7,fun o=>(by rw [World.frozen?_setCell];exact h.z o),jo h.ty⟩
theorem QC.set7 (h:QC W Q u0 u1 u2 u3 u4 u5 u6 u7)(v:Value):QC (W.setCell ⟨Q,7,none⟩ v) Q u0 u1 u2 u3 u4 u5 u6 v:=
 ⟨ay CG h.q0,ay CG h.q1,ay CG h.q2,ay CG h.q3,ay CG h.q4,ay CG h.q5,ay CG h.q6,World.cell?_setCell_same _ _ _ h.q7,fun o=>(by rw [World.frozen?_setCell];exact h.z o),jo h.ty⟩
theorem QC.store8 (h:QC W Q u0 u1 u2 u3 u4 u5 u6 u7)(v0 v1 v2 v3 v4 v5 v6 v7:Value):∃ U,U=((((((((W.setCell ⟨Q,0,none⟩ v0).setCell ⟨Q,1,none⟩ v1).setCell ⟨Q,2,none⟩ v2).setCell ⟨Q,3,none⟩ v3).setCell ⟨Q,4,none⟩ v4).setCell ⟨Q,5,none⟩ v5).setCell ⟨Q,6,none⟩ v6).setCell ⟨Q,7,none⟩ v7)/\QC U Q v0 v1 v2 v3 v4 v5 v6 v7/\(∀ k,k≠Q->U.heap[k]? = W.heap[k]?)/\(∀ (B0:Nat) (w0:World),B0<=Q->Below B0 w0 W->Below B0 w0 U)/\W.heap.size<=U.heap.size:=by
 refine ⟨_,rfl,((((((((h.set0 v0).set1 v1).set2 v2).set3 v3).set4 v4).set5 v5).set6 v6).set7 v7),?_,?_,CI⟩
 ·intro k hk
  iterate 8 rw [Below.heap_setCell _ _ _ _ hk]
 ·intro B0 w0 hB hb;exact ((((((((hb.setCell (show B0<=(⟨Q,0,none⟩:Addr).block from hB) v0).setCell (show B0<=(⟨Q,1,none⟩:Addr).block from hB) v1).setCell (show B0<=(⟨Q,2,none⟩:Addr).block from hB) v2).setCell (show B0<=(⟨Q,3,none⟩:Addr).block from hB) v3).setCell (show B0<=(⟨Q,4,none⟩:Addr).block from hB) v4).setCell (show B0<=(⟨Q,5,none⟩:Addr).block from hB) v5).setCell (show B0<=(⟨Q,6,none⟩:Addr).block from hB) v6).setCell (show B0<=(⟨Q,7,none⟩:Addr).block from hB) v7)
end
structure RB (w1 W:World)(A Q B:Nat)(x0:Option Addr)(y0:Nat)(x1:Option Addr)(y1:Nat)(x2:Option Addr)(y2:Nat)(x3:Option Addr)(y3:Nat)(v6 v7:Value)(r:al):Prop where
 hB:Below A w1 W
 AQ:A<=Q
 AB:A<=B
 BW:B<=W.heap.size
 qc:QC W Q (.int .i64 r.start) (.int .i64 r.stop) (.slice x0 r.CE.length y0) (.slice x1 r.CA.length y1) (.slice x2 r.Cy.length y2) (.slice x3 r.CF.length y3) v6 v7
 own:iK W B (.slice x0 r.CE.length y0) (.slice x1 r.CA.length y1) (.slice x2 r.Cy.length y2) (.slice x3 r.CF.length y3) r
theorem kJ {b s:Nat}{xs:List Value}(ty:iQ W Q)(ho:W.ownsRow b e s v n xs)(he:e≠44):¬ v.ownBlock=some Q:=fun eq=>by
 obtain ⟨c,hc⟩:=ty;rcases ho.2 with ⟨h1,_⟩ | ⟨g,d,a,h1,_,h3,_⟩
 ·rw [h1] at eq;cases eq
 ·rw [h1] at eq;simp only [Value.ownBlock,Option.some.injEq] at eq;rw [eq,hc] at h3;simp only [Option.some.injEq,Obj.cells.injEq] at h3;exact he h3.2.1.symm
theorem iK.below {W':World}{v0 v1 v2 v3:Value}{r:al}(h:iK W B v0 v1 v2 v3 r)(hb:Cx W W'):iK W' B v0 v1 v2 v3 r:=⟨aq h.o0 hb,aq h.o1 hb,aq h.o2 hb,aq h.o3 hb⟩
section
variable {w1 W W':World} {A Q B:Nat} {x0 x1 x2 x3:Option Addr} {y0 y1 y2 y3:Nat} {v6 v7:Value} {r:al}
theorem RB.below (h:RB w1 W A Q B x0 y0 x1 y1 x2 y2 x3 y3 v6 v7 r)(hb:Cx W W'):RB w1 W' A Q B x0 y0 x1 y1 x2 y2 x3 y3 v6 v7 r:=
 ⟨h.hB.trans (hb.mono (Nat.le_trans h.AQ (Nat.le_of_lt h.qc.lt))),h.AQ,h.AB,Nat.le_trans h.BW hb.size,h.qc.below hb,h.own.below hb⟩
theorem RB.nQ (h:RB w1 W A Q B x0 y0 x1 y1 x2 y2 x3 y3 v6 v7 r){b e s n:Nat}{v:Value}{xs:List Value}(ho:W.ownsRow b e s v n xs)(he:e≠44):some Q≠v.ownBlock:=fun eq=>by
 obtain ⟨c,hc⟩:=h.qc.ty;rcases ho.2 with ⟨h1,_⟩ | ⟨g,d,a,h1,_,h3,_⟩
 ·rw [h1] at eq;cases eq
 ·rw [h1] at eq;simp only [Value.ownBlock,Option.some.injEq] at eq;rw [<-eq,hc] at h3;simp only [Option.some.injEq,Obj.cells.injEq] at h3;exact he h3.2.1.symm
theorem RB.hBg (h:RB w1 W A Q B x0 y0 x1 y1 x2 y2 x3 y3 v6 v7 r){e s n:Nat}{v:Value}{xs:List Value}(ho:W.ownsRow B e s v n xs){w2:World}(hg:W.grownBy w2 v.ownBlock)(o:Nat)(u:Value):Below A w1 (w2.setCell ⟨Q,o,none⟩ u):=
 (h.hB.trans ((ag.of_grown (S:=fun k=>B<=k) hg (fun k e=>(ho.lt k e).1)).below (Nat.le_trans h.AQ (Nat.le_of_lt h.qc.lt)) (fun k hk hs=>by have:=h.AB;omega))).setCell h.AQ _
theorem RB.set1 (h:RB w1 W A Q B x0 y0 x1 y1 x2 y2 x3 y3 v6 v7 r)(sp:Int):RB w1 (W.setCell ⟨Q,1,none⟩ (.int .i64 sp)) A Q B x0 y0 x1 y1 x2 y2 x3 y3 v6 v7 { r with stop:=sp }:=
 ⟨h.hB.setCell h.AQ _,h.AQ,h.AB,by simpa using h.BW,h.qc.set1 _,⟨ownsRow_setCell_other h.own.o0 (a:=⟨Q,_,none⟩) (fun e=>h.nQ h.own.o0 CJ e.symm) _,ownsRow_setCell_other h.own.o1 (a:=⟨Q,_,none⟩) (fun e=>h.nQ h.own.o1 CJ e.symm) _,ownsRow_setCell_other h.own.o2 (a:=⟨Q,_,none⟩) (fun e=>h.nQ h.own.o2 CJ e.symm) _,ownsRow_setCell_other h.own.o3 (a:=⟨Q,_,none⟩) (fun e=>h.nQ h.own.o3 CJ e.symm) _⟩⟩
theorem RB.set6 (h:RB w1 W A Q B x0 y0 x1 y1 x2 y2 x3 y3 v6 v7 r)(v:Value):RB w1 (W.setCell ⟨Q,6,none⟩ v) A Q B x0 y0 x1 y1 x2 y2 x3 y3 v v7 r:=
 ⟨h.hB.setCell h.AQ _,h.AQ,h.AB,by simpa using h.BW,h.qc.set6 _,⟨ownsRow_setCell_other h.own.o0 (a:=⟨Q,_,none⟩) (fun e=>h.nQ h.own.o0 CJ e.symm) _,ownsRow_setCell_other h.own.o1 (a:=⟨Q,_,none⟩) (fun e=>h.nQ h.own.o1 CJ e.symm) _,ownsRow_setCell_other h.own.o2 (a:=⟨Q,_,none⟩) (fun e=>h.nQ h.own.o2 CJ e.symm) _,ownsRow_setCell_other h.own.o3 (a:=⟨Q,_,none⟩) (fun e=>h.nQ h.own.o3 CJ e.symm) _⟩⟩
theorem RB.over (h:RB w1 W A Q B x0 y0 x1 y1 x2 y2 x3 y3 v6 v7 r)(ov:List aI):RB w1 W A Q B x0 y0 x1 y1 x2 y2 x3 y3 v6 v7 { r with over:=ov }:=⟨h.hB,h.AQ,h.AB,h.BW,h.qc,⟨h.own.o0,h.own.o1,h.own.o2,h.own.o3⟩⟩
theorem RB.push0 (h:RB w1 W A Q B x0 y0 x1 y1 x2 y2 x3 y3 v6 v7 r){e:aM}{x':Option Addr}{y':Nat}{w2:World}(hg:W.grownBy w2 (Value.slice x0 r.CE.length y0).ownBlock)
  (ho:w2.ownsRow B 46 2 (.slice x' (r.CE.length+1) y') (r.CE.length+1) (aG (r.CE++[e]))) :
  RB w1 (w2.setCell ⟨Q,2,none⟩ (.slice x' (r.CE.length+1) y')) A Q B x' y' x1 y1 x2 y2 x3 y3 v6 v7 { r with CE:=r.CE++[e] }:=by
 have hq:QC w2 Q _ _ _ _ _ _ _ _:=h.qc.of_block (hg.block Q h.qc.lt (h.nQ h.own.o0 CJ))
 have c:∀ {b e s n:Nat} {v:Value} {xs:List Value},w2.ownsRow b e s v n xs->e≠44->¬ v.ownBlock=some Q:=fun {b e s n v xs} hoo he eq=>kJ hq.ty hoo he eq
 have d:=hq.set2 (.slice x' (r.CE.length+1) y');refine ⟨h.hBg h.own.o0 hg _ _,h.AQ,h.AB,by have:=hg.size;have:=h.BW;simp;omega,?_,⟨(by simp only [List.length_append,List.length_singleton];exact ownsRow_setCell_other ho (a:=⟨Q,_,none⟩) (c ho CJ) _),ownsRow_setCell_other (h.own.o1.kept hg (aV CJ h.own.o1 h.own.o0)) (a:=⟨Q,_,none⟩) (c (h.own.o1.kept hg (aV CJ h.own.o1 h.own.o0)) CJ) _,ownsRow_setCell_other (h.own.o2.kept hg (aV CJ h.own.o2 h.own.o0)) (a:=⟨Q,_,none⟩) (c (h.own.o2.kept hg (aV CJ h.own.o2 h.own.o0)) CJ) _,ownsRow_setCell_other (h.own.o3.kept hg (aV CJ h.own.o3 h.own.o0)) (a:=⟨Q,_,none⟩) (c (h.own.o3.kept hg (aV CJ h.own.o3 h.own.o0)) CJ) _⟩⟩
 simp only [List.length_append,List.length_singleton];exact d
theorem RB.push1 (h:RB w1 W A Q B x0 y0 x1 y1 x2 y2 x3 y3 v6 v7 r){e:bg}{x':Option Addr}{y':Nat}{w2:World}(hg:W.grownBy w2 (Value.slice x1 r.CA.length y1).ownBlock)
  (ho:w2.ownsRow B 52 2 (.slice x' (r.CA.length+1) y') (r.CA.length+1) (aG (r.CA++[e]))) :
  RB w1 (w2.setCell ⟨Q,3,none⟩ (.slice x' (r.CA.length+1) y')) A Q B x0 y0 x' y' x2 y2 x3 y3 v6 v7 { r with CA:=r.CA++[e] }:=by
 have hq:QC w2 Q _ _ _ _ _ _ _ _:=h.qc.of_block (hg.block Q h.qc.lt (h.nQ h.own.o1 CJ))
 have c:∀ {b e s n:Nat} {v:Value} {xs:List Value},w2.ownsRow b e s v n xs->e≠44->¬ v.ownBlock=some Q:=fun {b e s n v xs} hoo he eq=>kJ hq.ty hoo he eq
 have d:=hq.set3 (.slice x' (r.CA.length+1) y');refine ⟨h.hBg h.own.o1 hg _ _,h.AQ,h.AB,by have:=hg.size;have:=h.BW;simp;omega,?_,⟨ownsRow_setCell_other (h.own.o0.kept hg (aV CJ h.own.o0 h.own.o1)) (a:=⟨Q,_,none⟩) (c (h.own.o0.kept hg (aV CJ h.own.o0 h.own.o1)) CJ) _,(by simp only [List.length_append,List.length_singleton];exact ownsRow_setCell_other ho (a:=⟨Q,_,none⟩) (c ho CJ) _),ownsRow_setCell_other (h.own.o2.kept hg (aV CJ h.own.o2 h.own.o1)) (a:=⟨Q,_,none⟩) (c (h.own.o2.kept hg (aV CJ h.own.o2 h.own.o1)) CJ) _,ownsRow_setCell_other (h.own.o3.kept hg (aV CJ h.own.o3 h.own.o1)) (a:=⟨Q,_,none⟩) (c (h.own.o3.kept hg (aV CJ h.own.o3 h.own.o1)) CJ) _⟩⟩
 simp only [List.length_append,List.length_singleton];exact d
theorem RB.push2 (h:RB w1 W A Q B x0 y0 x1 y1 x2 y2 x3 y3 v6 v7 r){e:Int}{x':Option Addr}{y':Nat}{w2:World}(hg:W.grownBy w2 (Value.slice x2 r.Cy.length y2).ownBlock)
  (ho:w2.ownsRow B 3 1 (.slice x' (r.Cy.length+1) y') (r.Cy.length+1) (bP (r.Cy++[e]))) :
  RB w1 (w2.setCell ⟨Q,4,none⟩ (.slice x' (r.Cy.length+1) y')) A Q B x0 y0 x1 y1 x' y' x3 y3 v6 v7 { r with Cy:=r.Cy++[e] }:=by
 have hq:QC w2 Q _ _ _ _ _ _ _ _:=h.qc.of_block (hg.block Q h.qc.lt (h.nQ h.own.o2 CJ))
 have c:∀ {b e s n:Nat} {v:Value} {xs:List Value},w2.ownsRow b e s v n xs->e≠44->¬ v.ownBlock=some Q:=fun {b e s n v xs} hoo he eq=>kJ hq.ty hoo he eq
 have d:=hq.set4 (.slice x' (r.Cy.length+1) y');refine ⟨h.hBg h.own.o2 hg _ _,h.AQ,h.AB,by have:=hg.size;have:=h.BW;simp;omega,?_,⟨ownsRow_setCell_other (h.own.o0.kept hg (aV CJ h.own.o0 h.own.o2)) (a:=⟨Q,_,none⟩) (c (h.own.o0.kept hg (aV CJ h.own.o0 h.own.o2)) CJ) _,ownsRow_setCell_other (h.own.o1.kept hg (aV CJ h.own.o1 h.own.o2)) (a:=⟨Q,_,none⟩) (c (h.own.o1.kept hg (aV CJ h.own.o1 h.own.o2)) CJ) _,(by simp only [List.length_append,List.length_singleton];exact ownsRow_setCell_other ho (a:=⟨Q,_,none⟩) (c ho CJ) _),ownsRow_setCell_other (h.own.o3.kept hg (aV CJ h.own.o3 h.own.o2)) (a:=⟨Q,_,none⟩) (c (h.own.o3.kept hg (aV CJ h.own.o3 h.own.o2)) CJ) _⟩⟩
 simp only [List.length_append,List.length_singleton];exact d
theorem RB.push3 (h:RB w1 W A Q B x0 y0 x1 y1 x2 y2 x3 y3 v6 v7 r){e:aI}{x':Option Addr}{y':Nat}{w2:World}(hg:W.grownBy w2 (Value.slice x3 r.CF.length y3).ownBlock)
  (ho:w2.ownsRow B 48 3 (.slice x' (r.CF.length+1) y') (r.CF.length+1) (bG (r.CF++[e]))) :
  RB w1 (w2.setCell ⟨Q,5,none⟩ (.slice x' (r.CF.length+1) y')) A Q B x0 y0 x1 y1 x2 y2 x' y' v6 v7 { r with CF:=r.CF++[e] }:=by
 have hq:QC w2 Q _ _ _ _ _ _ _ _:=h.qc.of_block (hg.block Q h.qc.lt (h.nQ h.own.o3 CJ))
 have c:∀ {b e s n:Nat} {v:Value} {xs:List Value},w2.ownsRow b e s v n xs->e≠44->¬ v.ownBlock=some Q:=fun {b e s n v xs} hoo he eq=>kJ hq.ty hoo he eq
 have d:=hq.set5 (.slice x' (r.CF.length+1) y');refine ⟨h.hBg h.own.o3 hg _ _,h.AQ,h.AB,by have:=hg.size;have:=h.BW;simp;omega,?_,⟨ownsRow_setCell_other (h.own.o0.kept hg (aV CJ h.own.o0 h.own.o3)) (a:=⟨Q,_,none⟩) (c (h.own.o0.kept hg (aV CJ h.own.o0 h.own.o3)) CJ) _,ownsRow_setCell_other (h.own.o1.kept hg (aV CJ h.own.o1 h.own.o3)) (a:=⟨Q,_,none⟩) (c (h.own.o1.kept hg (aV CJ h.own.o1 h.own.o3)) CJ) _,ownsRow_setCell_other (h.own.o2.kept hg (aV CJ h.own.o2 h.own.o3)) (a:=⟨Q,_,none⟩) (c (h.own.o2.kept hg (aV CJ h.own.o2 h.own.o3)) CJ) _,(by simp only [List.length_append,List.length_singleton];exact ownsRow_setCell_other ho (a:=⟨Q,_,none⟩) (c ho CJ) _)⟩⟩
 simp only [List.length_append,List.length_singleton];exact d
end
theorem xu {P:Program}{Wp:World}{ops:Array Oper}{o:Oper}{a:Act}{K:Act->World->Prop}{Q:Exit->Act->World->Prop}{E:Prop}(hgd:o.guard=none)(s x:Operand)(t:TypeId)
  (ho:o.op = .call { callee:=.builtin .append,args:=#[s,x],argTypes:=#[t,t] })
  (B:Nat) (e:TypeId) (z:Value) (size bytes:Nat) (ht:P.underlying t=some (.slice e)) (hi:(P.info? e).map (fun i=>(i.zero,i.size,i.bytes))=some (some z,size,bytes)) (hzs:z.cells.size=size) (hsz:0<size)
  (v:Value) (n:Nat) (xs:List Value) (hs:a.eval s=v) (hown:Wp.ownsRow B e size v n xs)
  (g:Nat) (hgs:g=Wp.heap.size) (news:List Value) (hx:a.eval x = .slice (some ⟨g,0,none⟩) 1 1) (hl:news.length=size) (h1:∀ u ∈ news,u.oneCell'=true)
  (h63:n+1<=maxLen) (hbytes:(n+1)*bytes<=140737488355328) (hB:B<=Wp.heap.size)
  (h:∀ x' y' w',w'.ownsRow B e size (.slice x' (n+1) y') (n+1) (xs++news)->Wp.grownBy w' v.ownBlock->K (a.put o.dst (.slice x' (n+1) y')) w') :
  if Region.wanted o (yielded ops a.tmps)=true then Oper.wp P o a (Wp.alloc (.cells news.toArray e)) K Q else E:=by
 subst hgs;obtain ⟨i,c,d,f,l⟩:=info_parts hi;refine step_append_lies _ hgd s x t ho B e i z size bytes ht c d f l hzs hsz v n xs hs (hown.alloc _) ⟨Wp.heap.size,0,none⟩ 1 1 news hx CG ?_ h1 CG h63 hbytes CN _ rfl ?_
 ·intro j u hu;rw [bH,Nat.zero_add];have:=cell_of_row (Wp.alloc (.cells news.toArray e)) Wp.heap.size j news.toArray e (0,0) (heap_alloc_new Wp _);refine Eq.trans this ?_;simpa using hu
 ·intro g p w' m b hq _;refine h _ _ w' m ⟨b.os,b.tape,b.output,Nat.le_trans CI b.size,fun k hk hne=>?_⟩
  exact (b.block k CN hne).trans (Below.heap_alloc _ _ _ hk)
theorem lA {s:Nat}{xs:List Value}(h:w.ownsRow B e s v n xs):n<=maxLen:=by
 rcases h.2 with ⟨_,h2⟩ | ⟨g,a,b,_,_,_,h3,h4,_⟩
 ·rw [h2];exact Nat.zero_le _
 ·exact Nat.le_trans h3 h4
theorem cz {es:List am}(h:w.ownsRow B e 2 (.slice x es.length y) es.length (aG es)):aT w x es/\(x=none->es.length=0/\y=0):=by
 obtain ⟨a,c,e1,e2,e3,_⟩:=kj h (lA h);cases e1;exact ⟨e2,e3⟩
theorem eJ {es:List Int}(h:w.ownsRow B e 1 (.slice x es.length y) es.length (bP es)):bV w x es/\(x=none->es.length=0/\y=0):=by
 obtain ⟨a,c,e1,e2,e3,_⟩:=Ca h (lA h);cases e1;exact ⟨e2,e3⟩
theorem ei {es:List aI}(h:w.ownsRow B e 3 (.slice x es.length y) es.length (bG es)):bw w x es/\(x=none->es.length=0/\y=0):=by
 obtain ⟨a,c,e1,e2,e3,_⟩:=Cw h (lA h);cases e1;exact ⟨e2,e3⟩
theorem jt {es:List aN}(h:w.ownsRow B e 4 (.slice x es.length y) es.length (bO es)):cw w x es/\(x=none->es.length=0/\y=0):=by
 obtain ⟨a,c,e1,e2,e3,_⟩:=Cv h (lA h);cases e1;exact ⟨e2,e3⟩
theorem vK {w1 w':World}{F A B4 B5:Nat}{x0 x1 x2 x3 x4 x5:Option Addr}{y0 y1 y2 y3 y4 y5:Nat}{v' v7:Value}{r:al}{ov:List aI}{fl:List aN}(h:RB w1 w A Q B x0 y0 x1 y1 x2 y2 x3 y3 (.slice x4 ov.length y4) v7 r)(hF:F<B)
  (h4:w.ownsRow B4 48 3 (.slice x4 ov.length y4) ov.length (bG ov)) (hF4:F<B4) (he:Eff F v v' w w') (h5:w'.ownsRow B5 50 4 (.slice x5 fl.length y5) fl.length (bO fl)) (hF5:F<B5) :
  fH w' F ⟨x0,y0,x1,y1,x2,y2,x3,y3,x4,y4,x5,y5⟩ { r with over:=ov,Cz:=fl }:=by
 have n0:=iv h.own.o0 CJ hF
 have n1:=iv h.own.o1 CJ hF
 have n2:=iv h.own.o2 CJ hF
 have n3:=iv h.own.o3 CJ hF
 have n4:=iv h4 CJ hF4
 have n5:=iv h5 CJ hF5
 refine ⟨⟨(cz h.own.o0).1.kept (n0.same he),(cz h.own.o1).1.kept (n1.same he),(eJ h.own.o2).1.kept (n2.same he),(ei h.own.o3).1.kept (n3.same he),(ei h4).1.kept (n4.same he),(jt h5).1,fun e=>((cz h.own.o1).2 e).2⟩,n0.kept he,n1.kept he,n2.kept he,n3.kept he,n4.kept he,n5⟩
theorem tf {w0 w1 w':World}{F A B4:Nat}{pa ja sa:Option Addr}{pc jc sc:Nat}{ps:List af}{js:List aj}{ss:List af}{over:Int}{t:Nat}{xo:Option Addr}{yo:Nat}{pr:List (aL × al)}{x0 x1 x2 x3 x4:Option Addr}{y0 y1 y2 y3 y4:Nat}{v7:Value}{st sp:Int}{CE:List aM}{CA:List bg}{Cy:List Int}{CF ov:List aI}{e:Ending}
  (hs:WS w0 W F pa ja sa pc jc sc ps.length js.length ss.length over xo yo (t+1) pr) (hE:Eff F (.slice xo pr.length yo) (.slice xo pr.length yo) w W) (h:RB w1 W A Q B x0 y0 x1 y1 x2 y2 x3 y3 (.slice x4 ov.length y4) v7 ⟨st,sp,CE,CA,Cy,CF,ov,[]⟩) (hF:F<B)
  (h4:W.ownsRow B4 48 3 (.slice x4 ov.length y4) ov.length (bG ov)) (hF4:F<B4)
  (hd:j5 F (F+1) pr.length (.slice xo pr.length yo) (fG pr) W (aS ps js ss CA CA) (fun xf yf=>[.int .i64 st,.int .i64 sp,.slice x0 CE.length y0,.slice x1 CA.length y1,.slice x2 Cy.length y2,.slice x3 CF.length y3,.slice x4 ov.length y4,.slice xf (aS ps js ss CA CA).length yf]) e w')
  {p':aw} (hp':p'.ended=true) (hr:(⟨st,sp,CE,CA,Cy,CF,ov,aS ps js ss CA CA⟩:al)=dr ps js ss over p') (ht:t+1<=20000) (hpr:pr.length<=300) :
  fB w0 w F pa ja sa pc jc sc ps js ss over (n+1) t (.slice xo pr.length yo) (pr.map Prod.snd) [p'] e w':=by
 obtain ⟨he,x',y',dd,hw,b⟩:=hs.more hd (fun a c=>⟨x0,y0,x1,y1,x2,y2,x3,y3,x4,y4,a,c⟩) ⟨st,sp,CE,CA,Cy,CF,ov,aS ps js ss CA CA⟩ (fun a c=>rfl) (fun a c v' h5 d=>vK h hF h4 hF4 d h5 (by have:=hs.lt;omega))
 refine ⟨he,x',y',t+1,pr++[(dd,_)],hw,?_,?_,CG,CN⟩
 ·have el:(pr++[(dd,(⟨st,sp,CE,CA,Cy,CF,ov,aS ps js ss CA CA⟩:al))]).length=pr.length+1:=CI
  rw [el];exact hE.trans b
 ·rw [List.map_append];exact eO.made hp' ht hr
end Go.Proofs.YtmkdgnmmebldgaaGreatDoor
