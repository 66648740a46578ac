import Derived.Test.YtmkdgnmmebldgaaGreatDoorPk42
import Derived.Test.YtmkdgnmmebldgaaGreatDoorPk4
import Derived.Test.YtmkdgnmmebldgaaGreatDoorPk21
import Derived.Test.YtmkdgnmmebldgaaGreatDoorPk35
import Derived.Deep.DeepCutAuto
import Derived.Deep.CutBlock
import Derived.Test.YtmkdgnmmebldgaaGreatDoorPk34
import Derived.Test.YtmkdgnmmebldgaaGreatDoorPk32
set_option maxRecDepth 100000
set_option maxHeartbeats 8000000
open Go.Proofs.Tryz
namespace Go.Proofs.YtmkdgnmmebldgaaGreatDoor
open Go.RowKit Go.Deep
variable {B N R g:Nat}{a:Option Addr}{d:aL}{r:al}{u w:World}
theorem aA.get (h:aA w N 0 d r):∀ i u,(gE (d,r))[i]? = some u->w.cell? ⟨N,i,none⟩=some u
 | 0,u,hu=>by cases hu;exact h.k0
 | 1,u,hu=>by cases hu;exact h.k1
 | 2,u,hu=>by cases hu;exact h.k2
 | 3,u,hu=>by cases hu;exact h.k3
 | 4,u,hu=>by cases hu;exact h.k4
 | 5,u,hu=>by cases hu;exact h.k5
 | 6,u,hu=>by cases hu;exact h.k6
 | 7,u,hu=>by cases hu;exact h.k7
 | _+8,u,hu=>by cases hu
theorem aA.of (h:∀ i u,(gE (d,r))[i]? = some u->w.cell? ⟨N,i,none⟩=some u):aA w N 0 d r:=
 ⟨h 0 _ rfl,h 1 _ rfl,h 2 _ rfl,h 3 _ rfl,h 4 _ rfl,h 5 _ rfl,h 6 _ rfl,h 7 _ rfl⟩
theorem aA.set {d':aL}{r':al}(h:aA w N 0 d r)(j:Nat)(_hj:j<8)(v:Value)(he:gE (d',r')=(gE (d,r)).set j v):aA (w.setCell ⟨N,j,none⟩ v) N 0 d' r':=by
 refine aA.of (fun i u hu=>?_)
 rw [he,List.getElem?_set] at hu
 split at hu
 ·rename_i e;subst e
  split at hu
  ·cases hu;obtain ⟨x,hx⟩:∃ x,(gE (d,r))[j]? = some x:=⟨_,List.getElem?_eq_getElem (by rename_i h9;exact h9)⟩
   exact World.cell?_setCell_same _ _ _ (h.get j x hx)
  ·cases hu
 ·rename_i e;rw [World.cell?_setCell_other _ _ _ _ (by intro e2;injection e2 with _ e2;exact e e2)]
  exact h.get i u hu
section
variable {W w w':World} {C N B:Nat} {ca:Option Addr} {cc:Nat} {bs:List Int} {at_ top:Nat} {d d':aL} {r r':al}
end
theorem cO {e s n y:Nat}{x:Option Addr}{xs:List Value}(h:w.ownsRow B e s (.slice x n y) n xs)(h0:0<n):∃ g,x=some ⟨g,0,none⟩:=by
 rcases h.2 with ⟨_,h2⟩ | ⟨g,a,b,h1,_⟩
 ·omega
 ·injection h1 with h1;exact ⟨g,h1⟩
theorem gg {e s n:Nat}{v:Value}{xs:List Value}(h:w.ownsRow B e s v n xs):∃ x y,v = .slice x n y:=by
 rcases h.2 with ⟨h1,h2⟩ | ⟨g,a,b,h1,_⟩
 ·subst h2;exact ⟨_,_,h1⟩
 ·exact ⟨_,_,h1⟩
section
variable {W w w':World} {C N B:Nat} {ca:Option Addr} {cc:Nat} {bs:List Int} {at_ top:Nat} {d:aL} {r:al}
end
structure R6 (w:World)(B:Nat)(d:aL)(r:al):Prop where
 o0:w.ownsRow B 46 2 (.slice d.a0 r.CE.length d.c0) r.CE.length (aG r.CE)
 o2:w.ownsRow B 3 1 (.slice d.a2 r.Cy.length d.c2) r.Cy.length (bP r.Cy)
 o3:w.ownsRow B 48 3 (.slice d.a3 r.CF.length d.c3) r.CF.length (bG r.CF)
 o4:w.ownsRow B 48 3 (.slice d.a4 r.over.length d.c4) r.over.length (bG r.over)
theorem R6.kept {w':World}(h:R6 w B d r)(hk:∀ b,B<=b->b<w.heap.size->w'.heap[b]? = w.heap[b]?):R6 w' B d r:=
 ⟨ax h.o0 (fun b hb=>hk b (h.o0.lt b hb).1 (h.o0.lt b hb).2),ax h.o2 (fun b hb=>hk b (h.o2.lt b hb).1 (h.o2.lt b hb).2),ax h.o3 (fun b hb=>hk b (h.o3.lt b hb).1 (h.o3.lt b hb).2),ax h.o4 (fun b hb=>hk b (h.o4.lt b hb).1 (h.o4.lt b hb).2)⟩
structure tK (r:al):Prop where
 s:lg r
 s4:r.over.length<=200000
 s5:r.Cz.length<=50000
theorem fU {α:Type}{P:Nat->α->Prop}:∀ n,(∀ i,i<n->∃ x,P i x)->∃ l:List α,l.length=n/\∀ i (hi:i<l.length),P i l[i]
 | 0,_=>⟨[],rfl,fun i hi=>absurd hi (Nat.not_lt_zero _)⟩
 | n+1,h=>by
  obtain ⟨l,hl,hp⟩:=fU n (fun i hi=>h i CG)
  obtain ⟨x,hx⟩:=h n CG
  refine ⟨l++[x],by simp [hl],fun i hi=>?_⟩
  by_cases e:i<l.length
  ·rw [List.getElem_append_left e];exact hp i e
  ·have e2:i=l.length:=by simp at hi;omega
   subst e2;simpa [hl] using hx
def b8 (S:Nat->Prop)(w u:World):Prop := ∀ (b o:Nat) (v:Int),¬ S b->w.cell? ⟨b,o,none⟩=some (.int .i64 v)->∃ v',u.cell? ⟨b,o,none⟩=some (.int .i64 v')
section
variable {S:Nat->Prop} {w u v:World}
theorem b8.refl:b8 S w w:=fun _ _ v _ h=>⟨v,h⟩
theorem b8.trans (h:b8 S w u)(k:b8 S u v):b8 S w v:=fun b o x hb hx=>by
 obtain ⟨y,hy⟩:=h b o x hb hx;exact k b o y hb hy
theorem b8.below (h:Cx w u):b8 S w u:=fun _ _ x _ hx=>⟨x,cell_later h hx⟩
theorem b8.set {b o:Nat}{x y:Value}(hx:w.cell? ⟨b,o,none⟩=some x)(hxy:(∃ z,y = .int .i64 z)\/∀ z,x≠.int .i64 z):b8 S w (w.setCell ⟨b,o,none⟩ y):=fun b' o' z _ hz=>by
 by_cases e:(⟨b',o',none⟩:Addr)=⟨b,o,none⟩
 ·rw [e] at hz ⊢;rcases hxy with ⟨z',rfl⟩ | h
  ·exact ⟨z',World.cell?_setCell_same _ _ _ hx⟩
  ·rw [hx] at hz;exact absurd (Option.some.inj hz) (h z)
 ·exact ⟨z,by rw [World.cell?_setCell_other _ _ _ _ (fun h=>e h.symm)];exact hz⟩
theorem b8.drawn {C:Nat}{ca:Option Addr}{cc:Nat}{bs:List Int}{at_ at':Nat}(hc:Cur w C ca cc bs at_)(hc':Cur u C ca cc bs at')(ho:ag (fun k=>k=C) w u):b8 S w u:=fun b o x _ hx=>by
 by_cases e:b=C
 ·subst e
  by_cases h3:3<=o
  ·rw [hc.sz o h3] at hx;cases hx
  ·have:o=0\/o=1\/o=2:=CG
   rcases this with rfl | rfl | rfl
   ·rw [hc.c0] at hx;cases hx
   ·exact ⟨at',hc'.c1⟩
   ·obtain ⟨s,hs⟩:=hc.c2;rw [hs] at hx;cases hx
 ·exact ⟨x,ho.cell hx e⟩
def Off (S:Nat->Prop)(a:Option Addr):Prop := ∀ b o,a=some ⟨b,o,none⟩->¬ S b
theorem aT.ints {a:Option Addr}{es:List am}(h:aT w a es)(hk:b8 S w u)(hS:Off S a):∃ es',es'.length=es.length/\aT u a es':=by
 rcases h.2 with e | ⟨b,off,ha,hc⟩
 ·exact ⟨es,rfl,h.1,Or.inl e⟩
 ·obtain ⟨l,hl,hp⟩:=fU (P:=fun i (x:am)=>u.cell? ⟨b,off+i*2,none⟩=some (.int .i64 x.CB)/\u.cell? ⟨b,off+i*2+1,none⟩=some (.int .i64 x.side)) es.length (fun i hi=>by
   obtain ⟨y0,h0⟩:=hk _ _ _ (hS b off ha) (hc i hi).1;obtain ⟨y1,h1⟩:=hk _ _ _ (hS b off ha) (hc i hi).2;exact ⟨⟨y0,y1⟩,h0,h1⟩)
  exact ⟨l,hl,by rw [hl];exact h.1,Or.inr ⟨b,off,ha,hp⟩⟩
theorem bV.ints {a:Option Addr}{es:List Int}(h:bV w a es)(hk:b8 S w u)(hS:Off S a):∃ es',es'.length=es.length/\bV u a es':=by
 rcases h.2 with e | ⟨b,off,ha,hc⟩
 ·exact ⟨es,rfl,h.1,Or.inl e⟩
 ·obtain ⟨l,hl,hp⟩:=fU (P:=fun i (x:Int)=>u.cell? ⟨b,off+i,none⟩=some (.int .i64 x)) es.length (fun i hi=>hk _ _ _ (hS b off ha) (hc i hi))
  exact ⟨l,hl,by rw [hl];exact h.1,Or.inr ⟨b,off,ha,hp⟩⟩
theorem bw.ints {a:Option Addr}{es:List aI}(h:bw w a es)(hk:b8 S w u)(hS:Off S a):∃ es',es'.length=es.length/\bw u a es':=by
 rcases h.2 with e | ⟨b,off,ha,hc⟩
 ·exact ⟨es,rfl,h.1,Or.inl e⟩
 ·obtain ⟨l,hl,hp⟩:=fU (P:=fun i (x:aI)=>u.cell? ⟨b,off+i*3,none⟩=some (.int .i64 x.CB)/\u.cell? ⟨b,off+i*3+1,none⟩=some (.int .i64 x.lo)/\u.cell? ⟨b,off+i*3+2,none⟩=some (.int .i64 x.hi)) es.length (fun i hi=>by
   obtain ⟨y0,h0⟩:=hk _ _ _ (hS b off ha) (hc i hi).1;obtain ⟨y1,h1⟩:=hk _ _ _ (hS b off ha) (hc i hi).2.1;obtain ⟨y2,h2⟩:=hk _ _ _ (hS b off ha) (hc i hi).2.2;exact ⟨⟨y0,y1,y2⟩,h0,h1,h2⟩)
  exact ⟨l,hl,by rw [hl];exact h.1,Or.inr ⟨b,off,ha,hp⟩⟩
theorem cw.ints {a:Option Addr}{es:List aN}(h:cw w a es)(hk:b8 S w u)(hS:Off S a):∃ es',es'.length=es.length/\cw u a es':=by
 rcases h.2 with e | ⟨b,off,ha,hc⟩
 ·exact ⟨es,rfl,h.1,Or.inl e⟩
 ·obtain ⟨l,hl,hp⟩:=fU (P:=fun i (x:aN)=>u.cell? ⟨b,off+i*4,none⟩=some (.int .i64 x.place)/\u.cell? ⟨b,off+i*4+1,none⟩=some (.int .i64 x.kind)/\u.cell? ⟨b,off+i*4+2,none⟩=some (.int .i64 x.of)/\u.cell? ⟨b,off+i*4+3,none⟩=some (.int .i64 x.lie)) es.length (fun i hi=>by
   obtain ⟨y0,h0⟩:=hk _ _ _ (hS b off ha) (hc i hi).1;obtain ⟨y1,h1⟩:=hk _ _ _ (hS b off ha) (hc i hi).2.1;obtain ⟨y2,h2⟩:=hk _ _ _ (hS b off ha) (hc i hi).2.2.1;obtain ⟨y3,h3⟩:=hk _ _ _ (hS b off ha) (hc i hi).2.2.2;exact ⟨⟨y0,y1,y2,y3⟩,h0,h1,h2,h3⟩)
  exact ⟨l,hl,by rw [hl];exact h.1,Or.inr ⟨b,off,ha,hp⟩⟩
structure nS (r r':al):Prop where
 n0:r'.CE.length=r.CE.length
 n1:r'.CA.length=r.CA.length
 n2:r'.Cy.length=r.Cy.length
 n3:r'.CF.length=r.CF.length
 n4:r'.over.length=r.over.length
 n5:r'.Cz.length=r.Cz.length
 st:r'.start=r.start
 sp:r'.stop=r.stop
def ke (S:Nat->Prop)(d:aL)(r:al):Prop:=(r.CE=[]\/Off S d.a0)/\(r.CA=[]\/Off S d.a1)/\(r.Cy=[]\/Off S d.a2)/\(r.CF=[]\/Off S d.a3)/\(r.over=[]\/Off S d.a4)/\(r.Cz=[]\/Off S d.a5)
theorem ke.none {d:aL}{r:al}:ke (fun _=>False) d r:=⟨Or.inr fun _ _ _ h=>h,Or.inr fun _ _ _ h=>h,Or.inr fun _ _ _ h=>h,Or.inr fun _ _ _ h=>h,Or.inr fun _ _ _ h=>h,Or.inr fun _ _ _ h=>h⟩
theorem bq.ints {d:aL}{r:al}(h:bq w d r)(hk:b8 S w u)(hS:ke S d r):∃ r',nS r r'/\bq u d r':=by
 obtain ⟨s0,s1,s2,s3,s4,s5⟩:=hS;have g0:∃ es',es'.length=r.CE.length/\aT u d.a0 es':=s0.elim (fun e=>⟨[],by rw [e],Nat.zero_le _,Or.inl rfl⟩) (h.CE.ints hk)
 have g1:∃ es',es'.length=r.CA.length/\aT u d.a1 es':=s1.elim (fun e=>⟨[],by rw [e],Nat.zero_le _,Or.inl rfl⟩) (h.CA.ints hk)
 have g2:∃ es',es'.length=r.Cy.length/\bV u d.a2 es':=s2.elim (fun e=>⟨[],by rw [e],Nat.zero_le _,Or.inl rfl⟩) (h.Cy.ints hk)
 have g3:∃ es',es'.length=r.CF.length/\bw u d.a3 es':=s3.elim (fun e=>⟨[],by rw [e],Nat.zero_le _,Or.inl rfl⟩) (h.CF.ints hk)
 have g4:∃ es',es'.length=r.over.length/\bw u d.a4 es':=s4.elim (fun e=>⟨[],by rw [e],Nat.zero_le _,Or.inl rfl⟩) (h.over.ints hk)
 have g5:∃ es',es'.length=r.Cz.length/\cw u d.a5 es':=s5.elim (fun e=>⟨[],by rw [e],Nat.zero_le _,Or.inl rfl⟩) (h.Cz.ints hk)
 obtain ⟨e0,l0,h0⟩:=g0;obtain ⟨e1,l1,h1⟩:=g1;obtain ⟨e2,l2,h2⟩:=g2;obtain ⟨e3,l3,h3⟩:=g3;obtain ⟨e4,l4,h4⟩:=g4;obtain ⟨e5,l5,h5⟩:=g5;exact ⟨⟨r.start,r.stop,e0,e1,e2,e3,e4,e5⟩,⟨l0,l1,l2,l3,l4,l5,rfl,rfl⟩,h0,h1,h2,h3,h4,h5,h.nil1⟩
theorem aA.sameL {b o:Nat}{d:aL}{r r':al}(h:aA w b o d r)(k:nS r r'):aA w b o d r':=
 ⟨by rw [k.st];exact h.k0,by rw [k.sp];exact h.k1,by rw [k.n0];exact h.k2,by rw [k.n1];exact h.k3,by rw [k.n2];exact h.k4,by rw [k.n3];exact h.k5,by rw [k.n4];exact h.k6,by rw [k.n5];exact h.k7⟩
end
def gO (w:World)(R:Nat):Prop := ∀ o v,w.cell? ⟨R,o,none⟩=some v->∃ a n c,v = .slice a n c
theorem ar.offR {ps:List af}(h:ar w a ps)(hR:gO w R)(ho:ag (fun k=>k=R) w u):ar u a ps:=by
 refine ⟨h.1,h.2.1,h.2.2.imp id (fun ⟨b,off,ha,hc⟩=>⟨b,off,ha,fun i hi=>?_⟩)⟩
 obtain ⟨c0,c1,c2,c3⟩:=hc i hi;have hb:b≠R:=fun e=>by subst e;obtain ⟨_,_,_,e⟩:=hR _ _ c0;cases e
 exact ⟨ho.cell c0 hb,ho.cell c1 hb,ho.cell c2 hb,ho.cell c3 hb⟩
theorem aT.offR {ps:List am}(h:aT w a ps)(hR:gO w R)(ho:ag (fun k=>k=R) w u):aT u a ps:=by
 refine ⟨h.1,h.2.imp id (fun ⟨b,off,ha,hc⟩=>⟨b,off,ha,fun i hi=>?_⟩)⟩
 obtain ⟨c0,c1⟩:=hc i hi;have hb:b≠R:=fun e=>by subst e;obtain ⟨_,_,_,e⟩:=hR _ _ c0;cases e
 exact ⟨ho.cell c0 hb,ho.cell c1 hb⟩
theorem aP.offR {js:List aj}(h:aP w a js)(hR:gO w R)(ho:ag (fun k=>k=R) w u):aP u a js:=by
 refine ⟨h.1,h.2.1,h.2.2.imp id (fun ⟨b,off,ha,hc⟩=>⟨b,off,ha,fun i hi=>?_⟩)⟩
 obtain ⟨c0,c1,ea,ec,c2,c3⟩:=hc i hi;have hb:b≠R:=fun e=>by subst e;obtain ⟨_,_,_,e⟩:=hR _ _ c0;cases e
 exact ⟨ho.cell c0 hb,ho.cell c1 hb,ea,ec,ho.cell c2 hb,c3.offR hR ho⟩
theorem b8.route {S:Nat->Prop}{d0:aL}{r0:al}(h0:aA w R 0 d0 r0)(h8:∀ o,8<=o->w.cell? ⟨R,o,none⟩=none)(h1:aA u R 0 d r)(ho:ag (fun k=>k=R) w u):b8 S w u:=fun b o x _ hx=>by
 by_cases e:b=R
 ·subst e
  by_cases h:8<=o
  ·rw [h8 o h] at hx;cases hx
  ·have a:=h0.get o;have:o=0\/o=1\/2<=o:=CG
   rcases this with rfl | rfl | h2
   ·exact ⟨_,h1.k0⟩
   ·exact ⟨_,h1.k1⟩
   ·exfalso;have:o=2\/o=3\/o=4\/o=5\/o=6\/o=7:=CG
    rcases this with rfl | rfl | rfl | rfl | rfl | rfl <;> (have h9:=a _ rfl;rw [h9] at hx;cases hx)
 ·exact ⟨x,ho.cell hx e⟩
theorem oO {r':al}(h:nS r r'):cC d r'=cC d r:=by
 unfold cC;rw [h.n0,h.n1,h.n2,h.n3,h.n4,h.n5,h.st,h.sp]
structure LG (w:World)(B:Nat)(d:aL)(r:al):Prop where
 o1:w.ownsRow B 52 2 (.slice d.a1 r.CA.length d.c1) r.CA.length (aG r.CA)
 o5:w.ownsRow B 50 4 (.slice d.a5 r.Cz.length d.c5) r.Cz.length (bO r.Cz)
theorem LG.keep {w':World}(h:LG w B d r)(hk:∀ b,B<=b->b<w.heap.size->True->w'.heap[b]? = w.heap[b]?):LG w' B d r:=
 ⟨ax h.o1 (fun b hb=>hk b (h.o1.lt b hb).1 (h.o1.lt b hb).2 trivial),ax h.o5 (fun b hb=>hk b (h.o5.lt b hb).1 (h.o5.lt b hb).2 trivial)⟩
theorem iP (h:R6 w B d r)(k:LG w B d r):bq w d r:=
 ⟨(cz h.o0).1,(cz k.o1).1,(eJ h.o2).1,(ei h.o3).1,(ei h.o4).1,(jt k.o5).1,fun e=>((cz k.o1).2 e).2⟩
theorem ww {es:List aI}(h:bw w (some ⟨g,0,none⟩) es){x:Option Addr}(hx:es.length=1\/x=some ⟨g,3,none⟩):bw w x (es.drop 1):=by
 refine ⟨by have:=h.1;rw [List.length_drop];omega,?_⟩
 rcases hx with h1 | h1
 ·exact Or.inl (List.drop_eq_nil_of_le CG)
 ·rcases h.2 with e | ⟨b,off,e,hc⟩
  ·exact Or.inl (by rw [e];rfl)
  ·cases e;refine Or.inr ⟨g,3,h1,fun i hi=>?_⟩
   rw [List.length_drop] at hi;obtain ⟨c0,c1,c2⟩:=hc (i+1) CG
   have e0:0+(i+1)*3=3+i*3:=CG
   rw [e0] at c0 c1 c2;have e1:(es.drop 1)[i]'(by rw [List.length_drop];exact hi)=es[i+1]:=by rw [List.getElem_drop];congr 1;omega
   rw [e1];exact ⟨c0,c1,c2⟩
def Bm (W:World)(C N B:Nat)(ca:Option Addr)(cc:Nat)(bs:List Int)(top:Nat)(wx:World):Prop:=
 ∃ d r at',aA wx N 0 d r/\bq wx d r/\at'<=top/\Cur wx C ca cc bs at'/\ag (fun k=>k=C\/k=N\/B<=k) W wx
section
variable {W w w':World} {C N B:Nat} {ca:Option Addr} {cc:Nat} {bs:List Int} {at_ top:Nat} {d d':aL} {r r':al}
theorem Bm.mkk (hr:aA w' N 0 d r)(hl:bq w' d r)(hc:Cur w C ca cc bs at_)(hlow:eQ C ca bs)(hCN:C<N)(hNB:N<B)(ho:ag (fun k=>k=C\/k=N\/B<=k) W w)(hat:at_<=top)(hgr:ag (fun k=>k=N\/B<=k) w w'):Bm W C N B ca cc bs top w':=
 ⟨d,r,at_,hr,hl,hat,hc.above hlow (fun k hk=>hgr.block k (by have:=hc.lt;omega) CG),ho.trans (hgr.mono (fun k hk=>Or.inr hk))⟩
theorem Bm.seti (hr:aA w N 0 d r)(hl:bq w d' r')(hc:Cur w C ca cc bs at_)(hlow:eQ C ca bs)(hCN:C<N)(hNB:N<B)(ho:ag (fun k=>k=C\/k=N\/B<=k) W w)(hat:at_<=top)(j:Nat)(hj2:2<=j)(hj:j<8)(v:Value)(he:gE (d',r')=(gE (d,r)).set j v):Bm W C N B ca cc bs top (w.setCell ⟨N,j,none⟩ v):=by
 have hx:∃ x,w.cell? ⟨N,j,none⟩=some x/\∀ z,x≠.int .i64 z:=by
  have:j=2\/j=3\/j=4\/j=5\/j=6\/j=7:=CG
  rcases this with rfl | rfl | rfl | rfl | rfl | rfl <;> exact ⟨_,hr.get _ _ rfl,fun z e=>by cases e⟩
 obtain ⟨x,hx,hz⟩:=hx;obtain ⟨r2,hs,a⟩:=hl.ints (S:=fun _=>False) (b8.set hx (Or.inr hz)) ke.none
 exact Bm.mkk ((hr.set j hj v he).sameL hs) a hc hlow hCN hNB ho hat (ag.setCell (S:=fun k=>k=N\/B<=k) (ag.refl _ _) (p:=⟨N,j,none⟩) (Or.inl (Or.inl rfl)) _)
theorem Bm.int (hr:aA w N 0 d r)(hl:bq w d r)(hc:Cur w C ca cc bs at_)(hlow:eQ C ca bs)(hCN:C<N)(hNB:N<B)(ho:ag (fun k=>k=C\/k=N\/B<=k) W w)(hat:at_<=top)(j:Nat)(hj:j<2)(v:Int):Bm W C N B ca cc bs top (w.setCell ⟨N,j,none⟩ (.int .i64 v)):=by
 have a:ag (fun k=>k=N\/B<=k) w (w.setCell ⟨N,j,none⟩ (.int .i64 v)):=ag.setCell (S:=fun k=>k=N\/B<=k) (ag.refl _ _) (p:=⟨N,j,none⟩) (Or.inl (Or.inl rfl)) _
 have:j=0\/j=1:=CG
 rcases this with rfl | rfl
 ·obtain ⟨r2,hs,h2⟩:=hl.ints (S:=fun _=>False) (b8.set hr.k0 (y:=.int .i64 v) (Or.inl ⟨v,rfl⟩)) ke.none
  exact Bm.mkk (d:=d) (r:=⟨v,r2.stop,r2.CE,r2.CA,r2.Cy,r2.CF,r2.over,r2.Cz⟩) ((hr.sameL hs).set 0 CG _ rfl) ⟨h2.CE,h2.CA,h2.Cy,h2.CF,h2.over,h2.Cz,h2.nil1⟩ hc hlow hCN hNB ho hat a
 ·obtain ⟨r2,hs,h2⟩:=hl.ints (S:=fun _=>False) (b8.set hr.k1 (y:=.int .i64 v) (Or.inl ⟨v,rfl⟩)) ke.none
  exact Bm.mkk (d:=d) (r:=⟨r2.start,v,r2.CE,r2.CA,r2.Cy,r2.CF,r2.over,r2.Cz⟩) ((hr.sameL hs).set 1 CG _ rfl) ⟨h2.CE,h2.CA,h2.Cy,h2.CF,h2.over,h2.Cz,h2.nil1⟩ hc hlow hCN hNB ho hat a
theorem Bm.store (hr:aA w N 0 d r)(hl:bq w d r)(hc:Cur w C ca cc bs at_)(hlow:eQ C ca bs)(hCN:C<N)(hNB:N<B)(ho:ag (fun k=>k=C\/k=N\/B<=k) W w)(hat:at_<=top){g o:Nat}{x:Value}{v:Int}(hx:w.cell? ⟨g,o,none⟩=some x)(hg:B<=g):Bm W C N B ca cc bs top (w.setCell ⟨g,o,none⟩ (.int .i64 v)):=by
 obtain ⟨r2,hs,h2⟩:=hl.ints (S:=fun _=>False) (b8.set hx (y:=.int .i64 v) (Or.inl ⟨v,rfl⟩)) ke.none
 exact Bm.mkk ((hr.kept (w':=w.setCell ⟨g,o,none⟩ (.int .i64 v)) (Below.heap_setCell _ _ _ _ (show N≠g by omega))).sameL hs) h2 hc hlow hCN hNB ho hat (ag.setCell (S:=fun k=>k=N\/B<=k) (ag.refl _ _) (p:=⟨g,o,none⟩) (Or.inl (Or.inr hg)) _)
end
theorem yL (C:Nat)(ca:Option Addr)(cc:Nat)(bs:List Int)(at_:Nat)(d:aL)(r:al)(w:World)(hc:Hid (Cur w C ca cc bs at_))(hlow:Hid (eQ C ca bs))(ha:at_<=500000000)(hl:Hid (bq w d r))(hs:Hid (tK r)):
  Calls prog 52 #[.pointer (some ⟨C,0,none⟩),cC d r] w fun e w' => ∃ d' r' at',e = .returned (cC d' r')/\bq w' d' r'/\at'<=at_+100/\Cur w' C ca cc bs at'/\ag (fun k=>k=C) w w':=by
 have O:=hc.out.lt;unfold cC
 go_enter func52,ntmps52
 go_wp2_with fail
 generalize hW:World.alloc (World.alloc w _) _=W;have ck:Cx w W:=by rw [<-hW];exact blo
 have bj:Hid (aA W w.heap.size 0 d r):=by rw [<-hW];exact ⟨CO,CO,CO,CO,CO,CO,CO,CO⟩
 have am:Hid (∀ o,W.frozen? ⟨w.heap.size,o,none⟩=false):=fun o=>by rw [<-hW];simp [go_sem]
 have bk:Hid (aA W (w.heap.size+1) 0 ⟨none,0,none,0,none,0,none,0,none,0,none,0⟩ ⟨0,0,[],[],[],[],[],[]⟩):=by rw [<-hW];exact ⟨CO,CO,CO,CO,CO,CO,CO,CO⟩
 have bl:Hid (∀ o,W.frozen? ⟨w.heap.size+1,o,none⟩=false):=fun o=>by rw [<-hW];simp [go_sem]
 have bm:Hid (∀ o,8<=o->W.cell? ⟨w.heap.size+1,o,none⟩=none):=fun o ho=>by rw [<-hW];simp [go_sem];omega
 have a6:W.heap.size=w.heap.size+2:=by rw [<-hW];simp
 have bn:=aa ck;clear hW ck;obtain ⟨N,hN⟩:∃ N,w.heap.size=N:=⟨_,rfl⟩;obtain ⟨R,hR⟩:∃ R,N+1=R:=⟨_,rfl⟩;rw [hN] at bj am bk bl bm a6 O ⊢;rw [hR] at bk bl bm ⊢;have bo:Hid (w.heap.size=N):=hN;clear hN;refine (oM d r W (bq.below hl.out bn.out) hs.out.s).mono ?_;rintro e w1 ⟨v0,v1,v2,v3,rfl,X,ah⟩;obtain ⟨x0,y0,rfl⟩:=gg X.o0;obtain ⟨x1,y1,rfl⟩:=gg X.o1;obtain ⟨x2,y2,rfl⟩:=gg X.o2;obtain ⟨x3,y3,rfl⟩:=gg X.o3;have ao:=aa X;have a7:=aa ah;have F:=bj.out.below ah;have k0:=F.k0;have k1:=F.k1;have k2:=F.k2;have k3:=F.k3;have k4:=F.k4;have k5:=F.k5;have k6:=F.k6;have k7:=F.k7;simp only [Nat.zero_add] at k0 k1 k2 k3 k4 k5 k6 k7;have cK:=ah.size;have z0:=(ah.frozen (p:=⟨N,0,none⟩) (by show N<W.heap.size;omega)).trans (am.out 0)
 have z1:=(ah.frozen (p:=⟨N,1,none⟩) (by show N<W.heap.size;omega)).trans (am.out 1)
 have z2:=(ah.frozen (p:=⟨N,2,none⟩) (by show N<W.heap.size;omega)).trans (am.out 2)
 have z3:=(ah.frozen (p:=⟨N,3,none⟩) (by show N<W.heap.size;omega)).trans (am.out 3)
 have z4:=(ah.frozen (p:=⟨N,4,none⟩) (by show N<W.heap.size;omega)).trans (am.out 4)
 have z5:=(ah.frozen (p:=⟨N,5,none⟩) (by show N<W.heap.size;omega)).trans (am.out 5)
 have z6:=(ah.frozen (p:=⟨N,6,none⟩) (by show N<W.heap.size;omega)).trans (am.out 6)
 have z7:=(ah.frozen (p:=⟨N,7,none⟩) (by show N<W.heap.size;omega)).trans (am.out 7)
 clear X ah F
 go_upto_region 2 with fail
 generalize aR:World.setCell (World.setCell (World.setCell (World.setCell (World.setCell (World.setCell (World.setCell (World.setCell w1 _ _) _ _) _ _) _ _) _ _) _ _) _ _) _ _=W2;have aS:∀ b,b≠N->W2.heap[b]? = w1.heap[b]? := fun b hb=>by rw [<-aR,Below.heap_setCell _ _ _ _ hb,Below.heap_setCell _ _ _ _ hb,Below.heap_setCell _ _ _ _ hb,Below.heap_setCell _ _ _ _ hb,Below.heap_setCell _ _ _ _ hb,Below.heap_setCell _ _ _ _ hb,Below.heap_setCell _ _ _ _ hb,Below.heap_setCell _ _ _ _ hb]
 have cL:W2.heap.size=w1.heap.size:=by rw [<-aR];simp
 have bp:Hid (aA W2 N 0 ⟨x0,y0,x1,y1,x2,y2,x3,y3,d.a4,d.c4,d.a5,d.c5⟩ r):=by
  rw [<-aR];have F:=bj.out.below a7.out;exact (((((((F.set 0 CG _ (d':=d) (r':=r) rfl).set 1 CG _ (d':=d) (r':=r) rfl).set 2 CG _ (d':=⟨x0,y0,d.a1,d.c1,d.a2,d.c2,d.a3,d.c3,d.a4,d.c4,d.a5,d.c5⟩) (r':=r) rfl).set 3 CG _ (d':=⟨x0,y0,x1,y1,d.a2,d.c2,d.a3,d.c3,d.a4,d.c4,d.a5,d.c5⟩) (r':=r) rfl).set 4 CG _ (d':=⟨x0,y0,x1,y1,x2,y2,d.a3,d.c3,d.a4,d.c4,d.a5,d.c5⟩) (r':=r) rfl).set 5 CG _ (d':=⟨x0,y0,x1,y1,x2,y2,x3,y3,d.a4,d.c4,d.a5,d.c5⟩) (r':=r) rfl).set 6 CG _ (d':=⟨x0,y0,x1,y1,x2,y2,x3,y3,d.a4,d.c4,d.a5,d.c5⟩) (r':=r) rfl).set 7 CG _ (d':=⟨x0,y0,x1,y1,x2,y2,x3,y3,d.a4,d.c4,d.a5,d.c5⟩) (r':=r) rfl
 have bS:Hid (∀ o,W2.frozen? ⟨N,o,none⟩=false):=fun o=>by
  rw [<-aR];simp only [World.frozen?_setCell];exact (a7.out.frozen (p:=⟨N,o,none⟩) (by show N<W.heap.size;omega)).trans (am.out o)
 have a8:Hid (Cx w W2):=by
  have h0:=bn.out.trans (a7.out.mono bn.out.size);rw [<-aR];have hN:w.heap.size<=N:=by have:=bo.out;omega
  exact (((((((h0.setCell hN _).setCell hN _).setCell hN _).setCell hN _).setCell hN _).setCell hN _).setCell hN _).setCell hN _
 have br:Hid (W2.ownsRow (N+2) 46 2 (.slice x0 r.CE.length y0) r.CE.length (aG r.CE)):=by
  have h:=ao.out.o0;rw [a6] at h;exact ax h (fun b hb=>aS b (by have:=(h.lt b hb).1;omega))
 have bt:Hid (W2.ownsRow (N+2) 52 2 (.slice x1 r.CA.length y1) r.CA.length (aG r.CA)):=by
  have h:=ao.out.o1;rw [a6] at h;exact ax h (fun b hb=>aS b (by have:=(h.lt b hb).1;omega))
 have bu:Hid (W2.ownsRow (N+2) 3 1 (.slice x2 r.Cy.length y2) r.Cy.length (bP r.Cy)):=by
  have h:=ao.out.o2;rw [a6] at h;exact ax h (fun b hb=>aS b (by have:=(h.lt b hb).1;omega))
 have bv:Hid (W2.ownsRow (N+2) 48 3 (.slice x3 r.CF.length y3) r.CF.length (bG r.CF)):=by
  have h:=ao.out.o3;rw [a6] at h;exact ax h (fun b hb=>aS b (by have:=(h.lt b hb).1;omega))
 have cl:Hid (W2.heap[R]? = W.heap[R]?):=(aS R CG).trans (a7.out.block R CG)
 have bT:Hid (cw W2 d.a5 r.Cz):=hl.out.Cz.below a8.out;have cM:Hid (bw W2 d.a4 r.over):=hl.out.over.below a8.out;have c7:=bp.out.k7;have c6:=bp.out.k6;simp only [Nat.zero_add] at c6 c7;have bx:=ai c7;dsimp only at bx;have cm:r.Cz.length<=maxLen:=by have:=hs.out.s5;unfold maxLen;omega
 have cn:r.Cz.length*32<=140737488355328:=by have:=hs.out.s5;omega
 have co:r.over.length<=maxLen:=by have:=hs.out.s4;unfold maxLen;omega
 have cp:r.over.length*24<=140737488355328:=by have:=hs.out.s4;omega
 have cq:N+2<=W2.heap.size:=CG
 clear aR aS k0 k1 k2 k3 k4 k5 k6 k7 z0 z1 z2 z3 z4 z5 z6 z7 ao a7 bj am cK cL
 go_upto_region 3 with (at_builtin;refine fQ (Wp:=W2) rfl (.tmp 7) (.tmp 9) 42 rfl 50 _ 4 32 underlying42 Tryz.infoFlank rfl CJ W2.heap.size rfl rfl d.a5 r.Cz.length d.c5 (bO r.Cz) rfl (yO bT.out) (nu _) (Cq bT.out) (rg _) cm cn ?_;intro x5 y5 w3 cr bz;have cs:=aa cr;have Y:=aa bz;have d7:=cell_later bz c7;have f7:=(bz.frozen (p:=⟨N,7,none⟩) bx).trans (bS.out 7);clear cr bz)
 generalize aF:World.setCell w3 _ _=W4;have aT:∀ b,b≠N->b<W2.heap.size->W4.heap[b]? = W2.heap[b]? := fun b hb hz=>by rw [<-aF];exact (Below.heap_setCell _ _ _ _ hb).trans (Y.out.block b hz)
 have cN:W4.heap.size=w3.heap.size:=by rw [<-aF];simp
 have cP:=Y.out.size;have bU:Hid (aA W4 N 0 ⟨x0,y0,x1,y1,x2,y2,x3,y3,d.a4,d.c4,x5,y5⟩ r):=by
  rw [<-aF];exact (bp.out.below Y.out).set 7 CG _ rfl
 have bV:Hid (∀ o,W4.frozen? ⟨N,o,none⟩=false):=fun o=>by
  rw [<-aF,World.frozen?_setCell];exact (Y.out.frozen (p:=⟨N,o,none⟩) bx).trans (bS.out o)
 have aH:Hid (Cx w W4):=by
  rw [<-aF];exact (a8.out.trans (Y.out.mono a8.out.size)).setCell (by have:=bo.out;show w.heap.size<=N;omega) _
 have bA:Hid (W4.ownsRow (N+2) 50 4 (.slice x5 r.Cz.length y5) r.Cz.length (bO r.Cz)):=by
  rw [<-aF];exact ownsRow_setCell_below (aW cs.out cq) (show N<N+2 by omega) _
 have bB:Hid (W4.ownsRow (N+2) 46 2 (.slice x0 r.CE.length y0) r.CE.length (aG r.CE)):=ax br.out (fun b hb=>aT b (by have:=(br.out.lt b hb).1;omega) (br.out.lt b hb).2)
 have bC:Hid (W4.ownsRow (N+2) 52 2 (.slice x1 r.CA.length y1) r.CA.length (aG r.CA)):=ax bt.out (fun b hb=>aT b (by have:=(bt.out.lt b hb).1;omega) (bt.out.lt b hb).2)
 have bD:Hid (W4.ownsRow (N+2) 3 1 (.slice x2 r.Cy.length y2) r.Cy.length (bP r.Cy)):=ax bu.out (fun b hb=>aT b (by have:=(bu.out.lt b hb).1;omega) (bu.out.lt b hb).2)
 have bE:Hid (W4.ownsRow (N+2) 48 3 (.slice x3 r.CF.length y3) r.CF.length (bG r.CF)):=ax bv.out (fun b hb=>aT b (by have:=(bv.out.lt b hb).1;omega) (bv.out.lt b hb).2)
 have ct:Hid (W4.heap[R]? = W.heap[R]?):=(aT R CG CG).trans cl.out
 have bX:Hid (bw W4 d.a4 r.over):=hl.out.over.below aH.out;have e6:=bU.out.k6;simp only [Nat.zero_add] at e6;have bF:=ai e6;dsimp only at bF;have ba:N+2<=W4.heap.size:=CG
 clear aF aT cN cP br bt bu bv cs Y bp bS a8 cl bT cM c6 c7 d7 f7 bx cq
 go_upto_region 4 with (at_builtin;refine fQ (Wp:=W4) rfl (.tmp 12) (.tmp 14) 41 rfl 48 _ 3 24 underlying41 Tryz.infoPart rfl CJ W4.heap.size rfl rfl d.a4 r.over.length d.c4 (bG r.over) rfl (tu bX.out) (nh _) (AX bX.out) (rq _) co cp ?_;intro x4 y4 w5 cu bH;have bI:=aa cu;have Y:=aa bH;have d6:=cell_later bH e6;have f6:=(bH.frozen (p:=⟨N,6,none⟩) bF).trans (bV.out 6);clear cu bH)
 generalize aI:World.setCell w5 _ _=W6;obtain ⟨dd,bJ⟩:∃ dd:aL,dd=⟨x0,y0,x1,y1,x2,y2,x3,y3,x4,y4,x5,y5⟩:=⟨_,rfl⟩;have aK:∀ b,b≠N->b<W4.heap.size->W6.heap[b]? = W4.heap[b]? := fun b hb hz=>by rw [<-aI];exact (Below.heap_setCell _ _ _ _ hb).trans (Y.out.block b hz)
 have cQ:W6.heap.size=w5.heap.size:=by rw [<-aI];simp
 have cR:=Y.out.size;have cv:Hid (aA W6 N 0 dd r):=by
  rw [<-aI,bJ];exact (bU.out.below Y.out).set 6 CG _ rfl
 have cx:Hid (∀ o,W6.frozen? ⟨N,o,none⟩=false):=fun o=>by
  rw [<-aI,World.frozen?_setCell];exact (Y.out.frozen (p:=⟨N,o,none⟩) bF).trans (bV.out o)
 have bY:Hid (Cx w W6):=by
  rw [<-aI];exact (aH.out.trans (Y.out.mono aH.out.size)).setCell (by have:=bo.out;show w.heap.size<=N;omega) _
 have cy:Hid (R6 W6 (N+2) dd r):=by
  rw [bJ];refine ⟨ax bB.out (fun b hb=>aK b (by have:=(bB.out.lt b hb).1;omega) (bB.out.lt b hb).2),ax bD.out (fun b hb=>aK b (by have:=(bD.out.lt b hb).1;omega) (bD.out.lt b hb).2),ax bE.out (fun b hb=>aK b (by have:=(bE.out.lt b hb).1;omega) (bE.out.lt b hb).2),?_⟩
  rw [<-aI];exact ownsRow_setCell_below (aW bI.out ba) (show N<N+2 by omega) _
 have bK:Hid (LG W6 (N+2) dd r):=by
  rw [bJ];exact ⟨ax bC.out (fun b hb=>aK b (by have:=(bC.out.lt b hb).1;omega) (bC.out.lt b hb).2),ax bA.out (fun b hb=>aK b (by have:=(bA.out.lt b hb).1;omega) (bA.out.lt b hb).2)⟩
 have cA:Hid (W6.heap[R]? = W.heap[R]?):=(aK R CG CG).trans ct.out
 have cB:Hid (Cur W6 C ca cc bs at_):=hc.out.below bY.out;have bZ:N+2<=W6.heap.size:=CG
 have dc:=hs.out.s.s0;have de:=hs.out.s.s1;have cD:=hs.out.s.s2;have df:=hs.out.s.s3;have dg:=hs.out.s4;have dh:=hs.out.s5;clear aI aK cQ cR bB bC bD bE bA bI Y bU bV aH ct bX e6 d6 f6 bF ba co cm cp cn hc hl hs bJ
 go_wp2_with fail
 refine (aJ C ca cc bs at_ 9 W6 cB CG CG).mono ?_
 rintro e w7 ⟨x,aD,hx,rfl,cS,cE,aM⟩;have V:=aa cE;have b0:w7.heap[N]? = W6.heap[N]? := aM.block N CG CG
 have t:Hid (aA w7 N 0 dd r):=cv.out.kept b0;have bb:Hid (∀ o,w7.frozen? ⟨N,o,none⟩=false):=fun o=>(World.frozen?_of_block (w:=W6) (a:=⟨N,o,none⟩) b0).trans (cx.out o)
 have T:Hid (R6 w7 (N+2) dd r):=cy.out.kept (fun b h1 h2=>aM.block b h2 CG)
 have Z:Hid (LG w7 (N+2) dd r):=bK.out.keep (fun b h1 h2 _=>aM.block b h2 CG)
 have aj:Hid (bq w7 dd r):=iP T.out Z.out;have bL:w7.heap[R]? = W.heap[R]? := (aM.block R CG CG).trans cA.out
 have b1:Hid (aA w7 R 0 ⟨none,0,none,0,none,0,none,0,none,0,none,0⟩ ⟨0,0,[],[],[],[],[],[]⟩):=bk.out.kept bL;have b2:Hid (∀ o,8<=o->w7.cell? ⟨R,o,none⟩=none):=fun o ho=>(World.cell?_of_block (w:=W) (a:=⟨R,o,none⟩) bL).trans (bm.out o ho)
 have J:Hid (∀ o,w7.frozen? ⟨R,o,none⟩=false):=fun o=>(World.frozen?_of_block (w:=W) (a:=⟨R,o,none⟩) bL).trans (bl.out o)
 have cT:Hid (ag (fun k=>k=C) w w7):=(ag.of_below bY.out).trans aM
 have di:N+2<=w7.heap.size:=by have:=aM.size;omega
 clear cE aM cv cx bY cy bK cA cB b0 bL bk bl bm bn bZ
 go_upto_block 0 with fail
 go_cut [] (fun wx=>Hid (Bm w7 C N (N+2) ca cc bs (at_+50) wx))
 case first =>
  have cU:x=0\/x=1\/x=2\/x=3\/x=4\/x=5\/x=6\/x=7\/x=8:=CG
  rcases cU with rfl | rfl | rfl | rfl | rfl | rfl | rfl | rfl | rfl
  ·
   go_wp2_with fail
   refine (aJ C ca cc bs aD 5 w7 V CG CG).mono ?_
   rintro e w8 ⟨p,ap,hp,rfl,ab,G,A⟩;have ac:=aa G;have aN:w8.heap[N]? = w7.heap[N]? := A.block N (ai t.out.k0) CG
   have aq:Hid (aA w8 N 0 dd r):=t.out.kept aN;have f8:=(World.frozen?_of_block (w:=w7) (a:=⟨N,1,none⟩) aN).trans (bb.out 1);have c8:=aq.out.k1;simp only [Nat.zero_add] at c8;have b3:=ai c8;dsimp only at b3;have b4:Hid (LG w8 (N+2) dd r):=Z.out.keep (fun b h1 h2 _=>A.block b h2 CG)
   have b5:Hid (bq w8 dd r):=iP (T.out.kept (fun b h1 h2=>A.block b h2 CG)) b4.out
   have H:Hid (ag (fun k=>k=C\/k=N\/N+2<=k) w7 w8):=A.mono (fun k hk=>Or.inl hk)
   have aO:(p:Int)<5:=CG
   clear G A aN
   go_wp2_with fail
   go_meet
   exact Bm.int aq.out b5.out ac.out hlow.out O CG H.out CG 1 CG _
  ·
   have c7:=t.out.k2;simp only [Nat.zero_add] at c7
   by_cases h0:r.CE.length=0
   ·have ay:¬ (0:Int)<r.CE.length:=CG
    clear h0
    go_wp2_with fail
    go_meet
    exact Bm.mkk t.out aj.out V.out hlow.out O CG (ag.refl _ _) CG (ag.refl _ _)
   ·have ay:(0:Int)<r.CE.length:=CG
    obtain ⟨g,hg⟩:=cO T.out.o0 CG
    have c:=T.out.o0;rw [hg] at c c7;have HG:=aa hg;have i:=aa c;have aP:=(c.lt g rfl).1;clear hg c h0
    go_upto_region 10 with fail
    obtain ⟨S,hS⟩:∃ S:World->Prop,∀ u,S u↔u.cell? ⟨N,2,none⟩=some (.slice (some ⟨g,0,none⟩) r.CE.length dd.c0):=⟨_,fun _=>Iff.rfl⟩
    have y:=aa hS;have r0:∀ u:an S,World.cell? u.val ⟨N,2,none⟩=some (.slice (some ⟨g,0,none⟩) r.CE.length dd.c0):=fun u=>(hS u.val).1 u.2
    have D:S w7.drew:=(hS _).2 c7;have hne:=aQ D;clear hS;refine bW 9 D ?_
    (refine ae 0 ?_;intro K hK;go_big_quiet_op;go_big_quiet_on);(refine ae 1 ?_;intro K hK;go_big_quiet_op;go_big_quiet_on);(refine ae 2 ?_;intro K hK;go_big_quiet_op;go_big_quiet_on);(refine ae 3 ?_;intro K hK;go_big_quiet_op;go_big_quiet_on);(refine ae 4 ?_;intro K hK;go_big_quiet_op;go_big_quiet_on);(refine ae 5 ?_;intro K hK;go_big_quiet_op;go_big_quiet_on)
    (refine ae 7 ?_;intro K hK;go_big_quiet_op;go_big_quiet_on)
    refine az 6 ?_;intro K hK
    go_wp2_with (go_at_call 32;refine (aJ C ca cc bs aD r.CE.length _ (V.out.below (CV.drew)) CG CG).mono ?_;rintro e w8 ⟨q,ap,bM,rfl,ab,G,A⟩)
    have H:Hid (ag (fun k=>k=C) w7 w8):=((ag.refl _ _).drew).trans A
    have ac:=aa G;have U:S w8:=(y.out _).2 (H.out.cell c7 (by show ¬ N=C;omega))
    have bN:(q:Int)<r.CE.length:=CG
    clear G A;refine hK _ _ (ak U) ?_;clear hK K;refine az 8 ?_;intro K hK
    go_wp2_with (go_at_call 32;refine (aJ C ca cc bs ap 9 _ ac CG CG).mono ?_;rintro e w9 ⟨p,aX,bc,rfl,ar,L,M⟩)
    have f:Hid (ag (fun k=>k=C) w7 w9):=H.out.trans M
    have ad:=aa L;have B:S w9:=(y.out _).2 (f.out.cell c7 (by show ¬ N=C;omega))
    have aO:(p:Int)<9:=CG
    clear L M;refine hK _ _ (ak B) ?_;clear hK K;have hne:=aQ B;refine a9 ?_;simp only [List.drop_succ_cons,List.drop_zero];clear r0 hne D U B y;have af:w9.heap[N]? = w7.heap[N]? := f.out.block N (ai t.out.k0) CG
    have j:Hid (aA w9 N 0 dd r):=t.out.kept af;have z:Hid (LG w9 (N+2) dd r):=Z.out.keep (fun b h1 h2 _=>f.out.block b h2 CG)
    have m:Hid (R6 w9 (N+2) dd r):=T.out.kept (fun b h1 h2=>f.out.block b h2 CG)
    have au:Hid (bq w9 dd r):=iP m.out z.out;have E:Hid (ag (fun k=>k=C\/k=N\/N+2<=k) w7 w9):=f.out.mono (fun k hk=>Or.inl hk)
    have aC:q<r.CE.length:=CG
    have l:=aa (ax i.out (fun b hb=>f.out.block b (i.out.lt b hb).2 (by have:=(i.out.lt b hb).1;omega)))
    have sc:=(l.out.cellAt (q*2) CG).trans ((aZ gn 2 (fun _=>rfl) r.CE q 0 aC CG).trans rfl)
    have sz:=l.out.frozenAt (q*2);have aY:=ai sc;dsimp only at aY
    go_wp2_with fail
    go_meet
    exact Bm.store j.out au.out ad.out hlow.out O CG E.out CG sc aP
  ·
   have c7:=t.out.k3;simp only [Nat.zero_add] at c7
   by_cases h0:r.CA.length=0
   ·have ay:¬ (0:Int)<r.CA.length:=CG
    clear h0
    go_wp2_with fail
    go_meet
    exact Bm.mkk t.out aj.out V.out hlow.out O CG (ag.refl _ _) CG (ag.refl _ _)
   ·have ay:(0:Int)<r.CA.length:=CG
    obtain ⟨g,hg⟩:=cO Z.out.o1 CG
    have c:=Z.out.o1;rw [hg] at c c7;have HG:=aa hg;have i:=aa c;have aP:=(c.lt g rfl).1;clear hg c h0
    go_upto_region 13 with fail
    obtain ⟨S,hS⟩:∃ S:World->Prop,∀ u,S u↔u.cell? ⟨N,3,none⟩=some (.slice (some ⟨g,0,none⟩) r.CA.length dd.c1):=⟨_,fun _=>Iff.rfl⟩
    have y:=aa hS;have r0:∀ u:an S,World.cell? u.val ⟨N,3,none⟩=some (.slice (some ⟨g,0,none⟩) r.CA.length dd.c1):=fun u=>(hS u.val).1 u.2
    have D:S w7.drew:=(hS _).2 c7;have hne:=aQ D;clear hS;refine bW 10 D ?_
    (refine ae 0 ?_;intro K hK;go_big_quiet_op;go_big_quiet_on);(refine ae 1 ?_;intro K hK;go_big_quiet_op;go_big_quiet_on);(refine ae 2 ?_;intro K hK;go_big_quiet_op;go_big_quiet_on);(refine ae 3 ?_;intro K hK;go_big_quiet_op;go_big_quiet_on);(refine ae 4 ?_;intro K hK;go_big_quiet_op;go_big_quiet_on);(refine ae 5 ?_;intro K hK;go_big_quiet_op;go_big_quiet_on)
    (refine ae 7 ?_;intro K hK;go_big_quiet_op;go_big_quiet_on)
    refine az 6 ?_;intro K hK
    go_wp2_with (go_at_call 32;refine (aJ C ca cc bs aD r.CA.length _ (V.out.below (CV.drew)) CG CG).mono ?_;rintro e w8 ⟨q,ap,bM,rfl,ab,G,A⟩)
    have H:Hid (ag (fun k=>k=C) w7 w8):=((ag.refl _ _).drew).trans A
    have ac:=aa G;have U:S w8:=(y.out _).2 (H.out.cell c7 (by show ¬ N=C;omega))
    have bN:(q:Int)<r.CA.length:=CG
    clear G A;refine hK _ _ (ak U) ?_;clear hK K;refine az 8 ?_;intro K hK
    go_wp2_with (go_at_call 32;refine (aJ C ca cc bs ap 2 _ ac CG CG).mono ?_;rintro e w9 ⟨p,aX,bc,rfl,ar,L,M⟩)
    have f:Hid (ag (fun k=>k=C) w7 w9):=H.out.trans M
    have ad:=aa L;have B:S w9:=(y.out _).2 (f.out.cell c7 (by show ¬ N=C;omega))
    have aO:(p:Int)<2:=CG
    clear L M;refine hK _ _ (ak B) ?_;clear hK K;have hne:=aQ B
    (refine ae 9 ?_;intro K hK;go_big_quiet_op;go_big_quiet_on)
    refine a9 ?_;simp only [List.drop_succ_cons,List.drop_zero];clear r0 hne D U B y;have af:w9.heap[N]? = w7.heap[N]? := f.out.block N (ai t.out.k0) CG
    have j:Hid (aA w9 N 0 dd r):=t.out.kept af;have z:Hid (LG w9 (N+2) dd r):=Z.out.keep (fun b h1 h2 _=>f.out.block b h2 CG)
    have m:Hid (R6 w9 (N+2) dd r):=T.out.kept (fun b h1 h2=>f.out.block b h2 CG)
    have au:Hid (bq w9 dd r):=iP m.out z.out;have E:Hid (ag (fun k=>k=C\/k=N\/N+2<=k) w7 w9):=f.out.mono (fun k hk=>Or.inl hk)
    have aC:q<r.CA.length:=CG
    have l:=aa (ax i.out (fun b hb=>f.out.block b (i.out.lt b hb).2 (by have:=(i.out.lt b hb).1;omega)))
    have sc:=(l.out.cellAt (q*2+1) CG).trans ((aZ gn 2 (fun _=>rfl) r.CA q 1 aC CG).trans rfl)
    have sz:=l.out.frozenAt (q*2+1);have aY:=ai sc;dsimp only at aY
    go_wp2_with fail
    go_meet
    exact Bm.store j.out au.out ad.out hlow.out O CG E.out CG sc aP
  ·
   have c7:=t.out.k5;simp only [Nat.zero_add] at c7
   by_cases h0:r.CF.length=0
   ·have ay:¬ (0:Int)<r.CF.length:=CG
    clear h0
    go_wp2_with fail
    go_meet
    exact Bm.mkk t.out aj.out V.out hlow.out O CG (ag.refl _ _) CG (ag.refl _ _)
   ·have ay:(0:Int)<r.CF.length:=CG
    obtain ⟨g,hg⟩:=cO T.out.o3 CG
    have c:=T.out.o3;rw [hg] at c c7;have HG:=aa hg;have i:=aa c;have aP:=(c.lt g rfl).1;clear hg c h0
    go_upto_region 16 with fail
    obtain ⟨S,hS⟩:∃ S:World->Prop,∀ u,S u↔(u.cell? ⟨N,5,none⟩=some (.slice (some ⟨g,0,none⟩) r.CF.length dd.c3)/\∀ q (h:q<r.CF.length),u.cell? ⟨g,q*3+2,none⟩=some (.int .i64 r.CF[q].hi)):=⟨_,fun _=>Iff.rfl⟩
    have y:=aa hS;have bQ:Hid (∀ u,ag (fun k=>k=C) w7 u->∀ q (h:q<r.CF.length),u.cell? ⟨g,q*3+2,none⟩=some (.int .i64 r.CF[q].hi)):=fun u hu q h=>by
     have h9:=ax (w':=u) i.out (fun b hb=>hu.block b (i.out.lt b hb).2 (by have:=(i.out.lt b hb).1;omega))
     exact (h9.cellAt (q*3+2) CG).trans ((aZ jT 3 (fun _=>rfl) r.CF q 2 h CG).trans rfl)
    have r0:∀ u:an S,World.cell? u.val ⟨N,5,none⟩=some (.slice (some ⟨g,0,none⟩) r.CF.length dd.c3):=fun u=>((hS u.val).1 u.2).1
    have D:S w7.drew:=(hS _).2 ⟨c7,bQ.out _ ((ag.refl _ _).drew)⟩;have hne:=aQ D;clear hS;refine bW 14 D ?_
    (refine ae 0 ?_;intro K hK;go_big_quiet_op;go_big_quiet_on);(refine ae 1 ?_;intro K hK;go_big_quiet_op;go_big_quiet_on);(refine ae 2 ?_;intro K hK;go_big_quiet_op;go_big_quiet_on);(refine ae 3 ?_;intro K hK;go_big_quiet_op;go_big_quiet_on);(refine ae 4 ?_;intro K hK;go_big_quiet_op;go_big_quiet_on);(refine ae 5 ?_;intro K hK;go_big_quiet_op;go_big_quiet_on)
    (refine ae 10 ?_;intro K hK;go_big_quiet_op;go_big_quiet_on)
    refine az 6 ?_;intro K hK
    go_wp2_with (go_at_call 32;refine (aJ C ca cc bs aD r.CF.length _ (V.out.below (CV.drew)) CG CG).mono ?_;rintro e w8 ⟨q,ap,bM,rfl,ab,G,A⟩)
    have H:Hid (ag (fun k=>k=C) w7 w8):=((ag.refl _ _).drew).trans A
    have ac:=aa G;have U:S w8:=(y.out _).2 ⟨H.out.cell c7 (by show ¬ N=C;omega),bQ.out _ H.out⟩
    have bN:(q:Int)<r.CF.length:=CG
    clear G A;refine hK _ _ (ak U) ?_;clear hK K;have aC:q<r.CF.length:=CG
    have aY:g<w8.heap.size:=by have h1:=(i.out.lt g rfl).2;have h2:=H.out.size;omega
    have r1:∀ u:an S,World.cell? u.val ⟨g,q*3+2,none⟩=some (.int .i64 r.CF[q].hi):=fun u=>((y.out u.val).1 u.2).2 q aC
    generalize (r.CF[q]'aC).hi=hh at r1;have hne:=aQ U
    (refine ae 7 ?_;intro K hK;go_big_quiet_op;go_big_quiet_on);(refine ae 8 ?_;intro K hK;go_big_quiet_op;go_big_quiet_on);(refine ae 9 ?_;intro K hK;go_big_quiet_op;go_big_quiet_on)
    refine az 11 ?_;intro K hK
    go_wp2_with (go_at_call 32;refine (aJ C ca cc bs ap 9 _ ac CG CG).mono ?_;rintro e w9 ⟨p,aX,bc,rfl,ar,L,M⟩)
    have f:Hid (ag (fun k=>k=C) w7 w9):=H.out.trans M
    have ad:=aa L;have B:S w9:=(y.out _).2 ⟨f.out.cell c7 (by show ¬ N=C;omega),bQ.out _ f.out⟩
    have aO:(p:Int)<9:=CG
    clear L M;refine hK _ _ (ak B) ?_;clear hK K;have hne:=aQ B
    (refine ae 12 ?_;intro K hK;go_big_quiet_op;go_big_quiet_on);(refine ae 13 ?_;intro K hK;go_big_quiet_op;go_big_quiet_on)
    refine a9 ?_;simp only [List.drop_succ_cons,List.drop_zero];clear r0 r1 hne D U B y;have af:w9.heap[N]? = w7.heap[N]? := f.out.block N (ai t.out.k0) CG
    have j:Hid (aA w9 N 0 dd r):=t.out.kept af;have z:Hid (LG w9 (N+2) dd r):=Z.out.keep (fun b h1 h2 _=>f.out.block b h2 CG)
    have m:Hid (R6 w9 (N+2) dd r):=T.out.kept (fun b h1 h2=>f.out.block b h2 CG)
    have au:Hid (bq w9 dd r):=iP m.out z.out;have E:Hid (ag (fun k=>k=C\/k=N\/N+2<=k) w7 w9):=f.out.mono (fun k hk=>Or.inl hk)
    have l:=aa (ax i.out (fun b hb=>f.out.block b (i.out.lt b hb).2 (by have:=(i.out.lt b hb).1;omega)))
    have sc:=bQ.out _ f.out q aC;have sz:=l.out.frozenAt (q*3+2);have b6:=ai sc;dsimp only at b6
    go_wp2_with fail
    go_meet
    exact Bm.store j.out au.out ad.out hlow.out O CG E.out CG sc aP
  ·
   have c7:=t.out.k6;simp only [Nat.zero_add] at c7
   by_cases h0:r.over.length=0
   ·have ay:¬ (0:Int)<r.over.length:=CG
    clear h0
    go_wp2_with fail
    go_meet
    exact Bm.mkk t.out aj.out V.out hlow.out O CG (ag.refl _ _) CG (ag.refl _ _)
   ·have ay:(0:Int)<r.over.length:=CG
    obtain ⟨g,hg⟩:=cO T.out.o4 CG
    have c:=T.out.o4;rw [hg] at c c7;have b7:r.over.length<=dd.c4/\dd.c4<=maxLen:=by
     rcases c.2 with ⟨h1,_⟩ | ⟨g',dj,dk,h1,_,_,h4,h5,_⟩
     ·cases h1
     ·injection h1 with _ _ h1;rw [h1];exact ⟨h4,h5⟩
    obtain ⟨cF,cG⟩:=b7;unfold maxLen at cG;obtain ⟨n,hn⟩:∃ n,r.over.length=n:=⟨_,rfl⟩;obtain ⟨c4,cH⟩:∃ c4,dd.c4=c4:=⟨_,rfl⟩;rw [hn] at c7 cF ay;rw [cH] at c7 cF cG;have HN:=aa hn;have dl:1<=n:=CG
    have dm:1<=c4:=CG
    have f7:=bb.out 6;have b9:=ai c7;dsimp only at b9;have bI:Hid (bw w7 (some ⟨g,0,none⟩) r.over):=by have h:=aj.out.over;rw [hg] at h;exact h
    have aH:Hid (∀ (x4:Option Addr) (y4:Nat),(n=1\/x4=some ⟨g,3,none⟩)->Bm w7 C N (N+2) ca cc bs (at_+50) (w7.setCell ⟨N,6,none⟩ (.slice x4 (n-1) y4))):=fun x4 y4 h=>Bm.seti (d':=⟨dd.a0,dd.c0,dd.a1,dd.c1,dd.a2,dd.c2,dd.a3,dd.c3,x4,y4,dd.a5,dd.c5⟩) (r':=⟨r.start,r.stop,r.CE,r.CA,r.Cy,r.CF,r.over.drop 1,r.Cz⟩) t.out ⟨aj.out.CE,aj.out.CA,aj.out.Cy,aj.out.CF,ww bI.out (by rw [HN.out];exact h),aj.out.Cz,aj.out.nil1⟩ V.out hlow.out O CG (ag.refl _ _) CG 6 CG CG _ (by simp [gE,HN.out])
    clear hg c h0 hn cH
    go_wp2_with fail
    ·go_meet
     exact aH.out _ _ CT
    ·go_meet
     exact aH.out _ _ CT
  ·
   have c7:=t.out.k7;simp only [Nat.zero_add] at c7
   by_cases h0:r.Cz.length=0
   ·have ay:¬ (0:Int)<r.Cz.length:=CG
    clear h0
    go_wp2_with fail
    go_meet
    exact Bm.mkk t.out aj.out V.out hlow.out O CG (ag.refl _ _) CG (ag.refl _ _)
   ·have ay:(0:Int)<r.Cz.length:=CG
    obtain ⟨g,hg⟩:=cO Z.out.o5 CG
    have c:=Z.out.o5;rw [hg] at c c7;have HG:=aa hg;have i:=aa c;have aP:=(c.lt g rfl).1;clear hg c h0
    go_upto_region 22 with fail
    obtain ⟨S,hS⟩:∃ S:World->Prop,∀ u,S u↔u.cell? ⟨N,7,none⟩=some (.slice (some ⟨g,0,none⟩) r.Cz.length dd.c5):=⟨_,fun _=>Iff.rfl⟩
    have y:=aa hS;have r0:∀ u:an S,World.cell? u.val ⟨N,7,none⟩=some (.slice (some ⟨g,0,none⟩) r.Cz.length dd.c5):=fun u=>(hS u.val).1 u.2
    have D:S w7.drew:=(hS _).2 c7;have hne:=aQ D;clear hS;refine bW 10 D ?_
    (refine ae 0 ?_;intro K hK;go_big_quiet_op;go_big_quiet_on);(refine ae 1 ?_;intro K hK;go_big_quiet_op;go_big_quiet_on);(refine ae 2 ?_;intro K hK;go_big_quiet_op;go_big_quiet_on);(refine ae 3 ?_;intro K hK;go_big_quiet_op;go_big_quiet_on);(refine ae 4 ?_;intro K hK;go_big_quiet_op;go_big_quiet_on);(refine ae 5 ?_;intro K hK;go_big_quiet_op;go_big_quiet_on)
    (refine ae 7 ?_;intro K hK;go_big_quiet_op;go_big_quiet_on)
    refine az 6 ?_;intro K hK
    go_wp2_with (go_at_call 32;refine (aJ C ca cc bs aD r.Cz.length _ (V.out.below (CV.drew)) CG CG).mono ?_;rintro e w8 ⟨q,ap,bM,rfl,ab,G,A⟩)
    have H:Hid (ag (fun k=>k=C) w7 w8):=((ag.refl _ _).drew).trans A
    have ac:=aa G;have U:S w8:=(y.out _).2 (H.out.cell c7 (by show ¬ N=C;omega))
    have bN:(q:Int)<r.Cz.length:=CG
    clear G A;refine hK _ _ (ak U) ?_;clear hK K;refine az 8 ?_;intro K hK
    go_wp2_with (go_at_call 32;refine (aJ C ca cc bs ap 4 _ ac CG CG).mono ?_;rintro e w9 ⟨p,aX,bc,rfl,ar,L,M⟩)
    have f:Hid (ag (fun k=>k=C) w7 w9):=H.out.trans M
    have ad:=aa L;have B:S w9:=(y.out _).2 (f.out.cell c7 (by show ¬ N=C;omega))
    have aO:(p:Int)<4:=CG
    clear L M;refine hK _ _ (ak B) ?_;clear hK K;have hne:=aQ B
    (refine ae 9 ?_;intro K hK;go_big_quiet_op;go_big_quiet_on)
    refine a9 ?_;simp only [List.drop_succ_cons,List.drop_zero];clear r0 hne D U B y;have af:w9.heap[N]? = w7.heap[N]? := f.out.block N (ai t.out.k0) CG
    have j:Hid (aA w9 N 0 dd r):=t.out.kept af;have z:Hid (LG w9 (N+2) dd r):=Z.out.keep (fun b h1 h2 _=>f.out.block b h2 CG)
    have m:Hid (R6 w9 (N+2) dd r):=T.out.kept (fun b h1 h2=>f.out.block b h2 CG)
    have au:Hid (bq w9 dd r):=iP m.out z.out;have E:Hid (ag (fun k=>k=C\/k=N\/N+2<=k) w7 w9):=f.out.mono (fun k hk=>Or.inl hk)
    have aC:q<r.Cz.length:=CG
    have l:=aa (ax i.out (fun b hb=>f.out.block b (i.out.lt b hb).2 (by have:=(i.out.lt b hb).1;omega)))
    have sc:=(l.out.cellAt (q*4+1) CG).trans ((aZ iZ 4 (fun _=>rfl) r.Cz q 1 aC CG).trans rfl)
    have sz:=l.out.frozenAt (q*4+1);have aY:=ai sc;dsimp only at aY
    go_wp2_with fail
    go_meet
    exact Bm.store j.out au.out ad.out hlow.out O CG E.out CG sc aP
  ·
   have c7:=t.out.k7;simp only [Nat.zero_add] at c7
   go_upto_region 24 with fail
   obtain ⟨S,hS⟩:∃ S:World->Prop,∀ u,S u↔u.cell? ⟨N,7,none⟩=some (.slice dd.a5 r.Cz.length dd.c5):=⟨_,fun _=>Iff.rfl⟩
   have y:=aa hS;have r0:∀ u:an S,World.cell? u.val ⟨N,7,none⟩=some (.slice dd.a5 r.Cz.length dd.c5):=fun u=>(hS u.val).1 u.2
   have D:S w7.drew:=(hS _).2 c7;have hne:=aQ D;clear hS;refine bW 10 D ?_
   (refine ae 0 ?_;intro K hK;go_big_quiet_op;go_big_quiet_on);(refine ae 1 ?_;intro K hK;go_big_quiet_op;go_big_quiet_on);(refine ae 2 ?_;intro K hK;go_big_quiet_op;go_big_quiet_on)
   (refine ae 4 ?_;intro K hK;go_big_quiet_op;go_big_quiet_on)
   refine az 3 ?_;intro K hK
   go_wp2_with (go_at_call 32;refine (aJ C ca cc bs aD 5 _ (V.out.below (CV.drew)) CG CG).mono ?_;rintro e w8 ⟨q,ap,bM,rfl,ab,G,A⟩)
   have H:Hid (ag (fun k=>k=C) w7 w8):=((ag.refl _ _).drew).trans A
   have ac:=aa G;have U:S w8:=(y.out _).2 (H.out.cell c7 (by show ¬ N=C;omega))
   have bN:(q:Int)<5:=CG
   clear G A;refine hK _ _ (ak U) ?_;clear hK K;refine az 5 ?_;intro K hK
   go_wp2_with (go_at_call 32;refine (aJ C ca cc bs ap 2 _ ac CG CG).mono ?_;rintro e w9 ⟨p,aX,bc,rfl,ar,L,M⟩)
   have f:Hid (ag (fun k=>k=C) w7 w9):=H.out.trans M
   have ad:=aa L;have B:S w9:=(y.out _).2 (f.out.cell c7 (by show ¬ N=C;omega))
   have aO:(p:Int)<2:=CG
   clear L M;refine hK _ _ (ak B) ?_;clear hK K;have hne:=aQ B
   (refine ae 6 ?_;intro K hK;go_big_quiet_op;go_big_quiet_on);(refine ae 7 ?_;intro K hK;go_big_quiet_op;go_big_quiet_on)
   have af:w9.heap[N]? = w7.heap[N]? := f.out.block N (ai t.out.k0) CG
   have j:Hid (aA w9 N 0 dd r):=t.out.kept af;have z:Hid (LG w9 (N+2) dd r):=Z.out.keep (fun b h1 h2 _=>f.out.block b h2 CG)
   have m:Hid (R6 w9 (N+2) dd r):=T.out.kept (fun b h1 h2=>f.out.block b h2 CG)
   have au:Hid (bq w9 dd r):=iP m.out z.out;have E:Hid (ag (fun k=>k=C\/k=N\/N+2<=k) w7 w9):=f.out.mono (fun k hk=>Or.inl hk)
   have c9:=j.out.k7;simp only [Nat.zero_add] at c9;have f9:=(World.frozen?_of_block (w:=w7) (a:=⟨N,7,none⟩) af).trans (bb.out 7);have cb:N+2<=w9.heap.size:=by have:=f.out.size;omega
   refine az 8 ?_;intro K hK
   go_wp2_with fail
   have bd:∀ o,S (World.alloc w9 o):=fun o=>(y.out _).2 (cell_later ((Below.refl w9.heap.size w9).alloc CW o) ((y.out _).1 B))
   refine hK _ _ (ak (bd _)) ?_;clear hK K bd;refine az 9 ?_;intro K hK;refine aU rfl (.tmp 116) (.tmp 123) 42 rfl (N+2) 50 _ 4 32 underlying42 Tryz.infoFlank rfl CJ (.slice dd.a5 r.Cz.length dd.c5) r.Cz.length (bO r.Cz) rfl z.out.o5 w9.heap.size rfl [.int .i64 1,.int .i64 3,.int .i64 q,.int .i64 (1+(p:Int))] rfl rfl CL CK CG cb ?_
   intro xf yf wa be I;have av:wa.ownsRow (N+2) 50 4 (.slice xf (r.Cz.length+1) yf) (r.Cz.length+1) (bO (r.Cz++[⟨1,3,q,1+(p:Int)⟩])):=by rw [<-ib];exact be
   have bf:wa.heap[N]? = w9.heap[N]? := I.block N (ai j.out.k0) (fun e=>by have:=(z.out.o5.lt N e.symm).1;omega)
   have cd:Hid (Bm w7 C N (N+2) ca cc bs (at_+50) (wa.setCell ⟨N,7,none⟩ (.slice xf (r.Cz.length+1) yf))):=Bm.seti (d':=⟨dd.a0,dd.c0,dd.a1,dd.c1,dd.a2,dd.c2,dd.a3,dd.c3,dd.a4,dd.c4,xf,yf⟩) (r':=⟨r.start,r.stop,r.CE,r.CA,r.Cy,r.CF,r.over,r.Cz++[⟨1,3,q,1+(p:Int)⟩]⟩) (j.out.kept bf) ⟨(cz (m.out.o0.kept I (aV CJ m.out.o0 z.out.o5))).1,(cz (z.out.o1.kept I (aV CJ z.out.o1 z.out.o5))).1,(eJ (m.out.o2.kept I (aV CJ m.out.o2 z.out.o5))).1,(ei (m.out.o3.kept I (aV CJ m.out.o3 z.out.o5))).1,(ei (m.out.o4.kept I (aV CJ m.out.o4 z.out.o5))).1,(jt (by simpa using av)).1,au.out.nil1⟩ (ad.out.above hlow.out (fun k hk=>I.block k (by have:=ad.out.lt;omega) (fun e=>by have:=(z.out.o5.lt k e.symm).1;omega))) hlow.out O CG (E.out.trans (ag.grown I (fun b e=>Or.inr (Or.inr (z.out.o5.lt b e).1)))) CG 7 CG CG _ (by simp [gE])
   have aE:wa.heap[N]? = w9.heap[N]? := I.block N (ai j.out.k0) (fun e=>by have:=(z.out.o5.lt N e.symm).1;omega)
   have bg:=(World.cell?_of_block (w:=w9) (a:=⟨N,7,none⟩) aE).trans c9;have cV:=(World.frozen?_of_block (w:=w9) (a:=⟨N,7,none⟩) aE).trans f9;have bh:S wa:=(y.out _).2 bg;have ce:=ai bg;dsimp only at ce;refine wpList_nil ⟨rfl,?_⟩;refine hK _ _ (ak bh) ?_;clear hK K be av I aE bf;refine a9 ?_;simp only [List.drop_succ_cons,List.drop_zero];clear r0 hne D U B bh y c7 c9
   go_wp2_with fail
   go_meet
   exact cd.out
  ·
   have c7:=t.out.k4;simp only [Nat.zero_add] at c7
   go_upto_region 26 with fail
   obtain ⟨S,hS⟩:∃ S:World->Prop,∀ u,S u↔u.cell? ⟨N,4,none⟩=some (.slice dd.a2 r.Cy.length dd.c2):=⟨_,fun _=>Iff.rfl⟩
   have y:=aa hS;have r0:∀ u:an S,World.cell? u.val ⟨N,4,none⟩=some (.slice dd.a2 r.Cy.length dd.c2):=fun u=>(hS u.val).1 u.2
   have D:S w7.drew:=(hS _).2 c7;have hne:=aQ D;clear hS;refine bW 6 D ?_
   (refine ae 0 ?_;intro K hK;go_big_quiet_op;go_big_quiet_on);(refine ae 1 ?_;intro K hK;go_big_quiet_op;go_big_quiet_on);(refine ae 2 ?_;intro K hK;go_big_quiet_op;go_big_quiet_on)
   refine az 3 ?_;intro K hK
   go_wp2_with (go_at_call 32;refine (aJ C ca cc bs aD 4 _ (V.out.below (CV.drew)) CG CG).mono ?_;rintro e w9 ⟨p,aX,bc,rfl,ar,L,M⟩)
   have f:Hid (ag (fun k=>k=C) w7 w9):=((ag.refl _ _).drew).trans M
   have ad:=aa L;have B:S w9:=(y.out _).2 (f.out.cell c7 (by show ¬ N=C;omega))
   have aO:(p:Int)<4:=CG
   clear L M;refine hK _ _ (ak B) ?_;clear hK K;have af:w9.heap[N]? = w7.heap[N]? := f.out.block N (ai t.out.k0) CG
   have j:Hid (aA w9 N 0 dd r):=t.out.kept af;have z:Hid (LG w9 (N+2) dd r):=Z.out.keep (fun b h1 h2 _=>f.out.block b h2 CG)
   have m:Hid (R6 w9 (N+2) dd r):=T.out.kept (fun b h1 h2=>f.out.block b h2 CG)
   have au:Hid (bq w9 dd r):=iP m.out z.out;have E:Hid (ag (fun k=>k=C\/k=N\/N+2<=k) w7 w9):=f.out.mono (fun k hk=>Or.inl hk)
   have c9:=j.out.k4;simp only [Nat.zero_add] at c9;have f9:=(World.frozen?_of_block (w:=w7) (a:=⟨N,4,none⟩) af).trans (bb.out 4);have cb:N+2<=w9.heap.size:=by have:=f.out.size;omega
   have bR:=m;refine az 4 ?_;intro K hK
   go_wp2_with fail
   have bd:∀ o,S (World.alloc w9 o):=fun o=>(y.out _).2 (cell_later ((Below.refl w9.heap.size w9).alloc CW o) ((y.out _).1 B))
   refine hK _ _ (ak (bd _)) ?_;clear hK K bd;refine az 5 ?_;intro K hK;refine aU rfl (.tmp 129) (.tmp 132) 40 rfl (N+2) 3 _ 1 8 underlying40 Tryz.infoInt rfl CJ (.slice dd.a2 r.Cy.length dd.c2) r.Cy.length (bP r.Cy) rfl bR.out.o2 w9.heap.size rfl [.int .i64 p] rfl rfl CL CK CG cb ?_
   intro xf yf wa be I;have aE:wa.heap[N]? = w9.heap[N]? := I.block N (ai j.out.k0) (fun e=>by have:=(bR.out.o2.lt N e.symm).1;omega)
   have bg:=(World.cell?_of_block (w:=w9) (a:=⟨N,4,none⟩) aE).trans c9;have cV:=(World.frozen?_of_block (w:=w9) (a:=⟨N,4,none⟩) aE).trans f9;have cf:Hid (aA wa N 0 dd r):=j.out.kept aE;have cW:Hid (Cur wa C ca cc bs aX):=ad.out.above hlow.out (fun k hk=>I.block k (by have:=ad.out.lt;omega) (fun e=>by have:=(bR.out.o2.lt k e.symm).1;omega))
   have cX:Hid (ag (fun k=>k=C\/k=N\/N+2<=k) w7 wa):=E.out.trans (ag.grown I (fun b e=>Or.inr (Or.inr (bR.out.o2.lt b e).1)))
   have av:wa.ownsRow (N+2) 3 1 (.slice xf (r.Cy++[(p:Int)]).length yf) (r.Cy++[(p:Int)]).length (bP (r.Cy++[(p:Int)])):=by rw [<-jz];simpa using be
   have cd:Hid (Bm w7 C N (N+2) ca cc bs (at_+50) (wa.setCell ⟨N,4,none⟩ (.slice xf (r.Cy.length+1) yf))):=Bm.seti (d':=⟨dd.a0,dd.c0,dd.a1,dd.c1,xf,yf,dd.a3,dd.c3,dd.a4,dd.c4,dd.a5,dd.c5⟩) (r':=⟨r.start,r.stop,r.CE,r.CA,r.Cy++[(p:Int)],r.CF,r.over,r.Cz⟩) cf.out ⟨(cz (m.out.o0.kept I (aV CJ m.out.o0 m.out.o2))).1,(cz (z.out.o1.kept I (aV CJ z.out.o1 m.out.o2))).1,(eJ av).1,(ei (m.out.o3.kept I (aV CJ m.out.o3 m.out.o2))).1,(ei (m.out.o4.kept I (aV CJ m.out.o4 m.out.o2))).1,(jt (z.out.o5.kept I (aV CJ z.out.o5 m.out.o2))).1,au.out.nil1⟩ cW.out hlow.out O CG cX.out CG 4 CG CG _ (by simp [gE])
   have bh:S wa:=(y.out _).2 bg;have ce:=ai bg;dsimp only at ce;refine wpList_nil ⟨rfl,?_⟩;refine hK _ _ (ak bh) ?_;clear hK K be av I aE;refine a9 ?_;simp only [List.drop_succ_cons,List.drop_zero];clear r0 hne D B bh y c7 c9
   go_wp2_with fail
   go_meet
   exact cd.out
  ·
   go_wp2_with fail
   refine (aJ C ca cc bs aD 4 w7 V CG CG).mono ?_
   rintro e w8 ⟨p,ap,hp,rfl,ab,G,A⟩;have ac:=aa G;have aN:w8.heap[N]? = w7.heap[N]? := A.block N (ai t.out.k0) CG
   have aq:Hid (aA w8 N 0 dd r):=t.out.kept aN;have f8:=(World.frozen?_of_block (w:=w7) (a:=⟨N,0,none⟩) aN).trans (bb.out 0);have c8:=aq.out.k0;have b3:=ai c8;dsimp only at b3;have b4:Hid (LG w8 (N+2) dd r):=Z.out.keep (fun b h1 h2 _=>A.block b h2 CG)
   have b5:Hid (bq w8 dd r):=iP (T.out.kept (fun b h1 h2=>A.block b h2 CG)) b4.out
   have H:Hid (ag (fun k=>k=C\/k=N\/N+2<=k) w7 w8):=A.mono (fun k hk=>Or.inl hk)
   have aO:(p:Int)<4:=CG
   clear G A aN
   go_wp2_with fail
   go_meet
   exact Bm.int aq.out b5.out ac.out hlow.out O CG H.out CG 0 CG _
 case rest =>
  obtain ⟨d',r',at',F,cI,cY,cJ,cg⟩:=hcut.out;have k0:=F.k0;have k1:=F.k1;have k2:=F.k2;have k3:=F.k3;have k4:=F.k4;have k5:=F.k5;have k6:=F.k6;have k7:=F.k7;have aw:wc.heap[R]? = w7.heap[R]? := cg.block R CG CG
  have aB:=b1.out.kept aw;have ch:Hid (∀ o,8<=o->wc.cell? ⟨R,o,none⟩=none):=fun o ho=>(World.cell?_of_block (w:=w7) (a:=⟨R,o,none⟩) aw).trans (b2.out o ho)
  have ci:=aa aB;have l0:=aB.k0;have l1:=aB.k1;have l2:=aB.k2;have l3:=aB.k3;have l4:=aB.k4;have l5:=aB.k5;have l6:=aB.k6;have l7:=aB.k7;simp only [Nat.zero_add] at k0 k1 k2 k3 k4 k5 k6 k7 l0 l1 l2 l3 l4 l5 l6 l7;simp only [List.length_nil] at l2 l3 l4 l5 l6 l7;have g0:=(World.frozen?_of_block (w:=w7) (a:=⟨R,0,none⟩) aw).trans (J.out 0);have g1:=(World.frozen?_of_block (w:=w7) (a:=⟨R,1,none⟩) aw).trans (J.out 1);have g2:=(World.frozen?_of_block (w:=w7) (a:=⟨R,2,none⟩) aw).trans (J.out 2);have g3:=(World.frozen?_of_block (w:=w7) (a:=⟨R,3,none⟩) aw).trans (J.out 3);have g4:=(World.frozen?_of_block (w:=w7) (a:=⟨R,4,none⟩) aw).trans (J.out 4);have g5:=(World.frozen?_of_block (w:=w7) (a:=⟨R,5,none⟩) aw).trans (J.out 5);have g6:=(World.frozen?_of_block (w:=w7) (a:=⟨R,6,none⟩) aw).trans (J.out 6);have g7:=(World.frozen?_of_block (w:=w7) (a:=⟨R,7,none⟩) aw).trans (J.out 7);have bK:=aa cI;have HC:=aa cJ;have HO:=aa cg;have dn:N≠R:=CG
  have cZ:=ai l0;dsimp only at cZ;clear F cI cJ cg hcut aw aB
  go_wp2_with fail
  refine bodyPost_ret (v:=.agg #[.int .i64 r'.start,.int .i64 r'.stop,.slice d'.a0 r'.CE.length d'.c0,.slice d'.a1 r'.CA.length d'.c1,.slice d'.a2 r'.Cy.length d'.c2,.slice d'.a3 r'.CF.length d'.c3,.slice d'.a4 r'.over.length d'.c4,.slice d'.a5 r'.Cz.length d'.c5]) (by simp [results,results52,go_sem,l0,l1,l2,l3,l4,l5,l6,l7]) rfl ?_
  generalize cj:World.setCell (World.setCell (World.setCell (World.setCell (World.setCell (World.setCell (World.setCell (World.setCell wc _ _) _ _) _ _) _ _) _ _) _ _) _ _) _ _=wf;have hk:∀ b,b≠R->wf.heap[b]? = wc.heap[b]? := fun b hb=>by rw [<-cj,Below.heap_setCell _ _ _ _ hb,Below.heap_setCell _ _ _ _ hb,Below.heap_setCell _ _ _ _ hb,Below.heap_setCell _ _ _ _ hb,Below.heap_setCell _ _ _ _ hb,Below.heap_setCell _ _ _ _ hb,Below.heap_setCell _ _ _ _ hb,Below.heap_setCell _ _ _ _ hb]
  have bi:ag (fun k=>k=R) wc wf:=by
   rw [<-cj];exact (((((((ag.setCell (S:=fun k=>k=R) (ag.refl _ _) (p:=⟨R,0,none⟩) (Or.inl rfl) _).setCell (p:=⟨R,1,none⟩) (Or.inl rfl) _).setCell (p:=⟨R,2,none⟩) (Or.inl rfl) _).setCell (p:=⟨R,3,none⟩) (Or.inl rfl) _).setCell (p:=⟨R,4,none⟩) (Or.inl rfl) _).setCell (p:=⟨R,5,none⟩) (Or.inl rfl) _).setCell (p:=⟨R,6,none⟩) (Or.inl rfl) _).setCell (p:=⟨R,7,none⟩) (Or.inl rfl) _
  have hw:=bo.out;have da:aA wf R 0 d' r':=by rw [<-cj];exact ⟨by simp [go_sem,l0],by simp [go_sem,l1],by simp [go_sem,l2],by simp [go_sem,l3],by simp [go_sem,l4],by simp [go_sem,l5],by simp [go_sem,l6],by simp [go_sem,l7]⟩
  obtain ⟨r2,cD,db⟩:=bK.out.ints (b8.route ci.out ch.out da bi) ke.none;refine ⟨d',r2,at',congrArg Ending.returned (oO (d:=d') cD).symm,db,CG,HC.out.above hlow.out (fun k h=>hk k CG),?_⟩
  have h1:=cT.out;have h2:=HO.out;exact ⟨bi.os.trans (h2.os.trans h1.os),bi.tape.trans (h2.tape.trans h1.tape),bi.output.trans (h2.output.trans h1.output),by have a1:=h1.size;have a2:=h2.size;have a3:=bi.size;omega,fun b hb hn=>(hk b CG).trans ((h2.block b (by have:=h1.size;omega) CG).trans (h1.block b hb hn))⟩
def set8 (w:World)(g o:Nat)(d:aL)(r:al):World:=
 (((((((w.setCell ⟨g,o,none⟩ (.int .i64 r.start)).setCell ⟨g,o+1,none⟩ (.int .i64 r.stop)).setCell ⟨g,o+2,none⟩ (.slice d.a0 r.CE.length d.c0)).setCell ⟨g,o+3,none⟩ (.slice d.a1 r.CA.length d.c1)).setCell ⟨g,o+4,none⟩ (.slice d.a2 r.Cy.length d.c2)).setCell ⟨g,o+5,none⟩ (.slice d.a3 r.CF.length d.c3)).setCell ⟨g,o+6,none⟩ (.slice d.a4 r.over.length d.c4)).setCell ⟨g,o+7,none⟩ (.slice d.a5 r.Cz.length d.c5)
section
variable {w u:World} {g o:Nat} {d d0:aL} {r r0:al}
theorem qd {p:Addr}(h:∀ j,j<8->(⟨g,o+j,none⟩:Addr)≠p):(set8 w g o d r).cell? p=w.cell? p:=by
 unfold set8;rw [World.cell?_setCell_other _ _ _ _ (h 7 CG),World.cell?_setCell_other _ _ _ _ (h 6 CG),World.cell?_setCell_other _ _ _ _ (h 5 CG),World.cell?_setCell_other _ _ _ _ (h 4 CG),World.cell?_setCell_other _ _ _ _ (h 3 CG),World.cell?_setCell_other _ _ _ _ (h 2 CG),World.cell?_setCell_other _ _ _ _ (h 1 CG),World.cell?_setCell_other _ _ _ _ (show (⟨g,o,none⟩:Addr)≠p from h 0 CG)]
theorem rd:ag (fun k=>k=g) w (set8 w g o d r):=
 (((((((ag.setCell (S:=fun k=>k=g) (ag.refl _ _) (p:=⟨g,o,none⟩) (Or.inl rfl) _).setCell (p:=⟨g,o+1,none⟩) (Or.inl rfl) _).setCell (p:=⟨g,o+2,none⟩) (Or.inl rfl) _).setCell (p:=⟨g,o+3,none⟩) (Or.inl rfl) _).setCell (p:=⟨g,o+4,none⟩) (Or.inl rfl) _).setCell (p:=⟨g,o+5,none⟩) (Or.inl rfl) _).setCell (p:=⟨g,o+6,none⟩) (Or.inl rfl) _).setCell (p:=⟨g,o+7,none⟩) (Or.inl rfl) _
theorem mT (h:aA w g o d0 r0):aA (set8 w g o d r) g o d r:=by
 obtain ⟨h0,h1,h2,h3,h4,h5,h6,h7⟩:=h;unfold set8;exact ⟨by simp [go_sem,h0],by simp [go_sem,h1],by simp [go_sem,h2],by simp [go_sem,h3],by simp [go_sem,h4],by simp [go_sem,h5],by simp [go_sem,h6],by simp [go_sem,h7]⟩
theorem b8.set8 {S:Nat->Prop}(h:aA w g o d0 r0):b8 S w (set8 w g o d r):=fun b o' x _ hx=>by
 by_cases e:b=g/\o<=o'/\o'<o+8
 ·obtain ⟨rfl,e1,e2⟩:=e;obtain ⟨j,rfl⟩:∃ j,o'=o+j:=⟨o'-o,CG⟩
  have hj:j=0\/j=1\/j=2\/j=3\/j=4\/j=5\/j=6\/j=7:=CG
  rcases hj with rfl | rfl | rfl | rfl | rfl | rfl | rfl | rfl
  ·exact ⟨_,(mT h).k0⟩
  ·exact ⟨_,(mT h).k1⟩
  ·rw [h.k2] at hx;cases hx
  ·rw [h.k3] at hx;cases hx
  ·rw [h.k4] at hx;cases hx
  ·rw [h.k5] at hx;cases hx
  ·rw [h.k6] at hx;cases hx
  ·rw [h.k7] at hx;cases hx
 ·exact ⟨x,by rw [qd (fun j hj e2=>e (by injection e2 with e3 e4;omega))];exact hx⟩
end
def mJ (w:World)(g:Nat)(pr:List (aL × al)):Prop := ∀ k (hk:k<pr.length),aA w g (k*8) pr[k].1 pr[k].2
theorem nZ {y:Nat}{pr:List (aL × al)}(h:w.ownsRow B 44 8 (.slice (some ⟨g,0,none⟩) pr.length y) pr.length (fG pr)):mJ w g pr:=fun i hi=>by
 have hc:=h.cells (g:=g) rfl;have hg:∀ j,j<8->∀ u,(gE pr[i])[j]? = some u->w.cell? ⟨g,i*8+j,none⟩=some u:=by
  intro j hj u hu;have:=hc (i*8+j) u ((aZ gE 8 ud pr i j hi hj).trans hu);rw [bH] at this;have e:0+(i*8+j)=i*8+j:=CG
  rw [e] at this;exact this
 exact ⟨hg 0 CG _ rfl,hg 1 CG _ rfl,hg 2 CG _ rfl,hg 3 CG _ rfl,hg 4 CG _ rfl,hg 5 CG _ rfl,hg 6 CG _ rfl,hg 7 CG _ rfl⟩
theorem mJ.kept {pr:List (aL × al)}(h:mJ w g pr)(hb:u.heap[g]? = w.heap[g]?):mJ u g pr:=fun k hk=>(h k hk).kept hb
theorem mJ.set8 {i:Nat}{pr:List (aL × al)}(h:mJ w g pr)(hi:i<pr.length)(d:aL)(r:al):mJ (set8 w g (i*8) d r) g (pr.set i (d,r)):=fun k hk=>by
 rw [List.length_set] at hk
 by_cases e:i=k
 ·subst e;rw [List.getElem_set_self];exact mT (h i hi)
 ·rw [List.getElem_set_ne e];obtain ⟨h0,h1,h2,h3,h4,h5,h6,h7⟩:=h k hk;refine ⟨?_,?_,?_,?_,?_,?_,?_,?_⟩
  all_goals (rw [qd (fun j hj e2=>by injection e2 with e3 e4;omega)];assumption)
def nC (w:World)(a:Option Addr)(n:Nat):Prop := ∃ rs,rs.length=n/\dG w a rs
theorem Az (w:World)(a:Option Addr):nC w a 0:=⟨[],rfl,Nat.zero_le _,Or.inl rfl⟩
theorem nW {pr:List (aL × al)}(h:mJ w g pr)(hn:pr.length<=maxLen)(hl:∀ k (hk:k<pr.length),∃ r',nS pr[k].2 r'/\bq w pr[k].1 r'):nC w (some ⟨g,0,none⟩) pr.length:=by
 obtain ⟨l,h1,h2⟩:=fU (P:=fun k (x:al) => ∀ hk:k<pr.length,nS pr[k].2 x/\bq w pr[k].1 x) pr.length (fun k hk=>by
  obtain ⟨r',h1,h2⟩:=hl k hk;exact ⟨r',fun _=>⟨h1,h2⟩⟩)
 refine ⟨l,h1,by rw [h1];exact hn,Or.inr ⟨g,0,rfl,fun k hk=>?_⟩⟩
 obtain ⟨s,hx⟩:=h2 k hk (by rw [<-h1];exact hk)
 refine ⟨_,?_,hx⟩;rw [Nat.zero_add];exact (h k (by rw [<-h1];exact hk)).sameL s
theorem aA.ne {b o:Nat}(h:aA w b o d r)(hR:gO w R):b≠R:=fun e=>by subst e;obtain ⟨_,_,_,e⟩:=hR _ _ h.k0;cases e
section
variable {w u:World} {R:Nat}
theorem bV.offR {a:Option Addr}{ps:List Int}(h:bV w a ps)(hR:gO w R)(ho:ag (fun k=>k=R) w u):bV u a ps:=by
 refine ⟨h.1,h.2.imp id (fun ⟨b,off,ha,hc⟩=>⟨b,off,ha,fun i hi=>?_⟩)⟩
 have hb:b≠R:=fun e=>by subst e;obtain ⟨_,_,_,e⟩:=hR _ _ (hc i hi);cases e
 exact ho.cell (hc i hi) hb
theorem bw.offR {a:Option Addr}{ps:List aI}(h:bw w a ps)(hR:gO w R)(ho:ag (fun k=>k=R) w u):bw u a ps:=by
 refine ⟨h.1,h.2.imp id (fun ⟨b,off,ha,hc⟩=>⟨b,off,ha,fun i hi=>?_⟩)⟩
 obtain ⟨c0,c1,c2⟩:=hc i hi;have hb:b≠R:=fun e=>by subst e;obtain ⟨_,_,_,e⟩:=hR _ _ c0;cases e
 exact ⟨ho.cell c0 hb,ho.cell c1 hb,ho.cell c2 hb⟩
theorem cw.offR {a:Option Addr}{ps:List aN}(h:cw w a ps)(hR:gO w R)(ho:ag (fun k=>k=R) w u):cw u a ps:=by
 refine ⟨h.1,h.2.imp id (fun ⟨b,off,ha,hc⟩=>⟨b,off,ha,fun i hi=>?_⟩)⟩
 obtain ⟨c0,c1,c2,c3⟩:=hc i hi;have hb:b≠R:=fun e=>by subst e;obtain ⟨_,_,_,e⟩:=hR _ _ c0;cases e
 exact ⟨ho.cell c0 hb,ho.cell c1 hb,ho.cell c2 hb,ho.cell c3 hb⟩
theorem nC.offR {a:Option Addr}{n:Nat}(h:nC w a n)(hR:gO w R)(ho:ag (fun k=>k=R) w u):nC u a n:=by
 obtain ⟨rs,hn,h1,h2⟩:=h;refine ⟨rs,hn,h1,h2.imp id (fun ⟨b,off,ha,hc⟩=>⟨b,off,ha,fun i hi=>?_⟩)⟩
 obtain ⟨d,c,l⟩:=hc i hi;exact ⟨d,c.kept (ho.block b (ai c.k0) (c.ne hR)),l.CE.offR hR ho,l.CA.offR hR ho,l.Cy.offR hR ho,l.CF.offR hR ho,l.over.offR hR ho,l.Cz.offR hR ho,l.nil1⟩
def iJ (R:Nat)(w:World)(a:Option Addr)(n:Nat):Prop := ∃ tt,tt.length=n/\gH w a tt/\∀ b o,a=some ⟨b,o,none⟩->b≠R
theorem iJ.offR {a:Option Addr}{n:Nat}(h:iJ R w a n)(hR:gO w R)(ho:ag (fun k=>k=R) w u):iJ R u a n:=by
 obtain ⟨tt,hn,⟨h1,h2⟩,h3⟩:=h;refine ⟨tt,hn,⟨h1,h2.imp id (fun ⟨b,off,ha,hc⟩=>⟨b,off,ha,fun i hi=>?_⟩)⟩,h3⟩
 obtain ⟨ra,rc,c,l⟩:=hc i hi;exact ⟨ra,rc,ho.cell c (h3 b off ha),l.offR hR ho⟩
theorem iJ.ints {a:Option Addr}{n:Nat}(h:iJ R w a n)(hk:b8 (fun _=>False) w u)(hb:∀ b o,a=some ⟨b,o,none⟩->u.heap[b]? = w.heap[b]?):iJ R u a n:=by
 obtain ⟨tt,hn,⟨h1,h2⟩,h3⟩:=h;rcases h2 with e | ⟨b,off,ha,hc⟩
 ·exact ⟨tt,hn,⟨h1,Or.inl e⟩,h3⟩
 ·obtain ⟨l,hl,hp⟩:=fU (P:=fun i (x:List Int) => ∃ ra rc,u.cell? ⟨b,off+i,none⟩=some (.slice ra x.length rc)/\bV u ra x) tt.length (fun i hi=>by
   obtain ⟨ra,rc,c,l⟩:=hc i hi;obtain ⟨x,hx,hy⟩:=l.ints hk (fun _ _ _ h=>h)
   exact ⟨x,ra,rc,by rw [hx];exact (World.cell?_of_block (w:=w) (hb b off ha)).trans c,hy⟩)
  exact ⟨l,hl.trans hn,⟨by rw [hl];exact h1,Or.inr ⟨b,off,ha,hp⟩⟩,h3⟩
theorem iJ.put {b off i:Nat}{n:Nat}(h:iJ R w (some ⟨b,off,none⟩) n)(hi:i<n){ra:Option Addr}{m rc:Nat}(hx:∃ x,x.length=m/\bV w ra x):iJ R (w.setCell ⟨b,off+i,none⟩ (.slice ra m rc)) (some ⟨b,off,none⟩) n:=by
 obtain ⟨tt,hn,⟨h1,h2⟩,h3⟩:=h;have hc:∀ i (h:i<tt.length),∃ ra rc,w.cell? ⟨b,off+i,none⟩=some (.slice ra tt[i].length rc)/\bV w ra tt[i]:=by
  rcases h2 with e | ⟨b',g,ha,hc⟩
  ·rw [e] at hn;exact absurd hi (by rw [<-hn];exact Nat.not_lt_zero _)
  ·cases ha;exact hc
 obtain ⟨x,j,hx⟩:=hx;obtain ⟨p,q,c0,_⟩:=hc i (by rw [hn];exact hi)
 have hk:b8 (fun _=>False) w (w.setCell ⟨b,off+i,none⟩ (.slice ra m rc)):=b8.set c0 (Or.inr (fun z e=>by cases e))
 obtain ⟨l,hl,hp⟩:=fU (P:=fun k (x:List Int) => ∃ a d,(w.setCell ⟨b,off+i,none⟩ (.slice ra m rc)).cell? ⟨b,off+k,none⟩=some (.slice a x.length d)/\bV (w.setCell ⟨b,off+i,none⟩ (.slice ra m rc)) a x) tt.length (fun k o=>by
  by_cases e:k=i
  ·subst e;obtain ⟨y,hy,f⟩:=hx.ints hk (fun _ _ _ h=>h)
   exact ⟨y,ra,rc,by rw [hy,j];exact World.cell?_setCell_same _ _ _ c0,f⟩
  ·obtain ⟨a,d,c,l⟩:=hc k o;obtain ⟨y,hy,f⟩:=l.ints hk (fun _ _ _ h=>h)
   exact ⟨y,a,d,by rw [hy,World.cell?_setCell_other _ _ _ _ (fun e2=>e (by injection e2 with _ e3;omega))];exact c,f⟩)
 exact ⟨l,hl.trans hn,⟨by rw [hl];exact h1,Or.inr ⟨b,off,rfl,hp⟩⟩,h3⟩
end
end Go.Proofs.YtmkdgnmmebldgaaGreatDoor
