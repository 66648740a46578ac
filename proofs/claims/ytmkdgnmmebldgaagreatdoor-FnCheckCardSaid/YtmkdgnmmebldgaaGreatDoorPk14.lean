import Derived.Test.YtmkdgnmmebldgaaGreatDoorPk12
import Derived.Test.YtmkdgnmmebldgaaGreatDoorPk13
set_option maxRecDepth 100000
set_option maxHeartbeats 8000000
open Go.Proofs.Tryz
namespace Go.Proofs.YtmkdgnmmebldgaaGreatDoor
open Go.RowKit Go.Deep
variable {F Q:Nat}{a b:World}
theorem po {f:List am × List aN->Nat->List am × List aN}(h:∀ s fs t,f (s,fs) t=((f (s,[]) t).1,fs++(f (s,[]) t).2)):∀ (L:List Nat) (s:List am) (fs:List aN),L.foldl f (s,fs)=((L.foldl f (s,[])).1,fs++(L.foldl f (s,[])).2)
 | [],s,fs=>CI
 | t::r,s,fs=>by
  simp only [List.foldl_cons];rw [h s fs t,po h r _ (fs++(f (s,[]) t).2)];have e:f (s,[]) t=((f (s,[]) t).1,(f (s,[]) t).2):=rfl;rw [e,po h r _ (f (s,[]) t).2,List.append_assoc]
theorem tp (js:List aj)(ss:List af)(CA:List bg)(pl:Int):∀ (n:Nat) (s:List am) (fs:List aN) (e:am),bJ js ss CA pl n (s,fs) e=((bJ js ss CA pl n (s,[]) e).1,fs++(bJ js ss CA pl n (s,[]) e).2)
 | 0,s,fs,e=>by simp [bJ]
 | n+1,s,fs,e=>by
  simp only [bJ];generalize (if e.side=0 then (-1:Int) else 1)=wy
  split
  ·simp
  ·split
   ·simp
   ·split
    ·simp
    ·split
     ·simp
     ·exact po (fun s fs t=>tp js ss CA pl n s fs _) _ _ _
theorem j9 (ps:List af)(js:List aj)(ss:List af)(CA:List bg):∀ (L:List bg) (l:bg),aS ps js ss CA (L++[l])=aS ps js ss CA L++(bJ js ss CA l.CB (cI ps) ([],[]) (aY js l.CB.toNat (3-l.side).toNat)).2
 | [],l=>by simp [aS]
 | x::r,l=>by
  show _++aS ps js ss CA (r++[l])=_
  rw [j9 ps js ss CA r l]
  show _=(_++aS ps js ss CA r)++_
  rw [List.append_assoc]
theorem yW (ps:List af)(js:List aj)(ss:List af)(CA:List bg)(k:Nat)(hk:k<CA.length):
  (bJ js ss CA CA[k].CB (cI ps) ([],aS ps js ss CA (CA.take k)) (aY js CA[k].CB.toNat (3-CA[k].side).toNat)).2=aS ps js ss CA (CA.take (k+1)):=by
 rw [tp,List.take_succ_eq_append_getElem hk,j9]
theorem i8 {ps:List af}{js:List aj}{ss:List af}(R:bo ps js ss)(CA:List bg):∀ (L:List bg),(∀ l ∈ L,bM ps (aY js l.CB.toNat (3-l.side).toNat))->(aS ps js ss CA L).length<=2*ps.length*L.length
 | [],_=>by simp [aS]
 | l::r,h=>by
  have h1:=jp R CA l.CB (cI ps) ([],[]) _ (eZ.nil ps) (h l CI)
  have h2:=i8 R CA r (fun x hx=>h x (by simp [hx]))
  have h3:=h1.1.few;have h4:=h1.2.2;simp only [List.length_nil,Nat.add_zero,Nat.zero_add] at h4
  show ((bJ js ss CA l.CB (cI ps) ([],[]) (aY js l.CB.toNat (3-l.side).toNat)).2++aS ps js ss CA r).length<=_
  rw [List.length_append,List.length_cons,Nat.mul_add,Nat.mul_one];omega
structure LD (w0 w:World)(B F Q:Nat)(pa ja sa la:Option Addr)(pc jc sc lc:Nat)(np nj ns:Nat)(CA:List bg)(xf:Option Addr)(yf:Nat)(fl:List aN):Prop where
 base:Cx w0 w
 bz:B<=w.heap.size
 c0:w.cell? ⟨F,0,none⟩=some (.slice pa np pc)
 c1:w.cell? ⟨F,1,none⟩=some (.slice ja nj jc)
 c2:w.cell? ⟨F,2,none⟩=some (.slice sa ns sc)
 q3:w.cell? ⟨Q,3,none⟩=some (.slice la CA.length lc)
 L:aT w la CA
 s6:∃ v,w.cell? ⟨F,6,none⟩=some v
 z6:w.frozen? ⟨F,6,none⟩=false
 f7:w.cell? ⟨Q,7,none⟩=some (.slice xf fl.length yf)
 z7:w.frozen? ⟨Q,7,none⟩=false
 oF:w.ownsRow B 50 4 (.slice xf fl.length yf) fl.length (bO fl)
section
variable {w0 w w':World} {B F Q:Nat} {pa ja sa la:Option Addr} {pc jc sc lc np nj ns:Nat} {ps:List af} {js:List aj} {ss:List af} {CA:List bg} {xf:Option Addr} {yf:Nat} {fl:List aN}
theorem LD.below (h:LD w0 w B F Q pa ja sa la pc jc sc lc np nj ns CA xf yf fl)(hb:Cx w w'):LD w0 w' B F Q pa ja sa la pc jc sc lc np nj ns CA xf yf fl:=by
 obtain ⟨v,hv⟩:=h.s6;exact ⟨h.base.trans (hb.mono h.base.size),Nat.le_trans h.bz hb.size,cell_later hb h.c0,cell_later hb h.c1,cell_later hb h.c2,cell_later hb h.q3,h.L.below hb,⟨v,cell_later hb hv⟩,(hb.frozen (p:=⟨F,6,none⟩) (ai hv)).trans h.z6,cell_later hb h.f7,(hb.frozen (p:=⟨Q,7,none⟩) (ai h.f7)).trans h.z7,aq h.oF hb⟩
theorem LK.forget {xs:Option Addr}{ys:Nat}{st:List am × List aN}(h:LK w0 w B F Q pa ja sa la pc jc sc lc np nj ns CA xs ys xf yf st):LD w0 w B F Q pa ja sa la pc jc sc lc np nj ns CA xf yf st.2:=
 ⟨h.base,h.bz,h.c0,h.c1,h.c2,h.q3,h.L,⟨_,h.s6⟩,h.z6,h.f7,h.z7,h.oF⟩
theorem LD.reset (b0:LB w0 B F Q pa ja sa la ps js ss CA)(h:LD w0 w B F Q pa ja sa la pc jc sc lc np nj ns CA xf yf fl):LK w0 (w.setCell ⟨F,6,none⟩ (.slice none 0 0)) B F Q pa ja sa la pc jc sc lc np nj ns CA none 0 xf yf ([],fl):=by
 obtain ⟨v,hv⟩:=h.s6;have cF:∀ {o:Nat} {u:Value},o≠6->w.cell? ⟨F,o,none⟩=some u->(w.setCell ⟨F,6,none⟩ (.slice none 0 0)).cell? ⟨F,o,none⟩=some u:=fun ho hc=>by
  rw [World.cell?_setCell_other _ _ _ _ CP]
  exact hc
 have cQ:∀ {o:Nat} {u:Value},w.cell? ⟨Q,o,none⟩=some u->(w.setCell ⟨F,6,none⟩ (.slice none 0 0)).cell? ⟨Q,o,none⟩=some u:=fun hc=>by
  rw [World.cell?_setCell_other _ _ _ _ (by have:=b0.fq;first | (simp;done) | (simp;omega) | (simp_all;done) | (simp_all;omega))]
  exact hc
 refine ⟨h.base.setCell (p:=⟨F,6,none⟩) b0.f0 _,by simpa using h.bz,cF CG h.c0,cF CG h.c1,cF CG h.c2,cQ h.q3,?_,World.cell?_setCell_same _ _ _ hv,?_,cQ h.f7,?_,World.ownsRow_nil _ _ _ _,ownsRow_setCell_below h.oF b0.f1 _⟩
 ·refine h.L.kept ?_;rcases b0.la with hl | hl
  ·exact Or.inl hl
  ·refine Or.inr (fun b off e=>?_)
   rw [Below.heap_setCell _ _ _ _ (hl b off e).2.1]
 ·rw [World.frozen?_setCell];exact h.z6
 ·rw [World.frozen?_setCell];exact h.z7
end
structure dJ (F Q:Nat)(w w':World):Prop where
 only:ag (fun k=>k=F\/k=Q) w w'
 kF:dk F 6 w w'
 kQ:dk Q 7 w w'
 f:F<w.heap.size
 q:Q<w.heap.size
theorem dJ.refl {w:World}(f:F<w.heap.size)(q:Q<w.heap.size):dJ F Q w w:=⟨ag.refl _ _,dk.of_block rfl,dk.of_block rfl,f,q⟩
theorem dJ.later {c:World}(h:dJ F Q a b)(k:Cx b c):dJ F Q a c:=
 ⟨h.only.trans (ag.of_below k),h.kF.trans (dk.of_block (k.block F (Nat.lt_of_lt_of_le h.f h.only.size))),h.kQ.trans (dk.of_block (k.block Q (Nat.lt_of_lt_of_le h.q h.only.size))),h.f,h.q⟩
theorem dJ.set (h:dJ F Q a b)(hfq:F≠Q)(v:Value):dJ F Q a (b.setCell ⟨F,6,none⟩ v):=
 ⟨h.only.setCell (p:=⟨F,6,none⟩) (Or.inl (Or.inl rfl)) v,h.kF.trans (fun o ho=>⟨World.cell?_setCell_other _ _ _ _ CP,World.frozen?_setCell _ _ _ _⟩),h.kQ.trans (dk.of_block (Below.heap_setCell _ _ _ _ (fun e=>hfq (by simpa using e.symm)))),h.f,h.q⟩
theorem dJ.turn {vs vf:Value}{c:World}(h:dJ F Q a b)(k:gv F Q vs vf b c)(h1:∀ x,vs.ownBlock=some x->a.heap.size<=x)(h2:∀ x,vf.ownBlock=some x->a.heap.size<=x):dJ F Q a c:=
 ⟨⟨k.only.os.trans h.only.os,k.only.tape.trans h.only.tape,k.only.output.trans h.only.output,Nat.le_trans h.only.size k.size,fun x hx hn=>(k.only.block x (Nat.lt_of_lt_of_le hx h.only.size) (fun hs=>by
  rcases hs with hs | hs | hs | hs
  ·exact hn (Or.inl hs)
  ·exact hn (Or.inr hs)
  ·have:=h1 x hs;omega
  ·have:=h2 x hs;omega)).trans (h.only.block x hx hn)⟩,h.kF.trans k.kF,h.kQ.trans k.kQ,h.f,h.q⟩
end Go.Proofs.YtmkdgnmmebldgaaGreatDoor
