import Derived.Test.YtmkdgnmmebldgaaGreatDoorPt12
import Derived.Deep.AppendLies
import Derived.Test.YtmkdgnmmebldgaaGreatDoorPt10
import Derived.Test.YtmkdgnmmebldgaaGreatDoorPt6
set_option maxRecDepth 100000
set_option maxHeartbeats 8000000
namespace Go.Proofs.YtmkdgnmmebldgaaGreatDoor
open Go.RowKit Go.Deep
structure LB (w0:World)(B F Q:Nat)(pa ja sa la:Option Addr)(ps:List MPiece)(js:List MJoint)(ss:List MPiece)(lies:List MLie):Prop where
 P:PiecesAt w0 pa ps
 J:JointsAt w0 ja js
 S:PiecesAt w0 sa ss
 f0:w0.heap.size≤F
 q0:w0.heap.size≤Q
 f1:F<B
 q1:Q<B
 fq:F≠Q
 la:lies=[]∨∀ b off,la=some ⟨b,off,none⟩→b<B∧b≠F∧b≠Q
 ln:lies.length≤1000
 lu:∀ a ∈ lies,∀ b ∈ lies,a.piece=b.piece→a.side=b.side
structure LK (w0 w:World)(B F Q:Nat)(pa ja sa la:Option Addr)(pc jc sc lc:Nat)(np nj ns:Nat)(lies:List MLie)(xs:Option Addr)(ys:Nat)(xf:Option Addr)(yf:Nat)(st:List MEnd × List MFlank):Prop where
 base:Below w0.heap.size w0 w
 bz:B≤w.heap.size
 c0:w.cell? ⟨F,0,none⟩=some (.slice pa np pc)
 c1:w.cell? ⟨F,1,none⟩=some (.slice ja nj jc)
 c2:w.cell? ⟨F,2,none⟩=some (.slice sa ns sc)
 q3:w.cell? ⟨Q,3,none⟩=some (.slice la lies.length lc)
 L:EndsAt w la lies
 s6:w.cell? ⟨F,6,none⟩=some (.slice xs st.1.length ys)
 z6:w.frozen? ⟨F,6,none⟩=false
 f7:w.cell? ⟨Q,7,none⟩=some (.slice xf st.2.length yf)
 z7:w.frozen? ⟨Q,7,none⟩=false
 oS:w.ownsRow B 114 2 (.slice xs st.1.length ys) st.1.length (flatE st.1)
 oF:w.ownsRow B 50 4 (.slice xf st.2.length yf) st.2.length (flatF st.2)
def LKS (B F Q:Nat)(k:Nat):Prop:=k=F∨k=Q∨B≤k
def LKR (F Q:Nat)(vs vf:Value)(k:Nat):Prop:=k=F∨k=Q∨vs.ownBlock=some k∨vf.ownBlock=some k
def Tame (w:World)(v v':Value):Prop := ∀ b,v'.ownBlock=some b→v.ownBlock=some b∨w.heap.size≤b
theorem Tame.refl (w:World)(v:Value):Tame w v v:=fun _ h=>Or.inl h
theorem Tame.trans {w w':World}{a b c:Value}(h:Tame w a b)(k:Tame w' b c)(hz:w.heap.size≤w'.heap.size):Tame w a c:=fun x hx=>by
 rcases k x hx with h1 | h1
 ·exact h x h1
 ·exact Or.inr (Nat.le_trans hz h1)
theorem Tame.later {w w':World}{a b:Value}(h:Tame w' a b)(hz:w.heap.size≤w'.heap.size):Tame w a b:=fun x hx=>(h x hx).imp id (fun h1=>Nat.le_trans hz h1)
def KeptBut (b o:Nat)(w w':World):Prop := ∀ o',o'≠o→w'.cell? ⟨b,o',none⟩=w.cell? ⟨b,o',none⟩∧w'.frozen? ⟨b,o',none⟩=w.frozen? ⟨b,o',none⟩
theorem KeptBut.trans {b o:Nat}{u v w:World}(h:KeptBut b o u v)(k:KeptBut b o v w):KeptBut b o u w:=fun o' ho=>⟨(k o' ho).1.trans (h o' ho).1,(k o' ho).2.trans (h o' ho).2⟩
theorem KeptBut.of_block {b o:Nat}{w w':World}(e:w'.heap[b]? = w.heap[b]?):KeptBut b o w w':=fun _ _=>⟨World.cell?_of_block (w:=w) e,World.frozen?_of_block e⟩
structure Turn (F Q:Nat)(vs vf:Value)(w w':World):Prop where
 only:Only (LKR F Q vs vf) w w'
 kF:KeptBut F 6 w w'
 kQ:KeptBut Q 7 w w'
 f:F<w.heap.size
 q:Q<w.heap.size
theorem Turn.size {F Q:Nat}{vs vf:Value}{w w':World}(h:Turn F Q vs vf w w'):w.heap.size≤w'.heap.size:=h.only.size
theorem Turn.of_below {F Q:Nat}{vs vf:Value}{w w':World}(h:Below w.heap.size w w')(hF:F<w.heap.size)(hQ:Q<w.heap.size):Turn F Q vs vf w w':=
 ⟨Only.of_below h,KeptBut.of_block (h.block F hF),KeptBut.of_block (h.block Q hQ),hF,hQ⟩
theorem Turn.later {F Q:Nat}{vs vf:Value}{a b c:World}(h:Turn F Q vs vf a b)(k:Below b.heap.size b c):Turn F Q vs vf a c:=
 ⟨h.only.trans (Only.of_below k),h.kF.trans (KeptBut.of_block (k.block F (Nat.lt_of_lt_of_le h.f h.size))),h.kQ.trans (KeptBut.of_block (k.block Q (Nat.lt_of_lt_of_le h.q h.size))),h.f,h.q⟩
theorem LKR.trans {F Q:Nat}{vs vf vs1 vf1:Value}{w w1 w2:World}(h:Turn F Q vs vf w w1)(t1:Tame w vs vs1)(t2:Tame w vf vf1)(k:Turn F Q vs1 vf1 w1 w2):Turn F Q vs vf w w2:=
 ⟨⟨k.only.os.trans h.only.os,k.only.tape.trans h.only.tape,k.only.output.trans h.only.output,Nat.le_trans h.size k.size,fun b hb hn=>(k.only.block b (Nat.lt_of_lt_of_le hb h.size) (fun hs=>by
  rcases hs with hs | hs | hs | hs
  ·exact hn (Or.inl hs)
  ·exact hn (Or.inr (Or.inl hs))
  ·rcases t1 b hs with h1 | h1
   ·exact hn (Or.inr (Or.inr (Or.inl h1)))
   ·omega
  ·rcases t2 b hs with h1 | h1
   ·exact hn (Or.inr (Or.inr (Or.inr h1)))
   ·omega)).trans (h.only.block b hb hn)⟩,h.kF.trans k.kF,h.kQ.trans k.kQ,h.f,h.q⟩
section
variable {w0 w w':World} {B F Q:Nat} {pa ja sa la:Option Addr} {pc jc sc lc np nj ns:Nat} {ps:List MPiece} {js:List MJoint} {ss:List MPiece} {lies:List MLie} {xs:Option Addr} {ys:Nat} {xf:Option Addr} {yf:Nat} {st:List MEnd × List MFlank}
theorem LK.below (h:LK w0 w B F Q pa ja sa la pc jc sc lc np nj ns lies xs ys xf yf st)(hb:Below w.heap.size w w'):LK w0 w' B F Q pa ja sa la pc jc sc lc np nj ns lies xs ys xf yf st:=
 ⟨h.base.trans (hb.mono h.base.size),Nat.le_trans h.bz hb.size,cell_later hb h.c0,cell_later hb h.c1,cell_later hb h.c2,cell_later hb h.q3,h.L.below hb,cell_later hb h.s6,(hb.frozen (p:=⟨F,6,none⟩) (cellLt h.s6)).trans h.z6,cell_later hb h.f7,(hb.frozen (p:=⟨Q,7,none⟩) (cellLt h.f7)).trans h.z7,owns_below h.oS hb,owns_below h.oF hb⟩
theorem LK.pushS (b0:LB w0 B F Q pa ja sa la ps js ss lies)(h:LK w0 w B F Q pa ja sa la pc jc sc lc np nj ns lies xs ys xf yf st){e:MEnd}{x':Option Addr}{y':Nat}{w2:World}(hg:w.grownBy w2 (Value.slice xs st.1.length ys).ownBlock)
  (ho:w2.ownsRow B 114 2 (.slice x' (st.1.length+1) y') (st.1.length+1) (flatE (st.1++[e]))) :
  LK w0 (w2.setCell ⟨F,6,none⟩ (.slice x' (st.1.length+1) y')) B F Q pa ja sa la pc jc sc lc np nj ns lies x' y' xf yf (st.1++[e],st.2)∧Turn F Q (.slice xs st.1.length ys) (.slice xf st.2.length yf) w (w2.setCell ⟨F,6,none⟩ (.slice x' (st.1.length+1) y')):=by
 have hlt:=fun k e=>(h.oS.lt k e).1
 have nF:some F≠(Value.slice xs st.1.length ys).ownBlock:=fun e=>by have:=hlt F e.symm;have:=b0.f1;omega
 have nQ:some Q≠(Value.slice xs st.1.length ys).ownBlock:=fun e=>by have:=hlt Q e.symm;have:=b0.q1;omega
 have el:(st.1++[e]).length=st.1.length+1:=by simp
 have cF:∀ {o:Nat} {v:Value},o≠6→w.cell? ⟨F,o,none⟩=some v→(w2.setCell ⟨F,6,none⟩ (.slice x' (st.1.length+1) y')).cell? ⟨F,o,none⟩=some v:=by
  intro o v ho6 hc
  rw [World.cell?_setCell_other _ _ _ _ (by first | (simp;done) | (simp;omega)),hg.cell_far _ (cellLt hc) nF]
  exact hc
 have cQ:∀ {o:Nat} {v:Value},w.cell? ⟨Q,o,none⟩=some v→(w2.setCell ⟨F,6,none⟩ (.slice x' (st.1.length+1) y')).cell? ⟨Q,o,none⟩=some v:=by
  intro o v hc
  rw [World.cell?_setCell_other _ _ _ _ (by have:=b0.fq;first | (simp;done) | (simp;omega) | (simp_all;done) | (simp_all;omega)),hg.cell_far _ (cellLt hc) nQ]
  exact hc
 have ho':Only (LKS B F Q) w (w2.setCell ⟨F,6,none⟩ (.slice x' (st.1.length+1) y')):=Only.setCell (S:=LKS B F Q) (Only.of_grown (S:=LKS B F Q) hg (fun k e=>Or.inr (Or.inr (hlt k e)))) (p:=⟨F,6,none⟩) (Or.inl (Or.inl rfl)) _
 have g6:w2.cell? ⟨F,6,none⟩=some (.slice xs st.1.length ys):=by rw [hg.cell_far _ (cellLt h.s6) nF];exact h.s6
 have hd:(Value.slice xf st.2.length yf).ownBlock=none∨(Value.slice xf st.2.length yf).ownBlock≠(Value.slice xs st.1.length ys).ownBlock:=owns_ne (by decide) h.oF h.oS
 refine ⟨⟨?_,?_,cF (by omega) h.c0,cF (by omega) h.c1,cF (by omega) h.c2,cQ h.q3,?_,?_,?_,cQ h.f7,?_,?_,?_⟩,⟨Only.setCell (S:=LKR F Q (.slice xs st.1.length ys) (.slice xf st.2.length yf)) (Only.of_grown (S:=LKR F Q (.slice xs st.1.length ys) (.slice xf st.2.length yf)) hg (fun k e=>Or.inr (Or.inr (Or.inl e)))) (p:=⟨F,6,none⟩) (Or.inl (Or.inl rfl)) _,fun o ho6=>⟨by rw [World.cell?_setCell_other _ _ _ _ (by first | (simp;done) | (simp;omega))];exact World.cell?_of_block (w:=w) (hg.block F (cellLt h.s6) (fun e=>nF e)),by rw [World.frozen?_setCell];exact World.frozen?_of_block (hg.block F (cellLt h.s6) (fun e=>nF e))⟩,KeptBut.of_block (by rw [Below.heap_setCell _ _ _ _ (fun e=>b0.fq (by simpa using e.symm))];exact hg.block Q (cellLt h.f7) (fun e=>nQ e)),cellLt h.s6,cellLt h.f7⟩⟩
 ·exact h.base.trans (ho'.below h.base.size (fun k hk hs=>by have:=b0.f0;have:=b0.q0;have:=b0.f1;rcases hs with hs | hs | hs <;> omega))
 ·exact Nat.le_trans h.bz ho'.size
 ·refine h.L.kept ?_
  rcases b0.la with hl | hl
  ·exact Or.inl hl
  ·rcases h.L.2 with h3 | ⟨b,off,h3,h4⟩
   ·exact Or.inl h3
   ·refine Or.inr (fun b' off' e=>?_)
    rw [h3] at e
    cases e
    have:=hl b off h3
    by_cases hbz:b<w.heap.size
    ·exact ho'.block b hbz (by rintro (hs | hs | hs) <;> omega)
    ·have:=h.bz
     omega
 ·simp only [el]
  exact World.cell?_setCell_same _ _ _ g6
 ·rw [World.frozen?_setCell,hg.frozen_far _ (cellLt h.s6) nF]
  exact h.z6
 ·rw [World.frozen?_setCell,hg.frozen_far _ (cellLt h.f7) nQ]
  exact h.z7
 ·simp only [el]
  exact ownsRow_setCell_below ho b0.f1 _
 ·exact ownsRow_setCell_below (h.oF.kept hg hd) b0.f1 _
theorem LK.pushF (b0:LB w0 B F Q pa ja sa la ps js ss lies)(h:LK w0 w B F Q pa ja sa la pc jc sc lc np nj ns lies xs ys xf yf st){e:MFlank}{x':Option Addr}{y':Nat}{w2:World}(hg:w.grownBy w2 (Value.slice xf st.2.length yf).ownBlock)
  (ho:w2.ownsRow B 50 4 (.slice x' (st.2.length+1) y') (st.2.length+1) (flatF (st.2++[e]))) :
  LK w0 (w2.setCell ⟨Q,7,none⟩ (.slice x' (st.2.length+1) y')) B F Q pa ja sa la pc jc sc lc np nj ns lies xs ys x' y' (st.1,st.2++[e])∧Turn F Q (.slice xs st.1.length ys) (.slice xf st.2.length yf) w (w2.setCell ⟨Q,7,none⟩ (.slice x' (st.2.length+1) y')):=by
 have hlt:=fun k e=>(h.oF.lt k e).1
 have nF:some F≠(Value.slice xf st.2.length yf).ownBlock:=fun e=>by have:=hlt F e.symm;have:=b0.f1;omega
 have nQ:some Q≠(Value.slice xf st.2.length yf).ownBlock:=fun e=>by have:=hlt Q e.symm;have:=b0.q1;omega
 have el:(st.2++[e]).length=st.2.length+1:=by simp
 have cQ:∀ {o:Nat} {v:Value},o≠7→w.cell? ⟨Q,o,none⟩=some v→(w2.setCell ⟨Q,7,none⟩ (.slice x' (st.2.length+1) y')).cell? ⟨Q,o,none⟩=some v:=by
  intro o v ho6 hc
  rw [World.cell?_setCell_other _ _ _ _ (by first | (simp;done) | (simp;omega)),hg.cell_far _ (cellLt hc) nQ]
  exact hc
 have cF:∀ {o:Nat} {v:Value},w.cell? ⟨F,o,none⟩=some v→(w2.setCell ⟨Q,7,none⟩ (.slice x' (st.2.length+1) y')).cell? ⟨F,o,none⟩=some v:=by
  intro o v hc
  rw [World.cell?_setCell_other _ _ _ _ (by have:=b0.fq;first | (simp;done) | (simp;omega) | (simp_all;done) | (simp_all;omega)),hg.cell_far _ (cellLt hc) nF]
  exact hc
 have ho':Only (LKS B F Q) w (w2.setCell ⟨Q,7,none⟩ (.slice x' (st.2.length+1) y')):=Only.setCell (S:=LKS B F Q) (Only.of_grown (S:=LKS B F Q) hg (fun k e=>Or.inr (Or.inr (hlt k e)))) (p:=⟨Q,7,none⟩) (Or.inl (Or.inr (Or.inl rfl))) _
 have g7:w2.cell? ⟨Q,7,none⟩=some (.slice xf st.2.length yf):=by rw [hg.cell_far _ (cellLt h.f7) nQ];exact h.f7
 have hd:(Value.slice xs st.1.length ys).ownBlock=none∨(Value.slice xs st.1.length ys).ownBlock≠(Value.slice xf st.2.length yf).ownBlock:=owns_ne (by decide) h.oS h.oF
 refine ⟨⟨?_,?_,cF h.c0,cF h.c1,cF h.c2,cQ (by omega) h.q3,?_,cF h.s6,?_,?_,?_,?_,?_⟩,⟨Only.setCell (S:=LKR F Q (.slice xs st.1.length ys) (.slice xf st.2.length yf)) (Only.of_grown (S:=LKR F Q (.slice xs st.1.length ys) (.slice xf st.2.length yf)) hg (fun k e=>Or.inr (Or.inr (Or.inr e)))) (p:=⟨Q,7,none⟩) (Or.inl (Or.inr (Or.inl rfl))) _,KeptBut.of_block (by rw [Below.heap_setCell _ _ _ _ (fun e=>b0.fq (by simpa using e))];exact hg.block F (cellLt h.s6) (fun e=>nF e)),fun o ho7=>⟨by rw [World.cell?_setCell_other _ _ _ _ (by first | (simp;done) | (simp;omega))];exact World.cell?_of_block (w:=w) (hg.block Q (cellLt h.f7) (fun e=>nQ e)),by rw [World.frozen?_setCell];exact World.frozen?_of_block (hg.block Q (cellLt h.f7) (fun e=>nQ e))⟩,cellLt h.s6,cellLt h.f7⟩⟩
 ·exact h.base.trans (ho'.below h.base.size (fun k hk hs=>by have:=b0.f0;have:=b0.q0;have:=b0.f1;rcases hs with hs | hs | hs <;> omega))
 ·exact Nat.le_trans h.bz ho'.size
 ·refine h.L.kept ?_
  rcases b0.la with hl | hl
  ·exact Or.inl hl
  ·rcases h.L.2 with h3 | ⟨b,off,h3,h4⟩
   ·exact Or.inl h3
   ·refine Or.inr (fun b' off' e=>?_)
    rw [h3] at e
    cases e
    have:=hl b off h3
    by_cases hbz:b<w.heap.size
    ·exact ho'.block b hbz (by rintro (hs | hs | hs) <;> omega)
    ·have:=h.bz
     omega
 ·rw [World.frozen?_setCell,hg.frozen_far _ (cellLt h.s6) nF]
  exact h.z6
 ·simp only [el]
  exact World.cell?_setCell_same _ _ _ g7
 ·rw [World.frozen?_setCell,hg.frozen_far _ (cellLt h.f7) nQ]
  exact h.z7
 ·exact ownsRow_setCell_below (h.oS.kept hg hd) b0.q1 _
 ·simp only [el]
  exact ownsRow_setCell_below ho b0.q1 _
end
theorem flatF_push (fs:List MFlank)(p:MFlank):flatF fs++[.int .i64 p.place,.int .i64 p.kind,.int .i64 p.of,.int .i64 p.lie]=flatF (fs++[p]):=by
 rw [flatF_snoc]
 rfl
theorem flatE_push (fs:List MEnd)(p:MEnd):flatE fs++[.int .i64 p.piece,.int .i64 p.side]=flatE (fs++[p]):=by
 rw [flatE_snoc]
 rfl
theorem list2 {α:Type}{l:List α}(h:l.length=2):∃ a b,l=[a,b]:=by
 match l,h with
 | [a,b],_=>exact ⟨a,b,rfl⟩
theorem list4 {α:Type}{l:List α}(h:l.length=4):∃ a b c d,l=[a,b,c,d]:=by
 match l,h with
 | [a,b,c,d],_=>exact ⟨a,b,c,d,rfl⟩
theorem l1across_one (kind:Int)(nm:ByteArray)(es:List MEnd)(k:Nat)(hk:k<es.length)(hl:(es.length:Int)=kind)(hkd:kind=2∨kind=4)(ea:Option Addr)(ec:Nat)(w:World)(he:Hid (EndsAt w ea es)):
  ∃ (t:Nat) (ht:t<es.length),beyondF kind k=[t]∧Calls Tryz.prog 48 #[.agg #[.int .i64 kind,.string nm,.slice ea es.length ec],.int .i64 k] w (AcrossPost w [es[t]]):=by
 rcases hkd with rfl | rfl
 ·obtain ⟨a,b,rfl⟩:=list2 (show es.length=2 by omega)
  have hk2:k=0∨k=1:=by simp at hk;omega
  rcases hk2 with rfl | rfl
  ·exact ⟨1,by simp,rfl,l1across_2_0 nm a b ea ec w he⟩
  ·exact ⟨0,by simp,rfl,l1across_2_1 nm a b ea ec w he⟩
 ·obtain ⟨a,b,c,d,rfl⟩:=list4 (show es.length=4 by omega)
  have hk4:k=0∨k=1∨k=2∨k=3:=by simp at hk;omega
  rcases hk4 with rfl | rfl | rfl | rfl
  ·exact ⟨1,by simp,rfl,l1across_4_0 nm a b c d ea ec w he⟩
  ·exact ⟨0,by simp,rfl,l1across_4_1 nm a b c d ea ec w he⟩
  ·exact ⟨3,by simp,rfl,l1across_4_2 nm a b c d ea ec w he⟩
  ·exact ⟨2,by simp,rfl,l1across_4_3 nm a b c d ea ec w he⟩
theorem lie_open {lies:List MLie}(lu:∀ a ∈ lies,∀ b ∈ lies,a.piece=b.piece→a.side=b.side){j k:Int}(hk:k≠0):lieF lies j=k↔∃ q,∃ (hq:q<lies.length),lies[q].piece=j∧lies[q].side=k:=by
 unfold lieF
 cases h:lies.find? (fun l=>l.piece==j) with
 | none =>
  constructor
  ·intro e
   exact absurd e.symm hk
  ·rintro ⟨q,hq,h1,_⟩
   have:=List.find?_eq_none.1 h _ (List.getElem_mem hq)
   simp [h1] at this
 | some l =>
  have hm:=List.mem_of_find?_eq_some h
  have hp:l.piece=j:=by simpa using List.find?_some h
  constructor
  ·intro e
   obtain ⟨q,hq,rfl⟩:=List.getElem_of_mem hm
   exact ⟨q,hq,hp,e⟩
  ·rintro ⟨q,hq,h1,h2⟩
   show l.side=k
   rw [← h2]
   exact lu l hm _ (List.getElem_mem hq) (hp.trans h1.symm)
end Go.Proofs.YtmkdgnmmebldgaaGreatDoor
