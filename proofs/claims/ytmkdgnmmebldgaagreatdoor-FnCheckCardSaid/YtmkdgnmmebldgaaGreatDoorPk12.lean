import Derived.Test.YtmkdgnmmebldgaaGreatDoorPk11
import Derived.Deep.AppendLies
import Derived.Test.YtmkdgnmmebldgaaGreatDoorPk10
import Derived.Test.YtmkdgnmmebldgaaGreatDoorPk6
set_option maxRecDepth 100000
set_option maxHeartbeats 8000000
open Go.Proofs.Tryz
namespace Go.Proofs.YtmkdgnmmebldgaaGreatDoor
open Go.RowKit Go.Deep
variable {F Q:Nat}{ps:List af}{vf vs:Value}{w w':World}
theorem gJ (ss:List af)(p way:Int):∀ k,k<=ss.length->bE ss p way k = -1\/∃ (b:Nat) (hb:b<ss.length),b<k/\bE ss p way k=b/\ss[b].len=p/\ss[b].CC=way
 | 0,_=>Or.inl rfl
 | k+1,h=>by
  have hk:k<ss.length:=CG
  have ih:=gJ ss p way k CG
  have a:bE ss p way k = -1\/∃ (b:Nat) (hb:b<ss.length),b<k+1/\bE ss p way k=b/\ss[b].len=p/\ss[b].CC=way:=by
   rcases ih with ih | ⟨b,h1,h2,h3⟩
   ·exact Or.inl ih
   ·exact Or.inr ⟨b,h1,CG,h3⟩
  simp only [bE,List.getElem?_eq_getElem hk]
  split
  ·exact a
  ·split
   ·rename_i h1 _;refine Or.inr ⟨k,hk,CG,rfl,?_⟩
    constructor
    ·by_cases e:ss[k].len=p
     ·exact e
     ·exact absurd (Or.inl e) h1
    ·by_cases e:ss[k].CC=way
     ·exact e
     ·exact absurd (Or.inr e) h1
   ·exact a
section
variable {ss:List af} {p way:Int} {k:Nat}
theorem jf (hk:k<ss.length)(h:ss[k].len≠p\/ss[k].CC≠way):bE ss p way (k+1)=bE ss p way k:=by
 simp only [bE,List.getElem?_eq_getElem hk,if_pos h]
theorem jb (hk:k<ss.length)(h:¬ (ss[k].len≠p\/ss[k].CC≠way))(h2:bE ss p way k<0\/0<(ss[k].CD-bK ss (bE ss p way k))*way):bE ss p way (k+1)=k:=by
 simp only [bE,List.getElem?_eq_getElem hk,if_neg h,if_pos h2]
theorem m8 (hk:k<ss.length)(h:¬ (ss[k].len≠p\/ss[k].CC≠way))(h2:¬ (bE ss p way k<0\/0<(ss[k].CD-bK ss (bE ss p way k))*way)):bE ss p way (k+1)=bE ss p way k:=by
 simp only [bE,List.getElem?_eq_getElem hk,if_neg h,if_neg h2]
theorem Bf {ps:List af}{q:Int}(h:way=1\/way = -1){a b:Int}:bu ps q b way<bu ps q a way↔0<(a-b)*way:=by
 unfold bu;rcases h with rfl | rfl
 ·first | (simp;done) | (simp;omega)
 ·first | (simp;done) | (simp;omega)
end
theorem ma:∀ (m:Nat){L:List Nat},L.Nodup->(∀ x ∈ L,x<m)->L.length<=m
 | 0,L,_,h=>by
  cases L with
  | nil=>exact Nat.le_refl _
  | cons a r=>exact absurd (h a CI) (Nat.not_lt_zero _)
 | m+1,L,hd,h=>by
  by_cases hm:m ∈ L
  ·have h1:=ma m (hd.erase m) (fun x hx=>by
    have:=(hd.mem_erase_iff).1 hx;have:=h x this.2;omega)
   rw [List.length_erase_of_mem hm] at h1;omega
  ·have:=ma m hd (fun x hx=>by
    have:=h x hx;have:x≠m:=fun e=>hm (e ▸ hx)
    omega)
   omega
def eZ (ps:List af)(L:List am):Prop:=L.Nodup/\∀ e ∈ L,bM ps e
theorem eZ.few {L:List am}(h:eZ ps L):L.length<=2*ps.length:=by
 have h1:(L.map (fun e=>2*e.CB.toNat+e.side.toNat)).Nodup:=by
  unfold List.Nodup;rw [List.pairwise_map];refine List.Pairwise.imp_of_mem ?_ h.1;intro a b ha hb hne e;obtain ⟨p,hp,ea,sa⟩:=h.2 a ha;obtain ⟨q,hq,eb,sb⟩:=h.2 b hb;refine hne ?_;cases a;cases b;simp only [am.mk.injEq] at *;subst ea eb;simp only [Int.toNat_natCast] at e;rcases sa with rfl | rfl <;> rcases sb with rfl | rfl <;> simp at e ⊢ <;> omega
 have:=ma (2*ps.length) h1 (fun x hx=>by
  obtain ⟨e,he,rfl⟩:=List.mem_map.1 hx;obtain ⟨p,hp,ea,sa⟩:=h.2 e he;rw [ea];rcases sa with sa | sa <;> rw [sa] <;> simp <;> omega)
 simpa using this
theorem eZ.nil (ps:List af):eZ ps []:=⟨List.nodup_nil,fun e he=>absurd he CI⟩
theorem eZ.push {L:List am}{e:am}(h:eZ ps L)(hv:bM ps e)(hn:¬ L.any (fun x=>cR x e)=true):eZ ps (L++[e]):=by
 refine ⟨?_,?_⟩
 ·unfold List.Nodup;rw [List.pairwise_append];refine ⟨h.1,List.pairwise_singleton _ _,?_⟩;intro a ha b hb;have:b=e:=by simpa using hb
  subst this;rintro rfl;exact hn (List.any_eq_true.2 ⟨a,ha,iD.2 rfl⟩)
 ·intro x hx;rcases List.mem_append.1 hx with hx | hx
  ·exact h.2 x hx
  ·have:x=e:=by simpa using hx
   subst this;exact hv
theorem iF {kind:Int}{k t n:Nat}(hn:(n:Int)=kind)(hk:k<n)(ht:t ∈ bt kind k):t<n:=by
 unfold bt at ht
 split at ht
 ·have:t=1-k:=by simpa using ht
  omega
 ·split at ht
  ·split at ht
   ·have:t=1\/t=2:=by simpa using ht
    omega
   ·have:t=0:=by simpa using ht
    omega
  ·split at ht
   ·have:t=if k=0 then 1 else if k=1 then 0 else if k=2 then 3 else 2:=by simpa using ht
    subst this
    split
    ·omega
    ·split
     ·omega
     ·split <;> omega
   ·exact absurd ht CI
def gk (ps:List af)(a b:List am × List aN):Prop:=eZ ps b.1/\a.1.length<=b.1.length/\b.2.length+a.1.length<=a.2.length+b.1.length
theorem gk.refl {a:List am × List aN}(h:eZ ps a.1):gk ps a a:=⟨h,Nat.le_refl _,Nat.le_refl _⟩
theorem gk.trans {a b c:List am × List aN}(h:gk ps a b)(k:gk ps b c):gk ps a c:=
 ⟨k.1,Nat.le_trans h.2.1 k.2.1,by have:=h.2.2;have:=k.2.2;have:=h.2.1;have:=k.2.1;omega⟩
theorem gk.fold {f:List am × List aN->Nat->List am × List aN}:∀ (L:List Nat) {a:List am × List aN},eZ ps a.1->(∀ t ∈ L,∀ s,eZ ps s.1->gk ps s (f s t))->gk ps a (L.foldl f a)
 | [],_,ha,_=>gk.refl ha
 | t::r,a,ha,h=>by
  have h1:=h t CI a ha
  exact h1.trans (gk.fold r h1.1 (fun t' ht s hs=>h t' (by simp [ht]) s hs))
theorem bo.across {js:List aj}{ss:List af}(R:bo ps js ss){e:am}(he:bM ps e){t:Nat}(ht:t ∈ bt (aH js (aO js e).1) (aO js e).2):bM ps (aY js (aO js e).1 t):=by
 obtain ⟨j,k,h1,h2⟩:=R.spot he;rw [h2] at ht ⊢;obtain ⟨_,hj,hk,_⟩:=df h1;simp only [Nat.sub_zero] at hj hk;rw [cu hj] at ht;have hl:=iF (R.kind j hj).2.2 hk ht;rw [du hj hl];exact R.ends j hj t hl
theorem jp {js:List aj}{ss:List af}(R:bo ps js ss)(CA:List bg)(pl:Int):∀ (n:Nat) (st:List am × List aN) (e:am),eZ ps st.1->bM ps e->gk ps st (bJ js ss CA pl n st e)
 | 0,st,e,h,_=>gk.refl h
 | n+1,st,e,h,hv=>by
  simp only [bJ];generalize (if e.side=0 then (-1:Int) else 1)=wy
  split
  ·exact gk.refl h
  ·rename_i hn;have h1:=h.push hv hn;have hg:∀ x:aN,gk ps st (st.1++[e],st.2++[x]):=fun x=>⟨h1,CI,CN⟩
   split
   ·exact hg _
   ·split
    ·exact hg _
    ·split
     ·exact hg _
     ·refine gk.trans (b:=(st.1++[e],st.2)) ⟨h1,CI,CI⟩ ?_
      exact gk.fold (a:=(st.1++[e],st.2)) _ h1 (fun t ht s hs=>jp R CA pl n s _ hs (R.across (jL hv) ht))
structure LB (w0:World)(B F Q:Nat)(pa ja sa la:Option Addr)(ps:List af)(js:List aj)(ss:List af)(CA:List bg):Prop where
 P:ar w0 pa ps
 J:aP w0 ja js
 S:ar w0 sa ss
 f0:w0.heap.size<=F
 q0:w0.heap.size<=Q
 f1:F<B
 q1:Q<B
 fq:F≠Q
 la:CA=[]\/∀ b off,la=some ⟨b,off,none⟩->b<B/\b≠F/\b≠Q
 ln:CA.length<=1000
 lu:∀ a ∈ CA,∀ b ∈ CA,a.CB=b.CB->a.side=b.side
structure LK (w0 w:World)(B F Q:Nat)(pa ja sa la:Option Addr)(pc jc sc lc:Nat)(np nj ns:Nat)(CA:List bg)(xs:Option Addr)(ys:Nat)(xf:Option Addr)(yf:Nat)(st:List am × List aN):Prop where
 base:Cx w0 w
 bz:B<=w.heap.size
 c0:w.cell? ⟨F,0,none⟩=some (.slice pa np pc)
 c1:w.cell? ⟨F,1,none⟩=some (.slice ja nj jc)
 c2:w.cell? ⟨F,2,none⟩=some (.slice sa ns sc)
 q3:w.cell? ⟨Q,3,none⟩=some (.slice la CA.length lc)
 L:aT w la CA
 s6:w.cell? ⟨F,6,none⟩=some (.slice xs st.1.length ys)
 z6:w.frozen? ⟨F,6,none⟩=false
 f7:w.cell? ⟨Q,7,none⟩=some (.slice xf st.2.length yf)
 z7:w.frozen? ⟨Q,7,none⟩=false
 oS:w.ownsRow B 114 2 (.slice xs st.1.length ys) st.1.length (aG st.1)
 oF:w.ownsRow B 50 4 (.slice xf st.2.length yf) st.2.length (bO st.2)
def LKS (B F Q:Nat)(k:Nat):Prop:=k=F\/k=Q\/B<=k
def LKR (F Q:Nat)(vs vf:Value)(k:Nat):Prop:=k=F\/k=Q\/vs.ownBlock=some k\/vf.ownBlock=some k
def dj (w:World)(v v':Value):Prop := ∀ b,v'.ownBlock=some b->v.ownBlock=some b\/w.heap.size<=b
theorem dj.refl (w:World)(v:Value):dj w v v:=fun _ h=>Or.inl h
theorem dj.trans {a b c:Value}(h:dj w a b)(k:dj w' b c)(hz:w.heap.size<=w'.heap.size):dj w a c:=fun x hx=>by
 rcases k x hx with h1 | h1
 ·exact h x h1
 ·exact Or.inr (Nat.le_trans hz h1)
theorem dj.later {a b:Value}(h:dj w' a b)(hz:w.heap.size<=w'.heap.size):dj w a b:=fun x hx=>(h x hx).imp id (fun h1=>Nat.le_trans hz h1)
def dk (b o:Nat)(w w':World):Prop := ∀ o',o'≠o->w'.cell? ⟨b,o',none⟩=w.cell? ⟨b,o',none⟩/\w'.frozen? ⟨b,o',none⟩=w.frozen? ⟨b,o',none⟩
theorem dk.trans {b o:Nat}{u v:World}(h:dk b o u v)(k:dk b o v w):dk b o u w:=fun o' ho=>⟨(k o' ho).1.trans (h o' ho).1,(k o' ho).2.trans (h o' ho).2⟩
theorem dk.of_block {b o:Nat}(e:w'.heap[b]? = w.heap[b]?):dk b o w w':=fun _ _=>⟨World.cell?_of_block (w:=w) e,World.frozen?_of_block e⟩
structure gv (F Q:Nat)(vs vf:Value)(w w':World):Prop where
 only:ag (LKR F Q vs vf) w w'
 kF:dk F 6 w w'
 kQ:dk Q 7 w w'
 f:F<w.heap.size
 q:Q<w.heap.size
theorem gv.size (h:gv F Q vs vf w w'):w.heap.size<=w'.heap.size:=h.only.size
theorem gv.of_below (h:Cx w w')(hF:F<w.heap.size)(hQ:Q<w.heap.size):gv F Q vs vf w w':=
 ⟨ag.of_below h,dk.of_block (h.block F hF),dk.of_block (h.block Q hQ),hF,hQ⟩
theorem gv.later {a b c:World}(h:gv F Q vs vf a b)(k:Cx b c):gv F Q vs vf a c:=
 ⟨h.only.trans (ag.of_below k),h.kF.trans (dk.of_block (k.block F (Nat.lt_of_lt_of_le h.f h.size))),h.kQ.trans (dk.of_block (k.block Q (Nat.lt_of_lt_of_le h.q h.size))),h.f,h.q⟩
theorem LKR.trans {vs1 vf1:Value}{w1 w2:World}(h:gv F Q vs vf w w1)(t1:dj w vs vs1)(t2:dj w vf vf1)(k:gv F Q vs1 vf1 w1 w2):gv F Q vs vf w w2:=
 ⟨⟨k.only.os.trans h.only.os,k.only.tape.trans h.only.tape,k.only.output.trans h.only.output,Nat.le_trans h.size k.size,fun b hb hn=>(k.only.block b (Nat.lt_of_lt_of_le hb h.size) (fun hs=>by
  rcases hs with hs | hs | hs | hs
  ·exact hn (Or.inl hs)
  ·exact hn (Or.inr (Or.inl hs))
  ·rcases t1 b hs with h1 | h1
   ·exact hn (Or.inr (Or.inr (Or.inl h1)))
   ·omega
  ·rcases t2 b hs with h1 | h1
   ·exact hn (Or.inr (Or.inr (Or.inr h1)))
   ·omega)).trans (h.only.block b hb hn)⟩,h.kF.trans k.kF,h.kQ.trans k.kQ,h.f,h.q⟩
section
variable {w0 w w':World} {B F Q:Nat} {pa ja sa la:Option Addr} {pc jc sc lc np nj ns:Nat} {ps:List af} {js:List aj} {ss:List af} {CA:List bg} {xs:Option Addr} {ys:Nat} {xf:Option Addr} {yf:Nat} {st:List am × List aN}
theorem LK.below (h:LK w0 w B F Q pa ja sa la pc jc sc lc np nj ns CA xs ys xf yf st)(hb:Cx w w'):LK w0 w' B F Q pa ja sa la pc jc sc lc np nj ns CA xs ys xf yf st:=
 ⟨h.base.trans (hb.mono h.base.size),Nat.le_trans h.bz hb.size,cell_later hb h.c0,cell_later hb h.c1,cell_later hb h.c2,cell_later hb h.q3,h.L.below hb,cell_later hb h.s6,(hb.frozen (p:=⟨F,6,none⟩) (ai h.s6)).trans h.z6,cell_later hb h.f7,(hb.frozen (p:=⟨Q,7,none⟩) (ai h.f7)).trans h.z7,aq h.oS hb,aq h.oF hb⟩
theorem LK.pushS (b0:LB w0 B F Q pa ja sa la ps js ss CA)(h:LK w0 w B F Q pa ja sa la pc jc sc lc np nj ns CA xs ys xf yf st){e:am}{x':Option Addr}{y':Nat}{w2:World}(hg:w.grownBy w2 (Value.slice xs st.1.length ys).ownBlock)
  (ho:w2.ownsRow B 114 2 (.slice x' (st.1.length+1) y') (st.1.length+1) (aG (st.1++[e]))) :
  LK w0 (w2.setCell ⟨F,6,none⟩ (.slice x' (st.1.length+1) y')) B F Q pa ja sa la pc jc sc lc np nj ns CA x' y' xf yf (st.1++[e],st.2)/\gv F Q (.slice xs st.1.length ys) (.slice xf st.2.length yf) w (w2.setCell ⟨F,6,none⟩ (.slice x' (st.1.length+1) y')):=by
 have a:=fun k e=>(h.oS.lt k e).1
 have nF:some F≠(Value.slice xs st.1.length ys).ownBlock:=fun e=>by have:=a F e.symm;have:=b0.f1;omega
 have nQ:some Q≠(Value.slice xs st.1.length ys).ownBlock:=fun e=>by have:=a Q e.symm;have:=b0.q1;omega
 have el:(st.1++[e]).length=st.1.length+1:=CI
 have cF:∀ {o:Nat} {v:Value},o≠6->w.cell? ⟨F,o,none⟩=some v->(w2.setCell ⟨F,6,none⟩ (.slice x' (st.1.length+1) y')).cell? ⟨F,o,none⟩=some v:=by
  intro o v d hc;rw [World.cell?_setCell_other _ _ _ _ CP,hg.cell_far _ (ai hc) nF]
  exact hc
 have cQ:∀ {o:Nat} {v:Value},w.cell? ⟨Q,o,none⟩=some v->(w2.setCell ⟨F,6,none⟩ (.slice x' (st.1.length+1) y')).cell? ⟨Q,o,none⟩=some v:=by
  intro o v hc;rw [World.cell?_setCell_other _ _ _ _ (by have:=b0.fq;first | (simp;done) | (simp;omega) | (simp_all;done) | (simp_all;omega)),hg.cell_far _ (ai hc) nQ]
  exact hc
 have c:ag (LKS B F Q) w (w2.setCell ⟨F,6,none⟩ (.slice x' (st.1.length+1) y')):=ag.setCell (S:=LKS B F Q) (ag.of_grown (S:=LKS B F Q) hg (fun k e=>Or.inr (Or.inr (a k e)))) (p:=⟨F,6,none⟩) (Or.inl (Or.inl rfl)) _
 have g6:w2.cell? ⟨F,6,none⟩=some (.slice xs st.1.length ys):=by rw [hg.cell_far _ (ai h.s6) nF];exact h.s6
 have hd:(Value.slice xf st.2.length yf).ownBlock=none\/(Value.slice xf st.2.length yf).ownBlock≠(Value.slice xs st.1.length ys).ownBlock:=aV CJ h.oF h.oS
 refine ⟨⟨?_,?_,cF CG h.c0,cF CG h.c1,cF CG h.c2,cQ h.q3,?_,?_,?_,cQ h.f7,?_,?_,?_⟩,⟨ag.setCell (S:=LKR F Q (.slice xs st.1.length ys) (.slice xf st.2.length yf)) (ag.of_grown (S:=LKR F Q (.slice xs st.1.length ys) (.slice xf st.2.length yf)) hg (fun k e=>Or.inr (Or.inr (Or.inl e)))) (p:=⟨F,6,none⟩) (Or.inl (Or.inl rfl)) _,fun o d=>⟨by rw [World.cell?_setCell_other _ _ _ _ CP];exact World.cell?_of_block (w:=w) (hg.block F (ai h.s6) (fun e=>nF e)),by rw [World.frozen?_setCell];exact World.frozen?_of_block (hg.block F (ai h.s6) (fun e=>nF e))⟩,dk.of_block (by rw [Below.heap_setCell _ _ _ _ (fun e=>b0.fq (by simpa using e.symm))];exact hg.block Q (ai h.f7) (fun e=>nQ e)),ai h.s6,ai h.f7⟩⟩
 ·exact h.base.trans (c.below h.base.size (fun k hk hs=>by have:=b0.f0;have:=b0.q0;have:=b0.f1;rcases hs with hs | hs | hs <;> omega))
 ·exact Nat.le_trans h.bz c.size
 ·refine h.L.kept ?_;rcases b0.la with hl | hl
  ·exact Or.inl hl
  ·rcases h.L.2 with h3 | ⟨b,off,h3,h4⟩
   ·exact Or.inl h3
   ·refine Or.inr (fun b' f e=>?_)
    rw [h3] at e;cases e;have:=hl b off h3
    by_cases g:b<w.heap.size
    ·exact c.block b g (by rintro (hs | hs | hs) <;> omega)
    ·have:=h.bz;omega
 ·simp only [el];exact World.cell?_setCell_same _ _ _ g6
 ·rw [World.frozen?_setCell,hg.frozen_far _ (ai h.s6) nF];exact h.z6
 ·rw [World.frozen?_setCell,hg.frozen_far _ (ai h.f7) nQ];exact h.z7
 ·simp only [el];exact ownsRow_setCell_below ho b0.f1 _
 ·exact ownsRow_setCell_below (h.oF.kept hg hd) b0.f1 _
theorem LK.pushF (b0:LB w0 B F Q pa ja sa la ps js ss CA)(h:LK w0 w B F Q pa ja sa la pc jc sc lc np nj ns CA xs ys xf yf st){e:aN}{x':Option Addr}{y':Nat}{w2:World}(hg:w.grownBy w2 (Value.slice xf st.2.length yf).ownBlock)
  (ho:w2.ownsRow B 50 4 (.slice x' (st.2.length+1) y') (st.2.length+1) (bO (st.2++[e]))) :
  LK w0 (w2.setCell ⟨Q,7,none⟩ (.slice x' (st.2.length+1) y')) B F Q pa ja sa la pc jc sc lc np nj ns CA xs ys x' y' (st.1,st.2++[e])/\gv F Q (.slice xs st.1.length ys) (.slice xf st.2.length yf) w (w2.setCell ⟨Q,7,none⟩ (.slice x' (st.2.length+1) y')):=by
 have a:=fun k e=>(h.oF.lt k e).1
 have nF:some F≠(Value.slice xf st.2.length yf).ownBlock:=fun e=>by have:=a F e.symm;have:=b0.f1;omega
 have nQ:some Q≠(Value.slice xf st.2.length yf).ownBlock:=fun e=>by have:=a Q e.symm;have:=b0.q1;omega
 have el:(st.2++[e]).length=st.2.length+1:=CI
 have cQ:∀ {o:Nat} {v:Value},o≠7->w.cell? ⟨Q,o,none⟩=some v->(w2.setCell ⟨Q,7,none⟩ (.slice x' (st.2.length+1) y')).cell? ⟨Q,o,none⟩=some v:=by
  intro o v g hc;rw [World.cell?_setCell_other _ _ _ _ CP,hg.cell_far _ (ai hc) nQ]
  exact hc
 have cF:∀ {o:Nat} {v:Value},w.cell? ⟨F,o,none⟩=some v->(w2.setCell ⟨Q,7,none⟩ (.slice x' (st.2.length+1) y')).cell? ⟨F,o,none⟩=some v:=by
  intro o v hc;rw [World.cell?_setCell_other _ _ _ _ (by have:=b0.fq;first | (simp;done) | (simp;omega) | (simp_all;done) | (simp_all;omega)),hg.cell_far _ (ai hc) nF]
  exact hc
 have c:ag (LKS B F Q) w (w2.setCell ⟨Q,7,none⟩ (.slice x' (st.2.length+1) y')):=ag.setCell (S:=LKS B F Q) (ag.of_grown (S:=LKS B F Q) hg (fun k e=>Or.inr (Or.inr (a k e)))) (p:=⟨Q,7,none⟩) (Or.inl (Or.inr (Or.inl rfl))) _
 have g7:w2.cell? ⟨Q,7,none⟩=some (.slice xf st.2.length yf):=by rw [hg.cell_far _ (ai h.f7) nQ];exact h.f7
 have hd:(Value.slice xs st.1.length ys).ownBlock=none\/(Value.slice xs st.1.length ys).ownBlock≠(Value.slice xf st.2.length yf).ownBlock:=aV CJ h.oS h.oF
 refine ⟨⟨?_,?_,cF h.c0,cF h.c1,cF h.c2,cQ CG h.q3,?_,cF h.s6,?_,?_,?_,?_,?_⟩,⟨ag.setCell (S:=LKR F Q (.slice xs st.1.length ys) (.slice xf st.2.length yf)) (ag.of_grown (S:=LKR F Q (.slice xs st.1.length ys) (.slice xf st.2.length yf)) hg (fun k e=>Or.inr (Or.inr (Or.inr e)))) (p:=⟨Q,7,none⟩) (Or.inl (Or.inr (Or.inl rfl))) _,dk.of_block (by rw [Below.heap_setCell _ _ _ _ (fun e=>b0.fq (by simpa using e))];exact hg.block F (ai h.s6) (fun e=>nF e)),fun o i=>⟨by rw [World.cell?_setCell_other _ _ _ _ CP];exact World.cell?_of_block (w:=w) (hg.block Q (ai h.f7) (fun e=>nQ e)),by rw [World.frozen?_setCell];exact World.frozen?_of_block (hg.block Q (ai h.f7) (fun e=>nQ e))⟩,ai h.s6,ai h.f7⟩⟩
 ·exact h.base.trans (c.below h.base.size (fun k hk hs=>by have:=b0.f0;have:=b0.q0;have:=b0.f1;rcases hs with hs | hs | hs <;> omega))
 ·exact Nat.le_trans h.bz c.size
 ·refine h.L.kept ?_;rcases b0.la with hl | hl
  ·exact Or.inl hl
  ·rcases h.L.2 with h3 | ⟨b,off,h3,h4⟩
   ·exact Or.inl h3
   ·refine Or.inr (fun b' d e=>?_)
    rw [h3] at e;cases e;have:=hl b off h3
    by_cases f:b<w.heap.size
    ·exact c.block b f (by rintro (hs | hs | hs) <;> omega)
    ·have:=h.bz;omega
 ·rw [World.frozen?_setCell,hg.frozen_far _ (ai h.s6) nF];exact h.z6
 ·simp only [el];exact World.cell?_setCell_same _ _ _ g7
 ·rw [World.frozen?_setCell,hg.frozen_far _ (ai h.f7) nQ];exact h.z7
 ·exact ownsRow_setCell_below (h.oS.kept hg hd) b0.q1 _
 ·simp only [el];exact ownsRow_setCell_below ho b0.q1 _
end
theorem ib (fs:List aN)(p:aN):bO fs++[.int .i64 p.place,.int .i64 p.kind,.int .i64 p.of,.int .i64 p.lie]=bO (fs++[p]):=by
 rw [xz];rfl
theorem eE (fs:List am)(p:am):aG fs++[.int .i64 p.CB,.int .i64 p.side]=aG (fs++[p]):=by
 rw [iR];rfl
theorem Cl {α:Type}{l:List α}(h:l.length=2):∃ a b,l=[a,b]:=by
 match l,h with
 | [a,b],_=>exact ⟨a,b,rfl⟩
theorem Cn {α:Type}{l:List α}(h:l.length=4):∃ a b c d,l=[a,b,c,d]:=by
 match l,h with
 | [a,b,c,d],_=>exact ⟨a,b,c,d,rfl⟩
theorem Ad {CA:List bg}(lu:∀ a ∈ CA,∀ b ∈ CA,a.CB=b.CB->a.side=b.side){j k:Int}(hk:k≠0):ce CA j=k↔∃ q,∃ (hq:q<CA.length),CA[q].CB=j/\CA[q].side=k:=by
 unfold ce;cases h:CA.find? (fun l=>l.CB==j) with
 | none =>
  constructor
  ·intro e;exact absurd e.symm hk
  ·rintro ⟨q,hq,h1,_⟩;have:=List.find?_eq_none.1 h _ (List.getElem_mem hq);simp [h1] at this
 | some l =>
  have hm:=List.mem_of_find?_eq_some h;have hp:l.CB=j:=by simpa using List.find?_some h
  constructor
  ·intro e;obtain ⟨q,hq,rfl⟩:=List.getElem_of_mem hm;exact ⟨q,hq,hp,e⟩
  ·rintro ⟨q,hq,h1,h2⟩
   show l.side=k
   rw [<-h2];exact lu l hm _ (List.getElem_mem hq) (hp.trans h1.symm)
end Go.Proofs.YtmkdgnmmebldgaaGreatDoor
