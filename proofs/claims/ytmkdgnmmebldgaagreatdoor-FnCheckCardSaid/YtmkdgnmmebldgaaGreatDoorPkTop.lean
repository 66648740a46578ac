import Derived.Test.YtmkdgnmmebldgaaGreatDoorPk43
import Derived.Test.YtmkdgnmmebldgaaGreatDoorPk44
import Derived.Test.YtmkdgnmmebldgaaGreatDoorPk53
import Derived.Test.YtmkdgnmmebldgaaGreatDoorPk35
import Derived.Test.YtmkdgnmmebldgaaGreatDoorPk45
import Derived.Test.YtmkdgnmmebldgaaGreatDoorPk48
import Derived.Test.YtmkdgnmmebldgaaGreatDoorPk50
import Derived.Test.YtmkdgnmmebldgaaGreatDoorPk40
import Derived.Laws.OwnMore
import Derived.Test.YtmkdgnmmebldgaaGreatDoorPk51
import Derived.Test.YtmkdgnmmebldgaaGreatDoorPk34
import Derived.Test.YtmkdgnmmebldgaaGreatDoorPk16
import Derived.Test.YtmkdgnmmebldgaaGreatDoorTie
import Derived.Test.YtmkdgnmmebldgaaGreatDoorCards
import Derived.Test.YtmkdgnmmebldgaaGreatDoorPk41
import Derived.Stop.LaidErr
import Derived.ChangeSame
import Derived.ChangeVars
import Derived.JoinedOf
import Derived.RowKitTokens
import Derived.LaidLaws
import Derived.LaidHandle
import Derived.Stop.Joined
set_option maxRecDepth 100000
set_option maxHeartbeats 60000000
open Go.Proofs.Tryz
namespace Go.Proofs.YtmkdgnmmebldgaaGreatDoor
open Go.RowKit Go.Deep
variable {B g:Nat}{ps ss:List af}{w:World}
def ze (C:Nat)(ca:Option Addr)(cc:Nat)(bs:List Int)(at_:Nat)(w:World)(e:Ending)(w':World):Prop:=
 ∃ pa pc ja jc sa sc ps js ss at',e = .returned (.tuple #[.agg #[.slice pa (ps:List af).length pc,.slice ja (js:List aj).length jc],.slice sa (ss:List af).length sc])/\(∀ u,ag (fun k=>k=C) w' u->ar u pa ps/\aP u ja js/\ar u sa ss)/\at'<=at_+200000000/\Cur w' C ca cc bs at'/\ag (fun k=>k=C) w w'
def sO (C R M:Nat)(wz:World)(pa ja sa:Option Addr)(ps:List af)(js:List aj)(ss:List af):Prop:=
 ∀ u:World,(∀ b,b≠C->b≠R->b≠M->b<wz.heap.size->u.heap[b]? = wz.heap[b]?)->ar u pa ps/\aP u ja js/\ar u sa ss
theorem zV (C:Nat)(ca:Option Addr)(cc:Nat)(bs:List Int)(at_:Nat)(w:World)(hc:Hid (Cur w C ca cc bs at_))(hlow:Hid (eQ C ca bs))(ha:at_<=100000000):
  Calls prog 50 #[.pointer (some ⟨C,0,none⟩)] w (ze C ca cc bs at_ w):=by
 have aM:=hc.out.lt
 go_enter func50,ntmps50
 go_wp2_with fail
 generalize hW:World.alloc w _=W;have an:Cx w W:=by rw [<-hW];exact blo
 have R0:W.cell? ⟨w.heap.size,0,none⟩=some (.slice none 0 0):=by rw [<-hW];simp [go_sem]
 have R1:W.cell? ⟨w.heap.size,1,none⟩=some (.slice none 0 0):=by rw [<-hW];simp [go_sem]
 have L:Hid (∀ o,W.frozen? ⟨w.heap.size,o,none⟩=false):=fun o=>by rw [<-hW];simp [go_sem]
 have aN:w.heap.size<W.heap.size:=by rw [<-hW];simp
 have N:=aa an;obtain ⟨R,hR⟩:∃ R,w.heap.size=R:=⟨_,rfl⟩;have ao:Hid (w.heap.size=R):=hR;rw [hR] at R0 R1 L aN aM ⊢;clear hW an hR;refine (rH C ca cc bs at_ W (hc.out.below N.out) hlow CG).mono ?_
 rintro e w1 ⟨pa,pc,ja,jc,ps,js,aO,rfl,ap,aq,au,aQ,O⟩;have T:=aa ap;have l:=aa aq;have av:=aa au;have U:=aa O;have aR:=O.size;clear ap au O aq
 go_wp2_with fail
 generalize p:World.alloc w1 _=W2;have aw:Cx w1 W2:=by rw [<-p];exact blo
 have M0:W2.cell? ⟨w1.heap.size,0,none⟩=some (.slice pa ps.length pc):=by rw [<-p];simp [go_sem]
 have M1:W2.cell? ⟨w1.heap.size,1,none⟩=some (.slice ja js.length jc):=by rw [<-p];simp [go_sem]
 have V:Hid (∀ o,W2.frozen? ⟨w1.heap.size,o,none⟩=false):=fun o=>by rw [<-p];simp [go_sem]
 have aS:W2.heap.size=w1.heap.size+1:=by rw [<-p];simp
 have m:=aa aw;clear p aw;obtain ⟨M,hM⟩:∃ M,w1.heap.size=M:=⟨_,rfl⟩;have F:Hid (w1.heap.size=M):=hM;rw [hM] at M0 M1 V aS aR ⊢;clear hM;have a4:C<M:=CG
 have ay:Hid (∀ u,ag (fun k=>k=C) W2 u->ar u pa ps/\aP u ja js):=fun u hu=>T.out u (fun b h1 h2=>(hu.block b (by have:=m.out.size;omega) CG).trans (m.out.block b h2))
 refine (oK C ca cc bs aO pa pc ja js.length jc ps W2 (av.out.below m.out) hlow CG (fun u hu=>(ay.out u hu).1) l.out.1 l.out.2.1 l.out.2.2.1).mono ?_
 rintro e w3 ⟨sa,sc,ss,aT,rfl,az,aA,aB,aU,X⟩;have aC:=aa az;have q:=aa aA;have aD:=aa aB;have aE:=aa X;have a5:=X.size;clear az aB X aA
 go_wp2_with fail
 refine (aJ C ca cc bs aT 24 w3 aD CG CG).mono ?_
 rintro e w4 ⟨x,Y,hx,rfl,aV,aF,y⟩;have Z:=aa aF;have r:Hid (ag (fun k=>k=C) W2 w4):=aE.out.trans y
 have a6:=y.size;have m0:=r.out.cell M0 (by show ¬ M=C;omega)
 have m1:=r.out.cell M1 (by show ¬ M=C;omega)
 have s:w4.heap[M]? = W2.heap[M]? := r.out.block M CG CG
 have aG:Hid (∀ o,w4.frozen? ⟨M,o,none⟩=false):=fun o=>(World.frozen?_of_block (w:=W2) (a:=⟨M,o,none⟩) s).trans (V.out o)
 have d:w4.heap[R]? = W.heap[R]? := ((r.out.block R CG CG).trans (m.out.block R (by have:=F.out;omega))).trans (U.out.block R CG CG)
 have q0:=(World.cell?_of_block (w:=W) (a:=⟨R,0,none⟩) d).trans R0;have q1:=(World.cell?_of_block (w:=W) (a:=⟨R,1,none⟩) d).trans R1;have t:Hid (∀ o,w4.frozen? ⟨R,o,none⟩=false):=fun o=>(World.frozen?_of_block (w:=W) (a:=⟨R,o,none⟩) d).trans (L.out o)
 have ab:Hid (∀ u,(∀ b,b≠C->b≠R->b≠M->b<W2.heap.size->u.heap[b]? = w4.heap[b]?)->ar u pa ps/\aP u ja js):=fun u hu=>T.out u (fun b h1 h2=>(hu b CG CG (by have:=F.out;omega) (by have:=F.out;omega)).trans ((r.out.block b (by have:=F.out;omega) CG).trans (m.out.block b h2)))
 have aH:Hid (∀ u,(∀ b,W2.heap.size<=b->b<w3.heap.size->u.heap[b]? = w4.heap[b]?)->ar u sa ss):=fun u hu=>aC.out u (fun b h1 h2=>(hu b h1 h2).trans (y.block b h2 CG))
 have ac:Hid (ag (fun k=>k=C) w w4):=by
  have h1:=U.out;have h2:=m.out;have h3:=r.out;have h0:=N.out;exact (((ag.of_below h0).trans h1).trans (ag.of_below h2)).trans h3
 have aI:Hid (w4.ownsRow W2.heap.size 62 4 (.slice sa ss.length sc) ss.length (bd ss)):=ax q.out.2.1 (fun b hb=>y.block b (q.out.2.1.lt b hb).2 (by have:=(q.out.2.1.lt b hb).1;omega))
 have aW:=aa q.out.2.2;have a7:=q.out.1;have aK:=l.out.2.1;have aL:=l.out.2.2.2.1;have aX:Hid (∀ j ∈ js,j.ends.length<=4):=l.out.2.2.2.2;have ad:W2.heap.size<=w4.heap.size:=CG
 clear aF y M0 M1 R0 R1 s d aD aE aC T av U m N V L q l ay;have n:Hid (∀ (wz wf:World) (G:Option Addr) (ae:Nat) (H:Option Addr) (ah:Nat) (I:Option Addr) (ai:Nat) (f:List af) (g:List aj) (i:List af) (J:Nat),sO C R M wz G H I f g i->Cur wz C ca cc bs J->J<=at_+200000000->ag (fun k=>k=C\/w.heap.size<=k) w wz->wf.heap.size=wz.heap.size->(∀ b,b≠R->b≠M->wf.heap[b]? = wz.heap[b]?)->wf.os=wz.os->wf.tape=wz.tape->wf.output=wz.output->ze C ca cc bs at_ w (.returned (.tuple #[.agg #[.slice G f.length ae,.slice H g.length ah],.slice I i.length ai])) wf):=by
  intro wz wf G ae H ah I ai f g i J hk hc aY ho hs hb h1 h2 h3;have hw:=ao.out;refine ⟨G,ae,H,ah,I,ai,f,g,i,J,rfl,fun u hu=>hk u (fun b b1 b2 b3 b4=>(hu.block b CG b1).trans (hb b b2 b3)),aY,hc.above hlow.out (fun k hk=>hb k CG CG),⟨h1.trans ho.os,h2.trans ho.tape,h3.trans ho.output,by have:=ho.size;omega,fun b aZ hn=>(hb b CG CG).trans (ho.block b aZ CG)⟩⟩
 have a0:x=0\/x=1\/2<=x:=CG
 have a8:M≠R:=CG
 rcases a0 with rfl | rfl | a9
 ·have z:=ab.out w4 (fun _ _ _ _ _=>rfl)
  go_wp2_with fail
  refine (yx C ca cc bs Y pa pc ja jc ps js w4 Z hlow CG z.1 z.2 CG CG aX).mono ?_
  rintro e w5 ⟨xp,yp,xj,yj,f,g,ak,rfl,A,al,B,c,_⟩;have a3:=c.size;have p0:=c.cell m0 (by show ¬ M=C;omega)
  have p1:=c.cell m1 (by show ¬ M=C;omega)
  have r0:=c.cell q0 (by show ¬ R=C;omega)
  have r1:=c.cell q1 (by show ¬ R=C;omega)
  have s:w5.heap[M]? = w4.heap[M]? := c.block M CG CG
  have d:w5.heap[R]? = w4.heap[R]? := c.block R CG CG
  have f0:=(World.frozen?_of_block (w:=w4) (a:=⟨M,0,none⟩) s).trans (aG.out 0);have f1:=(World.frozen?_of_block (w:=w4) (a:=⟨M,1,none⟩) s).trans (aG.out 1);have g0:=(World.frozen?_of_block (w:=w4) (a:=⟨R,0,none⟩) d).trans (t.out 0);have g1:=(World.frozen?_of_block (w:=w4) (a:=⟨R,1,none⟩) d).trans (t.out 1);have D:Hid (sO C R M w5 xp xj sa f g ss):=fun u hu=>by
   obtain ⟨a1,a2⟩:=A u (fun b h1 h2 _=>hu b CG CG CG h2)
   exact ⟨a1,a2,aH.out u (fun b h1 h2=>(hu b CG CG CG CG).trans (c.block b CG CG))⟩
  have am:=aa B;have E:Hid (ag (fun k=>k=C\/w.heap.size<=k) w w5):=(ac.out.trans c).mono (fun k hk=>Or.inl hk)
  clear A B c s d m0 m1 q0 q1
  go_wp2_with fail
  refine bodyPost_ret (v:=.tuple #[.agg #[.slice xp f.length yp,.slice xj g.length yj],.slice sa ss.length sc]) (by simp [results,results50,go_sem,r0,r1]) rfl ?_
  exact n.out w5 _ xp yp xj yj sa sc f g ss ak D.out am.out CG E.out CI (fun b b1 b2=>by rw [Below.heap_setCell _ _ _ _ b1,Below.heap_setCell _ _ _ _ b1,Below.heap_setCell _ _ _ _ b2,Below.heap_setCell _ _ _ _ b2]) rfl rfl rfl
 ·go_wp2_with fail
  refine (pg C W2.heap.size ca cc bs Y pa ps.length pc ja js.length jc sa ss.length sc ss w4 Z hlow CG CG ad CG aI rfl CG aW).mono ?_
  rintro e w5 ⟨xs,ys,i,ak,rfl,A,al,B,c,_⟩;have a3:=c.size;replace c:=c.mono (S':=fun k=>k=C\/W2.heap.size<=k) (fun k hk=>hk.imp id (fun e=>(aI.out.lt k e).1))
  have p0:=c.cell m0 (by show ¬ (M=C\/W2.heap.size<=M);omega)
  have p1:=c.cell m1 (by show ¬ (M=C\/W2.heap.size<=M);omega)
  have r0:=c.cell q0 (by show ¬ (R=C\/W2.heap.size<=R);omega)
  have r1:=c.cell q1 (by show ¬ (R=C\/W2.heap.size<=R);omega)
  have d:w5.heap[R]? = w4.heap[R]? := c.block R CG CG
  have g0:=(World.frozen?_of_block (w:=w4) (a:=⟨R,0,none⟩) d).trans (t.out 0);have g1:=(World.frozen?_of_block (w:=w4) (a:=⟨R,1,none⟩) d).trans (t.out 1);have D:Hid (sO C R M w5 pa ja xs ps js i):=fun u hu=>by
   obtain ⟨a1,a2⟩:=ab.out u (fun b h0 h1 h2 h3=>(hu b h0 h1 h2 CG).trans (c.block b CG CG))
   exact ⟨a1,a2,A u (fun b h1 h2=>hu b CG CG CG h2)⟩
  have am:=aa B;have E:Hid (ag (fun k=>k=C\/w.heap.size<=k) w w5):=(ac.out.mono (fun k hk=>Or.inl hk)).trans (c.mono (fun k hk=>hk.imp id (fun h=>by have:=ao.out;omega)))
  clear A B c d m0 m1 q0 q1
  go_wp2_with fail
  refine bodyPost_ret (v:=.tuple #[.agg #[.slice pa ps.length pc,.slice ja js.length jc],.slice xs i.length ys]) (by simp [results,results50,go_sem,r0,r1]) rfl ?_
  exact n.out w5 _ pa pc ja jc xs ys ps js i ak D.out am.out CG E.out CI (fun b b1 b2=>by rw [Below.heap_setCell _ _ _ _ b1,Below.heap_setCell _ _ _ _ b1]) rfl rfl rfl
 ·have e0:((x:Int)==0)=false:=by rw [beq_eq_false_iff_ne];omega
  have e1:((x:Int)==1)=false:=by rw [beq_eq_false_iff_ne];omega
  have g0:=t.out 0;have g1:=t.out 1;have D:Hid (sO C R M w4 pa ja sa ps js ss):=fun u hu=>by
   obtain ⟨a1,a2⟩:=ab.out u (fun b h0 h1 h2 h3=>hu b h0 h1 h2 CG)
   exact ⟨a1,a2,aH.out u (fun b h1 h2=>hu b CG CG CG CG)⟩
  have E:Hid (ag (fun k=>k=C\/w.heap.size<=k) w w4):=ac.out.mono (fun k hk=>Or.inl hk)
  go_wp2_with fail
  refine bodyPost_ret (v:=.tuple #[.agg #[.slice pa ps.length pc,.slice ja js.length jc],.slice sa ss.length sc]) (by simp [results,results50,go_sem,q0,q1]) rfl ?_
  exact n.out w4 _ pa pc ja jc sa sc ps js ss Y D.out Z.out CG E.out CI (fun b b1 b2=>by rw [Below.heap_setCell _ _ _ _ b1,Below.heap_setCell _ _ _ _ b1]) rfl rfl rfl
theorem oo (ps:List af)(js:List aj):∀ (n:Nat) (s:aM) (pos left:Int),(cL ps js n s pos left).length<=n
 | 0,s,pos,left=>by simp [cL]
 | n+1,s,pos,left=>by
  simp only [cL]
  split
  ·simp
  ·simp only [List.length_cons]
   split
   ·have:=oo ps js n (aD (aY js (aO js (au s)).1 (1-(aO js (au s)).2))) (aR ps (aY js (aO js (au s)).1 (1-(aO js (au s)).2))) (left-min left ((aR ps (au s)-pos)*s.side));omega
   ·simp
theorem uD {p:aw}(h:0<p.CE.length):(cY ps ss p).length=p.CE.length:=by
 unfold cY;rw [List.length_append,dW,List.length_dropLast,List.length_singleton];omega
theorem sm (ps:List af)(js:List aj)(ss:List af)(over:Int):∀ r ∈ aX ps js ss over,tK r:=by
 intro r hr;unfold aX at hr
 split at hr
 ·rename_i hc;obtain ⟨q,hq,rfl⟩:=List.mem_map.1 hr;obtain ⟨h1,h2⟩:=List.mem_filter.1 hq;have R:=lX hc.1;have hp:=nN R ss.length CW q h1 h2;have a:∀ l ∈ q.CA,bM ps (aY js l.CB.toNat (3-l.side).toNat):=fun l c=>by
   obtain ⟨j,hj,h1,h2,h3⟩:=hp.lv l c;have hk:=R.kind j hj;have b:(3-l.side).toNat<js[j].ends.length:=by have:=hk.2.2;omega
   rw [h1,Int.toNat_natCast,du hj b];exact R.ends j hj _ b
  have f:=i8 R q.CA q.CA a;have g:=R.np;have h:=hp.s1;have i:=hp.ll;have k:=hp.cl;have d:2*ps.length*q.CA.length<=200*120:=Nat.mul_le_mul CG CG
  refine ⟨⟨show q.CE.length<=1000 by omega,show q.CA.length<=1000 by omega,show q.Cy.length<=1000 by omega,show (cY ps ss q).length<=1000 by rw [uD hp.s0];omega⟩,?_,show (aS ps js ss q.CA q.CA).length<=50000 by omega⟩
  show (dE ps js ss q.stop over).length<=200000
  unfold dE
  split
  ·simp
  ·split
   ·simp
   ·refine Nat.le_trans (oo ps js (over.toNat+1) _ _ _) ?_;have:=hc.2.2.1;omega
 ·cases hr
def s8 (w:World)(e:Ending)(w':World):Prop:=
 ∃ pa pc ja jc sa sc ps js ss over ra rn rc ta tn tc,e = .returned (.tuple #[.agg #[.slice pa (ps:List af).length pc,.slice ja (js:List aj).length jc],.slice sa (ss:List af).length sc,.int .i64 over,.slice ra rn rc,.slice ta tn tc])/\ar w' pa ps/\aP w' ja js/\ar w' sa ss/\nC w' ra rn/\(∃ tt,tt.length=tn/\gH w' ta tt)/\Cx w w'
theorem bQ.keep {w':World}{cells:List Value}{tt:List (List Int)}(h:bQ w B cells tt)(hk:∀ b,B<=b->b<w.heap.size->w'.heap[b]? = w.heap[b]?):bQ w' B cells tt:=by
 refine ⟨h.1,fun i hi=>?_⟩
 obtain ⟨v,h1,h2⟩:=h.2 i hi;exact ⟨v,h1,ax h2 (fun b hb=>hk b (h2.lt b hb).1 (h2.lt b hb).2)⟩
theorem yw {es:List Int}(h:bV w (some ⟨g,0,none⟩) es){x:Option Addr}(hx:es.length=1\/x=some ⟨g,1,none⟩):bV w x (es.drop 1):=by
 refine ⟨by have:=h.1;rw [List.length_drop];omega,?_⟩
 rcases hx with h1 | h1
 ·exact Or.inl (List.drop_eq_nil_of_le CG)
 ·rcases h.2 with e | ⟨b,off,e,hc⟩
  ·exact Or.inl (by rw [e];rfl)
  ·cases e;refine Or.inr ⟨g,1,h1,fun i hi=>?_⟩
   rw [List.length_drop] at hi;have c0:=hc (i+1) CG
   have e0:0+(i+1)=1+i:=CG
   rw [e0] at c0;have e1:(es.drop 1)[i]'(by rw [List.length_drop];exact hi)=es[i+1]:=by rw [List.getElem_drop];congr 1;omega
   rw [e1];exact c0
theorem iy.off {F:Nat}{a:Option Addr}{n m:Nat}(h:iy w F a n)(hg:iQ w g)(hm:m=n):m=0\/Off (fun k=>k=g) a:=
 h.elim (fun e=>Or.inl (hm.trans e)) (fun h=>Or.inr (fun b o e hk=>by subst hk;exact (h b o e).2.2 hg))
theorem z9 {s n y:Nat}{xs:List Value}(h:w.ownsRow B 44 s (.slice (some ⟨g,0,none⟩) n y) n xs):iQ w g:=by
 rcases h.2 with ⟨h1,_⟩ | ⟨g',b,a,h1,_,h3,_⟩
 ·cases h1
 ·cases h1;exact ⟨a,h3⟩
def CkZ (C R M:Nat)(w2 wx:World)(ra:Option Addr)(rn:Nat)(ta:Option Addr)(tn:Nat):Prop:=nC wx ra rn/\iJ R wx ta tn/\ag (fun k=>k=C\/M<k) w2 wx
theorem sH (ca:Option Addr)(cc:Nat)(bs:List Int)(w:World)(hcode:Hid (bs=[]\/∃ b off,ca=some ⟨b,off,none⟩/\jr w b off bs))(hsm:Hid (∀ x ∈ bs,0<=x/\x<256))(hlen:bs.length<=1048576):
  Calls prog 20 #[.slice ca bs.length cc] w (s8 w):=by
 have V:Hid (bs=[]\/∀ b off,ca=some ⟨b,off,none⟩->b<w.heap.size):=by
  rcases hcode.out with h | ⟨b,off,h1,h2⟩
  ·exact Or.inl h
  ·by_cases h0:bs=[]
   ·exact Or.inl h0
   ·refine Or.inr (fun b' cs e=>?_)
    rw [h1] at e;cases e;exact ai (h2 0 (List.length_pos_iff.2 h0))
 go_enter func20,ntmps20
 go_wp2_with fail
 generalize hW:World.alloc (World.alloc w _) _=W;have bg:Cx w W:=by rw [<-hW];exact blo
 have bh:Hid (Cur W (w.heap.size+1) ca cc bs 0):=by
  refine ⟨by rw [<-hW];simp [go_sem],by rw [<-hW];simp [go_sem],⟨0,by rw [<-hW];simp [go_sem]⟩,fun o=>by rw [<-hW];simp [go_sem],?_,hsm.out,hlen,fun o ho=>by rw [<-hW];simp [go_sem];omega⟩
  rcases hcode.out with h | ⟨b,off,h1,h2⟩
  ·exact Or.inl h
  ·rcases V.out with h0 | h0
   ·exact Or.inl h0
   ·exact Or.inr ⟨b,off,h1,by have:=h0 b off h1;omega,fun i hi=>cell_later bg (h2 i hi)⟩
 have R0:W.cell? ⟨w.heap.size,0,none⟩=some (.slice none 0 0):=by rw [<-hW];simp [go_sem]
 have R1:W.cell? ⟨w.heap.size,1,none⟩=some (.slice none 0 0):=by rw [<-hW];simp [go_sem]
 have bM:Hid (∀ o,2<=o->W.cell? ⟨w.heap.size,o,none⟩=none):=fun o ho=>by rw [<-hW];simp [go_sem];omega
 have bi:Hid (∀ o,W.frozen? ⟨w.heap.size,o,none⟩=false):=fun o=>by rw [<-hW];simp [go_sem]
 have ct:w.heap.size+1<W.heap.size:=by rw [<-hW];simp
 have cu:=aa bg;have bN:Hid (gO W w.heap.size):=fun o v h=>by
  by_cases h2:2<=o
  ·rw [bM.out o h2] at h;cases h
  ·have:o=0\/o=1:=CG
   rcases this with rfl | rfl
   ·rw [R0] at h;cases h;exact ⟨_,_,_,rfl⟩
   ·rw [R1] at h;cases h;exact ⟨_,_,_,rfl⟩
 clear hW bg bM;obtain ⟨C,hC⟩:∃ C,w.heap.size+1=C:=⟨_,rfl⟩;obtain ⟨R,hR⟩:∃ R,w.heap.size=R:=⟨_,rfl⟩;rw [hC] at bh ct ⊢;have bO:Hid (w.heap.size=R):=hR;rw [hR] at R0 R1 bi bN ⊢;have da:R<C:=CG
 have HL:Hid (eQ C ca bs):=V.out.imp id (fun h0 b off h=>by have:=h0 b off h;omega)
 clear hC hR;refine (zV C ca cc bs 0 W bh HL CG).mono ?_
 rintro e w1 ⟨pa,pc,ja,jc,sa,sc,ps,js,ss,cv,rfl,bP,cw,aW,aX⟩;have bR:=aa bP;have cx:=aa aW;have cy:=aa aX;have cz:=aX.size;have bS:w1.heap[R]? = W.heap[R]? := aX.block R CG CG
 have bj:=aa bS;clear bP aW aX bh bS
 go_wp2_with fail
 generalize aY:World.alloc w1 _=w2;have bT:Cx w1 w2:=by rw [<-aY];exact blo
 have m0:w2.cell? ⟨w1.heap.size,0,none⟩=some (.slice pa ps.length pc):=by rw [<-aY];simp [go_sem]
 have m1:w2.cell? ⟨w1.heap.size,1,none⟩=some (.slice ja js.length jc):=by rw [<-aY];simp [go_sem]
 have G:=aa bT;obtain ⟨M,hM⟩:∃ M,w1.heap.size=M:=⟨_,rfl⟩;rw [hM] at m0 m1 cz ⊢;have bU:Hid (w1.heap.size=M):=hM;have db:C<M:=CG
 have cA:=ai m0;dsimp only at cA;clear aY bT hM;refine (Aq C ca cc bs cv w2 (cx.out.below G.out) CG).mono ?_
 rintro e w3 ⟨ov,bV,rfl,cB,X,cD,bX,ap⟩;have cE:=aa bX;have dc:=aa ap;have dd:=ap.size;have n0:=ap.cell m0 (by show ¬ M=C;omega)
 have n1:=ap.cell m1 (by show ¬ M=C;omega)
 have bY:Hid (∀ u,ag (fun k=>k=C\/M<k) w2 u->ar u pa ps/\aP u ja js/\ar u sa ss):=fun u hu=>bR.out u ⟨hu.os.trans G.out.os,hu.tape.trans G.out.tape,hu.output.trans G.out.output,Nat.le_trans G.out.size hu.size,fun k hk hn=>(hu.block k (by have:=G.out.size;omega) (by have:=bU.out;omega)).trans (G.out.block k hk)⟩
 have cF:Hid (∀ u,ag (fun k=>k=C\/M<k) w2 u->w2.heap.size<=u.heap.size/\u.heap[R]? = W.heap[R]? /\ u.heap[M]? = w2.heap[M]? /\ Cx w u):=fun u hu=>by
  have hw:=bO.out;have hm:=bU.out;have e1:∀ k,k<M->k≠C->u.heap[k]? = w1.heap[k]? := fun k hk hn=>(hu.block k (by have:=G.out.size;omega) CG).trans (G.out.block k CG)
  refine ⟨hu.size,(e1 R CG CG).trans bj.out,hu.block M CG CG,?_⟩
  have h1:=cy.out;have h0:=cu.out;exact ⟨hu.os.trans (G.out.os.trans (h1.os.trans h0.os)),hu.tape.trans (G.out.tape.trans (h1.tape.trans h0.tape)),hu.output.trans (G.out.output.trans (h1.output.trans h0.output)),by have a1:=hu.size;have a2:=G.out.size;have a3:=h1.size;have a4:=h0.size;omega,fun k hk=>(e1 k (by have:=h0.size;omega) CG).trans ((h1.block k (by have:=h0.size;omega) CG).trans (h0.block k hk))⟩
 have aZ:=bY.out w3 (ap.mono (fun k hk=>Or.inl hk))
 have bZ:=aa aZ.1;have b0:=aa aZ.2.1;have b1:=aa aZ.2.2;have bk:Hid (ag (fun k=>k=C\/M<k) w2 w3):=ap.mono (fun k hk=>Or.inl hk)
 clear bX ap aZ bR
 go_wp2_with fail
 refine (ku pa ja sa pc jc sc ps js ss ov w3 bZ b0 b1).mono ?_;rintro e w4 ⟨x,y,pr,F,rfl,Y,aq,J,aE⟩;have b2:=aa (rF aq J).1;have cG:Hid (∀ z ∈ pr,tK z.2):=fun z hz=>sm ps js ss ov z.2 (by rw [<-Y];exact List.mem_map_of_mem hz)
 have b3:Hid (od (pr.map Prod.snd)):=by rw [Y];exact fun r h=>((ie ps js ss ov).2 r h).short
 have aF:pr.length<=300:=by have h:=(ie ps js ss ov).1;rw [<-Y,List.length_map] at h;exact h
 have aG:=aa (qk (pr.map Prod.snd));have bl:=aa (mo x y (pr.map Prod.snd) w4 b2 b3);rw [List.length_map] at bl;have f:=aa aq;have b4:=aa J;have b5:=aa aE;have de:=aE.size;replace n0:=cell_later aE n0;replace n1:=cell_later aE n1;clear Y aq J aE bZ b0 b1 cB X
 go_wp2_with fail
 refine bl.out.mono ?_;rintro e w5 ⟨tx,ty,af,rfl,aH,a0,cH,aB⟩;have bm:Hid (gH w5 tx (bD (pr.map Prod.snd))):=i9 aH a0 (by have:=aG.out.1;unfold maxLen;omega) (fun i h=>by have:=aG.out.2 i h;unfold maxLen;omega)
 obtain ⟨TT,bn⟩:∃ TT,bD (pr.map Prod.snd)=TT:=⟨_,rfl⟩;rw [bn] at aH a0 bm aG ⊢;obtain ⟨tn,a5⟩:∃ tn,TT.length=tn:=⟨_,rfl⟩;have a6:Hid (∀ i (h:i<TT.length),TT[i].length=TT.length):=by rw [<-bn,mN (by rw [List.length_map];exact aF)];intro i hi;simp
 have N:Hid (TT.length=tn):=a5;have cI:tn<=300:=by rw [<-a5];exact aG.out.1
 rw [a5] at aH ⊢;have ah:=aa aH;have cJ:=aa a0;have a7:=aa aB;have df:=aB.size;have a8:Hid (Cur w5 C ca cc bs bV):=(cE.out.below b5.out).below aB;replace n0:=cell_later aB n0;replace n1:=cell_later aB n1;clear aH a0 aB bl bn cH a5 b2 b3 aG
 go_wp2_with fail
 refine (aJ C ca cc bs bV 6 w5 a8 CG CG).mono ?_
 rintro e w6 ⟨xx,b6,hx,rfl,cK,ba,O⟩;have bb:=aa ba;have dg:=aa O;have dh:=O.size;have cL:Hid (b8 (fun _=>False) w4 w6):=(b8.below a7.out).trans (b8.drawn a8.out ba O)
 have q:Hid (w6.ownsRow w3.heap.size 44 8 (.slice x pr.length y) pr.length (fG pr)):=ax f.out (fun b hb=>(O.block b (by have:=(f.out.lt b hb).2;omega) (by have:=(f.out.lt b hb).1;omega)).trans (a7.out.block b (f.out.lt b hb).2))
 have A:Hid (w6.ownsRow w4.heap.size 40 1 (.slice tx tn ty) tn af):=ax ah.out (fun b hb=>O.block b (ah.out.lt b hb).2 (by have:=(ah.out.lt b hb).1;omega))
 have m:Hid (ag (fun k=>k=C\/M<k) w2 w6):=((bk.out.trans (ag.of_below b5.out)).trans (ag.of_below a7.out)).trans (O.mono (fun k hk=>Or.inl hk))
 have aI:Hid (iJ R w6 tx tn):=by
  have h5:iJ R w5 tx tn:=⟨TT,N.out,bm.out,fun b o e=>by
   rcases ah.out.2 with ⟨h1,h2⟩ | ⟨g,bo,bp,h1,_⟩
   ·injection h1 with h1;rw [h1] at e;cases e
   ·have V:=(ah.out.lt g (by rw [h1];rfl)).1
    injection h1 with h1;rw [h1] at e;cases e;omega⟩
  refine h5.ints (b8.drawn a8.out ba O) (fun b o e=>?_)
  rcases ah.out.2 with ⟨h1,h2⟩ | ⟨g,bo,bp,h1,_⟩
  ·injection h1 with h1;rw [h1] at e;cases e
  ·have V:=ah.out.lt g (by rw [h1];rfl)
   injection h1 with h1;rw [h1] at e;cases e;exact O.block _ V.2 CG
 have aK:Hid (∀ u,b8 (fun _=>False) w6 u->∀ z ∈ pr,∃ r',nS z.2 r'/\bq u z.1 r'):=fun u hu z hz=>(b4.out z hz).lists.ints (cL.out.trans hu) ke.none
 replace n0:=(m.out.cell m0 (by show ¬ (M=C\/M<M);omega))
 replace n1:=(m.out.cell m1 (by show ¬ (M=C\/M<M);omega))
 have br:Hid (∀ u,b8 (fun _=>False) w6 u->(∀ b,w3.heap.size<=b->b<w4.heap.size->u.heap[b]? = w6.heap[b]?)->nC u x pr.length):=fun u hu hb=>by
  by_cases h0:pr.length=0
  ·rw [h0];exact Az _ _
  ·obtain ⟨g,hg⟩:=cO q.out CG
   have hr:=q.out;have V:=f.out;rw [hg] at hr V ⊢;exact nW ((nZ hr).kept (hb g (V.lt g rfl).1 (V.lt g rfl).2)) CK (fun k hk=>aK.out u hu _ (List.getElem_mem hk))
 have aM:Hid (∃ ra rn rc ta Z tc,(Value.slice x pr.length y) = .slice ra rn rc/\(Value.slice tx tn ty) = .slice ta Z tc/\Hid (CkZ C R M w2 w6 ra rn ta Z)):=⟨x,pr.length,y,tx,tn,ty,rfl,rfl,br.out w6 b8.refl (fun _ _ _=>rfl),aI.out,m.out⟩
 have au:Hid (bQ w6 w4.heap.size af TT):=cJ.out.keep (fun b h1 h2=>O.block b h2 CG)
 have b7:Hid (∀ u,(∀ b,w4.heap.size<=b->b<w6.heap.size->u.heap[b]? = w6.heap[b]?)->iJ R u tx tn):=fun u hu=>by
  refine ⟨TT,N.out,i9 (by rw [N.out];exact ax A.out (fun b hb=>hu b (A.out.lt b hb).1 (A.out.lt b hb).2)) (au.out.keep hu) (by rw [N.out];unfold maxLen;omega) (fun i h=>by rw [a6.out i h,N.out];unfold maxLen;omega),?_⟩
  obtain ⟨_,_,_,h3⟩:=aI.out;exact h3
 clear ba O a8 a7 ah bm
 go_upto_block 0 with fail
 go_cut [11,12] (fun l t wx => ∃ ra rn rc ta Z tc,l = .slice ra rn rc/\t = .slice ta Z tc/\Hid (CkZ C R M w2 wx ra rn ta Z))
 case first =>
  have cM:xx=0\/xx=1\/xx=2\/xx=3\/xx=4\/xx=5:=CG
  rcases cM with rfl | rfl | rfl | rfl | rfl | rfl
  ·by_cases h0:pr.length=0
   ·have av:¬ (0:Int)<pr.length:=CG
    clear h0
    go_wp2_with fail
    go_meet
    exact aM.out
   ·have av:(0:Int)<pr.length:=CG
    obtain ⟨g,hg⟩:=cO q.out CG
    have ab:=q.out;have aj:=f.out;rw [hg] at ab aj;obtain ⟨b9,bt⟩:=aj.lt g rfl;have cb:=aa (nZ ab);have cN:Hid (∀ o,w6.frozen? ⟨g,o,none⟩=false):=fun o=>ab.frozenAt o
    subst hg;clear ab aj h0
    go_wp2_with fail
    refine (aJ C ca cc bs b6 pr.length w6 bb CG CG).mono ?_
    rintro e w7 ⟨i,bu,hi,rfl,bv,aw,T⟩;have E:i<pr.length:=CG
    have cP:(i:Int)<pr.length:=CG
    have bw:g≠C:=CG
    have cQ:=T.size;have cd:w7.heap[g]? = w6.heap[g]? := T.block g CG bw
    have cR:=aa (cb.out.kept cd);have aN:Hid (b8 (fun _=>False) w6 w7):=b8.drawn bb.out aw T
    obtain ⟨r1,c,bc⟩:=aK.out w7 aN.out _ (List.getElem_mem E);have bx:=cR.out i E;have ac:=cG.out _ (List.getElem_mem E);generalize pr[i]=z at c bc bx ac;obtain ⟨d,r⟩:=z;dsimp only at c bc bx ac;have bd:=yL C ca cc bs bu d r1 w7 aw HL CG bc ⟨⟨by rw [c.n0];exact ac.s.s0,by rw [c.n1];exact ac.s.s1,by rw [c.n2];exact ac.s.s2,by rw [c.n3];exact ac.s.s3⟩,by rw [c.n4];exact ac.s4,by rw [c.n5];exact ac.s5⟩
    rw [oO c] at bd;unfold cC at bd;have ce:=aa bd;have bz:=aa aw;have aO:=aa T;obtain ⟨k0,k1,k2,k3,k4,k5,k6,k7⟩:=bx;have am:=ai k0;dsimp only at am;clear bd c bc ac aw T cd
    go_wp2_with fail
    refine ce.out.mono ?_;rintro e w8 ⟨d',r',cf,rfl,cg,bA,aR,I⟩;have di:=I.size;have ch:w8.heap[g]? = w7.heap[g]? := I.block g CG bw
    have bB:w8.heap[g]? = w6.heap[g]? := ch.trans (aO.out.block g CG bw)
    have bC:Hid (b8 (fun _=>False) w6 w8):=aN.out.trans (b8.drawn bz.out aR I)
    have ci:=aa (cb.out.kept bB);have ay:=ci.out i E;have HZ:Hid (CkZ C R M w2 (set8 w8 g (i*8) d' r') (some ⟨g,0,none⟩) pr.length tx tn):=by
     have hI:b8 (fun _=>False) w6 (set8 w8 g (i*8) d' r'):=bC.out.trans (b8.set8 ay)
     refine ⟨?_,?_,((m.out.trans (aO.out.mono (fun k hk=>Or.inl hk))).trans (I.mono (fun k hk=>Or.inl hk))).trans (rd.mono (fun k hk=>Or.inr CG))⟩
     ·have h:=nW (ci.out.set8 E d' r') (by rw [List.length_set];unfold maxLen;omega) (fun k hk=>by
       rw [List.length_set] at hk
       by_cases e:i=k
       ·subst e;rw [List.getElem_set_self];exact cg.ints (b8.set8 ay) ke.none
       ·rw [List.getElem_set_ne e];exact aK.out _ hI _ (List.getElem_mem hk))
      rw [List.length_set] at h;exact h
     ·exact b7.out _ (fun b h1 h2=>(rd.block b CG CG).trans ((I.block b CG CG).trans (aO.out.block b h2 CG)))
    clear k0 k1 k2 k3 k4 k5 k6 k7 am;obtain ⟨k0,k1,k2,k3,k4,k5,k6,k7⟩:=ay;have am:=ai k0;dsimp only at am;have hf:∀ o,w8.frozen? ⟨g,o,none⟩=false:=fun o=>(World.frozen?_of_block (w:=w6) (a:=⟨g,o,none⟩) bB).trans (cN.out o)
    have f0:=hf (i*8);have f1:=hf (i*8+1);have f2:=hf (i*8+2);have f3:=hf (i*8+3);have f4:=hf (i*8+4);have f5:=hf (i*8+5);have f6:=hf (i*8+6);have f7:=hf (i*8+7);clear cg aR I ch bB hf ce;unfold set8 at HZ
    go_wp2_with fail
    go_meet
    exact ⟨_,_,_,_,_,_,rfl,rfl,HZ⟩
  ·by_cases h0:tn=0
   ·have av:¬ (0:Int)<tn:=CG
    clear h0
    go_wp2_with fail
    go_meet
    exact aM.out
   ·have av:(0:Int)<tn:=CG
    obtain ⟨gt,aS⟩:=cO A.out CG
    have U:=A.out;rw [aS] at U;obtain ⟨b9,bt⟩:=U.lt gt rfl;have cj:=aa U;subst aS;clear U h0
    go_wp2_with fail
    refine (aJ C ca cc bs b6 tn w6 bb CG CG).mono ?_
    rintro e w7 ⟨i,bu,hi,rfl,bv,aw,T⟩;have E:i<TT.length:=by rw [N.out];omega
    have cP:(i:Int)<tn:=CG
    obtain ⟨v,X,B⟩:=au.out.2 i E;obtain ⟨xr,yr,rfl⟩:=gg B;have L:=(eJ B).1;rw [a6.out i E,N.out] at X B;have ad:TT[i].length=tn:=by rw [a6.out i E,N.out]
    obtain ⟨gr,bE⟩:=cO B CG
    subst bE;have cS:Hid (∀ j,w6.frozen? ⟨gr,j,none⟩=false):=fun j=>B.frozenAt j
    obtain ⟨dj,aj⟩:=B.lt gr rfl;have bF:gr≠gt:=fun e=>(aV CJ B cj.out).elim (fun h=>by cases h) (fun h=>h (by rw [e];rfl))
    have c6:=(cj.out.cellAt i CG).trans X
    have be:gt≠C:=CG
    have ck:gr≠C:=CG
    have cT:Hid (∀ u,ag (fun k=>k=C) w6 u->∀ j,j<tn->∃ z:Int,u.cell? ⟨gr,j,none⟩=some (.int .i64 z)):=fun u hu j hj=>by
     obtain ⟨b,off,e,hc⟩:=L.2.resolve_left (fun h=>by rw [h] at ad;simp at ad;omega)
     cases e;have h:=hc j (by rw [ad];exact hj)
     rw [Nat.zero_add] at h;exact ⟨_,hu.cell h ck⟩
    have bz:=aa aw;have aO:=aa T;have cQ:=T.size;have c7:=T.cell c6 be;clear X B L ad c6 aw T E
    go_upto_region 14 with fail
    obtain ⟨S,hS⟩:∃ S:World->Prop,∀ u,S u↔u.cell? ⟨gt,i,none⟩=some (.slice (some ⟨gr,0,none⟩) tn yr):=⟨_,fun _=>Iff.rfl⟩
    have bG:=aa hS;have r0:∀ u:an S,World.cell? u.val ⟨gt,i,none⟩=some (.slice (some ⟨gr,0,none⟩) tn yr):=fun u=>(hS u.val).1 u.2
    have bH:S w7.drew:=(hS _).2 c7;have hne:=aQ bH;clear hS;refine bW 10 bH ?_
    (refine ae 0 ?_;intro K hK;go_big_quiet_op;go_big_quiet_on);(refine ae 1 ?_;intro K hK;go_big_quiet_op;go_big_quiet_on);(refine ae 2 ?_;intro K hK;go_big_quiet_op;go_big_quiet_on);(refine ae 3 ?_;intro K hK;go_big_quiet_op;go_big_quiet_on);(refine ae 4 ?_;intro K hK;go_big_quiet_op;go_big_quiet_on);(refine ae 5 ?_;intro K hK;go_big_quiet_op;go_big_quiet_on);(refine ae 6 ?_;intro K hK;go_big_quiet_op;go_big_quiet_on)
    (refine ae 8 ?_;intro K hK;go_big_quiet_op;go_big_quiet_on)
    refine az 7 ?_;intro K hK
    go_wp2_with (go_at_call 32;refine (aJ C ca cc bs bu tn _ (bz.out.below (CV.drew)) CG CG).mono ?_;rintro e w8 ⟨j,cf,dk,rfl,bA,aR,I⟩)
    have cl:Hid (ag (fun k=>k=C) w7 w8):=((ag.refl _ _).drew).trans I
    have cU:=aa aR;have cm:S w8:=(bG.out _).2 (cl.out.cell c7 be);have dl:(j:Int)<tn:=CG
    have cV:j<tn:=CG
    clear aR I;refine hK _ _ (ak cm) ?_;clear hK K;refine az 9 ?_;intro K hK
    go_wp2_with (go_at_call 32;refine (aJ C ca cc bs cf 5 _ cU CG CG).mono ?_;rintro e w9 ⟨p,dm,dn,rfl,cW,cn,co⟩)
    have cp:Hid (ag (fun k=>k=C) w7 w9):=cl.out.trans co
    have cq:S w9:=(bG.out _).2 (cp.out.cell c7 be);have H:Hid (ag (fun k=>k=C) w6 w9):=aO.out.trans cp.out
    have cX:Hid (b8 (fun _=>False) w6 w9):=b8.drawn bb.out cn H.out
    clear cn co;refine hK _ _ (ak cq) ?_;clear hK K;refine a9 ?_;simp only [List.drop_succ_cons,List.drop_zero];clear r0 hne bH cm cq bG S;obtain ⟨z,sc⟩:=cT.out w9 H.out j cV;have sz:w9.frozen? ⟨gr,j,none⟩=false:=(World.frozen?_of_block (w:=w6) (a:=⟨gr,j,none⟩) (H.out.block gr aj ck)).trans (cS.out j);have am:=ai sc;dsimp only at am;have HZ:Hid (CkZ C R M w2 (w9.setCell ⟨gr,j,none⟩ (.int .i64 p)) x pr.length (some ⟨gt,0,none⟩) tn):=by
     have hI:b8 (fun _=>False) w6 (w9.setCell ⟨gr,j,none⟩ (.int .i64 p)):=cX.out.trans (b8.set sc (Or.inl ⟨_,rfl⟩))
     refine ⟨br.out _ hI (fun b h1 h2=>(Below.heap_setCell _ _ _ _ (show b≠gr by omega)).trans (H.out.block b CG CG)),aI.out.ints hI (fun b o e=>?_),(m.out.trans (H.out.mono (fun k hk=>Or.inl hk))).trans (ag.setCell (S:=fun k=>k=C\/M<k) (ag.refl _ _) (p:=⟨gr,j,none⟩) (Or.inl (Or.inr (by show M<gr;omega))) _)⟩
     cases e;exact (Below.heap_setCell _ _ _ _ (show gt≠gr from fun e=>bF e.symm)).trans (H.out.block gt bt be)
    go_wp2_with fail
    go_meet
    exact ⟨_,_,_,_,_,_,rfl,rfl,HZ⟩
  ·by_cases h0:pr.length=0
   ·have av:¬ (0:Int)<pr.length:=CG
    clear h0
    go_wp2_with fail
    go_meet
    exact aM.out
   ·have av:(0:Int)<pr.length:=CG
    obtain ⟨g,hg⟩:=cO q.out CG
    have ab:=q.out;rw [hg] at ab;have aA:pr.length<=y/\y<=maxLen:=by
     rcases ab.2 with ⟨h1,_⟩ | ⟨g',bo,bp,h1,_,_,h4,h5,_⟩
     ·cases h1
     ·injection h1 with _ _ h1;rw [h1];exact ⟨h4,h5⟩
    obtain ⟨aW,bI⟩:=aA;unfold maxLen at bI;have HZ:Hid (∀ n,n=pr.length-1->CkZ C R M w2 w6 (some ⟨g,0,none⟩) n tx tn):=fun n hn=>by
     refine ⟨?_,aI.out,m.out⟩;have hlen:(pr.take n).length=n:=by rw [List.length_take];omega
     have h:=nW (w:=w6) (g:=g) (pr:=pr.take n) (fun k hk=>by rw [List.getElem_take];exact nZ ab k (by rw [hlen] at hk;omega)) (by rw [hlen];unfold maxLen;omega) (fun k hk=>by rw [List.getElem_take];exact aK.out w6 b8.refl _ (List.getElem_mem _))
     rw [hlen] at h;exact h
    subst hg;clear ab h0
    go_wp2_with fail
    all_goals
     go_meet
     exact ⟨_,_,_,_,_,_,rfl,rfl,HZ.out _ CG⟩
  ·by_cases h0:tn=0
   ·have av:¬ (0:Int)<tn:=CG
    clear h0
    go_wp2_with fail
    go_meet
    exact aM.out
   ·have av:(0:Int)<tn:=CG
    obtain ⟨gt,aS⟩:=cO A.out CG
    have U:=A.out;rw [aS] at U;obtain ⟨b9,bt⟩:=U.lt gt rfl;have E:0<TT.length:=by rw [N.out];omega
    obtain ⟨v,X,B⟩:=au.out.2 0 E;obtain ⟨xr,yr,rfl⟩:=gg B;have L:=(eJ B).1;have ad:TT[0].length=tn:=by rw [a6.out 0 E,N.out]
    rw [ad] at X B;obtain ⟨gr,bE⟩:=cO B CG
    subst bE;have aA:tn<=yr/\yr<=maxLen:=by
     rcases B.2 with ⟨h1,_⟩ | ⟨g',bo,bp,h1,_,_,h4,h5,_⟩
     ·cases h1
     ·injection h1 with _ _ h1;rw [h1];exact ⟨h4,h5⟩
    obtain ⟨aW,bI⟩:=aA;unfold maxLen at bI;have dp:1<=tn:=CG
    have dq:1<=yr:=CG
    have c6:=(U.cellAt 0 CG).trans X
    have sz:=U.frozenAt 0;have am:=ai c6;dsimp only at am;subst aS;have HZ:Hid (∀ (x8:Option Addr) (y8:Nat),(tn=1\/x8=some ⟨gr,1,none⟩)->CkZ C R M w2 (w6.setCell ⟨gt,0,none⟩ (.slice x8 (tn-1) y8)) x pr.length (some ⟨gt,0,none⟩) tn):=fun x8 y8 h=>by
     have hI:b8 (fun _=>False) w6 (w6.setCell ⟨gt,0,none⟩ (.slice x8 (tn-1) y8)):=b8.set c6 (Or.inr (fun z e=>by cases e))
     exact ⟨br.out _ hI (fun b h1 h2=>Below.heap_setCell _ _ _ _ (show b≠gt by omega)),iJ.put (off:=0) (i:=0) aI.out CG ⟨TT[0].drop 1,by rw [List.length_drop,ad],yw L (by rw [ad];exact h)⟩,m.out.trans (ag.setCell (S:=fun k=>k=C\/M<k) (ag.refl _ _) (p:=⟨gt,0,none⟩) (Or.inl (Or.inr (by show M<gt;omega))) _)⟩
    clear U X B L ad E h0
    go_wp2_with fail
    all_goals
     go_meet
     exact ⟨_,_,_,_,_,_,rfl,rfl,HZ.out _ _ CT⟩
  ·have cY:Hid (∀ (x8:Option Addr) (y8:Nat) (w8:World),w8.ownsRow w3.heap.size 44 8 (.slice x8 (pr.length+1) y8) (pr.length+1) (fG pr++[.int .i64 0,.int .i64 0,.slice none 0 0,.slice none 0 0,.slice none 0 0,.slice none 0 0,.slice none 0 0,.slice none 0 0])->w6.grownBy w8 (Value.slice x pr.length y).ownBlock->CkZ C R M w2 w8 x8 (pr.length+1) tx tn):=fun x8 y8 w8 ho hg=>by
    have cr:∀ k,(Value.slice x pr.length y).ownBlock=some k->w3.heap.size<=k/\k<w4.heap.size:=fun k hk=>f.out.lt k hk
    obtain ⟨g8,bf⟩:=cO ho CG
    subst bf;have cZ:fG pr++[.int .i64 0,.int .i64 0,.slice none 0 0,.slice none 0 0,.slice none 0 0,.slice none 0 0,.slice none 0 0,.slice none 0 0]=fG (pr++[(⟨none,0,none,0,none,0,none,0,none,0,none,0⟩,⟨0,0,[],[],[],[],[],[]⟩)]):=by rw [pH];rfl
    rw [cZ] at ho;have hlen:(pr++[((⟨none,0,none,0,none,0,none,0,none,0,none,0⟩:aL),(⟨0,0,[],[],[],[],[],[]⟩:al))]).length=pr.length+1:=CI
    rw [<-hlen] at ho;refine ⟨?_,b7.out w8 (fun b h1 h2=>hg.block b h2 (fun e=>by have:=(cr b e.symm).2;omega)),m.out.trans ⟨hg.os,hg.tape,hg.output,hg.size,fun k hk hn=>hg.block k hk (fun e=>by have:=(cr k e.symm).1;omega)⟩⟩
    rw [<-hlen];refine nW (nZ ho) (by rw [hlen];unfold maxLen;omega) (fun k hk=>?_)
    by_cases e:k<pr.length
    ·rw [List.getElem_append_left e];have hz:=b4.out _ (List.getElem_mem e);obtain ⟨r',hs,hl⟩:=aK.out w6 b8.refl _ (List.getElem_mem e);obtain ⟨g,c0⟩:=cO f.out CG
     have aj:=f.out;rw [c0] at aj hg;have hI:b8 (fun k=>k=g) w6 w8:=fun b o v hb hv=>⟨v,(World.cell?_of_block (w:=w6) (hg.block b (ai hv) (fun e=>hb (by cases e;rfl)))).trans hv⟩
     have aC:=z9 aj;have c1:ke (fun k=>k=g) pr[k].1 r':=⟨(hz.n0.off aC hs.n0).imp List.eq_nil_of_length_eq_zero id,(hz.n1.off aC hs.n1).imp List.eq_nil_of_length_eq_zero id,(hz.n2.off aC hs.n2).imp List.eq_nil_of_length_eq_zero id,(hz.n3.off aC hs.n3).imp List.eq_nil_of_length_eq_zero id,(hz.n4.off aC hs.n4).imp List.eq_nil_of_length_eq_zero id,(hz.n5.off aC hs.n5).imp List.eq_nil_of_length_eq_zero id⟩
     obtain ⟨r2,ao,c2⟩:=hl.ints hI c1;exact ⟨r2,⟨ao.n0.trans hs.n0,ao.n1.trans hs.n1,ao.n2.trans hs.n2,ao.n3.trans hs.n3,ao.n4.trans hs.n4,ao.n5.trans hs.n5,ao.st.trans hs.st,ao.sp.trans hs.sp⟩,c2⟩
    ·have e2:k=pr.length:=by rw [hlen] at hk;omega
     subst e2;rw [List.getElem_concat_length rfl];exact ⟨_,⟨rfl,rfl,rfl,rfl,rfl,rfl,rfl,rfl⟩,⟨Nat.zero_le _,Or.inl rfl⟩,⟨Nat.zero_le _,Or.inl rfl⟩,⟨Nat.zero_le _,Or.inl rfl⟩,⟨Nat.zero_le _,Or.inl rfl⟩,⟨Nat.zero_le _,Or.inl rfl⟩,⟨Nat.zero_le _,Or.inl rfl⟩,fun _=>rfl⟩
   go_wp2_with (at_builtin;refine aU rfl (.tmp 94) (.tmp 96) 30 rfl w3.heap.size 44 _ 8 160 underlying30 Tryz.infoRoute rfl CJ (.slice x pr.length y) pr.length (fG pr) rfl q.out w6.heap.size rfl [.int .i64 0,.int .i64 0,.slice none 0 0,.slice none 0 0,.slice none 0 0,.slice none 0 0,.slice none 0 0,.slice none 0 0] rfl rfl CL CK CG CG ?_;intro x8 y8 w8 I bf;have c3:=aa (cY.out x8 y8 w8 I bf);clear I bf)
   go_meet
   exact ⟨_,_,_,_,_,_,rfl,rfl,c3⟩
  ·go_wp2_with fail
   go_meet
   exact aM.out
 case rest =>
  obtain ⟨ra,rn,rc,ta,Z,tc,rfl,rfl,HZ⟩:=hcut;obtain ⟨c4,aD,bJ,D⟩:=cF.out wc HZ.out.2.2;have l0:=(World.cell?_of_block (w:=w2) (a:=⟨M,0,none⟩) bJ).trans m0;have l1:=(World.cell?_of_block (w:=w2) (a:=⟨M,1,none⟩) bJ).trans m1;have q0:=(World.cell?_of_block (w:=W) (a:=⟨R,0,none⟩) aD).trans R0;have q1:=(World.cell?_of_block (w:=W) (a:=⟨R,1,none⟩) aD).trans R1;have g0:=(World.frozen?_of_block (w:=W) (a:=⟨R,0,none⟩) aD).trans (bi.out 0);have g1:=(World.frozen?_of_block (w:=W) (a:=⟨R,1,none⟩) aD).trans (bi.out 1);have bK:Hid (∀ wf,ag (fun k=>k=R) wc wf->s8 w (.returned (.tuple #[.agg #[.slice pa ps.length pc,.slice ja js.length jc],.slice sa ss.length sc,.int .i64 ov,.slice ra rn rc,.slice ta Z tc])) wf):=fun wf ho=>by
   have aT:gO wc R:=fun o v h=>bN.out o v ((World.cell?_of_block (w:=W) (a:=⟨R,o,none⟩) aD).symm.trans h)
   obtain ⟨h1,h2,h3⟩:=bY.out wc HZ.out.2.2;obtain ⟨tt,c5,c8,_⟩:=HZ.out.2.1.offR aT ho;refine ⟨pa,pc,ja,jc,sa,sc,ps,js,ss,ov,ra,rn,rc,ta,Z,tc,rfl,h1.offR aT ho,h2.offR aT ho,h3.offR aT ho,HZ.out.1.offR aT ho,⟨tt,c5,c8⟩,?_⟩;have hw:=bO.out;exact ⟨ho.os.trans D.os,ho.tape.trans D.tape,ho.output.trans D.output,Nat.le_trans D.size ho.size,fun k hk=>(ho.block k (by have:=D.size;omega) CG).trans (D.block k hk)⟩
  have dr:M≠R:=CG
  have c9:=ai q0;have bL:=ai l0;dsimp only at c9 bL;clear aD bJ D c4
  go_wp2_with fail
  exact bodyPost_ret (v:=.tuple #[.agg #[.slice pa ps.length pc,.slice ja js.length jc],.slice sa ss.length sc,.int .i64 ov,.slice ra rn rc,.slice ta Z tc]) (by simp [results,results20,go_sem,q0,q1]) rfl (bK.out _ ((ag.setCell (S:=fun k=>k=R) (ag.refl _ _) (p:=⟨R,0,none⟩) (Or.inl rfl) _).setCell (p:=⟨R,1,none⟩) (Or.inl rfl) _))
section
variable {B:Nat} {wB w w':World} {x:Option Addr} {y:Nat} {qs:List (aL × al)} {i:Nat}
end
theorem uS (r:al):dg r r=0:=by
 unfold dg;rw [if_pos ⟨rfl,rfl,fJ rfl⟩,if_pos ⟨fJ rfl,fJ rfl⟩,if_pos ⟨fJ rfl,fJ rfl⟩,if_pos (fJ rfl)]
theorem rr:∀ (rs:List al)(i:Nat),dF rs rs i=none
 | [],_=>by unfold dF;rfl
 | r::rs,i=>by unfold dF;rw [if_pos (uS r)];exact rr rs (i+1)
theorem qZ:∀ (xs:List Int)(k:Nat),eF xs xs k=none
 | [],_=>by unfold eF;rfl
 | x::xs,k=>by unfold eF;rw [if_pos rfl];exact qZ xs (k+1)
theorem tz:∀ (xs:List Int)(b:Nat)(hb:b<xs.length)(y:Int),y≠xs[b]->∀ k,eF (xs.set b y) xs k=some (k+b)
 | [],b,hb,_,_,_=>absurd hb (Nat.not_lt_zero _)
 | x::xs,0,_,y,h,k=>by
  simp only [List.getElem_cons_zero] at h;simp only [List.set_cons_zero,eF];rw [if_neg h];rfl
 | x::xs,b+1,hb,y,h,k=>by
  simp only [List.getElem_cons_succ] at h;simp only [List.set_cons_succ,eF,if_true];rw [tz xs b (by simpa using hb) y h (k+1)]
  congr 1;omega
theorem uo:∀ (tt:List (List Int))(a:Nat)(ha:a<tt.length)(row:List Int)(b:Nat),row.length=tt[a].length->eF row tt[a] 0=some b->∀ i,gV (tt.set a row) tt i=some (i+a,b)
 | [],a,ha,_,_,_,_,_=>absurd ha (Nat.not_lt_zero _)
 | x::tt,0,_,row,b,hl,hr,i=>by
  simp only [List.getElem_cons_zero] at hl hr;simp only [List.set_cons_zero,gV];rw [if_pos hl,hr];rfl
 | x::tt,a+1,ha,row,b,hl,hr,i=>by
  simp only [List.getElem_cons_succ] at hl hr;simp only [List.set_cons_succ,gV,if_true];rw [qZ];dsimp only;rw [uo tt a (by simpa using ha) row b hl hr (i+1)]
  congr 2;omega
theorem zZ {js:List aj}{over:Int}(h:cE ps js ss=(0,0)/\0<=over/\over<=100000){a b:Nat}(ha:a<(bD (aX ps js ss over)).length)(hb:b<(bD (aX ps js ss over))[a].length){y:Int}(hy:y≠(bD (aX ps js ss over))[a][b]):
  eM (gp ps js ss over (aX ps js ss over) ((bD (aX ps js ss over)).set a ((bD (aX ps js ss over))[a].set b y))) = .agg #[.int .i64 7,.int .i64 a,.int .i64 b]:=by
 have ht:iI ((bD (aX ps js ss over)).set a ((bD (aX ps js ss over))[a].set b y)) (bD (aX ps js ss over))=some (a,b):=by
  unfold iI;rw [if_pos List.length_set,uo _ a ha _ b List.length_set (by rw [tz _ b hb y hy 0,Nat.zero_add]) 0,Nat.zero_add]
 rw [sY h (rr _ 0) ht];rfl
theorem wT (o:Option (Int × Option (Int × Int))):∃ c a b,eM o = .agg #[.int .i64 c,.int .i64 a,.int .i64 b]:=by
 rcases o with _ | ⟨c,_ | ⟨a,b⟩⟩
 ·exact ⟨_,_,_,rfl⟩
 ·exact ⟨_,_,_,rfl⟩
 ·exact ⟨_,_,_,rfl⟩
theorem uL (a b:al):0<=b9 a b/\b9 a b<=4:=by
 unfold b9
 split
 ·omega
 ·split
  ·omega
  ·split
   ·omega
   ·split <;> omega
theorem vd {js:List aj}{over:Int}(h:aX ps js ss over≠[]):cE ps js ss=(0,0)/\0<=over/\over<=100000:=by
 by_cases hc:cE ps js ss=(0,0)/\0<=over/\over<=100000
 ·exact hc
 ·exact absurd (ju hc) h
theorem bQ.setC {y:Nat}{cells:List Value}{tt:List (List Int)}(h:bQ w B cells tt)(hap:ek cells){a b:Nat}(ha:a<tt.length)(hb:b<tt[a].length)(hv:cells[a]? = some (.slice (some ⟨g,0,none⟩) tt[a].length y))(z:Int):bQ (w.setCell ⟨g,b,none⟩ (.int .i64 z)) B cells (tt.set a (tt[a].set b z)):=by
 refine ⟨by rw [List.length_set];exact h.1,fun i hi=>?_⟩
 rw [List.length_set] at hi;obtain ⟨v,h1,h2⟩:=h.2 i hi;refine ⟨v,h1,?_⟩
 by_cases e:a=i
 ·subst e;rw [hv] at h1;cases h1;rw [List.getElem_set_self,List.length_set];have h3:=(h2.stored b (.int .i64 z)).1;rw [show (bP tt[a]).set b (.int .i64 z)=bP (tt[a].set b z) from by have h9:=ga lz 1 (fun _=>rfl) tt[a] b 0 hb CG z (.int .i64 z) rfl;rw [Nat.mul_one,Nat.add_zero] at h9;exact h9.symm] at h3
  exact h3
 ·rw [List.getElem_set_ne e];refine ax h2 (fun b' c=>Below.heap_setCell _ _ _ _ (fun e2=>e ?_))
  subst e2;exact hap a i _ _ b' hv h1 rfl c
theorem mh (a:Option Addr)(c:Nat)(bs:List Int)(k:Nat)(w:World)(h:Hid (iH w a bs))(hk:k<=1000):
  Calls prog 16 #[.slice a bs.length c,.int .i64 k] w fun e w' => ∃ x:Nat,x<256/\e = .returned (.int .i64 x)/\Cx w w':=by
 have hl:=h.out.len;unfold maxLen at hl
 go_enter func16,ntmps16
 by_cases h0:bs.length=0
 ·have h1:((bs.length:Int)==0)=true:=by simp [h0]
  go_wp2_with fail
  go_ret
  exact ⟨0,CG,rfl,Below.refl _ _⟩
 ·have h1:((bs.length:Int)==0)=false:=by rw [beq_eq_false_iff_ne];omega
  obtain ⟨b,off,g,f⟩:=h.out.lie.resolve_left (fun h=>by rw [h] at h0;exact h0 rfl)
  subst g;obtain ⟨r,hr,l⟩:=jR k (show (0:Int)<bs.length by omega)
  have d:r<bs.length:=CG
  have d0:=f r d;have i:=h.out.small _ (List.getElem_mem d);generalize bs[r]=bv at d0 i;obtain ⟨bn,j⟩:∃ bn:Nat,bv=bn:=⟨bv.toNat,CG⟩
  subst j;have hz:=ai d0;dsimp only at hz;have m:Int.tmod (k:Int) (bs.length:Int)=(r:Int):=by rw [Int.tmod_eq_emod_of_nonneg CG];exact hr
  clear f
  go_wp2_with fail
  refine bodyPost_ret (v:=.int .i64 (bn:Int)) (by simp [results,results16,go_sem]) rfl ⟨bn,CG,rfl,?_⟩
  exact blo
theorem rV (ca da:Option Addr)(cc dc:Nat)(bs ms:List Int)(w:World)(hb:Hid (iH w ca bs))(hm:Hid (iH w da ms))(hg:Hid (w.cell? ⟨0,0,none⟩=some (.iface 240 (.agg #[.pointer (some ⟨4,97,none⟩)])))):
  Calls prog 5 #[.slice ca bs.length cc,.slice da ms.length dc] w fun e w'=>e = .returned (.bool true)/\Cx w w':=by
 have bg:=hb.out.len;have bh:=hm.out.len;unfold maxLen at bg bh
 go_enter func5,ntmps5
 by_cases h1:(1048576:Int)<bs.length
 ·go_wp2_with fail
  go_ret
  exact ⟨rfl,Below.refl _ _⟩
 by_cases h2:(1048576:Int)<ms.length
 ·go_wp2_with fail
  go_ret
  exact ⟨rfl,Below.refl _ _⟩
 go_wp2_with fail
 refine (sH ca cc bs w hb.out.lie hb.out.small CG).mono ?_
 rintro e w1 ⟨pa,pc,ja,jc,sa,sc,ps,js,ss,over,ra,rn,rc,ta,tn,tc,rfl,hP,hJ,hS,⟨rs,bi,hR⟩,⟨tt,bj,hT⟩,N⟩;subst bi bj;have HP:=aa hP;have HJ:=aa hJ;have HS:=aa hS;have HR:=aa hR;have HT:=aa hT;have aw:=aa N;clear hP hJ hS hR hT N
 go_upto_region 4 with fail
 generalize hW:World.alloc w1 _=W;have e0:W.cell? ⟨w1.heap.size,0,none⟩=some (.slice pa ps.length pc):=by rw [<-hW];simp [go_sem]
 have e1:W.cell? ⟨w1.heap.size,1,none⟩=some (.slice ja js.length jc):=by rw [<-hW];simp [go_sem]
 have p:Cx w1 W:=by rw [<-hW];exact blo
 have O:Hid (Cx w W):=aw.out.trans (p.mono aw.out.size);have aS:Hid (∀ u,Cx w u->u.cell? ⟨0,0,none⟩=some (.iface 240 (.agg #[.pointer (some ⟨4,97,none⟩)]))):=fun u hu=>cell_later hu hg.out
 have A:Hid (∀ u,Cx W u->Calls prog 12 #[.agg #[.slice pa ps.length pc,.slice ja js.length jc],.slice sa ss.length sc,.int .i64 over,.slice ra rs.length rc,.slice ta tt.length tc] u fun e w'=>e = .returned (eM (gp ps js ss over rs tt))/\Cx u w'):=fun u hu=>mw pa ja sa ra ta pc jc sc rc tc ps js ss over rs tt u ((HP.out.below p).below hu) ((HJ.out.below p).below hu) ((HS.out.below p).below hu) ((HR.out.below p).below hu) ((HT.out.below p).below hu) (aS.out u (O.out.trans (hu.mono O.out.size)))
 have C:Hid (∀ u,Cx W u->Calls prog 21 #[.agg #[.slice pa ps.length pc,.slice ja js.length jc],.slice sa ss.length sc,.int .i64 over,.slice ra rs.length rc,.slice ta tt.length tc] u fun e w'=>e = .returned (eM (gp ps js ss over rs tt))/\Cx u w'):=fun u hu=>rX pa ja sa ra ta pc jc sc rc tc ps js ss over rs tt u ((HP.out.below p).below hu) ((HJ.out.below p).below hu) ((HS.out.below p).below hu) ((HR.out.below p).below hu) ((HT.out.below p).below hu)
 obtain ⟨c,a,b,hO⟩:=wT (gp ps js ss over rs tt);rw [hO] at A C;generalize w1.heap.size=X at e0 e1 ⊢;generalize ps.length=np at e0 A C;generalize js.length=nj at e1 A C;generalize ss.length=ns at A C ⊢;generalize rs.length=nr at A C ⊢;generalize tt.length=nt at A C ⊢;clear hW p hO HP HJ HS HR HT aw;obtain ⟨S,hS⟩:∃ S:World->Prop,∀ u,S u↔Cx W u:=⟨_,fun _=>Iff.rfl⟩
 have J:=aa hS;have r0:∀ u:an S,World.cell? u.val ⟨X,0,none⟩=some (.slice pa np pc):=fun u=>cell_later ((hS u.val).1 u.2) e0
 have r1:∀ u:an S,World.cell? u.val ⟨X,1,none⟩=some (.slice ja nj jc):=fun u=>cell_later ((hS u.val).1 u.2) e1
 have H:S W.drew:=(hS _).2 (CV.drew);have hne:=aQ H;clear hS;refine bW 12 H ?_
 (refine ae 0 ?_;intro K hK;go_big_quiet_op;go_big_quiet_on);(refine ae 1 ?_;intro K hK;go_big_quiet_op;go_big_quiet_on);(refine ae 2 ?_;intro K hK;go_big_quiet_op;go_big_quiet_on);(refine ae 3 ?_;intro K hK;go_big_quiet_op;go_big_quiet_on);(refine ae 4 ?_;intro K hK;go_big_quiet_op;go_big_quiet_on)
 (refine ae 6 ?_;intro K hK;go_big_quiet_op;go_big_quiet_on);(refine ae 7 ?_;intro K hK;go_big_quiet_op;go_big_quiet_on);(refine ae 8 ?_;intro K hK;go_big_quiet_op;go_big_quiet_on);(refine ae 9 ?_;intro K hK;go_big_quiet_op;go_big_quiet_on);(refine ae 10 ?_;intro K hK;go_big_quiet_op;go_big_quiet_on)
 refine az 5 ?_;intro K hK
 go_wp2_with (go_at_call 12;refine (A.out _ (CV.drew)).mono ?_;rintro e w4 ⟨rfl,R⟩)
 have T:Cx W w4:=(CV.drew).trans R;refine hK _ _ (ak ((J.out _).2 T)) ?_;clear hK K R;refine az 11 ?_;intro K hK
 go_wp2_with (go_at_call 21;refine (C.out _ T).mono ?_;rintro e w5 ⟨rfl,U⟩)
 have ay:Cx W w5:=T.trans (U.mono T.size);refine hK _ _ (ak ((J.out _).2 ay)) ?_;have Y:Hid (Cx w w5):=O.out.trans (ay.mono O.out.size);clear hK K U;refine a9 ?_;simp only [List.drop_succ_cons,List.drop_zero];clear r0 r1 hne H J S T ay e0 e1 A C O;have q0:(c==c)=true:=CI
 have q1:(a==a)=true:=CI
 have q2:(b==b)=true:=CI
 go_wp2_with fail
 refine (zp ca cc bs w5 (hb.out.below Y.out).lie (hb.out.below Y.out).small CG).mono ?_
 rintro e w6 ⟨ah,aj,al,am,aA,aB,d,f,j,g,rfl,hP,hJ,hS,bE,bF,N⟩;have HP:=aa hP;have HJ:=aa hJ;have HS:=aa hS;have aC:Hid (Cx w w6):=Y.out.trans (N.mono Y.out.size);clear hP hJ hS N q0 q1 q2 Y
 go_upto_region 7 with fail
 generalize hV:World.alloc w6 _=V;have e0:V.cell? ⟨w6.heap.size,0,none⟩=some (.slice ah d.length aj):=by rw [<-hV];simp [go_sem]
 have e1:V.cell? ⟨w6.heap.size,1,none⟩=some (.slice al f.length am):=by rw [<-hV];simp [go_sem]
 have t:Cx w6 V:=by rw [<-hV];exact blo
 have aT:=aa (HP.out.below t);have aU:=aa (HJ.out.below t);have aW:=aa (HS.out.below t);have Z:Hid (Cx w V):=aC.out.trans (t.mono aC.out.size);have bk:=aa (hm.out.below Z.out);generalize w6.heap.size=X2 at e0 e1 ⊢;clear hV t HP HJ HS aC hb hm
 go_wp2_with fail
 refine (kY ah al aA aj am aB d f j g V aT aU aW).mono ?_;rintro e w7 ⟨x,y,rfl,hR,_,ao⟩;have HR:=aa hR;have ab:=aa ao;have f0:=cell_later ao e0;have f1:=cell_later ao e1;have bl:=ai f0;dsimp only at bl;have q:=(ie d f j g).1;have aD:=aa (mo x y (aX d f j g) w7 HR (fun r h=>((ie d f j g).2 r h).short))
 have ac:Hid (bD (aX d f j g)=(aX d f j g).map fun a=>(aX d f j g).map (b9 a)):=mN q
 have aE:Hid (aX d f j g≠[]->cE d f j=(0,0)/\0<=g/\g<=100000):=vd;have ap:Hid (∀ (h:cE d f j=(0,0)/\0<=g/\g<=100000) (a b:Nat) (ha:a<(bD (aX d f j g)).length) (hb:b<(bD (aX d f j g))[a].length) (y:Int),y≠(bD (aX d f j g))[a][b]->eM (gp d f j g (aX d f j g) ((bD (aX d f j g)).set a ((bD (aX d f j g))[a].set b y))) = .agg #[.int .i64 7,.int .i64 a,.int .i64 b]):=fun h a b ha hb y hy=>zZ h ha hb hy
 obtain ⟨RS,aY⟩:∃ RS,aX d f j g=RS:=⟨_,rfl⟩;rw [aY] at HR aD ac aE ap q ⊢;clear hR ao aY
 go_wp2_with fail
 refine aD.out.mono ?_;rintro e w8 ⟨tx,ty,cells,rfl,ar,aF,aZ,L⟩;obtain ⟨TT,a0⟩:∃ TT,bD RS=TT:=⟨_,rfl⟩;rw [a0] at ar aF ac ap ⊢;obtain ⟨n,hn⟩:∃ n,RS.length=n:=⟨_,rfl⟩;have HN:Hid (RS.length=n):=hn;have ad:Hid (TT.length=n):=by unfold Hid;rw [ac.out,List.length_map,hn]
 have aG:Hid (∀ i (h:i<TT.length),TT[i].length=n):=by rw [ac.out];intro i hi;simp [hn]
 have a1:Hid (∀ i (h:i<TT.length) k (hk:k<TT[i].length),0<=TT[i][k]/\TT[i][k]<=4):=by
  rw [ac.out];intro i hi k hk;simp only [List.getElem_map];exact uL _ _
 rw [ad.out] at ar ⊢;rw [hn] at q ⊢;have a3:=aa ar;have a4:=aa aF;have bm:=aa aZ;have a5:=aa L;replace f0:=cell_later L f0;replace f1:=cell_later L f1;have aH:=aa ((bk.out.below ab.out).below L);have aI:Hid (Cx V w8):=ab.out.trans (L.mono ab.out.size);clear ar aF aZ L aD a0 hn e0 e1
 by_cases aJ:n=0
 ·have bn:((n:Int)==0)=true:=by simp [aJ]
  clear aJ
  go_wp2_with fail
  go_ret
  exact ⟨rfl,Z.out.trans (aI.out.mono Z.out.size)⟩
 have bn:((n:Int)==0)=false:=by rw [beq_eq_false_iff_ne];omega
 have a6:0<n:=CG
 have a7:(0:Int)<n:=CG
 have bo:=aa (aE.out (fun e=>by have:=HN.out;rw [e] at this;simp at this;omega))
 have bp:Hid (∀ u,Cx w8 u->Calls prog 16 #[.slice da ms.length dc,.int .i64 0] u fun e w' => ∃ x:Nat,x<256/\e = .returned (.int .i64 x)/\Cx u w'):=fun u hu=>by have h:=mh da dc ms 0 u (aH.out.below hu) CG;simpa using h
 have bq:Hid (∀ u,Cx w8 u->Calls prog 16 #[.slice da ms.length dc,.int .i64 1] u fun e w' => ∃ x:Nat,x<256/\e = .returned (.int .i64 x)/\Cx u w'):=fun u hu=>by have h:=mh da dc ms 1 u (aH.out.below hu) CG;simpa using h
 have br:Hid (∀ u,Cx w8 u->Calls prog 16 #[.slice da ms.length dc,.int .i64 2] u fun e w' => ∃ x:Nat,x<256/\e = .returned (.int .i64 x)/\Cx u w'):=fun u hu=>by have h:=mh da dc ms 2 u (aH.out.below hu) CG;simpa using h
 clear aJ aE
 go_wp2_with fail
 refine (bp.out w8 CV).mono ?_;rintro e w9 ⟨x1,bG,rfl,au⟩;obtain ⟨a2,a8,bt⟩:=jR x1 a7;have bH:Int.tmod (x1:Int) (n:Int)=(a2:Int):=by rw [Int.tmod_eq_emod_of_nonneg CG];exact a8
 clear a8
 go_wp2_with fail
 refine (bq.out w9 au).mono ?_;rintro e D ⟨x2,bI,rfl,E⟩;have af:Cx w8 D:=au.trans (E.mono au.size);obtain ⟨b2,ba,bu⟩:=jR x2 a7;have bJ:Int.tmod (x2:Int) (n:Int)=(b2:Int):=by rw [Int.tmod_eq_emod_of_nonneg CG];exact ba
 have l:=aa af;clear ba au E af;have o:a2<TT.length:=by rw [ad.out];omega
 obtain ⟨v,av,F⟩:=a4.out.2 a2 o;obtain ⟨xr,yr,rfl⟩:=gg F;have I:TT[a2].length=n:=aG.out a2 o;have s:b2<TT[a2].length:=by rw [I];omega
 have ag:=(eJ F).1;have bb:=a1.out a2 o b2 s;rw [I] at av F;obtain ⟨gr,bv⟩:=cO F a6;subst bv;obtain ⟨gt,bc⟩:=cO a3.out a6;have ht:=a3.out;rw [bc] at ht;obtain ⟨bw,bx⟩:=F.lt gr rfl;have bz:=(ht.lt gt rfl).2;have aK:gr≠gt:=fun e=>(aV CJ F ht).elim (fun h=>by cases h) (fun h=>h (by rw [e];rfl))
 have c6:=(ht.cellAt a2 CG).trans av
 have v6:w8.cell? ⟨gr,b2,none⟩=some (.int .i64 TT[a2][b2]):=by
  obtain ⟨b',off,e,hc⟩:=ag.2.resolve_left (fun h=>by rw [h] at I;simp at I;omega)
  cases e;have h:=hc b2 s;rw [Nat.zero_add] at h;exact h
 have bd:Hid (w8.frozen? ⟨gr,b2,none⟩=false):=F.frozenAt b2;have be:Hid (∀ (u:World) (z:Int),Cx w8 u->gH (u.setCell ⟨gr,b2,none⟩ (.int .i64 z)) (some ⟨gt,0,none⟩) (TT.set a2 (TT[a2].set b2 z))):=fun u z hu=>by
  refine i9 (B:=w7.heap.size) (B':=w7.heap.size) (y:=ty) (cells:=cells) ?_ ((a4.out.below hu).setC bm.out o s (by rw [I];exact av) z) (by rw [List.length_set,ad.out];unfold maxLen;omega) (fun i h=>?_)
  ·rw [List.length_set,ad.out];exact ax (aq ht hu) (fun b hb=>Below.heap_setCell _ _ _ _ (fun e=>by cases hb;exact aK e.symm))
  ·rw [List.length_set] at h
   by_cases e:a2=i
   ·subst e;rw [List.getElem_set_self,List.length_set,I];unfold maxLen;omega
   ·rw [List.getElem_set_ne e,aG.out i h];unfold maxLen;omega
 have M:Hid (∀ (u:World) (z:Int),Cx w8 u->z≠TT[a2][b2]->Calls prog 12 #[.agg #[.slice ah d.length aj,.slice al f.length am],.slice aA j.length aB,.int .i64 g,.slice x n y,.slice (some ⟨gt,0,none⟩) n ty] (u.setCell ⟨gr,b2,none⟩ (.int .i64 z)) fun e w'=>e = .returned (.agg #[.int .i64 7,.int .i64 a2,.int .i64 b2])/\Cx w w'):=fun u z hu hz=>by
  have bf:Cx w7 (u.setCell ⟨gr,b2,none⟩ (.int .i64 z)):=(a5.out.trans (hu.mono a5.out.size)).setCell (show w7.heap.size<=gr from bw) _
  have t:Cx V (u.setCell ⟨gr,b2,none⟩ (.int .i64 z)):=ab.out.trans (bf.mono ab.out.size);have aL:Cx w (u.setCell ⟨gr,b2,none⟩ (.int .i64 z)):=Z.out.trans (t.mono Z.out.size);have h:=mw ah al aA x (some ⟨gt,0,none⟩) aj am aB y ty d f j g RS (TT.set a2 (TT[a2].set b2 z)) _ (aT.out.below t) (aU.out.below t) (aW.out.below t) (HR.out.below bf) (be.out u z hu) (aS.out _ aL);rw [ap.out bo.out a2 b2 o s z hz,List.length_set,ad.out,HN.out] at h;exact h.mono (fun e w' ⟨h1,h2⟩=>⟨h1,aL.trans (h2.mono aL.size)⟩)
 have bA:=ai f0;dsimp only at bA;subst bc;generalize TT[a2][b2]=v0 at bb v6 M;generalize d.length=np2 at f0 M;generalize f.length=nj2 at f1 M;generalize j.length=ns2 at M ⊢;obtain ⟨bK,bL⟩:=bb;have bM:(a2:Int)<n:=bt;have bN:(b2:Int)<n:=bu;have bB:=l.out.size;replace f0:=cell_later l.out f0;replace f1:=cell_later l.out f1;replace c6:=cell_later l.out c6;replace v6:=cell_later l.out v6;have aM:Hid (D.frozen? ⟨gr,b2,none⟩=false):=(World.frozen?_of_block (w:=w8) (a:=⟨gr,b2,none⟩) (l.out.block gr bx)).trans bd.out;clear o av F I s ag ht be bd a1 aG ap
 go_upto_region 13 with fail
 obtain ⟨S,hS⟩:∃ S:World->Prop,∀ u,S u↔Cx D u:=⟨_,fun _=>Iff.rfl⟩
 have J:=aa hS;have r0:∀ u:an S,World.cell? u.val ⟨gt,a2,none⟩=some (.slice (some ⟨gr,0,none⟩) n yr):=fun u=>cell_later ((hS u.val).1 u.2) c6
 have r1:∀ u:an S,World.cell? u.val ⟨gr,b2,none⟩=some (.int .i64 v0):=fun u=>cell_later ((hS u.val).1 u.2) v6
 have H:S D.drew:=(hS _).2 (CV.drew);have hne:=aQ H;clear hS;refine bW 12 H ?_
 (refine ae 0 ?_;intro K hK;go_big_quiet_op;go_big_quiet_on);(refine ae 1 ?_;intro K hK;go_big_quiet_op;go_big_quiet_on);(refine ae 2 ?_;intro K hK;go_big_quiet_op;go_big_quiet_on);(refine ae 3 ?_;intro K hK;go_big_quiet_op;go_big_quiet_on);(refine ae 4 ?_;intro K hK;go_big_quiet_op;go_big_quiet_on);(refine ae 5 ?_;intro K hK;go_big_quiet_op;go_big_quiet_on);(refine ae 6 ?_;intro K hK;go_big_quiet_op;go_big_quiet_on);(refine ae 7 ?_;intro K hK;go_big_quiet_op;go_big_quiet_on)
 refine az 8 ?_;intro K hK
 go_wp2_with (go_at_call 16;refine (br.out _ (l.out.trans ((CV.drew).mono l.out.size))).mono ?_;rintro e aN ⟨x3,bO,rfl,G⟩)
 have m:Cx D aN:=(CV.drew).trans G;refine hK _ _ (ak ((J.out _).2 m)) ?_;clear hK K G
 (refine ae 9 ?_;intro K hK;go_big_quiet_op;go_big_quiet_on);(refine ae 10 ?_;intro K hK;go_big_quiet_op;go_big_quiet_on);(refine ae 11 ?_;intro K hK;go_big_quiet_op;go_big_quiet_on)
 refine a9 ?_;simp only [List.drop_succ_cons,List.drop_zero];clear r0 r1 hne H J S;have sc:=cell_later m v6;have sz:aN.frozen? ⟨gr,b2,none⟩=false:=(World.frozen?_of_block (w:=D) (a:=⟨gr,b2,none⟩) (m.block gr CG)).trans aM.out
 replace f0:=cell_later m f0;replace f1:=cell_later m f1;have bC:=ai sc;have aO:=ai f0;dsimp only at bC aO;have bP:X2≠gr:=CG
 have aP:=aa (fun z hz=>M.out aN z (l.out.trans (m.mono l.out.size)) hz)
 clear c6 v6 m M
 go_wp2_with fail
 refine (aP.out _ CG).mono ?_
 rintro e bQ ⟨rfl,aR⟩;have q1:((a2:Int)==a2)=true:=CI
 have q2:((b2:Int)==b2)=true:=CI
 go_wp2_with fail
 go_ret
 exact ⟨rfl,aR⟩
end Go.Proofs.YtmkdgnmmebldgaaGreatDoor
namespace Go.Proofs.YtmkdgnmmebldgaaGreatDoor
open Go.ChangeShapes Go.WideShapes Go.ChangeAt Go.RowKit Go.Deep
theorem Tryz.et : prog.globalNamed "errors.errorType" = some 0 := by kernel_rfl
theorem Tryz.rtOf : (prog.cutTypes.find? (·.1 == "internal/reflectlite.rtype")).map (·.2) = some 240 := by kernel_rfl
theorem Tryz.oneError:((List.range 348).filter fun t=>prog.rowNamed t [101,114,114,111,114])=[97]:=CH
theorem Tryz.typesSize:prog.types.size=348:=CH
theorem qv {W:World}(h:laidMetH prog Rows.fnCheckRow.laid W):W.cell? ⟨0,0,none⟩=some (.iface 240 (.agg #[.pointer (some ⟨4,97,none⟩)])):=by
 have h':laidMet prog [] W/\handlesMet prog Rows.fnCheckRow.laid W:=h;obtain ⟨name,u,ty,e1,e2,e3,e4,e5⟩:=h'.2 _ (List.mem_singleton.2 rfl);have en:name=[101,114,114,111,114]:=(Option.some.inj e1).symm;subst en;obtain rfl:=Option.some.inj (Tryz.rtOf.symm.trans e2);have hm:ty ∈ (List.range 348).filter fun t=>prog.rowNamed t [101,114,114,111,114]:=List.mem_filter.2 ⟨List.mem_range.2 (by rw [<-Tryz.typesSize];exact e3),e4⟩
 rw [Tryz.oneError] at hm;obtain rfl:=List.mem_singleton.1 hm;have hh:typeHandle prog 97 = .pointer (some ⟨4,97,none⟩):=CH
 rw [hh] at e5;simpa using World.var?_cell Tryz.et e5 0
def rh (P:Program)(os:Os):World:=
 let w0:=World.holding P os ⟨#[],#[],[]⟩
 { w0 with heap:=w0.heap.modify 0 fun
   | .cells _ t frozen=>.cells #[.iface 240 (.agg #[.pointer (some ⟨4,97,none⟩)])] t frozen
   | o=>o }
theorem rO (os:Os)(args:Array Value):laidMetH prog Rows.fnCheckRow.laid ((rh prog os).forCall (fun _ _=>0) ⟨#[],args,[]⟩).memory:=
 laidMetH_of_parts (laidMet_nil _ _) CH
theorem sE (os:Os)(started:os.Started)(H:Type)(enc:TypeId × Value->H):
  ReturnsInHanded {} Tryz.checked os 5 .any (fun w args=>(Rows.fnCheckSpec.pre enc prog Tryz.f5 [] false w args/\laidMetH prog Rows.fnCheckRow.laid w)/\sizedMet enc prog Tryz.f5 (OpenSpec.ofChange Rows.fnCheckSpec) false w args)
   (Rows.fnCheckSpec.post enc prog Tryz.f5 false true false false):=by
 refine returnsInHanded_of_change_and (C:=Tryz.checked) (X:=fun w _=>laidMetH prog Rows.fnCheckRow.laid w) (fun _ _ _ hh h=>h.of_heap hh) Ah started CH func5
  (ChangeSpec.witness_at (enc:=enc) (C:=Tryz.checked) (os:=os) (X:=fun w _=>laidMetH prog Rows.fnCheckRow.laid w) false (rh prog os) #[.slice none 0 0,.slice none 0 0] 8 rfl CH CH CH CH CH (rO os _)) ?_
 intro W base args ds gs c a hW _ _ hL _;have b:∀ (j:Nat) t v,Tryz.f5.params[j]? = some t->args[j]? = some v->Value.okWide prog W .any base t v:=a;have g:=hW;obtain ⟨p,q,d,hV,rfl,s,u⟩:=hW;have hA:DataW.TrodAll enc prog W 0 (fun _=>true) true Tryz.f5.params.toList args.toList ds p:=d
 rw [params5] at hA b;obtain ⟨v0,y,d0,z,p0,q0,f,rfl,rfl,h0,r0⟩:=trodAll_cons hA;obtain ⟨v1,A,d1,B,p1,q1,rfl,rfl,rfl,h1,r1⟩:=trodAll_cons r0;obtain ⟨rfl,rfl,rfl⟩:=trodAll_nil r1;obtain rfl:args = #[v0,v1]:=by cases args;simp_all
 obtain ⟨rfl,rfl⟩:=trodVars_none hV;have k0:=h0;have i:∀ x ∈ p0,x.block<W.heap.size:=by obtain ⟨m,hm⟩:=k0;exact DataW.trod_lt m _ _ _ hm
 have k1:=h1;have k:∀ x ∈ p1,x.block<W.heap.size:=by obtain ⟨m,hm⟩:=k1;exact DataW.trod_lt m _ _ _ hm
 obtain ⟨ca,cc,bs,l,n⟩:=pT (b 0 22 v0 rfl rfl) h0;subst l;obtain ⟨da,dc,ms,o,r⟩:=pT (b 1 22 v1 rfl rfl) h1;subst o;clear d a;refine (rV ca da cc dc bs ms W n r (qv hL)).mono fun e W' ⟨he,bel⟩=>?_
 subst he;exact ⟨_,rfl,_,_,_,[],_,[],g,trodAll_mk1 (shut_bool underlying4 _),(trodAll_cons_mk (Below.trod Tryz.laidOutD CH (of_decide_eq_true CH) k0 bel i) (trodAll_cons_mk (Below.trod Tryz.laidOutD CH (of_decide_eq_true CH) k1 bel k) trodAll_mk0)),rfl,bel.frame _,fun h=>by cases h⟩
theorem check2_card:Rows.FnCheckCardSaid:=qB (pG (fun os a H b=>sE os a H b))
#print axioms check2_card
end Go.Proofs.YtmkdgnmmebldgaaGreatDoor
