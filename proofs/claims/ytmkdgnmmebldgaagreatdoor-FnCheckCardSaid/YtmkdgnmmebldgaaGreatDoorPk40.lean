import Derived.Test.YtmkdgnmmebldgaaGreatDoorPk39
import Derived.Test.YtmkdgnmmebldgaaGreatDoorPk1
import Derived.ProofKit
import Derived.Deep.Slices
import Derived.Deep.Strs
import Derived.Lib.SmallJoins
import Derived.WalkKit
import Derived.OpenShut
import Derived.ShutString
import Derived.ChangeOld
import Derived.Below
set_option maxRecDepth 100000
set_option maxHeartbeats 8000000
open Go.Proofs.Tryz
namespace Go.Proofs.YtmkdgnmmebldgaaGreatDoor
open Go.RowKit Go.Deep
def uc (w:World)(e:Ending)(w':World):Prop:=
 ∃ pa pc ja jc sa sc ps js ss over,e = .returned (.tuple #[.agg #[.slice pa (ps:List af).length pc,.slice ja (js:List aj).length jc],.slice sa (ss:List af).length sc,.int .i64 over])/\ar w' pa ps/\aP w' ja js/\ar w' sa ss/\0<=over/\over<=200/\Cx w w'
theorem zp (ca:Option Addr)(cc:Nat)(bs:List Int)(w:World)(hcode:Hid (bs=[]\/∃ b off,ca=some ⟨b,off,none⟩/\jr w b off bs))(hsm:Hid (∀ x ∈ bs,0<=x/\x<256))(hlen:bs.length<=1048576):
  Calls prog 8 #[.slice ca bs.length cc] w (uc w):=by
 have F:Hid (bs=[]\/∀ b off,ca=some ⟨b,off,none⟩->b<w.heap.size):=by
  rcases hcode.out with h | ⟨b,off,h1,h2⟩
  ·exact Or.inl h
  ·by_cases h0:bs=[]
   ·exact Or.inl h0
   ·refine Or.inr (fun b' am e=>?_)
    rw [h1] at e;cases e;exact ai (h2 0 (List.length_pos_iff.2 h0))
 go_enter func8,ntmps8
 go_wp2_with fail
 generalize hW:World.alloc (World.alloc w _) _=W;have t:Cx w W:=by rw [<-hW];exact blo
 have G:Hid (Cur W (w.heap.size+1) ca cc bs 0):=by
  refine ⟨by rw [<-hW];simp [go_sem],by rw [<-hW];simp [go_sem],⟨0,by rw [<-hW];simp [go_sem]⟩,fun o=>by rw [<-hW];simp [go_sem],?_,hsm.out,hlen,fun o ho=>by rw [<-hW];simp [go_sem];omega⟩
  rcases hcode.out with h | ⟨b,off,h1,h2⟩
  ·exact Or.inl h
  ·rcases F.out with h0 | h0
   ·exact Or.inl h0
   ·exact Or.inr ⟨b,off,h1,by have:=h0 b off h1;omega,fun i hi=>cell_later t (h2 i hi)⟩
 have R0:W.cell? ⟨w.heap.size,0,none⟩=some (.slice none 0 0):=by rw [<-hW];simp [go_sem]
 have R1:W.cell? ⟨w.heap.size,1,none⟩=some (.slice none 0 0):=by rw [<-hW];simp [go_sem]
 have H:Hid (∀ o,W.frozen? ⟨w.heap.size,o,none⟩=false):=fun o=>by rw [<-hW];simp [go_sem]
 have ao:w.heap.size+1<W.heap.size:=by rw [<-hW];simp
 have g:=aa t;clear hW t;obtain ⟨C,hC⟩:∃ C,w.heap.size+1=C:=⟨_,rfl⟩;obtain ⟨R,hR⟩:∃ R,w.heap.size=R:=⟨_,rfl⟩;rw [hC] at G ao ⊢;rw [hR] at R0 R1 H ⊢;have aK:R<C:=CG
 have ap:Hid (w.heap.size<=R):=by unfold Hid;omega
 have HL:Hid (eQ C ca bs):=F.out.imp id (fun h0 b off h=>by have:=h0 b off h;omega)
 clear hC hR;refine (rH C ca cc bs 0 W G HL CG).mono ?_
 rintro e w1 ⟨pa,pc,ja,jc,ps,js,aq,rfl,I,y,J,au,z⟩;have L:=aa I;have av:=aa J;have N:=aa z;have aL:=z.size;clear I J z
 go_wp2_with fail
 generalize m:World.alloc w1 _=W2;have O:Cx w1 W2:=by rw [<-m];exact blo
 have M0:W2.cell? ⟨w1.heap.size,0,none⟩=some (.slice pa ps.length pc):=by rw [<-m];simp [go_sem]
 have M1:W2.cell? ⟨w1.heap.size,1,none⟩=some (.slice ja js.length jc):=by rw [<-m];simp [go_sem]
 have aw:w1.heap.size<W2.heap.size:=by rw [<-m];simp
 have d:=aa O;clear m O;obtain ⟨M,hM⟩:∃ M,w1.heap.size=M:=⟨_,rfl⟩;rw [hM] at M0 M1 aw ⊢;have aM:C<M:=CG
 have T:Hid (w1.heap.size=M):=hM;clear hM;have ax:Hid (∀ u,ag (fun k=>k=C) W2 u->ar u pa ps/\aP u ja js):=fun u hu=>L.out u (fun b h1 h2=>(hu.block b (by have:=d.out.size;omega) CG).trans (d.out.block b h2))
 refine (oK C ca cc bs aq pa pc ja js.length jc ps W2 (av.out.below d.out) HL CG (fun u hu=>(ax.out u hu).1) y.1 y.2.1 y.2.2.1).mono ?_
 rintro e w3 ⟨sa,sc,ss,ay,rfl,U,aN,V,aA,j⟩;have aB:=aa U;have X:=aa V;have Y:=aa j;have aO:=j.size;have m0:=j.cell M0 (by show ¬ M=C;omega)
 have m1:=j.cell M1 (by show ¬ M=C;omega)
 have p:w3.heap[R]? = W.heap[R]? := ((j.block R CG CG).trans (d.out.block R (by have:=T.out;omega))).trans (N.out.block R CG CG)
 have q0:=(World.cell?_of_block (w:=W) (a:=⟨R,0,none⟩) p).trans R0;have q1:=(World.cell?_of_block (w:=W) (a:=⟨R,1,none⟩) p).trans R1;have Z:Hid (∀ o,w3.frozen? ⟨R,o,none⟩=false):=fun o=>(World.frozen?_of_block (w:=W) (a:=⟨R,o,none⟩) p).trans (H.out o)
 clear U V j M0 M1 R0 R1 p;have A:Hid (∀ u,ag (fun k=>k=C) w3 u->ag (fun k=>k=C) W u):=fun u hu=>((N.out.trans (ag.of_below d.out)).trans Y.out).trans hu
 go_upto_region 4 with fail
 obtain ⟨S,hS⟩:∃ S:World->Prop,∀ u,S u↔(u.cell? ⟨M,0,none⟩=some (.slice pa ps.length pc)/\u.cell? ⟨M,1,none⟩=some (.slice ja js.length jc)):=⟨_,fun _=>Iff.rfl⟩
 have q:=aa hS;have r0:∀ u:an S,World.cell? u.val ⟨M,0,none⟩=some (.slice pa ps.length pc):=fun u=>((hS u.val).1 u.2).1
 have r1:∀ u:an S,World.cell? u.val ⟨M,1,none⟩=some (.slice ja js.length jc):=fun u=>((hS u.val).1 u.2).2
 have B:S w3.drew:=(hS _).2 ⟨m0,m1⟩;have hne:=aQ B;clear hS;refine bW 9 B ?_
 (refine ae 0 ?_;intro K hK;go_big_quiet_op;go_big_quiet_on);(refine ae 1 ?_;intro K hK;go_big_quiet_op;go_big_quiet_on);(refine ae 2 ?_;intro K hK;go_big_quiet_op;go_big_quiet_on)
 (refine ae 4 ?_;intro K hK;go_big_quiet_op;go_big_quiet_on)
 refine az 3 ?_;intro K hK
 go_wp2_with (go_at_call 31;refine (iu C ca cc bs ay 200 _ (X.out.below (CV.drew)) CG CG).mono ?_;rintro e w4 ⟨y1,aC,aR,rfl,aD,ab,ac⟩)
 have D:Hid (ag (fun k=>k=C) w3 w4):=((ag.refl _ _).drew).trans ac
 have ad:=aa ab;have af:S w4:=(q.out _).2 ⟨D.out.cell m0 (by show ¬ M=C;omega),D.out.cell m1 (by show ¬ M=C;omega)⟩
 clear ab ac;refine hK _ _ (ak af) ?_;clear hK K;refine az 5 ?_;intro K hK
 go_wp2_with (go_at_call 32;refine (aJ C ca cc bs aC 2 _ ad CG CG).mono ?_;rintro e w5 ⟨y2,aS,aE,rfl,aF,aG,ah⟩)
 have l:Hid (ag (fun k=>k=C) w3 w5):=D.out.trans ah
 have r:S w5:=(q.out _).2 ⟨l.out.cell m0 (by show ¬ M=C;omega),l.out.cell m1 (by show ¬ M=C;omega)⟩
 obtain ⟨pr,aT,aH⟩:∃ pr:Nat,(y1:Int)*(y2:Int)=(pr:Int)/\pr<=200:=by
  have h2:y2=0\/y2=1:=CG
  rcases h2 with rfl | rfl
  ·exact ⟨0,CI,CG⟩
  ·exact ⟨y1,CI,CG⟩
 clear aG ah aE;refine hK _ _ (ak r) ?_;clear hK K;have s:w5.heap[R]? = w3.heap[R]? := l.out.block R (ai q0) CG
 have p0:=(World.cell?_of_block (w:=w3) (a:=⟨R,0,none⟩) s).trans q0;have p1:=(World.cell?_of_block (w:=w3) (a:=⟨R,1,none⟩) s).trans q1;have u0:=(World.frozen?_of_block (w:=w3) (a:=⟨R,0,none⟩) s).trans (Z.out 0);have u1:=(World.frozen?_of_block (w:=w3) (a:=⟨R,1,none⟩) s).trans (Z.out 1);have E:Hid (∀ over:Int,0<=over->over<=200->uc w (.returned (.tuple #[.agg #[.slice pa ps.length pc,.slice ja js.length jc],.slice sa ss.length sc,.int .i64 over])) ((w5.setCell ⟨R,0,none⟩ (.slice pa ps.length pc)).setCell ⟨R,1,none⟩ (.slice ja js.length jc))):=by
  intro over h0 h1;have f:∀ b,b≠R->((w5.setCell ⟨R,0,none⟩ (.slice pa ps.length pc)).setCell ⟨R,1,none⟩ (.slice ja js.length jc)).heap[b]? = w5.heap[b]? := fun b hb=>(Below.heap_setCell _ _ _ _ hb).trans (Below.heap_setCell _ _ _ _ hb)
  have aU:=ap.out;have aV:=T.out;have aI:=d.out.size;have n:=L.out ((w5.setCell ⟨R,0,none⟩ (.slice pa ps.length pc)).setCell ⟨R,1,none⟩ (.slice ja js.length jc)) (fun b h2 h3=>(f b CG).trans ((l.out.block b CG CG).trans ((Y.out.block b CG CG).trans (d.out.block b h3))))
  refine ⟨pa,pc,ja,jc,sa,sc,ps,js,ss,over,rfl,n.1,n.2,aB.out _ (fun b h2 h3=>(f b CG).trans (l.out.block b h3 CG)),h0,h1,?_⟩
  have c:=A.out w5 l.out;refine ⟨c.os.trans g.out.os,c.tape.trans g.out.tape,c.output.trans g.out.output,by have h4:=c.size;have h5:=g.out.size;simp;omega,fun k hk=>(f k CG).trans ((c.block k (by have h5:=g.out.size;omega) CG).trans (g.out.block k hk))⟩
 clear hne X ad;have hne:=aQ r
 (refine ae 6 ?_;intro K hK;go_big_quiet_op;go_big_quiet_on)
 refine az 7 ?_;intro K hK
 go_wp2_with fail
 have aj:M≠R:=CG
 have al:S ((w5.setCell ⟨R,0,none⟩ (.slice pa ps.length pc)).setCell ⟨R,1,none⟩ (.slice ja js.length jc)):=by
  obtain ⟨s0,s1⟩:=(q.out _).1 r;have e:((w5.setCell ⟨R,0,none⟩ (.slice pa ps.length pc)).setCell ⟨R,1,none⟩ (.slice ja js.length jc)).heap[M]? = w5.heap[M]? := (Below.heap_setCell _ _ _ _ aj).trans (Below.heap_setCell _ _ _ _ aj);exact (q.out _).2 ⟨(World.cell?_of_block (w:=w5) (a:=⟨M,0,none⟩) e).trans s0,(World.cell?_of_block (w:=w5) (a:=⟨M,1,none⟩) e).trans s1⟩
 refine hK _ _ (ak al) ?_;clear hK K
 (refine ae 8 ?_;intro K hK;go_big_quiet_op;go_big_quiet_on)
 refine a9 ?_;simp only [List.drop_succ_cons,List.drop_zero];clear r0 r1 hne B af r al
 go_wp2_with fail
 refine bodyPost_ret (v:=.tuple #[.agg #[.slice pa ps.length pc,.slice ja js.length jc],.slice sa ss.length sc,.int .i64 (pr:Int)]) (by simp [results,results8,go_sem,p0,p1]) rfl (E.out pr CG CG)
structure iH (w:World)(a:Option Addr)(bs:List Int):Prop where
 len:bs.length<=maxLen
 lie:bs=[]\/∃ b off,a=some ⟨b,off,none⟩/\jr w b off bs
 small:∀ x ∈ bs,0<=x/\x<256
theorem iH.below {w w':World}{a:Option Addr}{bs:List Int}(h:iH w a bs)(hb:Cx w w'):iH w' a bs:=
 ⟨h.len,h.lie.imp id (fun ⟨b,off,h1,h2⟩=>⟨b,off,h1,fun i hi=>cell_later hb (h2 i hi)⟩),h.small⟩
end Go.Proofs.YtmkdgnmmebldgaaGreatDoor
namespace Go.Proofs.YtmkdgnmmebldgaaGreatDoor
open Go.RowKit Go.Deep Go.ChangeShapes Go.WideShapes
theorem vL {α:Type}{p:Nat->α->Prop}:∀ (n:Nat),(∀ i,i<n->∃ x,p i x)->∃ l:List α,l.length=n/\∀ i (hi:i<l.length),p i l[i]
 | 0,_=>⟨[],rfl,fun i hi=>absurd hi (Nat.not_lt_zero i)⟩
 | n+1,h=>by
  obtain ⟨l,hl,hp⟩:=vL n (fun i hi=>h i CG)
  obtain ⟨x,hx⟩:=h n CG
  refine ⟨l++[x],by simp [hl],fun i hi=>?_⟩
  by_cases e:i<l.length
  ·rw [List.getElem_append_left e];exact hp i e
  ·have:i=n:=by simp at hi;omega
   subst this;simp [hl];exact hx
theorem AS (b o n m:Nat):(Addr.add ⟨b,o,none⟩ n).add m=⟨b,o+n+m,none⟩:=by
 unfold Addr.add
 by_cases h1:n=0 <;> by_cases h2:m=0 <;> simp [h1,h2]
theorem BF {w:World}{a:Addr}{k n:Nat}{cs:List Value}(h:w.cells? 0 (a.add (0*k)) n=some cs)(hn:0<n):a.spot=none:=by
 obtain ⟨_,b,hc⟩:=World.cells?_some h;have k0:=hc 0 hn;rw [List.getElem?_eq_getElem CG] at k0
 have:=World.cell?_spot k0;simpa [Addr.add] using this
theorem Tryz.laidOutD:Go.laidOutB prog=true:=CH
theorem Ah:ownKnob prog.godebug=none:=CH
end Go.Proofs.YtmkdgnmmebldgaaGreatDoor
namespace Go.Proofs.YtmkdgnmmebldgaaGreatDoor
open Go.ChangeShapes Go.WideShapes Go.ChangeAt Go.RowKit Go.Deep
theorem Tryz.cellsU8:prog.cellsOf 5=1:=CH
theorem Am {x:Int}(h:(Lit.int .u8 x).wf=true):0<=x/\x<256:=by
 have e1:IntKind.u8.min=0:=CJ
 have e2:IntKind.u8.max=255:=CJ
 simp only [Lit.wf,e1,e2] at h;simp at h;omega
section
variable {H:Type} {enc:TypeId × Value->H} {w:World}
theorem zl {fuel:Nat}{cs:List Value}{y:DataW H × List MemPlace}(h:DataW.trod enc prog w 0 (fun _=>true) true fuel 22 cs=some y):
  ∃ (a:Option Addr) (cap:Nat) (bs:List Int),cs=[.slice a bs.length cap]/\iH w a bs:=by
 rcases open_slice underlying22 h with ⟨d,_⟩ | ⟨a,len,cap,m,n,D,Pl,d,_,hl,hm,j,_,hx⟩
 ·exact ⟨none,0,[],d,by simp [maxLen],Or.inl rfl,fun x hx=>by cases hx⟩
 ·rw [if_pos rfl] at j;subst j
  by_cases k:len=0
  ·subst k;exact ⟨some a,m,[],d,by simp [maxLen],Or.inl rfl,fun x hx=>by cases hx⟩
  obtain ⟨r,c,_⟩:=hx 0 CG
  have b:=BF c (by rw [Tryz.cellsU8];omega)
  clear c;obtain ⟨ab,ao,s⟩:=a;simp only at b;subst b;have hi:∀ i,i<len->∃ p:Int,w.cell? ⟨ab,ao+i,none⟩=some (.int .u8 p)/\0<=p/\p<256:=by
   intro i hi;obtain ⟨l,h1,h2⟩:=hx i CG
   rw [Tryz.cellsU8] at h1;obtain ⟨_,f,hc⟩:=World.cells?_some h1
   match l,f with
   | [c0],_ =>
    obtain ⟨x0,e0,_,hw⟩:=DataW.trod_int underlying5 h2;simp at e0;subst e0;have k0:=hc 0 CG
    rw [AS] at k0;simp at k0;exact ⟨x0,k0,Am hw⟩
  obtain ⟨ps,o,hp⟩:=vL len hi;subst o;refine ⟨_,m,ps,d,CG,Or.inr ⟨ab,ao,rfl,fun i g=>(hp i g).1⟩,fun x q=>?_⟩
  obtain ⟨i,g,rfl⟩:=List.getElem_of_mem q;exact (hp i g).2
theorem pT {r0:Reach}{b0:Nat}{v:Value}{d:DataW H}{p:List MemPlace}(hv:Value.okWide prog w r0 b0 22 v)(h:DataW.Trod enc prog w 0 (fun _=>true) true 22 v d p):
  ∃ (a:Option Addr) (cap:Nat) (bs:List Int),v = .slice a bs.length cap/\iH w a bs:=by
 obtain ⟨a0,len,cap,rfl⟩:=okWide_slice underlying22 hv;obtain ⟨b,hf⟩:=h;obtain ⟨a,c,bs,f,hb⟩:=zl (by simpa [Value.cells] using hf)
 refine ⟨a,c,bs,?_,hb⟩;simpa using f
end
end Go.Proofs.YtmkdgnmmebldgaaGreatDoor
