import Derived.Test.YtmkdgnmmebldgaaGreatDoorPk23
import Derived.RangeFuncSeq
import Derived.OwnWalkIn
import Derived.RangeFuncLeaves
import Derived.RangeFuncNested
import Derived.Test.YtmkdgnmmebldgaaGreatDoorPk16
import Derived.RangeFuncIn
import Derived.Deep.LoopGhost
set_option maxRecDepth 100000
set_option maxHeartbeats 8000000
open Go.Proofs.Tryz
namespace Go.Proofs.YtmkdgnmmebldgaaGreatDoor
open Go.RowKit Go.Deep Go.Maps
variable {A B C D bs i k l:Nat}{E:List aw}{P:Program}{W w w0:World}{a:Act}{d:cH}{js:List aj}{p:aw}{ps ss:List af}
theorem Bw {t:Nat}(hk:k<3)(ht:t ∈ bt 3 k):max k t=1\/max k t=2:=by
 have:k=0\/k=1\/k=2:=CG
 rcases this with rfl | rfl | rfl
 ·have:t=1\/t=2:=by simpa [bt] using ht
  omega
 ·have:t=0:=by simpa [bt] using ht
  omega
 ·have:t=0:=by simpa [bt] using ht
  omega
theorem ck.over (R:bo ps js ss){pre:List aM}{s:aM}{CA:List bg}{Cy:List Int}{pos:Int}(h:ck ps js ss i pre s CA Cy pos)(hr:s ∉ pre)
  {j k t:Nat} (hj:j<js.length) (hk:k<js[j].ends.length) (ht:t ∈ bt (aH js j) k) {q:aw} (hq:dD js (aF i (pre++[s]) CA Cy) j k t=some q) :
  ∃ lies' crosses',q=aF i (pre++[s]++[aD (aY js j t)]) lies' crosses'/\ck ps js ss i (pre++[s]) (aD (aY js j t)) lies' crosses' (aR ps (aY js j t)):=by
 have b:=R.kind j hj;have c:=cu hj;have d:t<js[j].ends.length:=iF b.2.2 hk (by rw [<-c];exact ht)
 have a:bM ps (aY js j t):=by
  rw [du hj d];exact R.ends j hj t d
 have f:=h.cl
 by_cases h4:aH js j=4
 ·rw [l8 h4] at hq;injection hq with hq;exact ⟨CA,Cy++[(j:Int)],hq.symm,h.next R hr a h.lv h.ld (by simp;exact f)⟩
 ·by_cases h3:aH js j=3
  ·by_cases hz:ce CA j=0
   ·rw [lI h3 hz] at hq;injection hq with hq;have g:¬ CA.any (fun l=>l.CB==(j:Int))=true:=fun ha=>lx h.lv ha hz
    have m:js[j].kind=3:=by rw [<-c];exact h3
    have o:=Bw (k:=k) (t:=t) (by have:=b.2.2;omega) (by rw [<-h3];exact ht)
    exact ⟨_,Cy,hq.symm,h.next R hr a (kI h.lv hj m CG) (jN h.ld g) CG⟩
   ·by_cases hm:ce CA j=(max k t:Nat)
    ·rw [kw h3 hm hz] at hq;injection hq with hq;exact ⟨CA,Cy,hq.symm,h.next R hr a h.lv h.ld CG⟩
    ·rw [jG h3 hm hz] at hq;exact absurd hq CI
  ·have n:dD js (aF i (pre++[s]) CA Cy) j k t=some (aF i (pre++[s]++[aD (aY js j t)]) CA Cy):=by
    unfold dD;dsimp only;rw [if_neg h4,if_neg h3];rfl
   rw [n] at hq;injection hq with hq;exact ⟨CA,Cy,hq.symm,h.next R hr a h.lv h.ld CG⟩
def dL (K:Nat->Prop)(w:World)(d:cH)(p:aw):Prop := ∀ u,ag K w u->bI u d p
theorem dL.at {K:Nat->Prop}(h:dL K w d p):bI w d p:=h w (ag.refl K w)
theorem dL.below {K:Nat->Prop}{w':World}(h:dL K w d p)(hb:Cx w w'):dL K w' d p:=fun u hu=>h u ((ag.of_below hb).trans hu)
theorem dL.thru {K K':Nat->Prop}{w':World}(h:dL K w d p)(ho:ag K w w')(hg:dP K K' w):dL K' w' d p:=fun u hu=>h u (ho.thru hg hu)
def gC (KT:Nat)(d:cH)(p:aw)(l:Nat):Value:=.agg #[.pointer (some ⟨KT,0,none⟩),.int .i64 p.start,.int .i64 p.stop,.bool p.ended,.slice d.a0 p.CE.length d.c0,.slice d.a1 p.CA.length d.c1,.slice d.a2 p.Cy.length d.c2,.func (.yield l) #[] #[]]
structure nH (w0:World)(l:Nat)(Inv:(Nat->Prop)->List aw->World->Prop)(Stop:List aw->World->Prop):Prop where
 lt:∀ K E W,Inv K E W->∀ k,K k->k<W.heap.size
 base:∀ K E W,Inv K E W->Cx w0 W
 keep:∀ K E W W',Inv K E W->Cx W W'->Inv K E W'
 keepS:∀ E W W',Stop E W->Cx W W'->Stop E W'
 yield:∀ K E W d p,Inv K E W->dL K W d p->YieldAt Fence.wide 0 prog l #[dB d p] W (dm (fun K' u=>Inv K' (E++[p]) u) (fun u=>Stop (E++[p]) u) K W)
def fj (Stop:List aw->World->Prop)(E:List aw)(u:World):Prop := ∃ E1 E2,E=E1++E2/\Stop E1 u
def pO (KT l:Nat)(ps:List af)(js:List aj)(ss:List af)(Inv:(Nat->Prop)->List aw->World->Prop)(Stop:List aw->World->Prop)(n:Nat):Prop:=
 ∀ i pre s CA Cy pos d K E w,ck ps js ss i pre s CA Cy pos->2*ps.length+2<=n+pre.length->Inv K E w->dL K w d (aF i (pre++[s]) CA Cy) ->
  Calls prog 111 #[gC KT d (aF i (pre++[s]) CA Cy) l,.int .i64 pos] w
   (dm (fun K' u=>Inv K' (E++evs ps js ss n (aF i (pre++[s]) CA Cy) pos) u) (fj Stop (E++evs ps js ss n (aF i (pre++[s]) CA Cy) pos)) K w)
theorem zW (w0:World)(KT M:Nat)(pa ja sa:Option Addr)(pc jc sc:Nat)(ps:List af)(js:List aj)(ss:List af)(R:Hid (bo ps js ss))(hT:Hid (cB w0 KT M pa ja sa pc jc sc ps js ss))
  (l:Nat) (Inv:(Nat->Prop)->List aw->World->Prop) (Stop:List aw->World->Prop) (RD:Hid (nH w0 l Inv Stop)) (n:Nat) (IH:Hid (pO KT l ps js ss Inv Stop n))
  (i:Nat) (pre:List aM) (s:aM) (CA:List bg) (Cy:List Int) (pos:Int) (d:cH) (K:Nat->Prop) (E:List aw) (w:World) (hwk:Hid (ck ps js ss i pre s CA Cy pos)) (hr:Hid (s ∉ pre)) (hn:Hid (2*ps.length+2<=n+1+pre.length))
  (j k t:Nat) (hj:j<js.length) (hk:Hid (k<js[j].ends.length)) (ht:Hid (t ∈ bt (aH js j) k)) (hI:Hid (Inv K E w)) (hP:Hid (dL K w d (aF i (pre++[s]) CA Cy))) :
  Calls prog 135 #[gC KT d (aF i (pre++[s]) CA Cy) l,iN j k t (aH js j)] w
   (dm (fun K' u=>Inv K' (E++gy ps js ss n (aF i (pre++[s]) CA Cy) j k t) u) (fj Stop (E++gy ps js ss n (aF i (pre++[s]) CA Cy) j k t)) K w):=by
 have I:=R.out.kind j hj;have A:=cu hj;have J:t<js[j].ends.length:=iF I.2.2 hk.out (by rw [<-A];exact ht.out)
 have h1:1<=aH js j:=by rw [A];exact I.1
 have h4:aH js j<=4:=by rw [A];exact I.2.1
 have L:=du hj J;have av:Hid (bM ps (aY js j t)):=by
  unfold Hid;rw [L];exact R.out.ends j hj t J
 obtain ⟨p,hp⟩:∃ p,aF i (pre++[s]) CA Cy=p:=⟨_,rfl⟩;have ab:=RD.out.base _ _ _ hI.out;have ax:=RD.out.lt _ _ _ hI.out;have HB:Hid (∀ u:World,Cx w u->cB u KT M pa ja sa pc jc sc ps js ss):=fun u hu=>hT.out.below (ab.trans (hu.mono ab.size))
 have ac:Hid (∀ u:World,Cx w u->∀ fr kd:Value,Calls prog 167 #[.pointer (some ⟨KT,0,none⟩),.agg #[.int .i64 j,fr,.int .i64 t,kd]] u fun e w'=>e = .returned (bC (aY js j t))/\Cx u w'):=fun u hu fr kd=>by
  have h:=mz KT pa ja sa pc jc sc ps js ss j t fr kd u (HB.out u hu).net hj J;rw [<-L] at h;exact h
 have aL:=hwk.out.cl;have ad:=hwk.out.few;have aN:=iX hwk.out.lv hwk.out.ld;have aO:=R.out.np;have aP:=R.out.nj;have y:Hid (∀ u:World,bI u d p->Calls prog 168 #[dB d p,iN j k t (aH js j),bC (aY js j t)] u fun e w' => ∃ d',e = .returned (.tuple #[dB d' (ee p j k t (aH js j) (aY js j t)).1,.bool (ee p j k t (aH js j) (aY js j t)).2])/\gz u w' d d' p (ee p j k t (aH js j) (aY js j t)).1/\Cx u w'):=fun u hu =>
  sF d p j k t (aH js j) (aY js j t) u hu (by rw [<-hp];simp [aF];omega) (by rw [<-hp];simp [aF];omega) (by rw [<-hp];simp [aF];omega) h1 h4
 have ah:Hid (∀ u:World,Cx w u->Calls prog 112 #[.pointer (some ⟨KT,0,none⟩),bC (aY js j t)] u fun e w'=>e = .returned (.int .i64 (aR ps (aY js j t)))/\Cx u w'):=fun u hu=>by
  obtain ⟨x,hx,e1,e2⟩:=av.out;obtain ⟨en,aS⟩:∃ en,aY js j t=en:=⟨_,rfl⟩;rw [aS] at e1 ⊢;obtain ⟨ep,es⟩:=en;simp only at e1;subst e1;exact pJ KT pa ja sa pc jc sc ps js ss x es u (HB.out u hu).net hx
 have N:Hid (∀ q,dD js p j k t=some q->gy ps js ss n p j k t=evs ps js ss n q (aR ps (aY js j t))):=fun q hq=>by unfold gy;rw [hq]
 have ai:Hid (dD js p j k t=none->gy ps js ss n p j k t=[]):=fun hq=>by unfold gy;rw [hq]
 have al:Hid (∀ q,dD js p j k t=some q->∃ c a,q=aF i (pre++[s]++[aD (aY js j t)]) c a/\ck ps js ss i (pre++[s]) (aD (aY js j t)) c a (aR ps (aY js j t))):=fun q hq=>hwk.out.over R.out hr.out hj hk.out ht.out (by rw [hp];exact hq)
 have am:Hid (∀ q,dD js p j k t=some q->ee p j k t (aH js j) (aY js j t)=(q,true)):=fun q hq=>xQ hq
 have ao:Hid (dD js p j k t=none->(ee p j k t (aH js j) (aY js j t)).2=false):=fun hq=>xd hq
 rw [hp] at hP ⊢;have aT:=aa ax;generalize gy ps js ss n p j k t=kids at N ai ⊢;generalize ee p j k t (aH js j) (aY js j t)=oi at y am ao;generalize dD js p j k t=op at N ai al am ao;generalize aH js j=kd at y h1 h4 ht A ⊢;generalize aY js j t=en at ac av y ah N al L;obtain ⟨oq,ob⟩:=oi;clear I A J L ab ax aL ad aN aO aP hp h1 h4 hk hj ht;unfold gC iN;unfold iN at y;unfold dB bC at y;unfold bC at ac ah
 go_enter func135,ntmps135
 go_upto_region 1 with fail
 generalize g:(fun i:Nat=>(#[Value.pointer (some ⟨KT,0,none⟩),.int .i64 p.start,.int .i64 p.stop,.bool p.ended,.slice d.a0 p.CE.length d.c0,.slice d.a1 p.CA.length d.c1,.slice d.a2 p.Cy.length d.c2,.func (.yield l) #[] #[]]:Array Value).getD i (.bool false))=wf
 generalize hW:World.alloc (World.alloc w _) _=W;have m:Hid (W.rowIs w.heap.size 211 8 wf):=by
  unfold Hid;rw [<-hW,<-g];exact (cG w _ _).alloc _
 have q0:W.cell? ⟨w.heap.size+1,0,none⟩=some (.int .i64 (j:Int)):=by rw [<-hW];simp [go_sem]
 have q1:W.cell? ⟨w.heap.size+1,1,none⟩=some (.int .i64 (k:Int)):=by rw [<-hW];simp [go_sem]
 have q2:W.cell? ⟨w.heap.size+1,2,none⟩=some (.int .i64 (t:Int)):=by rw [<-hW];simp [go_sem]
 have q3:W.cell? ⟨w.heap.size+1,3,none⟩=some (.iface (cj kd) (.agg #[])):=by rw [<-hW];simp [go_sem]
 have O:Hid (Cx w W):=by rw [<-hW];exact blo
 have a7:w.heap.size+1<W.heap.size:=by rw [<-hW];simp
 clear hW;have c0:W.cell? ⟨w.heap.size,0,none⟩=some (.pointer (some ⟨KT,0,none⟩)):=(m.out.cell (i:=0) CG).trans (by rw [<-g];rfl)
 have c1:W.cell? ⟨w.heap.size,1,none⟩=some (.int .i64 p.start):=(m.out.cell (i:=1) CG).trans (by rw [<-g];rfl)
 have c2:W.cell? ⟨w.heap.size,2,none⟩=some (.int .i64 p.stop):=(m.out.cell (i:=2) CG).trans (by rw [<-g];rfl)
 have c3:W.cell? ⟨w.heap.size,3,none⟩=some (.bool p.ended):=(m.out.cell (i:=3) CG).trans (by rw [<-g];rfl)
 have c4:W.cell? ⟨w.heap.size,4,none⟩=some (.slice d.a0 p.CE.length d.c0):=(m.out.cell (i:=4) CG).trans (by rw [<-g];rfl)
 have c5:W.cell? ⟨w.heap.size,5,none⟩=some (.slice d.a1 p.CA.length d.c1):=(m.out.cell (i:=5) CG).trans (by rw [<-g];rfl)
 have c6:W.cell? ⟨w.heap.size,6,none⟩=some (.slice d.a2 p.Cy.length d.c2):=(m.out.cell (i:=6) CG).trans (by rw [<-g];rfl)
 have c7:W.cell? ⟨w.heap.size,7,none⟩=some (.func (.yield l) #[] #[]):=(m.out.cell (i:=7) CG).trans (by rw [<-g];rfl)
 go_upto_region 2 with (go_at_call 167;refine (ac.out _ O.out _ _).mono ?_;rintro e w2 ⟨rfl,r⟩)
 generalize hV:World.alloc w2 _=V;have b:Cx W V:=by rw [<-hV];exact r.trans (CU.mono r.size)
 have e0:V.cell? ⟨w2.heap.size,0,none⟩=some (.int .i64 en.CB):=by rw [<-hV];simp [go_sem]
 have e1:V.cell? ⟨w2.heap.size,1,none⟩=some (.int .i64 en.side):=by rw [<-hV];simp [go_sem]
 have a8:=r.size;have ba:w2.heap.size<V.heap.size:=by rw [<-hV];simp
 clear hV r;replace q0:=cell_later b q0;replace q1:=cell_later b q1;replace q2:=cell_later b q2;replace q3:=cell_later b q3;have ap:=aa (m.out.of_block (b.block _ m.out.lt));have T:=aa (O.out.trans (b.mono O.out.size));replace c0:=cell_later b c0;replace c1:=cell_later b c1;replace c2:=cell_later b c2;replace c3:=cell_later b c3;replace c4:=cell_later b c4;replace c5:=cell_later b c5;replace c6:=cell_later b c6;replace c7:=cell_later b c7;clear b m O;have ay:=aa ((hP.out.below T.out).at)
 go_upto_region 3 with (go_at_call 168;refine (y.out _ ay.out).mono ?_;rintro e w3 ⟨d',rfl,aA,B⟩)
 generalize hU:World.alloc w3 _=U;have C:Cx V U:=by rw [<-hU];exact B.trans (CU.mono B.size)
 have D:Cx w3 U:=by rw [<-hU];exact CV.alloc CW _
 have m0:U.cell? ⟨w3.heap.size,0,none⟩=some (.int .i64 oq.start):=by rw [<-hU];simp [go_sem]
 have m1:U.cell? ⟨w3.heap.size,1,none⟩=some (.int .i64 oq.stop):=by rw [<-hU];simp [go_sem]
 have m2:U.cell? ⟨w3.heap.size,2,none⟩=some (.bool oq.ended):=by rw [<-hU];simp [go_sem]
 have m3:U.cell? ⟨w3.heap.size,3,none⟩=some (.slice d'.a0 oq.CE.length d'.c0):=by rw [<-hU];simp [go_sem]
 have m4:U.cell? ⟨w3.heap.size,4,none⟩=some (.slice d'.a1 oq.CA.length d'.c1):=by rw [<-hU];simp [go_sem]
 have m5:U.cell? ⟨w3.heap.size,5,none⟩=some (.slice d'.a2 oq.Cy.length d'.c2):=by rw [<-hU];simp [go_sem]
 have bc:=B.size;have bd:w3.heap.size<U.heap.size:=by rw [<-hU];simp
 have be:=aa B;have aq:=aa D;have aU:=aa aA;have f:=aa (ap.out.of_block (C.block _ ap.out.lt));have X:=aa (T.out.trans (C.mono T.out.size));replace e0:=cell_later C e0;replace e1:=cell_later C e1;clear hU C B D aA q0 q1 q2 q3 c0 c1 c2 c3 c4 c5 c6 c7 ay y ap;cases op with
 | none =>
  have aV:ob=false:=ao.out rfl;subst aV;have aW:=aa (RD.out.keep _ _ _ _ hI.out X.out);have ar:=aa (ai.out rfl)
  go_wp2_with fail
  go_ret
  exact ⟨true,rfl,ag.of_below X.out,fun _=>⟨K,by rw [ar.out,List.append_nil];exact aW.out,dP.refl _ _⟩,fun h=>by cases h⟩
 | some q =>
  have Y:=am.out q rfl;injection Y with hq1 hq2;subst hq1 hq2;have bf:=f.out.lt;have aB:=aa ((((((f.out.set 1 (.int .i64 oq.start)).set 2 (.int .i64 oq.stop)).set 3 (.bool oq.ended)).set 4 (.slice d'.a0 oq.CE.length d'.c0)).set 5 (.slice d'.a1 oq.CA.length d'.c1)).set 6 (.slice d'.a2 oq.Cy.length d'.c2));have f1:=f.out.frozen 1;have f2:=f.out.frozen 2;have f3:=f.out.frozen 3;have f4:=f.out.frozen 4;have f5:=f.out.frozen 5;have f6:=f.out.frozen 6;have c1:=f.out.cell (i:=1) CG
  have c2:=f.out.cell (i:=2) CG
  have c3:=f.out.cell (i:=3) CG
  have c4:=f.out.cell (i:=4) CG
  have c5:=f.out.cell (i:=5) CG
  have c6:=f.out.cell (i:=6) CG
  have ar:=aa (N.out oq rfl)
  go_upto_region 6 with fail
  generalize hZ:World.setCell (World.setCell (World.setCell (World.setCell (World.setCell (World.setCell U _ _) _ _) _ _) _ _) _ _) _ _=Z;have o:=aa aB.out;rw [hZ] at o;have F:ag (fun k=>k=w.heap.size) U Z:=by
   rw [<-hZ];exact ((((((ag.refl (fun k=>k=w.heap.size) U).setCell (p:=⟨w.heap.size,1,none⟩) (Or.inl rfl) _).setCell (p:=⟨w.heap.size,2,none⟩) (Or.inl rfl) _).setCell (p:=⟨w.heap.size,3,none⟩) (Or.inl rfl) _).setCell (p:=⟨w.heap.size,4,none⟩) (Or.inl rfl) _).setCell (p:=⟨w.heap.size,5,none⟩) (Or.inl rfl) _).setCell (p:=⟨w.heap.size,6,none⟩) (Or.inl rfl) _
  clear hZ aB f1 f2 f3 f4 f5 f6 c1 c2 c3 c4 c5 c6 m0 m1 m2 m3 m4 m5;replace e0:=F.cell e0 (by show ¬ w2.heap.size=w.heap.size;omega)
  replace e1:=F.cell e1 (by show ¬ w2.heap.size=w.heap.size;omega)
  have aC:Cx w Z:=X.out.trans (F.below (by have h1:=X.out.size;omega) (fun k hk e=>CG))
  have z:=aa aC;have aX:Hid (ag (fun x=>K x\/x=w.heap.size) w3 Z):=(ag.of_below aq.out).trans (F.mono (fun k hk=>Or.inr hk))
  have aZ:Hid (∀ u,ag K Z u->bI u d' oq):=fun u hu =>
   aU.out (fun x=>K x\/x=w.heap.size) u (fun x hx=>by rcases hx with hx | hx;exact Nat.lt_of_lt_of_le (aT.out x hx) T.out.size;omega) (aX.out.trans (hu.mono (fun k hk=>Or.inl hk))) (hP.out u ((ag.of_below z.out).trans hu))
  have x0:Z.cell? ⟨w.heap.size,0,none⟩=some (.pointer (some ⟨KT,0,none⟩)):=(o.out.cell (i:=0) CG).trans (by rw [<-g];rfl)
  have x1:Z.cell? ⟨w.heap.size,1,none⟩=some (.int .i64 oq.start):=(o.out.cell (i:=1) CG).trans CI
  have x2:Z.cell? ⟨w.heap.size,2,none⟩=some (.int .i64 oq.stop):=(o.out.cell (i:=2) CG).trans CI
  have x3:Z.cell? ⟨w.heap.size,3,none⟩=some (.bool oq.ended):=(o.out.cell (i:=3) CG).trans CI
  have x4:Z.cell? ⟨w.heap.size,4,none⟩=some (.slice d'.a0 oq.CE.length d'.c0):=(o.out.cell (i:=4) CG).trans CI
  have x5:Z.cell? ⟨w.heap.size,5,none⟩=some (.slice d'.a1 oq.CA.length d'.c1):=(o.out.cell (i:=5) CG).trans CI
  have x6:Z.cell? ⟨w.heap.size,6,none⟩=some (.slice d'.a2 oq.Cy.length d'.c2):=(o.out.cell (i:=6) CG).trans CI
  have x7:Z.cell? ⟨w.heap.size,7,none⟩=some (.func (.yield l) #[] #[]):=(o.out.cell (i:=7) CG).trans (by rw [<-g];rfl)
  obtain ⟨c,a,Y,G⟩:=al.out oq rfl;have aE:Hid (∀ u:World,Cx Z u->Calls prog 111 #[gC KT d' oq l,.int .i64 (aR ps en)] u (dm (fun K' u=>Inv K' (E++evs ps js ss n oq (aR ps en)) u) (fj Stop (E++evs ps js ss n oq (aR ps en))) K u)):=fun u hu=>by
   have hb:Cx w u:=z.out.trans (hu.mono z.out.size);have aG:dL K u d' oq:=fun v hv=>aZ.out v ((ag.of_below hu).trans hv)
   rw [Y] at aG ⊢;exact IH.out i (pre++[s]) (aD en) c a (aR ps en) d' K E u G (by have h1:=hn.out;simp;omega) (RD.out.keep _ _ _ _ hI.out hb) aG
  unfold gC at aE;obtain ⟨S,hS⟩:∃ S:World->Prop,∀ u,S u↔Cx Z u:=⟨_,fun _=>Iff.rfl⟩
  have a3:=aa hS;have r0:∀ u:an S,World.cell? u.val ⟨w.heap.size,0,none⟩=some (.pointer (some ⟨KT,0,none⟩)):=fun u=>cell_later ((hS u.val).1 u.2) x0
  have r1:∀ u:an S,World.cell? u.val ⟨w.heap.size,1,none⟩=some (.int .i64 oq.start):=fun u=>cell_later ((hS u.val).1 u.2) x1
  have r2:∀ u:an S,World.cell? u.val ⟨w.heap.size,2,none⟩=some (.int .i64 oq.stop):=fun u=>cell_later ((hS u.val).1 u.2) x2
  have r3:∀ u:an S,World.cell? u.val ⟨w.heap.size,3,none⟩=some (.bool oq.ended):=fun u=>cell_later ((hS u.val).1 u.2) x3
  have r4:∀ u:an S,World.cell? u.val ⟨w.heap.size,4,none⟩=some (.slice d'.a0 oq.CE.length d'.c0):=fun u=>cell_later ((hS u.val).1 u.2) x4
  have r5:∀ u:an S,World.cell? u.val ⟨w.heap.size,5,none⟩=some (.slice d'.a1 oq.CA.length d'.c1):=fun u=>cell_later ((hS u.val).1 u.2) x5
  have r6:∀ u:an S,World.cell? u.val ⟨w.heap.size,6,none⟩=some (.slice d'.a2 oq.Cy.length d'.c2):=fun u=>cell_later ((hS u.val).1 u.2) x6
  have r7:∀ u:an S,World.cell? u.val ⟨w.heap.size,7,none⟩=some (.func (.yield l) #[] #[]):=fun u=>cell_later ((hS u.val).1 u.2) x7
  have r8:∀ u:an S,World.cell? u.val ⟨w2.heap.size,0,none⟩=some (.int .i64 en.CB):=fun u=>cell_later ((hS u.val).1 u.2) e0
  have r9:∀ u:an S,World.cell? u.val ⟨w2.heap.size,1,none⟩=some (.int .i64 en.side):=fun u=>cell_later ((hS u.val).1 u.2) e1
  have au:S Z.drew:=(hS _).2 (CV.drew);have hne:=aQ au;clear hS F aC Y G x0 x1 x2 x3 x4 x5 x6 x7 e0 e1;refine bW 5 au ?_
  (refine ae 0 ?_;intro K hK;go_big_quiet_op;go_big_quiet_on);(refine ae 1 ?_;intro K hK;go_big_quiet_op;go_big_quiet_on);(refine ae 2 ?_;intro K hK;go_big_quiet_op;go_big_quiet_on);(refine ae 3 ?_;intro K hK;go_big_quiet_op;go_big_quiet_on)
  refine az 4 ?_;intro K' aI
  go_wp2_with (go_at_call 112;refine (ah.out _ (z.out.trans (CV.drew.mono z.out.size))).mono ?_;rintro e z2 ⟨rfl,H⟩)
  have r:Cx Z z2:=CV.drew.trans H;refine aI _ _ (ak ((a3.out _).2 r)) ?_;clear aI K' H r0 r1 r2 r3 r4 r5 r6 r7 r8 r9 au hne;have aJ:=aa r;clear r;refine a9 ?_
  go_wp2_with (go_at_call 111;refine (aE.out _ aJ.out).mono ?_;rintro e z3 ⟨bb,rfl,a4,a5,a6⟩)
  go_ret
  have aK:Cx w z2:=z.out.trans (aJ.out.mono z.out.size);rw [ar.out];exact ⟨bb,rfl,(ag.of_below aK).trans a4,fun h=>by obtain ⟨K',h1,h2⟩:=a5 h;exact ⟨K',h1,h2.mono aK.size⟩,a6⟩
theorem xU (js:List aj)(ss:List af)(p:aw)(pos:Int):∃ st en,ed js ss p pos=⟨p.start,st,en,p.CE,p.CA,p.Cy⟩:=by
 unfold ed
 split
 ·exact ⟨_,_,rfl⟩
 ·split
  ·exact ⟨_,_,rfl⟩
  ·exact ⟨_,_,rfl⟩
theorem Ar {L:List aM}{CA:List bg}{Cy:List Int}{pos:Int}{st:Int}{en:Bool}(h:ed js ss (aF i L CA Cy) pos=⟨(i:Int),st,en,L,CA,Cy⟩)(he:en=false):st=0:=by
 unfold ed at h
 split at h
 ·injection h with _ _ h3;rw [he] at h3;cases h3
 ·split at h
  ·injection h with _ _ h3;rw [he] at h3;cases h3
  ·injection h with _ h2;exact h2.symm
theorem bI.other (h:bI w d p)(st:Int)(en:Bool):bI w d ⟨p.start,st,en,p.CE,p.CA,p.Cy⟩:=
 ⟨h.CE,h.CA,h.Cy,h.nil0,h.nil1,h.nil2,h.cap⟩
theorem dL.other {K:Nat->Prop}(h:dL K w d p)(st:Int)(en:Bool):dL K w d ⟨p.start,st,en,p.CE,p.CA,p.Cy⟩:=fun u hu=>(h u hu).other st en
theorem yu (ps:List af)(js:List aj)(ss:List af)(n:Nat)(p:aw)(j k:Nat)(A B:List Nat):dy ps js ss n p j k (A++B)=dy ps js ss n p j k A++dy ps js ss n p j k B:=by
 simp [dy]
def wC (Inv:(Nat->Prop)->List aw->World->Prop)(E:List aw)(ps:List af)(js:List aj)(ss:List af)(n:Nat)(p:aw)(j k:Nat)(d:cH)(L:List Nat)(m:Nat)(K:Nat->Prop)(u:World):Prop:=
 Inv K (E++dy ps js ss n p j k (L.take m)) u/\dL K u d p
theorem dm.amid {Inv:(Nat->Prop)->List aw->World->Prop}{Stop:List aw->World->Prop}{n:Nat}{j:Nat}{L:List Nat}{m t:Nat}{K:Nat->Prop}{u:World}{e:Ending}{u':World}
  (ht:L[m]? = some t) (hp:dL K u d p) (h:dm (fun K' u=>Inv K' (E++dy ps js ss n p j k (L.take m)++gy ps js ss n p j k t) u) (fj Stop (E++dy ps js ss n p j k (L.take m)++gy ps js ss n p j k t)) K u e u') :
  dm (wC Inv E ps js ss n p j k d L (m+1)) (fj Stop (E++dy ps js ss n p j k L)) K u e u':=by
 obtain ⟨b,e1,ho,h1,h2⟩:=h;have a:L.take (m+1)=L.take m++[t]:=by rw [List.take_add_one,ht,Option.toList]
 refine ⟨b,e1,ho,fun hb=>?_,fun hb=>?_⟩
 ·obtain ⟨K',h3,h4⟩:=h1 hb;refine ⟨K',⟨?_,hp.thru ho h4⟩,h4⟩;rw [a,jP,<-List.append_assoc];exact h3
 ·obtain ⟨E1,E2,h3,h4⟩:=h2 hb;refine ⟨E1,E2++dy ps js ss n p j k (L.drop (m+1)),?_,h4⟩;rw [<-List.append_assoc,<-h3];have:dy ps js ss n p j k L=dy ps js ss n p j k (L.take (m+1))++dy ps js ss n p j k (L.drop (m+1)):=by rw [<-yu,List.take_append_drop]
  rw [this,a,jP];simp [List.append_assoc]
theorem zE (w0:World)(KT M:Nat)(pa ja sa:Option Addr)(pc jc sc:Nat)(ps:List af)(js:List aj)(ss:List af)(R:Hid (bo ps js ss))(hT:Hid (cB w0 KT M pa ja sa pc jc sc ps js ss))
  (l:Nat) (Inv:(Nat->Prop)->List aw->World->Prop) (Stop:List aw->World->Prop) (RD:Hid (nH w0 l Inv Stop)) (n:Nat) (IH:Hid (pO KT l ps js ss Inv Stop n)):pO KT l ps js ss Inv Stop (n+1):=by
 intro i G s y a q d K E w B hn hI hP;have aT:=aa B;have HI:=aa hI;have HP:=aa hP;obtain ⟨p,hp⟩:∃ p,aF i (G++[s]) y a=p:=⟨_,rfl⟩;obtain ⟨st,en,hq⟩:=xU js ss p q;have al:cZ p=s:=by rw [<-hp];exact gl i G s y a
 have h0:0<p.CE.length:=by rw [<-hp];simp [aF]
 have am:=RD.out.base _ _ _ hI;have HB:Hid (∀ u:World,Cx w u->cB u KT M pa ja sa pc jc sc ps js ss):=fun u hu=>hT.out.below (am.trans (hu.mono am.size))
 have aC:Hid (∀ u:World,Cx w u->Calls prog 131 #[.pointer (some ⟨KT,0,none⟩),dB d p,.int .i64 q] u fun e w'=>e = .returned (.tuple #[.int .i64 st,.bool en])/\Cx u w'):=fun u hu=>by
  obtain ⟨x,hx,e1,e2⟩:=B.sv;have h1:=B.p1;have h2:=(R.out.plen x hx).2;rw [e1,cT hx] at h1;have h:=y9 KT M pa ja sa pc jc sc ps js ss R d p q u (HB.out u hu) ((hp ▸ hP).below hu).at h0 (by rw [al];exact B.sv) B.p0 CG
  rw [hq] at h;exact h
 rw [hp] at hP HP ⊢;have aD:Hid (∀ u:World,bI u d p->Calls prog 132 #[.agg #[.int .i64 p.start,.int .i64 st,.bool en,.slice d.a0 p.CE.length d.c0,.slice d.a1 p.CA.length d.c1,.slice d.a2 p.Cy.length d.c2]] u fun e w'=>e = .returned (.bool (di p))/\Cx u w'):=fun u hu =>
  oy d ⟨p.start,st,en,p.CE,p.CA,p.Cy⟩ u (hu.other st en) h0
 have aU:Hid (∀ u:World,bI u d p->Calls prog 134 #[.agg #[.int .i64 p.start,.int .i64 st,.bool en,.slice d.a0 p.CE.length d.c0,.slice d.a1 p.CA.length d.c1,.slice d.a2 p.Cy.length d.c2]] u fun e w'=>e = .returned (.agg #[.int .i64 s.CB,.int .i64 s.side])/\Cx u w'):=fun u hu=>by
  have h:=o9 d ⟨p.start,st,en,p.CE,p.CA,p.Cy⟩ u (hu.other st en) h0;have e:cZ ⟨p.start,st,en,p.CE,p.CA,p.Cy⟩=s:=al;rw [e] at h;exact h
 have aE:Hid (en=true\/di p=true->evs ps js ss (n+1) p q=[⟨p.start,st,en,p.CE,p.CA,p.Cy⟩]):=fun h=>by
  rw [evs,hq,if_pos h]
 have aV:Hid (∃ C,evs ps js ss (n+1) p q=⟨p.start,st,en,p.CE,p.CA,p.Cy⟩::C):=by
  unfold Hid;rw [evs,hq];exact ⟨_,rfl⟩
 have aW:=aa (RD.out.lt _ _ _ hI);have H:p.stop=0/\p.ended=false:=by rw [<-hp];exact ⟨rfl,rfl⟩
 have aG:Hid (en=false->st=0):=fun he=>by
  rw [<-hp] at hq;exact Ar hq he
 obtain ⟨j,k,I,U⟩:=R.out.spot (dh B.sv);obtain ⟨hj,hk⟩:∃ hj:j<js.length,k<js[j].ends.length:=by
  obtain ⟨_,hj,hk,_⟩:=df I;simp only [Nat.sub_zero] at hj hk;exact ⟨hj,hk⟩
 have bi:=aa U;have aX:Hid (en=false->di p=false->evs ps js ss (n+1) p q=p::dy ps js ss n p j k (bt (aH js j) k)):=fun he hr=>by
  have ao:=aG.out he;have aY:(⟨p.start,st,en,p.CE,p.CA,p.Cy⟩:aw)=p:=by rw [ao,he,<-H.1,<-H.2]
  rw [evs,hq,aY,H.2,hr,if_neg CI,al,U]
  rfl
 have aZ:Hid (di p=false->s ∉ G):=fun hr hm=>by
  rw [<-hp,(i7 i G s y a).2 hm] at hr;cases hr
 have a3:Hid (∀ E' K' u t,Inv K' E' u->dL K' u d p->di p=false->t ∈ bt (aH js j) k->Calls prog 135 #[gC KT d p l,iN j k t (aH js j)] u (dm (fun K' u=>Inv K' (E'++gy ps js ss n p j k t) u) (fj Stop (E'++gy ps js ss n p j k t)) K' u)):=fun E' K' u t X ap hr ht=>by
  have h:=zW w0 KT M pa ja sa pc jc sc ps js ss R hT l Inv Stop RD n IH i G s y a q d K' E' u aT (aZ.out hr) (by have h1:=hn;unfold Hid;omega) j k t hj hk ht X (by rw [hp];exact ap)
  rw [hp] at h;exact h
 have aq:Hid (∀ E' K' u,Inv K' E' u->dL K' u d p->di p=false->Calls prog 133 #[.pointer (some ⟨KT,0,none⟩),bC (au s),.func (.func 135) #[gC KT d p l] #[]] u (dm (wC Inv E' ps js ss n p j k d (bt (aH js j) k) (bt (aH js j) k).length) (fj Stop (E'++dy ps js ss n p j k (bt (aH js j) k))) K' u)):=fun E' K' u X ap hr=>by
  have a4:=RD.out.base _ _ _ X;refine mH KT M pa ja sa pc jc sc ps js ss R (au s) 135 (gC KT d p l) (wC Inv E' ps js ss n p j k d (bt (aH js j) k)) (fj Stop (E'++dy ps js ss n p j k (bt (aH js j) k))) K' u (hT.out.below a4) (dh B.sv) (fun a5 u=>CH) j k U ⟨by simpa [dy] using X,ap⟩ (fun m K2 u2 h=>RD.out.lt _ _ _ h.1) (fun m K2 u2 u3 h hb=>⟨RD.out.keep _ _ _ _ h.1 hb,h.2.below hb⟩) ?_
  intro m t K2 u2 ht h2;refine (a3.out _ K2 u2 t h2.1 h2.2 hr (List.mem_of_getElem? ht)).mono ?_;intro e u3 h3;exact h3.amid ht h2.2
 have Y:=aa H;clear am hI hP h0 I U hj hk H;unfold gC at aq;unfold bC at aq;unfold gC;unfold dB at aC
 go_enter func111,ntmps111
 go_upto_region 1 with fail
 generalize b:(fun i:Nat=>(#[Value.pointer (some ⟨KT,0,none⟩),.int .i64 p.start,.int .i64 p.stop,.bool p.ended,.slice d.a0 p.CE.length d.c0,.slice d.a1 p.CA.length d.c1,.slice d.a2 p.Cy.length d.c2,.func (.yield l) #[] #[]]:Array Value).getD i (.bool false))=wf
 generalize hW:World.alloc w _=W;have r:Hid (W.rowIs w.heap.size 211 8 wf):=by
  unfold Hid;rw [<-hW,<-b];exact cG w _ _
 have Z:Hid (Cx w W):=by rw [<-hW];exact blo
 have a6:w.heap.size<W.heap.size:=by rw [<-hW];simp
 clear hW;have c0:W.cell? ⟨w.heap.size,0,none⟩=some (.pointer (some ⟨KT,0,none⟩)):=(r.out.cell (i:=0) CG).trans (by rw [<-b];rfl)
 have c1:W.cell? ⟨w.heap.size,1,none⟩=some (.int .i64 p.start):=(r.out.cell (i:=1) CG).trans (by rw [<-b];rfl)
 have c2:W.cell? ⟨w.heap.size,2,none⟩=some (.int .i64 p.stop):=(r.out.cell (i:=2) CG).trans (by rw [<-b];rfl)
 have c3:W.cell? ⟨w.heap.size,3,none⟩=some (.bool p.ended):=(r.out.cell (i:=3) CG).trans (by rw [<-b];rfl)
 have c4:W.cell? ⟨w.heap.size,4,none⟩=some (.slice d.a0 p.CE.length d.c0):=(r.out.cell (i:=4) CG).trans (by rw [<-b];rfl)
 have c5:W.cell? ⟨w.heap.size,5,none⟩=some (.slice d.a1 p.CA.length d.c1):=(r.out.cell (i:=5) CG).trans (by rw [<-b];rfl)
 have c6:W.cell? ⟨w.heap.size,6,none⟩=some (.slice d.a2 p.Cy.length d.c2):=(r.out.cell (i:=6) CG).trans (by rw [<-b];rfl)
 go_upto_region 2 with (go_at_call 131;refine (aC.out _ Z.out).mono ?_;rintro e w2 ⟨rfl,z⟩;have D:=r.out.of_block (z.block _ r.out.lt);have f2:=D.frozen 2;have f3:=D.frozen 3;have g2:=D.cell (i:=2) CG;have g3:=D.cell (i:=3) CG;have a7:=D.lt;have g:=aa ((D.set 2 (.int .i64 st)).set 3 (.bool en));clear D)
 generalize hV:World.setCell (World.setCell w2 _ _) _ _=V;rw [hV] at g;have aI:ag (fun k=>k=w.heap.size) w2 V:=by
  rw [<-hV];exact ((ag.refl (fun k=>k=w.heap.size) w2).setCell (p:=⟨w.heap.size,2,none⟩) (Or.inl rfl) _).setCell (p:=⟨w.heap.size,3,none⟩) (Or.inl rfl) _
 clear hV f2 f3 g2 g3;have F:Cx w w2:=Z.out.trans (z.mono Z.out.size);have ab:Hid (Cx w V):=F.trans (aI.below F.size (fun k hk e=>CG))
 have x0:V.cell? ⟨w.heap.size,0,none⟩=some (.pointer (some ⟨KT,0,none⟩)):=(g.out.cell (i:=0) CG).trans (by rw [<-b];rfl)
 have x1:V.cell? ⟨w.heap.size,1,none⟩=some (.int .i64 p.start):=(g.out.cell (i:=1) CG).trans (by rw [<-b];rfl)
 have x2:V.cell? ⟨w.heap.size,2,none⟩=some (.int .i64 st):=(g.out.cell (i:=2) CG).trans CI
 have x3:V.cell? ⟨w.heap.size,3,none⟩=some (.bool en):=(g.out.cell (i:=3) CG).trans CI
 have x4:V.cell? ⟨w.heap.size,4,none⟩=some (.slice d.a0 p.CE.length d.c0):=(g.out.cell (i:=4) CG).trans (by rw [<-b];rfl)
 have x5:V.cell? ⟨w.heap.size,5,none⟩=some (.slice d.a1 p.CA.length d.c1):=(g.out.cell (i:=5) CG).trans (by rw [<-b];rfl)
 have x6:V.cell? ⟨w.heap.size,6,none⟩=some (.slice d.a2 p.Cy.length d.c2):=(g.out.cell (i:=6) CG).trans (by rw [<-b];rfl)
 have x7:V.cell? ⟨w.heap.size,7,none⟩=some (.func (.yield l) #[] #[]):=(g.out.cell (i:=7) CG).trans (by rw [<-b];rfl)
 have a8:=aa (RD.out.keep _ _ _ _ HI.out ab.out);have aJ:=aa (HP.out.below ab.out);obtain ⟨fn,tm,bj,bk,hy,J⟩:=RD.out.yield K E V d ⟨p.start,st,en,p.CE,p.CA,p.Cy⟩ a8.out (aJ.out.other st en);unfold dB at hy;dsimp only at hy;have ba:=aa J;have bl:w.heap.size<V.heap.size:=g.out.lt;clear J aI F z Z r g b a7 c0 c1 c2 c3 c4 c5 c6 a6;refine (wpIn_wide (n:=0)).1 ?_
 gi_wp2_with fail
 refine ⟨rfl,RoundIn.mono ba.out ?_⟩;rintro e w3 ⟨bb,rfl,f,L,N⟩;dsimp only
 gi_wp2_with fail
 have ac:Hid (ag K w w3):=(ag.of_below ab.out).trans f;have v:¬ K w.heap.size:=fun hk=>Nat.lt_irrefl _ (aW.out _ hk)
 replace x0:=f.cell x0 v;replace x1:=f.cell x1 v;replace x2:=f.cell x2 v;replace x3:=f.cell x3 v;replace x4:=f.cell x4 v;replace x5:=f.cell x5 v;replace x6:=f.cell x6 v;replace x7:=f.cell x7 v;cases bb
 ·have bc:=aa (N rfl);clear L N v f hy
  go_wp2_with fail
  go_ret
  obtain ⟨C,bd⟩:=aV.out;exact ⟨false,rfl,ac.out,(fun h=>by cases h),fun _=>⟨_,C,by rw [bd,List.append_assoc];rfl,bc.out⟩⟩
 ·obtain ⟨K',aK,ar⟩:=L rfl;have av:=aa aK;have ad:=aa (ar.mono ab.out.size);have ax:=aa (aJ.out.thru f ar);have be:=ai x0;dsimp only at be;clear L N v f hy aK ar;cases en
  ·by_cases A:di p=true
   ·have HE:=aa (aE.out (Or.inr A));have o:=aa (aD.out w3 ax.out.at);rw [A] at o;clear A
    go_wp2_with (go_at_call 132;refine o.out.mono ?_;rintro e w4 ⟨rfl,c⟩)
    go_ret
    exact ⟨true,rfl,ac.out.trans (ag.of_below c),fun _=>⟨K',by rw [HE.out];exact RD.out.keep _ _ _ _ av.out c,ad.out⟩,fun h=>by cases h⟩
   ·have A:di p=false:=by simpa using A
    have aL:=aa A;have o:=aa (aD.out w3 ax.out.at);rw [A] at o;clear A
    go_upto_region 6 with (go_at_call 132;refine o.out.mono ?_;rintro e w4 ⟨rfl,c⟩)
    have ao:st=0:=aG.out (by first | rfl | trivial)
    subst ao;have bf:=aa (RD.out.keep _ _ _ _ av.out c);have aM:=aa (ax.out.below c);have aN:Hid (ag K w w4):=ac.out.trans (ag.of_below c);replace x0:=cell_later c x0;replace x1:=cell_later c x1;replace x2:=cell_later c x2;replace x3:=cell_later c x3;replace x4:=cell_later c x4;replace x5:=cell_later c x5;replace x6:=cell_later c x6;replace x7:=cell_later c x7;have aO:(⟨p.start,0,false,p.CE,p.CA,p.Cy⟩:aw)=p:=by rw [<-Y.out.1,<-Y.out.2]
    have bg:=aa (aX.out (by first | rfl | trivial) aL.out)
    have aP:Hid (∀ u:World,Cx w4 u->Calls prog 133 #[.pointer (some ⟨KT,0,none⟩),.agg #[.int .i64 (au s).CB,.int .i64 (au s).side],.func (.func 135) #[.agg #[.pointer (some ⟨KT,0,none⟩),.int .i64 p.start,.int .i64 0,.bool false,.slice d.a0 p.CE.length d.c0,.slice d.a1 p.CA.length d.c1,.slice d.a2 p.Cy.length d.c2,.func (.yield l) #[] #[]]] #[]] u (dm (fun K2 u2=>Inv K2 (E++evs ps js ss (n+1) p q) u2) (fj Stop (E++evs ps js ss (n+1) p q)) K' u)):=fun u hu=>by
     have h:=aq.out _ K' u (RD.out.keep _ _ _ _ bf.out hu) (aM.out.below hu) aL.out;rw [Y.out.1,Y.out.2] at h;refine h.mono ?_;rintro e u3 ⟨b3,h1,h2,h3,h4⟩;have he:E++[(⟨p.start,0,false,p.CE,p.CA,p.Cy⟩:aw)]++dy ps js ss n p j k (bt (aH js j) k)=E++evs ps js ss (n+1) p q:=by
      rw [bg.out,aO];simp
     refine ⟨b3,h1,h2,fun hb=>?_,fun hb=>?_⟩
     ·obtain ⟨K3,⟨g1,_⟩,g2⟩:=h3 hb;rw [List.take_length,he] at g1;exact ⟨K3,g1,g2⟩
     ·rw [<-he];exact h4 hb
    have bh:Hid (∀ u:World,Cx w4 u->Calls prog 134 #[.agg #[.int .i64 p.start,.int .i64 0,.bool false,.slice d.a0 p.CE.length d.c0,.slice d.a1 p.CA.length d.c1,.slice d.a2 p.Cy.length d.c2]] u fun e w'=>e = .returned (.agg #[.int .i64 s.CB,.int .i64 s.side])/\Cx u w'):=fun u hu=>aU.out u (aM.out.below hu).at
    have aR:Hid (∀ u:World,Calls prog 114 #[.agg #[.int .i64 s.CB,.int .i64 s.side]] u fun e w'=>e = .returned (.agg #[.int .i64 (au s).CB,.int .i64 (au s).side])/\Cx u w'):=fun u=>jm s.CB s.side u
    generalize au s=ah at aP aR;have bm:∀ (fn:Fn) (first cap:Array Value) (w:World),(Instr.makeFunc fn first cap).run prog w = .ok (.func fn first cap) w:=fun _ _ _ _=>rfl
    obtain ⟨S,hS⟩:∃ S:World->Prop,∀ u,S u↔Cx w4 u:=⟨_,fun _=>Iff.rfl⟩
    have aS:=aa hS;have r0:∀ u:an S,World.cell? u.val ⟨w.heap.size,0,none⟩=some (.pointer (some ⟨KT,0,none⟩)):=fun u=>cell_later ((hS u.val).1 u.2) x0
    have r1:∀ u:an S,World.cell? u.val ⟨w.heap.size,1,none⟩=some (.int .i64 p.start):=fun u=>cell_later ((hS u.val).1 u.2) x1
    have r2:∀ u:an S,World.cell? u.val ⟨w.heap.size,2,none⟩=some (.int .i64 0):=fun u=>cell_later ((hS u.val).1 u.2) x2
    have r3:∀ u:an S,World.cell? u.val ⟨w.heap.size,3,none⟩=some (.bool false):=fun u=>cell_later ((hS u.val).1 u.2) x3
    have r4:∀ u:an S,World.cell? u.val ⟨w.heap.size,4,none⟩=some (.slice d.a0 p.CE.length d.c0):=fun u=>cell_later ((hS u.val).1 u.2) x4
    have r5:∀ u:an S,World.cell? u.val ⟨w.heap.size,5,none⟩=some (.slice d.a1 p.CA.length d.c1):=fun u=>cell_later ((hS u.val).1 u.2) x5
    have r6:∀ u:an S,World.cell? u.val ⟨w.heap.size,6,none⟩=some (.slice d.a2 p.Cy.length d.c2):=fun u=>cell_later ((hS u.val).1 u.2) x6
    have r7:∀ u:an S,World.cell? u.val ⟨w.heap.size,7,none⟩=some (.func (.yield l) #[] #[]):=fun u=>cell_later ((hS u.val).1 u.2) x7
    have ay:S w4.drew:=(hS _).2 (CV.drew);have hne:=aQ ay;clear hS aO x0 x1 x2 x3 x4 x5 x6 x7 c;refine bW 8 ay ?_
    (refine ae 0 ?_;intro K hK;go_big_quiet_op;go_big_quiet_on);(refine ae 1 ?_;intro K hK;go_big_quiet_op;go_big_quiet_on);(refine ae 2 ?_;intro K hK;go_big_quiet_op;go_big_quiet_on);(refine ae 3 ?_;intro K hK;go_big_quiet_op;go_big_quiet_on)
    (refine ae 6 ?_;intro K hK;go_big_quiet_op;go_big_quiet_on);(refine ae 7 ?_;intro K hK;go_big_quiet_op;go_big_quiet_on)
    refine az 4 ?_;intro KK hK
    go_wp2_with (go_at_call 134;refine (bh.out _ (CV.drew)).mono ?_;rintro e u2 ⟨rfl,O⟩)
    have z:Cx w4 u2:=CV.drew.trans O;refine hK _ _ (ak ((aS.out _).2 z)) ?_;clear hK KK O;refine az 5 ?_;intro KK hK
    go_wp2_with (go_at_call 114;refine (aR.out _).mono ?_;rintro e u3 ⟨rfl,T⟩)
    have aA:Cx w4 u3:=z.trans (T.mono z.size);refine hK _ _ (ak ((aS.out _).2 aA)) ?_;clear hK KK T r0 r1 r2 r3 r4 r5 r6 r7 ay hne z;have aB:=aa aA;clear aA;refine a9 ?_
    go_wp2_with (go_at_call 133;refine (aP.out _ aB.out).mono ?_;rintro e z3 ⟨b3,rfl,f,L,N⟩)
    go_ret
    exact ⟨b3,rfl,aN.out.thru ad.out ((ag.of_below aB.out).trans f),fun h=>by obtain ⟨K2,h1,h2⟩:=L h;exact ⟨K2,h1,ad.out.trans h2 (Nat.le_trans aN.out.size aB.out.size)⟩,N⟩
  ·have HE:=aa (aE.out (Or.inl rfl))
   go_wp2_with fail
   go_ret
   exact ⟨true,rfl,ac.out,fun _=>⟨K',by rw [HE.out];exact av.out,ad.out⟩,fun h=>by cases h⟩
theorem tY (w0:World)(KT M:Nat)(pa ja sa:Option Addr)(pc jc sc:Nat)(ps:List af)(js:List aj)(ss:List af)(R:Hid (bo ps js ss))(hT:Hid (cB w0 KT M pa ja sa pc jc sc ps js ss))
  (l:Nat) (Inv:(Nat->Prop)->List aw->World->Prop) (Stop:List aw->World->Prop) (RD:Hid (nH w0 l Inv Stop)):∀ n,pO KT l ps js ss Inv Stop n
 | 0=>fun _ _ _ _ _ _ _ _ _ _ a hn _ _=>by
  have:=a.few;omega
 | n+1=>zE w0 KT M pa ja sa pc jc sc ps js ss R hT l Inv Stop RD n (tY w0 KT M pa ja sa pc jc sc ps js ss R hT l Inv Stop RD n)
def BH (Inv:(Nat->Prop)->List aw->World->Prop)(Stop:List aw->World->Prop)(E:List aw)(K:Nat->Prop)(w:World)(e:Ending)(w':World):Prop:=
 (∃ v,e = .returned v)/\ag K w w'/\((∃ K',Inv K' E w'/\dP K K' w)\/fj Stop E w')
theorem oC {m:Nat}(hm:m<ss.length):cb ps js ss (m+1)=cb ps js ss m++evs ps js ss (cI ps) (j6 m ss[m]) ss[m].CD:=by
 rw [cb,List.getElem?_eq_getElem hm]
theorem pV (ps:List af)(js:List aj)(ss:List af):∀ (k m:Nat),∃ F,cb ps js ss (m+k)=cb ps js ss m++F
 | 0,m=>⟨[],CI⟩
 | k+1,m=>by
  obtain ⟨F,hF⟩:=pV ps js ss k m;rw [show m+(k+1)=(m+k)+1 from rfl,cb,hF,List.append_assoc]
  exact ⟨_,rfl⟩
theorem fj.more {Stop:List aw->World->Prop}{A:List aw}{u:World}(h:fj Stop A u)(B:List aw):fj Stop (A++B) u:=by
 obtain ⟨E1,E2,h1,h2⟩:=h;exact ⟨E1,E2++B,by rw [h1,List.append_assoc],h2⟩
theorem vQ {K:Nat->Prop}{b:Nat}{s:aM}(hb:¬ K b)(c0:w.cell? ⟨b,0,none⟩=some (.int .i64 s.CB))(c1:w.cell? ⟨b,1,none⟩=some (.int .i64 s.side)):
  dL K w ⟨some ⟨b,0,none⟩,1,none,0,none,0⟩ (aF i ([]++[s]) [] []):=by
 intro u hu;have d0:=hu.cell c0 hb;have d1:=hu.cell c1 hb;refine ⟨⟨by unfold maxLen;simp [aF],Or.inr ⟨b,0,rfl,fun i hi=>?_⟩⟩,⟨by simp [aF],Or.inl rfl⟩,⟨by simp [aF],Or.inl rfl⟩,(fun h=>by cases h),fun _=>⟨rfl,rfl⟩,fun _=>⟨rfl,rfl⟩,Nat.le_refl _⟩
 have:i=0:=by simp [aF] at hi;exact hi
 subst this;exact ⟨d0,d1⟩
theorem AU (w0:World)(KT M:Nat)(pa ja sa:Option Addr)(pc jc sc:Nat)(ps:List af)(js:List aj)(ss:List af)(R:Hid (bo ps js ss))(hT:Hid (cB w0 KT M pa ja sa pc jc sc ps js ss))
  (l:Nat) (Inv:(Nat->Prop)->List aw->World->Prop) (Stop:List aw->World->Prop) (RD:Hid (nH w0 l Inv Stop)) (K:Nat->Prop) (w:World) (hI:Hid (Inv K [] w)) :
  Calls prog 82 #[.pointer (some ⟨KT,0,none⟩),.func (.yield l) #[] #[]] w (BH Inv Stop (cb ps js ss ss.length) K w):=by
 have O:=R.out.ns;have i:=RD.out.base _ _ _ hI.out;have HB:Hid (∀ u:World,Cx w0 u->cB u KT M pa ja sa pc jc sc ps js ss):=fun u hu=>hT.out.below hu
 have c2:=(HB.out w i).net.c2;have hK:=ai c2;dsimp only at hK;have v:=aa (tY w0 KT M pa ja sa pc jc sc ps js ss R hT l Inv Stop RD (cI ps));clear i;have z:∀ (fn:Fn) (x y:Array Value) (ad:Addr) (u:World),(store ad (.func fn x y)).run prog u=stored prog u ad (.func fn x y) .plain:=fun _ _ _ ad u=>run_store prog u ad _ _ rfl
 go_enter func82,ntmps82
 go_wp2_with fail
 clear c2
 go_loopw [13] (fun c wr => ∃ (m:Nat) (K':Nat->Prop),m<=ss.length/\c = .int .i64 m/\Hid (Inv K' (cb ps js ss m) wr)/\Hid (ag K w wr)/\Hid (dP K K' w)) (fun c _=>ss.length-(intOf c).toNat)
 case atStart=>exact ⟨0,K,Nat.zero_le _,rfl,hI,ag.refl _ _,dP.refl _ _⟩
 case round =>
  obtain ⟨m,K',hm,rfl,HI,HO,HG⟩:=hrel;have A:=HO.out.size
  by_cases b:m<ss.length
  ·have B:(m:Int)<ss.length:=CG
   have j:=RD.out.base _ _ _ HI.out;have C:=aa (RD.out.lt _ _ _ HI.out);have D:=aa (HB.out wr j);obtain ⟨bs,os,rfl,a⟩:=D.out.net.S.2.2.resolve_left (nz b);obtain ⟨s0,s1,s2,s3⟩:=a m b;have E:=ai s0;dsimp only at E;have k:=ck.begin R.out b;obtain ⟨sg,n⟩:∃ sg,ss[m]=sg:=⟨_,rfl⟩;have o:=aa k;have p:Hid (cb ps js ss (m+1)=cb ps js ss m++evs ps js ss (cI ps) (j6 m ss[m]) ss[m].CD):=oC b;rw [n] at s0 s1 s2 s3 o p;clear a k j n
   go_upto_region 5 with fail
   generalize hV:World.alloc (World.alloc (World.alloc (World.alloc wr _) _) _) _=V;have d:Cx wr V:=by rw [<-hV];exact blo
   have g1:V.cell? ⟨wr.heap.size,1,none⟩=some (.int .i64 sg.len):=by rw [<-hV];simp [go_sem]
   have g2:V.cell? ⟨wr.heap.size,2,none⟩=some (.int .i64 sg.CD):=by rw [<-hV];simp [go_sem]
   have t0:V.cell? ⟨wr.heap.size+1,0,none⟩=some (.int .i64 sg.len):=by rw [<-hV];simp [go_sem]
   have t1:V.cell? ⟨wr.heap.size+1,1,none⟩=some (.int .i64 sg.CC):=by rw [<-hV];simp [go_sem]
   have x0:V.cell? ⟨wr.heap.size+1+1+1,0,none⟩=some (.pointer (some ⟨KT,0,none⟩)):=by rw [<-hV];simp [go_sem]
   have x1:V.cell? ⟨wr.heap.size+1+1+1,1,none⟩=some (.int .i64 (m:Int)):=by rw [<-hV];simp [go_sem]
   have x2:V.cell? ⟨wr.heap.size+1+1+1,2,none⟩=some (.int .i64 0):=by rw [<-hV];simp [go_sem]
   have x3:V.cell? ⟨wr.heap.size+1+1+1,3,none⟩=some (.bool false):=by rw [<-hV];simp [go_sem]
   have x4:V.cell? ⟨wr.heap.size+1+1+1,4,none⟩=some (.slice (some ⟨wr.heap.size+1,0,none⟩) 1 1):=by rw [<-hV];simp [go_sem]
   have x5:V.cell? ⟨wr.heap.size+1+1+1,5,none⟩=some (.slice none 0 0):=by rw [<-hV];simp [go_sem]
   have x6:V.cell? ⟨wr.heap.size+1+1+1,6,none⟩=some (.slice none 0 0):=by rw [<-hV];simp [go_sem]
   have x7:V.cell? ⟨wr.heap.size+1+1+1,7,none⟩=some (.func (.yield l) #[] #[]):=by rw [<-hV];simp [go_sem]
   have T:wr.heap.size+1+1+1<V.heap.size:=by rw [<-hV];simp
   have G:Hid (dL K' V ⟨some ⟨wr.heap.size+1,0,none⟩,1,none,0,none,0⟩ (aF m ([]++[⟨sg.len,sg.CC⟩]) [] [])):=vQ (fun hk=>by have h1:=C.out _ hk;omega) t0 t1
   have H:Hid (Calls prog 111 #[.agg #[.pointer (some ⟨KT,0,none⟩),.int .i64 (m:Int),.int .i64 0,.bool false,.slice (some ⟨wr.heap.size+1,0,none⟩) 1 1,.slice none 0 0,.slice none 0 0,.func (.yield l) #[] #[]],.int .i64 sg.CD] V (dm (fun K2 u=>Inv K2 (cb ps js ss (m+1)) u) (fj Stop (cb ps js ss (m+1))) K' V)):=by
    unfold Hid;rw [p.out];exact v.out m [] ⟨sg.len,sg.CC⟩ [] [] sg.CD ⟨some ⟨wr.heap.size+1,0,none⟩,1,none,0,none,0⟩ K' (cb ps js ss m) V o.out (by unfold cI;simp) (RD.out.keep _ _ _ _ HI.out d) G.out
   have q:=aa d;clear hV d t0 t1 s0 s1 s2 s3 z
   go_upto_if 34 with (go_at_call 111;refine H.out.mono ?_;rintro e w3 ⟨bb,rfl,f,g,h⟩)
   have r:Hid (ag K w w3):=HO.out.thru HG.out ((ag.of_below q.out).trans f);cases bb
   ·have I:=aa (h rfl);clear g h f x0 x1 x2 x3 x4 x5 x6 x7 g1 g2
    go_wp2_with fail
    refine bodyPost_ret (results_none rfl _ _ _) rfl ⟨⟨_,rfl⟩,r.out,Or.inr ?_⟩;obtain ⟨F,hF⟩:=pV ps js ss (ss.length-(m+1)) (m+1);have he:m+1+(ss.length-(m+1))=ss.length:=CG
    rw [he] at hF;rw [hF];exact I.out.more F
   ·obtain ⟨K2,s,t⟩:=g rfl;have J:=aa s;have L:Hid (dP K K2 w):=HG.out.trans t (Nat.le_trans A q.out.size);clear g h f s t x0 x1 x2 x3 x4 x5 x6 x7 g1 g2
    go_wp2_with fail
    go_roundw
    case rel=>exact ⟨m+1,K2,CG,by go_num,J,r,L⟩
    case measure=>simp [intOf];omega
  ·have N:m=ss.length:=CG
   have B:¬ (m:Int)<ss.length:=CG
   subst N
   go_wp2_with fail
   exact bodyPost_end (results_none rfl _ _ _) rfl ⟨⟨_,rfl⟩,HO.out,Or.inl ⟨K',HI.out,HG.out⟩⟩
theorem zu {n:Nat}{g:Operand}{ps:Array Tmp}{assign body:Code}{Q:Exit->Act->World->Prop}(gf:Nat)(first:Array Value)(hg:a.eval g = .func (.func gf) first #[])(eg:∀ args w,(callFunc gf args).run P w = .ok (.enter gf args) w)
  (h:∀ (fn:FuncId) (rec:LoopState->Option Code->Loop),(rec=fun st pe=>{ state:=st,pending:=pe,fn,tmps:=a.tmps,params:=ps,assign,body,defers:=w.heap.size }) ->
   CallsIn Fence.wide (n-1) P gf (first ++ #[.func (.yield (w.heap.size+1)) #[] #[]]) ((w.alloc (.deferred (some []))).alloc (.loop (rec .ready none))) (rangePost Fence.wide n P (w.heap.size+1) Q { a with defers:=[{ target:=.collected w.heap.size,args:=#[] }]++a.defers })) :
  (Code.rangeFunc g ps assign body).wpIn Fence.wide n P Q a w:=by
 refine wpIn_rangeFunc ?_;intro fn _;obtain ⟨rec,b⟩:∃ rec:LoopState->Option Code->Loop,rec=fun st pe=>{ state:=st,pending:=pe,fn,tmps:=a.tmps,params:=ps,assign,body,defers:=w.heap.size }:=⟨_,rfl⟩
 have h1:=h fn rec b;have he:(Instr.enterLoop fn a.tmps ps assign body Fence.wide.round).run P w = .ok (w.heap.size+1,[{ target:=.collected w.heap.size,args:=#[] }]) ((w.alloc (.deferred (some []))).alloc (.loop (rec .ready none))):=by
  have h0:Fence.wide.round=none:=rfl;rw [b,h0];exact run_enterLoop_outer _ _ _ _ _
 obtain ⟨W1,c⟩:∃ W1,(w.alloc (.deferred (some []))).alloc (.loop (rec .ready none))=W1:=⟨_,rfl⟩;rw [c] at h1 he;refine ⟨w.heap.size+1,[{ target:=.collected w.heap.size,args:=#[] }],W1,{ target:=.fn (.func gf) #[],args:=first ++ #[.func (.yield (w.heap.size+1)) #[] #[]] },W1,gf,first ++ #[.func (.yield (w.heap.size+1)) #[] #[]],W1,he,?_,?_,?_,?_,?_⟩
 ·simp only [resolve,hg];simp [go_sem]
 ·intro _ _
  trivial
 ·simp [invoke,go_sem,eg]
 ·intro h;cases h
 ·exact h1
def tP (x:cH × aw):List Value:=[.int .i64 x.2.start,.int .i64 x.2.stop,.bool x.2.ended,.slice x.1.a0 x.2.CE.length x.1.c0,.slice x.1.a1 x.2.CA.length x.1.c1,.slice x.1.a2 x.2.Cy.length x.1.c2]
def jB (xs:List (cH × aw)):List Value:=xs.flatMap tP
theorem wR (xs:List (cH × aw))(x:cH × aw):jB xs++tP x=jB (xs++[x]):=by simp [jB]
structure jx (w0:World)(l D A B C bs:Nat)(rec:LoopState->Option Code->Loop)(K:Nat->Prop)(E:List aw)(W:World):Prop where
 below:Cx w0 W
 loop:W.heap[l]? = some (.loop (rec .ready none))
 dfr:W.heap[D]? = some (.deferred (some []))
 come:W.rowIs C 3 1 (fun _=>.int .i64 (E.length:Int))
 res:W.rowIs B 91 1 (fun _=>.slice none 0 0)
 own:∃ (x:Option Addr) (y:Nat) (xs:List (cH × aw)),W.rowIs A 91 1 (fun _=>.slice x xs.length y)/\W.ownsRow bs 94 6 (.slice x xs.length y) xs.length (jB xs)/\xs.map Prod.snd=cd E/\(∀ q ∈ xs,dL K W q.1 q.2) /\
  ∀ k,K k↔k=l\/k=D\/k=A\/k=B\/k=C\/(Value.slice x xs.length y).ownBlock=some k
 few:E.length<=20000/\(cd E).length<=300
 low:w0.heap.size<=B/\B<A/\A<C/\C<D/\D<l/\l<bs
structure n7 (w0:World)(l D B:Nat)(rec:LoopState->Option Code->Loop)(E:List aw)(W:World):Prop where
 below:Cx w0 W
 loop:W.heap[l]? = some (.loop (rec .done (some .ret)))
 dfr:W.heap[D]? = some (.deferred (some []))
 res:W.rowIs B 91 1 (fun _=>.slice none 0 0)
 past:20000<E.length\/300<(cd E).length
theorem bR {o:Obj}(h:w.heap[k]? = some o):k<w.heap.size:=(Array.getElem?_eq_some_iff.1 h).1
theorem jx.lt {rec:LoopState->Option Code->Loop}{K:Nat->Prop}(h:jx w0 l D A B C bs rec K E W):∀ k,K k->k<W.heap.size:=by
 intro k hk;obtain ⟨x,y,xs,h1,h2,_,_,h5⟩:=h.own;rcases (h5 k).1 hk with rfl | rfl | rfl | rfl | rfl | hk
 ·exact bR h.loop
 ·exact bR h.dfr
 ·exact h1.lt
 ·exact h.res.lt
 ·exact h.come.lt
 ·exact (h2.lt k hk).2
theorem jx.keep {rec:LoopState->Option Code->Loop}{K:Nat->Prop}{W':World}(h:jx w0 l D A B C bs rec K E W)(hb:Cx W W'):jx w0 l D A B C bs rec K E W':=by
 obtain ⟨x,y,xs,h1,h2,h3,h4,h5⟩:=h.own;exact ⟨h.below.trans (hb.mono h.below.size),(hb.block _ (bR h.loop)).trans h.loop,(hb.block _ (bR h.dfr)).trans h.dfr,h.come.of_block (hb.block _ h.come.lt),h.res.of_block (hb.block _ h.res.lt),
  ⟨x,y,xs,h1.of_block (hb.block _ h1.lt),aq h2 hb,h3,fun q hq=>(h4 q hq).below hb,h5⟩,h.few,h.low⟩
theorem n7.keep {rec:LoopState->Option Code->Loop}{W':World}(h:n7 w0 l D B rec E W)(hb:Cx W W'):n7 w0 l D B rec E W':=
 ⟨h.below.trans (hb.mono h.below.size),(hb.block _ (bR h.loop)).trans h.loop,(hb.block _ (bR h.dfr)).trans h.dfr,h.res.of_block (hb.block _ h.res.lt),h.past⟩
theorem mP (w:World)(base:Nat)(t ty e:TypeId)(i:TypeInfo)(z:Value)(size bytes:Nat)(ht:P.underlying t=some (.slice e))(hi:P.info? e=some i)(hz:i.zero=some z)(hsize:i.size=size)(hby:i.bytes=bytes)(hzs:z.cells.size=size)(hsz:0<size)
  (v:Value) (n:Nat) (xs:List Value) (hown:w.ownsRow base e size v n xs) (a:Addr) (m c:Nat) (news:List Value) (hl:news.length=m*size) (hnews:∀ j u,news[j]? = some u->w.cell? (a.add j)=some u) (h1:∀ u ∈ news,u.oneCell'=true)
  (h63:n+m<=maxLen) (hbytes:(n+m)*bytes<=140737488355328) (hbase:base<=w.heap.size) :
  ∃ v' w',(Builtin.append_ #[t,t] ty #[v,.slice (some a) m c]).run P w = .ok v' w'/\w'.ownsRow base e size v' (n+m) (xs++news)/\w.grownBy w' v.ownBlock/\∀ k,v'.ownBlock=some k->v.ownBlock=some k\/w.heap.size<=k:=by
 have l:n+m<=9223372036854775807:=by simp only [maxLen] at h63;omega
 rcases hown.2 with ⟨hv,hn⟩ | ⟨g,b,o,hv,q,hg,r,s,x,p⟩
 ·have d:w.ownsRow w.heap.size e size v n xs:=⟨hown.1,Or.inl ⟨hv,hn⟩⟩;obtain ⟨v',w',r1,r2,r3,_⟩:=run_append_own (P:=P) w w.heap.size t ty e i z size bytes ht hi hz hsize hby hzs hsz v n xs d a m c news hl hnews h1 h63 hbytes CW;exact ⟨v',w',r1,⟨r2.1,r2.2.imp id fun ⟨g,b,o,q1,q2,q3⟩=>⟨g,b,o,q1,Nat.le_trans hbase q2,q3⟩⟩,r3,fun k hk=>Or.inr (r2.lt k hk).1⟩
 ·subst hv
  by_cases f:n+m<=b
  ·obtain ⟨w',r1,r2,r3⟩:=run_append_fits (P:=P) w base t ty e i size ht hi hsize g n b xs hown a m c news hl hnews h1 f;exact ⟨_,w',r1,r2,r3,fun k hk=>Or.inl hk⟩
  ·obtain ⟨v',w',r1,r2,r3,_⟩:=run_append_own (P:=P) w base t ty e i z size bytes ht hi hz hsize hby hzs hsz _ n xs hown a m c news hl hnews h1 h63 hbytes hbase;have h:∀ j u,xs[j]? = some u->w.cell? ((⟨g,0,none⟩:Addr).add j)=some u:=hown.cells (g:=g) rfl;have hr:=run_append_grow (P:=P) w t ty e i z ht hi hz ⟨g,0,none⟩ n b xs (by rw [hsize];exact hown.1) h a m c news (by rw [hsize];exact hl) hnews CG CG (by rw [hby];exact growslice_fits CG hbytes)
   rw [hr] at r1;injection r1 with q1 q2;refine ⟨v',w',by rw [hr,q1,q2],r2,r3,fun k hk=>Or.inr ?_⟩
   rw [<-q1] at hk;injection hk with hk;exact Nat.le_of_eq hk
theorem lp {F:Fence}{m0:Nat}(w:World){ops:Array Oper}{rest:List Oper}{o:Oper}{Q:Exit->Act->World->Prop}
  (hg:o.guard=none) (s x:Operand) (t:TypeId) (hop:o.op=Op.call { callee:=Callee.builtin Builtin.append,args:=#[s,x],argTypes:=#[t,t] })
  (base:Nat) (e:TypeId) (z:Value) (size bytes:Nat) (h1:P.underlying t=some (.slice e)) (hi:(P.info? e).map (fun i=>(i.zero,i.size,i.bytes))=some (some z,size,bytes)) (h6:z.cells.size=size) (h7:0<size)
  (v:Value) (k:Nat) (xs:List Value) (hs:a.eval s=v) (hown:w.ownsRow base e size v k xs) (ad:Addr) (c:Nat) (news:List Value) (hx:a.eval x = .slice (some ad) 1 c) (hn:news.length=size)
  (hc:∀ j u,news[j]? = some u->w.cell? (ad.add j)=some u) (h1c:∀ u ∈ news,u.oneCell'=true) (b1:k+1<=maxLen) (b2:(k+1)*bytes<=140737488355328) (b3:base<=w.heap.size)
  (hK:∀ x' y' w',w'.ownsRow base e size (.slice x' (k+1) y') (k+1) (xs++news)->w.grownBy w' v.ownBlock->(∀ b,(Value.slice x' (k+1) y').ownBlock=some b->v.ownBlock=some b\/w.heap.size<=b)->wpListIn F m0 P ops Q rest (a.put o.dst (.slice x' (k+1) y')) w') :
  wpListIn F m0 P ops Q (o::rest) a w:=by
 refine wpListIn_plain hg fun K f=>?_
 obtain ⟨i,h2,h3,h4,h5⟩:=info_parts hi;obtain ⟨v',w',d,r1,r2,r3⟩:=mP (P:=P) w base t o.type e i z size bytes h1 h2 h3 h4 h5 h6 h7 v k xs hown ad 1 c news CG hc h1c b1 b2 b3
 obtain ⟨x',y',e1,_⟩:=ba r1;subst e1;unfold Oper.wpIn;refine ⟨?_,?_⟩
 ·simp [Oper.about,hop,resolve,Target.leads,Sem.run_pure]
 ·rw [Oper.semAt_plain F _ _ (by rw [hop];intro c g;cases g)]
  simp [execOp,hop,resolve,invoke,builtin,hs,hx,d,Result.andThen];exact f _ _ (hK x' y' w' r1 r2 r3)
theorem Tryz.infoPath:(prog.info? 94).map (fun i=>(i.zero,i.size,i.bytes))=some (some (.agg #[.int .i64 0,.int .i64 0,.bool false,.slice none 0 0,.slice none 0 0,.slice none 0 0]),6,96):=CH
theorem mC {F:Fence}{m0:Nat}{Wp:World}{ops:Array Oper}{rest:List Oper}{o:Oper}{Q:Exit->Act->World->Prop}(hg:o.guard=none)(s x:Operand)(t:TypeId)
  (hop:o.op=Op.call { callee:=Callee.builtin Builtin.append,args:=#[s,x],argTypes:=#[t,t] })
  (base:Nat) (e:TypeId) (z:Value) (size bytes:Nat) (h1:P.underlying t=some (.slice e)) (hi:(P.info? e).map (fun i=>(i.zero,i.size,i.bytes))=some (some z,size,bytes)) (h6:z.cells.size=size) (h7:0<size)
  (v:Value) (k:Nat) (xs:List Value) (hs:a.eval s=v) (hown:Wp.ownsRow base e size v k xs) (g:Nat) (hgs:g=Wp.heap.size) (news:List Value) (hx:a.eval x = .slice (some ⟨g,0,none⟩) 1 1) (hn:news.length=size)
  (h1c:∀ u ∈ news,u.oneCell'=true) (b1:k+1<=maxLen) (b2:(k+1)*bytes<=140737488355328) (b3:base<=Wp.heap.size)
  (hK:∀ x' y' w',w'.ownsRow base e size (.slice x' (k+1) y') (k+1) (xs++news)->Wp.grownBy w' v.ownBlock->(∀ b,(Value.slice x' (k+1) y').ownBlock=some b->v.ownBlock=some b\/Wp.heap.size<=b)->wpListIn F m0 P ops Q rest (a.put o.dst (.slice x' (k+1) y')) w') :
  wpListIn F m0 P ops Q (o::rest) a (Wp.alloc (.cells news.toArray e)):=by
 subst hgs;refine lp _ hg s x t hop base e z size bytes h1 hi h6 h7 v k xs hs (hown.alloc _) ⟨Wp.heap.size,0,none⟩ 1 news hx hn ?_ h1c b1 b2 CN ?_
 ·intro j u hu;rw [bH,Nat.zero_add];have:=cell_of_row (Wp.alloc (.cells news.toArray e)) Wp.heap.size j news.toArray e (0,0) (heap_alloc_new Wp _);rw [this];simpa using hu
 ·intro x' y' w' r1 r2 r3;refine hK x' y' w' r1 ⟨r2.os,r2.tape,r2.output,Nat.le_trans CI r2.size,fun k hk hne=>?_⟩ (fun b hb=>(r3 b hb).imp id (fun h=>Nat.le_trans CI h))
  exact (r2.block k CN hne).trans (Below.heap_alloc _ _ _ hk)
theorem gZ {b T:Nat}{f:Nat->Value}{v:Value}(h:w.rowIs b T 1 f)(hv:f 0=v):w.rowIs b T 1 (fun _=>v):=by
 obtain ⟨c,h1,h2,h3⟩:=h;refine ⟨c,h1,h2,fun i hi=>?_⟩
 have:i=0:=CG
 subst this;rw [h3 0 hi,hv]
theorem oI (E:List aw)(p:aw):cd (E++[p])=cd E++(if p.ended=true then [p] else []):=by
 rw [iL];unfold cd
 by_cases h:p.ended=true
 ·simp [h]
 ·simp [h]
theorem ul {rec:LoopState->Option Code->Loop}{K:Nat->Prop}{Wn:World}(hI:jx w0 l D A B C bs rec K E W)(hrec:∀ st pe,({ rec .ready none with state:=st,pending:=pe }:Loop)=rec st pe)
  (hl:Wn.heap[l]? = some (.loop { rec .ready none with state:=.busy })) (hO:ag K W Wn) (hC:Wn.rowIs C 3 1 (fun _=>.int .i64 ((E.length+1:Nat):Int)))
  (hown:∃ (x:Option Addr) (y:Nat) (xs:List (cH × aw)),Wn.rowIs A 91 1 (fun _=>.slice x xs.length y)/\Wn.ownsRow bs 94 6 (.slice x xs.length y) xs.length (jB xs)/\xs.map Prod.snd=cd (E++[p])/\(∀ q ∈ xs,dL K W q.1 q.2)/\∀ k,(Value.slice x xs.length y).ownBlock=some k->K k\/W.heap.size<=k)
  (hB:Wn.rowIs B 91 1 (fun _=>.slice none 0 0)) (hD:Wn.heap[D]? = some (.deferred (some []))) (hf:E.length+1<=20000/\(cd (E++[p])).length<=300) (Sx:World->Prop) :
  ∃ v w',(Instr.endRound l none).run prog Wn = .ok v w'/\dm (fun K' u=>jx w0 l D A B C bs rec K' (E++[p]) u) Sx K W (.returned v) w':=by
 refine ⟨_,_,run_endRound none hl,?_⟩;have f:=bR hl;have b:=hI.low;obtain ⟨x,y,xs,g1,g2,g3,g4,g5⟩:=hown;obtain ⟨x0,y0,m,_,k2,_,_,k5⟩:=hI.own;have g:K l:=(k5 l).2 (Or.inl rfl);generalize c:Wn.putObj l _=w';have a:ag (fun k=>k=l) Wn w':=by
  rw [<-c];exact ag.of_grown (grownBy_putObj' _ _ _) (fun k e=>by cases e;rfl)
 have i:w'.heap[l]? = some (.loop (rec .ready none)):=by
  rw [<-c];refine (World.putObj_heap_same f).trans ?_;congr 2;exact hrec .ready none
 clear c;have d:ag K W w':=hO.trans (a.mono (fun k hk=>by subst hk;exact g))
 have hG:dP K (fun k=>k=l\/k=D\/k=A\/k=B\/k=C\/(Value.slice x xs.length y).ownBlock=some k) W:=by
  intro k hk;rcases hk with h | h | h | h | h | h
  ·exact Or.inl ((k5 k).2 (Or.inl h))
  ·exact Or.inl ((k5 k).2 (Or.inr (Or.inl h)))
  ·exact Or.inl ((k5 k).2 (Or.inr (Or.inr (Or.inl h))))
  ·exact Or.inl ((k5 k).2 (Or.inr (Or.inr (Or.inr (Or.inl h)))))
  ·exact Or.inl ((k5 k).2 (Or.inr (Or.inr (Or.inr (Or.inr (Or.inl h))))))
  ·exact g5 k h
 have j:∀ k,K k->w0.heap.size<=k:=by
  intro k hk;rcases (k5 k).1 hk with h | h | h | h | h | h
  ·omega
  ·omega
  ·omega
  ·omega
  ·omega
  ·have:=(k2.lt k h).1;omega
 refine ⟨true,rfl,d,fun _=>⟨_,?_,hG⟩,fun h=>by cases h⟩
 refine ⟨hI.below.trans (d.below hI.below.size (fun k hk e=>by have:=j k e;omega)),i,(a.block _ (bR hD) (by show ¬ D=l;omega)).trans hD,?_,hB.of_block (a.block _ hB.lt (by show ¬ B=l;omega)),⟨x,y,xs,g1.of_block (a.block _ g1.lt (by show ¬ A=l;omega)),cA g2 a (fun k hk=>CG),g3,fun q hq=>(g4 q hq).thru d hG,fun k=>Iff.rfl⟩,⟨by simpa using hf.1,hf.2⟩,b⟩
 have:=hC.of_block (a.block _ hC.lt (by show ¬ C=l;omega))
 simpa using this
theorem nI {rec:LoopState->Option Code->Loop}{K:Nat->Prop}{Wn:World}(hI:jx w0 l D A B C bs rec K E W)(hrec:∀ st pe,({ rec .ready none with state:=st,pending:=pe }:Loop)=rec st pe)
  (hl:Wn.heap[l]? = some (.loop { rec .ready none with state:=.busy })) (hO:ag K W Wn)
  (hB:Wn.rowIs B 91 1 (fun _=>.slice none 0 0)) (hD:Wn.heap[D]? = some (.deferred (some []))) (hf:20000<E.length+1\/300<(cd (E++[p])).length) (J:(Nat->Prop)->World->Prop) :
  ∃ v w',(Instr.endRound l (some .ret)).run prog Wn = .ok v w'/\dm J (fun u=>n7 w0 l D B rec (E++[p]) u) K W (.returned v) w':=by
 refine ⟨_,_,run_endRound (some .ret) hl,?_⟩;have d:=bR hl;have f:=hI.low;obtain ⟨x1,y1,m,_,j2,_,_,k5⟩:=hI.own;have g:K l:=(k5 l).2 (Or.inl rfl);generalize a:Wn.putObj l _=w';have b:ag (fun k=>k=l) Wn w':=by
  rw [<-a];exact ag.of_grown (grownBy_putObj' _ _ _) (fun k e=>by cases e;rfl)
 have i:w'.heap[l]? = some (.loop (rec .done (some .ret))):=by
  rw [<-a];refine (World.putObj_heap_same d).trans ?_;congr 2;exact hrec .done (some .ret)
 clear a;have c:ag K W w':=hO.trans (b.mono (fun k hk=>by subst hk;exact g))
 have j:∀ k,K k->w0.heap.size<=k:=by
  intro k hk;rcases (k5 k).1 hk with h | h | h | h | h | h
  ·omega
  ·omega
  ·omega
  ·omega
  ·omega
  ·have:=(j2.lt k h).1;omega
 refine ⟨false,rfl,c,(fun h=>by cases h),fun _=>⟨hI.below.trans (c.below hI.below.size (fun k hk e=>by have:=j k e;omega)),i,(b.block _ (bR hD) (by show ¬ D=l;omega)).trans hD,hB.of_block (b.block _ hB.lt (by show ¬ B=l;omega)),?_⟩⟩
 simpa using hf
def ix (w:World)(v:Value)(L:List aw):Prop:=
 ∃ (x:Option Addr) (y:Nat) (xs:List (cH × aw)),v = .slice x xs.length y/\xs.map Prod.snd=L /\
  (xs=[]\/∃ b,x=some ⟨b,0,none⟩/\∀ i (h:i<xs.length) j u,(tP xs[i])[j]? = some u->w.cell? ⟨b,i*6+j,none⟩=some u)/\∀ q ∈ xs,bI w q.1 q.2
theorem ix.nil (w:World):ix w (.slice none 0 0) []:=⟨none,0,[],rfl,rfl,Or.inl rfl,fun q hq=>by cases hq⟩
theorem AE (x:cH × aw):(tP x).length=6:=rfl
theorem ix.of_own {e:Nat}{x:Option Addr}{y:Nat}{xs:List (cH × aw)}(h:w.ownsRow B e 6 (.slice x xs.length y) xs.length (jB xs))(hp:∀ q ∈ xs,bI w q.1 q.2):ix w (.slice x xs.length y) (xs.map Prod.snd):=by
 refine ⟨x,y,xs,rfl,rfl,?_,hp⟩;rcases h.2 with ⟨h1,h2⟩ | ⟨g,a,b,h1,_⟩
 ·exact Or.inl (List.eq_nil_of_length_eq_zero h2)
 ·injection h1 with h1;refine Or.inr ⟨g,h1,fun i hi j u hu=>?_⟩
  have hj:j<6:=by rw [<-AE xs[i]];exact (List.getElem?_eq_some_iff.1 hu).1
  subst h1;have hc:=h.cells rfl (i*6+j) u;rw [bH,Nat.zero_add] at hc;refine hc ?_;have:=aZ tP 6 (fun _=>rfl) xs i j hi hj
  rw [<-hu];exact this
abbrev xP (ps:List af)(js:List aj)(ss:List af):Prop:=(cb ps js ss ss.length).length<=20000/\(cd (cb ps js ss ss.length)).length<=300
def gM (ps:List af)(js:List aj)(ss:List af):List aw:=if xP ps js ss then cd (cb ps js ss ss.length) else []
theorem qN (KT M:Nat)(pa ja sa:Option Addr)(pc jc sc:Nat)(ps:List af)(js:List aj)(ss:List af)(R:Hid (bo ps js ss))(w:World)(hT:Hid (cB w KT M pa ja sa pc jc sc ps js ss)):
  Calls prog 39 #[.pointer (some ⟨KT,0,none⟩)] w (fun e w' => ∃ v,e = .returned v/\ix w' v (gM ps js ss)/\Cx w w'):=by
 have aX:∀ (fn:Fn) (first cap:Array Value) (w:World),(Instr.makeFunc fn first cap).run prog w = .ok (.func fn first cap) w:=fun _ _ _ _=>rfl
 refine (callsIn_wide (n:=0)).1 (callsIn_of_wp_marks func39 rfl trivial ?_);simp only [ntmps39,List.size_toArray,List.length_cons,List.length_nil,Nat.reduceAdd,Nat.reduceSub,Array.replicate_succ,Array.replicate_zero,List.push_toArray,List.append_toArray,List.nil_append,List.cons_append]
 gi_wp2_with fail
 generalize hW:World.alloc (World.alloc (World.alloc w _) _) _=W;have az:Hid (Cx w W):=by rw [<-hW];exact blo
 have hz:W.heap.size=w.heap.size+1+1+1:=by rw [<-hW];simp
 have HC:Hid (W.rowIs (w.heap.size+1+1) 3 1 (fun _=>.int .i64 0)):=by
  unfold Hid;rw [<-hW];have:=World.rowIs_alloc ((w.alloc (Obj.cells #[Value.slice none 0 0] 91)).alloc (Obj.cells #[Value.slice none 0 0] 91)) #[.int .i64 0] 3 (fun _=>.int .i64 0) (by intro i hi;have F:i<1:=hi;match i,F with | 0,_=>rfl)
  simpa using this
 have HA:Hid (W.rowIs (w.heap.size+1) 91 1 (fun _=>.slice none 0 0)):=by
  unfold Hid;rw [<-hW];have:=World.rowIs_alloc (w.alloc (Obj.cells #[Value.slice none 0 0] 91)) #[.slice none 0 0] 91 (fun _=>.slice none 0 0) (by intro i hi;have F:i<1:=hi;match i,F with | 0,_=>rfl)
  simpa using this.alloc (Obj.cells #[Value.int IntKind.i64 0] 3)
 have HB:Hid (W.rowIs w.heap.size 91 1 (fun _=>.slice none 0 0)):=by
  unfold Hid;rw [<-hW];have:=World.rowIs_alloc w #[.slice none 0 0] 91 (fun _=>.slice none 0 0) (by intro i hi;have F:i<1:=hi;match i,F with | 0,_=>rfl)
  simpa using (this.alloc (Obj.cells #[Value.slice none 0 0] 91)).alloc (Obj.cells #[Value.int IntKind.i64 0] 3)
 clear hW;refine zu 82 #[.pointer (some ⟨KT,0,none⟩)] rfl (fun args u=>CH) ?_
 intro fn b g;generalize G:(W.alloc (.deferred (some []))).alloc (.loop (b .ready none))=W1;have T:Cx W W1:=by rw [<-G];exact blo
 have aA:W1.heap[W.heap.size+1]? = some (.loop (b .ready none)):=by
  rw [<-G];have:=World.alloc_heap_new (W.alloc (.deferred (some []))) (.loop (b .ready none))
  rwa [World.size_alloc] at this
 have aB:W1.heap[W.heap.size]? = some (.deferred (some [])):=by
  rw [<-G];exact (Below.heap_alloc _ _ _ CI).trans (World.alloc_heap_new W _)
 have D:W1.heap.size=W.heap.size+2:=by rw [<-G];simp
 clear G aX;have aC:Hid (jx w (W.heap.size+1) W.heap.size (w.heap.size+1) w.heap.size (w.heap.size+1+1) (W.heap.size+2) b (fun k=>k=W.heap.size+1\/k=W.heap.size\/k=w.heap.size+1\/k=w.heap.size\/k=w.heap.size+1+1) [] W1):=by
  refine ⟨az.out.trans (T.mono az.out.size),aA,aB,HC.out.of_block (T.block _ HC.out.lt),HB.out.of_block (T.block _ HB.out.lt),⟨none,0,[],HA.out.of_block (T.block _ HA.out.lt),⟨rfl,Or.inl ⟨rfl,rfl⟩⟩,rfl,fun q hq=>(by cases hq),fun k=>by simp [Value.ownBlock]⟩,⟨CI,by simp [cd]⟩,CG⟩
 clear HC HA HB aA aB;have HY:Hid (∀ K E W2 d p,jx w (W.heap.size+1) W.heap.size (w.heap.size+1) w.heap.size (w.heap.size+1+1) (W.heap.size+2) b K E W2->dL K W2 d p->YieldAt Fence.wide 0 prog (W.heap.size+1) #[dB d p] W2 (dm (fun K' u=>jx w (W.heap.size+1) W.heap.size (w.heap.size+1) w.heap.size (w.heap.size+1+1) (W.heap.size+2) b K' (E++[p]) u) (fun u=>n7 w (W.heap.size+1) W.heap.size w.heap.size b (E++[p]) u) K W2)):=by
  intro K E W2 d p hI hP;have hy:=run_yield (P:=prog) (args:=#[dB d p]) hI.loop (by rw [g];rfl)
  rw [g] at hy;refine ⟨_,_,_,_,hy,roundIn_of_wpIn trivial ?_⟩;clear hy;have HI:=aa hI;have HP:=aa hP;have HZ:=aa hz;have aD:=aa D;have l:Hid (∀ st pe,({ b .ready none with state:=st,pending:=pe }:Loop)=b st pe):=by
   unfold Hid;rw [g];intro st pe;rfl
  have aE:(b .ready none).state = .ready:=by rw [g]
  clear hI hP hz D aC g;unfold dB;dsimp only;have ht:((#[8]:Array Tmp).zip #[Value.agg #[.int .i64 p.start,.int .i64 p.stop,.bool p.ended,.slice d.a0 p.CE.length d.c0,.slice d.a1 p.CA.length d.c1,.slice d.a2 p.Cy.length d.c2]]).foldl (fun tmps (x:Tmp × Value)=>tmps.setIfInBounds x.1 x.2) (#[Value.pointer (some { block:=KT,off:=0 }),undef,Value.pointer (some { block:=w.heap.size,off:=0 }),Value.pointer (some { block:=w.heap.size+1,off:=0 }),Value.pointer (some { block:=w.heap.size+1+1,off:=0 }),undef,Value.pointer (some { block:=KT,off:=0 }),Value.func (Fn.func 82) #[Value.pointer (some { block:=KT,off:=0 })] #[],undef,undef,undef,undef,undef,undef,undef,undef,undef,undef,undef,undef,undef,undef,undef,undef,undef]:Array Value) = #[Value.pointer (some { block:=KT,off:=0 }),undef,Value.pointer (some { block:=w.heap.size,off:=0 }),Value.pointer (some { block:=w.heap.size+1,off:=0 }),Value.pointer (some { block:=w.heap.size+1+1,off:=0 }),undef,Value.pointer (some { block:=KT,off:=0 }),Value.func (Fn.func 82) #[Value.pointer (some { block:=KT,off:=0 })] #[],Value.agg #[.int .i64 p.start,.int .i64 p.stop,.bool p.ended,.slice d.a0 p.CE.length d.c0,.slice d.a1 p.CA.length d.c1,.slice d.a2 p.Cy.length d.c2],undef,undef,undef,undef,undef,undef,undef,undef,undef,undef,undef,undef,undef,undef,undef,undef]:=CH
  rw [ht];clear ht;have bA:∀ (ρ:Operand->Value) (o:Oper),(∀ c,o.op≠.defer c)->Oper.semAt (some (W.heap.size+1)) ρ o=execOp ρ o:=fun ρ o h=>Oper.semAt_some _ ρ o h
  have aY:=aa aE;clear aE
  gi_wp2_with fail
  have ab:Cx W2 (W2.alloc (Obj.cells #[Value.int .i64 p.start,.int .i64 p.stop,.bool p.ended,.slice d.a0 p.CE.length d.c0,.slice d.a1 p.CA.length d.c1,.slice d.a2 p.Cy.length d.c2] 94)):=CV.alloc CW _;refine ⟨_,run_beginRound ((ab.block _ (bR HI.out.loop)).trans HI.out.loop) aY.out,?_⟩;generalize hU:World.putObj (World.alloc W2 _) _ _=U;have aZ:=bR HI.out.loop;have f:=HI.out.low;obtain ⟨x,y,xs,k1,k2,k3,k4,k5⟩:=HI.out.own;have A:ag (fun k=>k=W.heap.size+1) W2 U:=by
   rw [<-hU];exact (ag.of_below ab).trans (ag.of_grown (grownBy_putObj' _ _ _) (fun k e=>by cases e;rfl))
  have aF:U.heap[W.heap.size+1]? = some (.loop { b .ready none with state:=.busy }):=by
   rw [<-hU];exact World.putObj_heap_same CN
  have hX:U.rowIs W2.heap.size 94 6 (fun i:Nat=>(#[Value.int .i64 p.start,.int .i64 p.stop,.bool p.ended,.slice d.a0 p.CE.length d.c0,.slice d.a1 p.CA.length d.c1,.slice d.a2 p.Cy.length d.c2]:Array Value).getD i (.bool false)):=by
   refine (cG W2 #[.int .i64 p.start,.int .i64 p.stop,.bool p.ended,.slice d.a0 p.CE.length d.c0,.slice d.a1 p.CA.length d.c1,.slice d.a2 p.Cy.length d.c2] 94).of_block ?_;rw [<-hU];exact World.putObj_heap_other CG
  have p0:U.cell? ⟨W2.heap.size,0,none⟩=some (.int .i64 p.start):=hX.cell (i:=0) CG
  have p1:U.cell? ⟨W2.heap.size,1,none⟩=some (.int .i64 p.stop):=hX.cell (i:=1) CG
  have p2:U.cell? ⟨W2.heap.size,2,none⟩=some (.bool p.ended):=hX.cell (i:=2) CG
  have p3:U.cell? ⟨W2.heap.size,3,none⟩=some (.slice d.a0 p.CE.length d.c0):=hX.cell (i:=3) CG
  have p4:U.cell? ⟨W2.heap.size,4,none⟩=some (.slice d.a1 p.CA.length d.c1):=hX.cell (i:=4) CG
  have p5:U.cell? ⟨W2.heap.size,5,none⟩=some (.slice d.a2 p.Cy.length d.c2):=hX.cell (i:=5) CG
  have hC:=HI.out.come.of_block (A.block _ HI.out.come.lt (by show ¬ w.heap.size+1+1=W.heap.size+1;omega))
  have hA:=k1.of_block (A.block _ k1.lt (by show ¬ w.heap.size+1=W.heap.size+1;omega))
  have hB:=HI.out.res.of_block (A.block _ HI.out.res.lt (by show ¬ w.heap.size=W.heap.size+1;omega))
  have hD:=(A.block _ (bR HI.out.dfr) (by show ¬ W.heap.size=W.heap.size+1;omega)).trans HI.out.dfr
  have aG:=cA k2 A (fun k hk=>CG)
  have aH:K (W.heap.size+1):=(k5 _).2 (Or.inl rfl);have aI:K (w.heap.size+1):=(k5 _).2 (Or.inr (Or.inr (Or.inl rfl)));have aJ:K w.heap.size:=(k5 _).2 (Or.inr (Or.inr (Or.inr (Or.inl rfl))));have aK:K (w.heap.size+1+1):=(k5 _).2 (Or.inr (Or.inr (Or.inr (Or.inr (Or.inl rfl)))));have ac:Hid (ag K W2 U):=A.mono (fun k hk=>by subst hk;exact aH)
  have bB:(E.length:Int)<=20000:=by have:=HI.out.few.1;omega
  have bC:xs.length<=300:=by have:=HI.out.few.2;rw [<-k3] at this;simpa using this
  have bD:W2.heap.size<U.heap.size:=hX.lt;have c0:=hC.cell (i:=0) CG
  have cf:=hC.frozen 0;have a0:=hA.cell (i:=0) CG
  have b0:=hB.cell (i:=0) CG
  have bf:=hB.frozen 0;have bE:=hC.lt;have a3:=hA.lt;have a4:=hB.lt;have ad:=aa (hC.set 0 (.int .i64 ((E.length:Int)+1)));have HA:=aa hA;have HB:=aa hB;have HD:=aa hD;have aL:=aa aG;have ae:=aa aF;have K3:=aa k3;have K4:=aa k4;have K5:=aa k5;have a5:=aa aI;have ah:=aa aJ;have ai:=aa aK;have m:=aa f;have a7:w.heap.size+1+1<W2.heap.size:=HI.out.come.lt;have a8:W.heap.size+1<W2.heap.size:=bR HI.out.loop;have a9:w.heap.size+1<W2.heap.size:=CG
  have ba:w.heap.size<W2.heap.size:=CG
  clear hU ab k1 k2 k3 k4 k5 hX hC hA hB hD aG aF A f aZ aH aI aJ aK;obtain ⟨pe,ak⟩:∃ pe,p.ended=pe:=⟨_,rfl⟩;have V:=aa ak;rw [ak] at p2;clear ak;have aM:Hid (∀ k,(Value.slice x xs.length y).ownBlock=some k->K k\/W2.heap.size<=k):=fun k hk=>Or.inl ((K5.out k).2 (Or.inr (Or.inr (Or.inr (Or.inr (Or.inr hk))))))
  cases pe
  ·have H:Hid (cd (E++[p])=cd E):=by
    unfold Hid;rw [oI,V.out];simp
   by_cases B:(20000:Int)<(E.length:Int)+1
   ·gi_wp2_with fail
    have f:=m.out;refine nI HI.out l.out ((Below.heap_setCell _ ⟨w.heap.size,0,none⟩ _ (W.heap.size+1) (by show ¬ W.heap.size+1=w.heap.size;omega)).trans ((Below.heap_setCell _ ⟨w.heap.size+1+1,0,none⟩ _ (W.heap.size+1) (by show ¬ W.heap.size+1=w.heap.size+1+1;omega)).trans ae.out)) ((ac.out.setCell (p:=⟨w.heap.size+1+1,0,none⟩) (Or.inl ai.out) _).setCell (p:=⟨w.heap.size,0,none⟩) (Or.inl ah.out) _) ?_ ((Below.heap_setCell _ ⟨w.heap.size,0,none⟩ _ W.heap.size (by show ¬ W.heap.size=w.heap.size;omega)).trans ((Below.heap_setCell _ ⟨w.heap.size+1+1,0,none⟩ _ W.heap.size (by show ¬ W.heap.size=w.heap.size+1+1;omega)).trans HD.out)) (Or.inl CG) _
    exact gZ ((HB.out.setOther (a:=⟨w.heap.size+1+1,0,none⟩) (by show ¬ w.heap.size=w.heap.size+1+1;omega) _).set 0 (.slice none 0 0)) CI
   ·gi_wp2_with fail
    have f:=m.out;refine ul HI.out l.out ((Below.heap_setCell _ ⟨w.heap.size+1+1,0,none⟩ _ (W.heap.size+1) (by show ¬ W.heap.size+1=w.heap.size+1+1;omega)).trans ae.out) (ac.out.setCell (p:=⟨w.heap.size+1+1,0,none⟩) (Or.inl ai.out) _) (gZ ad.out CI) ?_ (HB.out.setOther (a:=⟨w.heap.size+1+1,0,none⟩) (by show ¬ w.heap.size=w.heap.size+1+1;omega) _) ((Below.heap_setCell _ ⟨w.heap.size+1+1,0,none⟩ _ W.heap.size (by show ¬ W.heap.size=w.heap.size+1+1;omega)).trans HD.out) ⟨CG,by rw [H.out];exact HI.out.few.2⟩ _
    refine ⟨x,y,xs,HA.out.setOther (a:=⟨w.heap.size+1+1,0,none⟩) (by show ¬ w.heap.size+1=w.heap.size+1+1;omega) _,ownsRow_setCell_below aL.out (a:=⟨w.heap.size+1+1,0,none⟩) (by show w.heap.size+1+1<W.heap.size+2;omega) _,by rw [H.out];exact K3.out,K4.out,aM.out⟩
  ·have H:Hid (cd (E++[p])=cd E++[p]):=by
    unfold Hid;rw [oI,V.out];simp
   rw [V.out];have aN:=aa (ownsRow_setCell_below aL.out (a:=⟨w.heap.size+1+1,0,none⟩) (by show w.heap.size+1+1<W.heap.size+2;have:=m.out;omega) (.int .i64 ((E.length:Int)+1)))
   have aO:=aa (HA.out.setOther (a:=⟨w.heap.size+1+1,0,none⟩) (by show ¬ w.heap.size+1=w.heap.size+1+1;omega) (.int .i64 ((E.length:Int)+1)))
   have aP:=aa (HB.out.setOther (a:=⟨w.heap.size+1+1,0,none⟩) (by show ¬ w.heap.size=w.heap.size+1+1;omega) (.int .i64 ((E.length:Int)+1)))
   have aQ:Hid ((U.setCell ⟨w.heap.size+1+1,0,none⟩ (.int .i64 ((E.length:Int)+1))).heap[W.heap.size]? = some (.deferred (some []))):=(Below.heap_setCell _ ⟨w.heap.size+1+1,0,none⟩ _ W.heap.size (by show ¬ W.heap.size=w.heap.size+1+1;have:=m.out;omega)).trans HD.out
   have aR:Hid ((U.setCell ⟨w.heap.size+1+1,0,none⟩ (.int .i64 ((E.length:Int)+1))).heap[W.heap.size+1]? = some (.loop { b .ready none with state:=.busy })):=(Below.heap_setCell _ ⟨w.heap.size+1+1,0,none⟩ _ (W.heap.size+1) (by show ¬ W.heap.size+1=w.heap.size+1+1;have:=m.out;omega)).trans ae.out
   have aS:=aa (ac.out.setCell (p:=⟨w.heap.size+1+1,0,none⟩) (Or.inl ai.out) (.int .i64 ((E.length:Int)+1)));have bb:(20000:Int)<(E.length:Int)+1\/(¬ (20000:Int)<(E.length:Int)+1/\(300:Int)<(xs.length:Int)+1)\/(¬ (20000:Int)<(E.length:Int)+1/\¬ (300:Int)<(xs.length:Int)+1):=CG
   rcases bb with B | ⟨B,al⟩ | ⟨B,al⟩
   all_goals
    gi_wp2_with (gi_at_builtin;refine mC rfl (.tmp 13) (.tmp 15) 91 rfl (W.heap.size+2) 94 _ 6 96 underlying91 Tryz.infoPath rfl CJ (.slice x xs.length y) xs.length (jB xs) rfl aN.out _ CI [.int .i64 p.start,.int .i64 p.stop,.bool true,.slice d.a0 p.CE.length d.c0,.slice d.a1 p.CA.length d.c1,.slice d.a2 p.Cy.length d.c2] rfl rfl CL CK CG CN ?_;intro x6 y6 w6 r1 r2 r3;have hne:∀ k,k<W.heap.size+2->some k≠(Value.slice x xs.length y).ownBlock:=(fun k hk e=>by have h9:=(aN.out.lt k e.symm).1;omega);have I:=aO.out.of_block (r2.block _ aO.out.lt (hne _ (by have h9:=m.out;omega)));have r:=aP.out.of_block (r2.block _ aP.out.lt (hne _ (by have h9:=m.out;omega)));have am:=ad.out.of_block (r2.block _ ad.out.lt (hne _ (by have h9:=m.out;omega)));have a6:=I.cell (i:=0) CG;have bF:=I.frozen 0;have bc:=I.lt;have b6:=r.cell (i:=0) CG;have bG:=r.frozen 0;have bd:=r.lt;have c6:w6.cell? ⟨w.heap.size+1+1,0,none⟩=some (.int .i64 ((E.length:Int)+1)):=(am.cell (i:=0) CG).trans CI;have be:=aa I;have bg:=aa r;have bh:=aa am;have bi:=aa r1;have an:=aa r2;have bj:=aa r3;have aT:=aa hne;clear I r am r1 r2 r3 hne)
    have f:=m.out;have bk:ag K W2 w6:=aS.out.trans (ag.of_grown an.out (fun k hk=>(K5.out k).2 (Or.inr (Or.inr (Or.inr (Or.inr (Or.inr hk)))))))
    have bl:=(an.out.block _ (bR aR.out) (aT.out _ CG)).trans aR.out
    have bm:=(an.out.block _ (bR aQ.out) (aT.out _ CG)).trans aQ.out
    have ao:=(Below.heap_setCell w6 ⟨w.heap.size+1,0,none⟩ (.slice x6 (xs.length+1) y6) (W.heap.size+1) (by show ¬ W.heap.size+1=w.heap.size+1;omega)).trans bl
    have ap:=(Below.heap_setCell w6 ⟨w.heap.size+1,0,none⟩ (.slice x6 (xs.length+1) y6) W.heap.size (by show ¬ W.heap.size=w.heap.size+1;omega)).trans bm
    have aq:=bk.setCell (p:=⟨w.heap.size+1,0,none⟩) (Or.inl a5.out) (.slice x6 (xs.length+1) y6);have ar:=bg.out.setOther (a:=⟨w.heap.size+1,0,none⟩) (by show ¬ w.heap.size=w.heap.size+1;omega) (.slice x6 (xs.length+1) y6)
    have t:(cd (E++[p])).length=xs.length+1:=by rw [H.out,<-K3.out];simp
   ·exact nI HI.out l.out ((Below.heap_setCell _ ⟨w.heap.size,0,none⟩ _ (W.heap.size+1) (by show ¬ W.heap.size+1=w.heap.size;omega)).trans ao) (aq.setCell (p:=⟨w.heap.size,0,none⟩) (Or.inl ah.out) _) (gZ (ar.set 0 (.slice none 0 0)) CI) ((Below.heap_setCell _ ⟨w.heap.size,0,none⟩ _ W.heap.size (by show ¬ W.heap.size=w.heap.size;omega)).trans ap) (Or.inl CG) _
   ·exact nI HI.out l.out ((Below.heap_setCell _ ⟨w.heap.size,0,none⟩ _ (W.heap.size+1) (by show ¬ W.heap.size+1=w.heap.size;omega)).trans ao) (aq.setCell (p:=⟨w.heap.size,0,none⟩) (Or.inl ah.out) _) (gZ (ar.set 0 (.slice none 0 0)) CI) ((Below.heap_setCell _ ⟨w.heap.size,0,none⟩ _ W.heap.size (by show ¬ W.heap.size=w.heap.size;omega)).trans ap) (Or.inr (by rw [t];omega)) _
   ·refine ul HI.out l.out ao aq (gZ (bh.out.setOther (a:=⟨w.heap.size+1,0,none⟩) (by show ¬ w.heap.size+1+1=w.heap.size+1;omega) _) CI) ?_ ar ap ⟨CG,by rw [t];omega⟩ _
    have au:(xs++[(d,p)]).length=xs.length+1:=CI
    have bn:jB xs++[Value.int .i64 p.start,.int .i64 p.stop,.bool true,.slice d.a0 p.CE.length d.c0,.slice d.a1 p.CA.length d.c1,.slice d.a2 p.Cy.length d.c2]=jB (xs++[(d,p)]):=by
     rw [<-wR,<-V.out];rfl
    have aU:=bi.out;rw [bn,<-au] at aU;refine ⟨x6,y6,xs++[(d,p)],?_,ownsRow_setCell_below aU (a:=⟨w.heap.size+1,0,none⟩) (by show w.heap.size+1<W.heap.size+2;omega) _,by rw [List.map_append,K3.out,H.out];rfl,?_,?_⟩
    ·rw [au];exact gZ (be.out.set 0 (.slice x6 (xs.length+1) y6)) CI
    ·intro q hq;rcases List.mem_append.1 hq with hq | hq
     ·exact K4.out q hq
     ·have:q=(d,p):=by simpa using hq
      subst this;exact HP.out
    ·intro k hk;rw [au] at hk;rcases bj.out k hk with h | h
     ·exact aM.out k h
     ·refine Or.inr (Nat.le_trans aS.out.size h)
 have bp:Hid (nH w (W.heap.size+1) (jx w (W.heap.size+1) W.heap.size (w.heap.size+1) w.heap.size (w.heap.size+1+1) (W.heap.size+2) b) (n7 w (W.heap.size+1) W.heap.size w.heap.size b)):=
  ⟨fun K E W2 h=>h.lt,fun K E W2 h=>h.below,fun K E W2 W3 h hb=>h.keep hb,fun E W2 W3 h hb=>h.keep hb,HY.out⟩
 refine (callsIn_wide).2 ((AU w KT M pa ja sa pc jc sc ps js ss R hT (W.heap.size+1) _ _ bp _ W1 aC).mono ?_);rintro e w3 ⟨⟨v,rfl⟩,bq,h3⟩;have J:∀ pe,(b .ready pe).state≠.busy/\(b .ready pe).pending=pe/\(b .done pe).state≠.busy/\(b .done pe).pending=pe:=by
  rw [g];intro pe;simp
 rcases h3 with ⟨K',s,br⟩ | ⟨E1,E2,hE,av⟩
 ·refine ⟨_,_,run_endLoop s.loop (J none).1,?_⟩;rw [(J none).2.1];dsimp only;generalize L:w3.putObj _ _=w4;have z:ag (fun k=>k=W.heap.size+1) w3 w4:=by
   rw [<-L];exact ag.of_grown (grownBy_putObj' _ _ _) (fun k e=>by cases e;rfl)
  clear L;obtain ⟨x,y,xs,g1,g2,g3,g4,g5⟩:=s.own;have f:=s.low;have aw:=g1.of_block (z.block _ g1.lt (by show ¬ w.heap.size+1=W.heap.size+1;omega))
  have N:=s.res.of_block (z.block _ s.res.lt (by show ¬ w.heap.size=W.heap.size+1;omega))
  have aV:=(z.block _ (bR s.dfr) (by show ¬ W.heap.size=W.heap.size+1;omega)).trans s.dfr
  have a0:=aw.cell (i:=0) CG
  have b0:=N.cell (i:=0) CG
  have bf:=N.frozen 0;have a3:=aw.lt;have a4:=N.lt;have aW:=aa (N.set 0 (.slice x xs.length y));have bs:=aa aV;have bt:=aa g2;have bu:=aa g3;have bv:=aa g4;have bw:=aa g5;have X:=aa z;have Y:=aa s;clear z g1 g2 g3 g4 g5 aw N aV s br bq J f;have HZ:=aa hz;have aD:=aa D;clear hz D;simp only [Exit.inBlock,Exit.then]
  gi_wp2_with fail
  have ax:(w4.setCell ⟨w.heap.size,0,none⟩ (.slice x xs.length y)).heap[W.heap.size]? = some (.deferred (some [])):=(Below.heap_setCell w4 ⟨w.heap.size,0,none⟩ _ W.heap.size (by show ¬ W.heap.size=w.heap.size;have:=HZ.out;omega)).trans bs.out
  refine ⟨CI,.inl ⟨_,_,rfl,run_takeDeferred ax,?_⟩⟩
  generalize O:World.putObj (World.setCell w4 _ _) _ _=wf;have Z:ag (fun k=>k=W.heap.size) (w4.setCell ⟨w.heap.size,0,none⟩ (.slice x xs.length y)) wf:=by
   rw [<-O];exact ag.of_grown (grownBy_putObj' _ _ _) (fun k e=>by cases e;rfl)
  clear O;have bx:ag (fun k=>k=w.heap.size) w4 (w4.setCell ⟨w.heap.size,0,none⟩ (.slice x xs.length y)):=(ag.refl (fun k=>k=w.heap.size) w4).setCell (p:=⟨w.heap.size,0,none⟩) (Or.inl rfl) _
  have r:=aW.out.of_block (Z.block _ aW.out.lt (by show ¬ w.heap.size=W.heap.size;have:=HZ.out;omega))
  have b6:wf.cell? ⟨w.heap.size,0,none⟩=some (.slice x xs.length y):=(r.cell (i:=0) CG).trans CI
  have j:ag (fun k=>k=W.heap.size+1\/k=W.heap.size\/k=w.heap.size) w3 wf:=((X.out.mono (fun k hk=>Or.inl hk)).trans (bx.mono (fun k hk=>Or.inr (Or.inr hk)))).trans (Z.mono (fun k hk=>Or.inr (Or.inl hk)))
  have bz:=Y.out.low;refine ⟨.slice x xs.length y,by simp [results,results39,go_sem,b6],.slice x xs.length y,rfl,?_,Y.out.below.trans (j.below Y.out.below.size (fun k hk e=>CG))⟩
  have ay:gM ps js ss=xs.map Prod.snd:=by
   unfold gM;rw [if_pos (show xP ps js ss from Y.out.few),bu.out]
  rw [ay];exact ix.of_own (cA bt.out j (fun k hk=>CG)) (fun q hq=>bv.out q hq wf (j.mono (fun k hk=>(bw.out k).2 (by rcases hk with h | h | h;exact Or.inl h;exact Or.inr (Or.inl h);exact Or.inr (Or.inr (Or.inr (Or.inl h)))))))
 ·refine ⟨_,_,run_endLoop av.loop (J (some .ret)).2.2.1,?_⟩;rw [(J (some .ret)).2.2.2];dsimp only;generalize L:w3.putObj _ _=w4;have z:ag (fun k=>k=W.heap.size+1) w3 w4:=by
   rw [<-L];exact ag.of_grown (grownBy_putObj' _ _ _) (fun k e=>by cases e;rfl)
  clear L;have HZ:=aa hz;have aD:=aa D;have X:=aa z;have C:=aa av;clear hz D z av
  gi_wp2_with fail
  have ax:w4.heap[W.heap.size]? = some (.deferred (some [])):=(X.out.block _ (bR C.out.dfr) (by show ¬ W.heap.size=W.heap.size+1;omega)).trans C.out.dfr
  refine ⟨CI,.inl ⟨_,_,rfl,run_takeDeferred ax,?_⟩⟩
  generalize O:World.putObj w4 _ _=wf;have Z:ag (fun k=>k=W.heap.size) w4 wf:=by
   rw [<-O];exact ag.of_grown (grownBy_putObj' _ _ _) (fun k e=>by cases e;rfl)
  clear O;have j:ag (fun k=>k=W.heap.size+1\/k=W.heap.size) w3 wf:=(X.out.mono (fun k hk=>Or.inl hk)).trans (Z.mono (fun k hk=>Or.inr hk))
  have bz:=HZ.out;have r:=C.out.res.of_block (j.block _ C.out.res.lt (by show ¬ (w.heap.size=W.heap.size+1\/w.heap.size=W.heap.size);omega))
  have b6:wf.cell? ⟨w.heap.size,0,none⟩=some (.slice none 0 0):=r.cell (i:=0) CG
  refine ⟨.slice none 0 0,by simp [results,results39,go_sem,b6],.slice none 0 0,rfl,?_,C.out.below.trans (j.below C.out.below.size (fun k hk e=>CG))⟩
  have ay:gM ps js ss=[]:=by
   unfold gM;rw [if_neg];rintro ⟨q1,q2⟩;rw [hE] at q1 q2;rw [List.length_append] at q1;rw [iL,List.length_append] at q2;have:=C.out.past;omega
  rw [ay];exact ix.nil wf
end Go.Proofs.YtmkdgnmmebldgaaGreatDoor
namespace Go.Proofs.YtmkdgnmmebldgaaGreatDoor
open Go
theorem nJ {P:Program}{ops:Array Oper}{Q:Exit->Act->World->Prop}{r n:Nat}(hnd:∀ (i:Nat) o,ops[i]? = some o->∀ c,o.op≠.defer c)(hQ:¬ LetsOut Q):
  ∀ (L:List Nat) (a:Act) (w:World),wpOps P ops Q L a w->wpOpsIn (Fence.wide.inRound r) n P ops Q L a w
 | [],a,w,h=>h
 | i::rest,a,w,h=>by
  have ih:=nJ (P:=P) (r:=r) (n:=n) hnd hQ rest;simp only [wpOps] at h;simp only [wpOpsIn];cases ho:ops[i]? with
  | none =>
   rw [ho] at h;exact ih a w h
  | some o =>
   rw [ho] at h;dsimp only at h ⊢
   by_cases hw:Region.wanted o (yielded ops a.tmps)=true
   ·rw [if_pos hw] at h ⊢;rcases h with h | h
    ·refine ⟨fun _ _=>trivial,?_⟩
     unfold Oper.wp at h;rw [Oper.semAt_eq _ _ _ (hnd i o ho)];generalize (execOp a.eval o).run P w=res at h;cases res with
     | halt x w'=>cases x <;> first | exact h | exact absurd h (by intro h;exact h)
     | ok nx w' =>
      cases nx with
      | value v=>exact ih _ _ h
      | skip=>exact ih _ _ h
      | defer d=>exact ih _ _ h
      | enter f args =>
       refine ⟨fun h=>(by cases h),?_⟩
       show CallsIn Fence.wide (n-1) P f args w' _
       refine callsIn_wide.2 (Calls.mono h ?_);intro e b he;cases e with
       | returned v=>exact ih _ _ he
       | panicked ch=>exact he
       | outgrown=>exact he
      | row nm args =>
       refine ⟨fun h=>(by cases h),?_⟩
       intro c cs _;obtain ⟨v,b,h1,h2⟩:=h c cs;exact ⟨v,b,ih _ _ h1,stepsIn_wide.2 h2⟩
      | round a1 a2 a3 a4 a5=>exact h.elim
      | _=>exact h.elim
    ·exact absurd h.2 hQ
   ·rw [if_neg hw] at h ⊢;exact ⟨fun _ _=>trivial,ih _ _ h⟩
def wY (o:Oper):Bool:=match o.op with | .defer _=>false | _=>true
theorem Af {l:List Oper}(h:l.all wY=true):∀ (i:Nat) o,l.toArray[i]? = some o->∀ c,o.op≠.defer c:=by
 intro i o ho c hc;have hm:o ∈ l:=by
  rw [List.getElem?_toArray] at ho;exact List.mem_of_getElem? ho
 have:=List.all_eq_true.1 h o hm;unfold wY at this;rw [hc] at this;cases this
section
variable {P:Program} {Q:Exit->Act->World->Prop} {l:List Oper}
theorem fZ {id r k:Nat}{a:Act}{w:World}(C:World->Prop)(n:Nat)(hnd:l.all wY=true)(hQ:¬ LetsOut Q)(hm:P.follows .mixedOrders=true)(hB:ly l n=true)(hC:C w.drew)
  (h:wpT P l C n Q n (Array.replicate l.length false) a w.drew):(Code.region id l.toArray true).wpIn (Fence.wide.inRound r) k P Q a w:=by
 have d:=hB;simp only [ly,Bool.and_eq_true,decide_eq_true_eq] at d;obtain ⟨⟨⟨i,hn⟩,hs⟩,hc⟩:=d;have f:(l.drop n).length=l.length-n:=CI
 have c:HeadInv .any l.toArray n (Array.replicate l.length false):=
  ⟨CI,fun j oj _ hl=>(by rw [getD_replicate_false] at hl;cases hl),fun t _ ht=>getD_in (by simpa using ht) (getD_replicate_false _ _)⟩
 have H:=h hB c hC;have this:=jX (Q:=Q) (g:=l.length-n) (fun b a' w' hL=>by
  have:=wpAny_of_seq (md:=.any) (Q':=Q) (l.drop n) n b a' w' (fun j=>by simp [List.getElem?_drop]) (by rw [f];exact hL.1) hL.2
  rwa [f] at this) _ _ _ _ hC H
 rw [show n+(l.length-n)=l.toArray.size by simp;omega] at this
 refine wpIn_region_draw fun t=>?_
 simp only [Region.schedule,hm,Bool.true_or,if_true];refine nJ (Af hnd) hQ _ _ _ ?_;refine wpAny_sound l.toArray.size t _ a _ ?_;simpa using this
end
end Go.Proofs.YtmkdgnmmebldgaaGreatDoor
namespace Go.Proofs.YtmkdgnmmebldgaaGreatDoor
open Go.RowKit Go.Deep Go.Maps
theorem qy (KT:Nat)(s:aM)(w:World):
  Calls prog 116 #[.pointer (some ⟨KT,0,none⟩),bC s] w fun e w'=>e = .returned (.func (.func 136) #[] #[.pointer (some ⟨w.heap.size+1,0,none⟩),.pointer (some ⟨w.heap.size,0,none⟩)]) /\
   w'.cell? ⟨w.heap.size,0,none⟩=some (.pointer (some ⟨KT,0,none⟩))/\w'.cell? ⟨w.heap.size+1,0,none⟩=some (.int .i64 s.CB)/\w'.cell? ⟨w.heap.size+1,1,none⟩=some (.int .i64 s.side)/\Cx w w':=by
 have a:∀ (fn:Fn) (first cap:Array Value) (w:World),(Instr.makeFunc fn first cap).run prog w = .ok (.func fn first cap) w:=fun _ _ _ _=>rfl
 unfold bC
 go_enter func116,ntmps116
 go_wp2_with fail
 go_ret
 exact ⟨rfl,CO,CO,CO,blo⟩
theorem rE {w:World}{b T n:Nat}{f g:Nat->Value}(h:w.rowIs b T n f)(e:∀ i,i<n->f i=g i):w.rowIs b T n g:=by
 obtain ⟨c,h1,h2,h3⟩:=h;exact ⟨c,h1,h2,fun i hi=>by rw [h3 i hi,e i hi]⟩
structure vF (KT tb l B0:Nat)(js:List aj)(J N:Nat->aM->(Nat->Prop)->World->Prop)(Sx:World->Prop):Prop where
 ltJ:∀ n s K W,J n s K W->∀ k,K k->k<W.heap.size
 keepJ:∀ n s K S W W',J n s K W->ag S W W'->(∀ k,S k->B0<=k/\¬ K k)->J n s K W'
 keepN:∀ n s K S W W',N n s K W->ag S W W'->(∀ k,S k->B0<=k/\¬ K k)->N n s K W'
 tbN:∀ n s K W,N n s K W->W.cell? ⟨tb,0,none⟩=some (.pointer (some ⟨KT,0,none⟩))
 next:∀ n s K W,N n s K W->(cP js s).2=true->J n (cP js s).1 K W
 yield:∀ n s K W,J n s K W->YieldAt Fence.wide 0 prog l #[bC s] W (dm (fun K' u => ∃ m,m<n/\N m s K' u) Sx K W)
def zm (js:List aj)(N:Nat->aM->(Nat->Prop)->World->Prop)(Sx:World->Prop)(K:Nat->Prop)(w:World)(e:Ending)(w':World):Prop:=
 (∃ v,e = .returned v)/\ag K w w'/\((∃ n s K',N n s K' w'/\(cP js s).2=false/\dP K K' w)\/Sx w')
theorem zM (KT M tb fb B0:Nat)(pa ja sa:Option Addr)(pc jc sc:Nat)(ps:List af)(js:List aj)(ss:List af)(R:Hid (bo ps js ss))(l:Nat)(J N:Nat->aM->(Nat->Prop)->World->Prop)(Sx:World->Prop)(RD:Hid (vF KT tb l B0 js J N Sx))
  (hTN:Hid (∀ n s K W,N n s K W->cB W KT M pa ja sa pc jc sc ps js ss/\eR ps s)) (n:Nat) (s:aM) (K:Nat->Prop) (w:World) (hB0:B0<=w.heap.size) (hJ:Hid (J n s K w)) (c0:w.cell? ⟨fb,0,none⟩=some (.int .i64 s.CB)) (c1:w.cell? ⟨fb,1,none⟩=some (.int .i64 s.side)) :
  Calls prog 136 #[.func (.yield l) #[] #[],.pointer (some ⟨fb,0,none⟩),.pointer (some ⟨tb,0,none⟩)] w (zm js N Sx K w):=by
 have O:=ai c0;dsimp only at O;have z:=aa (RD.out.ltJ _ _ _ _ hJ.out)
 go_enter func136,ntmps136
 go_wp2_with fail
 generalize hW:World.alloc w _=W;have f:Hid (Cx w W):=by rw [<-hW];exact blo
 have HR:Hid (W.rowIs w.heap.size 46 2 (fun i=>(#[Value.int .i64 s.CB,.int .i64 s.side]:Array Value).getD i (.bool false))):=by
  unfold Hid;rw [<-hW];exact cG w _ _
 clear hW c0 c1;have A:=aa (RD.out.keepJ _ _ _ (fun _=>False) _ _ hJ.out (ag.of_below f.out) (fun k hk=>hk.elim))
 have ah:w.heap.size<W.heap.size:=HR.out.lt
 go_loopg [5] n (fun k ok wr=>(ok = .bool true/\∃ s K',Hid (J k s K' wr)/\Hid (wr.rowIs w.heap.size 46 2 (fun i=>(#[Value.int .i64 s.CB,.int .i64 s.side]:Array Value).getD i (.bool false)))/\Hid (ag K w wr)/\Hid (dP K K' W)/\Hid (W.heap.size<=wr.heap.size))\/(ok = .bool false/\∃ m s K',Hid (N m s K' wr)/\Hid ((cP js s).2=false)/\Hid (ag K w wr)/\Hid (dP K K' W)))
 case atStart=>exact Or.inl ⟨rfl,s,K,A,HR,ag.of_below f.out,dP.refl _ _,Nat.le_refl _⟩
 case round =>
  rcases hrel with ⟨rfl,s1,K',HJ,HX,HO,HG,B⟩ | ⟨rfl,m,s1,K',HN,HF,HO,HG⟩
  ·have q0:wr.cell? ⟨w.heap.size,0,none⟩=some (.int .i64 s1.CB):=HX.out.cell (i:=0) CG
   have q1:wr.cell? ⟨w.heap.size,1,none⟩=some (.int .i64 s1.side):=HX.out.cell (i:=1) CG
   have C:¬ K' w.heap.size:=fun hk=>by
    rcases HG.out _ hk with h | h
    ·exact Nat.lt_irrefl _ (z.out _ h)
    ·omega
   have T:=aa C;obtain ⟨fn,tm,ak,al,hy,c⟩:=RD.out.yield _ _ _ _ HJ.out;unfold bC at hy;have U:=aa c;have V:=HX.out.lt;clear c C A
   go_upto_region 1 with fail
   refine (wpIn_wide (n:=0)).1 ?_
   gi_wp2_with fail
   refine ⟨rfl,RoundIn.mono U.out ?_⟩;rintro e w3 ⟨bb,rfl,d,o,q⟩;dsimp only
   gi_wp2_with fail
   have D:Hid (ag K w w3):=HO.out.thru (HG.out.mono f.out.size) d;cases bb
   ·have X:=aa (q rfl);clear o q d hy q0 q1
    go_wp2_with fail
    exact bodyPost_end (results_none rfl _ _ _) rfl ⟨⟨_,rfl⟩,D.out,Or.inr X.out⟩
   ·obtain ⟨K2,⟨m,hm,hN⟩,E⟩:=o rfl;have g:=aa (HX.out.of_block (d.block _ V T.out));have y0:w3.cell? ⟨w.heap.size,0,none⟩=some (.int .i64 s1.CB):=g.out.cell (i:=0) CG
    have y1:w3.cell? ⟨w.heap.size,1,none⟩=some (.int .i64 s1.side):=g.out.cell (i:=1) CG
    have t0:=RD.out.tbN _ _ _ _ hN;have Y:=ai t0;dsimp only at Y;have F:=aa (hTN.out _ _ _ _ hN);have j:=aa (sD KT M pa ja sa pc jc sc ps js ss R s1 w3 F.out.1 F.out.2);obtain ⟨os,ob⟩:∃ os,cP js s1=os:=⟨_,rfl⟩;have r:=aa ob;rw [ob] at j;obtain ⟨a,Z⟩:=os;unfold Hid bC at j;have t:=aa j;have HN:=aa hN;have u:Hid (dP K K2 W):=HG.out.trans E B.out;have ab:=g.out.lt;have v:=aa d.size;clear o q hy q0 q1 hN E ob j d;have ac:=aa hm;clear hm
    go_wp2_with (go_at_call 137;refine t.out.mono ?_;rintro e w4 ⟨rfl,x⟩;have b:=g.out.of_block (x.block _ ab);have g0:=b.cell (i:=0) CG;have g1:=b.cell (i:=1) CG;have f0:=b.frozen 0;have f1:=b.frozen 1;have am:=b.lt;have ad:=aa ((b.set 0 (.int .i64 a.CB)).set 1 (.int .i64 a.side));have G:=aa x;clear b x)
    have H:ag (fun k=>k=w.heap.size) w3 ((w4.setCell ⟨w.heap.size,0,none⟩ (.int .i64 a.CB)).setCell ⟨w.heap.size,1,none⟩ (.int .i64 a.side)):=((ag.of_below (S:=fun k=>k=w.heap.size) G.out).setCell (p:=⟨w.heap.size,0,none⟩) (Or.inl rfl) _).setCell (p:=⟨w.heap.size,1,none⟩) (Or.inl rfl) _
    have I:=RD.out.keepN _ _ _ (fun k=>k=w.heap.size) _ _ HN.out H (fun k hk=>by
     subst hk;refine ⟨hB0,fun hk=>?_⟩
     rcases u.out _ hk with h | h
     ·exact Nat.lt_irrefl _ (z.out _ h)
     ·omega)
    have L:ag K w ((w4.setCell ⟨w.heap.size,0,none⟩ (.int .i64 a.CB)).setCell ⟨w.heap.size,1,none⟩ (.int .i64 a.side)):=((D.out.trans (ag.of_below G.out)).setCell (p:=⟨w.heap.size,0,none⟩) (Or.inr CW) _).setCell (p:=⟨w.heap.size,1,none⟩) (Or.inr CW) _;have y:W.heap.size<=((w4.setCell ⟨w.heap.size,0,none⟩ (.int .i64 a.CB)).setCell ⟨w.heap.size,1,none⟩ (.int .i64 a.side)).heap.size:=Nat.le_trans (Nat.le_trans B.out v.out) H.size
    go_roundg m
    case measure=>exact ac.out
    case rel =>
     cases Z
     ·exact Or.inr ⟨rfl,m,s1,K2,I,by unfold Hid;rw [r.out],L,u⟩
     ·refine Or.inl ⟨rfl,a,K2,?_,?_,L,u,y⟩
      ·have:=RD.out.next _ _ _ _ I (by rw [r.out])
       rw [r.out] at this;exact this
      ·refine rE ad.out ?_;intro i hi;have ae:i=0\/i=1:=CG
       rcases ae with rfl | rfl <;> simp
  ·go_wp2_with fail
   exact bodyPost_end (results_none rfl _ _ _) rfl ⟨⟨_,rfl⟩,HO.out,Or.inl ⟨m,s1,K',HN.out,HF.out,HG.out.mono f.out.size⟩⟩
end Go.Proofs.YtmkdgnmmebldgaaGreatDoor
