import Derived.Test.YtmkdgnmmebldgaaGreatDoorPk26
import Derived.Test.YtmkdgnmmebldgaaGreatDoorPk28
import Derived.Test.YtmkdgnmmebldgaaGreatDoorPk49
import Derived.Test.YtmkdgnmmebldgaaGreatDoorPk48
import Derived.Test.YtmkdgnmmebldgaaGreatDoorPk35
import Derived.Test.YtmkdgnmmebldgaaGreatDoorPk52
set_option maxRecDepth 100000
set_option maxHeartbeats 8000000
open Go.Proofs.Tryz
namespace Go.Proofs.YtmkdgnmmebldgaaGreatDoor
open Go.RowKit Go.Deep Go.Maps
variable {B y:Nat}{d:aL}{js:List aj}{ps ss:List af}{r:al}{w w':World}{x:Option Addr}
theorem ck.path (R:bo ps js ss){i:Nat}{pre:List aM}{s:aM}{CA:List bg}{Cy:List Int}{pos:Int}(h:ck ps js ss i pre s CA Cy pos){stop:Int}(hst:stop = -1\/∃ k:Nat,k<ss.length/\stop=k):lm ps js ss (eo i stop (pre++[s]) CA Cy):=by
 have hf:=h.few;have a:=R.np;have hl:=iX h.lv h.ld;have b:=R.nj;have hc:=h.cl;refine ⟨by simp [eo],by simp [eo];omega,?_,⟨i,h.start,rfl⟩,hst,h.lv,by simp [eo];omega,by simp [eo];omega⟩
 intro x hx;rcases List.mem_append.1 hx with hx | hx
 ·exact h.pv x hx
 ·have:x=s:=by simpa using hx
  rw [this];exact h.sv
theorem yz (R:bo ps js ss):∀ (n i:Nat) (pre:List aM) (s:aM) (CA:List bg) (Cy:List Int) (pos:Int),ck ps js ss i pre s CA Cy pos->∀ q ∈ evs ps js ss n (aF i (pre++[s]) CA Cy) pos,q.ended=true->lm ps js ss q
 | 0,_,_,_,_,_,_,_,q,hq,_=>absurd hq (by simp [evs])
 | n+1,i,pre,s,CA,Cy,pos,h,q,hq,he=>by
  by_cases hb:0<=bi ss s.CB s.side pos ss.length
  ·rw [lw hb] at hq;have a:q=eo i (bi ss s.CB s.side pos ss.length) (pre++[s]) CA Cy:=by simpa using hq
   rw [a];rcases fA ss s.CB s.side pos ss.length CW with hr | ⟨b,f,_,hr,_⟩
   ·omega
   ·exact h.path R (Or.inr ⟨b,f,hr⟩)
  ·by_cases hr:s ∈ pre
   ·rw [mY hb hr] at hq;have a:q=aF i (pre++[s]) CA Cy:=by simpa using hq
    rw [a] at he;cases he
   ·by_cases hk:aH js (aO js (au s)).1=1
    ·rw [lR hb hr hk] at hq;have a:q=eo i (-1) (pre++[s]) CA Cy:=by simpa using hq
     rw [a];exact h.path R (Or.inl rfl)
    ·rw [tS hb hr hk] at hq;rcases List.mem_cons.1 hq with hq | hq
     ·rw [hq] at he;cases he
     ·unfold dy at hq;obtain ⟨t,ht,hq⟩:=List.mem_flatMap.1 hq;obtain ⟨j,k,h1,h2⟩:=R.spot (dh h.sv);obtain ⟨_,hj,d,_⟩:=df h1;simp only [Nat.sub_zero] at hj d;rw [h2] at ht hq;unfold gy at hq;cases c:dD js (aF i (pre++[s]) CA Cy) j k t with
      | none =>
       rw [c] at hq;cases hq
      | some q2 =>
       rw [c] at hq;obtain ⟨l2,c2,e2,w2⟩:=h.over R hr hj d ht c;rw [e2] at hq;exact yz R n i _ _ _ _ _ w2 q hq he
theorem nN (R:bo ps js ss):∀ (m:Nat),m<=ss.length->∀ q ∈ cb ps js ss m,q.ended=true->lm ps js ss q
 | 0,_,q,hq,_=>absurd hq (by simp [cb])
 | m+1,hm,q,hq,he=>by
  rw [oC CG] at hq
  rcases List.mem_append.1 hq with hq | hq
  ·exact nN R m CG q hq he
  ·exact yz R (cI ps) m [] ⟨ss[m].len,ss[m].CC⟩ [] [] ss[m].CD (ck.begin R CG) q hq he
theorem yM (R:bo ps js ss):∀ q ∈ gM ps js ss,lm ps js ss q:=by
 intro q hq;unfold gM at hq
 split at hq
 ·unfold cd at hq;obtain ⟨h1,h2⟩:=List.mem_filter.1 hq;exact nN R ss.length CW q h1 h2
 ·cases hq
theorem vT (ps:List af)(js:List aj)(ss:List af):(gM ps js ss).length<=300:=by
 unfold gM
 split
 ·rename_i h;exact h.2
 ·simp
open Classical in
theorem sI (ps:List af)(js:List aj)(ss:List af)(over:Int):aX ps js ss over=if cE ps js ss=(0,0)/\0<=over/\over<=100000 then (gM ps js ss).map (dr ps js ss over) else []:=by
 unfold aX gM
 by_cases h:cE ps js ss=(0,0)/\0<=over/\over<=100000
 ·rw [if_pos h]
  by_cases hf:xP ps js ss
  ·rw [if_pos hf,if_pos ⟨h.1,h.2.1,h.2.2,hf.1,hf.2⟩]
  ·rw [if_neg hf,if_neg (fun q=>hf ⟨q.2.2.2.1,q.2.2.2.2⟩)]
   rfl
 ·rw [if_neg h,if_neg (fun q=>h ⟨q.1,q.2.1,q.2.2.1⟩)]
theorem oG (pa ja sa:Option Addr)(pc jc sc:Nat)(ps:List af)(js:List aj)(ss:List af)(over:Int)(w:World)(hp:Hid (ar w pa ps))(hj:Hid (aP w ja js))(hs:Hid (ar w sa ss)):
  Calls prog 37 #[.agg #[.slice pa ps.length pc,.slice ja js.length jc],.slice sa ss.length sc,.int .i64 over] w fun e w'=>e = .returned (.bool (decide (cE ps js ss=(0,0)/\0<=over/\over<=100000)))/\Cx w w':=by
 have a:Hid (∀ u:World,Cx w u->Calls prog 25 #[.agg #[.slice pa ps.length pc,.slice ja js.length jc],.slice sa ss.length sc] u fun e w'=>e = .returned (gK (cE ps js ss))/\Cx u w'):=fun u hu=>om pa ja sa pc jc sc ps js ss u (hp.out.below hu) (hj.out.below hu) (hs.out.below hu)
 obtain ⟨sf,c⟩:∃ sf,cE ps js ss=sf:=⟨_,rfl⟩;rw [c] at a ⊢;clear c;obtain ⟨f1,f2⟩:=sf;unfold gK at a
 by_cases h1:f1=0
 ·subst h1
  by_cases h2:f2=0
  case' pos =>
   subst h2;have HD:Hid (decide ((((0:Int),(0:Int))=(0,0))/\0<=over/\over<=100000)=inB over 0 100000):=by
    unfold Hid inB;simp
  case' neg =>
   have d:(f2==0)=false:=by simp [h2]
   have HD:Hid (decide ((((0:Int),f2)=(0,0))/\0<=over/\over<=100000)=false):=by
    unfold Hid;simp [h2]
   clear h2
  all_goals
   go_enter func37,ntmps37
   go_wp2_with (first | (go_at_call 25;refine (a.out _ CU).mono ?_;rintro e w2 ⟨rfl,b⟩) | (go_at_call 80;refine (bU _ _ _ _).mono ?_;rintro e w3 ⟨rfl,rfl⟩))
   go_ret
   exact ⟨by first | exact aK HD.out.symm | (refine aK ?_;simp [inB]),CU.trans (b.mono CI)⟩
 ·have f:(f1==0)=false:=by simp [h1]
  have HD:Hid (decide (((f1,f2)=(0,0))/\0<=over/\over<=100000)=false):=by
   unfold Hid;simp [h1]
  clear h1
  go_enter func37,ntmps37
  go_wp2_with (first | (go_at_call 25;refine (a.out _ CU).mono ?_;rintro e w2 ⟨rfl,b⟩) | (go_at_call 80;refine (bU _ _ _ _).mono ?_;rintro e w3 ⟨rfl,rfl⟩))
  go_ret
  exact ⟨by first | exact aK HD.out.symm | (refine aK ?_;simp [inB]),CU.trans (b.mono CI)⟩
def lQ (q:aL × al):List Value:=[.int .i64 q.2.start,.int .i64 q.2.stop,.slice q.1.a0 q.2.CE.length q.1.c0,.slice q.1.a1 q.2.CA.length q.1.c1,.slice q.1.a2 q.2.Cy.length q.1.c2,.slice q.1.a3 q.2.CF.length q.1.c3,.slice q.1.a4 q.2.over.length q.1.c4,.slice q.1.a5 q.2.Cz.length q.1.c5]
def nP (qs:List (aL × al)):List Value:=qs.flatMap lQ
theorem AA (q:aL × al):∀ u ∈ lQ q,u.oneCell'=true:=by
 intro u hu;simp only [lQ,List.mem_cons,List.not_mem_nil,or_false] at hu;rcases hu with rfl | rfl | rfl | rfl | rfl | rfl | rfl | rfl <;> rfl
theorem xZ (qs:List (aL × al))(q:aL × al):nP qs++lQ q=nP (qs++[q]):=by simp [nP]
structure dZ (B:Nat)(w:World)(x:Option Addr)(y:Nat)(qs:List (aL × al)):Prop where
 row:w.ownsRow B 44 8 (.slice x qs.length y) qs.length (nP qs)
 own:∀ q ∈ qs,cU B w q.1 q.2
 dis:qs.Pairwise (fun a c => ∀ i j,i<6->j<6->∀ b,AdB (adR a.1 i) b->¬ AdB (adR c.1 j) b)
 out:∀ q ∈ qs,∀ j,j<6->∀ b,AdB (adR q.1 j) b->(Value.slice x qs.length y).ownBlock≠some b
theorem dZ.nil (B:Nat)(w:World):dZ B w none 0 []:=⟨⟨rfl,Or.inl ⟨rfl,rfl⟩⟩,(fun q hq=>by cases hq),List.Pairwise.nil,fun q hq=>by cases hq⟩
theorem iC {e s n:Nat}{v:Value}{xs:List Value}(h:w.ownsRow B e s v n xs)(hb:∀ b,v.ownBlock=some b->w'.heap[b]? = w.heap[b]?):w'.ownsRow B e s v n xs:=by
 refine ⟨h.1,?_⟩;rcases h.2 with q | ⟨g,a,c,q1,q2,q3,q4⟩
 ·exact Or.inl q
 ·refine Or.inr ⟨g,a,c,q1,q2,(hb g (by rw [q1];rfl)).trans q3,q4⟩
theorem kW {n b:Nat}(h:(Value.slice x n y).ownBlock=some b):AdB x b:=by
 cases x with
 | none=>cases h
 | some a =>
  injection h with h;obtain ⟨ab,ao,c⟩:=a;exact ⟨ao,c,by rw [<-h]⟩
theorem cU.kept (h:cU B w d r)(hb:∀ j,j<6->∀ b,AdB (adR d j) b->w'.heap[b]? = w.heap[b]?):cU B w' d r:=
 ⟨iC h.CE (fun b q=>hb 0 CG b (kW q)),iC h.CA (fun b q=>hb 1 CG b (kW q)),iC h.Cy (fun b q=>hb 2 CG b (kW q)),iC h.CF (fun b q=>hb 3 CG b (kW q)),iC h.over (fun b q=>hb 4 CG b (kW q)),iC h.Cz (fun b q=>hb 5 CG b (kW q)),h.dis⟩
theorem cU.below (h:cU B w d r)(hb:Cx w w'):cU B w' d r:=
 ⟨aq h.CE hb,aq h.CA hb,aq h.Cy hb,aq h.CF hb,aq h.over hb,aq h.Cz hb,h.dis⟩
theorem dZ.mono {B':Nat}{qs:List (aL × al)}(h:dZ B w x y qs)(hB:B'<=B):dZ B' w x y qs:=
 ⟨dV h.row hB,fun q hq=>(h.own q hq).mono hB,h.dis,h.out⟩
theorem dZ.push {wr wp:World}{x':Option Addr}{y':Nat}{qs:List (aL × al)}{q:aL × al}(h:dZ B wr x y qs)(hb:Cx wr wp)(hq:cU wr.heap.size wp q.1 q.2)(hB:B<=wr.heap.size)
  (h1:w'.ownsRow B 44 8 (.slice x' (qs.length+1) y') (qs.length+1) (nP qs++lQ q)) (h2:wp.grownBy w' (Value.slice x qs.length y).ownBlock) (h3:∀ b,(Value.slice x' (qs.length+1) y').ownBlock=some b->(Value.slice x qs.length y).ownBlock=some b\/wp.heap.size<=b):dZ B w' x' y' (qs++[q]):=by
 have hl:(qs++[q]).length=qs.length+1:=CI
 have f:∀ b,(Value.slice x qs.length y).ownBlock=some b->b<wr.heap.size:=fun b e=>(h.row.lt b e).2
 refine ⟨by rw [hl,<-xZ];exact h1,?_,?_,?_⟩
 ·intro r hr;rcases List.mem_append.1 hr with hr | hr
  ·refine ((h.own r hr).below hb).kept (fun j hj b d=>?_)
   have g:=((h.own r hr).blk j hj b d).2;exact h2.block b (Nat.lt_of_lt_of_le g hb.size) (fun e=>h.out r hr j hj b d e.symm)
  ·have:r=q:=by simpa using hr
   subst this;refine (hq.mono hB).kept (fun j hj b d=>?_)
   have hg:=hq.blk j hj b d;exact h2.block b hg.2 (fun e=>by have:=f b e.symm;omega)
 ·refine List.pairwise_append.2 ⟨h.dis,List.pairwise_singleton _ _,?_⟩;intro a ha c hc i j hi hj b h4 h5;have:c=q:=by simpa using hc
  subst this;have g1:=((h.own a ha).blk i hi b h4).2;have g2:=(hq.blk j hj b h5).1;omega
 ·intro r hr j hj b d e;rw [hl] at e;rcases List.mem_append.1 hr with hr | hr
  ·rcases h3 b e with h6 | h6
   ·exact h.out r hr j hj b d h6
   ·have g1:=((h.own r hr).blk j hj b d).2;have:=hb.size;omega
  ·have:r=q:=by simpa using hr
   subst this;have g1:=hq.blk j hj b d;rcases h3 b e with h6 | h6
   ·have:=f b h6;omega
   ·omega
theorem og {P:Program}{Wp:World}{ops:Array Oper}{rest:List Oper}{o:Oper}{a:Act}{Q:Exit->Act->World->Prop}(hg:o.guard=none)(s x:Operand)(t:TypeId)
  (hop:o.op=Op.call { callee:=Callee.builtin Builtin.append,args:=#[s,x],argTypes:=#[t,t] })
  (base:Nat) (e:TypeId) (z:Value) (size bytes:Nat) (h1:P.underlying t=some (.slice e)) (hi:(P.info? e).map (fun i=>(i.zero,i.size,i.bytes))=some (some z,size,bytes)) (h6:z.cells.size=size) (h7:0<size)
  (v:Value) (k:Nat) (xs:List Value) (hs:a.eval s=v) (hown:Wp.ownsRow base e size v k xs) (g:Nat) (hgs:g=Wp.heap.size) (news:List Value) (hx:a.eval x = .slice (some ⟨g,0,none⟩) 1 1) (hn:news.length=size)
  (h1c:∀ u ∈ news,u.oneCell'=true) (b1:k+1<=maxLen) (b2:(k+1)*bytes<=140737488355328) (b3:base<=Wp.heap.size)
  (hK:∀ x' y' w',w'.ownsRow base e size (.slice x' (k+1) y') (k+1) (xs++news)->Wp.grownBy w' v.ownBlock->(∀ b,(Value.slice x' (k+1) y').ownBlock=some b->v.ownBlock=some b\/Wp.heap.size<=b)->wpList P ops Q rest (a.put o.dst (.slice x' (k+1) y')) w') :
  wpList P ops Q (o::rest) a (Wp.alloc (.cells news.toArray e)):=by
 subst hgs;refine gF _ hg s x t hop base e z size bytes h1 hi h6 h7 v k xs hs (hown.alloc _) ⟨Wp.heap.size,0,none⟩ 1 news hx hn ?_ h1c b1 b2 CN ?_
 ·intro j u hu;rw [bH,Nat.zero_add];have:=cell_of_row (Wp.alloc (.cells news.toArray e)) Wp.heap.size j news.toArray e (0,0) (heap_alloc_new Wp _);rw [this];simpa using hu
 ·intro x' y' w' r1 r2 r3;refine hK x' y' w' r1 ⟨r2.os,r2.tape,r2.output,Nat.le_trans CI r2.size,fun k hk hne=>?_⟩ (fun b hb=>(r3 b hb).imp id (fun h=>Nat.le_trans CI h))
  exact (r2.block k CN hne).trans (Below.heap_alloc _ _ _ hk)
def wP (ps:List af)(js:List aj)(ss:List af)(over:Int)(w:World)(e:Ending)(w':World):Prop:=
 ∃ x y qs,e = .returned (.slice x qs.length y)/\qs.map Prod.snd=aX ps js ss over/\dZ w.heap.size w' x y qs/\Cx w w'
theorem qR (pa ja sa:Option Addr)(pc jc sc:Nat)(ps:List af)(js:List aj)(ss:List af)(over:Int)(w:World)(hp:Hid (ar w pa ps))(hj:Hid (aP w ja js))(hs:Hid (ar w sa ss)):
  Calls prog 10 #[.agg #[.slice pa ps.length pc,.slice ja js.length jc],.slice sa ss.length sc,.int .i64 over] w (wP ps js ss over w):=by
 have o:Hid (∀ u:World,Cx w u->Calls prog 37 #[.agg #[.slice pa ps.length pc,.slice ja js.length jc],.slice sa ss.length sc,.int .i64 over] u fun e w'=>e = .returned (.bool (decide (cE ps js ss=(0,0)/\0<=over/\over<=100000)))/\Cx u w'):=fun u hu=>oG pa ja sa pc jc sc ps js ss over u (hp.out.below hu) (hj.out.below hu) (hs.out.below hu)
 have L:=aa (sI ps js ss over)
 by_cases hg:cE ps js ss=(0,0)/\0<=over/\over<=100000
 ·rw [decide_eq_true hg] at o;have z:=aa (L.out.trans (if_pos hg));obtain ⟨N,ae,ag⟩:=hg;have R:=aa (lX N);have ah:Hid (∀ u:World,Cx w u->Calls prog 38 #[.agg #[.slice pa ps.length pc,.slice ja js.length jc],.slice sa ss.length sc] u fun e w' => ∃ K,e = .returned (.pointer (some ⟨K,0,none⟩))/\u.heap.size<=K/\tk w' K pa ja sa pc jc sc ps js ss/\Cx u w'):=fun u hu=>uV pa ja sa pc jc sc ps js ss R u (hp.out.below hu) (hj.out.below hu) (hs.out.below hu)
  have ak:=aa (vT ps js ss);have am:=aa (yM R.out);clear N
  go_enter func10,ntmps10
  go_upto_region 1 with fail
  generalize hW:World.alloc w _=W;have A:Hid (Cx w W):=by rw [<-hW];exact CV.alloc CW _
  have n0:W.cell? ⟨w.heap.size,0,none⟩=some (.slice pa ps.length pc):=by rw [<-hW];simp [go_sem]
  have n1:W.cell? ⟨w.heap.size,1,none⟩=some (.slice ja js.length jc):=by rw [<-hW];simp [go_sem]
  have aI:w.heap.size<W.heap.size:=by rw [<-hW];simp
  clear hW
  go_upto_region 3 with (go_at_call 37;refine (o.out _ A.out).mono ?_;rintro e w1 ⟨rfl,g⟩;have B:Hid (Cx w w1):=A.out.trans (g.mono A.out.size);replace n0:=cell_later g n0;replace n1:=cell_later g n1;have an:=ai n0;dsimp only at an;clear g)
  go_upto_region 5 with (go_at_call 38;refine (ah.out _ B.out).mono ?_;rintro e w2 ⟨KT,rfl,hK,ao,O⟩)
  obtain ⟨M,hT⟩:=ao;have HT:=aa hT;have T:Hid (Cx w w2):=B.out.trans (O.mono B.out.size);have U:=aa (qN KT M pa ja sa pc jc sc ps js ss R w2 HT);clear hT O hK n0 n1
  go_wp2_with (go_at_call 39;refine U.out.mono ?_;rintro e w3 ⟨v,rfl,ap,C⟩;obtain ⟨xp,yp,xs,rfl,D,h,X⟩:=ap)
  have E:Hid (Cx w w3):=T.out.trans (C.mono T.out.size);have au:=aa (HT.out.below C);have aJ:xs.length<=300:=by have h1:=ak.out;rw [<-D] at h1;simpa using h1
  have Y:=aa D;have av:=aa h;have aw:=aa X;have ax:Hid (∀ q ∈ xs,lm ps js ss q.2):=fun q hq=>am.out q.2 (by rw [<-Y.out];exact List.mem_map.2 ⟨q,hq,rfl⟩)
  clear D h X C U
  go_loopw [8,22] (fun rv c wr => ∃ (m:Nat) (x:Option Addr) (y:Nat) (qs:List (aL × al)),m<=xs.length/\c = .int .i64 m/\rv = .slice x qs.length y/\Hid (qs.map Prod.snd=(xs.take m).map (fun q=>dr ps js ss over q.2))/\Hid (dZ w3.heap.size wr x y qs)/\Cx w3 wr) (fun _ c _=>xs.length-(intOf c).toNat)
  case atStart=>exact ⟨0,none,0,[],Nat.zero_le _,rfl,rfl,rfl,dZ.nil _ _,Below.refl _ _⟩
  case round =>
   obtain ⟨m,x,y,qs,hm,rfl,rfl,HQ,F,hb⟩:=hrel;have Z:=hb.size;have HB:=aa hb;have G:qs.length=m:=by
    have h1:=congrArg List.length HQ.out;simp only [List.length_map,List.length_take] at h1;omega
   by_cases r:m<xs.length
   ·have ay:(m:Int)<xs.length:=CG
    obtain ⟨b,az,ab⟩:=av.out.resolve_left (nz r);subst az;obtain ⟨q,hq⟩:∃ q,xs[m]=q:=⟨_,rfl⟩;have H:q ∈ xs:=by rw [<-hq];exact List.getElem_mem r
    have f:=ab m r;rw [hq] at f;obtain ⟨d,p⟩:=q;have p0:=cell_later hb (f 0 _ rfl);have p1:=cell_later hb (f 1 _ rfl);have p2:=cell_later hb (f 2 _ rfl);have p3:=cell_later hb (f 3 _ rfl);have p4:=cell_later hb (f 4 _ rfl);have p5:=cell_later hb (f 5 _ rfl);rw [Nat.add_zero] at p0;dsimp only at p0 p1 p2 p3 p4 p5;have aA:=ai p0;dsimp only at aA;have aB:Hid ((xs.take (m+1)).map (fun q=>dr ps js ss over q.2)=(xs.take m).map (fun q=>dr ps js ss over q.2)++[dr ps js ss over p]):=by
     unfold Hid;rw [List.take_succ_eq_append_getElem r,List.map_append,hq];rfl
    have aC:Hid (∀ u:World,Cx wr u->Calls prog 40 #[.pointer (some ⟨KT,0,none⟩),.agg #[.int .i64 p.start,.int .i64 p.stop,.bool p.ended,.slice d.a0 p.CE.length d.c0,.slice d.a1 p.CA.length d.c1,.slice d.a2 p.Cy.length d.c2],.int .i64 over] u (kB ps js ss over p u)):=fun u hu=>by
     have h9:=HB.out.trans (hu.mono HB.out.size);exact va KT M pa ja sa pc jc sc ps js ss R d p (ax.out _ H) over ae ag u (au.out.below h9) ((aw.out _ H).below h9)
    have aD:Hid (∀ u e u',kB ps js ss over p u e u'->∃ d' a,a=dr ps js ss over p/\e = .returned (.agg #[.int .i64 a.start,.int .i64 a.stop,.slice d'.a0 a.CE.length d'.c0,.slice d'.a1 a.CA.length d'.c1,.slice d'.a2 a.Cy.length d'.c2,.slice d'.a3 a.CF.length d'.c3,.slice d'.a4 a.over.length d'.c4,.slice d'.a5 a.Cz.length d'.c5])/\cU u.heap.size u' d' a/\Cx u u'):=fun u e u' ⟨d',h1,h2,h3⟩=>⟨d',_,rfl,h1,h2,h3⟩
    clear ab f H hq
    go_upto_region 8 with fail
    generalize hV:World.alloc wr _=V;have s:Hid (Cx wr V):=by rw [<-hV];exact CV.alloc CW _
    have s0:V.cell? ⟨wr.heap.size,0,none⟩=some (.int .i64 p.start):=by rw [<-hV];simp [go_sem]
    have s1:V.cell? ⟨wr.heap.size,1,none⟩=some (.int .i64 p.stop):=by rw [<-hV];simp [go_sem]
    have s2:V.cell? ⟨wr.heap.size,2,none⟩=some (.bool p.ended):=by rw [<-hV];simp [go_sem]
    have s3:V.cell? ⟨wr.heap.size,3,none⟩=some (.slice d.a0 p.CE.length d.c0):=by rw [<-hV];simp [go_sem]
    have s4:V.cell? ⟨wr.heap.size,4,none⟩=some (.slice d.a1 p.CA.length d.c1):=by rw [<-hV];simp [go_sem]
    have s5:V.cell? ⟨wr.heap.size,5,none⟩=some (.slice d.a2 p.Cy.length d.c2):=by rw [<-hV];simp [go_sem]
    have aK:wr.heap.size<V.heap.size:=by rw [<-hV];simp
    clear hV p0 p1 p2 p3 p4 p5;have ac:=aa G;clear G
    go_wp2_with (first
     | (go_at_call 40;refine (aC.out _ s.out).mono ?_;intro e w5 h5;obtain ⟨d',a,i,rfl,h,ad⟩:=aD.out _ _ _ h5;have I:=aa i;have J:=aa h;have t:Hid (Cx wr w5):=s.out.trans (ad.mono s.out.size);have aE:=t.out.size;have j:=aa (aq F.out.row t.out);have k:w3.heap.size<=w5.heap.size:=Nat.le_trans Z aE;clear h5 i h ad)
     | (at_builtin;refine og rfl (.tmp 26) (.tmp 31) 30 rfl w3.heap.size 44 _ 8 160 underlying30 Tryz.infoRoute rfl CJ (.slice x qs.length y) qs.length (nP qs) rfl j.out _ rfl (lQ (d',a)) rfl rfl (AA (d',a)) (by have h9:=ac.out;unfold maxLen;omega) (by have h9:=ac.out;omega) k ?_;intro x6 y6 w6 t1 t2 t3))
    have l:=F.out.push t.out (q:=(d',a)) (J.out.mono s.out.size) Z t1 t2 t3;have aF:Cx w3 w6:=dw (HB.out.trans (t.out.mono HB.out.size)) j.out t2 k
    go_roundw
    case rel =>
     refine ⟨m+1,x6,y6,qs++[(d',a)],CG,by go_num,CI,?_,l,aF⟩
     unfold Hid;rw [aB.out,List.map_append,HQ.out]
     show _++[a]=_
     rw [I.out]
    case measure=>simp [intOf];omega
   ·have aG:m=xs.length:=CG
    have ay:¬ (m:Int)<xs.length:=CG
    subst aG;have n:qs.map Prod.snd=aX ps js ss over:=by
     rw [z.out,HQ.out,List.take_length,<-Y.out,List.map_map];rfl
    have aH:=aa n;clear n G
    go_wp2_with fail
    go_ret
    exact ⟨x,y,qs,rfl,aH.out,F.out.mono E.out.size,E.out.trans (HB.out.mono E.out.size)⟩
 ·rw [decide_eq_false hg] at o;have z:=aa (L.out.trans (if_neg hg));clear hg
  go_enter func10,ntmps10
  go_wp2_with (go_at_call 37;refine (o.out _ CU).mono ?_;rintro e w1 ⟨rfl,g⟩)
  go_ret
  exact ⟨none,0,[],rfl,by rw [z.out];rfl,dZ.nil _ _,CU.trans (g.mono CI)⟩
theorem cU.lists (h:cU B w d r):bq w d r:=
 ⟨(cz h.CE).1,(cz h.CA).1,(eJ h.Cy).1,(ei h.CF).1,(ei h.over).1,(jt h.Cz).1,fun e=>((cz h.CA).2 e).2⟩
theorem Au (q:aL × al):(lQ q).length=8:=rfl
theorem dZ.cell {g:Nat}{qs:List (aL × al)}(h:dZ B w (some ⟨g,0,none⟩) y qs){p:Nat}(hp:p<qs.length){j:Nat}{u:Value}(hu:(lQ qs[p])[j]? = some u):w.cell? ⟨g,p*8+j,none⟩=some u:=by
 have hj:j<8:=by rw [<-Au qs[p]];exact (List.getElem?_eq_some_iff.1 hu).1
 have hc:=h.row.cells rfl (p*8+j) u;rw [bH,Nat.zero_add] at hc;refine hc ?_;rw [<-hu];exact aZ lQ 8 (fun _=>rfl) qs p j hp hj
theorem dZ.addr {qs:List (aL × al)}(h:dZ B w x y qs)(h0:0<qs.length):∃ g,x=some ⟨g,0,none⟩:=by
 rcases h.row.2 with ⟨_,h2⟩ | ⟨g,a,b,h1,_⟩
 ·omega
 ·injection h1 with h1;exact ⟨g,h1⟩
theorem dZ.routes {qs:List (aL × al)}(h:dZ B w x y qs)(hl:qs.length<=300):dG w x (qs.map Prod.snd):=by
 refine ⟨by unfold maxLen;simp;omega,?_⟩
 by_cases h0:qs.length=0
 ·exact Or.inl (by rw [List.eq_nil_of_length_eq_zero h0];rfl)
 ·obtain ⟨g,rfl⟩:=h.addr CG
  refine Or.inr ⟨g,0,rfl,fun i hi=>?_⟩
  have a:i<qs.length:=by simpa using hi
  refine ⟨qs[i].1,?_,?_⟩
  ·rw [List.getElem_map,Nat.zero_add];exact ⟨h.cell a (j:=0) rfl,h.cell a (j:=1) rfl,h.cell a (j:=2) rfl,h.cell a (j:=3) rfl,h.cell a (j:=4) rfl,h.cell a (j:=5) rfl,h.cell a (j:=6) rfl,h.cell a (j:=7) rfl⟩
  ·rw [List.getElem_map];exact (h.own _ (List.getElem_mem a)).lists
end Go.Proofs.YtmkdgnmmebldgaaGreatDoor
namespace Go.Proofs.YtmkdgnmmebldgaaGreatDoor
open Go.RowKit Go.Deep
theorem tv (pa ja sa ra ta:Option Addr)(pc jc sc rc tc:Nat)(ps:List af)(js:List aj)(ss:List af)(over:Int)(rs:List al)(tt:List (List Int))(w:World)(hp:Hid (ar w pa ps))(hj:Hid (aP w ja js))(hs:Hid (ar w sa ss))(hr:Hid (dG w ra rs))(ht:Hid (gH w ta tt)):
  Calls prog 41 #[.agg #[.slice pa ps.length pc,.slice ja js.length jc],.slice sa ss.length sc,.int .i64 over,.slice ra rs.length rc,.slice ta tt.length tc] w fun e w'=>e = .returned (pR (gp ps js ss over rs tt))/\Cx w w':=by
 obtain ⟨O,hO⟩:∃ O,gp ps js ss over rs tt=O:=⟨_,rfl⟩;rw [hO];have HO:=aa hO;clear hO
 go_enter func41,ntmps41
 go_upto_region 1 with fail
 generalize hW:World.alloc w _=W;have e0:W.cell? ⟨w.heap.size,0,none⟩=some (.slice pa ps.length pc):=by rw [<-hW];simp [go_sem]
 have e1:W.cell? ⟨w.heap.size,1,none⟩=some (.slice ja js.length jc):=by rw [<-hW];simp [go_sem]
 have a:Hid (Cx w W):=by rw [<-hW];exact blo
 have HP:=aC (hp.out.below a.out);have HJ:=aC (hj.out.below a.out);have HS:=aC (hs.out.below a.out);have HR:=aC (hr.out.below a.out);have HT:=aC (ht.out.below a.out);clear hW hp hj hs hr ht;have g:=aa (oG pa ja sa pc jc sc ps js ss over W HP HJ HS)
 by_cases hg:cE ps js ss=(0,0)/\0<=over/\over<=100000
 rotate_left
 ·rw [decide_eq_false hg] at g;have HE:Hid (O=some (1,none)):=by unfold Hid;rw [<-HO.out];exact qF hg
  clear hg
  go_wp2_with (go_at_call 37;refine g.out.mono ?_;rintro e w1 ⟨rfl,f⟩)
  go_ret
  exact ⟨by rw [HE.out];rfl,a.out.trans (f.mono a.out.size)⟩
 have HG:=aa hg;rw [decide_eq_true hg] at g;clear hg
 go_upto_region 3 with (go_at_call 37;refine g.out.mono ?_;rintro e w1 ⟨rfl,f⟩)
 have j:=aa f;replace e0:=cell_later f e0;replace e1:=cell_later f e1;clear f g;have C:=aa (qR pa ja sa pc jc sc ps js ss over w1 (HP.out.below j.out) (HJ.out.below j.out) (HS.out.below j.out));have n:=aa (ie ps js ss over);obtain ⟨b,d⟩:∃ q,aX ps js ss over=q:=⟨_,rfl⟩;rw [d] at n;have s:=aa d;clear d
 go_wp2_with fail
 refine C.out.mono ?_;rintro e w2 ⟨x,y,qs,rfl,o,l,D⟩;rw [s.out] at o;have t:Hid (qs.length=b.length):=by unfold Hid;rw [<-o];simp
 have E:Hid (dG w2 x b):=by have h:=l.routes (by rw [t.out];exact n.out.1);rw [o] at h;exact h
 rw [t.out];have u:Hid (Cx W w2):=j.out.trans (D.mono j.out.size);have F:=aa (HR.out.below u.out);clear o l D C t e0 e1
 go_wp2_with fail
 refine (pM ra x rc y rs b w2 F E).mono ?_;rintro e w3 ⟨rfl,G⟩;have p:Hid (Cx W w3):=u.out.trans (G.mono u.out.size);clear G F E;cases m:dF rs b 0 with
 | some ci =>
  obtain ⟨c,i⟩:=ci;have HE:Hid (O=some (c,some ((i:Int),0))):=by unfold Hid;rw [<-HO.out];exact yR HG.out (by rw [s.out];exact m)
  clear m;unfold o8 j0
  go_wp2_with fail
  go_ret
  exact ⟨by rw [HE.out];rfl,a.out.trans (p.out.mono a.out.size)⟩
 | none =>
  have H:=aa (nD rs b 0 m);have I:Hid (dF rs (aX ps js ss over) 0=none):=by unfold Hid;rw [s.out];exact m
  clear m;unfold o8;have U:Hid (od rs):=fun r hr=>(n.out.2 r (by rw [<-H.out];exact hr)).short
  have V:Hid (Ch rs):=fun i hi=>(n.out.2 _ (by rw [<-H.out];exact List.getElem_mem hi)).wf
  have X:=aa (HR.out.below p.out);have v:=aa (rZ ra rc rs w3 X U V);have z:=aa (qk rs);obtain ⟨uu,A⟩:∃ uu,bD rs=uu:=⟨_,rfl⟩;rw [A] at v z;have J:=aa A;clear A
  go_wp2_with fail
  refine v.out.mono ?_;rintro e w4 ⟨x4,y4,L,rfl,ho,M,_,N⟩;have Y:Hid (gH w4 x4 uu):=i9 ho M (by have:=z.out.1;unfold maxLen;omega) (fun i h=>by have:=z.out.2 i h;unfold maxLen;omega)
  have B:Hid (Cx W w4):=p.out.trans (N.mono p.out.size);have Z:=aa (HT.out.below B.out);clear ho M N v
  go_wp2_with fail
  refine (qM ta x4 tc y4 tt uu w4 Z Y).mono ?_;rintro e w5 ⟨rfl,R⟩;have ab:Hid (Cx W w5):=B.out.trans (R.mono B.out.size);have HE:Hid (pR O=qJ (iI tt uu)):=by
   unfold Hid;rw [<-HO.out];cases T:iI tt uu with
   | none=>rw [vH HG.out I.out (by rw [J.out];exact T)];rfl
   | some ik=>obtain ⟨i,k⟩:=ik;rw [sY HG.out I.out (by rw [J.out];exact T)];rfl
  clear R
  go_wp2_with fail
  go_ret
  exact ⟨by rw [HE.out];rfl,a.out.trans (ab.out.mono a.out.size)⟩
def nL:Option (Int × Int)->Value
 | none=>.nilIface
 | some (a,b)=>.iface 104 (.agg #[.int .i64 a,.int .i64 b])
theorem Bz:pR none = .nilIface:=rfl
theorem BE (c:Int)(p:Option (Int × Int)):pR (some (c,p)) = .iface 100 (.agg #[.int .i64 c,nL p]):=by
 rcases p with _ | ⟨a,b⟩ <;> rfl
theorem x9 (p:Option (Int × Int)):(nL p).oneCell'=true:=by
 rcases p with _ | ⟨a,b⟩ <;> rfl
theorem ag.frozen {S:Nat->Prop}{w w':World}(h:ag S w w'){p:Addr}(hl:p.block<w.heap.size)(hs:¬ S p.block):w'.frozen? p=w.frozen? p:=
 World.frozen?_of_block (w:=w) (h.block p.block hl hs)
theorem te (pa ja sa ra ta:Option Addr)(pc jc sc rc tc np nj ns nr nt:Nat)(over:Int)(O:Option (Int × Option (Int × Int)))(w:World)(HCA:Hid (∀ u:World,Cx w u->Calls prog 41 #[.agg #[.slice pa np pc,.slice ja nj jc],.slice sa ns sc,.int .i64 over,.slice ra nr rc,.slice ta nt tc] u fun e w'=>e = .returned (pR O)/\Cx u w'))(hg:Hid (w.cell? ⟨0,0,none⟩=some (.iface 240 (.agg #[.pointer (some ⟨4,97,none⟩)])))):
  Calls prog 12 #[.agg #[.slice pa np pc,.slice ja nj jc],.slice sa ns sc,.int .i64 over,.slice ra nr rc,.slice ta nt tc] w fun e w'=>e = .returned (eM O)/\Cx w w':=by
 go_enter func12,ntmps12
 go_upto_region 1 with fail
 generalize hW:World.alloc (World.alloc w _) _=W;have e0:W.cell? ⟨w.heap.size,0,none⟩=some (.slice pa np pc):=by rw [<-hW];simp [go_sem]
 have e1:W.cell? ⟨w.heap.size,1,none⟩=some (.slice ja nj jc):=by rw [<-hW];simp [go_sem]
 have r0:W.cell? ⟨w.heap.size+1,0,none⟩=some (.int .i64 0):=by rw [<-hW];simp [go_sem]
 have r1:W.cell? ⟨w.heap.size+1,1,none⟩=some (.int .i64 0):=by rw [<-hW];simp [go_sem]
 have r2:W.cell? ⟨w.heap.size+1,2,none⟩=some (.int .i64 0):=by rw [<-hW];simp [go_sem]
 have z:∀ o,W.frozen? ⟨w.heap.size+1,o,none⟩=false:=by intro o;rw [<-hW];simp [go_sem]
 have F:Cx w W:=by rw [<-hW];exact blo
 have X:w.heap.size+1<W.heap.size:=by rw [<-hW];simp
 clear hW
 go_upto_region 2 with (go_at_call 41;refine (HCA.out _ F).mono ?_;rintro e w1 ⟨rfl,B⟩)
 clear HCA e0 e1;have s:=F.trans (B.mono F.size);have ae:=B.size
 go_upto_region 4 with fail
 generalize j:World.alloc (World.alloc w1 _) _=W2;have a0:W2.cell? ⟨w1.heap.size,0,none⟩=some (.int .i64 0):=by rw [<-j];simp [go_sem]
 have a1:W2.cell? ⟨w1.heap.size,1,none⟩=some (.int .i64 0):=by rw [<-j];simp [go_sem]
 have a2:W2.cell? ⟨w1.heap.size,2,none⟩=some (.int .i64 0):=by rw [<-j];simp [go_sem]
 have p0:W2.cell? ⟨w1.heap.size+1,0,none⟩=some (.int .i64 0):=by rw [<-j];simp [go_sem]
 have p1:W2.cell? ⟨w1.heap.size+1,1,none⟩=some .nilIface:=by rw [<-j];simp [go_sem]
 have zA:∀ o,W2.frozen? ⟨w1.heap.size,o,none⟩=false:=by intro o;rw [<-j];simp [go_sem]
 have zP:∀ o,W2.frozen? ⟨w1.heap.size+1,o,none⟩=false:=by intro o;rw [<-j];simp [go_sem]
 have J:Cx w1 W2:=by rw [<-j];exact blo
 have Y:W2.heap.size=w1.heap.size+2:=by rw [<-j];simp
 clear j;have h:Cx W W2:=B.trans (J.mono B.size);have t:Cx w W2:=s.trans (J.mono s.size);replace r0:=cell_later h r0;replace r1:=cell_later h r1;replace r2:=cell_later h r2;replace z:∀ o,W2.frozen? ⟨w.heap.size+1,o,none⟩=false:=fun o=>(h.frozen (p:=⟨w.heap.size+1,o,none⟩) X).trans (z o)
 have g2:=cell_later t hg.out;obtain ⟨A,hA⟩:∃ A,w1.heap.size=A:=⟨_,rfl⟩;obtain ⟨R,hR⟩:∃ R,w.heap.size+1=R:=⟨_,rfl⟩;have aj:Hid (w.heap.size+1=R):=hR;rw [hA] at a0 a1 a2 p0 p1 zA zP Y ae ⊢;rw [hR] at r0 r1 r2 z X ⊢;obtain ⟨P,hP⟩:∃ P,A+1=P:=⟨_,rfl⟩;rw [hP] at p0 p1 zP ⊢;clear B J F s h hg;have ak:R<A:=CG
 have af:R≠A:=CG
 have l:R≠P:=CG
 have m:A≠P:=CG
 have al:P<W2.heap.size:=CG
 have ag:A<W2.heap.size:=CG
 have Z:R<W2.heap.size:=CG
 have L:=z 0;have M:=z 1;have N:=z 2;have G:=aa t;have am:w.heap.size<=R:=CG
 clear hA hR t Y;rcases O with _ | ⟨c,p⟩
 ·rw [Bz]
  go_wp2_with (go_at_call 42;refine (Bk _ _).mono ?_;rintro e w3 ⟨rfl,rfl⟩)
  have ab:=G.out;exact bodyPost_ret (v:=.agg #[.int .i64 0,.int .i64 0,.int .i64 0]) (by simp [results,results12,go_sem,r0,r1,r2,Z]) rfl ⟨rfl,blo⟩
 rw [BE]
 go_upto_region 5 with (go_at_call 42;refine (Bl (.int .i64 c) (nL p) (.int .i64 0) .nilIface P W2 rfl (x9 p) g2 p0 p1 (zP 0) (zP 1)).mono ?_;rintro e w3 ⟨rfl,q0,q1,g⟩)
 replace a0:=g.cell a0 (by exact m)
 replace a1:=g.cell a1 (by exact m)
 replace a2:=g.cell a2 (by exact m)
 replace r0:=g.cell r0 (by exact l)
 replace r1:=g.cell r1 (by exact l)
 replace r2:=g.cell r2 (by exact l)
 replace g2:=g.cell g2 (by show ¬ (0=P);omega)
 have T:∀ o,w3.frozen? ⟨A,o,none⟩=false:=fun o=>(g.frozen (p:=⟨A,o,none⟩) ag m).trans (zA o)
 have ac:∀ o,w3.frozen? ⟨R,o,none⟩=false:=fun o=>(g.frozen (p:=⟨R,o,none⟩) Z l).trans (z o)
 have an:=g.size;have ad:Hid (Cx w w3):=G.out.trans (g.below G.out.size (fun k hk e=>CG))
 clear g zA zP z p0 p1 L M N G;have ah:=T 0
 go_upto_region 7 with fail
 have n:R<w3.heap.size:=CG
 have q:A<w3.heap.size:=CG
 have U:0<w3.heap.size:=ai g2;have ao:0≠A:=CG
 have ap:A≠0:=CG
 generalize d:World.alloc (World.setCell w3 _ _) _=W4;have b0:W4.cell? ⟨A,0,none⟩=some (.int .i64 c):=by rw [<-d];simp [go_sem,a0,q]
 have b1:W4.cell? ⟨A,1,none⟩=some (.int .i64 0):=by rw [<-d];simp [go_sem,a1,q]
 have b2:W4.cell? ⟨A,2,none⟩=some (.int .i64 0):=by rw [<-d];simp [go_sem,a2,q]
 have s0:W4.cell? ⟨R,0,none⟩=some (.int .i64 0):=by rw [<-d];simp [go_sem,r0,n]
 have s1:W4.cell? ⟨R,1,none⟩=some (.int .i64 0):=by rw [<-d];simp [go_sem,r1,n]
 have s2:W4.cell? ⟨R,2,none⟩=some (.int .i64 0):=by rw [<-d];simp [go_sem,r2,n]
 have d0:W4.cell? ⟨w3.heap.size,0,none⟩=some (.int .i64 0):=by rw [<-d];simp [go_sem]
 have d1:W4.cell? ⟨w3.heap.size,1,none⟩=some (.int .i64 0):=by rw [<-d];simp [go_sem]
 have g4:W4.cell? ⟨0,0,none⟩=some (.iface 240 (.agg #[.pointer (some ⟨4,97,none⟩)])):=by rw [<-d];simp [go_sem,g2,U]
 have H:∀ o,W4.frozen? ⟨A,o,none⟩=false:=by intro o;rw [<-d];simp [go_sem,T,q]
 have r:∀ o,W4.frozen? ⟨R,o,none⟩=false:=by intro o;rw [<-d];simp [go_sem,ac,n]
 have zD:∀ o,W4.frozen? ⟨w3.heap.size,o,none⟩=false:=by intro o;rw [<-d];simp [go_sem]
 have I:Hid (Cx w W4):=by rw [<-d];exact (ad.out.setCell (by simp only;omega) _).alloc (by simpa using ad.out.size) _
 have aq:w3.heap.size<W4.heap.size:=by rw [<-d];simp
 clear d ah T ac a0 a1 a2 r0 r1 r2 g2 q0 q1;generalize w3.heap.size=D at *;have y:R≠D:=CG
 have C:A≠D:=CG
 have x:R<W4.heap.size:=CG
 have V:A<W4.heap.size:=CG
 rcases p with _ | ⟨a,b⟩
 ·have E:nL none = .nilIface:=rfl;rw [E];clear E
  go_upto_region 9 with (go_at_call 42;refine (AO (.int .i64 c) (.int .i64 0) D W4 g4 d0).mono ?_;rintro e w5 ⟨rfl,i⟩)
  replace b0:=cell_later i b0;replace b1:=cell_later i b1;replace b2:=cell_later i b2;replace s0:=cell_later i s0;replace s1:=cell_later i s1;replace s2:=cell_later i s2;have L:=(i.frozen (p:=⟨R,0,none⟩) x).trans (r 0);have M:=(i.frozen (p:=⟨R,1,none⟩) x).trans (r 1);have N:=(i.frozen (p:=⟨R,2,none⟩) x).trans (r 2);have ab:=I.out.trans (i.mono I.out.size);clear i H r zD
  go_wp2_with fail
  exact bodyPost_ret (v:=.agg #[.int .i64 c,.int .i64 0,.int .i64 0]) (by simp [results,results12,go_sem,s0,s1,s2]) rfl ⟨rfl,blo⟩
 ·have E:nL (some (a,b)) = .iface 104 (.agg #[.int .i64 a,.int .i64 b]):=rfl;rw [E];clear E
  go_upto_region 8 with (go_at_call 42;refine (BD (.int .i64 c) (.int .i64 a) (.int .i64 b) (.int .i64 0) (.int .i64 0) D W4 rfl rfl g4 d0 d1 (zD 0) (zD 1)).mono ?_;rintro e w5 ⟨rfl,q0,q1,f⟩)
  replace b0:=f.cell b0 C;replace b1:=f.cell b1 C;replace b2:=f.cell b2 C;replace s0:=f.cell s0 y;replace s1:=f.cell s1 y;replace s2:=f.cell s2 y;have ar:=(f.frozen (p:=⟨A,1,none⟩) V C).trans (H 1);have au:=(f.frozen (p:=⟨A,2,none⟩) V C).trans (H 2);have L:=(f.frozen (p:=⟨R,0,none⟩) x y).trans (r 0);have M:=(f.frozen (p:=⟨R,1,none⟩) x y).trans (r 1);have N:=(f.frozen (p:=⟨R,2,none⟩) x y).trans (r 2);have ab:Cx w w5:=I.out.trans (f.below I.out.size (fun k hk e=>CG))
  have av:w.heap.size<=A:=CG
  have aw:R<w5.heap.size:=Nat.lt_of_lt_of_le x f.size;have ax:A<w5.heap.size:=Nat.lt_of_lt_of_le V f.size;clear f H r zD d0 d1 g4
  go_region
  all_goals
   go_wp2_with fail
   exact bodyPost_ret (v:=.agg #[.int .i64 c,.int .i64 a,.int .i64 b]) (by simp [results,results12,go_sem,s0,s1,s2]) rfl ⟨rfl,blo⟩
theorem mw (pa ja sa ra ta:Option Addr)(pc jc sc rc tc:Nat)(ps:List af)(js:List aj)(ss:List af)(over:Int)(rs:List al)(tt:List (List Int))(w:World)(hp:Hid (ar w pa ps))(hj:Hid (aP w ja js))(hs:Hid (ar w sa ss))(hr:Hid (dG w ra rs))(ht:Hid (gH w ta tt))(hg:Hid (w.cell? ⟨0,0,none⟩=some (.iface 240 (.agg #[.pointer (some ⟨4,97,none⟩)])))):
  Calls prog 12 #[.agg #[.slice pa ps.length pc,.slice ja js.length jc],.slice sa ss.length sc,.int .i64 over,.slice ra rs.length rc,.slice ta tt.length tc] w fun e w'=>e = .returned (eM (gp ps js ss over rs tt))/\Cx w w':=
 te pa ja sa ra ta pc jc sc rc tc ps.length js.length ss.length rs.length tt.length over (gp ps js ss over rs tt) w (fun u hu=>tv pa ja sa ra ta pc jc sc rc tc ps js ss over rs tt u (hp.out.below hu) (hj.out.below hu) (hs.out.below hu) (hr.out.below hu) (ht.out.below hu)) hg
end Go.Proofs.YtmkdgnmmebldgaaGreatDoor
