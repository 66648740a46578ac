import Derived.Test.YtmkdgnmmebldgaaGreatDoorPk24
set_option maxRecDepth 100000
set_option maxHeartbeats 8000000
open Go.Proofs.Tryz
namespace Go.Proofs.YtmkdgnmmebldgaaGreatDoor
open Go.RowKit Go.Deep Go.Maps
variable {CF tot:List aI}{at0 left:Int}{js:List aj}{n:Nat}{ps ss:List af}{s:aM}
def ij (ps:List af)(s:aM)(at0:Int)(CF:List aI):Int:=if CF.length=0 then at0 else aR ps (b7 (au s))
def iq (ps:List af)(s:aM)(pos:Int):Int:=(aR ps (au s)-pos)*s.side
structure jO (ps:List af)(js:List aj)(tot:List aI)(n:Nat)(s:aM)(at0 left:Int)(CF:List aI):Prop where
 sv:eR ps s
 l0:0<=left
 ln:left<n
 lb:(CF.length:Int)+left<=100000
 p0:0<=ij ps s at0 CF
 p1:ij ps s at0 CF<=10000000
 d0:1<=iq ps s (ij ps s at0 CF)
 d1:iq ps s (ij ps s at0 CF)<=10000000
 a0:0<=at0/\at0<=10000000
 tot:tot=CF++cL ps js n s (ij ps s at0 CF) left
structure lB (ps:List af)(js:List aj)(tot:List aI)(m:Nat)(s:aM)(left:Int)(CF:List aI):Prop where
 sv:eR ps s
 l0:0<=left
 ln:left<m
 lb:(CF.length:Int)+left<=100000
 ne:CF.length≠0
 tot:tot=CF++(if aH js (aO js (au s)).1=2 then cL ps js m (aD (aY js (aO js (au s)).1 (1-(aO js (au s)).2))) (aR ps (aY js (aO js (au s)).1 (1-(aO js (au s)).2))) left else [])
theorem jO.stop (h:jO ps js tot n s at0 left CF)(h0:left=0):tot=CF:=by
 have hn:=h.ln;obtain ⟨m,rfl⟩:∃ m,n=m+1:=⟨n-1,CG⟩
 rw [h.tot,cL,if_pos CG]
 simp
theorem jO.step (h:jO ps js tot n s at0 left CF)(h0:left≠0){L:Int}(hL:L=min left (iq ps s (ij ps s at0 CF))):
  lB ps js tot (n-1) s (left-L) (CF++[cD s.CB (ij ps s at0 CF) (ij ps s at0 CF+L*s.side)]):=by
 have hn:=h.ln;have hl:=h.l0;have hd:=h.d0;have hb:=h.lb;have a:1<=L/\L<=left:=by rw [hL];omega
 obtain ⟨m,rfl⟩:∃ m,n=m+1:=⟨n-1,CG⟩
 refine ⟨h.sv,CG,CG,by rw [List.length_append,List.length_singleton];omega,CI,?_⟩
 have ht:=h.tot;rw [cL,if_neg CG] at ht
 unfold iq at hL;rw [ht,hL,List.append_assoc];rfl
theorem lB.stop {m:Nat}(h:lB ps js tot m s left CF)(h0:(cP js s).2=false):tot=CF:=by
 have ht:=h.tot;unfold cP at h0
 by_cases hk:aH js (aO js (au s)).1=2
 ·rw [if_pos hk] at h0;cases h0
 ·rw [if_neg hk] at ht;rw [ht];simp
theorem pN {e:am}(h:bM ps e):iq ps (aD e) (aR ps e)=iA ps e.CB:=by
 obtain ⟨p,hp,e1,e2⟩:=h;cases e;simp only at e1 e2;unfold iq aD au aR;rcases e2 with rfl | rfl <;> simp
theorem lB.next (R:bo ps js ss){m:Nat}(h:lB ps js tot m s left CF)(h0:(cP js s).2=true)(ha:0<=at0/\at0<=10000000):jO ps js tot m (cP js s).1 at0 left CF:=by
 have ht:=h.tot;unfold cP at h0 ⊢
 by_cases hk:aH js (aO js (au s)).1=2
 ·rw [if_pos hk] at h0 ht ⊢;obtain ⟨j,k,i,d⟩:=R.spot (dh h.sv);obtain ⟨_,hj,l,_⟩:=df i;simp only [Nat.sub_zero] at hj l;rw [d] at hk ht ⊢;dsimp only at hk ht ⊢;have n:=R.kind j hj;rw [cu hj] at hk;have f:1-k<js[j].ends.length:=CG
  have b:bM ps (aY js j (1-k)):=by
   rw [du hj f];exact R.ends j hj _ f
  obtain ⟨q,hq,q1,q2⟩:=b;have g:=R.plen q hq;have c:iA ps (aY js j (1-k)).CB=ps[q].len:=by rw [q1];exact cT hq
  have b:bM ps (aY js j (1-k)):=⟨q,hq,q1,q2⟩;have a:ij ps (aD (aY js j (1-k))) at0 CF=aR ps (aY js j (1-k)):=by
   unfold ij;rw [if_neg h.ne,(lS b).2]
  have hr:=i6 R b;refine ⟨kC b,h.l0,h.ln,h.lb,by rw [a];exact hr.1,by rw [a];omega,?_,?_,ha,by rw [a];exact ht⟩
  ·rw [a,pN b,c];exact g.1
  ·rw [a,pN b,c];exact g.2
 ·rw [if_neg hk] at h0;cases h0
theorem jO.begin (R:bo ps js ss){i:Nat}(hi:i<ss.length){over:Int}(h0:0<=over)(h1:over<=100000):jO ps js (dE ps js ss i over) (over.toNat+1) ⟨ss[i].len,ss[i].CC⟩ ss[i].CD over []:=by
 obtain ⟨p,hp,e1,e2,e3,e4⟩:=R.sig i hi;have c:=R.plen p hp;have b:iA ps ss[i].len=ps[p].len:=by rw [e1];exact cT hp
 have a:ij ps ⟨ss[i].len,ss[i].CC⟩ ss[i].CD []=ss[i].CD:=rfl;have hd:1<=iq ps ⟨ss[i].len,ss[i].CC⟩ ss[i].CD/\iq ps ⟨ss[i].len,ss[i].CC⟩ ss[i].CD<=10000000:=by
  unfold iq au aR;rcases e2 with e2 | e2
  ·rw [e2];simp only [if_true];rw [if_neg CG,b]
   omega
  ·rw [e2];have hne:¬ ((-1:Int)=1):=CJ
   simp [hne];omega
 refine ⟨⟨p,hp,e1,e2⟩,h0,CG,by simpa using h1,by rw [a];omega,by rw [a];omega,by rw [a];exact hd.1,by rw [a];exact hd.2,CG,?_⟩
 unfold dE;rw [if_neg CG,a]
 simp [hi]
theorem rK {P:Program}{g:Operand}{ps:Array Tmp}{assign body:Code}{Q:Exit->Act->World->Prop}{a:Act}{w:World}(gf:Nat)(cap:Array Value)(hg:a.eval g = .func (.func gf) #[] cap)(eg:∀ args w,(callFunc gf args).run P w = .ok (.enter gf args) w)
  (h:∀ (fn:FuncId) (rec:LoopState->Option Code->Loop),(rec=fun st pe=>{ state:=st,pending:=pe,fn,tmps:=a.tmps,params:=ps,assign,body,defers:=w.heap.size }) ->
   CallsIn Fence.wide (n-1) P gf (#[.func (.yield (w.heap.size+1)) #[] #[]]++cap) ((w.alloc (.deferred (some []))).alloc (.loop (rec .ready none))) (rangePost Fence.wide n P (w.heap.size+1) Q { a with defers:=[{ target:=.collected w.heap.size,args:=#[] }]++a.defers })) :
  (Code.rangeFunc g ps assign body).wpIn Fence.wide n P Q a w:=by
 refine wpIn_rangeFunc ?_;intro fn _;obtain ⟨rec,b⟩:∃ rec:LoopState->Option Code->Loop,rec=fun st pe=>{ state:=st,pending:=pe,fn,tmps:=a.tmps,params:=ps,assign,body,defers:=w.heap.size }:=⟨_,rfl⟩
 have h1:=h fn rec b;have he:(Instr.enterLoop fn a.tmps ps assign body Fence.wide.round).run P w = .ok (w.heap.size+1,[{ target:=.collected w.heap.size,args:=#[] }]) ((w.alloc (.deferred (some []))).alloc (.loop (rec .ready none))):=by
  have h0:Fence.wide.round=none:=rfl;rw [b,h0];exact run_enterLoop_outer _ _ _ _ _
 obtain ⟨W1,c⟩:∃ W1,(w.alloc (.deferred (some []))).alloc (.loop (rec .ready none))=W1:=⟨_,rfl⟩;rw [c] at h1 he;refine ⟨w.heap.size+1,[{ target:=.collected w.heap.size,args:=#[] }],W1,{ target:=.fn (.func gf) cap,args:=#[.func (.yield (w.heap.size+1)) #[] #[]] },W1,gf,#[.func (.yield (w.heap.size+1)) #[] #[]]++cap,W1,he,?_,?_,?_,?_,?_⟩
 ·simp only [resolve,hg];simp [go_sem]
 ·intro _ _
  trivial
 ·simp [invoke,go_sem,eg]
 ·intro h;cases h
 ·exact h1
structure gI (w:World)(KT l D tB oB pB aB tb bs:Nat)(rec:LoopState->Option Code->Loop)(K:Nat->Prop)(at0 left:Int)(CF:List aI)(W:World):Prop where
 below:Cx w W
 loop:W.heap[l]? = some (.loop (rec .ready none))
 dfr:W.heap[D]? = some (.deferred (some []))
 t1:W.cell? ⟨tB,0,none⟩=some (.pointer (some ⟨KT,0,none⟩))
 t2:W.cell? ⟨tb,0,none⟩=some (.pointer (some ⟨KT,0,none⟩))
 over:W.rowIs oB 3 1 (fun _=>.int .i64 left)
 at_:W.rowIs aB 3 1 (fun _=>.int .i64 at0)
 own:∃ (x:Option Addr) (y:Nat),W.rowIs pB 41 1 (fun _=>.slice x CF.length y)/\W.ownsRow bs 48 3 (.slice x CF.length y) CF.length (bG CF) /\
  ∀ k,K k↔k=l\/k=D\/k=oB\/k=aB\/k=pB\/(Value.slice x CF.length y).ownBlock=some k
 low:w.heap.size<=tB/\tB<oB/\oB<pB/\pB<aB/\aB<tb/\tb<D/\D<l/\l<bs
structure xE (w:World)(l D pB bs:Nat)(rec:LoopState->Option Code->Loop)(tot:List aI)(W:World):Prop where
 below:Cx w W
 loop:∃ c,W.heap[l]? = some (.loop (rec .done (some c)))/\c = .exit 0
 dfr:W.heap[D]? = some (.deferred (some []))
 own:∃ (x:Option Addr) (y:Nat),W.rowIs pB 41 1 (fun _=>.slice x tot.length y)/\W.ownsRow bs 48 3 (.slice x tot.length y) tot.length (bG tot)
 low:w.heap.size<=pB/\pB<D/\D<l/\l<bs
section
variable {w:World} {KT l D tB oB pB aB tb bs:Nat} {rec:LoopState->Option Code->Loop} {K:Nat->Prop} {at0 left:Int} {CF:List aI} {W W':World}
theorem gI.lt (h:gI w KT l D tB oB pB aB tb bs rec K at0 left CF W):∀ k,K k->k<W.heap.size:=by
 intro k hk;obtain ⟨x,y,h1,h2,h5⟩:=h.own;rcases (h5 k).1 hk with rfl | rfl | rfl | rfl | rfl | hk
 ·exact bR h.loop
 ·exact bR h.dfr
 ·exact h.over.lt
 ·exact h.at_.lt
 ·exact h1.lt
 ·exact (h2.lt k hk).2
theorem gI.low_own (h:gI w KT l D tB oB pB aB tb bs rec K at0 left CF W):∀ k,K k->w.heap.size<=k:=by
 intro k hk;have hl:=h.low;obtain ⟨x,y,h1,h2,h5⟩:=h.own;rcases (h5 k).1 hk with rfl | rfl | rfl | rfl | rfl | hk
 ·omega
 ·omega
 ·omega
 ·omega
 ·omega
 ·have:=(h2.lt k hk).1;omega
theorem gI.keep (h:gI w KT l D tB oB pB aB tb bs rec K at0 left CF W){S:Nat->Prop}(hO:ag S W W')(hS:∀ k,S k->bs<=k/\¬ K k):gI w KT l D tB oB pB aB tb bs rec K at0 left CF W':=by
 have hl:=h.low;have hn:∀ k,k<bs->¬ S k:=fun k hk hs=>by have:=(hS k hs).1;omega
 obtain ⟨x,y,h1,h2,h5⟩:=h.own;refine ⟨h.below.trans (hO.below h.below.size (fun k hk=>hn k CG)),(hO.block _ (bR h.loop) (hn _ CG)).trans h.loop,(hO.block _ (bR h.dfr) (hn _ CG)).trans h.dfr,hO.cell h.t1 (hn _ (by show tB<bs;omega)),hO.cell h.t2 (hn _ (by show tb<bs;omega)),h.over.of_block (hO.block _ h.over.lt (hn _ CG)),h.at_.of_block (hO.block _ h.at_.lt (hn _ CG)),⟨x,y,h1.of_block (hO.block _ h1.lt (hn _ CG)),?_,h5⟩,hl⟩
 refine ⟨h2.1,?_⟩;rcases h2.2 with q | ⟨g,a,b,q1,q2,q3,q4⟩
 ·exact Or.inl q
 ·refine Or.inr ⟨g,a,b,q1,q2,(hO.block g (bR q3) (fun hs=>(hS g hs).2 ((h5 g).2 (Or.inr (Or.inr (Or.inr (Or.inr (Or.inr ?_)))))))).trans q3,q4⟩
  rw [q1];rfl
theorem gI.on (hI:gI w KT l D tB oB pB aB tb bs rec K at0 left CF W)(hrec:∀ st pe,({ rec .ready none with state:=st,pending:=pe }:Loop)=rec st pe){Wn:World}{at1 left1:Int}{parts1:List aI}
  (hl:Wn.heap[l]? = some (.loop { rec .ready none with state:=.busy })) (hO:ag K W Wn) (hD:Wn.heap[D]? = some (.deferred (some []))) (hov:Wn.rowIs oB 3 1 (fun _=>.int .i64 left1)) (hat:Wn.rowIs aB 3 1 (fun _=>.int .i64 at1))
  (hown:∃ (x:Option Addr) (y:Nat),Wn.rowIs pB 41 1 (fun _=>.slice x parts1.length y)/\Wn.ownsRow bs 48 3 (.slice x parts1.length y) parts1.length (bG parts1)/\∀ k,(Value.slice x parts1.length y).ownBlock=some k->K k\/W.heap.size<=k)
  (J:(Nat->Prop)->World->Prop) (hJ:∀ K' u,gI w KT l D tB oB pB aB tb bs rec K' at1 left1 parts1 u->J K' u) (Sx:World->Prop) :
  ∃ v w',(Instr.endRound l none).run prog Wn = .ok v w'/\dm J Sx K W (.returned v) w':=by
 refine ⟨_,_,run_endRound none hl,?_⟩;have f:=bR hl;have c:=hI.low;obtain ⟨x,y,g1,g2,g5⟩:=hown;obtain ⟨x0,y0,_,k2,k5⟩:=hI.own;have g:K l:=(k5 l).2 (Or.inl rfl);have i:¬ K tB:=fun h=>by
  rcases (k5 tB).1 h with h | h | h | h | h | h
  ·omega
  ·omega
  ·omega
  ·omega
  ·omega
  ·have:=(k2.lt _ h).1;omega
 have j:¬ K tb:=fun h=>by
  rcases (k5 tb).1 h with h | h | h | h | h | h
  ·omega
  ·omega
  ·omega
  ·omega
  ·omega
  ·have:=(k2.lt _ h).1;omega
 generalize d:Wn.putObj l _=w';have a:ag (fun k=>k=l) Wn w':=by
  rw [<-d];exact ag.of_grown (grownBy_putObj' _ _ _) (fun k e=>by cases e;rfl)
 have m:w'.heap[l]? = some (.loop (rec .ready none)):=by
  rw [<-d];refine (World.putObj_heap_same f).trans ?_;congr 2;exact hrec .ready none
 clear d;have b:ag K W w':=hO.trans (a.mono (fun k hk=>by subst hk;exact g))
 have hG:dP K (fun k=>k=l\/k=D\/k=oB\/k=aB\/k=pB\/(Value.slice x parts1.length y).ownBlock=some k) W:=by
  intro k hk;rcases hk with h | h | h | h | h | h
  ·exact Or.inl ((k5 k).2 (Or.inl h))
  ·exact Or.inl ((k5 k).2 (Or.inr (Or.inl h)))
  ·exact Or.inl ((k5 k).2 (Or.inr (Or.inr (Or.inl h))))
  ·exact Or.inl ((k5 k).2 (Or.inr (Or.inr (Or.inr (Or.inl h)))))
  ·exact Or.inl ((k5 k).2 (Or.inr (Or.inr (Or.inr (Or.inr (Or.inl h))))))
  ·exact g5 k h
 have n:K D:=(k5 D).2 (Or.inr (Or.inl rfl));refine ⟨true,rfl,b,fun _=>⟨_,hJ _ _ ?_,hG⟩,fun h=>by cases h⟩
 refine ⟨hI.below.trans (b.below hI.below.size (fun k hk e=>by have:=hI.low_own k e;omega)),m,(a.block _ (bR hD) (by show ¬ D=l;omega)).trans hD,b.cell hI.t1 i,b.cell hI.t2 j,hov.of_block (a.block _ hov.lt (by show ¬ oB=l;omega)),hat.of_block (a.block _ hat.lt (by show ¬ aB=l;omega)),⟨x,y,g1.of_block (a.block _ g1.lt (by show ¬ pB=l;omega)),cA g2 a (fun k hk=>CG),fun k=>Iff.rfl⟩,c⟩
theorem gI.off (hI:gI w KT l D tB oB pB aB tb bs rec K at0 left CF W)(hrec:∀ st pe,({ rec .ready none with state:=st,pending:=pe }:Loop)=rec st pe){Wn:World}
  (hl:Wn.heap[l]? = some (.loop { rec .ready none with state:=.busy })) (hO:ag K W Wn) (hD:Wn.heap[D]? = some (.deferred (some [])))
  (hown:∃ (x:Option Addr) (y:Nat),Wn.rowIs pB 41 1 (fun _=>.slice x CF.length y)/\Wn.ownsRow bs 48 3 (.slice x CF.length y) CF.length (bG CF))
  (J:(Nat->Prop)->World->Prop):∃ v w',(Instr.endRound l (some (.exit 0))).run prog Wn = .ok v w'/\dm J (xE w l D pB bs rec CF) K W (.returned v) w':=by
 refine ⟨_,_,run_endRound (some (.exit 0)) hl,?_⟩;have d:=bR hl;have f:=hI.low;obtain ⟨x,y,g1,g2⟩:=hown;obtain ⟨x0,y0,_,k2,k5⟩:=hI.own;have g:K l:=(k5 l).2 (Or.inl rfl);generalize b:Wn.putObj l _=w';have a:ag (fun k=>k=l) Wn w':=by
  rw [<-b];exact ag.of_grown (grownBy_putObj' _ _ _) (fun k e=>by cases e;rfl)
 have i:w'.heap[l]? = some (.loop (rec .done (some (.exit 0)))):=by
  rw [<-b];refine (World.putObj_heap_same d).trans ?_;congr 2;exact hrec .done (some (.exit 0))
 clear b;have c:ag K W w':=hO.trans (a.mono (fun k hk=>by subst hk;exact g))
 exact ⟨false,rfl,c,(fun h=>by cases h),fun _=>⟨hI.below.trans (c.below hI.below.size (fun k hk e=>by have:=hI.low_own k e;omega)),⟨_,i,rfl⟩,(a.block _ (bR hD) (by show ¬ D=l;omega)).trans hD,⟨x,y,g1.of_block (a.block _ g1.lt (by show ¬ pB=l;omega)),cA g2 a (fun k hk=>CG)⟩,CG⟩⟩
end
theorem gF {P:Program}(w:World){ops:Array Oper}{rest:List Oper}{o:Oper}{a:Act}{Q:Exit->Act->World->Prop}
  (hg:o.guard=none) (s x:Operand) (t:TypeId) (hop:o.op=Op.call { callee:=Callee.builtin Builtin.append,args:=#[s,x],argTypes:=#[t,t] })
  (base:Nat) (e:TypeId) (z:Value) (size bytes:Nat) (h1:P.underlying t=some (.slice e)) (hi:(P.info? e).map (fun i=>(i.zero,i.size,i.bytes))=some (some z,size,bytes)) (h6:z.cells.size=size) (h7:0<size)
  (v:Value) (k:Nat) (xs:List Value) (hs:a.eval s=v) (hown:w.ownsRow base e size v k xs) (ad:Addr) (c:Nat) (news:List Value) (hx:a.eval x = .slice (some ad) 1 c) (hn:news.length=size)
  (hc:∀ j u,news[j]? = some u->w.cell? (ad.add j)=some u) (h1c:∀ u ∈ news,u.oneCell'=true) (b1:k+1<=maxLen) (b2:(k+1)*bytes<=140737488355328) (b3:base<=w.heap.size)
  (hK:∀ x' y' w',w'.ownsRow base e size (.slice x' (k+1) y') (k+1) (xs++news)->w.grownBy w' v.ownBlock->(∀ b,(Value.slice x' (k+1) y').ownBlock=some b->v.ownBlock=some b\/w.heap.size<=b)->wpList P ops Q rest (a.put o.dst (.slice x' (k+1) y')) w') :
  wpList P ops Q (o::rest) a w:=by
 refine wpList_plain hg fun K f=>?_
 obtain ⟨i,h2,h3,h4,h5⟩:=info_parts hi;obtain ⟨v',w',d,r1,r2,r3⟩:=mP (P:=P) w base t o.type e i z size bytes h1 h2 h3 h4 h5 h6 h7 v k xs hown ad 1 c news CG hc h1c b1 b2 b3
 obtain ⟨x',y',e1,_⟩:=ba r1;subst e1;unfold Oper.wp execOp;simp only [hop,resolve,invoke,builtin,Sem.run_bind,Sem.run_pure,Result.andThen_ok,List.map_toArray,List.map_cons,List.map_nil,hs,hx,d];exact f _ _ (hK x' y' w' r1 r2 r3)
theorem Cj {u:World}{g:Nat}{a b c:Value}(c0:u.cell? ⟨g,0,none⟩=some a)(c1:u.cell? ⟨g,1,none⟩=some b)(c2:u.cell? ⟨g,2,none⟩=some c):∀ (j:Nat) (v:Value),[a,b,c][j]? = some v->u.cell? ((⟨g,0,none⟩:Addr).add j)=some v:=by
 intro j v hv;rw [bH,Nat.zero_add]
 match j with
 | 0=>simp at hv;rw [<-hv];exact c0
 | 1=>simp at hv;rw [<-hv];exact c1
 | 2=>simp at hv;rw [<-hv];exact c2
 | j+3=>simp at hv
theorem zk {KT:Nat}{pa ja sa:Option Addr}{pc jc sc:Nat}{u:World}(h:kT u KT pa ja sa pc jc sc ps js ss){e:am}(hv:bM ps e):Calls prog 112 #[.pointer (some ⟨KT,0,none⟩),.agg #[.int .i64 e.CB,.int .i64 e.side]] u fun r w'=>r = .returned (.int .i64 (aR ps e))/\Cx u w':=by
 obtain ⟨x,hx,e1,e2⟩:=hv;obtain ⟨ep,es⟩:=e;simp only at e1;subst e1;exact pJ KT pa ja sa pc jc sc ps js ss x es u h hx
def OJ (w:World)(KT l D tB oB pB aB tb bs:Nat)(rec:LoopState->Option Code->Loop)(ps:List af)(js:List aj)(tot:List aI)(n:Nat)(s:aM)(K:Nat->Prop)(u:World):Prop := ∃ at0 left CF,gI w KT l D tB oB pB aB tb bs rec K at0 left CF u/\jO ps js tot n s at0 left CF
def ON (w:World)(KT l D tB oB pB aB tb bs:Nat)(rec:LoopState->Option Code->Loop)(ps:List af)(js:List aj)(tot:List aI)(n:Nat)(s:aM)(K:Nat->Prop)(u:World):Prop := ∃ at0 left CF,gI w KT l D tB oB pB aB tb bs rec K at0 left CF u/\lB ps js tot n s left CF/\0<=at0/\at0<=10000000
theorem xJ (KT M:Nat)(pa ja sa:Option Addr)(pc jc sc:Nat)(ps:List af)(js:List aj)(ss:List af)(R:Hid (bo ps js ss))(i:Nat)(hi:i<ss.length)(over:Int)(h0:0<=over)(h1:over<=100000)(w:World)(hT:Hid (cB w KT M pa ja sa pc jc sc ps js ss)):
  Calls prog 84 #[.pointer (some ⟨KT,0,none⟩),.int .i64 (i:Int),.int .i64 over] w fun e w' => ∃ x y,e = .returned (.slice x (dE ps js ss i over).length y)/\w'.ownsRow w.heap.size 48 3 (.slice x (dE ps js ss i over).length y) (dE ps js ss i over).length (bG (dE ps js ss i over))/\Cx w w':=by
 have bp:=aa (jO.begin (js:=js) R.out hi h0 h1);generalize dE ps js ss i over=tot at bp ⊢;have c2:=hT.out.net.c2;have hK:=ai c2;dsimp only at hK;obtain ⟨bs,os,rfl,aG⟩:=hT.out.net.S.2.2.resolve_left (nz hi);obtain ⟨s0,s1,s2,s3⟩:=aG i hi;have b1:=ai s0;dsimp only at b1;have dx:(i:Int)<ss.length:=CG
 generalize ss[i]=sg at s0 s1 s2 s3 bp;have b2:Hid (∀ u:World,Calls prog 116 #[.pointer (some ⟨KT,0,none⟩),.agg #[.int .i64 sg.len,.int .i64 sg.CC]] u fun e w'=>e = .returned (.func (.func 136) #[] #[.pointer (some ⟨u.heap.size+1,0,none⟩),.pointer (some ⟨u.heap.size,0,none⟩)]) /\
   w'.cell? ⟨u.heap.size,0,none⟩=some (.pointer (some ⟨KT,0,none⟩))/\w'.cell? ⟨u.heap.size+1,0,none⟩=some (.int .i64 sg.len)/\w'.cell? ⟨u.heap.size+1,1,none⟩=some (.int .i64 sg.CC)/\Cx u w'):=fun u=>qy KT ⟨sg.len,sg.CC⟩ u
 clear aG;refine (callsIn_wide (n:=0)).1 (callsIn_of_wp_marks func84 rfl trivial ?_);simp only [ntmps84,List.size_toArray,List.length_cons,List.length_nil,Nat.reduceAdd,Nat.reduceSub,Array.replicate_succ,Array.replicate_zero,List.push_toArray,List.append_toArray,List.nil_append,List.cons_append];refine wpIn_wide.2 ?_;have bq:¬ (i:Int)<0:=CG
 go_upto_region 4 with fail
 generalize hW:World.alloc (World.alloc (World.alloc w _) _) _=W;have av:Cx w W:=by rw [<-hW];exact blo
 have x0:W.cell? ⟨w.heap.size,0,none⟩=some (.pointer (some ⟨KT,0,none⟩)):=by rw [<-hW];simp [go_sem]
 have hz:W.heap.size=w.heap.size+1+1+1:=by rw [<-hW];simp
 have br:Hid (W.rowIs (w.heap.size+1) 3 1 (fun _=>.int .i64 over)):=by
  unfold Hid;rw [<-hW];have:=World.rowIs_alloc (w.alloc (Obj.cells #[Value.pointer (some ⟨KT,0,none⟩)] 89)) #[.int .i64 over] 3 (fun _=>.int .i64 over) (by intro i hi;have aH:i<1:=hi;match i,aH with | 0,_=>rfl)
  simpa using this.alloc (Obj.cells #[Value.slice none 0 0] 41)
 have bt:Hid (W.rowIs (w.heap.size+1+1) 41 1 (fun _=>.slice none 0 0)):=by
  unfold Hid;rw [<-hW];have:=World.rowIs_alloc ((w.alloc (Obj.cells #[Value.pointer (some ⟨KT,0,none⟩)] 89)).alloc (Obj.cells #[Value.int .i64 over] 3)) #[.slice none 0 0] 41 (fun _=>.slice none 0 0) (by intro i hi;have aH:i<1:=hi;match i,aH with | 0,_=>rfl)
  simpa using this
 clear hW;replace c2:=cell_later av c2;replace s0:=cell_later av s0;replace s1:=cell_later av s1;replace s2:=cell_later av s2;replace s3:=cell_later av s3;have aI:=ai s0;have b3:=ai c2;dsimp only at aI b3;have b4:=aa av;have HZ:=aa hz;have cM:w.heap.size<W.heap.size:=CG
 clear av hz b1 hK
 go_upto_region 6 with fail
 generalize hV:World.alloc (World.alloc W _) _=V;have bu:Cx W V:=by rw [<-hV];exact blo
 have g1:V.cell? ⟨W.heap.size,1,none⟩=some (.int .i64 sg.len):=by rw [<-hV];simp [go_sem]
 have g3:V.cell? ⟨W.heap.size,3,none⟩=some (.int .i64 sg.CC):=by rw [<-hV];simp [go_sem]
 have b5:V.heap.size=W.heap.size+1+1:=by rw [<-hV];simp
 have bv:Hid (V.rowIs (W.heap.size+1) 3 1 (fun _=>.int .i64 sg.CD)):=by
  unfold Hid;rw [<-hV];have:=World.rowIs_alloc (W.alloc (Obj.cells #[Value.string sg.name,.int .i64 sg.len,.int .i64 sg.CD,.int .i64 sg.CC] 62)) #[.int .i64 sg.CD] 3 (fun _=>.int .i64 sg.CD) (by intro i hi;have aH:i<1:=hi;match i,aH with | 0,_=>rfl)
  simpa using this
 clear hV;replace x0:=cell_later bu x0;have bf:=aa bu;have cN:=aa b5;have bw:W.heap.size<V.heap.size:=CG
 have bx:w.heap.size<V.heap.size:=CG
 clear bu c2 s0 s1 s2 s3 aI b3 cM b5
 go_wp2_with (go_at_call 116;refine (b2.out _).mono ?_;rintro e w2 ⟨rfl,t0,b6,bz,f⟩)
 have aJ:Cx w w2:=b4.out.trans ((bf.out.trans (f.mono bf.out.size)).mono b4.out.size);have aw:Cx W w2:=bf.out.trans (f.mono bf.out.size);have bA:=ai bz;dsimp only at bA;have aK:=aa (br.out.of_block (aw.block _ br.out.lt));have aL:=aa (bt.out.of_block (aw.block _ bt.out.lt));have aM:=aa (bv.out.of_block (f.block _ bv.out.lt));have X0:=aa (cell_later f x0);have T0:=aa t0;have F0:=aa b6;have F1:=aa bz;have b8:=aa aJ;have cO:Hid (W.heap.size=w.heap.size+1+1+1/\V.heap.size=W.heap.size+1+1/\V.heap.size+1<w2.heap.size):=⟨HZ.out,cN.out,bA⟩;clear aJ aw br bt bv x0 t0 b6 bz f g1 g3 bw bx bA b2;refine (wpIn_wide (n:=0)).1 (rK 136 #[.pointer (some ⟨V.heap.size+1,0,none⟩),.pointer (some ⟨V.heap.size,0,none⟩)] rfl (fun args u=>CH) ?_)
 intro fn r D;generalize aN:(w2.alloc (.deferred (some []))).alloc (.loop (r .ready none))=W1;have I:Cx w2 W1:=by rw [<-aN];exact blo
 have bg:W1.heap[w2.heap.size+1]? = some (.loop (r .ready none)):=by
  rw [<-aN];have:=World.alloc_heap_new (w2.alloc (.deferred (some []))) (.loop (r .ready none))
  rwa [World.size_alloc] at this
 have bh:W1.heap[w2.heap.size]? = some (.deferred (some [])):=by
  rw [<-aN];exact (Below.heap_alloc _ _ _ CI).trans (World.alloc_heap_new w2 _)
 have bB:W1.heap.size=w2.heap.size+2:=by rw [<-aN];simp
 clear aN;have aO:=cO.out;have b9:Hid (OJ w KT (w2.heap.size+1) w2.heap.size w.heap.size (w.heap.size+1) (w.heap.size+1+1) (W.heap.size+1) V.heap.size (w2.heap.size+2) r ps js tot (over.toNat+1) ⟨sg.len,sg.CC⟩ (fun k=>k=w2.heap.size+1\/k=w2.heap.size\/k=w.heap.size+1\/k=W.heap.size+1\/k=w.heap.size+1+1) W1):=by
  refine ⟨sg.CD,over,[],⟨b8.out.trans (I.mono b8.out.size),bg,bh,cell_later I X0.out,cell_later I T0.out,aK.out.of_block (I.block _ aK.out.lt),aM.out.of_block (I.block _ aM.out.lt),⟨none,0,aL.out.of_block (I.block _ aL.out.lt),⟨rfl,Or.inl ⟨rfl,rfl⟩⟩,fun k=>by simp [Value.ownBlock]⟩,CG⟩,bp.out⟩
 have HY:Hid (∀ n s K W2,OJ w KT (w2.heap.size+1) w2.heap.size w.heap.size (w.heap.size+1) (w.heap.size+1+1) (W.heap.size+1) V.heap.size (w2.heap.size+2) r ps js tot n s K W2->YieldAt Fence.wide 0 prog (w2.heap.size+1) #[bC s] W2 (dm (fun K' u => ∃ m,m<n/\ON w KT (w2.heap.size+1) w2.heap.size w.heap.size (w.heap.size+1) (w.heap.size+1+1) (W.heap.size+1) V.heap.size (w2.heap.size+2) r ps js tot m s K' u) (xE w (w2.heap.size+1) w2.heap.size (w.heap.size+1+1) (w2.heap.size+2) r tot) K W2)):=by
  intro n s K W2 hJ;obtain ⟨t,left,b,hI,hM⟩:=hJ;have hy:=run_yield (P:=prog) (args:=#[bC s]) hI.loop (by rw [D];rfl)
  rw [D] at hy;refine ⟨_,_,_,_,hy,roundIn_of_wpIn trivial ?_⟩;clear hy;have HI:=aa hI;have HM:=aa hM;have aP:Hid (∀ st pe,({ r .ready none with state:=st,pending:=pe }:Loop)=r st pe):=by
   unfold Hid;rw [D];intro st pe;rfl
  have cP:Hid ((r .ready none).state = .ready):=by unfold Hid;rw [D]
  have dy:=aa aO;clear hI hM b9 D aO bB I bg bh bq;unfold bC;dsimp only;have ht:∀ (T:Array Value) (v:Value),((#[30]:Array Tmp).zip #[v]).foldl (fun tmps (x:Tmp × Value)=>tmps.setIfInBounds x.1 x.2) T=T.setIfInBounds 30 v:=fun T v=>CI
  rw [ht];clear ht;have dz:∀ (ρ:Operand->Value) (o:Oper),(∀ c,o.op≠.defer c)->Oper.semAt (some (w2.heap.size+1)) ρ o=execOp ρ o:=fun ρ o h=>Oper.semAt_some _ ρ o h
  gi_wp2_with fail
  have bD:Cx W2 (W2.alloc (Obj.cells #[Value.int .i64 s.CB,.int .i64 s.side] 46)):=CV.alloc CW _;refine ⟨_,run_beginRound ((bD.block _ (bR HI.out.loop)).trans HI.out.loop) cP.out,?_⟩;generalize hU:World.putObj (World.alloc W2 _) _ _=U;have ca:=bR HI.out.loop;have j:=HI.out.low;obtain ⟨x,y,k1,k2,k5⟩:=HI.out.own;have ao:ag (fun k=>k=w2.heap.size+1) W2 U:=by
   rw [<-hU];exact (ag.of_below bD).trans (ag.of_grown (grownBy_putObj' _ _ _) (fun k e=>by cases e;rfl))
  have cb:U.heap[w2.heap.size+1]? = some (.loop { r .ready none with state:=.busy }):=by
   rw [<-hU];exact World.putObj_heap_same CN
  have hX:U.rowIs W2.heap.size 46 2 (fun i:Nat=>(#[Value.int .i64 s.CB,.int .i64 s.side]:Array Value).getD i (.bool false)):=by
   refine (cG W2 #[.int .i64 s.CB,.int .i64 s.side] 46).of_block ?_;rw [<-hU];exact World.putObj_heap_other CG
  have e0:U.cell? ⟨W2.heap.size,0,none⟩=some (.int .i64 s.CB):=hX.cell (i:=0) CG
  have e1:U.cell? ⟨W2.heap.size,1,none⟩=some (.int .i64 s.side):=hX.cell (i:=1) CG
  have t0:U.cell? ⟨w.heap.size,0,none⟩=some (.pointer (some ⟨KT,0,none⟩)):=ao.cell HI.out.t1 (by show ¬ w.heap.size=w2.heap.size+1;omega)
  have hO:=HI.out.over.of_block (ao.block _ HI.out.over.lt (by show ¬ w.heap.size+1=w2.heap.size+1;omega))
  have hA:=HI.out.at_.of_block (ao.block _ HI.out.at_.lt (by show ¬ W.heap.size+1=w2.heap.size+1;omega))
  have hP:=k1.of_block (ao.block _ k1.lt (by show ¬ w.heap.size+1+1=w2.heap.size+1;omega))
  have hD:=(ao.block _ (bR HI.out.dfr) (by show ¬ w2.heap.size=w2.heap.size+1;omega)).trans HI.out.dfr
  have cd:=cA k2 ao (fun k hk=>CG)
  have ce:K (w2.heap.size+1):=(k5 _).2 (Or.inl rfl);have cQ:Hid (K (w.heap.size+1)):=(k5 _).2 (Or.inr (Or.inr (Or.inl rfl)));have cR:Hid (K (W.heap.size+1)):=(k5 _).2 (Or.inr (Or.inr (Or.inr (Or.inl rfl))));have cS:Hid (K (w.heap.size+1+1)):=(k5 _).2 (Or.inr (Or.inr (Or.inr (Or.inr (Or.inl rfl)))));have cf:Hid (∀ k,(Value.slice x b.length y).ownBlock=some k->K k):=fun k hk=>(k5 k).2 (Or.inr (Or.inr (Or.inr (Or.inr (Or.inr hk)))))
  have ab:Hid (ag K W2 U):=ao.mono (fun k hk=>by subst hk;exact ce)
  have o0:=hO.cell (i:=0) CG
  have a0:=hA.cell (i:=0) CG
  have q0:=hP.cell (i:=0) CG
  have bi:W2.heap.size<U.heap.size:=hX.lt;have cg:=hO.lt;have ch:=hA.lt;have ci:=hP.lt;have bj:w.heap.size<U.heap.size:=CG
  have HO:=aa hO;have HA:=aa hA;have HP:=aa hP;have HD:=aa hD;have ax:=aa cd;have X:=aa cb;have HX:=aa hX;have aS:=aa j;have bE:=aa ca;clear hU bD k1 k2 k5 hX hO hA hP hD cd cb ao j ca ce
  by_cases ay:left=0
  ·have cU:(left==0)=true:=by simp [ay]
   have cV:=aa (HM.out.stop ay);clear ay
   gi_wp2_with fail
   rw [cV.out];exact HI.out.off aP.out X.out ab.out HD.out ⟨x,y,HP.out,ax.out⟩ _
  ·have cU:(left==0)=false:=by simp [ay]
   have cj:=aa ay;clear ay;have aD:=dh HM.out.sv;have ck:bM ps (b7 (au s)):=jL aD;have cl:Hid (∀ u:World,Cx w u->cB u KT M pa ja (some ⟨bs,os,none⟩) pc jc sc ps js ss):=fun u hu=>hT.out.below hu
   have cW:=HI.out.low_own;have ac:Hid (Cx w U):=HI.out.below.trans (ab.out.below HI.out.below.size (fun k hk e=>by have:=cW k e;omega))
   have bk:Hid (∀ u:World,Calls prog 114 #[.agg #[.int .i64 s.CB,.int .i64 s.side]] u fun e w'=>e = .returned (.agg #[.int .i64 (au s).CB,.int .i64 (au s).side])/\Cx u w'):=fun u=>jm s.CB s.side u
   have aT:Hid (∀ u:World,Calls prog 113 #[.agg #[.int .i64 (au s).CB,.int .i64 (au s).side]] u fun e w'=>e = .returned (.agg #[.int .i64 (b7 (au s)).CB,.int .i64 (b7 (au s)).side])/\Cx u w'):=fun u=>by
    obtain ⟨_,_,_,dA⟩:=aD;exact jE (au s).CB (au s).side u CG CG
   have ad:Hid (∀ u:World,Cx w u->Calls prog 112 #[.pointer (some ⟨KT,0,none⟩),.agg #[.int .i64 (au s).CB,.int .i64 (au s).side]] u fun e w'=>e = .returned (.int .i64 (aR ps (au s)))/\Cx u w'):=fun u hu=>zk (cl.out u hu).net aD
   have J:Hid (∀ u:World,Cx w u->Calls prog 112 #[.pointer (some ⟨KT,0,none⟩),.agg #[.int .i64 (b7 (au s)).CB,.int .i64 (b7 (au s)).side]] u fun e w'=>e = .returned (.int .i64 (aR ps (b7 (au s))))/\Cx u w'):=fun u hu=>zk (cl.out u hu).net ck
   have al:Hid (ij ps s t b=if b.length=0 then t else aR ps (b7 (au s))):=rfl
   have aE:Hid (iq ps s (ij ps s t b)=(aR ps (au s)-ij ps s t b)*s.side):=rfl;have bF:=i6 R.out aD;have cX:aR ps (au s)<=10000000:=by
    obtain ⟨q,hq,e1,_⟩:=aD;have h2:=bF.2;rw [e1,cT hq] at h2;have h3:=(R.out.plen q hq).2;omega
   have cY:=bF.1;have cZ:=HM.out.p0;have c0:=HM.out.p1;have cm:=HM.out.d0;have cn:=HM.out.d1;have ay:=HM.out.l0;have c1:left<=100000:=by have:=HM.out.lb;omega
   obtain ⟨L,hL⟩:∃ L,L=min left (iq ps s (ij ps s t b)):=⟨_,rfl⟩;have bH:=aa (HM.out.step cj.out hL);have co:Hid (s.side=1\/s.side = -1):=by obtain ⟨_,_,_,h⟩:=HM.out.sv;exact h
   have aU:=aa hL;have c3:b.length<=100000:=by have:=HM.out.lb;omega
   have c4:Hid (n-1<n):=by unfold Hid;have:=HM.out.ln;omega
   have dB:=aa HM.out.a0;generalize c5:ij ps s t b=pos at al aE cZ c0 cm cn bH aU;generalize c6:iq ps s pos=dd at aE cm cn aU;generalize aR ps (au s)=E at ad aE cY cX;generalize aR ps (b7 (au s))=F at J al;generalize b7 (au s)=fa at aT J;generalize au s=ah at bk aT ad;clear aD ck bF hL c5 c6
   by_cases bl:b.length=0
   case' pos =>
    have c7:¬ (0:Int)<(b.length:Int):=CG
    have cp:t=pos:=by rw [al.out,if_pos bl]
    clear bl
    gi_wp2_with fail
    rw [cp] at a0 HA;clear cp J aT;obtain ⟨S,hS⟩:∃ S:World->Prop,∀ u,S u↔Cx U u:=⟨_,fun _=>Iff.rfl⟩
    have H:=aa hS;have r0:∀ u:an S,World.cell? u.val ⟨w.heap.size,0,none⟩=some (.pointer (some ⟨KT,0,none⟩)):=fun u=>cell_later ((hS u.val).1 u.2) t0
    have r1:∀ u:an S,World.cell? u.val ⟨W2.heap.size,0,none⟩=some (.int .i64 s.CB):=fun u=>cell_later ((hS u.val).1 u.2) e0
    have r2:∀ u:an S,World.cell? u.val ⟨W2.heap.size,1,none⟩=some (.int .i64 s.side):=fun u=>cell_later ((hS u.val).1 u.2) e1
    have r3:∀ u:an S,World.cell? u.val ⟨w.heap.size+1,0,none⟩=some (.int .i64 left):=fun u=>cell_later ((hS u.val).1 u.2) o0
    have r4:∀ u:an S,World.cell? u.val ⟨W.heap.size+1,0,none⟩=some (.int .i64 pos):=fun u=>cell_later ((hS u.val).1 u.2) a0
    have B:S U.drew:=(hS _).2 (CV.drew);have hne:=aQ B;have bI:(E-pos)*s.side=dd:=aE.out.symm;clear hS;refine fZ (fun w' => ∃ u:an S,w'=u.val) 10 CH (by rintro ⟨a,w,h⟩;exact h) CH CH (ak B) ?_
    (refine ae 0 ?_;intro K hK;go_big_quiet_op;go_big_quiet_on);(refine ae 1 ?_;intro K hK;go_big_quiet_op;go_big_quiet_on);(refine ae 2 ?_;intro K hK;go_big_quiet_op;go_big_quiet_on)
    (refine ae 5 ?_;intro K hK;go_big_quiet_op;go_big_quiet_on)
    (refine ae 7 ?_;intro K hK;go_big_quiet_op;go_big_quiet_on);(refine ae 8 ?_;intro K hK;go_big_quiet_op;go_big_quiet_on)
    refine az 3 ?_;intro KK hK
    go_wp2_with (go_at_call 114;refine (bk.out _).mono ?_;rintro e v2 ⟨rfl,z⟩)
    have f:Cx U v2:=CV.drew.trans z;refine hK _ _ (ak ((H.out _).2 f)) ?_;clear hK KK z;refine az 4 ?_;intro KK hK
    go_wp2_with (go_at_call 112;refine (ad.out _ (ac.out.trans (f.mono ac.out.size))).mono ?_;rintro e v3 ⟨rfl,A⟩)
    have l:Cx U v3:=f.trans (A.mono f.size);refine hK _ _ (ak ((H.out _).2 l)) ?_;clear hK KK A
    (refine ae 6 ?_;intro K hK;go_big_quiet_op;go_big_quiet_on)
    (refine ae 9 ?_;intro K hK;go_big_quiet_op;go_big_quiet_on)
    clear r0 r1 r2 r3 r4 B hne f;have d:=aa l;clear l;refine a9 ?_;have bJ:(if dd<left then dd else left)=L:=by rw [aU.out];split <;> omega
    go_wp2_with fail
    clear bJ bI;replace d:Hid (Cx U v3):=d
   case' neg =>
    have c7:(0:Int)<(b.length:Int):=CG
    have cq:Hid (F=pos):=by unfold Hid;rw [al.out,if_neg bl]
    clear bl
    gi_wp2_with fail
    obtain ⟨S,hS⟩:∃ S:World->Prop,∀ u,S u↔Cx U u:=⟨_,fun _=>Iff.rfl⟩
    have H:=aa hS;have r0:∀ u:an S,World.cell? u.val ⟨w.heap.size,0,none⟩=some (.pointer (some ⟨KT,0,none⟩)):=fun u=>cell_later ((hS u.val).1 u.2) t0
    have r1:∀ u:an S,World.cell? u.val ⟨W2.heap.size,0,none⟩=some (.int .i64 s.CB):=fun u=>cell_later ((hS u.val).1 u.2) e0
    have r2:∀ u:an S,World.cell? u.val ⟨W2.heap.size,1,none⟩=some (.int .i64 s.side):=fun u=>cell_later ((hS u.val).1 u.2) e1
    have B:S U.drew:=(hS _).2 (CV.drew);have hne:=aQ B;clear hS;refine fZ (fun w' => ∃ u:an S,w'=u.val) 4 CH (by rintro ⟨a,w,h⟩;exact h) CH CH (ak B) ?_
    (refine ae 0 ?_;intro K hK;go_big_quiet_op;go_big_quiet_on);(refine ae 1 ?_;intro K hK;go_big_quiet_op;go_big_quiet_on)
    refine az 2 ?_;intro KK hK
    go_wp2_with (go_at_call 114;refine (bk.out _).mono ?_;rintro e u2 ⟨rfl,z⟩)
    have f:Cx U u2:=CV.drew.trans z;refine hK _ _ (ak ((H.out _).2 f)) ?_;clear hK KK z;refine az 3 ?_;intro KK hK
    go_wp2_with (go_at_call 113;refine (aT.out _).mono ?_;rintro e u3 ⟨rfl,A⟩)
    have l:Cx U u3:=f.trans (A.mono f.size);refine hK _ _ (ak ((H.out _).2 l)) ?_;clear hK KK A r0 r1 r2 B hne f;have d:=aa l;clear l;refine a9 ?_
    go_wp2_with (go_at_call 112;refine (J.out _ (ac.out.trans (d.out.mono ac.out.size))).mono ?_;rintro e u4 ⟨rfl,N⟩;have ap:=d.out.trans (N.mono d.out.size);have ar:=HA.out.of_block (ap.block _ HA.out.lt);have a4:=ar.cell (i:=0) CG;have f4:=ar.frozen 0;have c8:=ar.lt;have cr:=aa ar;have cs:=aa ap;clear ar ap N)
    rw [cq.out];have j:=aS.out;have C:ag (fun k=>k=W.heap.size+1) U (u4.setCell ⟨W.heap.size+1,0,none⟩ (.int .i64 pos)):=(ag.of_below (S:=fun k=>k=W.heap.size+1) cs.out).setCell (p:=⟨W.heap.size+1,0,none⟩) (Or.inl rfl) _
    have bK:=cr.out.set 0 (.int .i64 pos);generalize u4.setCell ⟨W.heap.size+1,0,none⟩ (.int .i64 pos)=Y at C bK ⊢;replace HA:=aa (gZ bK (v:=.int .i64 pos) CI)
    replace a0:=HA.out.cell (i:=0) CG
    replace t0:=C.cell t0 (by show ¬ w.heap.size=W.heap.size+1;omega)
    replace e0:=C.cell e0 (by show ¬ W2.heap.size=W.heap.size+1;have:=bE.out;omega)
    replace e1:=C.cell e1 (by show ¬ W2.heap.size=W.heap.size+1;have:=bE.out;omega)
    replace o0:=C.cell o0 (by show ¬ w.heap.size+1=W.heap.size+1;omega)
    replace q0:=C.cell q0 (by show ¬ w.heap.size+1+1=W.heap.size+1;omega)
    replace HO:=aa (HO.out.of_block (C.block _ HO.out.lt (by show ¬ w.heap.size+1=W.heap.size+1;omega)))
    replace HP:=aa (HP.out.of_block (C.block _ HP.out.lt (by show ¬ w.heap.size+1+1=W.heap.size+1;omega)))
    replace HD:=aa ((C.block _ (bR HD.out) (by show ¬ w2.heap.size=W.heap.size+1;omega)).trans HD.out)
    replace X:=aa ((C.block _ (bR X.out) (by show ¬ w2.heap.size+1=W.heap.size+1;omega)).trans X.out)
    replace ax:=aa (cA ax.out C (fun k hk=>CG))
    replace ab:Hid (ag K W2 Y):=ab.out.trans (C.mono (fun k hk=>by subst hk;exact cR.out))
    replace ac:Hid (Cx w Y):=ac.out.trans (C.below ac.out.size (fun k hk e=>CG))
    replace bi:=ai e0;replace cg:=HO.out.lt;replace ch:=HA.out.lt;replace ci:=HP.out.lt;replace bj:=ai t0;dsimp only at bi bj;clear bK C j cq J aT cr cs d HX a4 f4 c8
    gi_wp2_with fail
    obtain ⟨S,hS⟩:∃ S:World->Prop,∀ u,S u↔Cx Y u:=⟨_,fun _=>Iff.rfl⟩
    have H:=aa hS;have r0:∀ u:an S,World.cell? u.val ⟨w.heap.size,0,none⟩=some (.pointer (some ⟨KT,0,none⟩)):=fun u=>cell_later ((hS u.val).1 u.2) t0
    have r1:∀ u:an S,World.cell? u.val ⟨W2.heap.size,0,none⟩=some (.int .i64 s.CB):=fun u=>cell_later ((hS u.val).1 u.2) e0
    have r2:∀ u:an S,World.cell? u.val ⟨W2.heap.size,1,none⟩=some (.int .i64 s.side):=fun u=>cell_later ((hS u.val).1 u.2) e1
    have r3:∀ u:an S,World.cell? u.val ⟨w.heap.size+1,0,none⟩=some (.int .i64 left):=fun u=>cell_later ((hS u.val).1 u.2) o0
    have r4:∀ u:an S,World.cell? u.val ⟨W.heap.size+1,0,none⟩=some (.int .i64 pos):=fun u=>cell_later ((hS u.val).1 u.2) a0
    have B:S Y.drew:=(hS _).2 (CV.drew);have hne:=aQ B;have bI:(E-pos)*s.side=dd:=aE.out.symm;clear hS;refine fZ (fun w' => ∃ u:an S,w'=u.val) 10 CH (by rintro ⟨a,w,h⟩;exact h) CH CH (ak B) ?_
    (refine ae 0 ?_;intro K hK;go_big_quiet_op;go_big_quiet_on);(refine ae 1 ?_;intro K hK;go_big_quiet_op;go_big_quiet_on);(refine ae 2 ?_;intro K hK;go_big_quiet_op;go_big_quiet_on)
    (refine ae 5 ?_;intro K hK;go_big_quiet_op;go_big_quiet_on)
    (refine ae 7 ?_;intro K hK;go_big_quiet_op;go_big_quiet_on);(refine ae 8 ?_;intro K hK;go_big_quiet_op;go_big_quiet_on)
    refine az 3 ?_;intro KK hK
    go_wp2_with (go_at_call 114;refine (bk.out _).mono ?_;rintro e v2 ⟨rfl,z⟩)
    have f:Cx Y v2:=CV.drew.trans z;refine hK _ _ (ak ((H.out _).2 f)) ?_;clear hK KK z;refine az 4 ?_;intro KK hK
    go_wp2_with (go_at_call 112;refine (ad.out _ (ac.out.trans (f.mono ac.out.size))).mono ?_;rintro e v3 ⟨rfl,A⟩)
    have l:Cx Y v3:=f.trans (A.mono f.size);refine hK _ _ (ak ((H.out _).2 l)) ?_;clear hK KK A
    (refine ae 6 ?_;intro K hK;go_big_quiet_op;go_big_quiet_on)
    (refine ae 9 ?_;intro K hK;go_big_quiet_op;go_big_quiet_on)
    clear r0 r1 r2 r3 r4 B hne f;have d:=aa l;clear l;refine a9 ?_;have bJ:(if dd<left then dd else left)=L:=by rw [aU.out];split <;> omega
    go_wp2_with fail
    clear bJ bI;replace d:Hid (Cx Y v3):=d
   all_goals
    have j:=aS.out;replace t0:=cell_later d.out t0;replace e0:=cell_later d.out e0;replace e1:=cell_later d.out e1;replace o0:=cell_later d.out o0;replace a0:=cell_later d.out a0;replace q0:=cell_later d.out q0;replace HO:=aa (HO.out.of_block (d.out.block _ HO.out.lt));replace HA:=aa (HA.out.of_block (d.out.block _ HA.out.lt));replace HP:=aa (HP.out.of_block (d.out.block _ HP.out.lt));replace HD:=aa ((d.out.block _ (bR HD.out)).trans HD.out);replace X:=aa ((d.out.block _ (bR X.out)).trans X.out);replace ax:=aa (aq ax.out d.out);replace ab:Hid (ag K W2 v3):=ab.out.trans (ag.of_below d.out);have c9:=ab.out.size;have dC:=bE.out;have ct:Hid (L*s.side=L\/L*s.side = - L):=by unfold Hid;rcases co.out with h | h <;> rw [h] <;> omega
    obtain ⟨mm,aV⟩:∃ mm,L*s.side=mm:=⟨_,rfl⟩;have cu:=aa aV;rw [aV] at ct;have bL:1<=L/\L<=left/\L<=dd:=by rw [aU.out];have:=cj.out;omega
    have bN : -10000000<=mm/\mm<=10000000:=by have:=ct.out;omega
    have da:=bN.1;have db:=bN.2;have dD:=bL.1;have dF:=bL.2.1;have cv:Hid (∀ u:World,Calls prog 115 #[.int .i64 s.CB,.int .i64 pos,.int .i64 (pos+mm)] u fun e w'=>e = .returned (.agg #[.int .i64 (cD s.CB pos (pos+mm)).CB,.int .i64 (cD s.CB pos (pos+mm)).lo,.int .i64 (cD s.CB pos (pos+mm)).hi])/\Cx u w'):=fun u=>qm s.CB pos (pos+mm) u
    have aW:Hid (lB ps js tot (n-1) s (left-L) (b++[cD s.CB pos (pos+mm)])):=by
     unfold Hid;rw [<-cu.out];exact bH.out
    generalize cD s.CB pos (pos+mm)=pt at cv aW;replace bi:=ai e0;replace cg:=HO.out.lt;replace ch:=HA.out.lt;replace ci:=HP.out.lt;replace bj:=ai t0;dsimp only at bi bj;clear bL bN j d H aV co bH aE;have aV:=cu.out
    gi_wp2_with fail
    obtain ⟨S,hS⟩:∃ S:World->Prop,∀ u,S u↔Cx v3 u:=⟨_,fun _=>Iff.rfl⟩
    have H:=aa hS;have r1:∀ u:an S,World.cell? u.val ⟨W2.heap.size,0,none⟩=some (.int .i64 s.CB):=fun u=>cell_later ((hS u.val).1 u.2) e0
    have r2:∀ u:an S,World.cell? u.val ⟨W2.heap.size,1,none⟩=some (.int .i64 s.side):=fun u=>cell_later ((hS u.val).1 u.2) e1
    have r3:∀ u:an S,World.cell? u.val ⟨w.heap.size+1+1,0,none⟩=some (.slice x b.length y):=fun u=>cell_later ((hS u.val).1 u.2) q0
    have r4:∀ u:an S,World.cell? u.val ⟨W.heap.size+1,0,none⟩=some (.int .i64 pos):=fun u=>cell_later ((hS u.val).1 u.2) a0
    have B:S v3.drew:=(hS _).2 (CV.drew);have hne:=aQ B;clear hS;refine fZ (fun w' => ∃ u:an S,w'=u.val) 12 CH (by rintro ⟨a,w,h⟩;exact h) CH CH (ak B) ?_
    (refine ae 0 ?_;intro K hK;go_big_quiet_op;go_big_quiet_on);(refine ae 1 ?_;intro K hK;go_big_quiet_op;go_big_quiet_on);(refine ae 2 ?_;intro K hK;go_big_quiet_op;go_big_quiet_on);(refine ae 3 ?_;intro K hK;go_big_quiet_op;go_big_quiet_on);(refine ae 4 ?_;intro K hK;go_big_quiet_op;go_big_quiet_on);(refine ae 5 ?_;intro K hK;go_big_quiet_op;go_big_quiet_on);(refine ae 6 ?_;intro K hK;go_big_quiet_op;go_big_quiet_on);(refine ae 7 ?_;intro K hK;go_big_quiet_op;go_big_quiet_on);(refine ae 8 ?_;intro K hK;go_big_quiet_op;go_big_quiet_on);(refine ae 9 ?_;intro K hK;go_big_quiet_op;go_big_quiet_on)
    refine az 10 ?_;intro KK hK
    go_wp2_with (go_at_call 115;refine (cv.out _).mono ?_;rintro e v4 ⟨rfl,N⟩)
    have ap:Cx v3 v4:=CV.drew.trans N;refine hK _ _ (ak ((H.out _).2 ap)) ?_;clear hK KK N;refine az 11 ?_;intro KK hK
    go_wp2_with fail
    generalize aX:World.alloc v4 _=V5;have aY:Cx v4 V5:=by rw [<-aX];exact CV.alloc CW _
    have bm:Cx v3 V5:=ap.trans (aY.mono ap.size);have n0:V5.cell? ⟨v4.heap.size,0,none⟩=some (.int .i64 pt.CB):=by rw [<-aX];simp [go_sem]
    have n1:V5.cell? ⟨v4.heap.size,1,none⟩=some (.int .i64 pt.lo):=by rw [<-aX];simp [go_sem]
    have n2:V5.cell? ⟨v4.heap.size,2,none⟩=some (.int .i64 pt.hi):=by rw [<-aX];simp [go_sem]
    refine hK _ _ (ak ((H.out _).2 bm)) ?_;clear hK KK aX aY ap r1 r2 r3 r4 B hne;have dc:=aa (Cj n0 n1 n2);clear n0 n1 n2;have aA:=aa bm;have dG:=bm.size;clear bm;have j:=aS.out;have aZ:=aa (aq ax.out aA.out);have cw:=aa (HO.out.of_block (aA.out.block _ HO.out.lt));have cx:=aa (HA.out.of_block (aA.out.block _ HA.out.lt));have cy:=aa (HP.out.of_block (aA.out.block _ HP.out.lt));have cz:=aa ((aA.out.block _ (bR HD.out)).trans HD.out);have a1:=aa ((aA.out.block _ (bR X.out)).trans X.out);have a2:Hid (ag K W2 V5):=ab.out.trans (ag.of_below aA.out);clear j ax HO HA HP HD X ab o0 a0 q0 t0 e0 e1;refine a9 ?_
    show wpList prog _ _ [_,_] _ _
    refine gF _ rfl (.tmp 52) (.tmp 63) 41 rfl (w2.heap.size+2) 48 _ 3 24 underlying41 Tryz.infoPart rfl CJ (.slice x b.length y) b.length (bG b) rfl aZ.out ⟨v4.heap.size,0,none⟩ 1 [.int .i64 pt.CB,.int .i64 pt.lo,.int .i64 pt.hi] rfl rfl dc.out CL CK CG CG ?_
    intro x6 y6 w6 r1 r6 r7;have aB:∀ k,k<w2.heap.size+2->some k≠(Value.slice x b.length y).ownBlock:=(fun k hk e=>by have h9:=(aZ.out.lt k e.symm).1;omega)
    have a3:=cy.out.of_block (r6.block _ cy.out.lt (aB _ (by have h9:=aS.out;omega)))
    have p6:=a3.cell (i:=0) CG
    have de:=a3.frozen 0;have df:=a3.lt;have dg:=aa a3;have di:=aa r1;have a5:=aa r6;have dj:=aa r7;have bn:=aa aB;clear a3 r1 r6 r7 aB
    go_wp2_with fail
    have j:=aS.out;have cC:ag K W2 w6:=a2.out.trans (ag.of_grown a5.out (fun k hk=>cf.out k hk))
    have cE:=(a5.out.block _ (bR a1.out) (bn.out _ CG)).trans a1.out
    have cF:=(a5.out.block _ (bR cz.out) (bn.out _ CG)).trans cz.out
    have a6:=cw.out.of_block (a5.out.block _ cw.out.lt (bn.out _ CG))
    have a7:=cx.out.of_block (a5.out.block _ cx.out.lt (bn.out _ CG))
    have bO:=(Below.heap_setCell w6 ⟨w.heap.size+1+1,0,none⟩ (.slice x6 (b.length+1) y6) (w2.heap.size+1) (by show ¬ w2.heap.size+1=w.heap.size+1+1;omega)).trans cE
    have bP:=(Below.heap_setCell w6 ⟨w.heap.size+1+1,0,none⟩ (.slice x6 (b.length+1) y6) w2.heap.size (by show ¬ w2.heap.size=w.heap.size+1+1;omega)).trans cF
    have bQ:=cC.setCell (p:=⟨w.heap.size+1+1,0,none⟩) (Or.inl cS.out) (.slice x6 (b.length+1) y6);have G:=a6.setOther (a:=⟨w.heap.size+1+1,0,none⟩) (by show ¬ w.heap.size+1=w.heap.size+1+1;omega) (.slice x6 (b.length+1) y6)
    have aC:=a7.setOther (a:=⟨w.heap.size+1+1,0,none⟩) (by show ¬ W.heap.size+1=w.heap.size+1+1;omega) (.slice x6 (b.length+1) y6)
    have bS:=gZ (dg.out.set 0 (.slice x6 (b.length+1) y6)) (v:=.slice x6 (b.length+1) y6) CI
    have bT:=ownsRow_setCell_below di.out (a:=⟨w.heap.size+1+1,0,none⟩) (by show w.heap.size+1+1<w2.heap.size+2;omega) (.slice x6 (b.length+1) y6)
    generalize w6.setCell ⟨w.heap.size+1+1,0,none⟩ (.slice x6 (b.length+1) y6)=Z at bO bP bQ G aC bS bT ⊢;have z0:=G.cell (i:=0) CG
    have zf:=G.frozen 0;have aO:=G.lt;have bU:=aa (gZ (G.set 0 (.int .i64 (left-L))) (v:=.int .i64 (left-L)) CI)
    have bV:=aa (aC.setOther (a:=⟨w.heap.size+1,0,none⟩) (by show ¬ W.heap.size+1=w.heap.size+1;omega) (.int .i64 (left-L)))
    have dk:=aa (bS.setOther (a:=⟨w.heap.size+1,0,none⟩) (by show ¬ w.heap.size+1+1=w.heap.size+1;omega) (.int .i64 (left-L)))
    have dl:=aa (bQ.setCell (p:=⟨w.heap.size+1,0,none⟩) (Or.inl cQ.out) (.int .i64 (left-L)));have dn:=aa ((Below.heap_setCell Z ⟨w.heap.size+1,0,none⟩ (.int .i64 (left-L)) (w2.heap.size+1) (by show ¬ w2.heap.size+1=w.heap.size+1;omega)).trans bO)
    have dp:=aa ((Below.heap_setCell Z ⟨w.heap.size+1,0,none⟩ (.int .i64 (left-L)) w2.heap.size (by show ¬ w2.heap.size=w.heap.size+1;omega)).trans bP)
    have dq:=aa (ownsRow_setCell_below bT (a:=⟨w.heap.size+1,0,none⟩) (by show w.heap.size+1<w2.heap.size+2;omega) (.int .i64 (left-L)))
    clear cC cE cF a6 a7 bO bP bQ G aC bS bT j p6 de aV
    gi_wp2_with fail
    have bW:(b++[pt]).length=b.length+1:=CI
    refine HI.out.on aP.out (parts1:=b++[pt]) dn.out dl.out dp.out bU.out bV.out ⟨x6,y6,by rw [bW];exact dk.out,by rw [bW,<-gY];exact dq.out,fun k hk=>?_⟩ _ (fun K' u hu=>⟨n-1,c4.out,pos,left-L,b++[pt],hu,aW.out,CG,CG⟩) _
    rw [bW] at hk;rcases dj.out k hk with h | h
    ·exact Or.inl (cf.out k h)
    ·exact Or.inr (Nat.le_trans a2.out.size h)
 have dr:Hid (vF KT V.heap.size (w2.heap.size+1) (w2.heap.size+2) js (OJ w KT (w2.heap.size+1) w2.heap.size w.heap.size (w.heap.size+1) (w.heap.size+1+1) (W.heap.size+1) V.heap.size (w2.heap.size+2) r ps js tot) (ON w KT (w2.heap.size+1) w2.heap.size w.heap.size (w.heap.size+1) (w.heap.size+1+1) (W.heap.size+1) V.heap.size (w2.heap.size+2) r ps js tot) (xE w (w2.heap.size+1) w2.heap.size (w.heap.size+1+1) (w2.heap.size+2) r tot)):=by
  refine ⟨?_,?_,?_,?_,?_,HY.out⟩
  ·rintro n s K u ⟨t,left,b,hb,_⟩;exact hb.lt
  ·rintro n s K S u u' ⟨t,left,b,hb,hm⟩ hO hS;exact ⟨t,left,b,hb.keep hO hS,hm⟩
  ·rintro n s K S u u' ⟨t,left,b,hb,hm⟩ hO hS;exact ⟨t,left,b,hb.keep hO hS,hm⟩
  ·rintro n s K u ⟨t,left,b,hb,_⟩;exact hb.t2
  ·rintro n s K u ⟨t,left,b,hb,hm,ha⟩ ds;exact ⟨t,left,b,hb,hm.next R.out ds ha⟩
 have dt:Hid (∀ n s K u,ON w KT (w2.heap.size+1) w2.heap.size w.heap.size (w.heap.size+1) (w.heap.size+1+1) (W.heap.size+1) V.heap.size (w2.heap.size+2) r ps js tot n s K u->cB u KT M pa ja (some ⟨bs,os,none⟩) pc jc sc ps js ss/\eR ps s):=by
  rintro n s K u ⟨t,left,b,hb,hm,_⟩;exact ⟨hT.out.below hb.below,hm.sv⟩
 refine (callsIn_wide).2 ((zM KT M V.heap.size (V.heap.size+1) (w2.heap.size+2) pa ja (some ⟨bs,os,none⟩) pc jc sc ps js ss R (w2.heap.size+1) _ _ _ dr dt (over.toNat+1) ⟨sg.len,sg.CC⟩ _ W1 CG b9 (cell_later I F0.out) (cell_later I F1.out)).mono ?_)
 rintro e w3 ⟨⟨v,rfl⟩,cH,h3⟩;have aF:∀ pe,(r .ready pe).state≠.busy/\(r .ready pe).pending=pe/\(r .done pe).state≠.busy/\(r .done pe).pending=pe:=by
  rw [D];intro pe;simp
 have a8:Hid (∀ w4:World,ag (fun k=>k=w2.heap.size+1) w3 w4->Cx w w3->w3.heap[w2.heap.size]? = some (.deferred (some []))->(∃ (x:Option Addr) (y:Nat),w3.rowIs (w.heap.size+1+1) 41 1 (fun _=>.slice x tot.length y)/\w3.ownsRow (w2.heap.size+2) 48 3 (.slice x tot.length y) tot.length (bG tot)) ->
   ∃ x y wf,w4.cell? ⟨w.heap.size+1+1,0,none⟩=some (.slice x tot.length y)/\w.heap.size+1+1<w4.heap.size/\(Instr.takeDeferred w2.heap.size).run prog w4 = .ok [] wf/\wf.ownsRow w.heap.size 48 3 (.slice x tot.length y) tot.length (bG tot)/\Cx w wf):=by
  intro w4 am l hd3 ⟨x,y,g1,g2⟩;have ar:=g1.of_block (am.block _ g1.lt (by show ¬ w.heap.size+1+1=w2.heap.size+1;omega))
  have du:=(am.block _ (bR hd3) (by show ¬ w2.heap.size=w2.heap.size+1;omega)).trans hd3
  have dv:ag (fun k=>k=w2.heap.size) w4 (w4.putObj w2.heap.size (.deferred none)):=ag.of_grown (grownBy_putObj' _ _ _) (fun k e=>by cases e;rfl)
  have ba:ag (fun k=>k=w2.heap.size+1\/k=w2.heap.size) w3 (w4.putObj w2.heap.size (.deferred none)):=(am.mono (fun k hk=>Or.inl hk)).trans (dv.mono (fun k hk=>Or.inr hk))
  have cI:=cA g2 ba (fun k hk=>CG)
  refine ⟨x,y,_,ar.cell (i:=0) CG,ar.lt,run_takeDeferred du,⟨cI.1,cI.2.imp id fun ⟨g,cap,cur,q1,q2,q3⟩=>⟨g,cap,cur,q1,CG,q3⟩⟩,l.trans (ba.below l.size (fun k hk e=>CG))⟩
 rcases h3 with ⟨n3,s3,K',⟨t,left,b,l,cJ,_⟩,bX,_⟩ | bb
 ·have cK:=cJ.stop bX;refine ⟨_,_,run_endLoop l.loop (aF none).1,?_⟩;rw [(aF none).2.1];dsimp only;generalize bc:w3.putObj _ _=w4;have am:ag (fun k=>k=w2.heap.size+1) w3 w4:=by
   rw [<-bc];exact ag.of_grown (grownBy_putObj' _ _ _) (fun k e=>by cases e;rfl)
  clear bc;obtain ⟨x,y,g1,g2,_⟩:=l.own;rw [<-cK] at g1 g2;obtain ⟨x,y,wf,p0,pz,bd,O,be⟩:=a8.out w4 am l.below l.dfr ⟨x,y,g1,g2⟩;have bY:=aa bd;have bZ:=aa O;have b0:=aa be;have dH:Hid (w2.heap.size=w2.heap.size):=rfl;clear aO bB am g1 g2 l cJ cK bd O be aF cH I bg bh bq;simp only [Exit.inBlock,Exit.then]
  go_wp2_with fail
  refine ⟨CI,.inl ⟨_,_,rfl,bY.out,?_⟩⟩
  exact ⟨.slice x tot.length y,by simp [results,results84,go_sem],x,y,rfl,bZ.out,b0.out⟩
 ·obtain ⟨cc,cL,dw⟩:=bb.loop;subst dw;refine ⟨_,_,run_endLoop cL (aF (some (.exit 0))).2.2.1,?_⟩;rw [(aF (some (.exit 0))).2.2.2];dsimp only;generalize bc:w3.putObj _ _=w4;have am:ag (fun k=>k=w2.heap.size+1) w3 w4:=by
   rw [<-bc];exact ag.of_grown (grownBy_putObj' _ _ _) (fun k e=>by cases e;rfl)
  clear bc;obtain ⟨x,y,wf,p0,pz,bd,O,be⟩:=a8.out w4 am bb.below bb.dfr bb.own;have bY:=aa bd;have bZ:=aa O;have b0:=aa be;clear aO bB am bb cL bd O be aF cH I bg bh bq;refine wpIn_wide.2 ?_
  go_wp2_with fail
  refine ⟨CI,.inl ⟨_,_,rfl,bY.out,?_⟩⟩
  exact ⟨.slice x tot.length y,by simp [results,results84,go_sem],x,y,rfl,bZ.out,b0.out⟩
end Go.Proofs.YtmkdgnmmebldgaaGreatDoor
