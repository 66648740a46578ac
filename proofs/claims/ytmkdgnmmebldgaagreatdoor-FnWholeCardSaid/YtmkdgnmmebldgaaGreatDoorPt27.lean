import Derived.Test.YtmkdgnmmebldgaaGreatDoorPt26
set_option maxRecDepth 100000
set_option maxHeartbeats 8000000
namespace Go.Proofs.YtmkdgnmmebldgaaGreatDoor
open Go.RowKit Go.Deep Go.Maps
def posF (ps:List MPiece)(s:MStep)(at0:Int)(parts:List MPart):Int:=if parts.length=0 then at0 else endAt ps (farE (aheadE s))
def distF (ps:List MPiece)(s:MStep)(pos:Int):Int:=(endAt ps (aheadE s)-pos)*s.side
structure JMath (ps:List MPiece)(js:List MJoint)(tot:List MPart)(n:Nat)(s:MStep)(at0 left:Int)(parts:List MPart):Prop where
 sv:ValidS ps s
 l0:0≤left
 ln:left<n
 lb:(parts.length:Int)+left≤100000
 p0:0≤posF ps s at0 parts
 p1:posF ps s at0 parts≤10000000
 d0:1≤distF ps s (posF ps s at0 parts)
 d1:distF ps s (posF ps s at0 parts)≤10000000
 a0:0≤at0∧at0≤10000000
 tot:tot=parts++behindF ps js n s (posF ps s at0 parts) left
structure NMath (ps:List MPiece)(js:List MJoint)(tot:List MPart)(m:Nat)(s:MStep)(left:Int)(parts:List MPart):Prop where
 sv:ValidS ps s
 l0:0≤left
 ln:left<m
 lb:(parts.length:Int)+left≤100000
 ne:parts.length≠0
 tot:tot=parts++(if kindE js (spotE js (aheadE s)).1=2 then behindF ps js m (stepFromE (endE js (spotE js (aheadE s)).1 (1-(spotE js (aheadE s)).2))) (endAt ps (endE js (spotE js (aheadE s)).1 (1-(spotE js (aheadE s)).2))) left else [])
theorem JMath.stop {ps:List MPiece}{js:List MJoint}{tot:List MPart}{n:Nat}{s:MStep}{at0 left:Int}{parts:List MPart}(h:JMath ps js tot n s at0 left parts)(h0:left=0):tot=parts:=by
 have hn:=h.ln
 obtain ⟨m,rfl⟩:∃ m,n=m+1:=⟨n-1,by omega⟩
 rw [h.tot,behindF,if_pos (by omega)]
 simp
theorem JMath.step {ps:List MPiece}{js:List MJoint}{tot:List MPart}{n:Nat}{s:MStep}{at0 left:Int}{parts:List MPart}(h:JMath ps js tot n s at0 left parts)(h0:left≠0){L:Int}(hL:L=min left (distF ps s (posF ps s at0 parts))):
  NMath ps js tot (n-1) s (left-L) (parts++[partI s.piece (posF ps s at0 parts) (posF ps s at0 parts+L*s.side)]):=by
 have hn:=h.ln
 have hl:=h.l0
 have hd:=h.d0
 have hb:=h.lb
 have hL1:1≤L∧L≤left:=by rw [hL];omega
 obtain ⟨m,rfl⟩:∃ m,n=m+1:=⟨n-1,by omega⟩
 refine ⟨h.sv,by omega,by omega,by rw [List.length_append,List.length_singleton];omega,by simp,?_⟩
 have ht:=h.tot
 rw [behindF,if_neg (by omega)] at ht
 unfold distF at hL
 rw [ht,hL,List.append_assoc]
 rfl
theorem NMath.stop {ps:List MPiece}{js:List MJoint}{tot:List MPart}{m:Nat}{s:MStep}{left:Int}{parts:List MPart}(h:NMath ps js tot m s left parts)(h0:(overPlainF js s).2=false):tot=parts:=by
 have ht:=h.tot
 unfold overPlainF at h0
 by_cases hk:kindE js (spotE js (aheadE s)).1=2
 ·rw [if_pos hk] at h0
  cases h0
 ·rw [if_neg hk] at ht
  rw [ht]
  simp
theorem dist_begin {ps:List MPiece}{e:MEnd}(h:ValidE ps e):distF ps (stepFromE e) (endAt ps e)=lenI ps e.piece:=by
 obtain ⟨p,hp,e1,e2⟩:=h
 cases e
 simp only at e1 e2
 unfold distF stepFromE aheadE endAt
 rcases e2 with rfl | rfl <;> simp
theorem NMath.next {ps:List MPiece}{js:List MJoint}{ss:List MPiece}(R:Right ps js ss){tot:List MPart}{m:Nat}{s:MStep}{left:Int}{parts:List MPart}(h:NMath ps js tot m s left parts)(h0:(overPlainF js s).2=true){at0:Int}(ha:0≤at0∧at0≤10000000):JMath ps js tot m (overPlainF js s).1 at0 left parts:=by
 have ht:=h.tot
 unfold overPlainF at h0 ⊢
 by_cases hk:kindE js (spotE js (aheadE s)).1=2
 ·rw [if_pos hk] at h0 ht ⊢
  obtain ⟨j,k,hsp,hsp2⟩:=R.spot (aheadE_valid h.sv)
  obtain ⟨_,hj,hkk,_⟩:=spotF_some hsp
  simp only [Nat.sub_zero] at hj hkk
  rw [hsp2] at hk ht ⊢
  dsimp only at hk ht ⊢
  have hkd:=R.kind j hj
  rw [kindE_at hj] at hk
  have hte:1-k<js[j].ends.length:=by omega
  have hve:ValidE ps (endE js j (1-k)):=by
   rw [endE_at hj hte]
   exact R.ends j hj _ hte
  obtain ⟨q,hq,q1,q2⟩:=hve
  have hpl:=R.plen q hq
  have hlen:lenI ps (endE js j (1-k)).piece=ps[q].len:=by rw [q1];exact lenI_at hq
  have hve:ValidE ps (endE js j (1-k)):=⟨q,hq,q1,q2⟩
  have hpos:posF ps (stepFromE (endE js j (1-k))) at0 parts=endAt ps (endE js j (1-k)):=by
   unfold posF
   rw [if_neg h.ne,(farI_begin hve).2]
  have hr:=endAt_range R hve
  refine ⟨stepFromE_valid hve,h.l0,h.ln,h.lb,by rw [hpos];exact hr.1,by rw [hpos];omega,?_,?_,ha,by rw [hpos];exact ht⟩
  ·rw [hpos,dist_begin hve,hlen]
   exact hpl.1
  ·rw [hpos,dist_begin hve,hlen]
   exact hpl.2
 ·rw [if_neg hk] at h0
  cases h0
theorem JMath.begin {ps:List MPiece}{js:List MJoint}{ss:List MPiece}(R:Right ps js ss){i:Nat}(hi:i<ss.length){over:Int}(h0:0≤over)(h1:over≤100000):JMath ps js (overF ps js ss i over) (over.toNat+1) ⟨ss[i].len,ss[i].brake⟩ ss[i].speed over []:=by
 obtain ⟨p,hp,e1,e2,e3,e4⟩:=R.sig i hi
 have hpl:=R.plen p hp
 have hlen:lenI ps ss[i].len=ps[p].len:=by rw [e1];exact lenI_at hp
 have hpos:posF ps ⟨ss[i].len,ss[i].brake⟩ ss[i].speed []=ss[i].speed:=rfl
 have hd:1≤distF ps ⟨ss[i].len,ss[i].brake⟩ ss[i].speed∧distF ps ⟨ss[i].len,ss[i].brake⟩ ss[i].speed≤10000000:=by
  unfold distF aheadE endAt
  rcases e2 with e2 | e2
  ·rw [e2]
   simp only [if_true]
   rw [if_neg (by omega),hlen]
   omega
  ·rw [e2]
   have hne:¬ ((-1:Int)=1):=by decide
   simp [hne]
   omega
 refine ⟨⟨p,hp,e1,e2⟩,h0,by omega,by simpa using h1,by rw [hpos];omega,by rw [hpos];omega,by rw [hpos];exact hd.1,by rw [hpos];exact hd.2,by omega,?_⟩
 unfold overF
 rw [if_neg (by omega),hpos]
 simp [hi]
theorem range_law_cap {P:Program}{n:Nat}{g:Operand}{ps:Array Tmp}{assign body:Code}{Q:Exit→Act→World→Prop}{a:Act}{w:World}(gf:Nat)(cap:Array Value)(hg:a.eval g = .func (.func gf) #[] cap)(eg:∀ args w,(callFunc gf args).run P w = .ok (.enter gf args) w)
  (h:∀ (fn:FuncId) (rec:LoopState→Option Code→Loop),(rec=fun st pe=>{ state:=st,pending:=pe,fn,tmps:=a.tmps,params:=ps,assign,body,defers:=w.heap.size }) →
   CallsIn Fence.wide (n-1) P gf (#[.func (.yield (w.heap.size+1)) #[] #[]]++cap) ((w.alloc (.deferred (some []))).alloc (.loop (rec .ready none))) (rangePost Fence.wide n P (w.heap.size+1) Q { a with defers:=[{ target:=.collected w.heap.size,args:=#[] }]++a.defers })) :
  (Code.rangeFunc g ps assign body).wpIn Fence.wide n P Q a w:=by
 refine wpIn_rangeFunc ?_
 intro fn _
 obtain ⟨rec,hrec⟩:∃ rec:LoopState→Option Code→Loop,rec=fun st pe=>{ state:=st,pending:=pe,fn,tmps:=a.tmps,params:=ps,assign,body,defers:=w.heap.size }:=⟨_,rfl⟩
 have h1:=h fn rec hrec
 have he:(Instr.enterLoop fn a.tmps ps assign body Fence.wide.round).run P w = .ok (w.heap.size+1,[{ target:=.collected w.heap.size,args:=#[] }]) ((w.alloc (.deferred (some []))).alloc (.loop (rec .ready none))):=by
  have h0:Fence.wide.round=none:=rfl
  rw [hrec,h0]
  exact run_enterLoop_outer _ _ _ _ _
 obtain ⟨W1,hW1⟩:∃ W1,(w.alloc (.deferred (some []))).alloc (.loop (rec .ready none))=W1:=⟨_,rfl⟩
 rw [hW1] at h1 he
 refine ⟨w.heap.size+1,[{ target:=.collected w.heap.size,args:=#[] }],W1,{ target:=.fn (.func gf) cap,args:=#[.func (.yield (w.heap.size+1)) #[] #[]] },W1,gf,#[.func (.yield (w.heap.size+1)) #[] #[]]++cap,W1,he,?_,?_,?_,?_,?_⟩
 ·simp only [resolve,hg]
  simp [go_sem]
 ·intro _ _
  trivial
 ·simp [invoke,go_sem,eg]
 ·intro h
  cases h
 ·exact h1
structure OBase (w:World)(KT l D tB oB pB aB tb bs:Nat)(rec:LoopState→Option Code→Loop)(K:Nat→Prop)(at0 left:Int)(parts:List MPart)(W:World):Prop where
 below:Below w.heap.size w W
 loop:W.heap[l]? = some (.loop (rec .ready none))
 dfr:W.heap[D]? = some (.deferred (some []))
 t1:W.cell? ⟨tB,0,none⟩=some (.pointer (some ⟨KT,0,none⟩))
 t2:W.cell? ⟨tb,0,none⟩=some (.pointer (some ⟨KT,0,none⟩))
 over:W.rowIs oB 3 1 (fun _=>.int .i64 left)
 at_:W.rowIs aB 3 1 (fun _=>.int .i64 at0)
 own:∃ (x:Option Addr) (y:Nat),W.rowIs pB 41 1 (fun _=>.slice x parts.length y)∧W.ownsRow bs 48 3 (.slice x parts.length y) parts.length (flatP parts) ∧
  ∀ k,K k↔k=l∨k=D∨k=oB∨k=aB∨k=pB∨(Value.slice x parts.length y).ownBlock=some k
 low:w.heap.size≤tB∧tB<oB∧oB<pB∧pB<aB∧aB<tb∧tb<D∧D<l∧l<bs
structure OStop (w:World)(l D pB bs:Nat)(rec:LoopState→Option Code→Loop)(tot:List MPart)(W:World):Prop where
 below:Below w.heap.size w W
 loop:∃ c,W.heap[l]? = some (.loop (rec .done (some c)))∧c = .exit 0
 dfr:W.heap[D]? = some (.deferred (some []))
 own:∃ (x:Option Addr) (y:Nat),W.rowIs pB 41 1 (fun _=>.slice x tot.length y)∧W.ownsRow bs 48 3 (.slice x tot.length y) tot.length (flatP tot)
 low:w.heap.size≤pB∧pB<D∧D<l∧l<bs
section
variable {w:World} {KT l D tB oB pB aB tb bs:Nat} {rec:LoopState→Option Code→Loop} {K:Nat→Prop} {at0 left:Int} {parts:List MPart} {W W':World}
theorem OBase.lt (h:OBase w KT l D tB oB pB aB tb bs rec K at0 left parts W):∀ k,K k→k<W.heap.size:=by
 intro k hk
 obtain ⟨x,y,h1,h2,h5⟩:=h.own
 rcases (h5 k).1 hk with rfl | rfl | rfl | rfl | rfl | hk
 ·exact get_lt h.loop
 ·exact get_lt h.dfr
 ·exact h.over.lt
 ·exact h.at_.lt
 ·exact h1.lt
 ·exact (h2.lt k hk).2
theorem OBase.low_own (h:OBase w KT l D tB oB pB aB tb bs rec K at0 left parts W):∀ k,K k→w.heap.size≤k:=by
 intro k hk
 have hl:=h.low
 obtain ⟨x,y,h1,h2,h5⟩:=h.own
 rcases (h5 k).1 hk with rfl | rfl | rfl | rfl | rfl | hk
 ·omega
 ·omega
 ·omega
 ·omega
 ·omega
 ·have:=(h2.lt k hk).1
  omega
theorem OBase.keep (h:OBase w KT l D tB oB pB aB tb bs rec K at0 left parts W){S:Nat→Prop}(hO:Only S W W')(hS:∀ k,S k→bs≤k∧¬ K k):OBase w KT l D tB oB pB aB tb bs rec K at0 left parts W':=by
 have hl:=h.low
 have hn:∀ k,k<bs→¬ S k:=fun k hk hs=>by have:=(hS k hs).1;omega
 obtain ⟨x,y,h1,h2,h5⟩:=h.own
 refine ⟨h.below.trans (hO.below h.below.size (fun k hk=>hn k (by omega))),(hO.block _ (get_lt h.loop) (hn _ (by omega))).trans h.loop,(hO.block _ (get_lt h.dfr) (hn _ (by omega))).trans h.dfr,hO.cell h.t1 (hn _ (by show tB<bs;omega)),hO.cell h.t2 (hn _ (by show tb<bs;omega)),h.over.of_block (hO.block _ h.over.lt (hn _ (by omega))),h.at_.of_block (hO.block _ h.at_.lt (hn _ (by omega))),⟨x,y,h1.of_block (hO.block _ h1.lt (hn _ (by omega))),?_,h5⟩,hl⟩
 refine ⟨h2.1,?_⟩
 rcases h2.2 with q | ⟨g,cap,cur,q1,q2,q3,q4⟩
 ·exact Or.inl q
 ·refine Or.inr ⟨g,cap,cur,q1,q2,(hO.block g (get_lt q3) (fun hs=>(hS g hs).2 ((h5 g).2 (Or.inr (Or.inr (Or.inr (Or.inr (Or.inr ?_)))))))).trans q3,q4⟩
  rw [q1]
  rfl
theorem OBase.on (hI:OBase w KT l D tB oB pB aB tb bs rec K at0 left parts W)(hrec:∀ st pe,({ rec .ready none with state:=st,pending:=pe }:Loop)=rec st pe){Wn:World}{at1 left1:Int}{parts1:List MPart}
  (hl:Wn.heap[l]? = some (.loop { rec .ready none with state:=.busy })) (hO:Only K W Wn) (hD:Wn.heap[D]? = some (.deferred (some []))) (hov:Wn.rowIs oB 3 1 (fun _=>.int .i64 left1)) (hat:Wn.rowIs aB 3 1 (fun _=>.int .i64 at1))
  (hown:∃ (x:Option Addr) (y:Nat),Wn.rowIs pB 41 1 (fun _=>.slice x parts1.length y)∧Wn.ownsRow bs 48 3 (.slice x parts1.length y) parts1.length (flatP parts1)∧∀ k,(Value.slice x parts1.length y).ownBlock=some k→K k∨W.heap.size≤k)
  (J:(Nat→Prop)→World→Prop) (hJ:∀ K' u,OBase w KT l D tB oB pB aB tb bs rec K' at1 left1 parts1 u→J K' u) (Sx:World→Prop) :
  ∃ v w',(Instr.endRound l none).run Tryz.prog Wn = .ok v w'∧Visited J Sx K W (.returned v) w':=by
 refine ⟨_,_,run_endRound none hl,?_⟩
 have hlt:=get_lt hl
 have hlow:=hI.low
 obtain ⟨x,y,g1,g2,g5⟩:=hown
 obtain ⟨x0,y0,_,k2,k5⟩:=hI.own
 have hKl:K l:=(k5 l).2 (Or.inl rfl)
 have hKt:¬ K tB:=fun h=>by
  rcases (k5 tB).1 h with h | h | h | h | h | h
  ·omega
  ·omega
  ·omega
  ·omega
  ·omega
  ·have:=(k2.lt _ h).1
   omega
 have hKb:¬ K tb:=fun h=>by
  rcases (k5 tb).1 h with h | h | h | h | h | h
  ·omega
  ·omega
  ·omega
  ·omega
  ·omega
  ·have:=(k2.lt _ h).1
   omega
 generalize hwn:Wn.putObj l _=w'
 have hOn:Only (fun k=>k=l) Wn w':=by
  rw [← hwn]
  exact Only.of_grown (grownBy_putObj' _ _ _) (fun k e=>by cases e;rfl)
 have hl':w'.heap[l]? = some (.loop (rec .ready none)):=by
  rw [← hwn]
  refine (World.putObj_heap_same hlt).trans ?_
  congr 2
  exact hrec .ready none
 clear hwn
 have hO2:Only K W w':=hO.trans (hOn.mono (fun k hk=>by subst hk;exact hKl))
 have hG:Grow K (fun k=>k=l∨k=D∨k=oB∨k=aB∨k=pB∨(Value.slice x parts1.length y).ownBlock=some k) W:=by
  intro k hk
  rcases hk with h | h | h | h | h | h
  ·exact Or.inl ((k5 k).2 (Or.inl h))
  ·exact Or.inl ((k5 k).2 (Or.inr (Or.inl h)))
  ·exact Or.inl ((k5 k).2 (Or.inr (Or.inr (Or.inl h))))
  ·exact Or.inl ((k5 k).2 (Or.inr (Or.inr (Or.inr (Or.inl h)))))
  ·exact Or.inl ((k5 k).2 (Or.inr (Or.inr (Or.inr (Or.inr (Or.inl h))))))
  ·exact g5 k h
 have hKD:K D:=(k5 D).2 (Or.inr (Or.inl rfl))
 refine ⟨true,rfl,hO2,fun _=>⟨_,hJ _ _ ?_,hG⟩,fun h=>by cases h⟩
 refine ⟨hI.below.trans (hO2.below hI.below.size (fun k hk e=>by have:=hI.low_own k e;omega)),hl',(hOn.block _ (get_lt hD) (by show ¬ D=l;omega)).trans hD,hO2.cell hI.t1 hKt,hO2.cell hI.t2 hKb,hov.of_block (hOn.block _ hov.lt (by show ¬ oB=l;omega)),hat.of_block (hOn.block _ hat.lt (by show ¬ aB=l;omega)),⟨x,y,g1.of_block (hOn.block _ g1.lt (by show ¬ pB=l;omega)),owns_only g2 hOn (fun k hk=>by omega),fun k=>Iff.rfl⟩,hlow⟩
theorem OBase.off (hI:OBase w KT l D tB oB pB aB tb bs rec K at0 left parts W)(hrec:∀ st pe,({ rec .ready none with state:=st,pending:=pe }:Loop)=rec st pe){Wn:World}
  (hl:Wn.heap[l]? = some (.loop { rec .ready none with state:=.busy })) (hO:Only K W Wn) (hD:Wn.heap[D]? = some (.deferred (some [])))
  (hown:∃ (x:Option Addr) (y:Nat),Wn.rowIs pB 41 1 (fun _=>.slice x parts.length y)∧Wn.ownsRow bs 48 3 (.slice x parts.length y) parts.length (flatP parts))
  (J:(Nat→Prop)→World→Prop):∃ v w',(Instr.endRound l (some (.exit 0))).run Tryz.prog Wn = .ok v w'∧Visited J (OStop w l D pB bs rec parts) K W (.returned v) w':=by
 refine ⟨_,_,run_endRound (some (.exit 0)) hl,?_⟩
 have hlt:=get_lt hl
 have hlow:=hI.low
 obtain ⟨x,y,g1,g2⟩:=hown
 obtain ⟨x0,y0,_,k2,k5⟩:=hI.own
 have hKl:K l:=(k5 l).2 (Or.inl rfl)
 generalize hwn:Wn.putObj l _=w'
 have hOn:Only (fun k=>k=l) Wn w':=by
  rw [← hwn]
  exact Only.of_grown (grownBy_putObj' _ _ _) (fun k e=>by cases e;rfl)
 have hl':w'.heap[l]? = some (.loop (rec .done (some (.exit 0)))):=by
  rw [← hwn]
  refine (World.putObj_heap_same hlt).trans ?_
  congr 2
  exact hrec .done (some (.exit 0))
 clear hwn
 have hO2:Only K W w':=hO.trans (hOn.mono (fun k hk=>by subst hk;exact hKl))
 exact ⟨false,rfl,hO2,(fun h=>by cases h),fun _=>⟨hI.below.trans (hO2.below hI.below.size (fun k hk e=>by have:=hI.low_own k e;omega)),⟨_,hl',rfl⟩,(hOn.block _ (get_lt hD) (by show ¬ D=l;omega)).trans hD,⟨x,y,g1.of_block (hOn.block _ g1.lt (by show ¬ pB=l;omega)),owns_only g2 hOn (fun k hk=>by omega)⟩,by omega⟩⟩
end
theorem wpList_append_sharp {P:Program}(w:World){ops:Array Oper}{rest:List Oper}{o:Oper}{a:Act}{Q:Exit→Act→World→Prop}
  (hg:o.guard=none) (s x:Operand) (t:TypeId) (hop:o.op=Op.call { callee:=Callee.builtin Builtin.append,args:=#[s,x],argTypes:=#[t,t] })
  (base:Nat) (e:TypeId) (z:Value) (size bytes:Nat) (h1:P.underlying t=some (.slice e)) (hi:(P.info? e).map (fun i=>(i.zero,i.size,i.bytes))=some (some z,size,bytes)) (h6:z.cells.size=size) (h7:0<size)
  (v:Value) (k:Nat) (xs:List Value) (hs:a.eval s=v) (hown:w.ownsRow base e size v k xs) (ad:Addr) (c:Nat) (news:List Value) (hx:a.eval x = .slice (some ad) 1 c) (hn:news.length=size)
  (hc:∀ j u,news[j]? = some u→w.cell? (ad.add j)=some u) (h1c:∀ u ∈ news,u.oneCell'=true) (b1:k+1≤maxLen) (b2:(k+1)*bytes≤140737488355328) (b3:base≤w.heap.size)
  (hK:∀ x' y' w',w'.ownsRow base e size (.slice x' (k+1) y') (k+1) (xs++news)→w.grownBy w' v.ownBlock→(∀ b,(Value.slice x' (k+1) y').ownBlock=some b→v.ownBlock=some b∨w.heap.size≤b)→wpList P ops Q rest (a.put o.dst (.slice x' (k+1) y')) w') :
  wpList P ops Q (o::rest) a w:=by
 refine wpList_plain hg fun K hK'=>?_
 obtain ⟨i,h2,h3,h4,h5⟩:=info_parts hi
 obtain ⟨v',w',hrun,r1,r2,r3⟩:=append_sharp (P:=P) w base t o.type e i z size bytes h1 h2 h3 h4 h5 h6 h7 v k xs hown ad 1 c news (by omega) hc h1c b1 b2 b3
 obtain ⟨x',y',e1,_⟩:=owns_shape r1
 subst e1
 unfold Oper.wp execOp
 simp only [hop,resolve,invoke,builtin,Sem.run_bind,Sem.run_pure,Result.andThen_ok,List.map_toArray,List.map_cons,List.map_nil,hs,hx,hrun]
 exact hK' _ _ (hK x' y' w' r1 r2 r3)
theorem news3 {u:World}{g:Nat}{a b c:Value}(c0:u.cell? ⟨g,0,none⟩=some a)(c1:u.cell? ⟨g,1,none⟩=some b)(c2:u.cell? ⟨g,2,none⟩=some c):∀ (j:Nat) (v:Value),[a,b,c][j]? = some v→u.cell? ((⟨g,0,none⟩:Addr).add j)=some v:=by
 intro j v hv
 rw [addr_at,Nat.zero_add]
 match j with
 | 0=>simp at hv;rw [← hv];exact c0
 | 1=>simp at hv;rw [← hv];exact c1
 | 2=>simp at hv;rw [← hv];exact c2
 | j+3=>simp at hv
theorem at_end {KT:Nat}{pa ja sa:Option Addr}{pc jc sc:Nat}{ps:List MPiece}{js:List MJoint}{ss:List MPiece}{u:World}(h:TNet u KT pa ja sa pc jc sc ps js ss){e:MEnd}(hv:ValidE ps e):Calls Tryz.prog 112 #[.pointer (some ⟨KT,0,none⟩),.agg #[.int .i64 e.piece,.int .i64 e.side]] u fun r w'=>r = .returned (.int .i64 (endAt ps e))∧Below u.heap.size u w':=by
 obtain ⟨x,hx,e1,e2⟩:=hv
 obtain ⟨ep,es⟩:=e
 simp only at e1
 subst e1
 exact at_any KT pa ja sa pc jc sc ps js ss x es u h hx
def OJ (w:World)(KT l D tB oB pB aB tb bs:Nat)(rec:LoopState→Option Code→Loop)(ps:List MPiece)(js:List MJoint)(tot:List MPart)(n:Nat)(s:MStep)(K:Nat→Prop)(u:World):Prop := ∃ at0 left parts,OBase w KT l D tB oB pB aB tb bs rec K at0 left parts u∧JMath ps js tot n s at0 left parts
def ON (w:World)(KT l D tB oB pB aB tb bs:Nat)(rec:LoopState→Option Code→Loop)(ps:List MPiece)(js:List MJoint)(tot:List MPart)(n:Nat)(s:MStep)(K:Nat→Prop)(u:World):Prop := ∃ at0 left parts,OBase w KT l D tB oB pB aB tb bs rec K at0 left parts u∧NMath ps js tot n s left parts∧0≤at0∧at0≤10000000
theorem overOf_any (KT M:Nat)(pa ja sa:Option Addr)(pc jc sc:Nat)(ps:List MPiece)(js:List MJoint)(ss:List MPiece)(R:Hid (Right ps js ss))(i:Nat)(hi:i<ss.length)(over:Int)(h0:0≤over)(h1:over≤100000)(w:World)(hT:Hid (TTrack w KT M pa ja sa pc jc sc ps js ss)):
  Calls Tryz.prog 84 #[.pointer (some ⟨KT,0,none⟩),.int .i64 (i:Int),.int .i64 over] w fun e w' => ∃ x y,e = .returned (.slice x (overF ps js ss i over).length y)∧w'.ownsRow w.heap.size 48 3 (.slice x (overF ps js ss i over).length y) (overF ps js ss i over).length (flatP (overF ps js ss i over))∧Below w.heap.size w w':=by
 have HJB:=hidP (JMath.begin (js:=js) R.out hi h0 h1)
 generalize overF ps js ss i over=tot at HJB ⊢
 have c2:=hT.out.net.c2
 have hK:=cellLt c2
 dsimp only at hK
 obtain ⟨bs,os,rfl,hpcs⟩:=hT.out.net.S.2.2.resolve_left (nz hi)
 obtain ⟨s0,s1,s2,s3⟩:=hpcs i hi
 have hzs:=cellLt s0
 dsimp only at hzs
 have hii:(i:Int)<ss.length:=by omega
 generalize ss[i]=sg at s0 s1 s2 s3 HJB
 have HPS:Hid (∀ u:World,Calls Tryz.prog 116 #[.pointer (some ⟨KT,0,none⟩),.agg #[.int .i64 sg.len,.int .i64 sg.brake]] u fun e w'=>e = .returned (.func (.func 136) #[] #[.pointer (some ⟨u.heap.size+1,0,none⟩),.pointer (some ⟨u.heap.size,0,none⟩)]) ∧
   w'.cell? ⟨u.heap.size,0,none⟩=some (.pointer (some ⟨KT,0,none⟩))∧w'.cell? ⟨u.heap.size+1,0,none⟩=some (.int .i64 sg.len)∧w'.cell? ⟨u.heap.size+1,1,none⟩=some (.int .i64 sg.brake)∧Below u.heap.size u w'):=fun u=>plainSteps_any KT ⟨sg.len,sg.brake⟩ u
 clear hpcs
 refine (callsIn_wide (n:=0)).1 (callsIn_of_wp_marks Tryz.func84 rfl trivial ?_)
 simp only [Tryz.ntmps84,List.size_toArray,List.length_cons,List.length_nil,Nat.reduceAdd,Nat.reduceSub,Array.replicate_succ,Array.replicate_zero,List.push_toArray,List.append_toArray,List.nil_append,List.cons_append]
 refine wpIn_wide.2 ?_
 have hi0:¬ (i:Int)<0:=by omega
 go_upto_region 4 with fail
 generalize hW:World.alloc (World.alloc (World.alloc w _) _) _=W
 have hbW:Below w.heap.size w W:=by rw [← hW];exact blo
 have x0:W.cell? ⟨w.heap.size,0,none⟩=some (.pointer (some ⟨KT,0,none⟩)):=by rw [← hW];simp [go_sem]
 have hz:W.heap.size=w.heap.size+1+1+1:=by rw [← hW];simp
 have HOv:Hid (W.rowIs (w.heap.size+1) 3 1 (fun _=>.int .i64 over)):=by
  unfold Hid
  rw [← hW]
  have:=World.rowIs_alloc (w.alloc (Obj.cells #[Value.pointer (some ⟨KT,0,none⟩)] 89)) #[.int .i64 over] 3 (fun _=>.int .i64 over) (by intro i hi;have hi':i<1:=hi;match i,hi' with | 0,_=>rfl)
  simpa using this.alloc (Obj.cells #[Value.slice none 0 0] 41)
 have HPa:Hid (W.rowIs (w.heap.size+1+1) 41 1 (fun _=>.slice none 0 0)):=by
  unfold Hid
  rw [← hW]
  have:=World.rowIs_alloc ((w.alloc (Obj.cells #[Value.pointer (some ⟨KT,0,none⟩)] 89)).alloc (Obj.cells #[Value.int .i64 over] 3)) #[.slice none 0 0] 41 (fun _=>.slice none 0 0) (by intro i hi;have hi':i<1:=hi;match i,hi' with | 0,_=>rfl)
  simpa using this
 clear hW
 replace c2:=cell_later hbW c2
 replace s0:=cell_later hbW s0
 replace s1:=cell_later hbW s1
 replace s2:=cell_later hbW s2
 replace s3:=cell_later hbW s3
 have hzs2:=cellLt s0
 have hzc:=cellLt c2
 dsimp only at hzs2 hzc
 have HBW:=hidP hbW
 have HZ:=hidP hz
 have hzx:w.heap.size<W.heap.size:=by omega
 clear hbW hz hzs hK
 go_upto_region 6 with fail
 generalize hV:World.alloc (World.alloc W _) _=V
 have hbV:Below W.heap.size W V:=by rw [← hV];exact blo
 have g1:V.cell? ⟨W.heap.size,1,none⟩=some (.int .i64 sg.len):=by rw [← hV];simp [go_sem]
 have g3:V.cell? ⟨W.heap.size,3,none⟩=some (.int .i64 sg.brake):=by rw [← hV];simp [go_sem]
 have hzv:V.heap.size=W.heap.size+1+1:=by rw [← hV];simp
 have HAt:Hid (V.rowIs (W.heap.size+1) 3 1 (fun _=>.int .i64 sg.speed)):=by
  unfold Hid
  rw [← hV]
  have:=World.rowIs_alloc (W.alloc (Obj.cells #[Value.string sg.name,.int .i64 sg.len,.int .i64 sg.speed,.int .i64 sg.brake] 62)) #[.int .i64 sg.speed] 3 (fun _=>.int .i64 sg.speed) (by intro i hi;have hi':i<1:=hi;match i,hi' with | 0,_=>rfl)
  simpa using this
 clear hV
 replace x0:=cell_later hbV x0
 have HBV:=hidP hbV
 have HZV:=hidP hzv
 have hzv1:W.heap.size<V.heap.size:=by omega
 have hzv2:w.heap.size<V.heap.size:=by omega
 clear hbV c2 s0 s1 s2 s3 hzs2 hzc hzx hzv
 go_wp2_with (go_at_call 116;refine (HPS.out _).mono ?_;rintro e w2 ⟨rfl,t0,fr0,fr1,hb2⟩)
 have hb2V:Below w.heap.size w w2:=HBW.out.trans ((HBV.out.trans (hb2.mono HBV.out.size)).mono HBW.out.size)
 have hbW2:Below W.heap.size W w2:=HBV.out.trans (hb2.mono HBV.out.size)
 have hzf:=cellLt fr1
 dsimp only at hzf
 have HOv2:=hidP (HOv.out.of_block (hbW2.block _ HOv.out.lt))
 have HPa2:=hidP (HPa.out.of_block (hbW2.block _ HPa.out.lt))
 have HAt2:=hidP (HAt.out.of_block (hb2.block _ HAt.out.lt))
 have X0:=hidP (cell_later hb2 x0)
 have T0:=hidP t0
 have F0:=hidP fr0
 have F1:=hidP fr1
 have HB2:=hidP hb2V
 have HZ2:Hid (W.heap.size=w.heap.size+1+1+1∧V.heap.size=W.heap.size+1+1∧V.heap.size+1<w2.heap.size):=⟨HZ.out,HZV.out,hzf⟩
 clear hb2V hbW2 HOv HPa HAt x0 t0 fr0 fr1 hb2 g1 g3 hzv1 hzv2 hzf HPS
 refine (wpIn_wide (n:=0)).1 (range_law_cap 136 #[.pointer (some ⟨V.heap.size+1,0,none⟩),.pointer (some ⟨V.heap.size,0,none⟩)] rfl (fun args u=>by kernel_rfl) ?_)
 intro fn rec hrec
 generalize hW1:(w2.alloc (.deferred (some []))).alloc (.loop (rec .ready none))=W1
 have hb1:Below w2.heap.size w2 W1:=by rw [← hW1];exact blo
 have hL1:W1.heap[w2.heap.size+1]? = some (.loop (rec .ready none)):=by
  rw [← hW1]
  have:=World.alloc_heap_new (w2.alloc (.deferred (some []))) (.loop (rec .ready none))
  rwa [World.size_alloc] at this
 have hD1:W1.heap[w2.heap.size]? = some (.deferred (some [])):=by
  rw [← hW1]
  exact (Below.heap_alloc _ _ _ (by simp)).trans (World.alloc_heap_new w2 _)
 have hz1:W1.heap.size=w2.heap.size+2:=by rw [← hW1];simp
 clear hW1
 have hzz:=HZ2.out
 have HI0:Hid (OJ w KT (w2.heap.size+1) w2.heap.size w.heap.size (w.heap.size+1) (w.heap.size+1+1) (W.heap.size+1) V.heap.size (w2.heap.size+2) rec ps js tot (over.toNat+1) ⟨sg.len,sg.brake⟩ (fun k=>k=w2.heap.size+1∨k=w2.heap.size∨k=w.heap.size+1∨k=W.heap.size+1∨k=w.heap.size+1+1) W1):=by
  refine ⟨sg.speed,over,[],⟨HB2.out.trans (hb1.mono HB2.out.size),hL1,hD1,cell_later hb1 X0.out,cell_later hb1 T0.out,HOv2.out.of_block (hb1.block _ HOv2.out.lt),HAt2.out.of_block (hb1.block _ HAt2.out.lt),⟨none,0,HPa2.out.of_block (hb1.block _ HPa2.out.lt),⟨rfl,Or.inl ⟨rfl,rfl⟩⟩,fun k=>by simp [Value.ownBlock]⟩,by omega⟩,HJB.out⟩
 have HY:Hid (∀ n s K W2,OJ w KT (w2.heap.size+1) w2.heap.size w.heap.size (w.heap.size+1) (w.heap.size+1+1) (W.heap.size+1) V.heap.size (w2.heap.size+2) rec ps js tot n s K W2→YieldAt Fence.wide 0 Tryz.prog (w2.heap.size+1) #[endV s] W2 (Visited (fun K' u => ∃ m,m<n∧ON w KT (w2.heap.size+1) w2.heap.size w.heap.size (w.heap.size+1) (w.heap.size+1+1) (W.heap.size+1) V.heap.size (w2.heap.size+2) rec ps js tot m s K' u) (OStop w (w2.heap.size+1) w2.heap.size (w.heap.size+1+1) (w2.heap.size+2) rec tot) K W2)):=by
  intro n s K W2 hJ
  obtain ⟨at0,left,parts,hI,hM⟩:=hJ
  have hy:=run_yield (P:=Tryz.prog) (args:=#[endV s]) hI.loop (by rw [hrec];rfl)
  rw [hrec] at hy
  refine ⟨_,_,_,_,hy,roundIn_of_wpIn trivial ?_⟩
  clear hy
  have HI:=hidP hI
  have HM:=hidP hM
  have HREC:Hid (∀ st pe,({ rec .ready none with state:=st,pending:=pe }:Loop)=rec st pe):=by
   unfold Hid
   rw [hrec]
   intro st pe
   rfl
  have HRS:Hid ((rec .ready none).state = .ready):=by unfold Hid;rw [hrec]
  have HZ3:=hidP hzz
  clear hI hM HI0 hrec hzz hz1 hb1 hL1 hD1 hi0
  unfold endV
  dsimp only
  have ht:∀ (T:Array Value) (v:Value),((#[30]:Array Tmp).zip #[v]).foldl (fun tmps (x:Tmp × Value)=>tmps.setIfInBounds x.1 x.2) T=T.setIfInBounds 30 v:=fun T v=>by simp
  rw [ht]
  clear ht
  have hsa:∀ (ρ:Operand→Value) (o:Oper),(∀ c,o.op≠.defer c)→Oper.semAt (some (w2.heap.size+1)) ρ o=execOp ρ o:=fun ρ o h=>Oper.semAt_some _ ρ o h
  gi_wp2_with fail
  have hbx:Below W2.heap.size W2 (W2.alloc (Obj.cells #[Value.int .i64 s.piece,.int .i64 s.side] 46)):=(Below.refl _ _).alloc (Nat.le_refl _) _
  refine ⟨_,run_beginRound ((hbx.block _ (get_lt HI.out.loop)).trans HI.out.loop) HRS.out,?_⟩
  generalize hU:World.putObj (World.alloc W2 _) _ _=U
  have hlt:=get_lt HI.out.loop
  have hlow:=HI.out.low
  obtain ⟨x,y,k1,k2,k5⟩:=HI.out.own
  have hOU:Only (fun k=>k=w2.heap.size+1) W2 U:=by
   rw [← hU]
   exact (Only.of_below hbx).trans (Only.of_grown (grownBy_putObj' _ _ _) (fun k e=>by cases e;rfl))
  have hlU:U.heap[w2.heap.size+1]? = some (.loop { rec .ready none with state:=.busy }):=by
   rw [← hU]
   exact World.putObj_heap_same (by simp;omega)
  have hX:U.rowIs W2.heap.size 46 2 (fun i:Nat=>(#[Value.int .i64 s.piece,.int .i64 s.side]:Array Value).getD i (.bool false)):=by
   refine (row_of_alloc2 W2 #[.int .i64 s.piece,.int .i64 s.side] 46).of_block ?_
   rw [← hU]
   exact World.putObj_heap_other (by omega)
  have e0:U.cell? ⟨W2.heap.size,0,none⟩=some (.int .i64 s.piece):=hX.cell (i:=0) (by omega)
  have e1:U.cell? ⟨W2.heap.size,1,none⟩=some (.int .i64 s.side):=hX.cell (i:=1) (by omega)
  have t0:U.cell? ⟨w.heap.size,0,none⟩=some (.pointer (some ⟨KT,0,none⟩)):=hOU.cell HI.out.t1 (by show ¬ w.heap.size=w2.heap.size+1;omega)
  have hO:=HI.out.over.of_block (hOU.block _ HI.out.over.lt (by show ¬ w.heap.size+1=w2.heap.size+1;omega))
  have hA:=HI.out.at_.of_block (hOU.block _ HI.out.at_.lt (by show ¬ W.heap.size+1=w2.heap.size+1;omega))
  have hP:=k1.of_block (hOU.block _ k1.lt (by show ¬ w.heap.size+1+1=w2.heap.size+1;omega))
  have hD:=(hOU.block _ (get_lt HI.out.dfr) (by show ¬ w2.heap.size=w2.heap.size+1;omega)).trans HI.out.dfr
  have hOw:=owns_only k2 hOU (fun k hk=>by omega)
  have hKl:K (w2.heap.size+1):=(k5 _).2 (Or.inl rfl)
  have HKO:Hid (K (w.heap.size+1)):=(k5 _).2 (Or.inr (Or.inr (Or.inl rfl)))
  have HKA:Hid (K (W.heap.size+1)):=(k5 _).2 (Or.inr (Or.inr (Or.inr (Or.inl rfl))))
  have HKP:Hid (K (w.heap.size+1+1)):=(k5 _).2 (Or.inr (Or.inr (Or.inr (Or.inr (Or.inl rfl)))))
  have HKX:Hid (∀ k,(Value.slice x parts.length y).ownBlock=some k→K k):=fun k hk=>(k5 k).2 (Or.inr (Or.inr (Or.inr (Or.inr (Or.inr hk)))))
  have HOK:Hid (Only K W2 U):=hOU.mono (fun k hk=>by subst hk;exact hKl)
  have o0:=hO.cell (i:=0) (by omega)
  have a0:=hA.cell (i:=0) (by omega)
  have q0:=hP.cell (i:=0) (by omega)
  have hzX:W2.heap.size<U.heap.size:=hX.lt
  have hzO:=hO.lt
  have hzA:=hA.lt
  have hzP:=hP.lt
  have hzT:w.heap.size<U.heap.size:=by omega
  have HO:=hidP hO
  have HA:=hidP hA
  have HP:=hidP hP
  have HD:=hidP hD
  have HOw:=hidP hOw
  have HLU:=hidP hlU
  have HX:=hidP hX
  have HLW:=hidP hlow
  have HLT:=hidP hlt
  clear hU hbx k1 k2 k5 hX hO hA hP hD hOw hlU hOU hlow hlt hKl
  by_cases hl0:left=0
  ·have hlb:(left==0)=true:=by simp [hl0]
   have HPT:=hidP (HM.out.stop hl0)
   clear hl0
   gi_wp2_with fail
   rw [HPT.out]
   exact HI.out.off HREC.out HLU.out HOK.out HD.out ⟨x,y,HP.out,HOw.out⟩ _
  ·have hlb:(left==0)=false:=by simp [hl0]
   have HL0:=hidP hl0
   clear hl0
   have hva:=aheadE_valid HM.out.sv
   have hvf:ValidE ps (farE (aheadE s)):=farE_valid hva
   have HTB:Hid (∀ u:World,Below w.heap.size w u→TTrack u KT M pa ja (some ⟨bs,os,none⟩) pc jc sc ps js ss):=fun u hu=>hT.out.below hu
   have hKw:=HI.out.low_own
   have HBU:Hid (Below w.heap.size w U):=HI.out.below.trans (HOK.out.below HI.out.below.size (fun k hk e=>by have:=hKw k e;omega))
   have HAH:Hid (∀ u:World,Calls Tryz.prog 114 #[.agg #[.int .i64 s.piece,.int .i64 s.side]] u fun e w'=>e = .returned (.agg #[.int .i64 (aheadE s).piece,.int .i64 (aheadE s).side])∧Below u.heap.size u w'):=fun u=>ahead_any s.piece s.side u
   have HFE:Hid (∀ u:World,Calls Tryz.prog 113 #[.agg #[.int .i64 (aheadE s).piece,.int .i64 (aheadE s).side]] u fun e w'=>e = .returned (.agg #[.int .i64 (farE (aheadE s)).piece,.int .i64 (farE (aheadE s)).side])∧Below u.heap.size u w'):=fun u=>by
    obtain ⟨_,_,_,hsd⟩:=hva
    exact farEnd_any (aheadE s).piece (aheadE s).side u (by omega) (by omega)
   have HAT1:Hid (∀ u:World,Below w.heap.size w u→Calls Tryz.prog 112 #[.pointer (some ⟨KT,0,none⟩),.agg #[.int .i64 (aheadE s).piece,.int .i64 (aheadE s).side]] u fun e w'=>e = .returned (.int .i64 (endAt ps (aheadE s)))∧Below u.heap.size u w'):=fun u hu=>at_end (HTB.out u hu).net hva
   have HAT2:Hid (∀ u:World,Below w.heap.size w u→Calls Tryz.prog 112 #[.pointer (some ⟨KT,0,none⟩),.agg #[.int .i64 (farE (aheadE s)).piece,.int .i64 (farE (aheadE s)).side]] u fun e w'=>e = .returned (.int .i64 (endAt ps (farE (aheadE s))))∧Below u.heap.size u w'):=fun u hu=>at_end (HTB.out u hu).net hvf
   have HPOS:Hid (posF ps s at0 parts=if parts.length=0 then at0 else endAt ps (farE (aheadE s))):=rfl
   have HDF:Hid (distF ps s (posF ps s at0 parts)=(endAt ps (aheadE s)-posF ps s at0 parts)*s.side):=rfl
   have hr1:=endAt_range R.out hva
   have hE1:endAt ps (aheadE s)≤10000000:=by
    obtain ⟨q,hq,e1,_⟩:=hva
    have h2:=hr1.2
    rw [e1,lenI_at hq] at h2
    have h3:=(R.out.plen q hq).2
    omega
   have hE0:=hr1.1
   have hp0:=HM.out.p0
   have hp1:=HM.out.p1
   have hd0:=HM.out.d0
   have hd1:=HM.out.d1
   have hl0:=HM.out.l0
   have hlb2:left≤100000:=by have:=HM.out.lb;omega
   obtain ⟨L,hL⟩:∃ L,L=min left (distF ps s (posF ps s at0 parts)):=⟨_,rfl⟩
   have HST:=hidP (HM.out.step HL0.out hL)
   have HSD:Hid (s.side=1∨s.side = -1):=by obtain ⟨_,_,_,h⟩:=HM.out.sv;exact h
   have HLL:=hidP hL
   have hpl2:parts.length≤100000:=by have:=HM.out.lb;omega
   have HN1:Hid (n-1<n):=by unfold Hid;have:=HM.out.ln;omega
   have HA0:=hidP HM.out.a0
   generalize hpg:posF ps s at0 parts=pos at HPOS HDF hp0 hp1 hd0 hd1 HST HLL
   generalize hdg:distF ps s pos=dd at HDF hd0 hd1 HLL
   generalize endAt ps (aheadE s)=E at HAT1 HDF hE0 hE1
   generalize endAt ps (farE (aheadE s))=F at HAT2 HPOS
   generalize farE (aheadE s)=fa at HFE HAT2
   generalize aheadE s=ah at HAH HFE HAT1
   clear hva hvf hr1 hL hpg hdg
   by_cases hpz:parts.length=0
   ·have hpn:¬ (0:Int)<(parts.length:Int):=by omega
    have hap:at0=pos:=by rw [HPOS.out,if_pos hpz]
    clear hpz
    gi_wp2_with fail
    rw [hap] at a0 HA
    clear hap HAT2 HFE
    obtain ⟨S,hS⟩:∃ S:World→Prop,∀ u,S u↔Below U.heap.size U u:=⟨_,fun _=>Iff.rfl⟩
    have HS0:=hidP hS
    have r0:∀ u:Held S,World.cell? u.val ⟨w.heap.size,0,none⟩=some (.pointer (some ⟨KT,0,none⟩)):=fun u=>cell_later ((hS u.val).1 u.2) t0
    have r1:∀ u:Held S,World.cell? u.val ⟨W2.heap.size,0,none⟩=some (.int .i64 s.piece):=fun u=>cell_later ((hS u.val).1 u.2) e0
    have r2:∀ u:Held S,World.cell? u.val ⟨W2.heap.size,1,none⟩=some (.int .i64 s.side):=fun u=>cell_later ((hS u.val).1 u.2) e1
    have r3:∀ u:Held S,World.cell? u.val ⟨w.heap.size+1,0,none⟩=some (.int .i64 left):=fun u=>cell_later ((hS u.val).1 u.2) o0
    have r4:∀ u:Held S,World.cell? u.val ⟨W.heap.size+1,0,none⟩=some (.int .i64 pos):=fun u=>cell_later ((hS u.val).1 u.2) a0
    have hS1:S U.drew:=(hS _).2 ((Below.refl _ _).drew)
    have hne:=held_ne hS1
    have hdd:(E-pos)*s.side=dd:=HDF.out.symm
    clear hS
    refine wpIn_region_tree (fun w' => ∃ u:Held S,w'=u.val) 10 (by kernel_rfl) (by rintro ⟨a,w,h⟩;exact h) (by kernel_rfl) (by kernel_rfl) (held_some hS1) ?_
    (refine wpT_sea 0 ?_;intro K hK;go_big_quiet_op;go_big_quiet_on);(refine wpT_sea 1 ?_;intro K hK;go_big_quiet_op;go_big_quiet_on);(refine wpT_sea 2 ?_;intro K hK;go_big_quiet_op;go_big_quiet_on)
    (refine wpT_sea 5 ?_;intro K hK;go_big_quiet_op;go_big_quiet_on)
    (refine wpT_sea 7 ?_;intro K hK;go_big_quiet_op;go_big_quiet_on);(refine wpT_sea 8 ?_;intro K hK;go_big_quiet_op;go_big_quiet_on)
    refine wpT_loud 3 (by rfl) (by kernel_rfl) (by kernel_rfl) ?_
    intro KK hK
    go_wp2_with (go_at_call 114;refine (HAH.out _).mono ?_;rintro e v2 ⟨rfl,hb2'⟩)
    have hb2:Below U.heap.size U v2:=(Below.refl _ _).drew.trans hb2'
    refine hK _ _ (held_some ((HS0.out _).2 hb2)) ?_
    clear hK KK hb2'
    refine wpT_loud 4 (by rfl) (by kernel_rfl) (by kernel_rfl) ?_
    intro KK hK
    go_wp2_with (go_at_call 112;refine (HAT1.out _ (HBU.out.trans (hb2.mono HBU.out.size))).mono ?_;rintro e v3 ⟨rfl,hb3'⟩)
    have hb3:Below U.heap.size U v3:=hb2.trans (hb3'.mono hb2.size)
    refine hK _ _ (held_some ((HS0.out _).2 hb3)) ?_
    clear hK KK hb3'
    (refine wpT_sea 6 ?_;intro K hK;go_big_quiet_op;go_big_quiet_on)
    (refine wpT_sea 9 ?_;intro K hK;go_big_quiet_op;go_big_quiet_on)
    clear r0 r1 r2 r3 r4 hS1 hne hb2
    have HB3:=hidP hb3
    clear hb3
    refine wpT_done (by kernel_rfl) ?_
    have hmn:(if dd<left then dd else left)=L:=by rw [HLL.out];split <;> omega
    go_wp2_with fail
    clear hmn hdd
    replace HB3:Hid (Below U.heap.size U v3):=HB3
    have hlow:=HLW.out
    replace t0:=cell_later HB3.out t0
    replace e0:=cell_later HB3.out e0
    replace e1:=cell_later HB3.out e1
    replace o0:=cell_later HB3.out o0
    replace a0:=cell_later HB3.out a0
    replace q0:=cell_later HB3.out q0
    replace HO:=hidP (HO.out.of_block (HB3.out.block _ HO.out.lt))
    replace HA:=hidP (HA.out.of_block (HB3.out.block _ HA.out.lt))
    replace HP:=hidP (HP.out.of_block (HB3.out.block _ HP.out.lt))
    replace HD:=hidP ((HB3.out.block _ (get_lt HD.out)).trans HD.out)
    replace HLU:=hidP ((HB3.out.block _ (get_lt HLU.out)).trans HLU.out)
    replace HOw:=hidP (owns_below HOw.out HB3.out)
    replace HOK:Hid (Only K W2 v3):=HOK.out.trans (Only.of_below HB3.out)
    have hzW2:=HOK.out.size
    have hbl:=HLT.out
    have hm1:Hid (L*s.side=L∨L*s.side = - L):=by unfold Hid;rcases HSD.out with h | h <;> rw [h] <;> omega
    obtain ⟨mm,hmm⟩:∃ mm,L*s.side=mm:=⟨_,rfl⟩
    have HMM:=hidP hmm
    rw [hmm] at hm1
    have hL0:1≤L∧L≤left∧L≤dd:=by rw [HLL.out];have:=HL0.out;omega
    have hmb : -10000000≤mm∧mm≤10000000:=by have:=hm1.out;omega
    have hmb1:=hmb.1
    have hmb2:=hmb.2
    have hLa:=hL0.1
    have hLb:=hL0.2.1
    have HPO:Hid (∀ u:World,Calls Tryz.prog 115 #[.int .i64 s.piece,.int .i64 pos,.int .i64 (pos+mm)] u fun e w'=>e = .returned (.agg #[.int .i64 (partI s.piece pos (pos+mm)).piece,.int .i64 (partI s.piece pos (pos+mm)).lo,.int .i64 (partI s.piece pos (pos+mm)).hi])∧Below u.heap.size u w'):=fun u=>partOf_any s.piece pos (pos+mm) u
    have HST2:Hid (NMath ps js tot (n-1) s (left-L) (parts++[partI s.piece pos (pos+mm)])):=by
     unfold Hid
     rw [← HMM.out]
     exact HST.out
    generalize partI s.piece pos (pos+mm)=pt at HPO HST2
    replace hzX:=cellLt e0
    replace hzO:=HO.out.lt
    replace hzA:=HA.out.lt
    replace hzP:=HP.out.lt
    replace hzT:=cellLt t0
    dsimp only at hzX hzT
    clear hL0 hmb hlow HB3 HS0 hmm HSD HST HDF
    have hmm:=HMM.out
    gi_wp2_with fail
    obtain ⟨S,hS⟩:∃ S:World→Prop,∀ u,S u↔Below v3.heap.size v3 u:=⟨_,fun _=>Iff.rfl⟩
    have HS0:=hidP hS
    have r1:∀ u:Held S,World.cell? u.val ⟨W2.heap.size,0,none⟩=some (.int .i64 s.piece):=fun u=>cell_later ((hS u.val).1 u.2) e0
    have r2:∀ u:Held S,World.cell? u.val ⟨W2.heap.size,1,none⟩=some (.int .i64 s.side):=fun u=>cell_later ((hS u.val).1 u.2) e1
    have r3:∀ u:Held S,World.cell? u.val ⟨w.heap.size+1+1,0,none⟩=some (.slice x parts.length y):=fun u=>cell_later ((hS u.val).1 u.2) q0
    have r4:∀ u:Held S,World.cell? u.val ⟨W.heap.size+1,0,none⟩=some (.int .i64 pos):=fun u=>cell_later ((hS u.val).1 u.2) a0
    have hS1:S v3.drew:=(hS _).2 ((Below.refl _ _).drew)
    have hne:=held_ne hS1
    clear hS
    refine wpIn_region_tree (fun w' => ∃ u:Held S,w'=u.val) 12 (by kernel_rfl) (by rintro ⟨a,w,h⟩;exact h) (by kernel_rfl) (by kernel_rfl) (held_some hS1) ?_
    (refine wpT_sea 0 ?_;intro K hK;go_big_quiet_op;go_big_quiet_on);(refine wpT_sea 1 ?_;intro K hK;go_big_quiet_op;go_big_quiet_on);(refine wpT_sea 2 ?_;intro K hK;go_big_quiet_op;go_big_quiet_on);(refine wpT_sea 3 ?_;intro K hK;go_big_quiet_op;go_big_quiet_on);(refine wpT_sea 4 ?_;intro K hK;go_big_quiet_op;go_big_quiet_on);(refine wpT_sea 5 ?_;intro K hK;go_big_quiet_op;go_big_quiet_on);(refine wpT_sea 6 ?_;intro K hK;go_big_quiet_op;go_big_quiet_on);(refine wpT_sea 7 ?_;intro K hK;go_big_quiet_op;go_big_quiet_on);(refine wpT_sea 8 ?_;intro K hK;go_big_quiet_op;go_big_quiet_on);(refine wpT_sea 9 ?_;intro K hK;go_big_quiet_op;go_big_quiet_on)
    refine wpT_loud 10 (by rfl) (by kernel_rfl) (by kernel_rfl) ?_
    intro KK hK
    go_wp2_with (go_at_call 115;refine (HPO.out _).mono ?_;rintro e v4 ⟨rfl,hb4'⟩)
    have hb4:Below v3.heap.size v3 v4:=(Below.refl _ _).drew.trans hb4'
    refine hK _ _ (held_some ((HS0.out _).2 hb4)) ?_
    clear hK KK hb4'
    refine wpT_loud 11 (by rfl) (by kernel_rfl) (by kernel_rfl) ?_
    intro KK hK
    go_wp2_with fail
    generalize hV5:World.alloc v4 _=V5
    have hb5':Below v4.heap.size v4 V5:=by rw [← hV5];exact (Below.refl _ _).alloc (Nat.le_refl _) _
    have hb5:Below v3.heap.size v3 V5:=hb4.trans (hb5'.mono hb4.size)
    have n0:V5.cell? ⟨v4.heap.size,0,none⟩=some (.int .i64 pt.piece):=by rw [← hV5];simp [go_sem]
    have n1:V5.cell? ⟨v4.heap.size,1,none⟩=some (.int .i64 pt.lo):=by rw [← hV5];simp [go_sem]
    have n2:V5.cell? ⟨v4.heap.size,2,none⟩=some (.int .i64 pt.hi):=by rw [← hV5];simp [go_sem]
    refine hK _ _ (held_some ((HS0.out _).2 hb5)) ?_
    clear hK KK hV5 hb5' hb4 r1 r2 r3 r4 hS1 hne
    have HN3:=hidP (news3 n0 n1 n2)
    clear n0 n1 n2
    have HB5:=hidP hb5
    have hz5:=hb5.size
    clear hb5
    have hlow:=HLW.out
    have HOw5:=hidP (owns_below HOw.out HB5.out)
    have HO5:=hidP (HO.out.of_block (HB5.out.block _ HO.out.lt))
    have HA5:=hidP (HA.out.of_block (HB5.out.block _ HA.out.lt))
    have HP5:=hidP (HP.out.of_block (HB5.out.block _ HP.out.lt))
    have HD5:=hidP ((HB5.out.block _ (get_lt HD.out)).trans HD.out)
    have HLU5:=hidP ((HB5.out.block _ (get_lt HLU.out)).trans HLU.out)
    have HOK5:Hid (Only K W2 V5):=HOK.out.trans (Only.of_below HB5.out)
    clear hlow HOw HO HA HP HD HLU HOK o0 a0 q0 t0 e0 e1
    refine wpT_done (by kernel_rfl) ?_
    show wpList Tryz.prog _ _ [_,_] _ _
    refine wpList_append_sharp _ rfl (.tmp 52) (.tmp 63) 41 rfl (w2.heap.size+2) 48 _ 3 24 Tryz.underlying41 Tryz.infoPart rfl (by decide) (.slice x parts.length y) parts.length (flatP parts) rfl HOw5.out ⟨v4.heap.size,0,none⟩ 1 [.int .i64 pt.piece,.int .i64 pt.lo,.int .i64 pt.hi] rfl rfl HN3.out (by simp [Value.oneCell']) (by unfold maxLen;omega) (by omega) (by omega) ?_
    intro x6 y6 w6 r1 r6 r7
    have hne6:∀ k,k<w2.heap.size+2→some k≠(Value.slice x parts.length y).ownBlock:=(fun k hk e=>by have h9:=(HOw5.out.lt k e.symm).1;omega)
    have hP6:=HP5.out.of_block (r6.block _ HP5.out.lt (hne6 _ (by have h9:=HLW.out;omega)))
    have p6:=hP6.cell (i:=0) (by omega)
    have pf6:=hP6.frozen 0
    have hzP6:=hP6.lt
    have HP6:=hidP hP6
    have HR1:=hidP r1
    have HR6:=hidP r6
    have HR7:=hidP r7
    have HNE:=hidP hne6
    clear hP6 r1 r6 r7 hne6
    go_wp2_with fail
    have hlow:=HLW.out
    have hO6:Only K W2 w6:=HOK5.out.trans (Only.of_grown HR6.out (fun k hk=>HKX.out k hk))
    have hl6:=(HR6.out.block _ (get_lt HLU5.out) (HNE.out _ (by omega))).trans HLU5.out
    have hD6:=(HR6.out.block _ (get_lt HD5.out) (HNE.out _ (by omega))).trans HD5.out
    have hov6:=HO5.out.of_block (HR6.out.block _ HO5.out.lt (HNE.out _ (by omega)))
    have hat6:=HA5.out.of_block (HR6.out.block _ HA5.out.lt (HNE.out _ (by omega)))
    have hl7:=(Below.heap_setCell w6 ⟨w.heap.size+1+1,0,none⟩ (.slice x6 (parts.length+1) y6) (w2.heap.size+1) (by show ¬ w2.heap.size+1=w.heap.size+1+1;omega)).trans hl6
    have hD7:=(Below.heap_setCell w6 ⟨w.heap.size+1+1,0,none⟩ (.slice x6 (parts.length+1) y6) w2.heap.size (by show ¬ w2.heap.size=w.heap.size+1+1;omega)).trans hD6
    have hO7:=hO6.setCell (p:=⟨w.heap.size+1+1,0,none⟩) (Or.inl HKP.out) (.slice x6 (parts.length+1) y6)
    have hov7:=hov6.setOther (a:=⟨w.heap.size+1+1,0,none⟩) (by show ¬ w.heap.size+1=w.heap.size+1+1;omega) (.slice x6 (parts.length+1) y6)
    have hat7:=hat6.setOther (a:=⟨w.heap.size+1+1,0,none⟩) (by show ¬ W.heap.size+1=w.heap.size+1+1;omega) (.slice x6 (parts.length+1) y6)
    have hP7:=row_one (HP6.out.set 0 (.slice x6 (parts.length+1) y6)) (v:=.slice x6 (parts.length+1) y6) (by simp)
    have ho7:=ownsRow_setCell_below HR1.out (a:=⟨w.heap.size+1+1,0,none⟩) (by show w.heap.size+1+1<w2.heap.size+2;omega) (.slice x6 (parts.length+1) y6)
    generalize w6.setCell ⟨w.heap.size+1+1,0,none⟩ (.slice x6 (parts.length+1) y6)=Z at hl7 hD7 hO7 hov7 hat7 hP7 ho7 ⊢
    have z0:=hov7.cell (i:=0) (by omega)
    have zf:=hov7.frozen 0
    have hzz:=hov7.lt
    have HOv7:=hidP (row_one (hov7.set 0 (.int .i64 (left-L))) (v:=.int .i64 (left-L)) (by simp))
    have HAt7:=hidP (hat7.setOther (a:=⟨w.heap.size+1,0,none⟩) (by show ¬ W.heap.size+1=w.heap.size+1;omega) (.int .i64 (left-L)))
    have HP7:=hidP (hP7.setOther (a:=⟨w.heap.size+1,0,none⟩) (by show ¬ w.heap.size+1+1=w.heap.size+1;omega) (.int .i64 (left-L)))
    have HO7:=hidP (hO7.setCell (p:=⟨w.heap.size+1,0,none⟩) (Or.inl HKO.out) (.int .i64 (left-L)))
    have HL7:=hidP ((Below.heap_setCell Z ⟨w.heap.size+1,0,none⟩ (.int .i64 (left-L)) (w2.heap.size+1) (by show ¬ w2.heap.size+1=w.heap.size+1;omega)).trans hl7)
    have HD7:=hidP ((Below.heap_setCell Z ⟨w.heap.size+1,0,none⟩ (.int .i64 (left-L)) w2.heap.size (by show ¬ w2.heap.size=w.heap.size+1;omega)).trans hD7)
    have HW7:=hidP (ownsRow_setCell_below ho7 (a:=⟨w.heap.size+1,0,none⟩) (by show w.heap.size+1<w2.heap.size+2;omega) (.int .i64 (left-L)))
    clear hO6 hl6 hD6 hov6 hat6 hl7 hD7 hO7 hov7 hat7 hP7 ho7 hlow p6 pf6 hmm
    gi_wp2_with fail
    have hxl:(parts++[pt]).length=parts.length+1:=by simp
    refine HI.out.on HREC.out (parts1:=parts++[pt]) HL7.out HO7.out HD7.out HOv7.out HAt7.out ⟨x6,y6,by rw [hxl];exact HP7.out,by rw [hxl,← flatP_push];exact HW7.out,fun k hk=>?_⟩ _ (fun K' u hu=>⟨n-1,HN1.out,pos,left-L,parts++[pt],hu,HST2.out,by omega,by omega⟩) _
    rw [hxl] at hk
    rcases HR7.out k hk with h | h
    ·exact Or.inl (HKX.out k h)
    ·exact Or.inr (Nat.le_trans HOK5.out.size h)
   ·have hpn:(0:Int)<(parts.length:Int):=by omega
    have HAP:Hid (F=pos):=by unfold Hid;rw [HPOS.out,if_neg hpz]
    clear hpz
    gi_wp2_with fail
    obtain ⟨S,hS⟩:∃ S:World→Prop,∀ u,S u↔Below U.heap.size U u:=⟨_,fun _=>Iff.rfl⟩
    have HS0:=hidP hS
    have r0:∀ u:Held S,World.cell? u.val ⟨w.heap.size,0,none⟩=some (.pointer (some ⟨KT,0,none⟩)):=fun u=>cell_later ((hS u.val).1 u.2) t0
    have r1:∀ u:Held S,World.cell? u.val ⟨W2.heap.size,0,none⟩=some (.int .i64 s.piece):=fun u=>cell_later ((hS u.val).1 u.2) e0
    have r2:∀ u:Held S,World.cell? u.val ⟨W2.heap.size,1,none⟩=some (.int .i64 s.side):=fun u=>cell_later ((hS u.val).1 u.2) e1
    have hS1:S U.drew:=(hS _).2 ((Below.refl _ _).drew)
    have hne:=held_ne hS1
    clear hS
    refine wpIn_region_tree (fun w' => ∃ u:Held S,w'=u.val) 4 (by kernel_rfl) (by rintro ⟨a,w,h⟩;exact h) (by kernel_rfl) (by kernel_rfl) (held_some hS1) ?_
    (refine wpT_sea 0 ?_;intro K hK;go_big_quiet_op;go_big_quiet_on);(refine wpT_sea 1 ?_;intro K hK;go_big_quiet_op;go_big_quiet_on)
    refine wpT_loud 2 (by rfl) (by kernel_rfl) (by kernel_rfl) ?_
    intro KK hK
    go_wp2_with (go_at_call 114;refine (HAH.out _).mono ?_;rintro e u2 ⟨rfl,hb2'⟩)
    have hb2:Below U.heap.size U u2:=(Below.refl _ _).drew.trans hb2'
    refine hK _ _ (held_some ((HS0.out _).2 hb2)) ?_
    clear hK KK hb2'
    refine wpT_loud 3 (by rfl) (by kernel_rfl) (by kernel_rfl) ?_
    intro KK hK
    go_wp2_with (go_at_call 113;refine (HFE.out _).mono ?_;rintro e u3 ⟨rfl,hb3'⟩)
    have hb3:Below U.heap.size U u3:=hb2.trans (hb3'.mono hb2.size)
    refine hK _ _ (held_some ((HS0.out _).2 hb3)) ?_
    clear hK KK hb3' r0 r1 r2 hS1 hne hb2
    have HB3:=hidP hb3
    clear hb3
    refine wpT_done (by kernel_rfl) ?_
    go_wp2_with (go_at_call 112;refine (HAT2.out _ (HBU.out.trans (HB3.out.mono HBU.out.size))).mono ?_;rintro e u4 ⟨rfl,hb4'⟩;have hb4:=HB3.out.trans (hb4'.mono HB3.out.size);have hA4:=HA.out.of_block (hb4.block _ HA.out.lt);have a4:=hA4.cell (i:=0) (by omega);have f4:=hA4.frozen 0;have hz4:=hA4.lt;have HA4:=hidP hA4;have HB4:=hidP hb4;clear hA4 hb4 hb4')
    rw [HAP.out]
    have hlow:=HLW.out
    have hOY:Only (fun k=>k=W.heap.size+1) U (u4.setCell ⟨W.heap.size+1,0,none⟩ (.int .i64 pos)):=(Only.of_below (S:=fun k=>k=W.heap.size+1) HB4.out).setCell (p:=⟨W.heap.size+1,0,none⟩) (Or.inl rfl) _
    have hAY:=HA4.out.set 0 (.int .i64 pos)
    generalize u4.setCell ⟨W.heap.size+1,0,none⟩ (.int .i64 pos)=Y at hOY hAY ⊢
    replace HA:=hidP (row_one hAY (v:=.int .i64 pos) (by simp))
    replace a0:=HA.out.cell (i:=0) (by omega)
    replace t0:=hOY.cell t0 (by show ¬ w.heap.size=W.heap.size+1;omega)
    replace e0:=hOY.cell e0 (by show ¬ W2.heap.size=W.heap.size+1;have:=HLT.out;omega)
    replace e1:=hOY.cell e1 (by show ¬ W2.heap.size=W.heap.size+1;have:=HLT.out;omega)
    replace o0:=hOY.cell o0 (by show ¬ w.heap.size+1=W.heap.size+1;omega)
    replace q0:=hOY.cell q0 (by show ¬ w.heap.size+1+1=W.heap.size+1;omega)
    replace HO:=hidP (HO.out.of_block (hOY.block _ HO.out.lt (by show ¬ w.heap.size+1=W.heap.size+1;omega)))
    replace HP:=hidP (HP.out.of_block (hOY.block _ HP.out.lt (by show ¬ w.heap.size+1+1=W.heap.size+1;omega)))
    replace HD:=hidP ((hOY.block _ (get_lt HD.out) (by show ¬ w2.heap.size=W.heap.size+1;omega)).trans HD.out)
    replace HLU:=hidP ((hOY.block _ (get_lt HLU.out) (by show ¬ w2.heap.size+1=W.heap.size+1;omega)).trans HLU.out)
    replace HOw:=hidP (owns_only HOw.out hOY (fun k hk=>by omega))
    replace HOK:Hid (Only K W2 Y):=HOK.out.trans (hOY.mono (fun k hk=>by subst hk;exact HKA.out))
    replace HBU:Hid (Below w.heap.size w Y):=HBU.out.trans (hOY.below HBU.out.size (fun k hk e=>by omega))
    replace hzX:=cellLt e0
    replace hzO:=HO.out.lt
    replace hzA:=HA.out.lt
    replace hzP:=HP.out.lt
    replace hzT:=cellLt t0
    dsimp only at hzX hzT
    clear hAY hOY hlow HAP HAT2 HFE HA4 HB4 HB3 HX a4 f4 hz4
    gi_wp2_with fail
    obtain ⟨S,hS⟩:∃ S:World→Prop,∀ u,S u↔Below Y.heap.size Y u:=⟨_,fun _=>Iff.rfl⟩
    have HS0:=hidP hS
    have r0:∀ u:Held S,World.cell? u.val ⟨w.heap.size,0,none⟩=some (.pointer (some ⟨KT,0,none⟩)):=fun u=>cell_later ((hS u.val).1 u.2) t0
    have r1:∀ u:Held S,World.cell? u.val ⟨W2.heap.size,0,none⟩=some (.int .i64 s.piece):=fun u=>cell_later ((hS u.val).1 u.2) e0
    have r2:∀ u:Held S,World.cell? u.val ⟨W2.heap.size,1,none⟩=some (.int .i64 s.side):=fun u=>cell_later ((hS u.val).1 u.2) e1
    have r3:∀ u:Held S,World.cell? u.val ⟨w.heap.size+1,0,none⟩=some (.int .i64 left):=fun u=>cell_later ((hS u.val).1 u.2) o0
    have r4:∀ u:Held S,World.cell? u.val ⟨W.heap.size+1,0,none⟩=some (.int .i64 pos):=fun u=>cell_later ((hS u.val).1 u.2) a0
    have hS1:S Y.drew:=(hS _).2 ((Below.refl _ _).drew)
    have hne:=held_ne hS1
    have hdd:(E-pos)*s.side=dd:=HDF.out.symm
    clear hS
    refine wpIn_region_tree (fun w' => ∃ u:Held S,w'=u.val) 10 (by kernel_rfl) (by rintro ⟨a,w,h⟩;exact h) (by kernel_rfl) (by kernel_rfl) (held_some hS1) ?_
    (refine wpT_sea 0 ?_;intro K hK;go_big_quiet_op;go_big_quiet_on);(refine wpT_sea 1 ?_;intro K hK;go_big_quiet_op;go_big_quiet_on);(refine wpT_sea 2 ?_;intro K hK;go_big_quiet_op;go_big_quiet_on)
    (refine wpT_sea 5 ?_;intro K hK;go_big_quiet_op;go_big_quiet_on)
    (refine wpT_sea 7 ?_;intro K hK;go_big_quiet_op;go_big_quiet_on);(refine wpT_sea 8 ?_;intro K hK;go_big_quiet_op;go_big_quiet_on)
    refine wpT_loud 3 (by rfl) (by kernel_rfl) (by kernel_rfl) ?_
    intro KK hK
    go_wp2_with (go_at_call 114;refine (HAH.out _).mono ?_;rintro e v2 ⟨rfl,hb2'⟩)
    have hb2:Below Y.heap.size Y v2:=(Below.refl _ _).drew.trans hb2'
    refine hK _ _ (held_some ((HS0.out _).2 hb2)) ?_
    clear hK KK hb2'
    refine wpT_loud 4 (by rfl) (by kernel_rfl) (by kernel_rfl) ?_
    intro KK hK
    go_wp2_with (go_at_call 112;refine (HAT1.out _ (HBU.out.trans (hb2.mono HBU.out.size))).mono ?_;rintro e v3 ⟨rfl,hb3'⟩)
    have hb3:Below Y.heap.size Y v3:=hb2.trans (hb3'.mono hb2.size)
    refine hK _ _ (held_some ((HS0.out _).2 hb3)) ?_
    clear hK KK hb3'
    (refine wpT_sea 6 ?_;intro K hK;go_big_quiet_op;go_big_quiet_on)
    (refine wpT_sea 9 ?_;intro K hK;go_big_quiet_op;go_big_quiet_on)
    clear r0 r1 r2 r3 r4 hS1 hne hb2
    have HB3:=hidP hb3
    clear hb3
    refine wpT_done (by kernel_rfl) ?_
    have hmn:(if dd<left then dd else left)=L:=by rw [HLL.out];split <;> omega
    go_wp2_with fail
    clear hmn hdd
    replace HB3:Hid (Below Y.heap.size Y v3):=HB3
    have hlow:=HLW.out
    replace t0:=cell_later HB3.out t0
    replace e0:=cell_later HB3.out e0
    replace e1:=cell_later HB3.out e1
    replace o0:=cell_later HB3.out o0
    replace a0:=cell_later HB3.out a0
    replace q0:=cell_later HB3.out q0
    replace HO:=hidP (HO.out.of_block (HB3.out.block _ HO.out.lt))
    replace HA:=hidP (HA.out.of_block (HB3.out.block _ HA.out.lt))
    replace HP:=hidP (HP.out.of_block (HB3.out.block _ HP.out.lt))
    replace HD:=hidP ((HB3.out.block _ (get_lt HD.out)).trans HD.out)
    replace HLU:=hidP ((HB3.out.block _ (get_lt HLU.out)).trans HLU.out)
    replace HOw:=hidP (owns_below HOw.out HB3.out)
    replace HOK:Hid (Only K W2 v3):=HOK.out.trans (Only.of_below HB3.out)
    have hzW2:=HOK.out.size
    have hbl:=HLT.out
    have hm1:Hid (L*s.side=L∨L*s.side = - L):=by unfold Hid;rcases HSD.out with h | h <;> rw [h] <;> omega
    obtain ⟨mm,hmm⟩:∃ mm,L*s.side=mm:=⟨_,rfl⟩
    have HMM:=hidP hmm
    rw [hmm] at hm1
    have hL0:1≤L∧L≤left∧L≤dd:=by rw [HLL.out];have:=HL0.out;omega
    have hmb : -10000000≤mm∧mm≤10000000:=by have:=hm1.out;omega
    have hmb1:=hmb.1
    have hmb2:=hmb.2
    have hLa:=hL0.1
    have hLb:=hL0.2.1
    have HPO:Hid (∀ u:World,Calls Tryz.prog 115 #[.int .i64 s.piece,.int .i64 pos,.int .i64 (pos+mm)] u fun e w'=>e = .returned (.agg #[.int .i64 (partI s.piece pos (pos+mm)).piece,.int .i64 (partI s.piece pos (pos+mm)).lo,.int .i64 (partI s.piece pos (pos+mm)).hi])∧Below u.heap.size u w'):=fun u=>partOf_any s.piece pos (pos+mm) u
    have HST2:Hid (NMath ps js tot (n-1) s (left-L) (parts++[partI s.piece pos (pos+mm)])):=by
     unfold Hid
     rw [← HMM.out]
     exact HST.out
    generalize partI s.piece pos (pos+mm)=pt at HPO HST2
    replace hzX:=cellLt e0
    replace hzO:=HO.out.lt
    replace hzA:=HA.out.lt
    replace hzP:=HP.out.lt
    replace hzT:=cellLt t0
    dsimp only at hzX hzT
    clear hL0 hmb hlow HB3 HS0 hmm HSD HST HDF
    have hmm:=HMM.out
    gi_wp2_with fail
    obtain ⟨S,hS⟩:∃ S:World→Prop,∀ u,S u↔Below v3.heap.size v3 u:=⟨_,fun _=>Iff.rfl⟩
    have HS0:=hidP hS
    have r1:∀ u:Held S,World.cell? u.val ⟨W2.heap.size,0,none⟩=some (.int .i64 s.piece):=fun u=>cell_later ((hS u.val).1 u.2) e0
    have r2:∀ u:Held S,World.cell? u.val ⟨W2.heap.size,1,none⟩=some (.int .i64 s.side):=fun u=>cell_later ((hS u.val).1 u.2) e1
    have r3:∀ u:Held S,World.cell? u.val ⟨w.heap.size+1+1,0,none⟩=some (.slice x parts.length y):=fun u=>cell_later ((hS u.val).1 u.2) q0
    have r4:∀ u:Held S,World.cell? u.val ⟨W.heap.size+1,0,none⟩=some (.int .i64 pos):=fun u=>cell_later ((hS u.val).1 u.2) a0
    have hS1:S v3.drew:=(hS _).2 ((Below.refl _ _).drew)
    have hne:=held_ne hS1
    clear hS
    refine wpIn_region_tree (fun w' => ∃ u:Held S,w'=u.val) 12 (by kernel_rfl) (by rintro ⟨a,w,h⟩;exact h) (by kernel_rfl) (by kernel_rfl) (held_some hS1) ?_
    (refine wpT_sea 0 ?_;intro K hK;go_big_quiet_op;go_big_quiet_on);(refine wpT_sea 1 ?_;intro K hK;go_big_quiet_op;go_big_quiet_on);(refine wpT_sea 2 ?_;intro K hK;go_big_quiet_op;go_big_quiet_on);(refine wpT_sea 3 ?_;intro K hK;go_big_quiet_op;go_big_quiet_on);(refine wpT_sea 4 ?_;intro K hK;go_big_quiet_op;go_big_quiet_on);(refine wpT_sea 5 ?_;intro K hK;go_big_quiet_op;go_big_quiet_on);(refine wpT_sea 6 ?_;intro K hK;go_big_quiet_op;go_big_quiet_on);(refine wpT_sea 7 ?_;intro K hK;go_big_quiet_op;go_big_quiet_on);(refine wpT_sea 8 ?_;intro K hK;go_big_quiet_op;go_big_quiet_on);(refine wpT_sea 9 ?_;intro K hK;go_big_quiet_op;go_big_quiet_on)
    refine wpT_loud 10 (by rfl) (by kernel_rfl) (by kernel_rfl) ?_
    intro KK hK
    go_wp2_with (go_at_call 115;refine (HPO.out _).mono ?_;rintro e v4 ⟨rfl,hb4'⟩)
    have hb4:Below v3.heap.size v3 v4:=(Below.refl _ _).drew.trans hb4'
    refine hK _ _ (held_some ((HS0.out _).2 hb4)) ?_
    clear hK KK hb4'
    refine wpT_loud 11 (by rfl) (by kernel_rfl) (by kernel_rfl) ?_
    intro KK hK
    go_wp2_with fail
    generalize hV5:World.alloc v4 _=V5
    have hb5':Below v4.heap.size v4 V5:=by rw [← hV5];exact (Below.refl _ _).alloc (Nat.le_refl _) _
    have hb5:Below v3.heap.size v3 V5:=hb4.trans (hb5'.mono hb4.size)
    have n0:V5.cell? ⟨v4.heap.size,0,none⟩=some (.int .i64 pt.piece):=by rw [← hV5];simp [go_sem]
    have n1:V5.cell? ⟨v4.heap.size,1,none⟩=some (.int .i64 pt.lo):=by rw [← hV5];simp [go_sem]
    have n2:V5.cell? ⟨v4.heap.size,2,none⟩=some (.int .i64 pt.hi):=by rw [← hV5];simp [go_sem]
    refine hK _ _ (held_some ((HS0.out _).2 hb5)) ?_
    clear hK KK hV5 hb5' hb4 r1 r2 r3 r4 hS1 hne
    have HN3:=hidP (news3 n0 n1 n2)
    clear n0 n1 n2
    have HB5:=hidP hb5
    have hz5:=hb5.size
    clear hb5
    have hlow:=HLW.out
    have HOw5:=hidP (owns_below HOw.out HB5.out)
    have HO5:=hidP (HO.out.of_block (HB5.out.block _ HO.out.lt))
    have HA5:=hidP (HA.out.of_block (HB5.out.block _ HA.out.lt))
    have HP5:=hidP (HP.out.of_block (HB5.out.block _ HP.out.lt))
    have HD5:=hidP ((HB5.out.block _ (get_lt HD.out)).trans HD.out)
    have HLU5:=hidP ((HB5.out.block _ (get_lt HLU.out)).trans HLU.out)
    have HOK5:Hid (Only K W2 V5):=HOK.out.trans (Only.of_below HB5.out)
    clear hlow HOw HO HA HP HD HLU HOK o0 a0 q0 t0 e0 e1
    refine wpT_done (by kernel_rfl) ?_
    show wpList Tryz.prog _ _ [_,_] _ _
    refine wpList_append_sharp _ rfl (.tmp 52) (.tmp 63) 41 rfl (w2.heap.size+2) 48 _ 3 24 Tryz.underlying41 Tryz.infoPart rfl (by decide) (.slice x parts.length y) parts.length (flatP parts) rfl HOw5.out ⟨v4.heap.size,0,none⟩ 1 [.int .i64 pt.piece,.int .i64 pt.lo,.int .i64 pt.hi] rfl rfl HN3.out (by simp [Value.oneCell']) (by unfold maxLen;omega) (by omega) (by omega) ?_
    intro x6 y6 w6 r1 r6 r7
    have hne6:∀ k,k<w2.heap.size+2→some k≠(Value.slice x parts.length y).ownBlock:=(fun k hk e=>by have h9:=(HOw5.out.lt k e.symm).1;omega)
    have hP6:=HP5.out.of_block (r6.block _ HP5.out.lt (hne6 _ (by have h9:=HLW.out;omega)))
    have p6:=hP6.cell (i:=0) (by omega)
    have pf6:=hP6.frozen 0
    have hzP6:=hP6.lt
    have HP6:=hidP hP6
    have HR1:=hidP r1
    have HR6:=hidP r6
    have HR7:=hidP r7
    have HNE:=hidP hne6
    clear hP6 r1 r6 r7 hne6
    go_wp2_with fail
    have hlow:=HLW.out
    have hO6:Only K W2 w6:=HOK5.out.trans (Only.of_grown HR6.out (fun k hk=>HKX.out k hk))
    have hl6:=(HR6.out.block _ (get_lt HLU5.out) (HNE.out _ (by omega))).trans HLU5.out
    have hD6:=(HR6.out.block _ (get_lt HD5.out) (HNE.out _ (by omega))).trans HD5.out
    have hov6:=HO5.out.of_block (HR6.out.block _ HO5.out.lt (HNE.out _ (by omega)))
    have hat6:=HA5.out.of_block (HR6.out.block _ HA5.out.lt (HNE.out _ (by omega)))
    have hl7:=(Below.heap_setCell w6 ⟨w.heap.size+1+1,0,none⟩ (.slice x6 (parts.length+1) y6) (w2.heap.size+1) (by show ¬ w2.heap.size+1=w.heap.size+1+1;omega)).trans hl6
    have hD7:=(Below.heap_setCell w6 ⟨w.heap.size+1+1,0,none⟩ (.slice x6 (parts.length+1) y6) w2.heap.size (by show ¬ w2.heap.size=w.heap.size+1+1;omega)).trans hD6
    have hO7:=hO6.setCell (p:=⟨w.heap.size+1+1,0,none⟩) (Or.inl HKP.out) (.slice x6 (parts.length+1) y6)
    have hov7:=hov6.setOther (a:=⟨w.heap.size+1+1,0,none⟩) (by show ¬ w.heap.size+1=w.heap.size+1+1;omega) (.slice x6 (parts.length+1) y6)
    have hat7:=hat6.setOther (a:=⟨w.heap.size+1+1,0,none⟩) (by show ¬ W.heap.size+1=w.heap.size+1+1;omega) (.slice x6 (parts.length+1) y6)
    have hP7:=row_one (HP6.out.set 0 (.slice x6 (parts.length+1) y6)) (v:=.slice x6 (parts.length+1) y6) (by simp)
    have ho7:=ownsRow_setCell_below HR1.out (a:=⟨w.heap.size+1+1,0,none⟩) (by show w.heap.size+1+1<w2.heap.size+2;omega) (.slice x6 (parts.length+1) y6)
    generalize w6.setCell ⟨w.heap.size+1+1,0,none⟩ (.slice x6 (parts.length+1) y6)=Z at hl7 hD7 hO7 hov7 hat7 hP7 ho7 ⊢
    have z0:=hov7.cell (i:=0) (by omega)
    have zf:=hov7.frozen 0
    have hzz:=hov7.lt
    have HOv7:=hidP (row_one (hov7.set 0 (.int .i64 (left-L))) (v:=.int .i64 (left-L)) (by simp))
    have HAt7:=hidP (hat7.setOther (a:=⟨w.heap.size+1,0,none⟩) (by show ¬ W.heap.size+1=w.heap.size+1;omega) (.int .i64 (left-L)))
    have HP7:=hidP (hP7.setOther (a:=⟨w.heap.size+1,0,none⟩) (by show ¬ w.heap.size+1+1=w.heap.size+1;omega) (.int .i64 (left-L)))
    have HO7:=hidP (hO7.setCell (p:=⟨w.heap.size+1,0,none⟩) (Or.inl HKO.out) (.int .i64 (left-L)))
    have HL7:=hidP ((Below.heap_setCell Z ⟨w.heap.size+1,0,none⟩ (.int .i64 (left-L)) (w2.heap.size+1) (by show ¬ w2.heap.size+1=w.heap.size+1;omega)).trans hl7)
    have HD7:=hidP ((Below.heap_setCell Z ⟨w.heap.size+1,0,none⟩ (.int .i64 (left-L)) w2.heap.size (by show ¬ w2.heap.size=w.heap.size+1;omega)).trans hD7)
    have HW7:=hidP (ownsRow_setCell_below ho7 (a:=⟨w.heap.size+1,0,none⟩) (by show w.heap.size+1<w2.heap.size+2;omega) (.int .i64 (left-L)))
    clear hO6 hl6 hD6 hov6 hat6 hl7 hD7 hO7 hov7 hat7 hP7 ho7 hlow p6 pf6 hmm
    gi_wp2_with fail
    have hxl:(parts++[pt]).length=parts.length+1:=by simp
    refine HI.out.on HREC.out (parts1:=parts++[pt]) HL7.out HO7.out HD7.out HOv7.out HAt7.out ⟨x6,y6,by rw [hxl];exact HP7.out,by rw [hxl,← flatP_push];exact HW7.out,fun k hk=>?_⟩ _ (fun K' u hu=>⟨n-1,HN1.out,pos,left-L,parts++[pt],hu,HST2.out,by omega,by omega⟩) _
    rw [hxl] at hk
    rcases HR7.out k hk with h | h
    ·exact Or.inl (HKX.out k h)
    ·exact Or.inr (Nat.le_trans HOK5.out.size h)
 have HRD:Hid (SRounds KT V.heap.size (w2.heap.size+1) (w2.heap.size+2) js (OJ w KT (w2.heap.size+1) w2.heap.size w.heap.size (w.heap.size+1) (w.heap.size+1+1) (W.heap.size+1) V.heap.size (w2.heap.size+2) rec ps js tot) (ON w KT (w2.heap.size+1) w2.heap.size w.heap.size (w.heap.size+1) (w.heap.size+1+1) (W.heap.size+1) V.heap.size (w2.heap.size+2) rec ps js tot) (OStop w (w2.heap.size+1) w2.heap.size (w.heap.size+1+1) (w2.heap.size+2) rec tot)):=by
  refine ⟨?_,?_,?_,?_,?_,HY.out⟩
  ·rintro n s K u ⟨at0,left,parts,hb,_⟩
   exact hb.lt
  ·rintro n s K S u u' ⟨at0,left,parts,hb,hm⟩ hO hS
   exact ⟨at0,left,parts,hb.keep hO hS,hm⟩
  ·rintro n s K S u u' ⟨at0,left,parts,hb,hm⟩ hO hS
   exact ⟨at0,left,parts,hb.keep hO hS,hm⟩
  ·rintro n s K u ⟨at0,left,parts,hb,_⟩
   exact hb.t2
  ·rintro n s K u ⟨at0,left,parts,hb,hm,ha⟩ hov
   exact ⟨at0,left,parts,hb,hm.next R.out hov ha⟩
 have HTN:Hid (∀ n s K u,ON w KT (w2.heap.size+1) w2.heap.size w.heap.size (w.heap.size+1) (w.heap.size+1+1) (W.heap.size+1) V.heap.size (w2.heap.size+2) rec ps js tot n s K u→TTrack u KT M pa ja (some ⟨bs,os,none⟩) pc jc sc ps js ss∧ValidS ps s):=by
  rintro n s K u ⟨at0,left,parts,hb,hm,_⟩
  exact ⟨hT.out.below hb.below,hm.sv⟩
 refine (callsIn_wide).2 ((steps_any KT M V.heap.size (V.heap.size+1) (w2.heap.size+2) pa ja (some ⟨bs,os,none⟩) pc jc sc ps js ss R (w2.heap.size+1) _ _ _ HRD HTN (over.toNat+1) ⟨sg.len,sg.brake⟩ _ W1 (by omega) HI0 (cell_later hb1 F0.out) (cell_later hb1 F1.out)).mono ?_)
 rintro e w3 ⟨⟨v,rfl⟩,hO3,h3⟩
 have hst:∀ pe,(rec .ready pe).state≠.busy∧(rec .ready pe).pending=pe∧(rec .done pe).state≠.busy∧(rec .done pe).pending=pe:=by
  rw [hrec]
  intro pe
  simp
 have HEND:Hid (∀ w4:World,Only (fun k=>k=w2.heap.size+1) w3 w4→Below w.heap.size w w3→w3.heap[w2.heap.size]? = some (.deferred (some []))→(∃ (x:Option Addr) (y:Nat),w3.rowIs (w.heap.size+1+1) 41 1 (fun _=>.slice x tot.length y)∧w3.ownsRow (w2.heap.size+2) 48 3 (.slice x tot.length y) tot.length (flatP tot)) →
   ∃ x y wf,w4.cell? ⟨w.heap.size+1+1,0,none⟩=some (.slice x tot.length y)∧w.heap.size+1+1<w4.heap.size∧(Instr.takeDeferred w2.heap.size).run Tryz.prog w4 = .ok [] wf∧wf.ownsRow w.heap.size 48 3 (.slice x tot.length y) tot.length (flatP tot)∧Below w.heap.size w wf):=by
  intro w4 hO4 hb3 hd3 ⟨x,y,g1,g2⟩
  have hA4:=g1.of_block (hO4.block _ g1.lt (by show ¬ w.heap.size+1+1=w2.heap.size+1;omega))
  have hD4:=(hO4.block _ (get_lt hd3) (by show ¬ w2.heap.size=w2.heap.size+1;omega)).trans hd3
  have hOf:Only (fun k=>k=w2.heap.size) w4 (w4.putObj w2.heap.size (.deferred none)):=Only.of_grown (grownBy_putObj' _ _ _) (fun k e=>by cases e;rfl)
  have hO3f:Only (fun k=>k=w2.heap.size+1∨k=w2.heap.size) w3 (w4.putObj w2.heap.size (.deferred none)):=(hO4.mono (fun k hk=>Or.inl hk)).trans (hOf.mono (fun k hk=>Or.inr hk))
  have hof:=owns_only g2 hO3f (fun k hk=>by omega)
  refine ⟨x,y,_,hA4.cell (i:=0) (by omega),hA4.lt,run_takeDeferred hD4,⟨hof.1,hof.2.imp id fun ⟨g,cap,cur,q1,q2,q3⟩=>⟨g,cap,cur,q1,by omega,q3⟩⟩,hb3.trans (hO3f.below hb3.size (fun k hk e=>by omega))⟩
 rcases h3 with ⟨n3,s3,K',⟨at0,left,parts,hb3,hm3,_⟩,hov3,_⟩ | hS3
 ·have hpt:=hm3.stop hov3
  refine ⟨_,_,run_endLoop hb3.loop (hst none).1,?_⟩
  rw [(hst none).2.1]
  dsimp only
  generalize hw4:w3.putObj _ _=w4
  have hO4:Only (fun k=>k=w2.heap.size+1) w3 w4:=by
   rw [← hw4]
   exact Only.of_grown (grownBy_putObj' _ _ _) (fun k e=>by cases e;rfl)
  clear hw4
  obtain ⟨x,y,g1,g2,_⟩:=hb3.own
  rw [← hpt] at g1 g2
  obtain ⟨x,y,wf,p0,pz,ptk,pown,pbl⟩:=HEND.out w4 hO4 hb3.below hb3.dfr ⟨x,y,g1,g2⟩
  have PTK:=hidP ptk
  have POW:=hidP pown
  have PBL:=hidP pbl
  have HWS:Hid (w2.heap.size=w2.heap.size):=rfl
  clear hzz hz1 hO4 g1 g2 hb3 hm3 hpt ptk pown pbl hst hO3 hb1 hL1 hD1 hi0
  simp only [Exit.inBlock,Exit.then]
  go_wp2_with fail
  refine ⟨by simp,.inl ⟨_,_,rfl,PTK.out,?_⟩⟩
  exact ⟨.slice x tot.length y,by simp [results,Tryz.results84,go_sem],x,y,rfl,POW.out,PBL.out⟩
 ·obtain ⟨cc,hlc,hcc⟩:=hS3.loop
  subst hcc
  refine ⟨_,_,run_endLoop hlc (hst (some (.exit 0))).2.2.1,?_⟩
  rw [(hst (some (.exit 0))).2.2.2]
  dsimp only
  generalize hw4:w3.putObj _ _=w4
  have hO4:Only (fun k=>k=w2.heap.size+1) w3 w4:=by
   rw [← hw4]
   exact Only.of_grown (grownBy_putObj' _ _ _) (fun k e=>by cases e;rfl)
  clear hw4
  obtain ⟨x,y,wf,p0,pz,ptk,pown,pbl⟩:=HEND.out w4 hO4 hS3.below hS3.dfr hS3.own
  have PTK:=hidP ptk
  have POW:=hidP pown
  have PBL:=hidP pbl
  clear hzz hz1 hO4 hS3 hlc ptk pown pbl hst hO3 hb1 hL1 hD1 hi0
  refine wpIn_wide.2 ?_
  go_wp2_with fail
  refine ⟨by simp,.inl ⟨_,_,rfl,PTK.out,?_⟩⟩
  exact ⟨.slice x tot.length y,by simp [results,Tryz.results84,go_sem],x,y,rfl,POW.out,PBL.out⟩
end Go.Proofs.YtmkdgnmmebldgaaGreatDoor
