import Derived.Test.YtmkdgnmmebldgabGreatDoorPc27
import Derived.Test.YtmkdgnmmebldgabGreatDoorPc2
set_option maxRecDepth 100000
set_option maxHeartbeats 8000000
namespace Go.Proofs.YtmkdgnmmebldgabGreatDoor
open Go.RowKit Go.Deep Go.Maps
def posF (ps:List MPiece)(s:MStep)(at0:Int)(parts:List MPart):Int:=if parts.length=0 then at0 else endAt ps (farE (aheadE s))
def distF (ps:List MPiece)(s:MStep)(pos:Int):Int:=(endAt ps (aheadE s)-pos)*s.side
structure JMath (ps:List MPiece)(js:List MJoint)(tot:List MPart)(n:Nat)(s:MStep)(at0 left:Int)(parts:List MPart):Prop where
 sv:ValidS ps s
 l0:0≤left
 ln:left<n
 lb:(parts.length:Int)+left≤100000
 p0:0≤posF ps s at0 parts
 p1:posF ps s at0 parts≤10000000
 d0:1≤distF ps s (posF ps s at0 parts)
 d1:distF ps s (posF ps s at0 parts)≤10000000
 a0:0≤at0∧at0≤10000000
 tot:tot=parts++behindF ps js n s (posF ps s at0 parts) left
structure NMath (ps:List MPiece)(js:List MJoint)(tot:List MPart)(m:Nat)(s:MStep)(left:Int)(parts:List MPart):Prop where
 sv:ValidS ps s
 l0:0≤left
 ln:left<m
 lb:(parts.length:Int)+left≤100000
 ne:parts.length≠0
 tot:tot=parts++(if kindE js (spotE js (aheadE s)).1=2 then behindF ps js m (stepFromE (endE js (spotE js (aheadE s)).1 (1-(spotE js (aheadE s)).2))) (endAt ps (endE js (spotE js (aheadE s)).1 (1-(spotE js (aheadE s)).2))) left else [])
theorem JMath.stop {ps:List MPiece}{js:List MJoint}{tot:List MPart}{n:Nat}{s:MStep}{at0 left:Int}{parts:List MPart}(h:JMath ps js tot n s at0 left parts)(h0:left=0):tot=parts:=by
 have hn:=h.ln
 obtain ⟨m,rfl⟩:∃ m,n=m+1:=⟨n-1,by omega⟩
 rw [h.tot,behindF,if_pos (by omega)]
 simp
theorem JMath.step {ps:List MPiece}{js:List MJoint}{tot:List MPart}{n:Nat}{s:MStep}{at0 left:Int}{parts:List MPart}(h:JMath ps js tot n s at0 left parts)(h0:left≠0){L:Int}(hL:L=min left (distF ps s (posF ps s at0 parts))):
  NMath ps js tot (n-1) s (left-L) (parts++[partI s.piece (posF ps s at0 parts) (posF ps s at0 parts+L*s.side)]):=by
 have hn:=h.ln
 have hl:=h.l0
 have hd:=h.d0
 have hb:=h.lb
 have hL1:1≤L∧L≤left:=by rw [hL];omega
 obtain ⟨m,rfl⟩:∃ m,n=m+1:=⟨n-1,by omega⟩
 refine ⟨h.sv,by omega,by omega,by rw [List.length_append,List.length_singleton];omega,by simp,?_⟩
 have ht:=h.tot
 rw [behindF,if_neg (by omega)] at ht
 unfold distF at hL
 rw [ht,hL,List.append_assoc]
 rfl
theorem NMath.stop {ps:List MPiece}{js:List MJoint}{tot:List MPart}{m:Nat}{s:MStep}{left:Int}{parts:List MPart}(h:NMath ps js tot m s left parts)(h0:(overPlainF js s).2=false):tot=parts:=by
 have ht:=h.tot
 unfold overPlainF at h0
 by_cases hk:kindE js (spotE js (aheadE s)).1=2
 ·rw [if_pos hk] at h0
  cases h0
 ·rw [if_neg hk] at ht
  rw [ht]
  simp
theorem dist_begin {ps:List MPiece}{e:MEnd}(h:ValidE ps e):distF ps (stepFromE e) (endAt ps e)=lenI ps e.piece:=by
 obtain ⟨p,hp,e1,e2⟩:=h
 cases e
 simp only at e1 e2
 unfold distF stepFromE aheadE endAt
 rcases e2 with rfl | rfl <;> simp
theorem NMath.next {ps:List MPiece}{js:List MJoint}{ss:List MPiece}(R:Right ps js ss){tot:List MPart}{m:Nat}{s:MStep}{left:Int}{parts:List MPart}(h:NMath ps js tot m s left parts)(h0:(overPlainF js s).2=true){at0:Int}(ha:0≤at0∧at0≤10000000):JMath ps js tot m (overPlainF js s).1 at0 left parts:=by
 have ht:=h.tot
 unfold overPlainF at h0 ⊢
 by_cases hk:kindE js (spotE js (aheadE s)).1=2
 ·rw [if_pos hk] at h0 ht ⊢
  obtain ⟨j,k,hsp,hsp2⟩:=R.spot (aheadE_valid h.sv)
  obtain ⟨_,hj,hkk,_⟩:=spotF_some hsp
  simp only [Nat.sub_zero] at hj hkk
  rw [hsp2] at hk ht ⊢
  dsimp only at hk ht ⊢
  have hkd:=R.kind j hj
  rw [kindE_at hj] at hk
  have hte:1-k<js[j].ends.length:=by omega
  have hve:ValidE ps (endE js j (1-k)):=by
   rw [endE_at hj hte]
   exact R.ends j hj _ hte
  obtain ⟨q,hq,q1,q2⟩:=hve
  have hpl:=R.plen q hq
  have hlen:lenI ps (endE js j (1-k)).piece=ps[q].len:=by rw [q1];exact lenI_at hq
  have hve:ValidE ps (endE js j (1-k)):=⟨q,hq,q1,q2⟩
  have hpos:posF ps (stepFromE (endE js j (1-k))) at0 parts=endAt ps (endE js j (1-k)):=by
   unfold posF
   rw [if_neg h.ne,(farI_begin hve).2]
  have hr:=endAt_range R hve
  refine ⟨stepFromE_valid hve,h.l0,h.ln,h.lb,by rw [hpos];exact hr.1,by rw [hpos];omega,?_,?_,ha,by rw [hpos];exact ht⟩
  ·rw [hpos,dist_begin hve,hlen]
   exact hpl.1
  ·rw [hpos,dist_begin hve,hlen]
   exact hpl.2
 ·rw [if_neg hk] at h0
  cases h0
theorem JMath.begin {ps:List MPiece}{js:List MJoint}{ss:List MPiece}(R:Right ps js ss){i:Nat}(hi:i<ss.length){over:Int}(h0:0≤over)(h1:over≤100000):JMath ps js (overF ps js ss i over) (over.toNat+1) ⟨ss[i].len,ss[i].brake⟩ ss[i].speed over []:=by
 obtain ⟨p,hp,e1,e2,e3,e4⟩:=R.sig i hi
 have hpl:=R.plen p hp
 have hlen:lenI ps ss[i].len=ps[p].len:=by rw [e1];exact lenI_at hp
 have hpos:posF ps ⟨ss[i].len,ss[i].brake⟩ ss[i].speed []=ss[i].speed:=rfl
 have hd:1≤distF ps ⟨ss[i].len,ss[i].brake⟩ ss[i].speed∧distF ps ⟨ss[i].len,ss[i].brake⟩ ss[i].speed≤10000000:=by
  unfold distF aheadE endAt
  rcases e2 with e2 | e2
  ·rw [e2]
   simp only [if_true]
   rw [if_neg (by omega),hlen]
   omega
  ·rw [e2]
   have hne:¬ ((-1:Int)=1):=by decide
   simp [hne]
   omega
 refine ⟨⟨p,hp,e1,e2⟩,h0,by omega,by simpa using h1,by rw [hpos];omega,by rw [hpos];omega,by rw [hpos];exact hd.1,by rw [hpos];exact hd.2,by omega,?_⟩
 unfold overF
 rw [if_neg (by omega),hpos]
 simp [hi]
theorem range_law_cap {P:Program}{n:Nat}{g:Operand}{ps:Array Tmp}{assign body:Code}{Q:Exit→Act→World→Prop}{a:Act}{w:World}(gf:Nat)(cap:Array Value)(hg:a.eval g = .func (.func gf) #[] cap)(eg:∀ args w,(callFunc gf args).run P w = .ok (.enter gf args) w)
  (h:∀ (fn:FuncId) (rec:LoopState→Option Code→Loop),(rec=fun st pe=>{ state:=st,pending:=pe,fn,tmps:=a.tmps,params:=ps,assign,body,defers:=w.heap.size }) →
   CallsIn Fence.wide (n-1) P gf (#[.func (.yield (w.heap.size+1)) #[] #[]]++cap) ((w.alloc (.deferred (some []))).alloc (.loop (rec .ready none))) (rangePost Fence.wide n P (w.heap.size+1) Q { a with defers:=[{ target:=.collected w.heap.size,args:=#[] }]++a.defers })) :
  (Code.rangeFunc g ps assign body).wpIn Fence.wide n P Q a w:=by
 refine wpIn_rangeFunc ?_
 intro fn _
 obtain ⟨rec,hrec⟩:∃ rec:LoopState→Option Code→Loop,rec=fun st pe=>{ state:=st,pending:=pe,fn,tmps:=a.tmps,params:=ps,assign,body,defers:=w.heap.size }:=⟨_,rfl⟩
 have h1:=h fn rec hrec
 have he:(Instr.enterLoop fn a.tmps ps assign body Fence.wide.round).run P w = .ok (w.heap.size+1,[{ target:=.collected w.heap.size,args:=#[] }]) ((w.alloc (.deferred (some []))).alloc (.loop (rec .ready none))):=by
  have h0:Fence.wide.round=none:=rfl
  rw [hrec,h0]
  exact run_enterLoop_outer _ _ _ _ _
 obtain ⟨W1,hW1⟩:∃ W1,(w.alloc (.deferred (some []))).alloc (.loop (rec .ready none))=W1:=⟨_,rfl⟩
 rw [hW1] at h1 he
 refine ⟨w.heap.size+1,[{ target:=.collected w.heap.size,args:=#[] }],W1,{ target:=.fn (.func gf) cap,args:=#[.func (.yield (w.heap.size+1)) #[] #[]] },W1,gf,#[.func (.yield (w.heap.size+1)) #[] #[]]++cap,W1,he,?_,?_,?_,?_,?_⟩
 ·simp only [resolve,hg]
  simp [go_sem]
 ·intro _ _
  trivial
 ·simp [invoke,go_sem,eg]
 ·intro h
  cases h
 ·exact h1
structure OBase (w:World)(KT l D tB oB pB aB tb bs:Nat)(rec:LoopState→Option Code→Loop)(K:Nat→Prop)(at0 left:Int)(parts:List MPart)(W:World):Prop where
 below:Below w.heap.size w W
 loop:W.heap[l]? = some (.loop (rec .ready none))
 dfr:W.heap[D]? = some (.deferred (some []))
 t1:W.cell? ⟨tB,0,none⟩=some (.pointer (some ⟨KT,0,none⟩))
 t2:W.cell? ⟨tb,0,none⟩=some (.pointer (some ⟨KT,0,none⟩))
 over:W.rowIs oB 3 1 (fun _=>.int .i64 left)
 at_:W.rowIs aB 3 1 (fun _=>.int .i64 at0)
 own:∃ (x:Option Addr) (y:Nat),W.rowIs pB 78 1 (fun _=>.slice x parts.length y)∧W.ownsRow bs 185 3 (.slice x parts.length y) parts.length (flatP parts) ∧
  ∀ k,K k↔k=l∨k=D∨k=oB∨k=aB∨k=pB∨(Value.slice x parts.length y).ownBlock=some k
 low:w.heap.size≤tB∧tB<oB∧oB<pB∧pB<aB∧aB<tb∧tb<D∧D<l∧l<bs
structure OStop (w:World)(l D pB bs:Nat)(rec:LoopState→Option Code→Loop)(tot:List MPart)(W:World):Prop where
 below:Below w.heap.size w W
 loop:∃ c,W.heap[l]? = some (.loop (rec .done (some c)))∧c = .exit 0
 dfr:W.heap[D]? = some (.deferred (some []))
 own:∃ (x:Option Addr) (y:Nat),W.rowIs pB 78 1 (fun _=>.slice x tot.length y)∧W.ownsRow bs 185 3 (.slice x tot.length y) tot.length (flatP tot)
 low:w.heap.size≤pB∧pB<D∧D<l∧l<bs
section
variable {w:World} {KT l D tB oB pB aB tb bs:Nat} {rec:LoopState→Option Code→Loop} {K:Nat→Prop} {at0 left:Int} {parts:List MPart} {W W':World}
theorem OBase.lt (h:OBase w KT l D tB oB pB aB tb bs rec K at0 left parts W):∀ k,K k→k<W.heap.size:=by
 intro k hk
 obtain ⟨x,y,h1,h2,h5⟩:=h.own
 rcases (h5 k).1 hk with rfl | rfl | rfl | rfl | rfl | hk
 ·exact get_lt h.loop
 ·exact get_lt h.dfr
 ·exact h.over.lt
 ·exact h.at_.lt
 ·exact h1.lt
 ·exact (h2.lt k hk).2
theorem OBase.low_own (h:OBase w KT l D tB oB pB aB tb bs rec K at0 left parts W):∀ k,K k→w.heap.size≤k:=by
 intro k hk
 have hl:=h.low
 obtain ⟨x,y,h1,h2,h5⟩:=h.own
 rcases (h5 k).1 hk with rfl | rfl | rfl | rfl | rfl | hk
 ·omega
 ·omega
 ·omega
 ·omega
 ·omega
 ·have:=(h2.lt k hk).1
  omega
theorem OBase.keep (h:OBase w KT l D tB oB pB aB tb bs rec K at0 left parts W){S:Nat→Prop}(hO:Only S W W')(hS:∀ k,S k→bs≤k∧¬ K k):OBase w KT l D tB oB pB aB tb bs rec K at0 left parts W':=by
 have hl:=h.low
 have hn:∀ k,k<bs→¬ S k:=fun k hk hs=>by have:=(hS k hs).1;omega
 obtain ⟨x,y,h1,h2,h5⟩:=h.own
 refine ⟨h.below.trans (hO.below h.below.size (fun k hk=>hn k (by omega))),(hO.block _ (get_lt h.loop) (hn _ (by omega))).trans h.loop,(hO.block _ (get_lt h.dfr) (hn _ (by omega))).trans h.dfr,hO.cell h.t1 (hn _ (by show tB<bs;omega)),hO.cell h.t2 (hn _ (by show tb<bs;omega)),h.over.of_block (hO.block _ h.over.lt (hn _ (by omega))),h.at_.of_block (hO.block _ h.at_.lt (hn _ (by omega))),⟨x,y,h1.of_block (hO.block _ h1.lt (hn _ (by omega))),?_,h5⟩,hl⟩
 refine ⟨h2.1,?_⟩
 rcases h2.2 with q | ⟨g,cap,cur,q1,q2,q3,q4⟩
 ·exact Or.inl q
 ·refine Or.inr ⟨g,cap,cur,q1,q2,(hO.block g (get_lt q3) (fun hs=>(hS g hs).2 ((h5 g).2 (Or.inr (Or.inr (Or.inr (Or.inr (Or.inr ?_)))))))).trans q3,q4⟩
  rw [q1]
  rfl
theorem OBase.on (hI:OBase w KT l D tB oB pB aB tb bs rec K at0 left parts W)(hrec:∀ st pe,({ rec .ready none with state:=st,pending:=pe }:Loop)=rec st pe){Wn:World}{at1 left1:Int}{parts1:List MPart}
  (hl:Wn.heap[l]? = some (.loop { rec .ready none with state:=.busy })) (hO:Only K W Wn) (hD:Wn.heap[D]? = some (.deferred (some []))) (hov:Wn.rowIs oB 3 1 (fun _=>.int .i64 left1)) (hat:Wn.rowIs aB 3 1 (fun _=>.int .i64 at1))
  (hown:∃ (x:Option Addr) (y:Nat),Wn.rowIs pB 78 1 (fun _=>.slice x parts1.length y)∧Wn.ownsRow bs 185 3 (.slice x parts1.length y) parts1.length (flatP parts1)∧∀ k,(Value.slice x parts1.length y).ownBlock=some k→K k∨W.heap.size≤k)
  (J:(Nat→Prop)→World→Prop) (hJ:∀ K' u,OBase w KT l D tB oB pB aB tb bs rec K' at1 left1 parts1 u→J K' u) (Sx:World→Prop) :
  ∃ v w',(Instr.endRound l none).run Tryz.prog Wn = .ok v w'∧Visited J Sx K W (.returned v) w':=by
 refine ⟨_,_,run_endRound none hl,?_⟩
 have hlt:=get_lt hl
 have hlow:=hI.low
 obtain ⟨x,y,g1,g2,g5⟩:=hown
 obtain ⟨x0,y0,_,k2,k5⟩:=hI.own
 have hKl:K l:=(k5 l).2 (Or.inl rfl)
 have hKt:¬ K tB:=fun h=>by
  rcases (k5 tB).1 h with h | h | h | h | h | h
  ·omega
  ·omega
  ·omega
  ·omega
  ·omega
  ·have:=(k2.lt _ h).1
   omega
 have hKb:¬ K tb:=fun h=>by
  rcases (k5 tb).1 h with h | h | h | h | h | h
  ·omega
  ·omega
  ·omega
  ·omega
  ·omega
  ·have:=(k2.lt _ h).1
   omega
 generalize hwn:Wn.putObj l _=w'
 have hOn:Only (fun k=>k=l) Wn w':=by
  rw [← hwn]
  exact Only.of_grown (grownBy_putObj' _ _ _) (fun k e=>by cases e;rfl)
 have hl':w'.heap[l]? = some (.loop (rec .ready none)):=by
  rw [← hwn]
  refine (World.putObj_heap_same hlt).trans ?_
  congr 2
  exact hrec .ready none
 clear hwn
 have hO2:Only K W w':=hO.trans (hOn.mono (fun k hk=>by subst hk;exact hKl))
 have hG:Grow K (fun k=>k=l∨k=D∨k=oB∨k=aB∨k=pB∨(Value.slice x parts1.length y).ownBlock=some k) W:=by
  intro k hk
  rcases hk with h | h | h | h | h | h
  ·exact Or.inl ((k5 k).2 (Or.inl h))
  ·exact Or.inl ((k5 k).2 (Or.inr (Or.inl h)))
  ·exact Or.inl ((k5 k).2 (Or.inr (Or.inr (Or.inl h))))
  ·exact Or.inl ((k5 k).2 (Or.inr (Or.inr (Or.inr (Or.inl h)))))
  ·exact Or.inl ((k5 k).2 (Or.inr (Or.inr (Or.inr (Or.inr (Or.inl h))))))
  ·exact g5 k h
 have hKD:K D:=(k5 D).2 (Or.inr (Or.inl rfl))
 refine ⟨true,rfl,hO2,fun _=>⟨_,hJ _ _ ?_,hG⟩,fun h=>by cases h⟩
 refine ⟨hI.below.trans (hO2.below hI.below.size (fun k hk e=>by have:=hI.low_own k e;omega)),hl',(hOn.block _ (get_lt hD) (by show ¬ D=l;omega)).trans hD,hO2.cell hI.t1 hKt,hO2.cell hI.t2 hKb,hov.of_block (hOn.block _ hov.lt (by show ¬ oB=l;omega)),hat.of_block (hOn.block _ hat.lt (by show ¬ aB=l;omega)),⟨x,y,g1.of_block (hOn.block _ g1.lt (by show ¬ pB=l;omega)),owns_only g2 hOn (fun k hk=>by omega),fun k=>Iff.rfl⟩,hlow⟩
theorem OBase.off (hI:OBase w KT l D tB oB pB aB tb bs rec K at0 left parts W)(hrec:∀ st pe,({ rec .ready none with state:=st,pending:=pe }:Loop)=rec st pe){Wn:World}
  (hl:Wn.heap[l]? = some (.loop { rec .ready none with state:=.busy })) (hO:Only K W Wn) (hD:Wn.heap[D]? = some (.deferred (some [])))
  (hown:∃ (x:Option Addr) (y:Nat),Wn.rowIs pB 78 1 (fun _=>.slice x parts.length y)∧Wn.ownsRow bs 185 3 (.slice x parts.length y) parts.length (flatP parts))
  (J:(Nat→Prop)→World→Prop):∃ v w',(Instr.endRound l (some (.exit 0))).run Tryz.prog Wn = .ok v w'∧Visited J (OStop w l D pB bs rec parts) K W (.returned v) w':=by
 refine ⟨_,_,run_endRound (some (.exit 0)) hl,?_⟩
 have hlt:=get_lt hl
 have hlow:=hI.low
 obtain ⟨x,y,g1,g2⟩:=hown
 obtain ⟨x0,y0,_,k2,k5⟩:=hI.own
 have hKl:K l:=(k5 l).2 (Or.inl rfl)
 generalize hwn:Wn.putObj l _=w'
 have hOn:Only (fun k=>k=l) Wn w':=by
  rw [← hwn]
  exact Only.of_grown (grownBy_putObj' _ _ _) (fun k e=>by cases e;rfl)
 have hl':w'.heap[l]? = some (.loop (rec .done (some (.exit 0)))):=by
  rw [← hwn]
  refine (World.putObj_heap_same hlt).trans ?_
  congr 2
  exact hrec .done (some (.exit 0))
 clear hwn
 have hO2:Only K W w':=hO.trans (hOn.mono (fun k hk=>by subst hk;exact hKl))
 exact ⟨false,rfl,hO2,(fun h=>by cases h),fun _=>⟨hI.below.trans (hO2.below hI.below.size (fun k hk e=>by have:=hI.low_own k e;omega)),⟨_,hl',rfl⟩,(hOn.block _ (get_lt hD) (by show ¬ D=l;omega)).trans hD,⟨x,y,g1.of_block (hOn.block _ g1.lt (by show ¬ pB=l;omega)),owns_only g2 hOn (fun k hk=>by omega)⟩,by omega⟩⟩
end
theorem wpList_append_sharp {P:Program}(w:World){ops:Array Oper}{rest:List Oper}{o:Oper}{a:Act}{Q:Exit→Act→World→Prop}
  (hg:o.guard=none) (s x:Operand) (t:TypeId) (hop:o.op=Op.call { callee:=Callee.builtin Builtin.append,args:=#[s,x],argTypes:=#[t,t] })
  (base:Nat) (e:TypeId) (z:Value) (size bytes:Nat) (h1:P.underlying t=some (.slice e)) (hi:(P.info? e).map (fun i=>(i.zero,i.size,i.bytes))=some (some z,size,bytes)) (h6:z.cells.size=size) (h7:0<size)
  (v:Value) (k:Nat) (xs:List Value) (hs:a.eval s=v) (hown:w.ownsRow base e size v k xs) (ad:Addr) (c:Nat) (news:List Value) (hx:a.eval x = .slice (some ad) 1 c) (hn:news.length=size)
  (hc:∀ j u,news[j]? = some u→w.cell? (ad.add j)=some u) (h1c:∀ u ∈ news,u.oneCell'=true) (b1:k+1≤maxLen) (b2:(k+1)*bytes≤140737488355328) (b3:base≤w.heap.size)
  (hK:∀ x' y' w',w'.ownsRow base e size (.slice x' (k+1) y') (k+1) (xs++news)→w.grownBy w' v.ownBlock→(∀ b,(Value.slice x' (k+1) y').ownBlock=some b→v.ownBlock=some b∨w.heap.size≤b)→wpList P ops Q rest (a.put o.dst (.slice x' (k+1) y')) w') :
  wpList P ops Q (o::rest) a w:=by
 refine wpList_plain hg fun K hK'=>?_
 obtain ⟨i,h2,h3,h4,h5⟩:=info_parts hi
 obtain ⟨v',w',hrun,r1,r2,r3⟩:=append_sharp (P:=P) w base t o.type e i z size bytes h1 h2 h3 h4 h5 h6 h7 v k xs hown ad 1 c news (by omega) hc h1c b1 b2 b3
 obtain ⟨x',y',e1,_⟩:=owns_shape r1
 subst e1
 unfold Oper.wp execOp
 simp only [hop,resolve,invoke,builtin,Sem.run_bind,Sem.run_pure,Result.andThen_ok,List.map_toArray,List.map_cons,List.map_nil,hs,hx,hrun]
 exact hK' _ _ (hK x' y' w' r1 r2 r3)
theorem news3 {u:World}{g:Nat}{a b c:Value}(c0:u.cell? ⟨g,0,none⟩=some a)(c1:u.cell? ⟨g,1,none⟩=some b)(c2:u.cell? ⟨g,2,none⟩=some c):∀ (j:Nat) (v:Value),[a,b,c][j]? = some v→u.cell? ((⟨g,0,none⟩:Addr).add j)=some v:=by
 intro j v hv
 rw [addr_at,Nat.zero_add]
 match j with
 | 0=>simp at hv;rw [← hv];exact c0
 | 1=>simp at hv;rw [← hv];exact c1
 | 2=>simp at hv;rw [← hv];exact c2
 | j+3=>simp at hv
theorem at_end {KT:Nat}{pa ja sa:Option Addr}{pc jc sc:Nat}{ps:List MPiece}{js:List MJoint}{ss:List MPiece}{u:World}(h:TNet u KT pa ja sa pc jc sc ps js ss){e:MEnd}(hv:ValidE ps e):Calls Tryz.prog 173 #[.pointer (some ⟨KT,0,none⟩),.agg #[.int .i64 e.piece,.int .i64 e.side]] u fun r w'=>r = .returned (.int .i64 (endAt ps e))∧Below u.heap.size u w':=by
 obtain ⟨x,hx,e1,e2⟩:=hv
 obtain ⟨ep,es⟩:=e
 simp only at e1
 subst e1
 exact at_any KT pa ja sa pc jc sc ps js ss x es u h hx
def OJ (w:World)(KT l D tB oB pB aB tb bs:Nat)(rec:LoopState→Option Code→Loop)(ps:List MPiece)(js:List MJoint)(tot:List MPart)(n:Nat)(s:MStep)(K:Nat→Prop)(u:World):Prop := ∃ at0 left parts,OBase w KT l D tB oB pB aB tb bs rec K at0 left parts u∧JMath ps js tot n s at0 left parts
def ON (w:World)(KT l D tB oB pB aB tb bs:Nat)(rec:LoopState→Option Code→Loop)(ps:List MPiece)(js:List MJoint)(tot:List MPart)(n:Nat)(s:MStep)(K:Nat→Prop)(u:World):Prop := ∃ at0 left parts,OBase w KT l D tB oB pB aB tb bs rec K at0 left parts u∧NMath ps js tot n s left parts∧0≤at0∧at0≤10000000
theorem overOf_any (KT M:Nat)(pa ja sa:Option Addr)(pc jc sc:Nat)(ps:List MPiece)(js:List MJoint)(ss:List MPiece)(R:Hid (Right ps js ss))(i:Nat)(hi:i<ss.length)(over:Int)(h0:0≤over)(h1:over≤100000)(w:World)(hT:Hid (TTrack w KT M pa ja sa pc jc sc ps js ss)):
  Calls Tryz.prog 142 #[.pointer (some ⟨KT,0,none⟩),.int .i64 (i:Int),.int .i64 over] w fun e w' => ∃ x y,e = .returned (.slice x (overF ps js ss i over).length y)∧w'.ownsRow w.heap.size 185 3 (.slice x (overF ps js ss i over).length y) (overF ps js ss i over).length (flatP (overF ps js ss i over))∧Below w.heap.size w w':=by
 have HJB:=hidP (JMath.begin (js:=js) R.out hi h0 h1)
 generalize overF ps js ss i over=tot at HJB ⊢
 have c2:=hT.out.net.c2
 have hK:=cellLt c2
 dsimp only at hK
 obtain ⟨bs,os,rfl,hpcs⟩:=hT.out.net.S.2.2.resolve_left (nz hi)
 obtain ⟨s0,s1,s2,s3⟩:=hpcs i hi
 have hzs:=cellLt s0
 dsimp only at hzs
 have hii:(i:Int)<ss.length:=by omega
 generalize ss[i]=sg at s0 s1 s2 s3 HJB
 have HPS:Hid (∀ u:World,Calls Tryz.prog 177 #[.pointer (some ⟨KT,0,none⟩),.agg #[.int .i64 sg.len,.int .i64 sg.brake]] u fun e w'=>e = .returned (.func (.func 194) #[] #[.pointer (some ⟨u.heap.size+1,0,none⟩),.pointer (some ⟨u.heap.size,0,none⟩)]) ∧
   w'.cell? ⟨u.heap.size,0,none⟩=some (.pointer (some ⟨KT,0,none⟩))∧w'.cell? ⟨u.heap.size+1,0,none⟩=some (.int .i64 sg.len)∧w'.cell? ⟨u.heap.size+1,1,none⟩=some (.int .i64 sg.brake)∧Below u.heap.size u w'):=fun u=>plainSteps_any KT ⟨sg.len,sg.brake⟩ u
 clear hpcs
 refine (callsIn_wide (n:=0)).1 (callsIn_of_wp_marks Tryz.func142 rfl trivial ?_)
 simp only [Tryz.ntmps142,List.size_toArray,List.length_cons,List.length_nil,Nat.reduceAdd,Nat.reduceSub,Array.replicate_succ,Array.replicate_zero,List.push_toArray,List.append_toArray,List.nil_append,List.cons_append]
 refine wpIn_wide.2 ?_
 have hi0:¬ (i:Int)<0:=by omega
 go_upto_region 4 with fail
 generalize hW:World.alloc (World.alloc (World.alloc w _) _) _=W
 have hbW:Below w.heap.size w W:=by rw [← hW];exact blo
 have x0:W.cell? ⟨w.heap.size,0,none⟩=some (.pointer (some ⟨KT,0,none⟩)):=by rw [← hW];simp [go_sem]
 have hz:W.heap.size=w.heap.size+1+1+1:=by rw [← hW];simp
 have HOv:Hid (W.rowIs (w.heap.size+1) 3 1 (fun _=>.int .i64 over)):=by
  unfold Hid
  rw [← hW]
  have:=World.rowIs_alloc (w.alloc (Obj.cells #[Value.pointer (some ⟨KT,0,none⟩)] 207)) #[.int .i64 over] 3 (fun _=>.int .i64 over) (by intro i hi;have hi':i<1:=hi;match i,hi' with | 0,_=>rfl)
  simpa using this.alloc (Obj.cells #[Value.slice none 0 0] 78)
 have HPa:Hid (W.rowIs (w.heap.size+1+1) 78 1 (fun _=>.slice none 0 0)):=by
  unfold Hid
  rw [← hW]
  have:=World.rowIs_alloc ((w.alloc (Obj.cells #[Value.pointer (some ⟨KT,0,none⟩)] 207)).alloc (Obj.cells #[Value.int .i64 over] 3)) #[.slice none 0 0] 78 (fun _=>.slice none 0 0) (by intro i hi;have hi':i<1:=hi;match i,hi' with | 0,_=>rfl)
  simpa using this
 clear hW
 replace c2:=cell_later hbW c2
 replace s0:=cell_later hbW s0
 replace s1:=cell_later hbW s1
 replace s2:=cell_later hbW s2
 replace s3:=cell_later hbW s3
 have hzs2:=cellLt s0
 have hzc:=cellLt c2
 dsimp only at hzs2 hzc
 have HBW:=hidP hbW
 have HZ:=hidP hz
 have hzx:w.heap.size<W.heap.size:=by omega
 clear hbW hz hzs hK
 go_upto_region 6 with fail
 generalize hV:World.alloc (World.alloc W _) _=V
 have hbV:Below W.heap.size W V:=by rw [← hV];exact blo
 have g1:V.cell? ⟨W.heap.size,1,none⟩=some (.int .i64 sg.len):=by rw [← hV];simp [go_sem]
 have g3:V.cell? ⟨W.heap.size,3,none⟩=some (.int .i64 sg.brake):=by rw [← hV];simp [go_sem]
 have hzv:V.heap.size=W.heap.size+1+1:=by rw [← hV];simp
 have HAt:Hid (V.rowIs (W.heap.size+1) 3 1 (fun _=>.int .i64 sg.speed)):=by
  unfold Hid
  rw [← hV]
  have:=World.rowIs_alloc (W.alloc (Obj.cells #[Value.string sg.name,.int .i64 sg.len,.int .i64 sg.speed,.int .i64 sg.brake] 84)) #[.int .i64 sg.speed] 3 (fun _=>.int .i64 sg.speed) (by intro i hi;have hi':i<1:=hi;match i,hi' with | 0,_=>rfl)
  simpa using this
 clear hV
 replace x0:=cell_later hbV x0
 have HBV:=hidP hbV
 have HZV:=hidP hzv
 have hzv1:W.heap.size<V.heap.size:=by omega
 have hzv2:w.heap.size<V.heap.size:=by omega
 clear hbV c2 s0 s1 s2 s3 hzs2 hzc hzx hzv
 go_wp2_with (go_at_call 177;refine (HPS.out _).mono ?_;rintro e w2 ⟨rfl,t0,fr0,fr1,hb2⟩)
 have hb2V:Below w.heap.size w w2:=HBW.out.trans ((HBV.out.trans (hb2.mono HBV.out.size)).mono HBW.out.size)
 have hbW2:Below W.heap.size W w2:=HBV.out.trans (hb2.mono HBV.out.size)
 have hzf:=cellLt fr1
 dsimp only at hzf
 have HOv2:=hidP (HOv.out.of_block (hbW2.block _ HOv.out.lt))
 have HPa2:=hidP (HPa.out.of_block (hbW2.block _ HPa.out.lt))
 have HAt2:=hidP (HAt.out.of_block (hb2.block _ HAt.out.lt))
 have X0:=hidP (cell_later hb2 x0)
 have T0:=hidP t0
 have F0:=hidP fr0
 have F1:=hidP fr1
 have HB2:=hidP hb2V
 have HZ2:Hid (W.heap.size=w.heap.size+1+1+1∧V.heap.size=W.heap.size+1+1∧V.heap.size+1<w2.heap.size):=⟨HZ.out,HZV.out,hzf⟩
 clear hb2V hbW2 HOv HPa HAt x0 t0 fr0 fr1 hb2 g1 g3 hzv1 hzv2 hzf HPS
 refine (wpIn_wide (n:=0)).1 (range_law_cap 194 #[.pointer (some ⟨V.heap.size+1,0,none⟩),.pointer (some ⟨V.heap.size,0,none⟩)] rfl (fun args u=>by kernel_rfl) ?_)
 intro fn rec hrec
 generalize hW1:(w2.alloc (.deferred (some []))).alloc (.loop (rec .ready none))=W1
 have hb1:Below w2.heap.size w2 W1:=by rw [← hW1];exact blo
 have hL1:W1.heap[w2.heap.size+1]? = some (.loop (rec .ready none)):=by
  rw [← hW1]
  have:=World.alloc_heap_new (w2.alloc (.deferred (some []))) (.loop (rec .ready none))
  rwa [World.size_alloc] at this
 have hD1:W1.heap[w2.heap.size]? = some (.deferred (some [])):=by
  rw [← hW1]
  exact (Below.heap_alloc _ _ _ (by simp)).trans (World.alloc_heap_new w2 _)
 have hz1:W1.heap.size=w2.heap.size+2:=by rw [← hW1];simp
 clear hW1
 have hzz:=HZ2.out
 have HI0:Hid (OJ w KT (w2.heap.size+1) w2.heap.size w.heap.size (w.heap.size+1) (w.heap.size+1+1) (W.heap.size+1) V.heap.size (w2.heap.size+2) rec ps js tot (over.toNat+1) ⟨sg.len,sg.brake⟩ (fun k=>k=w2.heap.size+1∨k=w2.heap.size∨k=w.heap.size+1∨k=W.heap.size+1∨k=w.heap.size+1+1) W1):=by
  refine ⟨sg.speed,over,[],⟨HB2.out.trans (hb1.mono HB2.out.size),hL1,hD1,cell_later hb1 X0.out,cell_later hb1 T0.out,HOv2.out.of_block (hb1.block _ HOv2.out.lt),HAt2.out.of_block (hb1.block _ HAt2.out.lt),⟨none,0,HPa2.out.of_block (hb1.block _ HPa2.out.lt),⟨rfl,Or.inl ⟨rfl,rfl⟩⟩,fun k=>by simp [Value.ownBlock]⟩,by omega⟩,HJB.out⟩
 have HY:Hid (∀ n s K W2,OJ w KT (w2.heap.size+1) w2.heap.size w.heap.size (w.heap.size+1) (w.heap.size+1+1) (W.heap.size+1) V.heap.size (w2.heap.size+2) rec ps js tot n s K W2→YieldAt Fence.wide 0 Tryz.prog (w2.heap.size+1) #[endV s] W2 (Visited (fun K' u => ∃ m,m<n∧ON w KT (w2.heap.size+1) w2.heap.size w.heap.size (w.heap.size+1) (w.heap.size+1+1) (W.heap.size+1) V.heap.size (w2.heap.size+2) rec ps js tot m s K' u) (OStop w (w2.heap.size+1) w2.heap.size (w.heap.size+1+1) (w2.heap.size+2) rec tot) K W2)):=by
  intro n s K W2 hJ
  obtain ⟨at0,left,parts,hI,hM⟩:=hJ
  have hy:=run_yield (P:=Tryz.prog) (args:=#[endV s]) hI.loop (by rw [hrec];rfl)
  rw [hrec] at hy
  refine ⟨_,_,_,_,hy,roundIn_of_wpIn trivial ?_⟩
  clear hy
  have HI:=hidP hI
  have HM:=hidP hM
  have HREC:Hid (∀ st pe,({ rec .ready none with state:=st,pending:=pe }:Loop)=rec st pe):=by
   unfold Hid
   rw [hrec]
   intro st pe
   rfl
  have HRS:Hid ((rec .ready none).state = .ready):=by unfold Hid;rw [hrec]
  have HZ3:=hidP hzz
  clear hI hM HI0 hrec hzz hz1 hb1 hL1 hD1 hi0
  unfold endV
  dsimp only
  have ht:∀ (T:Array Value) (v:Value),((#[30]:Array Tmp).zip #[v]).foldl (fun tmps (x:Tmp × Value)=>tmps.setIfInBounds x.1 x.2) T=T.setIfInBounds 30 v:=fun T v=>by simp
  rw [ht]
  clear ht
  have hsa:∀ (ρ:Operand→Value) (o:Oper),(∀ c,o.op≠.defer c)→Oper.semAt (some (w2.heap.size+1)) ρ o=execOp ρ o:=fun ρ o h=>Oper.semAt_some _ ρ o h
  gi_wp2_with fail
  have hbx:Below W2.heap.size W2 (W2.alloc (Obj.cells #[Value.int .i64 s.piece,.int .i64 s.side] 166)):=(Below.refl _ _).alloc (Nat.le_refl _) _
  refine ⟨_,run_beginRound ((hbx.block _ (get_lt HI.out.loop)).trans HI.out.loop) HRS.out,?_⟩
  generalize hU:World.putObj (World.alloc W2 _) _ _=U
  have hlt:=get_lt HI.out.loop
  have hlow:=HI.out.low
  obtain ⟨x,y,k1,k2,k5⟩:=HI.out.own
  have hOU:Only (fun k=>k=w2.heap.size+1) W2 U:=by
   rw [← hU]
   exact (Only.of_below hbx).trans (Only.of_grown (grownBy_putObj' _ _ _) (fun k e=>by cases e;rfl))
  have hlU:U.heap[w2.heap.size+1]? = some (.loop { rec .ready none with state:=.busy }):=by
   rw [← hU]
   exact World.putObj_heap_same (by simp;omega)
  have hX:U.rowIs W2.heap.size 166 2 (fun i:Nat=>(#[Value.int .i64 s.piece,.int .i64 s.side]:Array Value).getD i (.bool false)):=by
   refine (row_of_alloc2 W2 #[.int .i64 s.piece,.int .i64 s.side] 166).of_block ?_
   rw [← hU]
   exact World.putObj_heap_other (by omega)
  have e0:U.cell? ⟨W2.heap.size,0,none⟩=some (.int .i64 s.piece):=hX.cell (i:=0) (by omega)
  have e1:U.cell? ⟨W2.heap.size,1,none⟩=some (.int .i64 s.side):=hX.cell (i:=1) (by omega)
  have t0:U.cell? ⟨w.heap.size,0,none⟩=some (.pointer (some ⟨KT,0,none⟩)):=hOU.cell HI.out.t1 (by show ¬ w.heap.size=w2.heap.size+1;omega)
  have hO:=HI.out.over.of_block (hOU.block _ HI.out.over.lt (by show ¬ w.heap.size+1=w2.heap.size+1;omega))
  have hA:=HI.out.at_.of_block (hOU.block _ HI.out.at_.lt (by show ¬ W.heap.size+1=w2.heap.size+1;omega))
  have hP:=k1.of_block (hOU.block _ k1.lt (by show ¬ w.heap.size+1+1=w2.heap.size+1;omega))
  have hD:=(hOU.block _ (get_lt HI.out.dfr) (by show ¬ w2.heap.size=w2.heap.size+1;omega)).trans HI.out.dfr
  have hOw:=owns_only k2 hOU (fun k hk=>by omega)
  have hKl:K (w2.heap.size+1):=(k5 _).2 (Or.inl rfl)
  have HKO:Hid (K (w.heap.size+1)):=(k5 _).2 (Or.inr (Or.inr (Or.inl rfl)))
  have HKA:Hid (K (W.heap.size+1)):=(k5 _).2 (Or.inr (Or.inr (Or.inr (Or.inl rfl))))
  have HKP:Hid (K (w.heap.size+1+1)):=(k5 _).2 (Or.inr (Or.inr (Or.inr (Or.inr (Or.inl rfl)))))
  have HKX:Hid (∀ k,(Value.slice x parts.length y).ownBlock=some k→K k):=fun k hk=>(k5 k).2 (Or.inr (Or.inr (Or.inr (Or.inr (Or.inr hk)))))
  have HOK:Hid (Only K W2 U):=hOU.mono (fun k hk=>by subst hk;exact hKl)
  have o0:=hO.cell (i:=0) (by omega)
  have a0:=hA.cell (i:=0) (by omega)
  have q0:=hP.cell (i:=0) (by omega)
  have hzX:W2.heap.size<U.heap.size:=hX.lt
  have hzO:=hO.lt
  have hzA:=hA.lt
  have hzP:=hP.lt
  have hzT:w.heap.size<U.heap.size:=by omega
  have HO:=hidP hO
  have HA:=hidP hA
  have HP:=hidP hP
  have HD:=hidP hD
  have HOw:=hidP hOw
  have HLU:=hidP hlU
  have HX:=hidP hX
  have HLW:=hidP hlow
  have HLT:=hidP hlt
  clear hU hbx k1 k2 k5 hX hO hA hP hD hOw hlU hOU hlow hlt hKl
  by_cases hl0:left=0
  ·have hlb:(left==0)=true:=by simp [hl0]
   have HPT:=hidP (HM.out.stop hl0)
   clear hl0
   gi_wp2_with fail
   rw [HPT.out]
   exact HI.out.off HREC.out HLU.out HOK.out HD.out ⟨x,y,HP.out,HOw.out⟩ _
  ·have hlb:(left==0)=false:=by simp [hl0]
   have HL0:=hidP hl0
   clear hl0
   have hva:=aheadE_valid HM.out.sv
   have hvf:ValidE ps (farE (aheadE s)):=farE_valid hva
   have HTB:Hid (∀ u:World,Below w.heap.size w u→TTrack u KT M pa ja (some ⟨bs,os,none⟩) pc jc sc ps js ss):=fun u hu=>hT.out.below hu
   have hKw:=HI.out.low_own
   have HBU:Hid (Below w.heap.size w U):=HI.out.below.trans (HOK.out.below HI.out.below.size (fun k hk e=>by have:=hKw k e;omega))
   have HAH:Hid (∀ u:World,Calls Tryz.prog 175 #[.agg #[.int .i64 s.piece,.int .i64 s.side]] u fun e w'=>e = .returned (.agg #[.int .i64 (aheadE s).piece,.int .i64 (aheadE s).side])∧Below u.heap.size u w'):=fun u=>ahead_any s.piece s.side u
   have HFE:Hid (∀ u:World,Calls Tryz.prog 174 #[.agg #[.int .i64 (aheadE s).piece,.int .i64 (aheadE s).side]] u fun e w'=>e = .returned (.agg #[.int .i64 (farE (aheadE s)).piece,.int .i64 (farE (aheadE s)).side])∧Below u.heap.size u w'):=fun u=>by
    obtain ⟨_,_,_,hsd⟩:=hva
    exact farEnd_any (aheadE s).piece (aheadE s).side u (by omega) (by omega)
   have HAT1:Hid (∀ u:World,Below w.heap.size w u→Calls Tryz.prog 173 #[.pointer (some ⟨KT,0,none⟩),.agg #[.int .i64 (aheadE s).piece,.int .i64 (aheadE s).side]] u fun e w'=>e = .returned (.int .i64 (endAt ps (aheadE s)))∧Below u.heap.size u w'):=fun u hu=>at_end (HTB.out u hu).net hva
   have HAT2:Hid (∀ u:World,Below w.heap.size w u→Calls Tryz.prog 173 #[.pointer (some ⟨KT,0,none⟩),.agg #[.int .i64 (farE (aheadE s)).piece,.int .i64 (farE (aheadE s)).side]] u fun e w'=>e = .returned (.int .i64 (endAt ps (farE (aheadE s))))∧Below u.heap.size u w'):=fun u hu=>at_end (HTB.out u hu).net hvf
   have HPOS:Hid (posF ps s at0 parts=if parts.length=0 then at0 else endAt ps (farE (aheadE s))):=rfl
   have HDF:Hid (distF ps s (posF ps s at0 parts)=(endAt ps (aheadE s)-posF ps s at0 parts)*s.side):=rfl
   have hr1:=endAt_range R.out hva
   have hE1:endAt ps (aheadE s)≤10000000:=by
    obtain ⟨q,hq,e1,_⟩:=hva
    have h2:=hr1.2
    rw [e1,lenI_at hq] at h2
    have h3:=(R.out.plen q hq).2
    omega
   have hE0:=hr1.1
   have hp0:=HM.out.p0
   have hp1:=HM.out.p1
   have hd0:=HM.out.d0
   have hd1:=HM.out.d1
   have hl0:=HM.out.l0
   have hlb2:left≤100000:=by have:=HM.out.lb;omega
   obtain ⟨L,hL⟩:∃ L,L=min left (distF ps s (posF ps s at0 parts)):=⟨_,rfl⟩
   have HST:=hidP (HM.out.step HL0.out hL)
   have HSD:Hid (s.side=1∨s.side = -1):=by obtain ⟨_,_,_,h⟩:=HM.out.sv;exact h
   have HLL:=hidP hL
   have hpl2:parts.length≤100000:=by have:=HM.out.lb;omega
   have HN1:Hid (n-1<n):=by unfold Hid;have:=HM.out.ln;omega
   have HA0:=hidP HM.out.a0
   generalize hpg:posF ps s at0 parts=pos at HPOS HDF hp0 hp1 hd0 hd1 HST HLL
   generalize hdg:distF ps s pos=dd at HDF hd0 hd1 HLL
   generalize endAt ps (aheadE s)=E at HAT1 HDF hE0 hE1
   generalize endAt ps (farE (aheadE s))=F at HAT2 HPOS
   generalize farE (aheadE s)=fa at HFE HAT2
   generalize aheadE s=ah at HAH HFE HAT1
   clear hva hvf hr1 hL hpg hdg
   by_cases hpz:parts.length=0
   ·have hpn:¬ (0:Int)<(parts.length:Int):=by omega
    have hap:at0=pos:=by rw [HPOS.out,if_pos hpz]
    clear hpz
    gi_wp2_with fail
    rw [hap] at a0 HA
    clear hap HAT2 HFE
    obtain ⟨S,hS⟩:∃ S:World→Prop,∀ u,S u↔Below U.heap.size U u:=⟨_,fun _=>Iff.rfl⟩
    have HS0:=hidP hS
    have r0:∀ u:Held S,World.cell? u.val ⟨w.heap.size,0,none⟩=some (.pointer (some ⟨KT,0,none⟩)):=fun u=>cell_later ((hS u.val).1 u.2) t0
    have r1:∀ u:Held S,World.cell? u.val ⟨W2.heap.size,0,none⟩=some (.int .i64 s.piece):=fun u=>cell_later ((hS u.val).1 u.2) e0
    have r2:∀ u:Held S,World.cell? u.val ⟨W2.heap.size,1,none⟩=some (.int .i64 s.side):=fun u=>cell_later ((hS u.val).1 u.2) e1
    have r3:∀ u:Held S,World.cell? u.val ⟨w.heap.size+1,0,none⟩=some (.int .i64 left):=fun u=>cell_later ((hS u.val).1 u.2) o0
    have r4:∀ u:Held S,World.cell? u.val ⟨W.heap.size+1,0,none⟩=some (.int .i64 pos):=fun u=>cell_later ((hS u.val).1 u.2) a0
    have hS1:S U.drew:=(hS _).2 ((Below.refl _ _).drew)
    have hne:=held_ne hS1
    have hdd:(E-pos)*s.side=dd:=HDF.out.symm
    clear hS
    refine wpIn_region_tree (fun w' => ∃ u:Held S,w'=u.val) 10 (by kernel_rfl) (by rintro ⟨a,w,h⟩;exact h) (by kernel_rfl) (by kernel_rfl) (held_some hS1) ?_
    (refine wpT_sea 0 ?_;intro K hK;go_big_quiet_op;go_big_quiet_on);(refine wpT_sea 1 ?_;intro K hK;go_big_quiet_op;go_big_quiet_on);(refine wpT_sea 2 ?_;intro K hK;go_big_quiet_op;go_big_quiet_on)
    (refine wpT_sea 5 ?_;intro K hK;go_big_quiet_op;go_big_quiet_on)
    (refine wpT_sea 7 ?_;intro K hK;go_big_quiet_op;go_big_quiet_on);(refine wpT_sea 8 ?_;intro K hK;go_big_quiet_op;go_big_quiet_on)
    refine wpT_loud 3 (by rfl) (by kernel_rfl) (by kernel_rfl) ?_
    intro KK hK
    go_wp2_with (go_at_call 175;refine (HAH.out _).mono ?_;rintro e v2 ⟨rfl,hb2'⟩)
    have hb2:Below U.heap.size U v2:=(Below.refl _ _).drew.trans hb2'
    refine hK _ _ (held_some ((HS0.out _).2 hb2)) ?_
    clear hK KK hb2'
    refine wpT_loud 4 (by rfl) (by kernel_rfl) (by kernel_rfl) ?_
    intro KK hK
    go_wp2_with (go_at_call 173;refine (HAT1.out _ (HBU.out.trans (hb2.mono HBU.out.size))).mono ?_;rintro e v3 ⟨rfl,hb3'⟩)
    have hb3:Below U.heap.size U v3:=hb2.trans (hb3'.mono hb2.size)
    refine hK _ _ (held_some ((HS0.out _).2 hb3)) ?_
    clear hK KK hb3'
    (refine wpT_sea 6 ?_;intro K hK;go_big_quiet_op;go_big_quiet_on)
    (refine wpT_sea 9 ?_;intro K hK;go_big_quiet_op;go_big_quiet_on)
    clear r0 r1 r2 r3 r4 hS1 hne hb2
    have HB3:=hidP hb3
    clear hb3
    refine wpT_done (by kernel_rfl) ?_
    have hmn:(if dd<left then dd else left)=L:=by rw [HLL.out];split <;> omega
    go_wp2_with fail
    clear hmn hdd
    replace HB3:Hid (Below U.heap.size U v3):=HB3
    have hlow:=HLW.out
    replace t0:=cell_later HB3.out t0
    replace e0:=cell_later HB3.out e0
    replace e1:=cell_later HB3.out e1
    replace o0:=cell_later HB3.out o0
    replace a0:=cell_later HB3.out a0
    replace q0:=cell_later HB3.out q0
    replace HO:=hidP (HO.out.of_block (HB3.out.block _ HO.out.lt))
    replace HA:=hidP (HA.out.of_block (HB3.out.block _ HA.out.lt))
    replace HP:=hidP (HP.out.of_block (HB3.out.block _ HP.out.lt))
    replace HD:=hidP ((HB3.out.block _ (get_lt HD.out)).trans HD.out)
    replace HLU:=hidP ((HB3.out.block _ (get_lt HLU.out)).trans HLU.out)
    replace HOw:=hidP (owns_below HOw.out HB3.out)
    replace HOK:Hid (Only K W2 v3):=HOK.out.trans (Only.of_below HB3.out)
    have hzW2:=HOK.out.size
    have hbl:=HLT.out
    have hm1:Hid (L*s.side=L∨L*s.side = - L):=by unfold Hid;rcases HSD.out with h | h <;> rw [h] <;> omega
    obtain ⟨mm,hmm⟩:∃ mm,L*s.side=mm:=⟨_,rfl⟩
    have HMM:=hidP hmm
    rw [hmm] at hm1
    have hL0:1≤L∧L≤left∧L≤dd:=by rw [HLL.out];have:=HL0.out;omega
    have hmb : -10000000≤mm∧mm≤10000000:=by have:=hm1.out;omega
    have hmb1:=hmb.1
    have hmb2:=hmb.2
    have hLa:=hL0.1
    have hLb:=hL0.2.1
    have HPO:Hid (∀ u:World,Calls Tryz.prog 176 #[.int .i64 s.piece,.int .i64 pos,.int .i64 (pos+mm)] u fun e w'=>e = .returned (.agg #[.int .i64 (partI s.piece pos (pos+mm)).piece,.int .i64 (partI s.piece pos (pos+mm)).lo,.int .i64 (partI s.piece pos (pos+mm)).hi])∧Below u.heap.size u w'):=fun u=>partOf_any s.piece pos (pos+mm) u
    have HST2:Hid (NMath ps js tot (n-1) s (left-L) (parts++[partI s.piece pos (pos+mm)])):=by
     unfold Hid
     rw [← HMM.out]
     exact HST.out
    generalize partI s.piece pos (pos+mm)=pt at HPO HST2
    replace hzX:=cellLt e0
    replace hzO:=HO.out.lt
    replace hzA:=HA.out.lt
    replace hzP:=HP.out.lt
    replace hzT:=cellLt t0
    dsimp only at hzX hzT
    clear hL0 hmb hlow HB3 HS0 hmm HSD HST HDF
    have hmm:=HMM.out
    gi_wp2_with fail
    obtain ⟨S,hS⟩:∃ S:World→Prop,∀ u,S u↔Below v3.heap.size v3 u:=⟨_,fun _=>Iff.rfl⟩
    have HS0:=hidP hS
    have r1:∀ u:Held S,World.cell? u.val ⟨W2.heap.size,0,none⟩=some (.int .i64 s.piece):=fun u=>cell_later ((hS u.val).1 u.2) e0
    have r2:∀ u:Held S,World.cell? u.val ⟨W2.heap.size,1,none⟩=some (.int .i64 s.side):=fun u=>cell_later ((hS u.val).1 u.2) e1
    have r3:∀ u:Held S,World.cell? u.val ⟨w.heap.size+1+1,0,none⟩=some (.slice x parts.length y):=fun u=>cell_later ((hS u.val).1 u.2) q0
    have r4:∀ u:Held S,World.cell? u.val ⟨W.heap.size+1,0,none⟩=some (.int .i64 pos):=fun u=>cell_later ((hS u.val).1 u.2) a0
    have hS1:S v3.drew:=(hS _).2 ((Below.refl _ _).drew)
    have hne:=held_ne hS1
    clear hS
    refine wpIn_region_tree (fun w' => ∃ u:Held S,w'=u.val) 12 (by kernel_rfl) (by rintro ⟨a,w,h⟩;exact h) (by kernel_rfl) (by kernel_rfl) (held_some hS1) ?_
    (refine wpT_sea 0 ?_;intro K hK;go_big_quiet_op;go_big_quiet_on);(refine wpT_sea 1 ?_;intro K hK;go_big_quiet_op;go_big_quiet_on);(refine wpT_sea 2 ?_;intro K hK;go_big_quiet_op;go_big_quiet_on);(refine wpT_sea 3 ?_;intro K hK;go_big_quiet_op;go_big_quiet_on);(refine wpT_sea 4 ?_;intro K hK;go_big_quiet_op;go_big_quiet_on);(refine wpT_sea 5 ?_;intro K hK;go_big_quiet_op;go_big_quiet_on);(refine wpT_sea 6 ?_;intro K hK;go_big_quiet_op;go_big_quiet_on);(refine wpT_sea 7 ?_;intro K hK;go_big_quiet_op;go_big_quiet_on);(refine wpT_sea 8 ?_;intro K hK;go_big_quiet_op;go_big_quiet_on);(refine wpT_sea 9 ?_;intro K hK;go_big_quiet_op;go_big_quiet_on)
    refine wpT_loud 10 (by rfl) (by kernel_rfl) (by kernel_rfl) ?_
    intro KK hK
    go_wp2_with (go_at_call 176;refine (HPO.out _).mono ?_;rintro e v4 ⟨rfl,hb4'⟩)
    have hb4:Below v3.heap.size v3 v4:=(Below.refl _ _).drew.trans hb4'
    refine hK _ _ (held_some ((HS0.out _).2 hb4)) ?_
    clear hK KK hb4'
    refine wpT_loud 11 (by rfl) (by kernel_rfl) (by kernel_rfl) ?_
    intro KK hK
    go_wp2_with fail
    generalize hV5:World.alloc v4 _=V5
    have hb5':Below v4.heap.size v4 V5:=by rw [← hV5];exact (Below.refl _ _).alloc (Nat.le_refl _) _
    have hb5:Below v3.heap.size v3 V5:=hb4.trans (hb5'.mono hb4.size)
    have n0:V5.cell? ⟨v4.heap.size,0,none⟩=some (.int .i64 pt.piece):=by rw [← hV5];simp [go_sem]
    have n1:V5.cell? ⟨v4.heap.size,1,none⟩=some (.int .i64 pt.lo):=by rw [← hV5];simp [go_sem]
    have n2:V5.cell? ⟨v4.heap.size,2,none⟩=some (.int .i64 pt.hi):=by rw [← hV5];simp [go_sem]
    refine hK _ _ (held_some ((HS0.out _).2 hb5)) ?_
    clear hK KK hV5 hb5' hb4 r1 r2 r3 r4 hS1 hne
    have HN3:=hidP (news3 n0 n1 n2)
    clear n0 n1 n2
    have HB5:=hidP hb5
    have hz5:=hb5.size
    clear hb5
    have hlow:=HLW.out
    have HOw5:=hidP (owns_below HOw.out HB5.out)
    have HO5:=hidP (HO.out.of_block (HB5.out.block _ HO.out.lt))
    have HA5:=hidP (HA.out.of_block (HB5.out.block _ HA.out.lt))
    have HP5:=hidP (HP.out.of_block (HB5.out.block _ HP.out.lt))
    have HD5:=hidP ((HB5.out.block _ (get_lt HD.out)).trans HD.out)
    have HLU5:=hidP ((HB5.out.block _ (get_lt HLU.out)).trans HLU.out)
    have HOK5:Hid (Only K W2 V5):=HOK.out.trans (Only.of_below HB5.out)
    clear hlow HOw HO HA HP HD HLU HOK o0 a0 q0 t0 e0 e1
    refine wpT_done (by kernel_rfl) ?_
    show wpList Tryz.prog _ _ [_,_] _ _
    refine wpList_append_sharp _ rfl (.tmp 52) (.tmp 63) 78 rfl (w2.heap.size+2) 185 _ 3 24 Tryz.underlying78 Tryz.infoPart rfl (by decide) (.slice x parts.length y) parts.length (flatP parts) rfl HOw5.out ⟨v4.heap.size,0,none⟩ 1 [.int .i64 pt.piece,.int .i64 pt.lo,.int .i64 pt.hi] rfl rfl HN3.out (by simp [Value.oneCell']) (by unfold maxLen;omega) (by omega) (by omega) ?_
    intro x6 y6 w6 r1 r6 r7
    have hne6:∀ k,k<w2.heap.size+2→some k≠(Value.slice x parts.length y).ownBlock:=(fun k hk e=>by have h9:=(HOw5.out.lt k e.symm).1;omega)
    have hP6:=HP5.out.of_block (r6.block _ HP5.out.lt (hne6 _ (by have h9:=HLW.out;omega)))
    have p6:=hP6.cell (i:=0) (by omega)
    have pf6:=hP6.frozen 0
    have hzP6:=hP6.lt
    have HP6:=hidP hP6
    have HR1:=hidP r1
    have HR6:=hidP r6
    have HR7:=hidP r7
    have HNE:=hidP hne6
    clear hP6 r1 r6 r7 hne6
    go_wp2_with fail
    have hlow:=HLW.out
    have hO6:Only K W2 w6:=HOK5.out.trans (Only.of_grown HR6.out (fun k hk=>HKX.out k hk))
    have hl6:=(HR6.out.block _ (get_lt HLU5.out) (HNE.out _ (by omega))).trans HLU5.out
    have hD6:=(HR6.out.block _ (get_lt HD5.out) (HNE.out _ (by omega))).trans HD5.out
    have hov6:=HO5.out.of_block (HR6.out.block _ HO5.out.lt (HNE.out _ (by omega)))
    have hat6:=HA5.out.of_block (HR6.out.block _ HA5.out.lt (HNE.out _ (by omega)))
    have hl7:=(Below.heap_setCell w6 ⟨w.heap.size+1+1,0,none⟩ (.slice x6 (parts.length+1) y6) (w2.heap.size+1) (by show ¬ w2.heap.size+1=w.heap.size+1+1;omega)).trans hl6
    have hD7:=(Below.heap_setCell w6 ⟨w.heap.size+1+1,0,none⟩ (.slice x6 (parts.length+1) y6) w2.heap.size (by show ¬ w2.heap.size=w.heap.size+1+1;omega)).trans hD6
    have hO7:=hO6.setCell (p:=⟨w.heap.size+1+1,0,none⟩) (Or.inl HKP.out) (.slice x6 (parts.length+1) y6)
    have hov7:=hov6.setOther (a:=⟨w.heap.size+1+1,0,none⟩) (by show ¬ w.heap.size+1=w.heap.size+1+1;omega) (.slice x6 (parts.length+1) y6)
    have hat7:=hat6.setOther (a:=⟨w.heap.size+1+1,0,none⟩) (by show ¬ W.heap.size+1=w.heap.size+1+1;omega) (.slice x6 (parts.length+1) y6)
    have hP7:=row_one (HP6.out.set 0 (.slice x6 (parts.length+1) y6)) (v:=.slice x6 (parts.length+1) y6) (by simp)
    have ho7:=ownsRow_setCell_below HR1.out (a:=⟨w.heap.size+1+1,0,none⟩) (by show w.heap.size+1+1<w2.heap.size+2;omega) (.slice x6 (parts.length+1) y6)
    generalize w6.setCell ⟨w.heap.size+1+1,0,none⟩ (.slice x6 (parts.length+1) y6)=Z at hl7 hD7 hO7 hov7 hat7 hP7 ho7 ⊢
    have z0:=hov7.cell (i:=0) (by omega)
    have zf:=hov7.frozen 0
    have hzz:=hov7.lt
    have HOv7:=hidP (row_one (hov7.set 0 (.int .i64 (left-L))) (v:=.int .i64 (left-L)) (by simp))
    have HAt7:=hidP (hat7.setOther (a:=⟨w.heap.size+1,0,none⟩) (by show ¬ W.heap.size+1=w.heap.size+1;omega) (.int .i64 (left-L)))
    have HP7:=hidP (hP7.setOther (a:=⟨w.heap.size+1,0,none⟩) (by show ¬ w.heap.size+1+1=w.heap.size+1;omega) (.int .i64 (left-L)))
    have HO7:=hidP (hO7.setCell (p:=⟨w.heap.size+1,0,none⟩) (Or.inl HKO.out) (.int .i64 (left-L)))
    have HL7:=hidP ((Below.heap_setCell Z ⟨w.heap.size+1,0,none⟩ (.int .i64 (left-L)) (w2.heap.size+1) (by show ¬ w2.heap.size+1=w.heap.size+1;omega)).trans hl7)
    have HD7:=hidP ((Below.heap_setCell Z ⟨w.heap.size+1,0,none⟩ (.int .i64 (left-L)) w2.heap.size (by show ¬ w2.heap.size=w.heap.size+1;omega)).trans hD7)
    have HW7:=hidP (ownsRow_setCell_below ho7 (a:=⟨w.heap.size+1,0,none⟩) (by show w.heap.size+1<w2.heap.size+2;omega) (.int .i64 (left-L)))
    clear hO6 hl6 hD6 hov6 hat6 hl7 hD7 hO7 hov7 hat7 hP7 ho7 hlow p6 pf6 hmm
    gi_wp2_with fail
    have hxl:(parts++[pt]).length=parts.length+1:=by simp
    refine HI.out.on HREC.out (parts1:=parts++[pt]) HL7.out HO7.out HD7.out HOv7.out HAt7.out ⟨x6,y6,by rw [hxl];exact HP7.out,by rw [hxl,← flatP_push];exact HW7.out,fun k hk=>?_⟩ _ (fun K' u hu=>⟨n-1,HN1.out,pos,left-L,parts++[pt],hu,HST2.out,by omega,by omega⟩) _
    rw [hxl] at hk
    rcases HR7.out k hk with h | h
    ·exact Or.inl (HKX.out k h)
    ·exact Or.inr (Nat.le_trans HOK5.out.size h)
   ·have hpn:(0:Int)<(parts.length:Int):=by omega
    have HAP:Hid (F=pos):=by unfold Hid;rw [HPOS.out,if_neg hpz]
    clear hpz
    gi_wp2_with fail
    obtain ⟨S,hS⟩:∃ S:World→Prop,∀ u,S u↔Below U.heap.size U u:=⟨_,fun _=>Iff.rfl⟩
    have HS0:=hidP hS
    have r0:∀ u:Held S,World.cell? u.val ⟨w.heap.size,0,none⟩=some (.pointer (some ⟨KT,0,none⟩)):=fun u=>cell_later ((hS u.val).1 u.2) t0
    have r1:∀ u:Held S,World.cell? u.val ⟨W2.heap.size,0,none⟩=some (.int .i64 s.piece):=fun u=>cell_later ((hS u.val).1 u.2) e0
    have r2:∀ u:Held S,World.cell? u.val ⟨W2.heap.size,1,none⟩=some (.int .i64 s.side):=fun u=>cell_later ((hS u.val).1 u.2) e1
    have hS1:S U.drew:=(hS _).2 ((Below.refl _ _).drew)
    have hne:=held_ne hS1
    clear hS
    refine wpIn_region_tree (fun w' => ∃ u:Held S,w'=u.val) 4 (by kernel_rfl) (by rintro ⟨a,w,h⟩;exact h) (by kernel_rfl) (by kernel_rfl) (held_some hS1) ?_
    (refine wpT_sea 0 ?_;intro K hK;go_big_quiet_op;go_big_quiet_on);(refine wpT_sea 1 ?_;intro K hK;go_big_quiet_op;go_big_quiet_on)
    refine wpT_loud 2 (by rfl) (by kernel_rfl) (by kernel_rfl) ?_
    intro KK hK
    go_wp2_with (go_at_call 175;refine (HAH.out _).mono ?_;rintro e u2 ⟨rfl,hb2'⟩)
    have hb2:Below U.heap.size U u2:=(Below.refl _ _).drew.trans hb2'
    refine hK _ _ (held_some ((HS0.out _).2 hb2)) ?_
    clear hK KK hb2'
    refine wpT_loud 3 (by rfl) (by kernel_rfl) (by kernel_rfl) ?_
    intro KK hK
    go_wp2_with (go_at_call 174;refine (HFE.out _).mono ?_;rintro e u3 ⟨rfl,hb3'⟩)
    have hb3:Below U.heap.size U u3:=hb2.trans (hb3'.mono hb2.size)
    refine hK _ _ (held_some ((HS0.out _).2 hb3)) ?_
    clear hK KK hb3' r0 r1 r2 hS1 hne hb2
    have HB3:=hidP hb3
    clear hb3
    refine wpT_done (by kernel_rfl) ?_
    go_wp2_with (go_at_call 173;refine (HAT2.out _ (HBU.out.trans (HB3.out.mono HBU.out.size))).mono ?_;rintro e u4 ⟨rfl,hb4'⟩;have hb4:=HB3.out.trans (hb4'.mono HB3.out.size);have hA4:=HA.out.of_block (hb4.block _ HA.out.lt);have a4:=hA4.cell (i:=0) (by omega);have f4:=hA4.frozen 0;have hz4:=hA4.lt;have HA4:=hidP hA4;have HB4:=hidP hb4;clear hA4 hb4 hb4')
    rw [HAP.out]
    have hlow:=HLW.out
    have hOY:Only (fun k=>k=W.heap.size+1) U (u4.setCell ⟨W.heap.size+1,0,none⟩ (.int .i64 pos)):=(Only.of_below (S:=fun k=>k=W.heap.size+1) HB4.out).setCell (p:=⟨W.heap.size+1,0,none⟩) (Or.inl rfl) _
    have hAY:=HA4.out.set 0 (.int .i64 pos)
    generalize u4.setCell ⟨W.heap.size+1,0,none⟩ (.int .i64 pos)=Y at hOY hAY ⊢
    replace HA:=hidP (row_one hAY (v:=.int .i64 pos) (by simp))
    replace a0:=HA.out.cell (i:=0) (by omega)
    replace t0:=hOY.cell t0 (by show ¬ w.heap.size=W.heap.size+1;omega)
    replace e0:=hOY.cell e0 (by show ¬ W2.heap.size=W.heap.size+1;have:=HLT.out;omega)
    replace e1:=hOY.cell e1 (by show ¬ W2.heap.size=W.heap.size+1;have:=HLT.out;omega)
    replace o0:=hOY.cell o0 (by show ¬ w.heap.size+1=W.heap.size+1;omega)
    replace q0:=hOY.cell q0 (by show ¬ w.heap.size+1+1=W.heap.size+1;omega)
    replace HO:=hidP (HO.out.of_block (hOY.block _ HO.out.lt (by show ¬ w.heap.size+1=W.heap.size+1;omega)))
    replace HP:=hidP (HP.out.of_block (hOY.block _ HP.out.lt (by show ¬ w.heap.size+1+1=W.heap.size+1;omega)))
    replace HD:=hidP ((hOY.block _ (get_lt HD.out) (by show ¬ w2.heap.size=W.heap.size+1;omega)).trans HD.out)
    replace HLU:=hidP ((hOY.block _ (get_lt HLU.out) (by show ¬ w2.heap.size+1=W.heap.size+1;omega)).trans HLU.out)
    replace HOw:=hidP (owns_only HOw.out hOY (fun k hk=>by omega))
    replace HOK:Hid (Only K W2 Y):=HOK.out.trans (hOY.mono (fun k hk=>by subst hk;exact HKA.out))
    replace HBU:Hid (Below w.heap.size w Y):=HBU.out.trans (hOY.below HBU.out.size (fun k hk e=>by omega))
    replace hzX:=cellLt e0
    replace hzO:=HO.out.lt
    replace hzA:=HA.out.lt
    replace hzP:=HP.out.lt
    replace hzT:=cellLt t0
    dsimp only at hzX hzT
    clear hAY hOY hlow HAP HAT2 HFE HA4 HB4 HB3 HX a4 f4 hz4
    gi_wp2_with fail
    obtain ⟨S,hS⟩:∃ S:World→Prop,∀ u,S u↔Below Y.heap.size Y u:=⟨_,fun _=>Iff.rfl⟩
    have HS0:=hidP hS
    have r0:∀ u:Held S,World.cell? u.val ⟨w.heap.size,0,none⟩=some (.pointer (some ⟨KT,0,none⟩)):=fun u=>cell_later ((hS u.val).1 u.2) t0
    have r1:∀ u:Held S,World.cell? u.val ⟨W2.heap.size,0,none⟩=some (.int .i64 s.piece):=fun u=>cell_later ((hS u.val).1 u.2) e0
    have r2:∀ u:Held S,World.cell? u.val ⟨W2.heap.size,1,none⟩=some (.int .i64 s.side):=fun u=>cell_later ((hS u.val).1 u.2) e1
    have r3:∀ u:Held S,World.cell? u.val ⟨w.heap.size+1,0,none⟩=some (.int .i64 left):=fun u=>cell_later ((hS u.val).1 u.2) o0
    have r4:∀ u:Held S,World.cell? u.val ⟨W.heap.size+1,0,none⟩=some (.int .i64 pos):=fun u=>cell_later ((hS u.val).1 u.2) a0
    have hS1:S Y.drew:=(hS _).2 ((Below.refl _ _).drew)
    have hne:=held_ne hS1
    have hdd:(E-pos)*s.side=dd:=HDF.out.symm
    clear hS
    refine wpIn_region_tree (fun w' => ∃ u:Held S,w'=u.val) 10 (by kernel_rfl) (by rintro ⟨a,w,h⟩;exact h) (by kernel_rfl) (by kernel_rfl) (held_some hS1) ?_
    (refine wpT_sea 0 ?_;intro K hK;go_big_quiet_op;go_big_quiet_on);(refine wpT_sea 1 ?_;intro K hK;go_big_quiet_op;go_big_quiet_on);(refine wpT_sea 2 ?_;intro K hK;go_big_quiet_op;go_big_quiet_on)
    (refine wpT_sea 5 ?_;intro K hK;go_big_quiet_op;go_big_quiet_on)
    (refine wpT_sea 7 ?_;intro K hK;go_big_quiet_op;go_big_quiet_on);(refine wpT_sea 8 ?_;intro K hK;go_big_quiet_op;go_big_quiet_on)
    refine wpT_loud 3 (by rfl) (by kernel_rfl) (by kernel_rfl) ?_
    intro KK hK
    go_wp2_with (go_at_call 175;refine (HAH.out _).mono ?_;rintro e v2 ⟨rfl,hb2'⟩)
    have hb2:Below Y.heap.size Y v2:=(Below.refl _ _).drew.trans hb2'
    refine hK _ _ (held_some ((HS0.out _).2 hb2)) ?_
    clear hK KK hb2'
    refine wpT_loud 4 (by rfl) (by kernel_rfl) (by kernel_rfl) ?_
    intro KK hK
    go_wp2_with (go_at_call 173;refine (HAT1.out _ (HBU.out.trans (hb2.mono HBU.out.size))).mono ?_;rintro e v3 ⟨rfl,hb3'⟩)
    have hb3:Below Y.heap.size Y v3:=hb2.trans (hb3'.mono hb2.size)
    refine hK _ _ (held_some ((HS0.out _).2 hb3)) ?_
    clear hK KK hb3'
    (refine wpT_sea 6 ?_;intro K hK;go_big_quiet_op;go_big_quiet_on)
    (refine wpT_sea 9 ?_;intro K hK;go_big_quiet_op;go_big_quiet_on)
    clear r0 r1 r2 r3 r4 hS1 hne hb2
    have HB3:=hidP hb3
    clear hb3
    refine wpT_done (by kernel_rfl) ?_
    have hmn:(if dd<left then dd else left)=L:=by rw [HLL.out];split <;> omega
    go_wp2_with fail
    clear hmn hdd
    replace HB3:Hid (Below Y.heap.size Y v3):=HB3
    have hlow:=HLW.out
    replace t0:=cell_later HB3.out t0
    replace e0:=cell_later HB3.out e0
    replace e1:=cell_later HB3.out e1
    replace o0:=cell_later HB3.out o0
    replace a0:=cell_later HB3.out a0
    replace q0:=cell_later HB3.out q0
    replace HO:=hidP (HO.out.of_block (HB3.out.block _ HO.out.lt))
    replace HA:=hidP (HA.out.of_block (HB3.out.block _ HA.out.lt))
    replace HP:=hidP (HP.out.of_block (HB3.out.block _ HP.out.lt))
    replace HD:=hidP ((HB3.out.block _ (get_lt HD.out)).trans HD.out)
    replace HLU:=hidP ((HB3.out.block _ (get_lt HLU.out)).trans HLU.out)
    replace HOw:=hidP (owns_below HOw.out HB3.out)
    replace HOK:Hid (Only K W2 v3):=HOK.out.trans (Only.of_below HB3.out)
    have hzW2:=HOK.out.size
    have hbl:=HLT.out
    have hm1:Hid (L*s.side=L∨L*s.side = - L):=by unfold Hid;rcases HSD.out with h | h <;> rw [h] <;> omega
    obtain ⟨mm,hmm⟩:∃ mm,L*s.side=mm:=⟨_,rfl⟩
    have HMM:=hidP hmm
    rw [hmm] at hm1
    have hL0:1≤L∧L≤left∧L≤dd:=by rw [HLL.out];have:=HL0.out;omega
    have hmb : -10000000≤mm∧mm≤10000000:=by have:=hm1.out;omega
    have hmb1:=hmb.1
    have hmb2:=hmb.2
    have hLa:=hL0.1
    have hLb:=hL0.2.1
    have HPO:Hid (∀ u:World,Calls Tryz.prog 176 #[.int .i64 s.piece,.int .i64 pos,.int .i64 (pos+mm)] u fun e w'=>e = .returned (.agg #[.int .i64 (partI s.piece pos (pos+mm)).piece,.int .i64 (partI s.piece pos (pos+mm)).lo,.int .i64 (partI s.piece pos (pos+mm)).hi])∧Below u.heap.size u w'):=fun u=>partOf_any s.piece pos (pos+mm) u
    have HST2:Hid (NMath ps js tot (n-1) s (left-L) (parts++[partI s.piece pos (pos+mm)])):=by
     unfold Hid
     rw [← HMM.out]
     exact HST.out
    generalize partI s.piece pos (pos+mm)=pt at HPO HST2
    replace hzX:=cellLt e0
    replace hzO:=HO.out.lt
    replace hzA:=HA.out.lt
    replace hzP:=HP.out.lt
    replace hzT:=cellLt t0
    dsimp only at hzX hzT
    clear hL0 hmb hlow HB3 HS0 hmm HSD HST HDF
    have hmm:=HMM.out
    gi_wp2_with fail
    obtain ⟨S,hS⟩:∃ S:World→Prop,∀ u,S u↔Below v3.heap.size v3 u:=⟨_,fun _=>Iff.rfl⟩
    have HS0:=hidP hS
    have r1:∀ u:Held S,World.cell? u.val ⟨W2.heap.size,0,none⟩=some (.int .i64 s.piece):=fun u=>cell_later ((hS u.val).1 u.2) e0
    have r2:∀ u:Held S,World.cell? u.val ⟨W2.heap.size,1,none⟩=some (.int .i64 s.side):=fun u=>cell_later ((hS u.val).1 u.2) e1
    have r3:∀ u:Held S,World.cell? u.val ⟨w.heap.size+1+1,0,none⟩=some (.slice x parts.length y):=fun u=>cell_later ((hS u.val).1 u.2) q0
    have r4:∀ u:Held S,World.cell? u.val ⟨W.heap.size+1,0,none⟩=some (.int .i64 pos):=fun u=>cell_later ((hS u.val).1 u.2) a0
    have hS1:S v3.drew:=(hS _).2 ((Below.refl _ _).drew)
    have hne:=held_ne hS1
    clear hS
    refine wpIn_region_tree (fun w' => ∃ u:Held S,w'=u.val) 12 (by kernel_rfl) (by rintro ⟨a,w,h⟩;exact h) (by kernel_rfl) (by kernel_rfl) (held_some hS1) ?_
    (refine wpT_sea 0 ?_;intro K hK;go_big_quiet_op;go_big_quiet_on);(refine wpT_sea 1 ?_;intro K hK;go_big_quiet_op;go_big_quiet_on);(refine wpT_sea 2 ?_;intro K hK;go_big_quiet_op;go_big_quiet_on);(refine wpT_sea 3 ?_;intro K hK;go_big_quiet_op;go_big_quiet_on);(refine wpT_sea 4 ?_;intro K hK;go_big_quiet_op;go_big_quiet_on);(refine wpT_sea 5 ?_;intro K hK;go_big_quiet_op;go_big_quiet_on);(refine wpT_sea 6 ?_;intro K hK;go_big_quiet_op;go_big_quiet_on);(refine wpT_sea 7 ?_;intro K hK;go_big_quiet_op;go_big_quiet_on);(refine wpT_sea 8 ?_;intro K hK;go_big_quiet_op;go_big_quiet_on);(refine wpT_sea 9 ?_;intro K hK;go_big_quiet_op;go_big_quiet_on)
    refine wpT_loud 10 (by rfl) (by kernel_rfl) (by kernel_rfl) ?_
    intro KK hK
    go_wp2_with (go_at_call 176;refine (HPO.out _).mono ?_;rintro e v4 ⟨rfl,hb4'⟩)
    have hb4:Below v3.heap.size v3 v4:=(Below.refl _ _).drew.trans hb4'
    refine hK _ _ (held_some ((HS0.out _).2 hb4)) ?_
    clear hK KK hb4'
    refine wpT_loud 11 (by rfl) (by kernel_rfl) (by kernel_rfl) ?_
    intro KK hK
    go_wp2_with fail
    generalize hV5:World.alloc v4 _=V5
    have hb5':Below v4.heap.size v4 V5:=by rw [← hV5];exact (Below.refl _ _).alloc (Nat.le_refl _) _
    have hb5:Below v3.heap.size v3 V5:=hb4.trans (hb5'.mono hb4.size)
    have n0:V5.cell? ⟨v4.heap.size,0,none⟩=some (.int .i64 pt.piece):=by rw [← hV5];simp [go_sem]
    have n1:V5.cell? ⟨v4.heap.size,1,none⟩=some (.int .i64 pt.lo):=by rw [← hV5];simp [go_sem]
    have n2:V5.cell? ⟨v4.heap.size,2,none⟩=some (.int .i64 pt.hi):=by rw [← hV5];simp [go_sem]
    refine hK _ _ (held_some ((HS0.out _).2 hb5)) ?_
    clear hK KK hV5 hb5' hb4 r1 r2 r3 r4 hS1 hne
    have HN3:=hidP (news3 n0 n1 n2)
    clear n0 n1 n2
    have HB5:=hidP hb5
    have hz5:=hb5.size
    clear hb5
    have hlow:=HLW.out
    have HOw5:=hidP (owns_below HOw.out HB5.out)
    have HO5:=hidP (HO.out.of_block (HB5.out.block _ HO.out.lt))
    have HA5:=hidP (HA.out.of_block (HB5.out.block _ HA.out.lt))
    have HP5:=hidP (HP.out.of_block (HB5.out.block _ HP.out.lt))
    have HD5:=hidP ((HB5.out.block _ (get_lt HD.out)).trans HD.out)
    have HLU5:=hidP ((HB5.out.block _ (get_lt HLU.out)).trans HLU.out)
    have HOK5:Hid (Only K W2 V5):=HOK.out.trans (Only.of_below HB5.out)
    clear hlow HOw HO HA HP HD HLU HOK o0 a0 q0 t0 e0 e1
    refine wpT_done (by kernel_rfl) ?_
    show wpList Tryz.prog _ _ [_,_] _ _
    refine wpList_append_sharp _ rfl (.tmp 52) (.tmp 63) 78 rfl (w2.heap.size+2) 185 _ 3 24 Tryz.underlying78 Tryz.infoPart rfl (by decide) (.slice x parts.length y) parts.length (flatP parts) rfl HOw5.out ⟨v4.heap.size,0,none⟩ 1 [.int .i64 pt.piece,.int .i64 pt.lo,.int .i64 pt.hi] rfl rfl HN3.out (by simp [Value.oneCell']) (by unfold maxLen;omega) (by omega) (by omega) ?_
    intro x6 y6 w6 r1 r6 r7
    have hne6:∀ k,k<w2.heap.size+2→some k≠(Value.slice x parts.length y).ownBlock:=(fun k hk e=>by have h9:=(HOw5.out.lt k e.symm).1;omega)
    have hP6:=HP5.out.of_block (r6.block _ HP5.out.lt (hne6 _ (by have h9:=HLW.out;omega)))
    have p6:=hP6.cell (i:=0) (by omega)
    have pf6:=hP6.frozen 0
    have hzP6:=hP6.lt
    have HP6:=hidP hP6
    have HR1:=hidP r1
    have HR6:=hidP r6
    have HR7:=hidP r7
    have HNE:=hidP hne6
    clear hP6 r1 r6 r7 hne6
    go_wp2_with fail
    have hlow:=HLW.out
    have hO6:Only K W2 w6:=HOK5.out.trans (Only.of_grown HR6.out (fun k hk=>HKX.out k hk))
    have hl6:=(HR6.out.block _ (get_lt HLU5.out) (HNE.out _ (by omega))).trans HLU5.out
    have hD6:=(HR6.out.block _ (get_lt HD5.out) (HNE.out _ (by omega))).trans HD5.out
    have hov6:=HO5.out.of_block (HR6.out.block _ HO5.out.lt (HNE.out _ (by omega)))
    have hat6:=HA5.out.of_block (HR6.out.block _ HA5.out.lt (HNE.out _ (by omega)))
    have hl7:=(Below.heap_setCell w6 ⟨w.heap.size+1+1,0,none⟩ (.slice x6 (parts.length+1) y6) (w2.heap.size+1) (by show ¬ w2.heap.size+1=w.heap.size+1+1;omega)).trans hl6
    have hD7:=(Below.heap_setCell w6 ⟨w.heap.size+1+1,0,none⟩ (.slice x6 (parts.length+1) y6) w2.heap.size (by show ¬ w2.heap.size=w.heap.size+1+1;omega)).trans hD6
    have hO7:=hO6.setCell (p:=⟨w.heap.size+1+1,0,none⟩) (Or.inl HKP.out) (.slice x6 (parts.length+1) y6)
    have hov7:=hov6.setOther (a:=⟨w.heap.size+1+1,0,none⟩) (by show ¬ w.heap.size+1=w.heap.size+1+1;omega) (.slice x6 (parts.length+1) y6)
    have hat7:=hat6.setOther (a:=⟨w.heap.size+1+1,0,none⟩) (by show ¬ W.heap.size+1=w.heap.size+1+1;omega) (.slice x6 (parts.length+1) y6)
    have hP7:=row_one (HP6.out.set 0 (.slice x6 (parts.length+1) y6)) (v:=.slice x6 (parts.length+1) y6) (by simp)
    have ho7:=ownsRow_setCell_below HR1.out (a:=⟨w.heap.size+1+1,0,none⟩) (by show w.heap.size+1+1<w2.heap.size+2;omega) (.slice x6 (parts.length+1) y6)
    generalize w6.setCell ⟨w.heap.size+1+1,0,none⟩ (.slice x6 (parts.length+1) y6)=Z at hl7 hD7 hO7 hov7 hat7 hP7 ho7 ⊢
    have z0:=hov7.cell (i:=0) (by omega)
    have zf:=hov7.frozen 0
    have hzz:=hov7.lt
    have HOv7:=hidP (row_one (hov7.set 0 (.int .i64 (left-L))) (v:=.int .i64 (left-L)) (by simp))
    have HAt7:=hidP (hat7.setOther (a:=⟨w.heap.size+1,0,none⟩) (by show ¬ W.heap.size+1=w.heap.size+1;omega) (.int .i64 (left-L)))
    have HP7:=hidP (hP7.setOther (a:=⟨w.heap.size+1,0,none⟩) (by show ¬ w.heap.size+1+1=w.heap.size+1;omega) (.int .i64 (left-L)))
    have HO7:=hidP (hO7.setCell (p:=⟨w.heap.size+1,0,none⟩) (Or.inl HKO.out) (.int .i64 (left-L)))
    have HL7:=hidP ((Below.heap_setCell Z ⟨w.heap.size+1,0,none⟩ (.int .i64 (left-L)) (w2.heap.size+1) (by show ¬ w2.heap.size+1=w.heap.size+1;omega)).trans hl7)
    have HD7:=hidP ((Below.heap_setCell Z ⟨w.heap.size+1,0,none⟩ (.int .i64 (left-L)) w2.heap.size (by show ¬ w2.heap.size=w.heap.size+1;omega)).trans hD7)
    have HW7:=hidP (ownsRow_setCell_below ho7 (a:=⟨w.heap.size+1,0,none⟩) (by show w.heap.size+1<w2.heap.size+2;omega) (.int .i64 (left-L)))
    clear hO6 hl6 hD6 hov6 hat6 hl7 hD7 hO7 hov7 hat7 hP7 ho7 hlow p6 pf6 hmm
    gi_wp2_with fail
    have hxl:(parts++[pt]).length=parts.length+1:=by simp
    refine HI.out.on HREC.out (parts1:=parts++[pt]) HL7.out HO7.out HD7.out HOv7.out HAt7.out ⟨x6,y6,by rw [hxl];exact HP7.out,by rw [hxl,← flatP_push];exact HW7.out,fun k hk=>?_⟩ _ (fun K' u hu=>⟨n-1,HN1.out,pos,left-L,parts++[pt],hu,HST2.out,by omega,by omega⟩) _
    rw [hxl] at hk
    rcases HR7.out k hk with h | h
    ·exact Or.inl (HKX.out k h)
    ·exact Or.inr (Nat.le_trans HOK5.out.size h)
 have HRD:Hid (SRounds KT V.heap.size (w2.heap.size+1) (w2.heap.size+2) js (OJ w KT (w2.heap.size+1) w2.heap.size w.heap.size (w.heap.size+1) (w.heap.size+1+1) (W.heap.size+1) V.heap.size (w2.heap.size+2) rec ps js tot) (ON w KT (w2.heap.size+1) w2.heap.size w.heap.size (w.heap.size+1) (w.heap.size+1+1) (W.heap.size+1) V.heap.size (w2.heap.size+2) rec ps js tot) (OStop w (w2.heap.size+1) w2.heap.size (w.heap.size+1+1) (w2.heap.size+2) rec tot)):=by
  refine ⟨?_,?_,?_,?_,?_,HY.out⟩
  ·rintro n s K u ⟨at0,left,parts,hb,_⟩
   exact hb.lt
  ·rintro n s K S u u' ⟨at0,left,parts,hb,hm⟩ hO hS
   exact ⟨at0,left,parts,hb.keep hO hS,hm⟩
  ·rintro n s K S u u' ⟨at0,left,parts,hb,hm⟩ hO hS
   exact ⟨at0,left,parts,hb.keep hO hS,hm⟩
  ·rintro n s K u ⟨at0,left,parts,hb,_⟩
   exact hb.t2
  ·rintro n s K u ⟨at0,left,parts,hb,hm,ha⟩ hov
   exact ⟨at0,left,parts,hb,hm.next R.out hov ha⟩
 have HTN:Hid (∀ n s K u,ON w KT (w2.heap.size+1) w2.heap.size w.heap.size (w.heap.size+1) (w.heap.size+1+1) (W.heap.size+1) V.heap.size (w2.heap.size+2) rec ps js tot n s K u→TTrack u KT M pa ja (some ⟨bs,os,none⟩) pc jc sc ps js ss∧ValidS ps s):=by
  rintro n s K u ⟨at0,left,parts,hb,hm,_⟩
  exact ⟨hT.out.below hb.below,hm.sv⟩
 refine (callsIn_wide).2 ((steps_any KT M V.heap.size (V.heap.size+1) (w2.heap.size+2) pa ja (some ⟨bs,os,none⟩) pc jc sc ps js ss R (w2.heap.size+1) _ _ _ HRD HTN (over.toNat+1) ⟨sg.len,sg.brake⟩ _ W1 (by omega) HI0 (cell_later hb1 F0.out) (cell_later hb1 F1.out)).mono ?_)
 rintro e w3 ⟨⟨v,rfl⟩,hO3,h3⟩
 have hst:∀ pe,(rec .ready pe).state≠.busy∧(rec .ready pe).pending=pe∧(rec .done pe).state≠.busy∧(rec .done pe).pending=pe:=by
  rw [hrec]
  intro pe
  simp
 have HEND:Hid (∀ w4:World,Only (fun k=>k=w2.heap.size+1) w3 w4→Below w.heap.size w w3→w3.heap[w2.heap.size]? = some (.deferred (some []))→(∃ (x:Option Addr) (y:Nat),w3.rowIs (w.heap.size+1+1) 78 1 (fun _=>.slice x tot.length y)∧w3.ownsRow (w2.heap.size+2) 185 3 (.slice x tot.length y) tot.length (flatP tot)) →
   ∃ x y wf,w4.cell? ⟨w.heap.size+1+1,0,none⟩=some (.slice x tot.length y)∧w.heap.size+1+1<w4.heap.size∧(Instr.takeDeferred w2.heap.size).run Tryz.prog w4 = .ok [] wf∧wf.ownsRow w.heap.size 185 3 (.slice x tot.length y) tot.length (flatP tot)∧Below w.heap.size w wf):=by
  intro w4 hO4 hb3 hd3 ⟨x,y,g1,g2⟩
  have hA4:=g1.of_block (hO4.block _ g1.lt (by show ¬ w.heap.size+1+1=w2.heap.size+1;omega))
  have hD4:=(hO4.block _ (get_lt hd3) (by show ¬ w2.heap.size=w2.heap.size+1;omega)).trans hd3
  have hOf:Only (fun k=>k=w2.heap.size) w4 (w4.putObj w2.heap.size (.deferred none)):=Only.of_grown (grownBy_putObj' _ _ _) (fun k e=>by cases e;rfl)
  have hO3f:Only (fun k=>k=w2.heap.size+1∨k=w2.heap.size) w3 (w4.putObj w2.heap.size (.deferred none)):=(hO4.mono (fun k hk=>Or.inl hk)).trans (hOf.mono (fun k hk=>Or.inr hk))
  have hof:=owns_only g2 hO3f (fun k hk=>by omega)
  refine ⟨x,y,_,hA4.cell (i:=0) (by omega),hA4.lt,run_takeDeferred hD4,⟨hof.1,hof.2.imp id fun ⟨g,cap,cur,q1,q2,q3⟩=>⟨g,cap,cur,q1,by omega,q3⟩⟩,hb3.trans (hO3f.below hb3.size (fun k hk e=>by omega))⟩
 rcases h3 with ⟨n3,s3,K',⟨at0,left,parts,hb3,hm3,_⟩,hov3,_⟩ | hS3
 ·have hpt:=hm3.stop hov3
  refine ⟨_,_,run_endLoop hb3.loop (hst none).1,?_⟩
  rw [(hst none).2.1]
  dsimp only
  generalize hw4:w3.putObj _ _=w4
  have hO4:Only (fun k=>k=w2.heap.size+1) w3 w4:=by
   rw [← hw4]
   exact Only.of_grown (grownBy_putObj' _ _ _) (fun k e=>by cases e;rfl)
  clear hw4
  obtain ⟨x,y,g1,g2,_⟩:=hb3.own
  rw [← hpt] at g1 g2
  obtain ⟨x,y,wf,p0,pz,ptk,pown,pbl⟩:=HEND.out w4 hO4 hb3.below hb3.dfr ⟨x,y,g1,g2⟩
  have PTK:=hidP ptk
  have POW:=hidP pown
  have PBL:=hidP pbl
  have HWS:Hid (w2.heap.size=w2.heap.size):=rfl
  clear hzz hz1 hO4 g1 g2 hb3 hm3 hpt ptk pown pbl hst hO3 hb1 hL1 hD1 hi0
  simp only [Exit.inBlock,Exit.then]
  go_wp2_with fail
  refine ⟨by simp,.inl ⟨_,_,rfl,PTK.out,?_⟩⟩
  exact ⟨.slice x tot.length y,by simp [results,Tryz.results142,go_sem],x,y,rfl,POW.out,PBL.out⟩
 ·obtain ⟨cc,hlc,hcc⟩:=hS3.loop
  subst hcc
  refine ⟨_,_,run_endLoop hlc (hst (some (.exit 0))).2.2.1,?_⟩
  rw [(hst (some (.exit 0))).2.2.2]
  dsimp only
  generalize hw4:w3.putObj _ _=w4
  have hO4:Only (fun k=>k=w2.heap.size+1) w3 w4:=by
   rw [← hw4]
   exact Only.of_grown (grownBy_putObj' _ _ _) (fun k e=>by cases e;rfl)
  clear hw4
  obtain ⟨x,y,wf,p0,pz,ptk,pown,pbl⟩:=HEND.out w4 hO4 hS3.below hS3.dfr hS3.own
  have PTK:=hidP ptk
  have POW:=hidP pown
  have PBL:=hidP pbl
  clear hzz hz1 hO4 hS3 hlc ptk pown pbl hst hO3 hb1 hL1 hD1 hi0
  refine wpIn_wide.2 ?_
  go_wp2_with fail
  refine ⟨by simp,.inl ⟨_,_,rfl,PTK.out,?_⟩⟩
  exact ⟨.slice x tot.length y,by simp [results,Tryz.results142,go_sem],x,y,rfl,POW.out,PBL.out⟩
def seenF (D : ∀ p : Prop, Decidable p) (L : List MEnd) (v : Value) : Int := @ite _ (∃ x,x ∈ L∧endV x=v) (D _) 1 0
theorem seenF_at (L:List MEnd)(e:MEnd):seenF Classical.propDecidable L (endV e)=if L.any (fun x=>sameE x e)=true then 1 else 0:=by
 unfold seenF
 by_cases h:L.any (fun x=>sameE x e)=true
 ·rw [if_pos h,if_pos]
  obtain ⟨x,hx,h2⟩:=List.any_eq_true.1 h
  exact ⟨x,hx,by rw [sameE_iff.1 h2]⟩
 ·rw [if_neg h,if_neg]
  rintro ⟨x,hx,h2⟩
  exact h (List.any_eq_true.2 ⟨x,hx,sameE_iff.2 (endV_inj h2)⟩)
theorem seenF_put {L:List MEnd}{e:MEnd}:seenF Classical.propDecidable (L++[e]) (endV e)=1:=by
 unfold seenF
 rw [if_pos ⟨e,by simp,rfl⟩]
theorem seenF_other {L:List MEnd}{e:MEnd}{v:Value}(h:v≠endV e):seenF Classical.propDecidable (L++[e]) v=seenF Classical.propDecidable L v:=by
 unfold seenF
 by_cases hx:∃ x,x ∈ L∧endV x=v
 ·rw [if_pos hx,if_pos]
  obtain ⟨x,h1,h2⟩:=hx
  exact ⟨x,by simp [h1],h2⟩
 ·rw [if_neg hx,if_neg]
  rintro ⟨x,h1,h2⟩
  rcases List.mem_append.1 h1 with h1 | h1
  ·exact hx ⟨x,h1,h2⟩
  ·have:x=e:=by simpa using h1
   subst this
   exact h h2.symm
def lookC (KT M2:Nat)(at_:Int)(la:Option Addr)(ln lc:Nat)(v:Value):Array Value:=#[.pointer (some ⟨KT,0,none⟩),.slice la ln lc,.int .i64 at_,.map (some M2),v]
structure LBase (w:World)(ps:List MPiece)(KT O M2:Nat)(at_:Int)(la:Option Addr)(ln lc bs:Nat)(K:Nat→Prop)(st:List MEnd × List MFlank)(W:World):Prop where
 below:Below w.heap.size w W
 own:∃ (x:Option Addr) (y:Nat),W.rowIs O 316 5 (fun i=>(lookC KT M2 at_ la ln lc (.slice x st.2.length y)).getD i (.bool false))∧W.ownsRow bs 133 4 (.slice x st.2.length y) st.2.length (flatF st.2) ∧
  ∀ k,K k↔k=O∨k=M2∨(Value.slice x st.2.length y).ownBlock=some k
 map:CMap 192 W M2 st.1.length (seenF Classical.propDecidable st.1)
 low:w.heap.size≤M2∧M2<O∧O<bs
 hi:bs≤W.heap.size
 seen:Seen ps st.1
 fl:st.2.length≤st.1.length
section
variable {w:World} {ps:List MPiece} {KT O M2:Nat} {at_:Int} {la:Option Addr} {ln lc bs:Nat} {K:Nat→Prop} {st:List MEnd × List MFlank} {W W':World}
theorem LBase.lt (h:LBase w ps KT O M2 at_ la ln lc bs K st W):∀ k,K k→k<W.heap.size:=by
 intro k hk
 obtain ⟨x,y,h1,h2,h5⟩:=h.own
 rcases (h5 k).1 hk with rfl | rfl | hk
 ·exact h1.lt
 ·exact h.map.lt
 ·exact (h2.lt k hk).2
theorem LBase.low_own (h:LBase w ps KT O M2 at_ la ln lc bs K st W):∀ k,K k→w.heap.size≤k:=by
 intro k hk
 have hl:=h.low
 obtain ⟨x,y,h1,h2,h5⟩:=h.own
 rcases (h5 k).1 hk with rfl | rfl | hk
 ·omega
 ·omega
 ·have:=(h2.lt k hk).1
  omega
theorem LBase.keep (h:LBase w ps KT O M2 at_ la ln lc bs K st W)(hb:Below W.heap.size W W'):LBase w ps KT O M2 at_ la ln lc bs K st W':=by
 obtain ⟨x,y,h1,h2,h5⟩:=h.own
 exact ⟨h.below.trans (hb.mono h.below.size),⟨x,y,h1.of_block (hb.block _ h1.lt),owns_below h2 hb,h5⟩,h.map.below hb,h.low,Nat.le_trans h.hi hb.size,h.seen,h.fl⟩
end
def Looked (w:World)(ps:List MPiece)(KT O M2:Nat)(at_:Int)(la:Option Addr)(ln lc bs:Nat)(st:List MEnd × List MFlank)(K:Nat→Prop)(W:World)(e:Ending)(W':World):Prop:=
 (∃ v,e = .returned v)∧Only K W W'∧∃ K',LBase w ps KT O M2 at_ la ln lc bs K' st W'∧Grow K K' W
theorem news4 {u:World}{g:Nat}{a b c d:Value}(c0:u.cell? ⟨g,0,none⟩=some a)(c1:u.cell? ⟨g,1,none⟩=some b)(c2:u.cell? ⟨g,2,none⟩=some c)(c3:u.cell? ⟨g,3,none⟩=some d):∀ (j:Nat) (v:Value),[a,b,c,d][j]? = some v→u.cell? ((⟨g,0,none⟩:Addr).add j)=some v:=by
 intro j v hv
 rw [addr_at,Nat.zero_add]
 match j with
 | 0=>simp at hv;rw [← hv];exact c0
 | 1=>simp at hv;rw [← hv];exact c1
 | 2=>simp at hv;rw [← hv];exact c2
 | 3=>simp at hv;rw [← hv];exact c3
 | j+4=>simp at hv
theorem found_any (w:World)(ps:List MPiece)(hnp:ps.length≤100)(KT O M2:Nat)(at_:Int)(la:Option Addr)(ln lc bs:Nat)(K:Nat→Prop)(st:List MEnd × List MFlank)(W:World)(h:Hid (LBase w ps KT O M2 at_ la ln lc bs K st W))(hlt:Hid (st.2.length+1≤st.1.length))(kd of_ li:Int):
  Calls Tryz.prog 197 #[.pointer (some ⟨O,0,none⟩),.int .i64 kd,.int .i64 of_,.int .i64 li] W (Looked w ps KT O M2 at_ la ln lc bs (st.1,st.2++[⟨at_,kd,of_,li⟩]) K W):=by
 have hfew:=h.out.seen.few
 have hfl:=h.out.fl
 obtain ⟨x,y,h1,h2,h5⟩:=h.out.own
 have hlow:=h.out.low
 have hhi:=h.out.hi
 have c2:W.cell? ⟨O,2,none⟩=some (.int .i64 at_):=h1.cell (i:=2) (by omega)
 have c4:W.cell? ⟨O,4,none⟩=some (.slice x st.2.length y):=h1.cell (i:=4) (by omega)
 have H1:=hidP h1
 have H2:=hidP h2
 have H5:=hidP h5
 have hzO:=h1.lt
 obtain ⟨S,hS⟩:∃ S:World→Prop,∀ u,S u↔Only (fun k=>(Value.slice x st.2.length y).ownBlock=some k) W u:=⟨_,fun _=>Iff.rfl⟩
 have HS0:=hidP hS
 have hnO:¬ (Value.slice x st.2.length y).ownBlock=some O:=fun e=>by have:=(h2.lt O e).1;omega
 have r2:∀ u:Held S,World.cell? u.val ⟨O,2,none⟩=some (.int .i64 at_):=fun u=>((hS u.val).1 u.2).cell c2 hnO
 have r4:∀ u:Held S,World.cell? u.val ⟨O,4,none⟩=some (.slice x st.2.length y):=fun u=>((hS u.val).1 u.2).cell c4 hnO
 have hS1:S W.drew:=(hS _).2 ((Only.refl _ _).drew)
 have hne:=held_ne hS1
 have HNO:=hidP hnO
 have hsl:st.2.length≤200:=by omega
 clear hS h1 h2 h5 c2 c4 hfew hfl hnO
 go_enter Tryz.func197,Tryz.ntmps197
 go_upto_region 0 with fail
 refine wp_region_tree (fun w' => ∃ u:Held S,w'=u.val) 15 (by kernel_rfl) (by kernel_rfl) (held_some hS1) ?_
 (refine wpT_sea 0 ?_;intro K hK;go_big_quiet_op;go_big_quiet_on);(refine wpT_sea 1 ?_;intro K hK;go_big_quiet_op;go_big_quiet_on);(refine wpT_sea 2 ?_;intro K hK;go_big_quiet_op;go_big_quiet_on);(refine wpT_sea 3 ?_;intro K hK;go_big_quiet_op;go_big_quiet_on);(refine wpT_sea 4 ?_;intro K hK;go_big_quiet_op;go_big_quiet_on);(refine wpT_sea 5 ?_;intro K hK;go_big_quiet_op;go_big_quiet_on);(refine wpT_sea 6 ?_;intro K hK;go_big_quiet_op;go_big_quiet_on);(refine wpT_sea 7 ?_;intro K hK;go_big_quiet_op;go_big_quiet_on);(refine wpT_sea 8 ?_;intro K hK;go_big_quiet_op;go_big_quiet_on);(refine wpT_sea 9 ?_;intro K hK;go_big_quiet_op;go_big_quiet_on);(refine wpT_sea 10 ?_;intro K hK;go_big_quiet_op;go_big_quiet_on);(refine wpT_sea 11 ?_;intro K hK;go_big_quiet_op;go_big_quiet_on);(refine wpT_sea 12 ?_;intro K hK;go_big_quiet_op;go_big_quiet_on)
 refine wpT_loud 13 (by rfl) (by kernel_rfl) (by kernel_rfl) ?_
 intro KK hK
 go_wp2_with fail
 generalize hV5:World.alloc W _=V5
 have hb5:Below W.heap.size W V5:=by rw [← hV5];exact (Below.refl _ _).alloc (Nat.le_refl _) _
 have n0:V5.cell? ⟨W.heap.size,0,none⟩=some (.int .i64 at_):=by rw [← hV5];simp [go_sem]
 have n1:V5.cell? ⟨W.heap.size,1,none⟩=some (.int .i64 kd):=by rw [← hV5];simp [go_sem]
 have n2:V5.cell? ⟨W.heap.size,2,none⟩=some (.int .i64 of_):=by rw [← hV5];simp [go_sem]
 have n3:V5.cell? ⟨W.heap.size,3,none⟩=some (.int .i64 li):=by rw [← hV5];simp [go_sem]
 have hS5:S V5.drew:=(HS0.out _).2 ((Only.of_below hb5).drew)
 refine hK _ _ (held_some hS5) ?_
 clear hK KK hV5
 have HN4:Hid (∀ (j:Nat) (v:Value),[Value.int .i64 at_,.int .i64 kd,.int .i64 of_,.int .i64 li][j]? = some v→V5.drew.cell? ((⟨W.heap.size,0,none⟩:Addr).add j)=some v):=news4 n0 n1 n2 n3
 clear n0 n1 n2 n3
 have HB5:=hidP hb5
 have HO5:Hid (V5.drew.ownsRow bs 133 4 (.slice x st.2.length y) st.2.length (flatF st.2)):=owns_drew (owns_below H2.out hb5)
 have hz5:W.heap.size≤V5.drew.heap.size:=hb5.size
 clear hb5
 refine wpT_loud 14 (by rfl) (by kernel_rfl) (by kernel_rfl) ?_
 intro KK hK
 show wpList Tryz.prog _ _ [_] _ _
 refine wpList_append_sharp _ rfl (.tmp 12) (.tmp 21) 79 rfl bs 133 _ 4 32 Tryz.underlying79 Tryz.infoFlank rfl (by decide) (.slice x st.2.length y) st.2.length (flatF st.2) rfl HO5.out ⟨W.heap.size,0,none⟩ 1 [.int .i64 at_,.int .i64 kd,.int .i64 of_,.int .i64 li] rfl rfl HN4.out (by simp [Value.oneCell']) (by unfold maxLen;omega) (by omega) (by omega) ?_
 intro x6 y6 w6 q1 q2 q3
 have hS6:S w6:=(HS0.out _).2 (((Only.of_below HB5.out).drew).trans (Only.of_grown q2 (fun k hk=>hk)))
 have Q1:=hidP q1
 have Q3:=hidP q3
 have HO6:=hidP ((HS0.out _).1 hS6)
 clear q1 q2 q3
 go_wp2_with fail
 refine hK _ _ (held_some hS6) ?_
 clear hK KK
 refine wpT_done (by kernel_rfl) ?_
 have hr6:=H1.out.of_block (HO6.out.block _ H1.out.lt HNO.out)
 have c6:=hr6.cell (i:=4) (by omega)
 have f6:=hr6.frozen 4
 have hz6:=hr6.lt
 have HR6:=hidP (hr6.set 4 (.slice x6 (st.2.length+1) y6))
 clear r2 r4 hS1 hne hr6 hS5 hS6
 go_wp2_with fail
 have hKO:K O:=(H5.out O).2 (Or.inl rfl)
 have hOK:Only K W w6:=HO6.out.mono (fun k hk=>(H5.out k).2 (Or.inr (Or.inr hk)))
 have hO7:Only K W (w6.setCell ⟨O,4,none⟩ (.slice x6 (st.2.length+1) y6)):=hOK.setCell (p:=⟨O,4,none⟩) (Or.inl hKO) _
 have hlo:=h.out.low_own
 have hM6:(w6.setCell ⟨O,4,none⟩ (.slice x6 (st.2.length+1) y6)).heap[M2]? = W.heap[M2]? := (Below.heap_setCell w6 ⟨O,4,none⟩ _ M2 (by show ¬ M2=O;omega)).trans (HO6.out.block _ h.out.map.lt (fun e=>by have:=(H2.out.lt M2 e).1;omega))
 have hxl:(st.2++[(⟨at_,kd,of_,li⟩:MFlank)]).length=st.2.length+1:=by simp
 refine bodyPost_end (results_none rfl _ _ _) rfl ⟨⟨_,rfl⟩,hO7,(fun k=>k=O∨k=M2∨(Value.slice x6 (st.2.length+1) y6).ownBlock=some k),⟨h.out.below.trans (hO7.below h.out.below.size (fun k hk e=>by have:=hlo k e;omega)),⟨x6,y6,?_,?_,fun k=>by simp only [hxl]⟩,h.out.map.of_block hM6,hlow,Nat.le_trans hhi hO7.size,h.out.seen,by simp only [hxl];exact hlt.out⟩,?_⟩
 ·refine row_congr HR6.out ?_
  intro i hi
  simp only [hxl]
  have hi':i=0∨i=1∨i=2∨i=3∨i=4:=by omega
  rcases hi' with rfl | rfl | rfl | rfl | rfl <;> simp [lookC]
 ·have:=ownsRow_setCell_below Q1.out (a:=⟨O,4,none⟩) (by show O<bs;omega) (.slice x6 (st.2.length+1) y6)
  rw [flatF_push st.2 ⟨at_,kd,of_,li⟩] at this
  simp only [hxl]
  exact this
 ·intro k hk
  rcases hk with hk | hk | hk
  ·exact Or.inl ((H5.out k).2 (Or.inl hk))
  ·exact Or.inl ((H5.out k).2 (Or.inr (Or.inl hk)))
  ·rcases Q3.out k hk with h9 | h9
   ·exact Or.inl ((H5.out k).2 (Or.inr (Or.inr h9)))
   ·exact Or.inr (Nat.le_trans hz5 h9)
theorem Looked.after {w:World}{ps:List MPiece}{KT O M2:Nat}{at_:Int}{la:Option Addr}{ln lc bs:Nat}{st:List MEnd × List MFlank}{K:Nat→Prop}{W W1 W':World}{e:Ending}(h:Looked w ps KT O M2 at_ la ln lc bs st K W1 e W')(hb:Below W.heap.size W W1):Looked w ps KT O M2 at_ la ln lc bs st K W e W':=by
 obtain ⟨h1,h2,K',h3,h4⟩:=h
 exact ⟨h1,(Only.of_below hb).trans h2,K',h3,h4.mono hb.size⟩
theorem foundSwitch_any (w:World)(ps:List MPiece)(hnp:ps.length≤100)(KT O M2:Nat)(at_:Int)(la:Option Addr)(lies:List MLie)(lc bs:Nat)(hL:Hid (EndsAt w la lies))(K:Nat→Prop)(st:List MEnd × List MFlank)(W:World)(h:Hid (LBase w ps KT O M2 at_ la lies.length lc bs K st W))(hlt:Hid (st.2.length+1≤st.1.length))(j k:Nat)(kd:Int)(hk:k≤3):
  Calls Tryz.prog 207 #[.pointer (some ⟨O,0,none⟩),spotV j k kd] W (Looked w ps KT O M2 at_ la lies.length lc bs (st.1,st.2++[if lieF lies j=k then ⟨at_,4,j,0⟩ else ⟨at_,3,j,3-k⟩]) K W):=by
 have HF:Hid (∀ (u:World),Below W.heap.size W u→∀ kd of_ li:Int,Calls Tryz.prog 197 #[.pointer (some ⟨O,0,none⟩),.int .i64 kd,.int .i64 of_,.int .i64 li] u (Looked w ps KT O M2 at_ la lies.length lc bs (st.1,st.2++[⟨at_,kd,of_,li⟩]) K W)):=fun u hu kd of_ li =>
  (found_any w ps hnp KT O M2 at_ la lies.length lc bs K st u (h.out.keep hu) hlt kd of_ li).mono (fun e w' q=>q.after hu)
 have HLI:Hid (∀ (u:World),Below W.heap.size W u→Calls Tryz.prog 215 #[.slice la lies.length lc,.int .i64 (j:Int)] u fun e w'=>e = .returned (.int .i64 (lieF lies j))∧Below u.heap.size u w'):=fun u hu =>
  lieOf_any la lc lies j u (hL.out.below (h.out.below.trans (hu.mono h.out.below.size)))
 have HOL:Hid (∀ (u:World),Calls Tryz.prog 179 #[.int .i64 (k:Int)] u fun e w'=>e = .returned (.int .i64 (3-(k:Int)))∧Below u.heap.size u w'):=fun u=>otherLie_any k u (by omega) (by omega)
 obtain ⟨x,y,h1,_,_⟩:=h.out.own
 have c1:W.cell? ⟨O,1,none⟩=some (.slice la lies.length lc):=h1.cell (i:=1) (by omega)
 have hzO:=h1.lt
 unfold spotV
 clear h1
 go_enter Tryz.func207,Tryz.ntmps207
 go_upto_region 1 with fail
 generalize hV:World.alloc W _=V
 have hbV:Below W.heap.size W V:=by rw [← hV];exact (Below.refl _ _).alloc (Nat.le_refl _) _
 have s0:V.cell? ⟨W.heap.size,0,none⟩=some (.int .i64 (j:Int)):=by rw [← hV];simp [go_sem]
 have s1:V.cell? ⟨W.heap.size,1,none⟩=some (.int .i64 (k:Int)):=by rw [← hV];simp [go_sem]
 have hzV:W.heap.size<V.heap.size:=by rw [← hV];simp
 replace c1:=cell_later hbV c1
 have HBV:=hidP hbV
 clear hV hbV
 obtain ⟨S,hS⟩:∃ S:World→Prop,∀ u,S u↔Below V.heap.size V u:=⟨_,fun _=>Iff.rfl⟩
 have HS0:=hidP hS
 have r1:∀ u:Held S,World.cell? u.val ⟨O,1,none⟩=some (.slice la lies.length lc):=fun u=>cell_later ((hS u.val).1 u.2) c1
 have r2:∀ u:Held S,World.cell? u.val ⟨W.heap.size,0,none⟩=some (.int .i64 (j:Int)):=fun u=>cell_later ((hS u.val).1 u.2) s0
 have r3:∀ u:Held S,World.cell? u.val ⟨W.heap.size,1,none⟩=some (.int .i64 (k:Int)):=fun u=>cell_later ((hS u.val).1 u.2) s1
 have hS1:S V.drew:=(hS _).2 ((Below.refl _ _).drew)
 have hne:=held_ne hS1
 clear hS
 refine wp_region_tree (fun w' => ∃ u:Held S,w'=u.val) 9 (by kernel_rfl) (by kernel_rfl) (held_some hS1) ?_
 (refine wpT_sea 0 ?_;intro K hK;go_big_quiet_op;go_big_quiet_on);(refine wpT_sea 1 ?_;intro K hK;go_big_quiet_op;go_big_quiet_on);(refine wpT_sea 2 ?_;intro K hK;go_big_quiet_op;go_big_quiet_on);(refine wpT_sea 3 ?_;intro K hK;go_big_quiet_op;go_big_quiet_on);(refine wpT_sea 4 ?_;intro K hK;go_big_quiet_op;go_big_quiet_on);(refine wpT_sea 5 ?_;intro K hK;go_big_quiet_op;go_big_quiet_on)
 (refine wpT_sea 7 ?_;intro K hK;go_big_quiet_op;go_big_quiet_on);(refine wpT_sea 8 ?_;intro K hK;go_big_quiet_op;go_big_quiet_on)
 refine wpT_loud 6 (by rfl) (by kernel_rfl) (by kernel_rfl) ?_
 intro KK hK
 go_wp2_with (go_at_call 215;refine (HLI.out _ (HBV.out.trans ((Below.refl _ _).drew.mono HBV.out.size))).mono ?_;rintro e u2 ⟨rfl,hb2'⟩)
 have hb2:Below V.heap.size V u2:=(Below.refl _ _).drew.trans hb2'
 refine hK _ _ (held_some ((HS0.out _).2 hb2)) ?_
 clear hK KK hb2' r1 r2 r3 hS1 hne
 replace s0:=cell_later hb2 s0
 replace s1:=cell_later hb2 s1
 have HB2:Hid (Below W.heap.size W u2):=HBV.out.trans (hb2.mono HBV.out.size)
 have hz2:W.heap.size<u2.heap.size:=cellLt s0
 clear hb2 c1
 refine wpT_done (by kernel_rfl) ?_
 by_cases hq:lieF lies j=k
 ·have hqb:(lieF lies j==(k:Int))=true:=by simp [hq]
  have HQ:=hidP hq
  clear hq
  go_wp2_with (go_at_call 197;refine (HF.out _ HB2.out _ _ _).mono ?_;rintro e u3 ⟨⟨v3,rfl⟩,ho3,hl3⟩)
  exact bodyPost_ret (results_none rfl _ _ _) rfl ⟨⟨_,rfl⟩,ho3,hl3⟩
 ·have hqb:(lieF lies j==(k:Int))=false:=by simp [hq]
  have HQ:=hidP hq
  clear hq
  go_upto_region 3 with fail
  obtain ⟨S,hS⟩:∃ S:World→Prop,∀ u,S u↔Below u2.heap.size u2 u:=⟨_,fun _=>Iff.rfl⟩
  have HS0:=hidP hS
  have r2:∀ u:Held S,World.cell? u.val ⟨W.heap.size,0,none⟩=some (.int .i64 (j:Int)):=fun u=>cell_later ((hS u.val).1 u.2) s0
  have r3:∀ u:Held S,World.cell? u.val ⟨W.heap.size,1,none⟩=some (.int .i64 (k:Int)):=fun u=>cell_later ((hS u.val).1 u.2) s1
  have hS1:S u2.drew:=(hS _).2 ((Below.refl _ _).drew)
  have hne:=held_ne hS1
  clear hS
  refine wp_region_tree (fun w' => ∃ u:Held S,w'=u.val) 6 (by kernel_rfl) (by kernel_rfl) (held_some hS1) ?_
  (refine wpT_sea 0 ?_;intro K hK;go_big_quiet_op;go_big_quiet_on);(refine wpT_sea 1 ?_;intro K hK;go_big_quiet_op;go_big_quiet_on);(refine wpT_sea 2 ?_;intro K hK;go_big_quiet_op;go_big_quiet_on);(refine wpT_sea 3 ?_;intro K hK;go_big_quiet_op;go_big_quiet_on);(refine wpT_sea 4 ?_;intro K hK;go_big_quiet_op;go_big_quiet_on)
  refine wpT_loud 5 (by rfl) (by kernel_rfl) (by kernel_rfl) ?_
  intro KK hK
  go_wp2_with (go_at_call 179;refine (HOL.out _).mono ?_;rintro e u4 ⟨rfl,hb4'⟩)
  have hb4:Below u2.heap.size u2 u4:=(Below.refl _ _).drew.trans hb4'
  refine hK _ _ (held_some ((HS0.out _).2 hb4)) ?_
  clear hK KK hb4' r2 r3 hS1 hne
  have HB4:Hid (Below W.heap.size W u4):=HB2.out.trans (hb4.mono HB2.out.size)
  clear hb4
  refine wpT_done (by kernel_rfl) ?_
  go_wp2_with (go_at_call 197;refine (HF.out _ HB4.out _ _ _).mono ?_;rintro e u3 ⟨⟨v3,rfl⟩,ho3,hl3⟩)
  exact bodyPost_end (results_none rfl _ _ _) rfl ⟨⟨_,rfl⟩,ho3,hl3⟩
def overL (js:List MJoint)(ss:List MPiece)(lies:List MLie)(at_:Int)(n:Nat)(st:List MEnd × List MFlank)(f:MEnd):List MEnd × List MFlank:=
 if kindE js (spotE js f).1=1 then (st.1,st.2++[⟨at_,1,(spotE js f).1,0⟩])
 else if kindE js (spotE js f).1=3∧(spotE js f).2≠0 then (st.1,st.2++[if lieF lies (spotE js f).1=(spotE js f).2 then ⟨at_,4,(spotE js f).1,0⟩ else ⟨at_,3,(spotE js f).1,3-(spotE js f).2⟩])
 else (beyondF (kindE js (spotE js f).1) (spotE js f).2).foldl (fun s t=>lookF js ss lies at_ n s (endE js (spotE js f).1 t)) st
theorem lookF_succ (js:List MJoint)(ss:List MPiece)(lies:List MLie)(at_:Int)(n:Nat)(st:List MEnd × List MFlank)(e:MEnd):lookF js ss lies at_ (n+1) st e =
  if st.1.any (fun x=>sameE x e)=true then st
  else if 0≤guardB ss e.piece (if e.side=0 then -1 else 1) ss.length then (st.1++[e],st.2++[⟨at_,2,guardB ss e.piece (if e.side=0 then -1 else 1) ss.length,0⟩])
  else overL js ss lies at_ n (st.1++[e],st.2) (farE e):=by
 rfl
def LookAt (w:World)(ps:List MPiece)(js:List MJoint)(ss:List MPiece)(lies:List MLie)(KT O M2:Nat)(at_:Int)(la:Option Addr)(lc bs:Nat)(n:Nat):Prop:=
 ∀ K st e W,LBase w ps KT O M2 at_ la lies.length lc bs K st W→ValidE ps e→2*ps.length+2≤n+st.1.length →
  Calls Tryz.prog 178 #[.pointer (some ⟨O,0,none⟩),endV e] W (Looked w ps KT O M2 at_ la lies.length lc bs (lookF js ss lies at_ n st e) K W)
theorem lpass_any (w:World)(M:Nat)(pa ja sa:Option Addr)(pc jc sc:Nat)(ps:List MPiece)(js:List MJoint)(ss:List MPiece)(lies:List MLie)(R:Hid (Right ps js ss))(KT O M2:Nat)(hT:Hid (TTrack w KT M pa ja sa pc jc sc ps js ss))(at_:Int)(la:Option Addr)(lc bs:Nat)(n:Nat)(IH:Hid (LookAt w ps js ss lies KT O M2 at_ la lc bs n))
  (K:Nat→Prop) (st:List MEnd × List MFlank) (W:World) (h:Hid (LBase w ps KT O M2 at_ la lies.length lc bs K st W)) (hn:Hid (2*ps.length+2≤n+st.1.length)) (j k t:Nat) (kd:Int) (hj:j<js.length) (ht:Hid (t<js[j].ends.length)) :
  Calls Tryz.prog 208 #[.pointer (some ⟨O,0,none⟩),passV j k t kd] W (Visited (fun K' u=>LBase w ps KT O M2 at_ la lies.length lc bs K' (lookF js ss lies at_ n st (endE js j t)) u) (fun _=>False) K W):=by
 have hee:=endE_at hj ht.out
 have hve:ValidE ps (endE js j t):=by rw [hee];exact R.out.ends j hj t ht.out
 have HLK:Hid (∀ u:World,Below W.heap.size W u→Calls Tryz.prog 178 #[.pointer (some ⟨O,0,none⟩),endV (endE js j t)] u (Looked w ps KT O M2 at_ la lies.length lc bs (lookF js ss lies at_ n st (endE js j t)) K W)):=fun u hu =>
  (IH.out K st (endE js j t) u (h.out.keep hu) hve hn.out).mono (fun e w' q=>q.after hu)
 have HEB:Hid (∀ u:World,Below W.heap.size W u→∀ fr kd:Value,Calls Tryz.prog 204 #[.pointer (some ⟨KT,0,none⟩),.agg #[.int .i64 j,fr,.int .i64 t,kd]] u fun e w'=>e = .returned (endV (endE js j t))∧Below u.heap.size u w'):=fun u hu fr kd=>by
  have q:=endBehind_any KT pa ja sa pc jc sc ps js ss j t fr kd u (hT.out.below (h.out.below.trans (hu.mono h.out.below.size))).net hj ht.out
  rw [← hee] at q
  exact q
 obtain ⟨x,y,h1,_,_⟩:=h.out.own
 have c0:W.cell? ⟨O,0,none⟩=some (.pointer (some ⟨KT,0,none⟩)):=h1.cell (i:=0) (by omega)
 have hzO:=h1.lt
 generalize endE js j t=en at HLK HEB ⊢
 unfold endV at HLK HEB
 unfold passV
 clear h1 hee hve
 go_enter Tryz.func208,Tryz.ntmps208
 go_upto_region 1 with fail
 generalize hV:World.alloc W _=V
 have hbV:Below W.heap.size W V:=by rw [← hV];exact (Below.refl _ _).alloc (Nat.le_refl _) _
 have s0:V.cell? ⟨W.heap.size,0,none⟩=some (.int .i64 (j:Int)):=by rw [← hV];simp [go_sem]
 have s1:V.cell? ⟨W.heap.size,1,none⟩=some (.int .i64 (k:Int)):=by rw [← hV];simp [go_sem]
 have s2:V.cell? ⟨W.heap.size,2,none⟩=some (.int .i64 (t:Int)):=by rw [← hV];simp [go_sem]
 have s3:V.cell? ⟨W.heap.size,3,none⟩=some (.iface (kindT kd) (.agg #[])):=by rw [← hV];simp [go_sem]
 have hzV:W.heap.size<V.heap.size:=by rw [← hV];simp
 replace c0:=cell_later hbV c0
 have HBV:=hidP hbV
 clear hV hbV
 obtain ⟨S,hS⟩:∃ S:World→Prop,∀ u,S u↔Below V.heap.size V u:=⟨_,fun _=>Iff.rfl⟩
 have HS0:=hidP hS
 have r0:∀ u:Held S,World.cell? u.val ⟨O,0,none⟩=some (.pointer (some ⟨KT,0,none⟩)):=fun u=>cell_later ((hS u.val).1 u.2) c0
 have r1:∀ u:Held S,World.cell? u.val ⟨W.heap.size,0,none⟩=some (.int .i64 (j:Int)):=fun u=>cell_later ((hS u.val).1 u.2) s0
 have r2:∀ u:Held S,World.cell? u.val ⟨W.heap.size,1,none⟩=some (.int .i64 (k:Int)):=fun u=>cell_later ((hS u.val).1 u.2) s1
 have r3:∀ u:Held S,World.cell? u.val ⟨W.heap.size,2,none⟩=some (.int .i64 (t:Int)):=fun u=>cell_later ((hS u.val).1 u.2) s2
 have r4:∀ u:Held S,World.cell? u.val ⟨W.heap.size,3,none⟩=some (.iface (kindT kd) (.agg #[])):=fun u=>cell_later ((hS u.val).1 u.2) s3
 have hS1:S V.drew:=(hS _).2 ((Below.refl _ _).drew)
 have hne:=held_ne hS1
 clear hS
 refine wp_region_tree (fun w' => ∃ u:Held S,w'=u.val) 7 (by kernel_rfl) (by kernel_rfl) (held_some hS1) ?_
 (refine wpT_sea 0 ?_;intro K hK;go_big_quiet_op;go_big_quiet_on);(refine wpT_sea 1 ?_;intro K hK;go_big_quiet_op;go_big_quiet_on);(refine wpT_sea 2 ?_;intro K hK;go_big_quiet_op;go_big_quiet_on);(refine wpT_sea 3 ?_;intro K hK;go_big_quiet_op;go_big_quiet_on);(refine wpT_sea 4 ?_;intro K hK;go_big_quiet_op;go_big_quiet_on);(refine wpT_sea 5 ?_;intro K hK;go_big_quiet_op;go_big_quiet_on)
 refine wpT_loud 6 (by rfl) (by kernel_rfl) (by kernel_rfl) ?_
 intro KK hK
 go_wp2_with (go_at_call 204;refine (HEB.out _ (HBV.out.trans ((Below.refl _ _).drew.mono HBV.out.size)) _ _).mono ?_;rintro e u2 ⟨rfl,hb2'⟩)
 have hb2:Below V.heap.size V u2:=(Below.refl _ _).drew.trans hb2'
 refine hK _ _ (held_some ((HS0.out _).2 hb2)) ?_
 clear hK KK hb2' r0 r1 r2 r3 r4 hS1 hne
 have HB2:Hid (Below W.heap.size W u2):=HBV.out.trans (hb2.mono HBV.out.size)
 clear hb2 c0 s0 s1 s2 s3
 refine wpT_done (by kernel_rfl) ?_
 go_wp2_with (go_at_call 178;refine (HLK.out _ HB2.out).mono ?_;rintro e u3 ⟨⟨v3,rfl⟩,ho3,hl3⟩)
 go_ret
 exact ⟨true,rfl,ho3,fun _=>hl3,fun h=>by cases h⟩
theorem fold_take {α:Type}(f:α→Nat→α)(L:List Nat)(m t:Nat)(a:α)(ht:L[m]? = some t):(L.take (m+1)).foldl f a=f ((L.take m).foldl f a) t:=by
 rw [List.take_add_one,ht,Option.toList,List.foldl_append]
 rfl
theorem lookOver_any (w:World)(M:Nat)(pa ja sa:Option Addr)(pc jc sc:Nat)(ps:List MPiece)(js:List MJoint)(ss:List MPiece)(lies:List MLie)(R:Hid (Right ps js ss))(KT O M2:Nat)(hT:Hid (TTrack w KT M pa ja sa pc jc sc ps js ss))(at_:Int)(la:Option Addr)(lc bs:Nat)(hL:Hid (EndsAt w la lies))(n:Nat)(IH:Hid (LookAt w ps js ss lies KT O M2 at_ la lc bs n))
  (K:Nat→Prop) (st:List MEnd × List MFlank) (f:MEnd) (W:World) (h:Hid (LBase w ps KT O M2 at_ la lies.length lc bs K st W)) (hlt:Hid (st.2.length+1≤st.1.length)) (hn:Hid (2*ps.length+2≤n+st.1.length)) (hv:Hid (ValidE ps f)) :
  Calls Tryz.prog 198 #[.pointer (some ⟨O,0,none⟩),endV f] W (Looked w ps KT O M2 at_ la lies.length lc bs (overL js ss lies at_ n st f) K W):=by
 have hnp:=R.out.np
 obtain ⟨j,k,hspF,hsp⟩:=R.out.spot hv.out
 obtain ⟨hj,hk⟩:∃ hj:j<js.length,k<js[j].ends.length:=by
  obtain ⟨_,hj,hk,_⟩:=spotF_some hspF
  simp only [Nat.sub_zero] at hj hk
  exact ⟨hj,hk⟩
 have hkd:=R.out.kind j hj
 have hke:=kindE_at hj
 have HLK:Hid (∀ u:World,Below W.heap.size W u→(Instr.lookup 257 (.map (some M)) (.agg #[.int .i64 f.piece,.int .i64 f.side]) false).run Tryz.prog u = .ok (spotV j k (kindE js j)) u):=fun u hu=>by
  have q:=(hT.out.below (h.out.below.trans (hu.mono h.out.below.size))).lookup R.out hv.out
  rw [hsp] at q
  exact q
 have HF:Hid (∀ (u:World),Below W.heap.size W u→∀ kd of_ li:Int,Calls Tryz.prog 197 #[.pointer (some ⟨O,0,none⟩),.int .i64 kd,.int .i64 of_,.int .i64 li] u (Looked w ps KT O M2 at_ la lies.length lc bs (st.1,st.2++[⟨at_,kd,of_,li⟩]) K W)):=fun u hu kd of_ li =>
  (found_any w ps hnp KT O M2 at_ la lies.length lc bs K st u (h.out.keep hu) hlt kd of_ li).mono (fun e w' q=>q.after hu)
 have HFS:Hid (∀ (u:World),Below W.heap.size W u→Calls Tryz.prog 207 #[.pointer (some ⟨O,0,none⟩),.agg #[.int .i64 (j:Int),.int .i64 (k:Int),.iface (kindT (kindE js j)) (.agg #[])]] u (Looked w ps KT O M2 at_ la lies.length lc bs (st.1,st.2++[if lieF lies j=k then ⟨at_,4,j,0⟩ else ⟨at_,3,j,3-k⟩]) K W)):=fun u hu =>
  (foundSwitch_any w ps hnp KT O M2 at_ la lies lc bs hL K st u (h.out.keep hu) hlt j k (kindE js j) (by have:=hkd.2;omega)).mono (fun e w' q=>q.after hu)
 have HPS:Hid (∀ (u:World),Below W.heap.size W u→Calls Tryz.prog 191 #[.pointer (some ⟨KT,0,none⟩),.agg #[.int .i64 f.piece,.int .i64 f.side],.func (.func 208) #[.pointer (some ⟨O,0,none⟩)] #[]] u fun e w'=>(∃ v,e = .returned v)∧Only K W w'∧∃ K',LBase w ps KT O M2 at_ la lies.length lc bs K' ((beyondF (kindE js j) k).foldl (fun s t=>lookF js ss lies at_ n s (endE js j t)) st) w'∧Grow K K' W):=fun u hu=>by
  have hLu:=h.out.keep hu
  have q:=passages_any KT M pa ja sa pc jc sc ps js ss R f 208 (.pointer (some ⟨O,0,none⟩)) (fun m K u=>LBase w ps KT O M2 at_ la lies.length lc bs K (((beyondF (kindE js j) k).take m).foldl (fun s t=>lookF js ss lies at_ n s (endE js j t)) st) u) (fun _=>False) K u (hT.out.below hLu.below) hv (fun args u=>by kernel_rfl) j k hsp hLu (fun m K2 u2 q=>q.lt) (fun m K2 u2 u3 q hb=>q.keep hb) (fun m t K2 u2 ht q=>by
   have htm:=List.mem_of_getElem? ht
   have htl:t<js[j].ends.length:=beyond_lt hkd.2.2 hk (by rw [← hke];exact htm)
   have hg:Grew ps st (((beyondF (kindE js j) k).take m).foldl (fun s t=>lookF js ss lies at_ n s (endE js j t)) st):=Grew.fold _ h.out.seen (fun t' ht' s hs=>look_grew R.out lies at_ n s _ hs (by
    have htl':t'<js[j].ends.length:=beyond_lt hkd.2.2 hk (by rw [← hke];exact List.mem_of_mem_take ht')
    rw [endE_at hj htl']
    exact R.out.ends j hj t' htl'))
   have hq:=lpass_any w M pa ja sa pc jc sc ps js ss lies R KT O M2 hT at_ la lc bs n IH K2 _ u2 q (by unfold Hid;have h1:=hn.out;have h2:=hg.2.1;omega) j k t (kindE js j) hj htl
   refine hq.mono ?_
   rintro e u3 ⟨b,e1,o1,i1,s1⟩
   refine ⟨b,e1,o1,fun hb=>?_,s1⟩
   obtain ⟨K3,i2,g2⟩:=i1 hb
   refine ⟨K3,?_,g2⟩
   rw [fold_take _ _ _ _ _ ht]
   exact i2)
  refine q.mono ?_
  rintro e u3 ⟨b,e1,o1,i1,s1⟩
  cases b
  ·exact (s1 rfl).elim
  ·obtain ⟨K3,i2,g2⟩:=i1 rfl
   rw [List.take_length] at i2
   exact ⟨⟨_,e1⟩,(Only.of_below hu).trans o1,K3,i2,g2.mono hu.size⟩
 have HOL:Hid (overL js ss lies at_ n st f=if kindE js j=1 then (st.1,st.2++[⟨at_,1,j,0⟩]) else if kindE js j=3∧k≠0 then (st.1,st.2++[if lieF lies j=k then ⟨at_,4,j,0⟩ else ⟨at_,3,j,3-k⟩]) else (beyondF (kindE js j) k).foldl (fun s t=>lookF js ss lies at_ n s (endE js j t)) st):=by
  unfold Hid overL
  rw [hsp]
 obtain ⟨x,y,h1,_,_⟩:=h.out.own
 have c0:W.cell? ⟨O,0,none⟩=some (.pointer (some ⟨KT,0,none⟩)):=h1.cell (i:=0) (by omega)
 have c3:=(hT.out.below h.out.below).c3
 have hK:=cellLt c3
 dsimp only at hK
 have hzO:=h1.lt
 have hk1:1≤kindE js j:=by rw [hke];exact hkd.1
 have hk4:kindE js j≤4:=by rw [hke];exact hkd.2.1
 generalize overL js ss lies at_ n st f=res at HOL ⊢
 generalize (beyondF (kindE js j) k).foldl (fun s t=>lookF js ss lies at_ n s (endE js j t)) st=fo at HPS HOL
 generalize (if lieF lies j=k then (⟨at_,4,j,0⟩:MFlank) else ⟨at_,3,j,3-k⟩)=sw at HFS HOL
 generalize kindE js j=kd at HLK HFS HOL hk1 hk4 hke
 unfold endV
 clear h1 hkd hke hspF hsp hk
 go_enter Tryz.func198,Tryz.ntmps198
 go_upto_region 1 with fail
 generalize hV:World.alloc W _=V
 have hbV:Below W.heap.size W V:=by rw [← hV];exact (Below.refl _ _).alloc (Nat.le_refl _) _
 have x0:V.cell? ⟨W.heap.size,0,none⟩=some (.int .i64 f.piece):=by rw [← hV];simp [go_sem]
 have x1:V.cell? ⟨W.heap.size,1,none⟩=some (.int .i64 f.side):=by rw [← hV];simp [go_sem]
 have hzV:W.heap.size<V.heap.size:=by rw [← hV];simp
 replace c0:=cell_later hbV c0
 replace c3:=cell_later hbV c3
 have HBV:=hidP hbV
 obtain ⟨S,hS⟩:∃ S:World→Prop,∀ u,S u↔Below V.heap.size V u:=⟨_,fun _=>Iff.rfl⟩
 have HS0:=hidP hS
 have r0:∀ u:Held S,World.cell? u.val ⟨O,0,none⟩=some (.pointer (some ⟨KT,0,none⟩)):=fun u=>cell_later ((hS u.val).1 u.2) c0
 have r1:∀ u:Held S,World.cell? u.val ⟨W.heap.size,0,none⟩=some (.int .i64 f.piece):=fun u=>cell_later ((hS u.val).1 u.2) x0
 have r2:∀ u:Held S,World.cell? u.val ⟨W.heap.size,1,none⟩=some (.int .i64 f.side):=fun u=>cell_later ((hS u.val).1 u.2) x1
 have r3:∀ u:Held S,World.cell? u.val ⟨KT,3,none⟩=some (.map (some M)):=fun u=>cell_later ((hS u.val).1 u.2) c3
 have r4:∀ u:Held S,(Instr.lookup 257 (.map (some M)) (.agg #[.int .i64 f.piece,.int .i64 f.side]) false).run Tryz.prog u.val = .ok (spotV j k kd) u.val:=fun u=>HLK.out u.val (HBV.out.trans (((hS u.val).1 u.2).mono HBV.out.size))
 have hS1:S V.drew:=(hS _).2 ((Below.refl _ _).drew)
 have hne:=held_ne hS1
 clear hS hV hbV
 go_cut [4] (fun v wx => ∃ b,v = .pointer (some ⟨b,0,none⟩)∧V.heap.size≤b∧wx.cell? ⟨b,0,none⟩=some (.int .i64 (j:Int))∧wx.cell? ⟨b,1,none⟩=some (.int .i64 (k:Int))∧wx.cell? ⟨b,2,none⟩=some (.iface (kindT kd) (.agg #[]))∧Below V.heap.size V wx)
 case first =>
  refine wp_region_tree (fun w' => ∃ u:Held S,w'=u.val) 10 (by kernel_rfl) (by kernel_rfl) (held_some hS1) ?_
  (refine wpT_sea 0 ?_;intro K hK;go_big_quiet_op;go_big_quiet_on);(refine wpT_sea 1 ?_;intro K hK;go_big_quiet_op;go_big_quiet_on);(refine wpT_sea 2 ?_;intro K hK;go_big_quiet_op;go_big_quiet_on);(refine wpT_sea 3 ?_;intro K hK;go_big_quiet_op;go_big_quiet_on);(refine wpT_sea 4 ?_;intro K hK;go_big_quiet_op;go_big_quiet_on);(refine wpT_sea 5 ?_;intro K hK;go_big_quiet_op;go_big_quiet_on);(refine wpT_sea 6 ?_;intro K hK;go_big_quiet_op;go_big_quiet_on);(refine wpT_sea 7 ?_;intro K hK;go_big_quiet_op;go_big_quiet_on);(refine wpT_sea 8 ?_;intro K hK;go_big_quiet_op;go_big_quiet_on)
  refine wpT_loud 9 (by rfl) (by kernel_rfl) (by kernel_rfl) ?_
  intro KK hK
  go_wp2_with fail
  have hb3:Below V.heap.size V (V.alloc (Obj.cells #[Value.int IntKind.i64 0,Value.int IntKind.i64 0,Value.nilIface] 265)).drew:=((Below.refl _ _).alloc (Nat.le_refl _) _).drew
  refine hK _ _ (held_some ((HS0.out _).2 hb3)) ?_
  clear hK KK
  refine wpT_done (by kernel_rfl) ?_
  unfold spotV
  clear r0 r1 r2 r3 r4 hS1 hne hb3
  go_wp2_with fail
  go_meet
  exact ⟨_,rfl,Nat.le_refl _,by simp [go_sem],by simp [go_sem],by simp [go_sem],((Below.refl _ _).alloc (Nat.le_refl _) _).drew⟩
 case rest =>
  obtain ⟨b,rfl,hb,z0,z1,z2,hbc⟩:=hcut
  clear r0 r1 r2 r3 r4 hS1 hne
  have hzb:=cellLt z0
  dsimp only at hzb
  replace c0:=cell_later hbc c0
  replace x0:=cell_later hbc x0
  replace x1:=cell_later hbc x1
  have hzc:=hbc.size
  have HBC:Hid (Below W.heap.size W wc):=HBV.out.trans (hbc.mono HBV.out.size)
  clear hbc c3
  have hcs:kd=1∨(kd≠1∧kd=3∧k≠0)∨(kd≠1∧kd=3∧k=0)∨(kd≠1∧kd≠3):=by omega
  rcases hcs with hq | ⟨hq1,hq3,hqk⟩ | ⟨hq1,hq3,hqk⟩ | ⟨hq1,hq3⟩
  ·have hisB:∀ w,(Instr.typeAssert (.iface (kindT kd) (.agg #[])) 261 299 true).run Tryz.prog w = .ok (.tuple #[.agg #[],.bool true]) w:=fun w=>(isB w _ kd).trans (by rw [decide_eq_true hq])
   have HRES:=hidP (HOL.out.trans (if_pos hq))
   clear hq
   go_wp2_with (go_at_call 197;refine (HF.out _ HBC.out _ _ _).mono ?_;rintro e u3 ⟨⟨v3,rfl⟩,ho3,hl3⟩)
   rw [HRES.out]
   exact bodyPost_ret (results_none rfl _ _ _) rfl ⟨⟨_,rfl⟩,ho3,hl3⟩
  ·have hisB:∀ w,(Instr.typeAssert (.iface (kindT kd) (.agg #[])) 261 299 true).run Tryz.prog w = .ok (.tuple #[.agg #[],.bool false]) w:=fun w=>(isB w _ kd).trans (by rw [decide_eq_false hq1])
   have hisS:∀ w,(Instr.typeAssert (.iface (kindT kd) (.agg #[])) 261 301 true).run Tryz.prog w = .ok (.tuple #[.agg #[],.bool true]) w:=fun w=>(isS w _ kd hk1 hk4).trans (by rw [decide_eq_true hq3])
   have hkn:((k:Int) != 0)=true:=by simp;omega
   have HRES:=hidP (HOL.out.trans ((if_neg hq1).trans (if_pos ⟨hq3,hqk⟩)))
   clear hq1 hq3 hqk
   go_wp2_with (go_at_call 207;refine (HFS.out _ HBC.out).mono ?_;rintro e u3 ⟨⟨v3,rfl⟩,ho3,hl3⟩)
   rw [HRES.out]
   exact bodyPost_ret (results_none rfl _ _ _) rfl ⟨⟨_,rfl⟩,ho3,hl3⟩
  ·have hisB:∀ w,(Instr.typeAssert (.iface (kindT kd) (.agg #[])) 261 299 true).run Tryz.prog w = .ok (.tuple #[.agg #[],.bool false]) w:=fun w=>(isB w _ kd).trans (by rw [decide_eq_false hq1])
   have hisS:∀ w,(Instr.typeAssert (.iface (kindT kd) (.agg #[])) 261 301 true).run Tryz.prog w = .ok (.tuple #[.agg #[],.bool true]) w:=fun w=>(isS w _ kd hk1 hk4).trans (by rw [decide_eq_true hq3])
   have hkn:((k:Int) != 0)=false:=by simp;omega
   have HRES:=hidP (HOL.out.trans ((if_neg hq1).trans (if_neg (fun q=>q.2 hqk))))
   clear hq1 hq3 hqk
   go_upto_region 8 with fail
   obtain ⟨S,hS⟩:∃ S:World→Prop,∀ u,S u↔Below wc.heap.size wc u:=⟨_,fun _=>Iff.rfl⟩
   have HS0:=hidP hS
   have r0:∀ u:Held S,World.cell? u.val ⟨O,0,none⟩=some (.pointer (some ⟨KT,0,none⟩)):=fun u=>cell_later ((hS u.val).1 u.2) c0
   have r1:∀ u:Held S,World.cell? u.val ⟨W.heap.size,0,none⟩=some (.int .i64 f.piece):=fun u=>cell_later ((hS u.val).1 u.2) x0
   have r2:∀ u:Held S,World.cell? u.val ⟨W.heap.size,1,none⟩=some (.int .i64 f.side):=fun u=>cell_later ((hS u.val).1 u.2) x1
   have hS1:S wc.drew:=(hS _).2 ((Below.refl _ _).drew)
   have hne:=held_ne hS1
   have hmf:∀ (fn:Fn) (first cap:Array Value) (w:World),(Instr.makeFunc fn first cap).run Tryz.prog w = .ok (.func fn first cap) w:=fun _ _ _ _=>rfl
   clear hS
   refine wp_region_tree (fun w' => ∃ u:Held S,w'=u.val) 7 (by kernel_rfl) (by kernel_rfl) (held_some hS1) ?_
   (refine wpT_sea 0 ?_;intro K hK;go_big_quiet_op;go_big_quiet_on);(refine wpT_sea 1 ?_;intro K hK;go_big_quiet_op;go_big_quiet_on);(refine wpT_sea 2 ?_;intro K hK;go_big_quiet_op;go_big_quiet_on);(refine wpT_sea 3 ?_;intro K hK;go_big_quiet_op;go_big_quiet_on);(refine wpT_sea 4 ?_;intro K hK;go_big_quiet_op;go_big_quiet_on);(refine wpT_sea 5 ?_;intro K hK;go_big_quiet_op;go_big_quiet_on);(refine wpT_sea 6 ?_;intro K hK;go_big_quiet_op;go_big_quiet_on)
   clear r0 r1 r2 hS1 hne
   refine wpT_done (by kernel_rfl) ?_
   go_wp2_with (go_at_call 191;refine (HPS.out _ (HBC.out.trans ((Below.refl _ _).drew.mono HBC.out.size))).mono ?_;rintro e u3 ⟨⟨v3,rfl⟩,ho3,hl3⟩)
   rw [HRES.out]
   exact bodyPost_end (results_none rfl _ _ _) rfl ⟨⟨_,rfl⟩,ho3,hl3⟩
  ·have hisB:∀ w,(Instr.typeAssert (.iface (kindT kd) (.agg #[])) 261 299 true).run Tryz.prog w = .ok (.tuple #[.agg #[],.bool false]) w:=fun w=>(isB w _ kd).trans (by rw [decide_eq_false hq1])
   have hisS:∀ w,(Instr.typeAssert (.iface (kindT kd) (.agg #[])) 261 301 true).run Tryz.prog w = .ok (.tuple #[.agg #[],.bool false]) w:=fun w=>(isS w _ kd hk1 hk4).trans (by rw [decide_eq_false hq3])
   have HRES:=hidP (HOL.out.trans ((if_neg hq1).trans (if_neg (fun q=>hq3 q.1))))
   clear hq1 hq3
   go_upto_region 8 with fail
   obtain ⟨S,hS⟩:∃ S:World→Prop,∀ u,S u↔Below wc.heap.size wc u:=⟨_,fun _=>Iff.rfl⟩
   have HS0:=hidP hS
   have r0:∀ u:Held S,World.cell? u.val ⟨O,0,none⟩=some (.pointer (some ⟨KT,0,none⟩)):=fun u=>cell_later ((hS u.val).1 u.2) c0
   have r1:∀ u:Held S,World.cell? u.val ⟨W.heap.size,0,none⟩=some (.int .i64 f.piece):=fun u=>cell_later ((hS u.val).1 u.2) x0
   have r2:∀ u:Held S,World.cell? u.val ⟨W.heap.size,1,none⟩=some (.int .i64 f.side):=fun u=>cell_later ((hS u.val).1 u.2) x1
   have hS1:S wc.drew:=(hS _).2 ((Below.refl _ _).drew)
   have hne:=held_ne hS1
   have hmf:∀ (fn:Fn) (first cap:Array Value) (w:World),(Instr.makeFunc fn first cap).run Tryz.prog w = .ok (.func fn first cap) w:=fun _ _ _ _=>rfl
   clear hS
   refine wp_region_tree (fun w' => ∃ u:Held S,w'=u.val) 7 (by kernel_rfl) (by kernel_rfl) (held_some hS1) ?_
   (refine wpT_sea 0 ?_;intro K hK;go_big_quiet_op;go_big_quiet_on);(refine wpT_sea 1 ?_;intro K hK;go_big_quiet_op;go_big_quiet_on);(refine wpT_sea 2 ?_;intro K hK;go_big_quiet_op;go_big_quiet_on);(refine wpT_sea 3 ?_;intro K hK;go_big_quiet_op;go_big_quiet_on);(refine wpT_sea 4 ?_;intro K hK;go_big_quiet_op;go_big_quiet_on);(refine wpT_sea 5 ?_;intro K hK;go_big_quiet_op;go_big_quiet_on);(refine wpT_sea 6 ?_;intro K hK;go_big_quiet_op;go_big_quiet_on)
   clear r0 r1 r2 hS1 hne
   refine wpT_done (by kernel_rfl) ?_
   go_wp2_with (go_at_call 191;refine (HPS.out _ (HBC.out.trans ((Below.refl _ _).drew.mono HBC.out.size))).mono ?_;rintro e u3 ⟨⟨v3,rfl⟩,ho3,hl3⟩)
   rw [HRES.out]
   exact bodyPost_end (results_none rfl _ _ _) rfl ⟨⟨_,rfl⟩,ho3,hl3⟩
theorem lookFrom_step (w:World)(M:Nat)(pa ja sa:Option Addr)(pc jc sc:Nat)(ps:List MPiece)(js:List MJoint)(ss:List MPiece)(lies:List MLie)(R:Hid (Right ps js ss))(KT O M2:Nat)(hT:Hid (TTrack w KT M pa ja sa pc jc sc ps js ss))(at_:Int)(la:Option Addr)(lc bs:Nat)(hL:Hid (EndsAt w la lies))(n:Nat)(IH:Hid (LookAt w ps js ss lies KT O M2 at_ la lc bs n)):LookAt w ps js ss lies KT O M2 at_ la lc bs (n+1):=by
 intro K st e W hB hv hn
 have h:=hidP hB
 have HV:=hidP hv
 have HN:=hidP hn
 have hnp:=R.out.np
 have hfew:=hB.seen.few
 have hfl:=hB.fl
 have hlow:=hB.low
 obtain ⟨x,y,h1,h2,h5⟩:=hB.own
 obtain ⟨kl,hkey⟩:=keyEnd hv R.out.np
 have c0:W.cell? ⟨O,0,none⟩=some (.pointer (some ⟨KT,0,none⟩)):=h1.cell (i:=0) (by omega)
 have c3:W.cell? ⟨O,3,none⟩=some (.map (some M2)):=h1.cell (i:=3) (by omega)
 have hzO:=h1.lt
 have HLK:Hid (∀ u:World,Below W.heap.size W u→(Instr.lookup 314 (.map (some M2)) (endV e) false).run Tryz.prog u = .ok (.int .i64 (if st.1.any (fun x=>sameE x e)=true then 1 else 0)) u):=fun u hu=>by
  have q:=(hB.map.below hu).lookup lawE Tryz.underlying314 hkey
  rw [seenF_at] at q
  exact q
 have H1:=hidP h1
 have H2:=hidP h2
 have H5:=hidP h5
 have HSU:=hidP (lookF_succ js ss lies at_ n st e)
 clear hB hn h1 h2 h5 hv
 unfold endV
 unfold endV at HLK
 go_enter Tryz.func178,Tryz.ntmps178
 go_upto_region 1 with fail
 generalize hV:World.alloc W _=V
 have hbV:Below W.heap.size W V:=by rw [← hV];exact (Below.refl _ _).alloc (Nat.le_refl _) _
 have x0:V.cell? ⟨W.heap.size,0,none⟩=some (.int .i64 e.piece):=by rw [← hV];simp [go_sem]
 have x1:V.cell? ⟨W.heap.size,1,none⟩=some (.int .i64 e.side):=by rw [← hV];simp [go_sem]
 have hzV:W.heap.size<V.heap.size:=by rw [← hV];simp
 replace c0:=cell_later hbV c0
 replace c3:=cell_later hbV c3
 have HBV:=hidP hbV
 obtain ⟨S,hS⟩:∃ S:World→Prop,∀ u,S u↔Below V.heap.size V u:=⟨_,fun _=>Iff.rfl⟩
 have HS0:=hidP hS
 have r1:∀ u:Held S,World.cell? u.val ⟨W.heap.size,0,none⟩=some (.int .i64 e.piece):=fun u=>cell_later ((hS u.val).1 u.2) x0
 have r2:∀ u:Held S,World.cell? u.val ⟨W.heap.size,1,none⟩=some (.int .i64 e.side):=fun u=>cell_later ((hS u.val).1 u.2) x1
 have r3:∀ u:Held S,World.cell? u.val ⟨O,3,none⟩=some (.map (some M2)):=fun u=>cell_later ((hS u.val).1 u.2) c3
 have r4:∀ u:Held S,(Instr.lookup 314 (.map (some M2)) (.agg #[.int .i64 e.piece,.int .i64 e.side]) false).run Tryz.prog u.val = .ok (.int .i64 (if st.1.any (fun x=>sameE x e)=true then 1 else 0)) u.val:=fun u=>HLK.out u.val (HBV.out.trans (((hS u.val).1 u.2).mono HBV.out.size))
 have hS1:S V.drew:=(hS _).2 ((Below.refl _ _).drew)
 have hne:=held_ne hS1
 clear hS hV hbV
 by_cases hany:st.1.any (fun x=>sameE x e)=true
 ·have HANY:=hidP hany
  have hif:(if st.1.any (fun x=>sameE x e)=true then (1:Int) else 0)=1:=if_pos hany
  rw [hif] at r4
  have HRES:=hidP (HSU.out.trans (if_pos hany))
  clear hany hif
  refine wp_region_tree (fun w' => ∃ u:Held S,w'=u.val) 6 (by kernel_rfl) (by kernel_rfl) (held_some hS1) ?_
  (refine wpT_sea 0 ?_;intro K hK;go_big_quiet_op;go_big_quiet_on);(refine wpT_sea 1 ?_;intro K hK;go_big_quiet_op;go_big_quiet_on);(refine wpT_sea 2 ?_;intro K hK;go_big_quiet_op;go_big_quiet_on);(refine wpT_sea 3 ?_;intro K hK;go_big_quiet_op;go_big_quiet_on);(refine wpT_sea 4 ?_;intro K hK;go_big_quiet_op;go_big_quiet_on);(refine wpT_sea 5 ?_;intro K hK;go_big_quiet_op;go_big_quiet_on)
  clear r1 r2 r3 r4 hS1 hne
  refine wpT_done (by kernel_rfl) ?_
  go_wp2_with fail
  have hbw:Below W.heap.size W V.drew:=HBV.out.trans ((Below.refl _ _).drew.mono HBV.out.size)
  rw [HRES.out]
  exact bodyPost_ret (results_none rfl _ _ _) rfl ⟨⟨_,rfl⟩,Only.of_below hbw,K,h.out.keep hbw,Grow.refl _ _⟩
 ·have HANY:=hidP hany
  have hif:(if st.1.any (fun x=>sameE x e)=true then (1:Int) else 0)=0:=if_neg hany
  rw [hif] at r4
  have HRE2:=hidP (HSU.out.trans (if_neg hany))
  have HSN:=hidP (h.out.seen.push HV.out hany)
  have hs0:seenF Classical.propDecidable st.1 (endV e)=0:=by rw [seenF_at,if_neg hany]
  have hM2:CMap 192 V.drew.drew M2 st.1.length (seenF Classical.propDecidable st.1):=(h.out.map.below HBV.out).below ((Below.refl _ _).drew.drew)
  have hlk:=hM2.lookup lawE Tryz.underlying314 hkey
  rw [hs0] at hlk
  obtain ⟨v0,cn,w1,w2,hme,hl1,hes,hM3,hg⟩:=hM2.entry lawKE Tryz.underlying314 (by unfold maxLen;omega) hkey 1 (by decide) (seenF Classical.propDecidable (st.1++[e])) seenF_put (fun k hk=>seenF_other hk)
  rw [hs0] at hl1
  have HM3:=hidP hM3
  have HG:=hidP hg
  unfold endV at hlk hme hl1
  clear hany hif hs0 hM3 hM2 hg hkey
  refine wp_region_tree (fun w' => ∃ u:Held S,w'=u.val) 6 (by kernel_rfl) (by kernel_rfl) (held_some hS1) ?_
  (refine wpT_sea 0 ?_;intro K hK;go_big_quiet_op;go_big_quiet_on);(refine wpT_sea 1 ?_;intro K hK;go_big_quiet_op;go_big_quiet_on);(refine wpT_sea 2 ?_;intro K hK;go_big_quiet_op;go_big_quiet_on);(refine wpT_sea 3 ?_;intro K hK;go_big_quiet_op;go_big_quiet_on);(refine wpT_sea 4 ?_;intro K hK;go_big_quiet_op;go_big_quiet_on);(refine wpT_sea 5 ?_;intro K hK;go_big_quiet_op;go_big_quiet_on)
  clear r1 r2 r3 r4 hS1 hne
  refine wpT_done (by kernel_rfl) ?_
  go_upto_region 2 with fail
  have HG0:Hid (Only (fun k=>k=M2) V w2):=(Only.of_below ((Below.refl _ _).drew.drew)).trans (Only.of_grown HG.out (fun k hk=>by cases hk;rfl))
  go_cut [19] (fun _ wx=>wx=w2)
  case first =>
   go_region
   all_goals
    go_wp2_with fail
    go_meet
    rfl
  case rest =>
   subst hcut
   have hKM:K M2:=(H5.out M2).2 (Or.inr (Or.inl rfl))
   have hOW:Only K W wc:=(Only.of_below HBV.out).trans (HG0.out.mono (fun k hk=>by subst hk;exact hKM))
   have hzW:=HBV.out.size
   have hM2l:=h.out.map.lt
   have hnO:¬ O=M2:=by omega
   have hlo:=h.out.low_own
   have hbW:Below w.heap.size w wc:=h.out.below.trans (hOW.below h.out.below.size (fun k hk e=>by have:=hlo k e;omega))
   have hrO:=H1.out.of_block ((HG0.out.block _ (Nat.lt_of_lt_of_le H1.out.lt hzW) hnO).trans (HBV.out.block _ H1.out.lt))
   have hxl:(st.1++[e]).length=st.1.length+1:=by simp
   have HLB:Hid (LBase w ps KT O M2 at_ la lies.length lc bs K (st.1++[e],st.2) wc):=by
    refine ⟨hbW,⟨x,y,hrO,owns_only (owns_below H2.out HBV.out) HG0.out (fun k hk=>by omega),H5.out⟩,?_,hlow,Nat.le_trans h.out.hi hOW.size,HSN.out,by simp only [hxl];omega⟩
    simp only [hxl]
    exact HM3.out
   have HOW:=hidP hOW
   replace c0:=HG0.out.cell c0 (by show ¬ O=M2;exact hnO)
   replace x0:=HG0.out.cell x0 (by show ¬ W.heap.size=M2;omega)
   replace x1:=HG0.out.cell x1 (by show ¬ W.heap.size=M2;omega)
   have hzc:=cellLt c0
   have hzx:=cellLt x0
   dsimp only at hzc hzx
   have HTB:Hid (∀ u:World,Below wc.heap.size wc u→TTrack u KT M pa ja sa pc jc sc ps js ss):=fun u hu=>hT.out.below (hbW.trans (hu.mono hbW.size))
   have hsd:(e.side=0∧(if e.side=0 then (-1:Int) else 1) = -1)∨(e.side=1∧(if e.side=0 then (-1:Int) else 1)=1):=by
    obtain ⟨_,_,_,q⟩:=HV.out
    rcases q with q | q
    ·exact Or.inl ⟨q,if_pos q⟩
    ·exact Or.inr ⟨q,if_neg (by omega)⟩
   have HGU:Hid (∀ u:World,Below wc.heap.size wc u→Calls Tryz.prog 196 #[.pointer (some ⟨KT,0,none⟩),.agg #[.int .i64 e.piece,.int .i64 e.side]] u fun r w'=>r = .returned (.int .i64 (guardB ss e.piece (if e.side=0 then -1 else 1) ss.length))∧Below u.heap.size u w'):=fun u hu=>guardOf_any KT pa ja sa pc jc sc ps js ss e.piece e.side _ u (HTB.out u hu).net hsd R.out.speeds
   have hsd2:0≤e.side∧e.side≤1:=by omega
   have HFE:Hid (∀ u:World,Calls Tryz.prog 174 #[.agg #[.int .i64 e.piece,.int .i64 e.side]] u fun r w'=>r = .returned (.agg #[.int .i64 (farE e).piece,.int .i64 (farE e).side])∧Below u.heap.size u w'):=fun u=>farEnd_any e.piece e.side u hsd2.1 hsd2.2
   have HFO:Hid (∀ u:World,Below wc.heap.size wc u→∀ kd of_ li:Int,Calls Tryz.prog 197 #[.pointer (some ⟨O,0,none⟩),.int .i64 kd,.int .i64 of_,.int .i64 li] u (Looked w ps KT O M2 at_ la lies.length lc bs (st.1++[e],st.2++[⟨at_,kd,of_,li⟩]) K wc)):=fun u hu kd of_ li =>
    (found_any w ps hnp KT O M2 at_ la lies.length lc bs K (st.1++[e],st.2) u (HLB.out.keep hu) (by unfold Hid;simp only [hxl];omega) kd of_ li).mono (fun _ _ q=>q.after hu)
   have HLO:Hid (∀ u:World,Below wc.heap.size wc u→Calls Tryz.prog 198 #[.pointer (some ⟨O,0,none⟩),.agg #[.int .i64 (farE e).piece,.int .i64 (farE e).side]] u (Looked w ps KT O M2 at_ la lies.length lc bs (overL js ss lies at_ n (st.1++[e],st.2) (farE e)) K wc)):=fun u hu =>
    (lookOver_any w M pa ja sa pc jc sc ps js ss lies R KT O M2 hT at_ la lc bs hL n IH K (st.1++[e],st.2) (farE e) u (HLB.out.keep hu) (by unfold Hid;simp only [hxl];omega) (by unfold Hid;have:=HN.out;simp only [hxl];omega) (farE_valid HV.out)).mono (fun _ _ q=>q.after hu)
   generalize guardB ss e.piece (if e.side=0 then -1 else 1) ss.length=gd at HGU HRE2
   generalize overL js ss lies at_ n (st.1++[e],st.2) (farE e)=ov at HLO HRE2
   generalize farE e=fa at HFE HLO
   clear hOW hlk hme hl1 hes hrO hbW hxl hsd hsd2 hKM c3
   obtain ⟨S,hS⟩:∃ S:World→Prop,∀ u,S u↔Below wc.heap.size wc u:=⟨_,fun _=>Iff.rfl⟩
   have HS1:=hidP hS
   have r0:∀ u:Held S,World.cell? u.val ⟨O,0,none⟩=some (.pointer (some ⟨KT,0,none⟩)):=fun u=>cell_later ((hS u.val).1 u.2) c0
   have r1:∀ u:Held S,World.cell? u.val ⟨W.heap.size,0,none⟩=some (.int .i64 e.piece):=fun u=>cell_later ((hS u.val).1 u.2) x0
   have r2:∀ u:Held S,World.cell? u.val ⟨W.heap.size,1,none⟩=some (.int .i64 e.side):=fun u=>cell_later ((hS u.val).1 u.2) x1
   have hS1:S wc.drew:=(hS _).2 ((Below.refl _ _).drew)
   have hne:=held_ne hS1
   clear hS
   go_upto_region 3 with fail
   refine wp_region_tree (fun w' => ∃ u:Held S,w'=u.val) 6 (by kernel_rfl) (by kernel_rfl) (held_some hS1) ?_
   (refine wpT_sea 0 ?_;intro K hK;go_big_quiet_op;go_big_quiet_on);(refine wpT_sea 1 ?_;intro K hK;go_big_quiet_op;go_big_quiet_on);(refine wpT_sea 2 ?_;intro K hK;go_big_quiet_op;go_big_quiet_on);(refine wpT_sea 3 ?_;intro K hK;go_big_quiet_op;go_big_quiet_on);(refine wpT_sea 4 ?_;intro K hK;go_big_quiet_op;go_big_quiet_on)
   refine wpT_loud 5 (by rfl) (by kernel_rfl) (by kernel_rfl) ?_
   intro KK hK
   go_wp2_with (go_at_call 196;refine (HGU.out _ ((Below.refl _ _).drew)).mono ?_;rintro r u2 ⟨rfl,hb2'⟩)
   have hb2:Below wc.heap.size wc u2:=(Below.refl _ _).drew.trans hb2'
   refine hK _ _ (held_some ((HS1.out _).2 hb2)) ?_
   clear hK KK hb2' r0 r1 r2 hS1 hne
   replace x0:=cell_later hb2 x0
   replace x1:=cell_later hb2 x1
   have HB2:=hidP hb2
   have hz2:=cellLt x0
   dsimp only at hz2
   clear hb2 c0
   refine wpT_done (by kernel_rfl) ?_
   by_cases hgd:0≤gd
   ·have HRES:=hidP (HRE2.out.trans (if_pos hgd))
    go_wp2_with (go_at_call 197;refine (HFO.out _ HB2.out _ _ _).mono ?_;rintro r u3 ⟨⟨v3,rfl⟩,ho3,K3,hl3,hg3⟩)
    rw [HRES.out]
    exact bodyPost_ret (results_none rfl _ _ _) rfl ⟨⟨_,rfl⟩,HOW.out.trans ho3,K3,hl3,hg3.mono HOW.out.size⟩
   ·have HRES:=hidP (HRE2.out.trans (if_neg hgd))
    go_wp2_with (first | (go_at_call 174;refine (HFE.out _).mono ?_;rintro r u4 ⟨rfl,hb4⟩;have HB4:Hid (Below wc.heap.size wc u4):=HB2.out.trans (hb4.mono HB2.out.size);clear hb4) | (go_at_call 198;refine (HLO.out _ HB4.out).mono ?_;rintro r u3 ⟨⟨v3,rfl⟩,ho3,K3,hl3,hg3⟩))
    rw [HRES.out]
    exact bodyPost_end (results_none rfl _ _ _) rfl ⟨⟨_,rfl⟩,HOW.out.trans ho3,K3,hl3,hg3.mono HOW.out.size⟩
theorem lookFrom_any (w:World)(M:Nat)(pa ja sa:Option Addr)(pc jc sc:Nat)(ps:List MPiece)(js:List MJoint)(ss:List MPiece)(lies:List MLie)(R:Hid (Right ps js ss))(KT O M2:Nat)(hT:Hid (TTrack w KT M pa ja sa pc jc sc ps js ss))(at_:Int)(la:Option Addr)(lc bs:Nat)(hL:Hid (EndsAt w la lies)):∀ n,LookAt w ps js ss lies KT O M2 at_ la lc bs n
 | 0=>fun K st e W hB hv hn=>by
  have:=hB.seen.few
  omega
 | n+1=>lookFrom_step w M pa ja sa pc jc sc ps js ss lies R KT O M2 hT at_ la lc bs hL n (lookFrom_any w M pa ja sa pc jc sc ps js ss lies R KT O M2 hT at_ la lc bs hL n)
theorem own_nil {w:World}{B e s n:Nat}{x:Option Addr}{y:Nat}{xs:List Value}(h:w.ownsRow B e s (.slice x n y) n xs)(hx:x=none):n=0∧y=0:=by
 rcases h.2 with ⟨h1,h2⟩ | ⟨g,cap,cur,h1,_⟩
 ·injection h1 with _ _ h3
  exact ⟨h2,h3⟩
 ·injection h1 with h3
  rw [hx] at h3
  cases h3
theorem own_news {w:World}{B e s n:Nat}{x:Option Addr}{y:Nat}{xs:List Value}(h:w.ownsRow B e s (.slice x n y) n xs):∀ ad,x=some ad→∀ j u,xs[j]? = some u→w.cell? (ad.add j)=some u:=by
 intro ad hx j u hu
 rcases h.2 with ⟨h1,h2⟩ | ⟨g,cap,cur,h1,_⟩
 ·injection h1 with h3
  rw [hx] at h3
  cases h3
 ·injection h1 with h3
  rw [hx] at h3
  injection h3 with h3
  rw [h3]
  exact h.cells (by rw [hx,h3];rfl) j u hu
theorem flanksOf_any (KT M:Nat)(pa ja sa:Option Addr)(pc jc sc:Nat)(ps:List MPiece)(js:List MJoint)(ss:List MPiece)(lies:List MLie)(R:Hid (Right ps js ss))(la:Option Addr)(lc:Nat)(w:World)(hT:Hid (TTrack w KT M pa ja sa pc jc sc ps js ss))(hL:Hid (EndsAt w la lies))
  (hlv:Hid (∀ l ∈ lies,∃ (j:Nat) (hj:j<js.length),l.piece=j∧js[j].kind=3∧(l.side=1∨l.side=2))) (hll:lies.length≤120) :
  Calls Tryz.prog 143 #[.pointer (some ⟨KT,0,none⟩),.slice la lies.length lc] w fun e w' => ∃ x y,e = .returned (.slice x (flanksF ps js ss lies lies).length y)∧w'.ownsRow w.heap.size 133 4 (.slice x (flanksF ps js ss lies lies).length y) (flanksF ps js ss lies lies).length (flatF (flanksF ps js ss lies lies))∧Below w.heap.size w w':=by
 have hmm := @run_makeMap Tryz.prog
 have hnp:=R.out.np
 go_enter Tryz.func143,Tryz.ntmps143
 go_wp2_with fail
 go_loopw [5,11] (fun v c wr => ∃ (m:Nat) (x:Option Addr) (y:Nat),m≤lies.length∧c = .int .i64 m∧v = .slice x (flanksF ps js ss lies (lies.take m)).length y∧Hid (wr.ownsRow w.heap.size 133 4 (.slice x (flanksF ps js ss lies (lies.take m)).length y) (flanksF ps js ss lies (lies.take m)).length (flatF (flanksF ps js ss lies (lies.take m))))∧Hid ((flanksF ps js ss lies (lies.take m)).length≤200*m)∧Below w.heap.size w wr) (fun _ c _=>lies.length-(intOf c).toNat)
 case atStart=>exact ⟨0,none,0,Nat.zero_le _,rfl,rfl,⟨rfl,Or.inl ⟨rfl,rfl⟩⟩,Nat.zero_le _,Below.refl _ _⟩
 case round =>
  obtain ⟨m,x,y,hm,rfl,rfl,HO,HFL,hb⟩:=hrel
  have hbs:=hb.size
  have HB:=hidP hb
  by_cases hm':m<lies.length
  ·have hmi:(m:Int)<lies.length:=by omega
   obtain ⟨bl,ol,rfl,hpl⟩:=(hL.out.below hb).2.resolve_left (nz hm')
   obtain ⟨l0,l1⟩:=hpl m hm'
   have hzl:=cellLt l0
   dsimp only at hzl
   obtain ⟨j,hj,hlp,hk3,hls⟩:=hlv.out lies[m] (List.getElem_mem hm')
   have HTW:=hidP (hT.out.below hb)
   have hel:js[j].ends.length=3:=by have:=(R.out.kind j hj).2.2;omega
   obtain ⟨t,ht0,ht⟩:∃ t:Nat,(t:Int)=3-lies[m].side∧t<js[j].ends.length:=⟨(3-lies[m].side).toNat,by omega,by omega⟩
   have HSN:Hid (flanksF ps js ss lies (lies.take (m+1))=flanksF ps js ss lies (lies.take m)++(lookF js ss lies (j:Int) (depthR ps) ([],[]) (endE js j t)).2):=by
    unfold Hid
    rw [List.take_succ_eq_append_getElem hm',flanksF_snoc,hlp,← ht0]
    simp
   have hve:ValidE ps (endE js j t):=by rw [endE_at hj ht];exact R.out.ends j hj t ht
   have hgr:=look_grew R.out lies (j:Int) (depthR ps) ([],[]) (endE js j t) (Seen.nil ps) hve
   have hf1:=hgr.1.few
   have hf2:=hgr.2.2
   simp only [List.length_nil] at hf2
   have HNX:Hid ((lookF js ss lies (j:Int) (depthR ps) ([],[]) (endE js j t)).2.length≤200):=by unfold Hid;omega
   have c1:=HTW.out.net.c1
   obtain ⟨bj,oj,hja,hpcj⟩:=HTW.out.net.J.2.2.resolve_left (nz hj)
   rw [hja] at c1
   obtain ⟨_,_,ea,ec,c3,c4⟩:=hpcj j hj
   obtain ⟨be,oe,hea,hpe⟩:=c4.2.resolve_left (nz ht)
   rw [hea] at c3
   obtain ⟨g0,g1⟩:=hpe t ht
   have hee:=endE_at hj ht
   rw [← hee] at g0 g1
   rw [hlp] at l0
   have hji:(j:Int)<js.length:=by omega
   have hti:(t:Int)<js[j].ends.length:=by omega
   have hjl:=HTW.out.net.J.1
   unfold maxLen at hjl
   have HOT:Hid (∀ u:World,Calls Tryz.prog 179 #[.int .i64 lies[m].side] u fun e w'=>e = .returned (.int .i64 (t:Int))∧Below u.heap.size u w'):=fun u=>by
    rw [ht0]
    exact otherLie_any lies[m].side u (by omega) (by omega)
   have hsd0:0≤lies[m].side:=by omega
   have HVE:=hidP hve
   generalize hen:endE js j t=en at HSN hve HNX g0 g1 HVE
   generalize hsd:lies[m].side=sd at HOT l1 hsd0
   generalize hln3:js[j].ends.length=el at c3 hti
   have hzc:=cellLt c1
   have hz3:=cellLt c3
   have hzg:=cellLt g0
   dsimp only at hzc hz3 hzg
   have HLE:Hid (EndsAt wr (some ⟨bl,ol,none⟩) lies):=hL.out.below hb
   clear hpl hpcj hpe c4 hgr hf1 hf2 hve hee hlp hls ht0 hk3 hel hen hsd hln3 hja hea
   obtain ⟨F,hF⟩:∃ F,flanksF ps js ss lies (lies.take m)=F:=⟨_,rfl⟩
   rw [hF] at HO HFL HSN ⊢
   obtain ⟨G,hG⟩:∃ G,lookF js ss lies (j:Int) (depthR ps) ([],[]) en=G:=⟨_,rfl⟩
   rw [hG] at HSN HNX
   have HLF:Hid (∀ K V O M2 bs,LBase wr ps KT O M2 (j:Int) (some ⟨bl,ol,none⟩) lies.length lc bs K ([],[]) V→Calls Tryz.prog 178 #[.pointer (some ⟨O,0,none⟩),.agg #[.int .i64 en.piece,.int .i64 en.side]] V (Looked wr ps KT O M2 (j:Int) (some ⟨bl,ol,none⟩) lies.length lc bs G K V)):=fun K V O M2 bs q=>by
    have z:=lookFrom_any wr M pa ja sa pc jc sc ps js ss lies R KT O M2 HTW (j:Int) (some ⟨bl,ol,none⟩) lc bs HLE (depthR ps) K ([],[]) en V q HVE.out (by unfold depthR;simp)
    rw [hG] at z
    exact z
   clear hF hG
   go_upto_region 6 with fail
   generalize hV:World.alloc (World.alloc (World.alloc wr _) _) _=V
   have hbV:Below wr.heap.size wr V:=by rw [← hV];exact blo
   have b0:V.cell? ⟨wr.heap.size,0,none⟩=some (.int .i64 (j:Int)):=by rw [← hV];simp [go_sem]
   have b1:V.cell? ⟨wr.heap.size,1,none⟩=some (.int .i64 sd):=by rw [← hV];simp [go_sem]
   have hzV:V.heap.size=wr.heap.size+1+1+1:=by rw [← hV];simp
   have HLB:Hid (LBase wr ps KT (wr.heap.size+1+1) (wr.heap.size+1) (j:Int) (some ⟨bl,ol,none⟩) lies.length lc (wr.heap.size+1+1+1) (fun k=>k=wr.heap.size+1+1∨k=wr.heap.size+1) ([],[]) V):=by
    refine ⟨hbV,⟨none,0,?_,⟨rfl,Or.inl ⟨rfl,rfl⟩⟩,fun k=>by simp [Value.ownBlock]⟩,?_,by omega,by omega,Seen.nil ps,Nat.le_refl _⟩
    ·rw [← hV]
     have q:=row_of_alloc2 ((wr.alloc (Obj.cells #[Value.int .i64 (j:Int),.int .i64 sd] 109)).alloc (Obj.map #[] 0)) (lookC KT (wr.heap.size+1) (j:Int) (some ⟨bl,ol,none⟩) lies.length lc (.slice none 0 0)) 316
     simpa [lookC] using q
    ·rw [← hV]
     have q:=(CMap.made 192 (wr.alloc (Obj.cells #[Value.int .i64 (j:Int),.int .i64 sd] 109))).below (show Below _ _ (World.alloc _ (Obj.cells #[Value.pointer (some ⟨KT,0,none⟩),.slice (some ⟨bl,ol,none⟩) lies.length lc,.int .i64 (j:Int),.map (some (wr.heap.size+1)),.slice none 0 0] 316)) from (Below.refl _ _).alloc (Nat.le_refl _) _)
     have e:(fun _:Value=>(0:Int))=seenF Classical.propDecidable []:=by
      funext v
      unfold seenF
      rw [if_neg (by rintro ⟨x,hx,_⟩;cases hx)]
     rw [e] at q
     simpa using q
   clear hV
   replace c1:=cell_later hbV c1
   replace c3:=cell_later hbV c3
   replace g0:=cell_later hbV g0
   replace g1:=cell_later hbV g1
   have HBV:=hidP hbV
   have HZV:=hidP hzV
   have hzV2:wr.heap.size<V.heap.size:=by omega
   obtain ⟨S,hS⟩:∃ S:World→Prop,∀ u,S u↔Below V.heap.size V u:=⟨_,fun _=>Iff.rfl⟩
   have HS0:=hidP hS
   have r0:∀ u:Held S,World.cell? u.val ⟨KT,1,none⟩=some (.slice (some ⟨bj,oj,none⟩) js.length jc):=fun u=>cell_later ((hS u.val).1 u.2) c1
   have r1:∀ u:Held S,World.cell? u.val ⟨wr.heap.size,0,none⟩=some (.int .i64 (j:Int)):=fun u=>cell_later ((hS u.val).1 u.2) b0
   have r2:∀ u:Held S,World.cell? u.val ⟨wr.heap.size,1,none⟩=some (.int .i64 sd):=fun u=>cell_later ((hS u.val).1 u.2) b1
   have r3:=fun u:Held S=>cell_later ((hS u.val).1 u.2) c3
   have r4:=fun u:Held S=>cell_later ((hS u.val).1 u.2) g0
   have r5:=fun u:Held S=>cell_later ((hS u.val).1 u.2) g1
   have hS1:S V.drew:=(hS _).2 ((Below.refl _ _).drew)
   have hne:=held_ne hS1
   clear hS hbV hzV b0 b1 c1 c3 g0 g1 hmm
   refine wp_region_tree (fun w' => ∃ u:Held S,w'=u.val) 15 (by kernel_rfl) (by kernel_rfl) (held_some hS1) ?_
   (refine wpT_sea 0 ?_;intro K hK;go_big_quiet_op;go_big_quiet_on);(refine wpT_sea 1 ?_;intro K hK;go_big_quiet_op;go_big_quiet_on);(refine wpT_sea 2 ?_;intro K hK;go_big_quiet_op;go_big_quiet_on);(refine wpT_sea 3 ?_;intro K hK;go_big_quiet_op;go_big_quiet_on);(refine wpT_sea 4 ?_;intro K hK;go_big_quiet_op;go_big_quiet_on);(refine wpT_sea 5 ?_;intro K hK;go_big_quiet_op;go_big_quiet_on);(refine wpT_sea 6 ?_;intro K hK;go_big_quiet_op;go_big_quiet_on);(refine wpT_sea 7 ?_;intro K hK;go_big_quiet_op;go_big_quiet_on);(refine wpT_sea 8 ?_;intro K hK;go_big_quiet_op;go_big_quiet_on);(refine wpT_sea 9 ?_;intro K hK;go_big_quiet_op;go_big_quiet_on);(refine wpT_sea 10 ?_;intro K hK;go_big_quiet_op;go_big_quiet_on);(refine wpT_sea 11 ?_;intro K hK;go_big_quiet_op;go_big_quiet_on)
   refine wpT_loud 12 (by rfl) (by kernel_rfl) (by kernel_rfl) ?_
   intro KK hK
   go_wp2_with (go_at_call 179;refine (HOT.out _).mono ?_;rintro e u2 ⟨rfl,hb2'⟩)
   have hb2:Below V.heap.size V u2:=(Below.refl _ _).drew.trans hb2'
   refine hK _ _ (held_some ((HS0.out _).2 hb2)) ?_
   clear hK KK hb2'
   (refine wpT_sea 13 ?_;intro K hK;go_big_quiet_op;go_big_quiet_on);(refine wpT_sea 14 ?_;intro K hK;go_big_quiet_op;go_big_quiet_on)
   clear r0 r1 r2 r3 r4 r5 hS1 hne
   have HB2:=hidP hb2
   have HL2:=hidP (HLF.out _ u2 _ _ _ (HLB.out.keep hb2))
   clear hb2
   refine wpT_done (by kernel_rfl) ?_
   go_upto_region 7 with (go_at_call 178;refine HL2.out.mono ?_;rintro e u3 ⟨⟨v3,rfl⟩,ho3,K3,hl3,hg3⟩)
   obtain ⟨x3,y3,q1,q2,_⟩:=hl3.own
   have o4:u3.cell? ⟨wr.heap.size+1+1,4,none⟩=some (.slice x3 G.2.length y3):=q1.cell (i:=4) (by omega)
   have hzo:=q1.lt
   have HO3:=hidP (owns_below HO.out hl3.below)
   have HQ2:=hidP q2
   have hb3:=hl3.below
   have HB3:Hid (Below w.heap.size w u3):=HB.out.trans (hb3.mono HB.out.size)
   have hz3:=HB3.out.size
   have hfl1:=HFL.out
   have hfl2:=HNX.out
   clear hl3 q1 q2 ho3 hg3 hb3
   go_wp2_with (at_builtin;refine wpList_append_list rfl (.tmp 37) (.tmp 39) 79 rfl w.heap.size 133 _ 4 32 Tryz.underlying79 Tryz.infoFlank rfl (by decide) (.slice x F.length y) F.length (flatF F) rfl HO3.out x3 G.2.length y3 (flatF G.2) rfl (fun q=>(own_nil HQ2.out q).2) (flatF_len G.2) (own_news HQ2.out) (fun q=>(own_nil HQ2.out q).1) (flatF_one G.2) (by unfold maxLen;omega) (by omega) (by omega) ?_;intro v6 w6 t1 t2)
   obtain ⟨x6,y6,e6,_⟩:=owns_shape t1
   subst e6
   have hle:(F++G.2).length=F.length+G.2.length:=by simp
   have hfe:flatF F++flatF G.2=flatF (F++G.2):=by simp [flatF]
   rw [hfe,← hle] at t1
   have hbb:=push_below HB3.out HO3.out t2 hz3
   go_roundw
   case rel =>
    refine ⟨m+1,x6,y6,by omega,by go_num,?_,?_,?_,hbb⟩
    ·rw [HSN.out,hle]
    ·unfold Hid
     rw [HSN.out]
     exact t1
    ·unfold Hid
     rw [HSN.out,hle]
     omega
   case measure=>simp [intOf];omega
  ·have hme:m=lies.length:=by omega
   have hmi:¬ (m:Int)<lies.length:=by omega
   subst hme
   rw [List.take_length] at HO HFL
   simp only [List.take_length]
   clear hmm
   go_wp2_with fail
   go_ret
   exact ⟨x,y,rfl,HO.out,HB.out⟩
end Go.Proofs.YtmkdgnmmebldgabGreatDoor
namespace Go.Proofs.YtmkdgnmmebldgabGreatDoor
open Go.RowKit Go.Deep
structure Tab where
 n:Nat→Nat→Nat
 ad:Nat→Nat→Option Addr
 cp:Nat→Nat→Nat
section
variable {G N R:Nat} {t:Tab} {k:Int} {w w':World} {m i q:Nat}
end
end Go.Proofs.YtmkdgnmmebldgabGreatDoor
namespace Go.Proofs.YtmkdgnmmebldgabGreatDoor
open Go.RowKit Go.Deep Go.Maps
theorem overOf_neg (KT:Nat)(over:Int)(w:World):
  Calls Tryz.prog 142 #[.pointer (some ⟨KT,0,none⟩),.int .i64 (-1),.int .i64 over] w fun e w'=>e = .returned (.slice none 0 0)∧Below w.heap.size w w':=by
 go_enter Tryz.func142,Tryz.ntmps142
 go_wp2_with fail
 go_ret
 exact ⟨rfl,blo⟩
theorem overOf_all (KT M:Nat)(pa ja sa:Option Addr)(pc jc sc:Nat)(ps:List MPiece)(js:List MJoint)(ss:List MPiece)(R:Hid (Right ps js ss))(stop:Int)(hst:stop = -1∨∃ i:Nat,i<ss.length∧stop=i)(over:Int)(h0:0≤over)(h1:over≤100000)(w:World)(hT:Hid (TTrack w KT M pa ja sa pc jc sc ps js ss)):
  Calls Tryz.prog 142 #[.pointer (some ⟨KT,0,none⟩),.int .i64 stop,.int .i64 over] w fun e w' => ∃ x y,e = .returned (.slice x (overF ps js ss stop over).length y)∧w'.ownsRow w.heap.size 185 3 (.slice x (overF ps js ss stop over).length y) (overF ps js ss stop over).length (flatP (overF ps js ss stop over))∧Below w.heap.size w w':=by
 rcases hst with rfl | ⟨i,hi,rfl⟩
 ·have e:overF ps js ss (-1) over=[]:=by unfold overF;rw [if_pos (by omega)]
  rw [e]
  refine (overOf_neg KT over w).mono ?_
  rintro r w' ⟨rfl,hb⟩
  exact ⟨none,0,rfl,⟨rfl,Or.inl ⟨rfl,rfl⟩⟩,hb⟩
 ·exact overOf_any KT M pa ja sa pc jc sc ps js ss R i hi over h0 h1 w hT
def adR (d:RAddr):Nat→Option Addr
 | 0=>d.a0
 | 1=>d.a1
 | 2=>d.a2
 | 3=>d.a3
 | 4=>d.a4
 | _=>d.a5
def AdB (a:Option Addr)(b:Nat):Prop := ∃ o s,a=some ⟨b,o,s⟩
structure RClaims (B:Nat)(w:World)(d:RAddr)(r:MRoute):Prop where
 steps:w.ownsRow B 166 2 (.slice d.a0 r.steps.length d.c0) r.steps.length (flatE r.steps)
 lies:w.ownsRow B 109 2 (.slice d.a1 r.lies.length d.c1) r.lies.length (flatE r.lies)
 crosses:w.ownsRow B 3 1 (.slice d.a2 r.crosses.length d.c2) r.crosses.length (flatN r.crosses)
 parts:w.ownsRow B 185 3 (.slice d.a3 r.parts.length d.c3) r.parts.length (flatP r.parts)
 over:w.ownsRow B 185 3 (.slice d.a4 r.over.length d.c4) r.over.length (flatP r.over)
 flanks:w.ownsRow B 133 4 (.slice d.a5 r.flanks.length d.c5) r.flanks.length (flatF r.flanks)
 dis:∀ i j,i<6→j<6→∀ b,AdB (adR d i) b→AdB (adR d j) b→i=j
theorem owns_mono {w:World}{B B' e s n:Nat}{v:Value}{xs:List Value}(h:w.ownsRow B e s v n xs)(hB:B'≤B):w.ownsRow B' e s v n xs:=
 ⟨h.1,h.2.imp id fun ⟨g,cap,cur,q1,q2,q3⟩=>⟨g,cap,cur,q1,Nat.le_trans hB q2,q3⟩⟩
theorem owns_blk {w:World}{B e s n:Nat}{x:Option Addr}{y:Nat}{xs:List Value}(h:w.ownsRow B e s (.slice x n y) n xs):∀ b,AdB x b→B≤b∧b<w.heap.size:=by
 rintro b ⟨o,sb,hx⟩
 refine h.lt b ?_
 rw [hx]
 rfl
theorem RClaims.blk {B:Nat}{w:World}{d:RAddr}{r:MRoute}(h:RClaims B w d r):∀ j,j<6→∀ b,AdB (adR d j) b→B≤b∧b<w.heap.size:=by
 intro j hj b hb
 match j,hj with
 | 0,_=>exact owns_blk h.steps b hb
 | 1,_=>exact owns_blk h.lies b hb
 | 2,_=>exact owns_blk h.crosses b hb
 | 3,_=>exact owns_blk h.parts b hb
 | 4,_=>exact owns_blk h.over b hb
 | 5,_=>exact owns_blk h.flanks b hb
theorem claims_of {w0 w1 w2 w3 w4 w5 w6 w:World}{d:RAddr}{r:MRoute}
  (h0:w1.ownsRow w0.heap.size 166 2 (.slice d.a0 r.steps.length d.c0) r.steps.length (flatE r.steps)) (b1:Below w1.heap.size w1 w2)
  (h1:w2.ownsRow w1.heap.size 109 2 (.slice d.a1 r.lies.length d.c1) r.lies.length (flatE r.lies)) (b2:Below w2.heap.size w2 w3)
  (h2:w3.ownsRow w2.heap.size 3 1 (.slice d.a2 r.crosses.length d.c2) r.crosses.length (flatN r.crosses)) (b3:Below w3.heap.size w3 w4)
  (h3:w4.ownsRow w3.heap.size 185 3 (.slice d.a3 r.parts.length d.c3) r.parts.length (flatP r.parts)) (b4:Below w4.heap.size w4 w5)
  (h4:w5.ownsRow w4.heap.size 185 3 (.slice d.a4 r.over.length d.c4) r.over.length (flatP r.over)) (b5:Below w5.heap.size w5 w6)
  (h5:w6.ownsRow w5.heap.size 133 4 (.slice d.a5 r.flanks.length d.c5) r.flanks.length (flatF r.flanks)) (b6:Below w6.heap.size w6 w) (hw:w0.heap.size≤w1.heap.size):RClaims w0.heap.size w d r:=by
 have z1:=b1.size
 have z2:=b2.size
 have z3:=b3.size
 have z4:=b4.size
 have z5:=b5.size
 have z6:=b6.size
 have c5:=b6
 have c4:=b5.trans (b6.mono z5)
 have c3:=b4.trans (c4.mono z4)
 have c2:=b3.trans (c3.mono z3)
 have c1:=b2.trans (c2.mono z2)
 have c0:=b1.trans (c1.mono z1)
 refine ⟨owns_below h0 c0,owns_mono (owns_below h1 c1) hw,owns_mono (owns_below h2 c2) (by omega),owns_mono (owns_below h3 c3) (by omega),owns_mono (owns_below h4 c4) (by omega),owns_mono (owns_below h5 c5) (by omega),?_⟩
 have k:∀ j,j<6→∀ b,AdB (adR d j) b→(j=0∧b<w1.heap.size)∨(j=1∧w1.heap.size≤b∧b<w2.heap.size)∨(j=2∧w2.heap.size≤b∧b<w3.heap.size)∨(j=3∧w3.heap.size≤b∧b<w4.heap.size)∨(j=4∧w4.heap.size≤b∧b<w5.heap.size)∨(j=5∧w5.heap.size≤b):=by
  intro j hj b hb
  match j,hj with
  | 0,_=>have:=owns_blk h0 b hb;omega
  | 1,_=>have:=owns_blk h1 b hb;omega
  | 2,_=>have:=owns_blk h2 b hb;omega
  | 3,_=>have:=owns_blk h3 b hb;omega
  | 4,_=>have:=owns_blk h4 b hb;omega
  | 5,_=>have:=owns_blk h5 b hb;omega
 intro i j hi hj b hbi hbj
 have q1:=k i hi b hbi
 have q2:=k j hj b hbj
 omega
structure PathOk (ps:List MPiece)(js:List MJoint)(ss:List MPiece)(p:MPath):Prop where
 s0:0<p.steps.length
 s1:p.steps.length≤202
 sv:∀ s ∈ p.steps,ValidS ps s
 start:∃ i:Nat,i<ss.length∧p.start=i
 stop:p.stop = -1∨∃ i:Nat,i<ss.length∧p.stop=i
 lv:∀ l ∈ p.lies,∃ (j:Nat) (hj:j<js.length),l.piece=j∧js[j].kind=3∧(l.side=1∨l.side=2)
 ll:p.lies.length≤120
 cl:p.crosses.length≤202
theorem RClaims.only {B:Nat}{w w':World}{d:RAddr}{r:MRoute}(h:RClaims B w d r){K:Nat→Prop}(hO:Only K w w')(hK:∀ k,K k→k<B):RClaims B w' d r:=
 ⟨owns_only h.steps hO hK,owns_only h.lies hO hK,owns_only h.crosses hO hK,owns_only h.parts hO hK,owns_only h.over hO hK,owns_only h.flanks hO hK,h.dis⟩
theorem RClaims.mono {B B':Nat}{w:World}{d:RAddr}{r:MRoute}(h:RClaims B w d r)(hB:B'≤B):RClaims B' w d r:=
 ⟨owns_mono h.steps hB,owns_mono h.lies hB,owns_mono h.crosses hB,owns_mono h.parts hB,owns_mono h.over hB,owns_mono h.flanks hB,h.dis⟩
def RoutePost (ps:List MPiece)(js:List MJoint)(ss:List MPiece)(over:Int)(p:MPath)(w:World)(e:Ending)(w':World):Prop:=
 ∃ d',e = .returned (routeV d' (routeF ps js ss over p))∧RClaims w.heap.size w' d' (routeF ps js ss over p)∧Below w.heap.size w w'
theorem routeOf_any (KT M:Nat)(pa ja sa:Option Addr)(pc jc sc:Nat)(ps:List MPiece)(js:List MJoint)(ss:List MPiece)(R:Hid (Right ps js ss))(d:PAddr)(p:MPath)(hp:Hid (PathOk ps js ss p))(over:Int)(ho0:0≤over)(ho1:over≤100000)(w:World)(hT:Hid (TTrack w KT M pa ja sa pc jc sc ps js ss))(h:Hid (PListsAt w d p)):
  Calls Tryz.prog 114 #[.pointer (some ⟨KT,0,none⟩),pathV d p,.int .i64 over] w (RoutePost ps js ss over p w):=by
 have hs1:=hp.out.s1
 have hl1:=hp.out.ll
 have hc1:=hp.out.cl
 have HPA:Hid (∀ u:World,Below w.heap.size w u→Calls Tryz.prog 141 #[.pointer (some ⟨KT,0,none⟩),.agg #[.int .i64 p.start,.int .i64 p.stop,.bool p.ended,.slice d.a0 p.steps.length d.c0,.slice d.a1 p.lies.length d.c1,.slice d.a2 p.crosses.length d.c2]] u fun e w' => ∃ x y,e = .returned (.slice x (partsF ps ss p).length y)∧w'.ownsRow u.heap.size 185 3 (.slice x (partsF ps ss p).length y) (partsF ps ss p).length (flatP (partsF ps ss p))∧Below u.heap.size u w'):=fun u hu =>
  partsOf_any KT pa ja sa pc jc sc ps js ss d p u (hT.out.below hu).net (h.out.below hu) hp.out.s0 (by omega) hp.out.sv hp.out.start hp.out.stop
 have HOV:Hid (∀ u:World,Below w.heap.size w u→Calls Tryz.prog 142 #[.pointer (some ⟨KT,0,none⟩),.int .i64 p.stop,.int .i64 over] u fun e w' => ∃ x y,e = .returned (.slice x (overF ps js ss p.stop over).length y)∧w'.ownsRow u.heap.size 185 3 (.slice x (overF ps js ss p.stop over).length y) (overF ps js ss p.stop over).length (flatP (overF ps js ss p.stop over))∧Below u.heap.size u w'):=fun u hu =>
  overOf_all KT M pa ja sa pc jc sc ps js ss R p.stop hp.out.stop over ho0 ho1 u (hT.out.below hu)
 have HFL:Hid (∀ u:World,Below w.heap.size w u→Calls Tryz.prog 143 #[.pointer (some ⟨KT,0,none⟩),.slice d.a1 p.lies.length d.c1] u fun e w' => ∃ x y,e = .returned (.slice x (flanksF ps js ss p.lies p.lies).length y)∧w'.ownsRow u.heap.size 133 4 (.slice x (flanksF ps js ss p.lies p.lies).length y) (flanksF ps js ss p.lies p.lies).length (flatF (flanksF ps js ss p.lies p.lies))∧Below u.heap.size u w'):=fun u hu =>
  flanksOf_any KT M pa ja sa pc jc sc ps js ss p.lies R d.a1 d.c1 u (hT.out.below hu) (h.out.lies.below hu) hp.out.lv hl1
 have HRF:Hid (routeF ps js ss over p=⟨p.start,p.stop,p.steps,p.lies,p.crosses,partsF ps ss p,overF ps js ss p.stop over,flanksF ps js ss p.lies p.lies⟩):=rfl
 generalize partsF ps ss p=PA at HPA HRF
 generalize overF ps js ss p.stop over=OV at HOV HRF
 generalize flanksF ps js ss p.lies p.lies=FL at HFL HRF
 unfold pathV
 go_enter Tryz.func114,Tryz.ntmps114
 go_upto_region 1 with fail
 generalize hW:World.alloc (World.alloc w _) _=W
 have hbW:Below w.heap.size w W:=by rw [← hW];exact blo
 have x0:W.cell? ⟨w.heap.size,0,none⟩=some (.int .i64 p.start):=by rw [← hW];simp [go_sem]
 have x1:W.cell? ⟨w.heap.size,1,none⟩=some (.int .i64 p.stop):=by rw [← hW];simp [go_sem]
 have x2:W.cell? ⟨w.heap.size,2,none⟩=some (.bool p.ended):=by rw [← hW];simp [go_sem]
 have x3:W.cell? ⟨w.heap.size,3,none⟩=some (.slice d.a0 p.steps.length d.c0):=by rw [← hW];simp [go_sem]
 have x4:W.cell? ⟨w.heap.size,4,none⟩=some (.slice d.a1 p.lies.length d.c1):=by rw [← hW];simp [go_sem]
 have x5:W.cell? ⟨w.heap.size,5,none⟩=some (.slice d.a2 p.crosses.length d.c2):=by rw [← hW];simp [go_sem]
 have hzW:W.heap.size=w.heap.size+1+1:=by rw [← hW];simp
 have HRR:Hid (∃ f,W.rowIs (w.heap.size+1) 81 8 f):=by
  unfold Hid
  rw [← hW]
  have q:=row_of_alloc2 (w.alloc (Obj.cells #[Value.int .i64 p.start,.int .i64 p.stop,.bool p.ended,.slice d.a0 p.steps.length d.c0,.slice d.a1 p.lies.length d.c1,.slice d.a2 p.crosses.length d.c2] 212)) #[.int .i64 0,.int .i64 0,.slice none 0 0,.slice none 0 0,.slice none 0 0,.slice none 0 0,.slice none 0 0,.slice none 0 0] 81
  have e:(w.alloc (Obj.cells #[Value.int .i64 p.start,.int .i64 p.stop,.bool p.ended,.slice d.a0 p.steps.length d.c0,.slice d.a1 p.lies.length d.c1,.slice d.a2 p.crosses.length d.c2] 212)).heap.size=w.heap.size+1:=by simp
  rw [e] at q
  exact ⟨_,q⟩
 have HBW:=hidP hbW
 have HZW:=hidP hzW
 have hzx:w.heap.size<W.heap.size:=by omega
 obtain ⟨S,hS⟩:∃ S:World→Prop,∀ u,S u↔Below W.heap.size W u:=⟨_,fun _=>Iff.rfl⟩
 have HS0:=hidP hS
 have r0:∀ u:Held S,World.cell? u.val ⟨w.heap.size,0,none⟩=some (.int .i64 p.start):=fun u=>cell_later ((hS u.val).1 u.2) x0
 have r1:∀ u:Held S,World.cell? u.val ⟨w.heap.size,1,none⟩=some (.int .i64 p.stop):=fun u=>cell_later ((hS u.val).1 u.2) x1
 have r2:∀ u:Held S,World.cell? u.val ⟨w.heap.size,2,none⟩=some (.bool p.ended):=fun u=>cell_later ((hS u.val).1 u.2) x2
 have r3:∀ u:Held S,World.cell? u.val ⟨w.heap.size,3,none⟩=some (.slice d.a0 p.steps.length d.c0):=fun u=>cell_later ((hS u.val).1 u.2) x3
 have r4:∀ u:Held S,World.cell? u.val ⟨w.heap.size,4,none⟩=some (.slice d.a1 p.lies.length d.c1):=fun u=>cell_later ((hS u.val).1 u.2) x4
 have r5:∀ u:Held S,World.cell? u.val ⟨w.heap.size,5,none⟩=some (.slice d.a2 p.crosses.length d.c2):=fun u=>cell_later ((hS u.val).1 u.2) x5
 have hS1:S W.drew:=(hS _).2 ((Below.refl _ _).drew)
 have hne:=held_ne hS1
 clear hS hW hbW hzW x0 x1 x2 x3 x4 x5
 refine wp_region_tree (fun w' => ∃ u:Held S,w'=u.val) 25 (by kernel_rfl) (by kernel_rfl) (held_some hS1) ?_
 (refine wpT_sea 0 ?_;intro K hK;go_big_quiet_op;go_big_quiet_on);(refine wpT_sea 1 ?_;intro K hK;go_big_quiet_op;go_big_quiet_on);(refine wpT_sea 2 ?_;intro K hK;go_big_quiet_op;go_big_quiet_on);(refine wpT_sea 3 ?_;intro K hK;go_big_quiet_op;go_big_quiet_on);(refine wpT_sea 4 ?_;intro K hK;go_big_quiet_op;go_big_quiet_on);(refine wpT_sea 5 ?_;intro K hK;go_big_quiet_op;go_big_quiet_on)
 (refine wpT_sea 7 ?_;intro K hK;go_big_quiet_op;go_big_quiet_on);(refine wpT_sea 8 ?_;intro K hK;go_big_quiet_op;go_big_quiet_on)
 (refine wpT_sea 10 ?_;intro K hK;go_big_quiet_op;go_big_quiet_on);(refine wpT_sea 11 ?_;intro K hK;go_big_quiet_op;go_big_quiet_on)
 (refine wpT_sea 13 ?_;intro K hK;go_big_quiet_op;go_big_quiet_on);(refine wpT_sea 14 ?_;intro K hK;go_big_quiet_op;go_big_quiet_on)
 (refine wpT_sea 16 ?_;intro K hK;go_big_quiet_op;go_big_quiet_on);(refine wpT_sea 17 ?_;intro K hK;go_big_quiet_op;go_big_quiet_on);(refine wpT_sea 18 ?_;intro K hK;go_big_quiet_op;go_big_quiet_on);(refine wpT_sea 19 ?_;intro K hK;go_big_quiet_op;go_big_quiet_on)
 (refine wpT_sea 21 ?_;intro K hK;go_big_quiet_op;go_big_quiet_on);(refine wpT_sea 22 ?_;intro K hK;go_big_quiet_op;go_big_quiet_on);(refine wpT_sea 23 ?_;intro K hK;go_big_quiet_op;go_big_quiet_on)
 clear r0 r1 r2 r3 r4 r5
 refine wpT_loud 6 (by rfl) (by kernel_rfl) (by kernel_rfl) ?_
 intro KK hK
 show wpList Tryz.prog _ _ [_] _ _
 refine wpList_copy0 rfl (.tmp 12) 76 rfl 166 _ 2 16 Tryz.underlying76 Tryz.infoStep rfl (by decide) d.a0 p.steps.length d.c0 (flatE p.steps) rfl h.out.nil0 (flatE_len _) (newsE ((h.out.steps.below HBW.out).below ((Below.refl _ _).drew))) (flatE_one _) h.out.steps.1 (by omega) ?_
 intro s1x s1y w1 o1 b1
 have hb1:Below W.heap.size W w1:=(Below.refl _ _).drew.trans b1
 have O1:=hidP o1
 have B1:=hidP hb1
 clear o1 b1 hb1
 go_wp2_with fail
 refine hK _ _ (held_some ((HS0.out _).2 B1.out)) ?_
 clear hK KK
 refine wpT_loud 9 (by rfl) (by kernel_rfl) (by kernel_rfl) ?_
 intro KK hK
 show wpList Tryz.prog _ _ [_] _ _
 refine wpList_copy0 rfl (.tmp 15) 77 rfl 109 _ 2 16 Tryz.underlying77 Tryz.infoLie rfl (by decide) d.a1 p.lies.length d.c1 (flatE p.lies) rfl h.out.nil1 (flatE_len _) (newsE ((h.out.lies.below HBW.out).below B1.out)) (flatE_one _) h.out.lies.1 (by omega) ?_
 intro s2x s2y w2 o2 b2
 have O2:=hidP o2
 have B2:=hidP b2
 have C2:Hid (Below W.heap.size W w2):=B1.out.trans (b2.mono B1.out.size)
 clear o2 b2
 go_wp2_with fail
 refine hK _ _ (held_some ((HS0.out _).2 C2.out)) ?_
 clear hK KK
 refine wpT_loud 12 (by rfl) (by kernel_rfl) (by kernel_rfl) ?_
 intro KK hK
 show wpList Tryz.prog _ _ [_] _ _
 refine wpList_copy0 rfl (.tmp 18) 54 rfl 3 _ 1 8 Tryz.underlying54 Tryz.infoInt rfl (by decide) d.a2 p.crosses.length d.c2 (flatN p.crosses) rfl h.out.nil2 (flatN_len _) (newsN ((h.out.crosses.below HBW.out).below C2.out)) (flatN_one _) h.out.crosses.1 (by omega) ?_
 intro s3x s3y w3 o3 b3
 have O3:=hidP o3
 have B3:=hidP b3
 have C3:Hid (Below W.heap.size W w3):=C2.out.trans (b3.mono C2.out.size)
 clear o3 b3
 go_wp2_with fail
 refine hK _ _ (held_some ((HS0.out _).2 C3.out)) ?_
 clear hK KK
 refine wpT_loud 15 (by rfl) (by kernel_rfl) (by kernel_rfl) ?_
 intro KK hK
 go_wp2_with (go_at_call 141;refine (HPA.out _ (HBW.out.trans (C3.out.mono HBW.out.size))).mono ?_;rintro e w4 ⟨s4x,s4y,rfl,o4,b4⟩)
 have O4:=hidP o4
 have B4:=hidP b4
 have C4:Hid (Below W.heap.size W w4):=C3.out.trans (b4.mono C3.out.size)
 clear o4 b4
 refine hK _ _ (held_some ((HS0.out _).2 C4.out)) ?_
 clear hK KK
 refine wpT_loud 20 (by rfl) (by kernel_rfl) (by kernel_rfl) ?_
 intro KK hK
 go_wp2_with (go_at_call 142;refine (HOV.out _ (HBW.out.trans (C4.out.mono HBW.out.size))).mono ?_;rintro e w5 ⟨s5x,s5y,rfl,o5,b5⟩)
 have O5:=hidP o5
 have B5:=hidP b5
 have C5:Hid (Below W.heap.size W w5):=C4.out.trans (b5.mono C4.out.size)
 clear o5 b5
 refine hK _ _ (held_some ((HS0.out _).2 C5.out)) ?_
 clear hK KK
 refine wpT_loud 24 (by rfl) (by kernel_rfl) (by kernel_rfl) ?_
 intro KK hK
 go_wp2_with (go_at_call 143;refine (HFL.out _ (HBW.out.trans (C5.out.mono HBW.out.size))).mono ?_;rintro e w6 ⟨s6x,s6y,rfl,o6,b6⟩)
 have O6:=hidP o6
 have B6:=hidP b6
 have C6:Hid (Below W.heap.size W w6):=C5.out.trans (b6.mono C5.out.size)
 clear o6 b6
 refine hK _ _ (held_some ((HS0.out _).2 C6.out)) ?_
 clear hK KK hS1 hne
 refine wpT_done (by kernel_rfl) ?_
 obtain ⟨f,hf⟩:=HRR.out
 have hr:=hf.of_block (C6.out.block _ hf.lt)
 have g0:=hr.cell (i:=0) (by omega)
 have g1:=hr.cell (i:=1) (by omega)
 have g2:=hr.cell (i:=2) (by omega)
 have g3:=hr.cell (i:=3) (by omega)
 have g4:=hr.cell (i:=4) (by omega)
 have g5:=hr.cell (i:=5) (by omega)
 have g6:=hr.cell (i:=6) (by omega)
 have g7:=hr.cell (i:=7) (by omega)
 have f0:=hr.frozen 0
 have f1:=hr.frozen 1
 have f2:=hr.frozen 2
 have f3:=hr.frozen 3
 have f4:=hr.frozen 4
 have f5:=hr.frozen 5
 have f6:=hr.frozen 6
 have f7:=hr.frozen 7
 have hzr:=hr.lt
 have HR:=hidP hr
 clear hr hf
 go_wp2_with fail
 generalize hZ:World.setCell (World.setCell (World.setCell (World.setCell (World.setCell (World.setCell (World.setCell (World.setCell w6 _ _) _ _) _ _) _ _) _ _) _ _) _ _) _ _=Z
 have hRZ:=(((((((HR.out.set 0 (.int .i64 p.start)).set 1 (.int .i64 p.stop)).set 2 (.slice s1x p.steps.length s1y)).set 3 (.slice s2x p.lies.length s2y)).set 4 (.slice s3x p.crosses.length s3y)).set 5 (.slice s4x PA.length s4y)).set 6 (.slice s5x OV.length s5y)).set 7 (.slice s6x FL.length s6y)
 rw [hZ] at hRZ
 have hOZ:Only (fun k=>k=w.heap.size+1) w6 Z:=by
  rw [← hZ]
  exact ((((((((Only.refl (fun k=>k=w.heap.size+1) w6).setCell (p:=⟨w.heap.size+1,0,none⟩) (Or.inl rfl) _).setCell (p:=⟨w.heap.size+1,1,none⟩) (Or.inl rfl) _).setCell (p:=⟨w.heap.size+1,2,none⟩) (Or.inl rfl) _).setCell (p:=⟨w.heap.size+1,3,none⟩) (Or.inl rfl) _).setCell (p:=⟨w.heap.size+1,4,none⟩) (Or.inl rfl) _).setCell (p:=⟨w.heap.size+1,5,none⟩) (Or.inl rfl) _).setCell (p:=⟨w.heap.size+1,6,none⟩) (Or.inl rfl) _).setCell (p:=⟨w.heap.size+1,7,none⟩) (Or.inl rfl) _
 clear hZ
 have z0:Z.cell? ⟨w.heap.size+1,0,none⟩=some (.int .i64 p.start):=(hRZ.cell (i:=0) (by omega)).trans (by simp)
 have z1:Z.cell? ⟨w.heap.size+1,1,none⟩=some (.int .i64 p.stop):=(hRZ.cell (i:=1) (by omega)).trans (by simp)
 have z2:Z.cell? ⟨w.heap.size+1,2,none⟩=some (.slice s1x p.steps.length s1y):=(hRZ.cell (i:=2) (by omega)).trans (by simp)
 have z3:Z.cell? ⟨w.heap.size+1,3,none⟩=some (.slice s2x p.lies.length s2y):=(hRZ.cell (i:=3) (by omega)).trans (by simp)
 have z4:Z.cell? ⟨w.heap.size+1,4,none⟩=some (.slice s3x p.crosses.length s3y):=(hRZ.cell (i:=4) (by omega)).trans (by simp)
 have z5:Z.cell? ⟨w.heap.size+1,5,none⟩=some (.slice s4x PA.length s4y):=(hRZ.cell (i:=5) (by omega)).trans (by simp)
 have z6:Z.cell? ⟨w.heap.size+1,6,none⟩=some (.slice s5x OV.length s5y):=(hRZ.cell (i:=6) (by omega)).trans (by simp)
 have z7:Z.cell? ⟨w.heap.size+1,7,none⟩=some (.slice s6x FL.length s6y):=(hRZ.cell (i:=7) (by omega)).trans (by simp)
 have hzw:=HZW.out
 have hcl:RClaims W.drew.heap.size w6 ⟨s1x,s1y,s2x,s2y,s3x,s3y,s4x,s4y,s5x,s5y,s6x,s6y⟩ ⟨p.start,p.stop,p.steps,p.lies,p.crosses,PA,OV,FL⟩:=claims_of O1.out B2.out O2.out B3.out O3.out B4.out O4.out B5.out O5.out B6.out O6.out (Below.refl _ _) B1.out.size
 have hcz:RClaims W.heap.size Z ⟨s1x,s1y,s2x,s2y,s3x,s3y,s4x,s4y,s5x,s5y,s6x,s6y⟩ ⟨p.start,p.stop,p.steps,p.lies,p.crosses,PA,OV,FL⟩:=hcl.only hOZ (fun k hk=>by show k<W.heap.size;omega)
 have hbw:Below w.heap.size w w6:=HBW.out.trans (C6.out.mono HBW.out.size)
 refine bodyPost_ret (v:=routeV ⟨s1x,s1y,s2x,s2y,s3x,s3y,s4x,s4y,s5x,s5y,s6x,s6y⟩ ⟨p.start,p.stop,p.steps,p.lies,p.crosses,PA,OV,FL⟩) (by simp [routeV,results,Tryz.results114,go_sem,z0,z1,z2,z3,z4,z5,z6,z7]) rfl ?_
 unfold RoutePost
 rw [HRF.out]
 exact ⟨_,rfl,hcz.mono (by omega),hbw.trans (hOZ.below hbw.size (fun k hk e=>by omega))⟩
end Go.Proofs.YtmkdgnmmebldgabGreatDoor
