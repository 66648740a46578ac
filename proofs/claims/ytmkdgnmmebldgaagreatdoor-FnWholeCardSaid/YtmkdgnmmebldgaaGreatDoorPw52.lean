import Derived.Test.YtmkdgnmmebldgaaGreatDoorPw44
import Derived.Test.YtmkdgnmmebldgaaGreatDoorPw51
import Derived.Test.YtmkdgnmmebldgaaGreatDoorPt21
import Derived.Test.YtmkdgnmmebldgaaGreatDoorPw37
import Derived.Test.YtmkdgnmmebldgaaGreatDoorPw50
set_option maxRecDepth 100000
set_option maxHeartbeats 8000000
namespace Go.Proofs.YtmkdgnmmebldgaaGreatDoor
def PairK (kind l:Int)(k t:Nat):Prop:=(kind=2/\k<2/\t=1-k)\/(kind=4/\k<4/\t=(if k=0 then 1 else if k=1 then 0 else if k=2 then 3 else 2))\/(kind=3/\(l=1\/l=2)/\((k=0/\(t:Int)=l)\/(k≠0/\(k:Int)=l/\t=0)))
theorem PairK.inj {kind l:Int}{k k' t:Nat}(h:PairK kind l k t)(h':PairK kind l k' t):k=k':=by
 unfold PairK at h h';rcases h with ⟨h1,h2,h3⟩ | ⟨h1,h2,h3⟩ | ⟨h1,h2,h3⟩
 ·rcases h' with ⟨g1,g2,g3⟩ | ⟨g1,g2,g3⟩ | ⟨g1,g2,g3⟩ <;> omega
 ·rcases h' with ⟨g1,g2,g3⟩ | ⟨g1,g2,g3⟩ | ⟨g1,g2,g3⟩
  ·omega
  ·have c1:k=0\/k=1\/k=2\/k=3:=by omega
   have c2:k'=0\/k'=1\/k'=2\/k'=3:=by omega
   rcases c1 with rfl | rfl | rfl | rfl <;> rcases c2 with rfl | rfl | rfl | rfl <;> first | rfl | (simp at h3 g3;omega)
  ·omega
 ·rcases h' with ⟨g1,g2,g3⟩ | ⟨g1,g2,g3⟩ | ⟨g1,g2,g3⟩ <;> omega
theorem aheadE_one {ps:List MPiece}{u v:MStep}(hu:ValidS ps u)(hv:ValidS ps v)(h:aheadE u=aheadE v):u=v:=by
 obtain ⟨p,s⟩:=u;obtain ⟨p',s'⟩:=v;obtain ⟨a,_,h1,h2⟩:=hu;obtain ⟨b,_,h3,h4⟩:=hv;dsimp only at h1 h2 h3 h4;unfold aheadE at h;dsimp only at h;rcases h2 with h2 | h2 <;> rcases h4 with h4 | h4 <;> subst h2 h4 <;> simp at h ⊢ <;> exact h
theorem nextF_spec {ps:List MPiece}{js:List MJoint}{ss:List MPiece}{ls:List Int}(R:Right ps js ss)(hL:SetL js ls){u:MStep}(hv:ValidS ps u){e:MEnd}(h:nextF js ls u=some e):
  ∃ (j k t:Nat) (hj:j<js.length) (hk:k<js[j].ends.length) (ht:t<js[j].ends.length),spotE js (aheadE u)=(j,k)/\js[j].ends[k]=aheadE u/\js[j].ends[t]=e/\PairK js[j].kind (ls[j]?.getD 0) k t:=by
 obtain ⟨j,k,hsp,hse⟩:=R.spot (aheadE_valid hv);obtain ⟨_,hj,hkl,hke,_⟩:=spotF_some hsp;simp only [Nat.sub_zero] at hj hkl hke;have hkd:=R.kind j hj;unfold nextF at h;rw [hse] at h;dsimp only at h;rw [kindE_at hj] at h;have hE:∀ t (ht:t<js[j].ends.length),endE js j t=js[j].ends[t]:=fun t ht=>by simp [endE,hj,ht]
 by_cases h3:js[j].kind=3
 ·have hl:=hL j hj h3;rw [if_pos h3] at h
  by_cases hk0:k=0
  ·rw [if_pos hk0] at h;have ht:(ls[j]?.getD 0).toNat<js[j].ends.length:=by omega
   rw [hE _ ht] at h;exact ⟨j,k,_,hj,hkl,ht,hse,hke,Option.some.inj h,Or.inr (Or.inr ⟨h3,hl,Or.inl ⟨hk0,by omega⟩⟩)⟩
  ·rw [if_neg hk0] at h
   by_cases hlk:ls[j]?.getD 0=(k:Int)
   ·rw [if_pos hlk] at h;have ht:0<js[j].ends.length:=by omega
    rw [hE _ ht] at h;exact ⟨j,k,0,hj,hkl,ht,hse,hke,Option.some.inj h,Or.inr (Or.inr ⟨h3,hl,Or.inr ⟨hk0,hlk.symm,rfl⟩⟩)⟩
   ·rw [if_neg hlk] at h;cases h
 ·rw [if_neg h3] at h;have hkb:(k:Int)<js[j].kind:=by omega
  by_cases h2:js[j].kind=2
  ·have hbe:beyondF js[j].kind k=[1-k]:=by unfold beyondF;rw [if_pos h2]
   rw [hbe] at h;dsimp only at h;have ht:1-k<js[j].ends.length:=by omega
   rw [hE _ ht] at h;exact ⟨j,k,_,hj,hkl,ht,hse,hke,Option.some.inj h,Or.inl ⟨h2,by omega,rfl⟩⟩
  ·by_cases h4:js[j].kind=4
   ·have hbe:beyondF js[j].kind k=[if k=0 then 1 else if k=1 then 0 else if k=2 then 3 else 2]:=by unfold beyondF;rw [if_neg h2,if_neg h3,if_pos h4]
    rw [hbe] at h;dsimp only at h;have ht:(if k=0 then 1 else if k=1 then 0 else if k=2 then 3 else 2)<js[j].ends.length:=by split <;> (try split) <;> (try split) <;> omega
    rw [hE _ ht] at h;exact ⟨j,k,_,hj,hkl,ht,hse,hke,Option.some.inj h,Or.inr (Or.inl ⟨h4,by omega,rfl⟩)⟩
   ·have hbe:beyondF js[j].kind k=[]:=by unfold beyondF;rw [if_neg h2,if_neg h3,if_neg h4]
    rw [hbe] at h;cases h
theorem nextF_inj {ps:List MPiece}{js:List MJoint}{ss:List MPiece}{ls:List Int}(R:Right ps js ss)(hL:SetL js ls){u v:MStep}(hu:ValidS ps u)(hv:ValidS ps v){e:MEnd}(h:nextF js ls u=some e)(h':nextF js ls v=some e):u=v:=by
 obtain ⟨j,k,t,hj,hk,ht,_,q2,q3,q4⟩:=nextF_spec R hL hu h;obtain ⟨j',k',t',hj',hk',ht',_,p2,p3,p4⟩:=nextF_spec R hL hv h';have e1:=R.uniq hj ht;have e2:=R.uniq hj' ht';rw [q3] at e1;rw [p3,e1] at e2;injection e2 with e2;injection e2 with e3 e4;subst e3 e4;have:=q4.inj p4;subst this;exact aheadE_one hu hv (q2.symm.trans p2)
theorem stepFromE_one {e e':MEnd}(h:e.side=0\/e.side=1)(h':e'.side=0\/e'.side=1)(hs:stepFromE e=stepFromE e'):e=e':=by
 have:farE (aheadE (stepFromE e))=farE (aheadE (stepFromE e')):=by rw [hs]
 rw [far_step h,far_step h'] at this;exact this
theorem Trace.at {ps:List MPiece}{js:List MJoint}{ss:List MPiece}{ls:List Int}{pre:List MStep}{s:MStep}(h:Trace ps js ss ls pre s){b:Nat}(hb:b+1<pre.length):∃ e,nextF js ls (pre[b]'(by omega))=some e/\(e.side=0\/e.side=1)/\pre[b+1]=stepFromE e:=by
 obtain ⟨_,_,e,h1,h2,h3⟩:=h b (by omega)
 rw [List.getElem?_append_left hb,List.getElem?_eq_getElem hb] at h3;exact ⟨e,h1,h2,Option.some.inj h3⟩
theorem Trace.back {ps:List MPiece}{js:List MJoint}{ss:List MPiece}{ls:List Int}(R:Right ps js ss)(hL:SetL js ls){pre pre':List MStep}{s s':MStep}(h:Trace ps js ss ls pre s)(h':Trace ps js ss ls pre' s')(hv:∀ x ∈ pre,ValidS ps x)(hv':∀ x ∈ pre',ValidS ps x):∀ (a b:Nat) (ha:a<pre.length) (hb:b<pre'.length),a<=b->pre[a]=pre'[b]->pre[0]'(by omega)=pre'[b-a]'(by omega)
 | 0,b,_,_,_,e=>by simpa using e
 | a+1,b,ha,hb,hab,e=>by
  obtain ⟨c,rfl⟩:∃ c,b=c+1:=⟨b-1,by omega⟩
  obtain ⟨u,u1,u2,u3⟩:=h.at ha;obtain ⟨v,v1,v2,v3⟩:=h'.at hb;rw [u3,v3] at e;have euv:=stepFromE_one u2 v2 e;subst euv;have e2:=nextF_inj R hL (hv _ (List.getElem_mem _)) (hv' _ (List.getElem_mem _)) u1 v1;have:=Trace.back R hL h h' hv hv' a c (by omega) (by omega) (by omega) e2
  rw [this];congr 1;omega
structure Way (ps:List MPiece)(js:List MJoint)(ss:List MPiece)(ls:List Int)(i:Nat)(pre:List MStep)(s:MStep):Prop where
 hi:i<ss.length
 tr:Trace ps js ss ls pre s
 val:∀ x ∈ pre,ValidS ps x
 head:∀ (h:0<pre.length),pre[0]=⟨(ss[i]'hi).len,(ss[i]'hi).brake⟩/\¬ 0<=nextB ss (ss[i]'hi).len (ss[i]'hi).brake (ss[i]'hi).speed ss.length
theorem nextB_sees {ss:List MPiece}{piece way pos:Int}:∀ (m i:Nat) (hi:i<ss.length),i<m->ss[i].len=piece->ss[i].brake=way->0<(ss[i].speed-pos)*way->0<=nextB ss piece way pos m
 | 0,i,_,h,_,_,_=>absurd h (Nat.not_lt_zero i)
 | m+1,i,hi,h,h1,h2,h3=>by
  unfold nextB
  by_cases hm:m<ss.length
  ·rw [List.getElem?_eq_getElem hm];dsimp only
   by_cases hc:ss[m].len≠piece\/ss[m].brake≠way\/(ss[m].speed-pos)*way<=0
   ·rw [if_pos hc];refine nextB_sees m i hi ?_ h1 h2 h3;have:i≠m:=by
     rintro rfl;rcases hc with hc | hc | hc
     ·exact hc h1
     ·exact hc h2
     ·omega
    omega
   ·rw [if_neg hc]
    by_cases hd:nextB ss piece way pos m<0\/(ss[m].speed-sigAt ss (nextB ss piece way pos m))*way<0
    ·rw [if_pos hd];omega
    ·rw [if_neg hd];omega
  ·rw [List.getElem?_eq_none (by omega)]
   dsimp only;exact nextB_sees m i hi (by omega) h1 h2 h3
theorem Way.apart {ps:List MPiece}{js:List MJoint}{ss:List MPiece}{ls:List Int}(R:Right ps js ss)(hL:SetL js ls)(hd:∀ i i' (h:i<ss.length) (h':i'<ss.length),i≠i'->¬ (ss[i].len=ss[i'].len/\ss[i].speed=ss[i'].speed/\ss[i].brake=ss[i'].brake)){i i':Nat}{pre pre':List MStep}{s s':MStep}(h:Way ps js ss ls i pre s)(h':Way ps js ss ls i' pre' s')(hne:i≠i'){a b:Nat}(ha:a<pre.length)(hb:b<pre'.length)(hab:a<=b)(e:pre[a]=pre'[b]):False:=by
 have e0:=Trace.back R hL h.tr h'.tr h.val h'.val a b ha hb hab e;obtain ⟨p,hp,q1,q2,q3,q4⟩:=R.sig i h.hi;obtain ⟨h1,h2⟩:=h.head (by omega)
 by_cases hba:b-a=0
 ·obtain ⟨g1,g2⟩:=h'.head (by omega)
  have e1:pre'[b-a]'(by omega)=pre'[0]'(by omega):=by congr 1
  rw [e1,h1,g1] at e0;injection e0 with e2 e3;have hsp:(ss[i]'h.hi).speed≠(getElem ss i' h'.hi).speed:=fun e4=>hd i i' h.hi h'.hi hne ⟨e2,e4,e3⟩
  have hway:(ss[i]'h.hi).brake=1\/(ss[i]'h.hi).brake = -1:=q2
  by_cases hlt:0<((getElem ss i' h'.hi).speed-(ss[i]'h.hi).speed)*(ss[i]'h.hi).brake
  ·exact h2 (nextB_sees ss.length i' h'.hi h'.hi e2.symm e3.symm hlt)
  ·refine g2 (nextB_sees ss.length i h.hi h.hi e2 e3 ?_);rw [<-e3];rcases hway with hw | hw <;> rw [hw] at hlt ⊢ <;> omega
 ·obtain ⟨_,k2,_⟩:=h'.tr (b-a) (by omega)
  refine k2 (by omega) ?_
  rw [<-e0,h1];refine nextB_sees ss.length i h.hi h.hi rfl rfl ?_;unfold fromE;rcases q2 with hw | hw
  ·rw [hw];have:endAt ps (farE (aheadE ⟨(ss[i]'h.hi).len,1⟩))=0:=by simp [aheadE,farE,endAt]
   rw [this];dsimp only;omega
  ·rw [hw];have:endAt ps (farE (aheadE ⟨(ss[i]'h.hi).len,-1⟩))=ps[p].len:=by
    simp [aheadE,farE,endAt,lenI,q1,hp]
   rw [this];dsimp only;omega
theorem nextF_valid {ps:List MPiece}{js:List MJoint}{ss:List MPiece}{ls:List Int}(R:Right ps js ss)(hL:SetL js ls){u:MStep}(hv:ValidS ps u){e:MEnd}(h:nextF js ls u=some e):ValidE ps e:=by
 obtain ⟨j,k,t,hj,hk,ht,_,_,q3,_⟩:=nextF_spec R hL hv h;rw [<-q3];exact R.ends j hj t ht
theorem goF_way {ps:List MPiece}{js:List MJoint}{ss:List MPiece}{ls:List Int}(R:Right ps js ss)(hL:SetL js ls):∀ (n:Nat) (s:MStep) (pos:Int) (pre:List MStep),Trace ps js ss ls pre s->(∀ x ∈ pre,ValidS ps x)->ValidS ps s->(1<=pre.length->pos=fromE ps s)->(goF ps js ss ls n s pos pre).2.2=true ->
  ∃ pre' s',(goF ps js ss ls n s pos pre).1=pre'++[s']/\Trace ps js ss ls pre' s'/\(∀ x ∈ pre',ValidS ps x)/\∃ rest,pre'++[s']=pre++[s]++rest/\(rest≠[]->¬ 0<=nextB ss s.piece s.side pos ss.length)
 | 0,_,_,_,_,_,_,_,h=>by cases h
 | n+1,s,pos,pre,hT,hv,hs,hp,h=>by
  by_cases hb:0<=nextB ss s.piece s.side pos ss.length
  ·have hg:goF ps js ss ls (n+1) s pos pre=(pre++[s],nextB ss s.piece s.side pos ss.length,true):=by unfold goF;rw [if_pos hb]
   rw [hg];exact ⟨pre,s,rfl,hT,hv,[],by simp,fun e=>absurd rfl e⟩
  by_cases hk:kindE js (spotE js (aheadE s)).1=1
  ·have hg:goF ps js ss ls (n+1) s pos pre=(pre++[s],-1,true):=by unfold goF;rw [if_neg hb,if_pos hk]
   rw [hg];exact ⟨pre,s,rfl,hT,hv,[],by simp,fun e=>absurd rfl e⟩
  cases hn:nextF js ls s with
  | none=>rw [goF_off hb hk hn] at h;cases h
  | some e =>
   have hve:=nextF_valid R hL hs hn;have hsd:=validE_side hve;rw [goF_on hb hk hn] at h ⊢;have hT2:=hT.snoc hk (fun q=>by rw [<-hp q];exact hb) hn hsd
   obtain ⟨pre',s',g1,g2,g3,rest,g4,g5⟩:=goF_way R hL n (stepFromE e) (endAt ps e) (pre++[s]) hT2 (fun x hx=>by
    rcases List.mem_append.1 hx with hx | hx
    ·exact hv x hx
    ·rw [List.mem_singleton.1 hx];exact hs) (stepFromE_valid hve) (fun _=>(fromE_step ps hsd).symm) h
   exact ⟨pre',s',g1,g2,g3,stepFromE e::rest,by rw [g4];simp,fun _=>hb⟩
theorem follow_way {ps:List MPiece}{js:List MJoint}{ss:List MPiece}{ls:List Int}(R:Right ps js ss)(hL:SetL js ls){i:Nat}(hi:i<ss.length)(h:(followF ps js ss i ls).2.2=true):∃ pre s,(followF ps js ss i ls).1=pre++[s]/\Way ps js ss ls i pre s:=by
 have e:followF ps js ss i ls=goF ps js ss ls (2*ps.length+2) ⟨ss[i].len,ss[i].brake⟩ ss[i].speed []:=by
  unfold followF;rw [List.getElem?_eq_getElem hi]
 rw [e] at h ⊢;obtain ⟨p,hp,q1,q2,_,_⟩:=R.sig i hi;obtain ⟨pre,s,g1,g2,g3,rest,g4,g5⟩:=goF_way R hL _ _ _ [] (Trace.nil _ _ _ _ _) (fun x hx=>by cases hx) ⟨p,hp,q1,q2⟩ (fun h=>absurd h (by simp)) h
 refine ⟨pre,s,g1,hi,g2,g3,fun hl=>?_⟩
 have g4':pre++[s]=⟨ss[i].len,ss[i].brake⟩::rest:=by rw [g4];simp
 cases pre with
 | nil=>exact absurd hl (Nat.not_lt_zero _)
 | cons x r =>
  rw [List.cons_append] at g4';injection g4' with e1 e2;refine ⟨by simpa using e1,g5 (fun e3=>?_)⟩
  rw [e3] at e2;cases r <;> cases e2
theorem nodup_sub_len {α:Type}[DecidableEq α]:∀ (A B:List α),A.Nodup->(∀ x ∈ A,x ∈ B)->A.length<=B.length
 | [],_,_,_=>Nat.zero_le _
 | a::A,B,hn,hs=>by
  rw [List.nodup_cons] at hn;have ha:=hs a (by simp)
  have ih:=nodup_sub_len A (B.erase a) hn.2 (fun x hx=>(List.mem_erase_of_ne (fun e=>hn.1 (by rw [<-e];exact hx))).2 (hs x (by simp [hx])))
  rw [List.length_erase_of_mem ha] at ih;have:0<B.length:=List.length_pos_of_mem ha;rw [List.length_cons];omega
def manners:List MJoint->Nat->List (Nat × Bool)
 | [],_=>[]
 | j::r,o=>(if j.kind=3 then [(o,true),(o,false)] else [])++manners r (o+1)
theorem manners_len:∀ (js:List MJoint)(o:Nat),(manners js o).length=2*nsw js
 | [],_=>rfl
 | j::r,o=>by
  unfold manners nsw;rw [List.length_append,manners_len r (o+1)]
  by_cases h:j.kind=3
  ·rw [if_pos h,if_pos h];simp;omega
  ·rw [if_neg h,if_neg h];simp
theorem manners_mem:∀ (js:List MJoint)(o j:Nat)(h:j<js.length),js[j].kind=3->∀ b:Bool,(o+j,b) ∈ manners js o
 | [],_,j,h,_,_=>absurd h (Nat.not_lt_zero j)
 | x::r,o,j,h,hk,b=>by
  unfold manners;cases j with
  | zero =>
   have hk':x.kind=3:=by simpa using hk
   rw [if_pos hk'];cases b <;> simp
  | succ j =>
   refine List.mem_append.2 (Or.inr ?_);have:=manners_mem r (o+1) j (by simpa using h) (by simpa using hk) b
   rw [show o+(j+1)=o+1+j by omega]
   exact this
def mannerOf (js:List MJoint)(x:MStep):Nat × Bool:=((spotE js (aheadE x)).1,(spotE js (aheadE x)).2==0)
theorem manner_one {ps:List MPiece}{js:List MJoint}{ss:List MPiece}{ls:List Int}(R:Right ps js ss)(hL:SetL js ls){u v:MStep}(hu:ValidS ps u)(hv:ValidS ps v)(su:sw3 js u=true){e e':MEnd}(h:nextF js ls u=some e)(h':nextF js ls v=some e')(hm:mannerOf js u=mannerOf js v):u=v:=by
 obtain ⟨j,k,t,hj,hk,ht,q1,q2,_,q4⟩:=nextF_spec R hL hu h;obtain ⟨j',k',t',hj',hk',ht',p1,p2,_,p4⟩:=nextF_spec R hL hv h';unfold mannerOf at hm;rw [q1,p1] at hm;injection hm with e1 e2;dsimp only at e1 e2;subst e1;have h3:js[j].kind=3:=by
  unfold sw3 at su;rw [q1,decide_eq_true_eq] at su;dsimp only at su;rw [kindE_at hj] at su;exact su
 have hkk:k=k':=by
  have e3:(k=0↔k'=0):=by
   by_cases a:k=0 <;> by_cases b:k'=0 <;> simp [a,b] at e2 ⊢
  unfold PairK at q4 p4;omega
 subst hkk;exact aheadE_one hu hv (q2.symm.trans p2)
theorem manner_in {ps:List MPiece}{js:List MJoint}{ss:List MPiece}{ls:List Int}(R:Right ps js ss)(hL:SetL js ls){u:MStep}(hu:ValidS ps u)(su:sw3 js u=true){e:MEnd}(h:nextF js ls u=some e):mannerOf js u ∈ manners js 0:=by
 obtain ⟨j,k,t,hj,hk,ht,q1,q2,_,q4⟩:=nextF_spec R hL hu h;unfold mannerOf;rw [q1];have h3:js[j].kind=3:=by
  unfold sw3 at su;rw [q1,decide_eq_true_eq] at su;dsimp only at su;rw [kindE_at hj] at su;exact su
 have:=manners_mem js 0 j hj h3 (k==0);rw [Nat.zero_add] at this;exact this
section
variable {ps:List MPiece} {js:List MJoint} {ss:List MPiece} {ls:List Int}
theorem Way.late (R:Right ps js ss)(hL:SetL js ls){i i':Nat}{pre pre':List MStep}{s s':MStep}(h:Way ps js ss ls i pre s)(h':Way ps js ss ls i' pre' s'){a b:Nat}(ha:a<pre.length)(hb:b<pre'.length)(hab:a<b)(e:pre[a]=pre'[b]):False:=by
 have e0:=Trace.back R hL h.tr h'.tr h.val h'.val a b ha hb (by omega) e
 obtain ⟨p,hp,q1,q2,q3,q4⟩:=R.sig i h.hi;obtain ⟨h1,h2⟩:=h.head (by omega)
 obtain ⟨_,k2,_⟩:=h'.tr (b-a) (by omega)
 refine k2 (by omega) ?_
 rw [<-e0,h1];refine nextB_sees ss.length i h.hi h.hi rfl rfl ?_;unfold fromE;rcases q2 with hw | hw
 ·rw [hw];have:endAt ps (farE (aheadE ⟨(ss[i]'h.hi).len,1⟩))=0:=by simp [aheadE,farE,endAt]
  rw [this];dsimp only;omega
 ·rw [hw];have:endAt ps (farE (aheadE ⟨(ss[i]'h.hi).len,-1⟩))=ps[p].len:=by
   simp [aheadE,farE,endAt,lenI,q1,hp]
  rw [this];dsimp only;omega
theorem Way.nodup (R:Right ps js ss)(hL:SetL js ls){i:Nat}{pre:List MStep}{s:MStep}(h:Way ps js ss ls i pre s):pre.Nodup:=by
 unfold List.Nodup;rw [List.pairwise_iff_getElem];intro a b ha hb hab e;exact Way.late R hL h h ha hb hab e
def passes (ps:List MPiece)(js:List MJoint)(ss:List MPiece)(ls:List Int)(i:Nat):List MStep:=
 if (followF ps js ss i ls).2.2=true then (followF ps js ss i ls).1.dropLast.filter (sw3 js) else []
theorem passes_way (R:Right ps js ss)(hL:SetL js ls){i:Nat}(hi:i<ss.length){x:MStep}(hx:x ∈ passes ps js ss ls i):∃ pre s,Way ps js ss ls i pre s/\passes ps js ss ls i=pre.filter (sw3 js)/\x ∈ pre/\sw3 js x=true:=by
 unfold passes at hx ⊢
 by_cases ho:(followF ps js ss i ls).2.2=true
 ·rw [if_pos ho] at hx ⊢;obtain ⟨pre,s,g1,g2⟩:=follow_way R hL hi ho;rw [g1,List.dropLast_concat] at hx ⊢;obtain ⟨a,b⟩:=List.mem_filter.1 hx;exact ⟨pre,s,g2,rfl,a,b⟩
 ·rw [if_neg ho] at hx;cases hx
theorem passes_on (R:Right ps js ss)(hL:SetL js ls){i:Nat}(hi:i<ss.length){x:MStep}(hx:x ∈ passes ps js ss ls i):ValidS ps x/\sw3 js x=true/\∃ e,nextF js ls x=some e:=by
 obtain ⟨pre,s,w,_,h1,h2⟩:=passes_way R hL hi hx;obtain ⟨b,hb,rfl⟩:=List.getElem_of_mem h1;obtain ⟨_,_,e,h3,_⟩:=w.tr b hb;exact ⟨w.val _ (List.getElem_mem hb),h2,e,h3⟩
theorem passes_sum (R:Right ps js ss)(hL:SetL js ls)(hd:∀ i i' (h:i<ss.length) (h':i'<ss.length),i≠i'->¬ (ss[i].len=ss[i'].len/\ss[i].speed=ss[i'].speed/\ss[i].brake=ss[i'].brake)):((List.range ss.length).flatMap (passes ps js ss ls)).length<=2*nsw js:=by
 rw [<-manners_len js 0,<-List.length_map (f:=mannerOf js)];refine nodup_sub_len _ _ ?_ (fun m hm=>?_)
 ·unfold List.Nodup;rw [List.pairwise_map,List.pairwise_flatMap];have key:∀ i i',i<ss.length->i'<ss.length->∀ x ∈ passes ps js ss ls i,∀ y ∈ passes ps js ss ls i',mannerOf js x=mannerOf js y->x=y:=fun i i' hi hi' x hx y hy e=>by
   obtain ⟨a1,a2,e1,a3⟩:=passes_on R hL hi hx;obtain ⟨b1,_,e2,b3⟩:=passes_on R hL hi' hy;exact manner_one R hL a1 b1 a2 a3 b3 e
  refine ⟨fun i hi=>?_,?_⟩
  ·have hi':=List.mem_range.1 hi
   by_cases hz:passes ps js ss ls i=[]
   ·rw [hz];exact List.Pairwise.nil
   ·obtain ⟨x,hx⟩:=List.exists_mem_of_ne_nil _ hz;obtain ⟨pre,s,w,hp,_,_⟩:=passes_way R hL hi' hx;have hn:(passes ps js ss ls i).Nodup:=by rw [hp];exact (w.nodup R hL).filter _
    exact List.Pairwise.imp_of_mem (fun {a b} ha hb hab e=>hab (key i i hi' hi' a ha b hb e)) hn
  ·have hr:(List.range ss.length).Pairwise (fun a b=>a≠b):=List.nodup_range
   refine List.Pairwise.imp_of_mem (fun {i i'} hi hi' hne x hx y hy e=>?_) hr
   have h1:=List.mem_range.1 hi;have h2:=List.mem_range.1 hi';have exy:=key i i' h1 h2 x hx y hy e;subst exy;obtain ⟨pre,s,w,_,m1,_⟩:=passes_way R hL h1 hx;obtain ⟨pre',s',w',_,m2,_⟩:=passes_way R hL h2 hy;obtain ⟨a,ha,ea⟩:=List.getElem_of_mem m1;obtain ⟨b,hb,eb⟩:=List.getElem_of_mem m2
   by_cases hab:a<=b
   ·exact Way.apart R hL hd w w' hne ha hb hab (ea.trans eb.symm)
   ·exact Way.apart R hL hd w' w (fun q=>hne q.symm) hb ha (by omega) (eb.trans ea.symm)
 ·obtain ⟨x,hx,rfl⟩:=List.mem_map.1 hm;obtain ⟨i,hi,hx⟩:=List.mem_flatMap.1 hx;obtain ⟨a1,a2,e,a3⟩:=passes_on R hL (List.mem_range.1 hi) hx;exact manner_in R hL a1 a2 a3
end
def wtQ (q:MPath):Nat:=2 ^ q.lies.length
def fitsQ (ls:List Int)(Q:List MPath):Nat:=((Q.filter fun q=>fitQ ls q.lies).map wtQ).sum
theorem fitsQ_cons (ls:List Int)(q:MPath)(Q:List MPath):fitsQ ls (q::Q)=(if fitQ ls q.lies=true then wtQ q else 0)+fitsQ ls Q:=by
 unfold fitsQ
 by_cases h:fitQ ls q.lies=true
 ·simp [h]
 ·simp [h]
theorem fitsQ_app (ls:List Int)(A B:List MPath):fitsQ ls (A++B)=fitsQ ls A+fitsQ ls B:=by
 unfold fitsQ;rw [List.filter_append,List.map_append,List.sum_append]
theorem sum_one (q:MPath):∀ L:List (List Int),(L.map fun ls=>if fitQ ls q.lies=true then wtQ q else 0).sum=(L.countP fun ls=>fitQ ls q.lies)*wtQ q
 | []=>by simp
 | a::L=>by
  rw [List.map_cons,List.sum_cons,sum_one q L,List.countP_cons]
  by_cases h:fitQ a q.lies=true
  ·rw [if_pos h,if_pos h,Nat.add_mul,Nat.one_mul,Nat.add_comm]
  ·rw [if_neg h,if_neg h,Nat.zero_add,Nat.add_zero]
theorem sum_two (f g:List Int->Nat):∀ L:List (List Int),(L.map fun ls=>f ls+g ls).sum=(L.map f).sum+(L.map g).sum
 | []=>rfl
 | a::L=>by
  rw [List.map_cons,List.sum_cons,sum_two f g L,List.map_cons,List.map_cons,List.sum_cons,List.sum_cons];omega
theorem sum_most (f:List Int->Nat)(c:Nat):∀ L:List (List Int),(∀ ls ∈ L,f ls<=c)->(L.map f).sum<=L.length*c
 | [],_=>Nat.zero_le _
 | a::L,h=>by
  have ih:=sum_most f c L (fun ls hl=>h ls (by simp [hl]))
  have h1:=h a (by simp)
  rw [List.map_cons,List.sum_cons,List.length_cons,Nat.add_mul,Nat.one_mul];omega
theorem count_all_fits {js:List MJoint}:∀ Q:List MPath,(∀ q ∈ Q,LiesOk js q.lies)->Q.length*2 ^ nsw js<=((allL js).map fun ls=>fitsQ ls Q).sum
 | [],_=>by simp
 | q::Q,h=>by
  have ih:=count_all_fits Q (fun q hq=>h q (by simp [hq]))
  have h1:=fits_many (h q (by simp))
  have e:((allL js).map fun ls=>fitsQ ls (q::Q)).sum=((allL js).countP fun ls=>fitQ ls q.lies)*wtQ q+((allL js).map fun ls=>fitsQ ls Q).sum:=by
   rw [<-sum_one q (allL js),<-sum_two];congr 1;refine List.map_congr_left (fun ls _=>fitsQ_cons ls q Q)
  rw [e,List.length_cons,Nat.add_mul,Nat.one_mul];unfold wtQ;omega
theorem pow_lin {n:Nat}(h:n<=6):2 ^ n<=1+11*n:=by
 have h2:n=0\/n=1\/n=2\/n=3\/n=4\/n=5\/n=6:=by omega
 rcases h2 with rfl | rfl | rfl | rfl | rfl | rfl | rfl <;> decide
def swNo:List MJoint->Nat->List Int
 | [],_=>[]
 | j::r,o=>(if j.kind=3 then [(o:Int)] else [])++swNo r (o+1)
theorem swNo_len:∀ (js:List MJoint)(o:Nat),(swNo js o).length=nsw js
 | [],_=>rfl
 | j::r,o=>by
  unfold swNo nsw;rw [List.length_append,swNo_len r (o+1)]
  by_cases h:j.kind=3
  ·rw [if_pos h,if_pos h];rfl
  ·rw [if_neg h,if_neg h];rfl
theorem swNo_mem:∀ (js:List MJoint)(o j:Nat)(h:j<js.length),js[j].kind=3->((o+j:Nat):Int) ∈ swNo js o
 | [],_,j,h,_=>absurd h (Nat.not_lt_zero j)
 | x::r,o,j,h,hk=>by
  unfold swNo;cases j with
  | zero =>
   have hk':x.kind=3:=by simpa using hk
   rw [if_pos hk'];simp
  | succ j =>
   refine List.mem_append.2 (Or.inr ?_);have:=swNo_mem r (o+1) j (by simpa using h) (by simpa using hk)
   rw [show o+(j+1)=o+1+j by omega]
   exact this
theorem lies_sw {js:List MJoint}{lies:List MLie}(h:LiesOk js lies):lies.length<=nsw js:=by
 rw [<-swNo_len js 0,<-List.length_map (f:=MEnd.piece)];refine nodup_sub_len _ _ h.2 (fun m hm=>?_)
 obtain ⟨x,hx,rfl⟩:=List.mem_map.1 hm;obtain ⟨j,hj,q1,q2,_⟩:=h.1 x hx;have:=swNo_mem js 0 j hj q2;rw [Nat.zero_add] at this;rw [q1];exact this
section
variable {ps:List MPiece} {js:List MJoint} {ss:List MPiece} {ls:List Int}
theorem share_one (R:Right ps js ss)(hL:SetL js ls)(h6:nsw js<=6){i:Nat}(hi:i<ss.length):fitsQ ls (endedL (evs ps js ss (depthR ps) (beginP i ss[i]) ss[i].speed))<=1+11*(passes ps js ss ls i).length:=by
 have hok:=WalkOk.begin R hi;have hfit:=evs_fit R hL (depthR ps) i [] ⟨ss[i].len,ss[i].brake⟩ [] [] ss[i].speed hok rfl (Trace.nil _ _ _ _ _);have hpas:=evs_passed R (depthR ps) i [] ⟨ss[i].len,ss[i].brake⟩ [] [] ss[i].speed hok (Nat.le_refl _);have hlie:=evs_lies R (depthR ps) i [] ⟨ss[i].len,ss[i].brake⟩ [] [] ss[i].speed hok;have hF:followF ps js ss i ls=goF ps js ss ls (depthR ps) ⟨ss[i].len,ss[i].brake⟩ ss[i].speed []:=by
  unfold followF;rw [List.getElem?_eq_getElem hi];rfl
 have hbeg:pathOf i ([]++[⟨ss[i].len,ss[i].brake⟩]) [] []=beginP i ss[i]:=rfl;rw [hbeg] at hfit hpas hlie;rw [<-hF] at hfit;generalize evs ps js ss (depthR ps) (beginP i ss[i]) ss[i].speed=E at hfit hpas hlie ⊢;have hE:fitsQ ls (endedL E)=((E.filter (keepQ ls)).map wtQ).sum:=by
  unfold fitsQ endedL;rw [List.filter_filter];have:(fun a:MPath=>fitQ ls a.lies&&a.ended)=keepQ ls:=by
   funext a
   unfold keepQ;exact Bool.and_comm _ _
  rw [this]
 rw [hE]
 by_cases ho:(followF ps js ss i ls).2.2=true
 ·obtain ⟨q,hq,hs,_,_⟩:=hfit.1 ho;rw [hq];have hqE:q ∈ E:=(List.mem_filter.1 (show q ∈ E.filter (keepQ ls) by rw [hq];simp)).1
  have h1:=(hpas q hqE).1;have h2:=lies_sw (hlie q hqE);have h3:(passes ps js ss ls i).length=q.steps.dropLast.countP (sw3 js):=by
   unfold passes;rw [if_pos ho,<-hs,List.countP_eq_length_filter]
  rw [h3];have h4:=pow_lin (n:=q.lies.length) (by omega)
  simp only [List.map_cons,List.map_nil,List.sum_cons,List.sum_nil,wtQ];omega
 ·have hf:(followF ps js ss i ls).2.2=false:=by simpa using ho
  rw [hfit.2 hf];simp
theorem share_all (R:Right ps js ss)(hL:SetL js ls)(h6:nsw js<=6):∀ k,k<=ss.length->fitsQ ls (endedL (allEvs ps js ss k))<=k+11*((List.range k).flatMap (passes ps js ss ls)).length
 | 0,_=>by simp [allEvs,endedL,fitsQ]
 | k+1,hk=>by
  have ih:=share_all R hL h6 k (by omega)
  have hk':k<ss.length:=by omega
  have e:allEvs ps js ss (k+1)=allEvs ps js ss k++evs ps js ss (depthR ps) (beginP k ss[k]) ss[k].speed:=by
   show allEvs ps js ss k++(match ss[k]? with | none=>[] | some s=>evs ps js ss (depthR ps) (beginP k s) s.speed)=_
   rw [List.getElem?_eq_getElem hk']
  have h1:=share_one R hL h6 hk';have e2:endedL (allEvs ps js ss k++evs ps js ss (depthR ps) (beginP k ss[k]) ss[k].speed)=endedL (allEvs ps js ss k)++endedL (evs ps js ss (depthR ps) (beginP k ss[k]) ss[k].speed):=by
   unfold endedL;rw [List.filter_append]
  rw [e,e2,fitsQ_app,List.range_succ,List.flatMap_append,List.length_append,List.flatMap_singleton];omega
theorem ended_few (R:Right ps js ss)(h6:nsw js<=6)(h8:ss.length<=8)(hd:∀ i i' (h:i<ss.length) (h':i'<ss.length),i≠i'->¬ (ss[i].len=ss[i'].len/\ss[i].speed=ss[i'].speed/\ss[i].brake=ss[i'].brake)):(endedL (allEvs ps js ss ss.length)).length<=140:=by
 have h1:=count_all_fits (js:=js) (endedL (allEvs ps js ss ss.length)) (fun q hq=>allEvs_lies R ss.length (Nat.le_refl _) q (List.mem_filter.1 hq).1)
 have h2:=sum_most (fun ls=>fitsQ ls (endedL (allEvs ps js ss ss.length))) 140 (allL js) (fun ls hl=>by
  have hL:=allL_set js ls hl;have a:=share_all R hL h6 ss.length (Nat.le_refl _);have b:=passes_sum R hL hd;omega)
 rw [allL_length] at h2;have h3:=Nat.le_trans h1 h2;rw [Nat.mul_comm] at h3;exact Nat.le_of_mul_le_mul_left h3 (Nat.pow_pos (by omega))
end
theorem pow_half {m l:Nat}(h:l+1<=m):2*2 ^ (m-(l+1))=2 ^ (m-l):=by
 rw [show m-l=m-(l+1)+1 by omega,Nat.pow_succ,Nat.mul_comm]
theorem one_more {n c l:Nat}(h:l<=n*c)(hc:1<=c):1+l<=(n+1)*c:=by
 rw [Nat.add_mul,Nat.one_mul];omega
theorem evs_len {ps:List MPiece}{js:List MJoint}{ss:List MPiece}(R:Right ps js ss):∀ (n i:Nat) (pre:List MStep) (s:MStep) (lies:List MLie) (crosses:List Int) (pos:Int),WalkOk ps js ss i pre s lies crosses pos->(evs ps js ss n (pathOf i (pre++[s]) lies crosses) pos).length<=n*2 ^ (nsw js-lies.length)
 | 0,_,_,_,_,_,_=>fun _=>by simp [evs]
 | n+1,i,pre,s,lies,crosses,pos=>by
  intro ok;have h0:LiesOk js lies:=⟨ok.lv,ok.ld⟩;have hc1:1<=2 ^ (nsw js-lies.length):=Nat.one_le_two_pow;have hone:1<=(n+1)*2 ^ (nsw js-lies.length):=one_more (l:=0) (Nat.zero_le _) hc1
  by_cases hb:0<=nextB ss s.piece s.side pos ss.length
  ·rw [evs_signal hb];exact hone
  by_cases hr:s ∈ pre
  ·rw [evs_round hb hr];exact hone
  by_cases hk:kindE js (spotE js (aheadE s)).1=1
  ·rw [evs_buffer hb hr hk];exact hone
  rw [evs_on hb hr hk,List.length_cons,Nat.add_comm];refine one_more ?_ hc1;have hv:=aheadE_valid ok.sv;obtain ⟨j,k,hsp,hse⟩:=R.spot hv;obtain ⟨_,hj,hkl,_⟩:=spotF_some hsp;simp only [Nat.sub_zero] at hj hkl;have hacr:=fun t (ht:t ∈ beyondF (kindE js (spotE js (aheadE s)).1) (spotE js (aheadE s)).2)=>R.across hv ht
  have hkd:=R.kind j hj;rw [hse] at hk hacr ⊢;dsimp only at hk hacr ⊢;rw [kindE_at hj] at hk hacr ⊢;have hcl:=ok.cl;have h4:js[j].kind=2\/js[j].kind=3\/js[j].kind=4:=by omega
  unfold kidsF;rcases h4 with h4 | h4 | h4
  ·have hbe:beyondF js[j].kind k=[1-k]:=by unfold beyondF;rw [if_pos h4]
   have hval:=hacr (1-k) (by rw [hbe];exact List.mem_singleton.2 rfl)
   rw [hbe,List.flatMap_singleton];unfold kidF;rw [over_plain (by rw [kindE_at hj];exact h4)]
   exact evs_len R n i _ _ _ _ _ (WalkOk.next R ok hr hval h0.1 h0.2 (by omega))
  ·
   have hset:∀ t,ValidE ps (endE js j t)->lies.any (fun l=>l.piece==(j:Int))=true->lieF lies j=(max k t:Nat)->(kidF ps js ss n (pathOf i (pre++[s]) lies crosses) j k t).length<=n*2 ^ (nsw js-lies.length):=fun t hval ha hl=>by
    unfold kidF;rw [over_same (by rw [kindE_at hj];exact h4) hl (lieF_any ok.lv ha)]
    exact evs_len R n i _ _ _ _ _ (WalkOk.next R ok hr hval h0.1 h0.2 (by omega))
   have hoff:∀ t,lies.any (fun l=>l.piece==(j:Int))=true->lieF lies j≠(max k t:Nat)->(kidF ps js ss n (pathOf i (pre++[s]) lies crosses) j k t).length=0:=fun t ha hl=>by
    unfold kidF;rw [over_other (by rw [kindE_at hj];exact h4) hl (lieF_any ok.lv ha)]
    rfl
   have hnew:∀ t,ValidE ps (endE js j t)->¬ lies.any (fun l=>l.piece==(j:Int))=true->((max k t:Nat):Int)=1\/((max k t:Nat):Int)=2->2*(kidF ps js ss n (pathOf i (pre++[s]) lies crosses) j k t).length<=n*2 ^ (nsw js-lies.length):=fun t hval ha hm=>by
    unfold kidF;rw [over_new (by rw [kindE_at hj];exact h4) (lieF_not ha)]
    have hlo:LiesOk js (lies++[⟨j,(max k t:Nat)⟩]):=⟨lies_push ok.lv hj h4 hm,lies_pushd ok.ld ha⟩;have h1:=evs_len R n i _ _ _ _ _ (WalkOk.next R ok hr hval hlo.1 hlo.2 (crosses':=crosses) (by omega))
    have h2:=lies_sw hlo;rw [List.length_append,List.length_singleton] at h1 h2;have h3:=pow_half h2;have h5:n*2 ^ (nsw js-lies.length)=2*(n*2 ^ (nsw js-(lies.length+1))):=by rw [<-h3,Nat.mul_left_comm]
    rw [h5];exact Nat.mul_le_mul_left 2 h1
   by_cases hk0:k=0
   ·subst hk0;have hbe:beyondF js[j].kind 0=[1,2]:=by unfold beyondF;rw [if_neg (by omega),if_pos h4,if_pos rfl]
    have hv1:=hacr 1 (by rw [hbe];simp)
    have hv2:=hacr 2 (by rw [hbe];simp)
    rw [hbe];have hfm:(([1,2]:List Nat).flatMap (kidF ps js ss n (pathOf i (pre++[s]) lies crosses) j 0)).length=(kidF ps js ss n (pathOf i (pre++[s]) lies crosses) j 0 1).length+(kidF ps js ss n (pathOf i (pre++[s]) lies crosses) j 0 2).length:=by simp
    rw [hfm]
    by_cases ha:lies.any (fun l=>l.piece==(j:Int))=true
    ·by_cases hl1:lieF lies j=((max 0 1:Nat):Int)
     ·have a:=hset 1 hv1 ha hl1;have b:=hoff 2 ha (by rw [hl1];decide)
      omega
     ·have a:=hoff 1 ha hl1
      by_cases hl2:lieF lies j=((max 0 2:Nat):Int)
      ·have b:=hset 2 hv2 ha hl2;omega
      ·have b:=hoff 2 ha hl2;omega
    ·have a:=hnew 1 hv1 ha (Or.inl rfl);have b:=hnew 2 hv2 ha (Or.inr rfl);omega
   ·have hbe:beyondF js[j].kind k=[0]:=by unfold beyondF;rw [if_neg (by omega),if_pos h4,if_neg hk0]
    have hv0:=hacr 0 (by rw [hbe];simp)
    have hk3:k<3:=by have:=hkd.2.2;omega
    have hm:((max k 0:Nat):Int)=1\/((max k 0:Nat):Int)=2:=by omega
    rw [hbe,List.flatMap_singleton]
    by_cases ha:lies.any (fun l=>l.piece==(j:Int))=true
    ·by_cases hl:lieF lies j=((max k 0:Nat):Int)
     ·exact hset 0 hv0 ha hl
     ·rw [hoff 0 ha hl];exact Nat.zero_le _
    ·have a:=hnew 0 hv0 ha hm;omega
  ·obtain ⟨t,hbe⟩:∃ t,beyondF js[j].kind k=[t]:=by
    unfold beyondF;rw [if_neg (by omega),if_neg (by omega),if_pos h4]
    exact ⟨_,rfl⟩
   have hval:=hacr t (by rw [hbe];exact List.mem_singleton.2 rfl)
   rw [hbe,List.flatMap_singleton];unfold kidF;rw [over_cross (by rw [kindE_at hj];exact h4)]
   exact evs_len R n i _ _ _ _ _ (WalkOk.next R ok hr hval h0.1 h0.2 (by simp;omega))
theorem allEvs_len {ps:List MPiece}{js:List MJoint}{ss:List MPiece}(R:Right ps js ss):∀ k,k<=ss.length->(allEvs ps js ss k).length<=k*(depthR ps*2 ^ nsw js)
 | 0,_=>by simp [allEvs]
 | k+1,hk=>by
  have ih:=allEvs_len R k (by omega)
  have hk':k<ss.length:=by omega
  have e:allEvs ps js ss (k+1)=allEvs ps js ss k++evs ps js ss (depthR ps) (beginP k ss[k]) ss[k].speed:=by
   show allEvs ps js ss k++(match ss[k]? with | none=>[] | some s=>evs ps js ss (depthR ps) (beginP k s) s.speed)=_
   rw [List.getElem?_eq_getElem hk']
  have h1:=evs_len R (depthR ps) k [] ⟨ss[k].len,ss[k].brake⟩ [] [] ss[k].speed (WalkOk.begin R hk');have hbeg:pathOf k ([]++[⟨ss[k].len,ss[k].brake⟩]) [] []=beginP k ss[k]:=rfl;rw [hbeg,List.length_nil,Nat.sub_zero] at h1;rw [e,List.length_append,Nat.add_mul,Nat.one_mul];omega
theorem evs_few {ps:List MPiece}{js:List MJoint}{ss:List MPiece}(R:Right ps js ss)(hp:ps.length<=10)(h6:nsw js<=6)(h8:ss.length<=8):(allEvs ps js ss ss.length).length<=20000:=by
 have h1:=allEvs_len R ss.length (Nat.le_refl _);have h2:2 ^ nsw js<=64:=Nat.pow_le_pow_right (n:=2) (by omega) h6
 have h3:depthR ps*2 ^ nsw js<=22*64:=Nat.mul_le_mul (by unfold depthR;omega) h2
 have h4:ss.length*(depthR ps*2 ^ nsw js)<=8*(22*64):=Nat.mul_le_mul h8 h3;omega
def totE (E:List MEnd):Nat->Nat
 | 0=>0
 | n+1=>totE E n+(usesIn E n 0+usesIn E n 1)
theorem totE_mono (e:MEnd)(E:List MEnd):∀ n,totE E n<=totE (e::E) n
 | 0=>Nat.le_refl _
 | n+1=>by
  have ih:=totE_mono e E n;unfold totE;rw [usesIn_cons,usesIn_cons];omega
theorem totE_cons {e:MEnd}{p:Nat}(h1:e.piece=p)(h2:e.side=0\/e.side=1)(E:List MEnd):∀ n,p<n->totE E n+1<=totE (e::E) n
 | 0,h=>absurd h (Nat.not_lt_zero p)
 | n+1,h=>by
  unfold totE;rw [usesIn_cons,usesIn_cons]
  by_cases hp:p<n
  ·have ih:=totE_cons h1 h2 E n hp;omega
  ·have hpn:p=n:=by omega
   subst hpn;have ih:=totE_mono e E p;rcases h2 with h2 | h2
   ·rw [if_pos ⟨h1,h2⟩];omega
   ·have hc:e.piece=(p:Int)/\e.side=1:=⟨h1,h2⟩;rw [if_pos hc];omega
theorem totE_len {N:Nat}:∀ E:List MEnd,(∀ e ∈ E,∃ p:Nat,p<N/\e.piece=p/\(e.side=0\/e.side=1))->E.length<=totE E N
 | [],_=>Nat.zero_le _
 | e::E,h=>by
  have ih:=totE_len E (fun x hx=>h x (by simp [hx]))
  obtain ⟨p,hp,h1,h2⟩:=h e (by simp)
  have:=totE_cons h1 h2 E N hp;rw [List.length_cons];omega
theorem totE_two {E:List MEnd}{N:Nat}(h:∀ i,i<N->usesIn E i 0=1/\usesIn E i 1=1):∀ n,n<=N->totE E n=2*n
 | 0,_=>rfl
 | n+1,hn=>by
  have ih:=totE_two h n (by omega)
  obtain ⟨h1,h2⟩:=h n (by omega)
  unfold totE;omega
theorem nsw_ends:∀ js:List MJoint,(∀ j ∈ js,j.kind=3->j.ends.length=3)->3*nsw js<=(js.flatMap (·.ends)).length
 | [],_=>Nat.zero_le _
 | j::r,h=>by
  have ih:=nsw_ends r (fun x hx=>h x (by simp [hx]))
  unfold nsw;rw [List.flatMap_cons,List.length_append]
  by_cases hk:j.kind=3
  ·have:=h j (by simp) hk
   rw [if_pos hk];omega
  ·rw [if_neg hk];omega
theorem nsw_le {ps:List MPiece}{js:List MJoint}{ss:List MPiece}(R:Right ps js ss):3*nsw js<=2*ps.length:=by
 have h1:=nsw_ends js (fun x hx hk=>by
  obtain ⟨j,hj,rfl⟩:=List.getElem_of_mem hx;have:=(R.kind j hj).2.2;omega)
 have h2:=totE_len (N:=ps.length) (js.flatMap (·.ends)) (fun e he=>by
  obtain ⟨x,hx,he⟩:=List.mem_flatMap.1 he;obtain ⟨j,hj,rfl⟩:=List.getElem_of_mem hx;obtain ⟨k,hk,rfl⟩:=List.getElem_of_mem he;exact R.ends j hj k hk)
 have h3:=totE_two (E:=js.flatMap (fun x:MJoint=>x.ends)) (N:=ps.length) (fun i hi=>R.uses i hi) ps.length (Nat.le_refl _)
 omega
theorem few_switches {ps:List MPiece}{js:List MJoint}{ss:List MPiece}(R:Right ps js ss)(hp:ps.length<=10):nsw js<=6:=by
 have:=nsw_le R;omega
theorem sig_apart {ps:List MPiece}{js:List MJoint}{ss:List MPiece}(h:sigF ps js ss=(0,0)):∀ i i' (h:i<ss.length) (h':i'<ss.length),i≠i'->¬ (ss[i].len=ss[i'].len/\ss[i].speed=ss[i'].speed/\ss[i].brake=ss[i'].brake):=by
 have hb:∀ k,k<ss.length->badS4 ss k=false:=by
  rcases firstBad_cases (badS4 ss) ss.length with ⟨_,hb⟩ | ⟨i,_,e,_⟩
  ·exact hb
  ·exfalso;unfold sigF at h
   by_cases h1:netF ps js=(0,0)
   ·rw [if_pos h1] at h
    by_cases h2:60<ss.length
    ·rw [if_pos h2] at h;cases h
    ·rw [if_neg h2] at h
     by_cases h3:0<=firstBad (badS3 ps ss) ss.length
     ·rw [if_pos h3] at h;cases h
     ·rw [if_neg h3,if_pos (by omega)] at h
      cases h
   ·rw [if_neg h1] at h;cases h
 have key:∀ i i' (h:i<ss.length) (h':i'<ss.length),i<i'->¬ (ss[i].len=ss[i'].len/\ss[i].speed=ss[i'].speed/\ss[i].brake=ss[i'].brake):=fun i i' hi hi' hlt ⟨e1,e2,e3⟩=>by
  have:=hb i' hi';unfold badS4 at this;rw [List.getElem?_eq_getElem hi'] at this;dsimp only at this;unfold beforeB at this;rw [List.any_eq_false] at this;refine this ss[i] ?_ ?_
  ·rw [List.mem_take_iff_getElem];exact ⟨i,by omega,rfl⟩
  ·unfold same4;simp [e1,e2,e3]
 intro i i' hi hi' hne e
 by_cases hlt:i<i'
 ·exact key i i' hi hi' hlt e
 ·exact key i' i hi' hi (by omega) ⟨e.1.symm,e.2.1.symm,e.2.2.symm⟩
theorem routes_whole {ps:List MPiece}{js:List MJoint}{ss:List MPiece}{over:Int}(h:sigF ps js ss=(0,0))(hp:ps.length<=10)(h8:ss.length<=8)(h0:0<=over)(h1:over<=100000):routesF ps js ss over=(endedL (allEvs ps js ss ss.length)).map (routeF ps js ss over):=by
 have R:=right_of h;have h6:=few_switches R hp;unfold routesF;rw [if_pos ⟨h,h0,h1,evs_few R hp h6 h8,Nat.le_trans (ended_few R h6 h8 (sig_apart h)) (by omega)⟩]
theorem stopP_start (js:List MJoint)(ss:List MPiece)(p:MPath)(pos:Int):(stopP js ss p pos).start=p.start:=by
 unfold stopP
 split
 ·rfl
 ·split <;> rfl
theorem overP_start {js:List MJoint}{p q:MPath}{j k t:Nat}(h:overP js p j k t=some q):q.start=p.start:=by
 unfold overP at h;dsimp only at h
 split at h
 ·cases h;rfl
 ·split at h
  ·split at h
   ·split at h
    ·cases h;rfl
    ·cases h
   ·cases h;rfl
  ·cases h;rfl
theorem evs_start {ps:List MPiece}{js:List MJoint}{ss:List MPiece}:∀ (n:Nat) (p:MPath) (pos:Int),∀ q ∈ evs ps js ss n p pos,q.start=p.start
 | 0,_,_,_,h=>by cases h
 | n+1,p,pos,q,h=>by
  unfold evs at h;rcases List.mem_cons.1 h with rfl | h
  ·exact stopP_start js ss p pos
  ·split at h
   ·cases h
   ·obtain ⟨t,_,h⟩:=List.mem_flatMap.1 h
    split at h
    ·cases h
    ·rename_i q' hq';rw [evs_start n q' _ q h,overP_start hq',stopP_start]
theorem filter_none {α:Type}{p:α->Bool}{l:List α}(h:∀ x ∈ l,p x=false):l.filter p=[]:=by
 rw [List.filter_eq_nil_iff];intro x hx;rw [h x hx];simp
theorem allEvs_pick {ps:List MPiece}{js:List MJoint}{ss:List MPiece}{i:Nat}(hi:i<ss.length):∀ k,k<=ss.length->(allEvs ps js ss k).filter (fun q=>q.start==(i:Int))=if i<k then evs ps js ss (depthR ps) (beginP i ss[i]) ss[i].speed else []
 | 0,_=>by simp [allEvs]
 | k+1,hk=>by
  have ih:=allEvs_pick (ps:=ps) (js:=js) hi k (by omega)
  have hk':k<ss.length:=by omega
  have e:allEvs ps js ss (k+1)=allEvs ps js ss k++evs ps js ss (depthR ps) (beginP k ss[k]) ss[k].speed:=by
   show allEvs ps js ss k++(match ss[k]? with | none=>[] | some s=>evs ps js ss (depthR ps) (beginP k s) s.speed)=_
   rw [List.getElem?_eq_getElem hk']
  have hst:∀ q ∈ evs ps js ss (depthR ps) (beginP k ss[k]) ss[k].speed,q.start=(k:Int):=fun q hq=>evs_start _ _ _ q hq
  rw [e,List.filter_append,ih]
  by_cases hik:i=k
  ·subst hik;rw [if_neg (by omega),if_pos (by omega),List.nil_append,List.filter_eq_self]
   intro q hq;rw [hst q hq];simp
  ·have hz:(evs ps js ss (depthR ps) (beginP k ss[k]) ss[k].speed).filter (fun q=>q.start==(i:Int))=[]:=filter_none (fun q hq=>by
    rw [hst q hq,beq_eq_false_iff_ne];omega)
   rw [hz,List.append_nil]
   by_cases hlt:i<k
   ·rw [if_pos hlt,if_pos (by omega)]
   ·rw [if_neg hlt,if_neg (by omega)]
def pickR (i:Nat)(ls:List Int)(r:MRoute):Bool:=r.start==(i:Int)&&fitQ ls r.lies
theorem whole_fit {ps:List MPiece}{js:List MJoint}{ss:List MPiece}{over:Int}{ls:List Int}(h:sigF ps js ss=(0,0))(hp:ps.length<=10)(h8:ss.length<=8)(h0:0<=over)(h1:over<=100000)(hL:SetL js ls){i:Nat}(hi:i<ss.length):
  ((followF ps js ss i ls).2.2=true->∃ r,(routesF ps js ss over).filter (pickR i ls)=[r]/\r.steps=(followF ps js ss i ls).1/\r.stop=(followF ps js ss i ls).2.1)/\((followF ps js ss i ls).2.2=false->(routesF ps js ss over).filter (pickR i ls)=[]):=by
 have R:=right_of h;have hok:=WalkOk.begin R hi;have hfit:=evs_fit R hL (depthR ps) i [] ⟨ss[i].len,ss[i].brake⟩ [] [] ss[i].speed hok rfl (Trace.nil _ _ _ _ _);have hF:followF ps js ss i ls=goF ps js ss ls (depthR ps) ⟨ss[i].len,ss[i].brake⟩ ss[i].speed []:=by
  unfold followF;rw [List.getElem?_eq_getElem hi];rfl
 have hbeg:pathOf i ([]++[⟨ss[i].len,ss[i].brake⟩]) [] []=beginP i ss[i]:=rfl;rw [hbeg,<-hF] at hfit;have hpick:=allEvs_pick (ps:=ps) (js:=js) hi ss.length (Nat.le_refl _);rw [if_pos hi] at hpick;have hE:(routesF ps js ss over).filter (pickR i ls)=((evs ps js ss (depthR ps) (beginP i ss[i]) ss[i].speed).filter (keepQ ls)).map (routeF ps js ss over):=by
  rw [routes_whole h hp h8 h0 h1,List.filter_map,<-hpick];unfold endedL;rw [List.filter_filter,List.filter_filter];congr 1;refine List.filter_congr (fun q _=>?_)
  show ((q.start==(i:Int)&&fitQ ls q.lies)&&q.ended)=((q.ended&&fitQ ls q.lies)&&(q.start==(i:Int)))
  cases q.ended <;> cases fitQ ls q.lies <;> cases (q.start==(i:Int)) <;> rfl
 rw [hE];refine ⟨fun ho=>?_,fun hf=>?_⟩
 ·obtain ⟨q,hq,hs,hst,_⟩:=hfit.1 ho;rw [hq];exact ⟨routeF ps js ss over q,rfl,hs,hst⟩
 ·rw [hfit.2 hf];rfl
theorem name_apart {ps:List MPiece}{js:List MJoint}{ss:List MPiece}(h:sigF ps js ss=(0,0)){i i':Nat}(hi:i<ss.length)(hi':i'<ss.length)(e:ss[i].name=ss[i'].name):i=i':=by
 have hb:∀ k,k<ss.length->badS4 ss k=false:=by
  rcases firstBad_cases (badS4 ss) ss.length with ⟨_,hb⟩ | ⟨i,_,e,_⟩
  ·exact hb
  ·exfalso;unfold sigF at h
   by_cases h1:netF ps js=(0,0)
   ·rw [if_pos h1] at h
    by_cases h2:60<ss.length
    ·rw [if_pos h2] at h;cases h
    ·rw [if_neg h2] at h
     by_cases h3:0<=firstBad (badS3 ps ss) ss.length
     ·rw [if_pos h3] at h;cases h
     ·rw [if_neg h3,if_pos (by omega)] at h
      cases h
   ·rw [if_neg h1] at h;cases h
 have key:∀ i i' (h:i<ss.length) (h':i'<ss.length),i<i'->ss[i].name≠ss[i'].name:=fun i i' hi hi' hlt e1=>by
  have:=hb i' hi';unfold badS4 at this;rw [List.getElem?_eq_getElem hi'] at this;dsimp only at this;unfold beforeB at this;rw [List.any_eq_false] at this;refine this ss[i] ?_ ?_
  ·rw [List.mem_take_iff_getElem];exact ⟨i,by omega,rfl⟩
  ·unfold same4;simp [e1]
 by_cases hlt:i<i'
 ·exact absurd e (key i i' hi hi' hlt)
 ·by_cases hgt:i'<i
  ·exact absurd e.symm (key i' i hi' hi hgt)
  ·omega
theorem fits_pick {ps:List MPiece}{js:List MJoint}{ss:List MPiece}{over:Int}{ls:List Int}(h:sigF ps js ss=(0,0)){i:Nat}(hi:i<ss.length){r:MRoute}(hr:r ∈ routesF ps js ss over):fitsR ss ss[i].name ls r=pickR i ls r:=by
 obtain ⟨st,hst,est⟩:=(routes_line ps js ss over r hr).start;have e:decide (nmA ss r.start=ss[i].name)=(r.start==(i:Int)):=by
  rw [est,nmA_at hst]
  by_cases e:st=i
  ·subst e;simp
  ·rw [decide_eq_false (fun e2=>e (name_apart h hst hi e2))]
   symm
   rw [beq_eq_false_iff_ne];omega
 unfold fitsR pickR;rw [e];rfl
def WhichOk (pk:MRoute->Bool)(rs:List MRoute)(x met:Nat)(which:Int):Prop:=
 ((rs.take x).filter pk).length=met/\((which = -1/\∀ q (hq:q<rs.length),q<x->pk rs[q]=false)\/∃ y,∃ h:y<rs.length,y<x/\which=y/\pk rs[y]=true/\∀ q (hq:q<rs.length),q<y->pk rs[q]=false)
theorem take_onW {α:Type}{l:List α}{x:Nat}(h:x<l.length):l.take (x+1)=l.take x++[l[x]]:=by simp
theorem WhichOk.zero (pk:MRoute->Bool)(rs:List MRoute):WhichOk pk rs 0 0 (-1):=⟨by simp,Or.inl ⟨rfl,fun q _ h=>absurd h (Nat.not_lt_zero q)⟩⟩
theorem WhichOk.skip {pk:MRoute->Bool}{rs:List MRoute}{x met:Nat}{which:Int}(h:WhichOk pk rs x met which)(hx:x<rs.length)(hp:pk rs[x]=false):WhichOk pk rs (x+1) met which:=by
 refine ⟨by rw [take_onW hx,List.filter_append,List.length_append,h.1];simp [hp],h.2.imp (fun ⟨e,h2⟩=>⟨e,fun q hq hqx=>?_⟩) (fun ⟨y,hy,h1,h2⟩=>⟨y,hy,by omega,h2⟩)⟩
 by_cases e:q<x
 ·exact h2 q hq e
 ·have:q=x:=by omega
  subst this;exact hp
theorem WhichOk.hit0 {pk:MRoute->Bool}{rs:List MRoute}{x met:Nat}{which:Int}(h:WhichOk pk rs x met which)(hx:x<rs.length)(hp:pk rs[x]=true)(hw:which<0):WhichOk pk rs (x+1) (met+1) x:=by
 refine ⟨by rw [take_onW hx,List.filter_append,List.length_append,h.1];simp [hp],Or.inr ⟨x,hx,by omega,rfl,hp,?_⟩⟩
 rcases h.2 with ⟨_,h2⟩ | ⟨y,_,_,e,_⟩
 ·exact h2
 ·omega
theorem WhichOk.hit1 {pk:MRoute->Bool}{rs:List MRoute}{x met:Nat}{which:Int}(h:WhichOk pk rs x met which)(hx:x<rs.length)(hp:pk rs[x]=true)(hw:¬ which<0):WhichOk pk rs (x+1) (met+1) which:=by
 refine ⟨by rw [take_onW hx,List.filter_append,List.length_append,h.1];simp [hp],Or.inr ?_⟩
 rcases h.2 with ⟨e,_⟩ | ⟨y,hy,h1,h2⟩
 ·omega
 ·exact ⟨y,hy,by omega,h2⟩
theorem WhichOk.one {pk:MRoute->Bool}{rs:List MRoute}{met:Nat}{which:Int}(h:WhichOk pk rs rs.length met which){r:MRoute}(hf:rs.filter pk=[r]):met=1/\∃ y,∃ hy:y<rs.length,which=y/\rs[y]=r:=by
 have h1:=h.1;rw [List.take_length,hf] at h1;refine ⟨h1.symm,?_⟩;rcases h.2 with ⟨_,h2⟩ | ⟨y,hy,_,e,hp,_⟩
 ·exfalso;have hm:r ∈ rs.filter pk:=by rw [hf];simp
  obtain ⟨hm,hp⟩:=List.mem_filter.1 hm;obtain ⟨q,hq,rfl⟩:=List.getElem_of_mem hm;rw [h2 q hq hq] at hp;cases hp
 ·refine ⟨y,hy,e,?_⟩;have hm:rs[y] ∈ rs.filter pk:=List.mem_filter.2 ⟨List.getElem_mem hy,hp⟩;rw [hf] at hm;simpa using hm
theorem WhichOk.no {pk:MRoute->Bool}{rs:List MRoute}{met:Nat}{which:Int}(h:WhichOk pk rs rs.length met which)(hf:rs.filter pk=[]):met=0:=by
 have h1:=h.1;rw [List.take_length,hf] at h1;exact h1.symm
theorem findR_skip {ss:List MPiece}{nm:ByteArray}{ls:List Int}{rs:List MRoute}:∀ k,k<=rs.length->(∀ q (hq:q<rs.length),q<k->fitsR ss nm ls rs[q]=false)->findR ss nm ls rs 0=findR ss nm ls (rs.drop k) k
 | 0,_,_=>rfl
 | k+1,hk,h=>by
  rw [findR_skip k (by omega) (fun q hq hqk=>h q hq (by omega)),findR_on (by omega),if_neg (by rw [h k (by omega) (by omega)];simp)]
theorem WhichOk.find {pk:MRoute->Bool}{rs:List MRoute}{met:Nat}{which:Int}(h:WhichOk pk rs rs.length met which){ss:List MPiece}{nm:ByteArray}{ls:List Int}(hf:∀ r ∈ rs,fitsR ss nm ls r=pk r):findR ss nm ls rs 0=which:=by
 rcases h.2 with ⟨e,h2⟩ | ⟨y,hy,_,e,hp,h2⟩
 ·rw [findR_skip rs.length (Nat.le_refl _) (fun q hq hqk=>by rw [hf _ (List.getElem_mem hq)];exact h2 q hq hqk),List.drop_length,e]
  rfl
 ·rw [findR_skip y (by omega) (fun q hq hqk=>by rw [hf _ (List.getElem_mem hq)];exact h2 q hq hqk),findR_on hy,if_pos (by rw [hf _ (List.getElem_mem hy)];exact hp),e]
def fitT (i:Nat)(ls:List Int)(r:MRoute)(m:Nat):Bool:=r.start==(i:Int)&&fitQ ls (r.lies.take m)
theorem fitT_0 (i:Nat)(ls:List Int)(r:MRoute):fitT i ls r 0=(r.start==(i:Int)):=by simp [fitT,fitQ]
theorem fitT_on {i:Nat}{ls:List Int}{r:MRoute}{m:Nat}(h:m<r.lies.length):fitT i ls r (m+1)=(fitT i ls r m&&(ls[r.lies[m].piece.toNat]?.getD 0==r.lies[m].side)):=by
 unfold fitT;rw [take_onW h,fitQ_app,Bool.and_assoc];simp [fitQ]
theorem fitT_all {i:Nat}{ls:List Int}{r:MRoute}{m:Nat}(h:m=r.lies.length):fitT i ls r m=pickR i ls r:=by
 subst h;unfold fitT pickR;rw [List.take_length]
theorem whole_one {ps:List MPiece}{js:List MJoint}{ss:List MPiece}{over:Int}{ls:List Int}(h:sigF ps js ss=(0,0))(hp:ps.length<=10)(h8:ss.length<=8)(h0:0<=over)(h1:over<=100000)(hL:SetL js ls)(hl:ls.length=js.length){i:Nat}(hi:i<ss.length){met:Nat}{which:Int}(hw:WhichOk (pickR i ls) (routesF ps js ss over) (routesF ps js ss over).length met which):
  ((followF ps js ss i ls).2.2=true->met=1/\∃ y,∃ hy:y<(routesF ps js ss over).length,which=y/\(routesF ps js ss over)[y].steps=(followF ps js ss i ls).1/\(routesF ps js ss over)[y].stop=(followF ps js ss i ls).2.1)/\((followF ps js ss i ls).2.2=false->met=0)/\routeAtF ps js ss (routesF ps js ss over) ss[i].name ls=which:=by
 obtain ⟨w1,w2⟩:=whole_fit h hp h8 h0 h1 hL hi;refine ⟨fun ho=>?_,fun ho=>hw.no (w2 ho),?_⟩
 ·obtain ⟨r,hf,hs,ht⟩:=w1 ho;obtain ⟨hm,y,hy,e,hr⟩:=hw.one hf;exact ⟨hm,y,hy,e,by rw [hr];exact hs,by rw [hr];exact ht⟩
 ·unfold routeAtF;rw [if_pos ⟨why_routes ps js ss over h,hl⟩];exact hw.find (fun r hr=>fits_pick h hi hr)
end Go.Proofs.YtmkdgnmmebldgaaGreatDoor
