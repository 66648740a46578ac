import Derived.Test.YtmkdgnmmebldgaaGreatDoorPw44
import Derived.Test.YtmkdgnmmebldgaaGreatDoorPt36
set_option maxRecDepth 100000
set_option maxHeartbeats 8000000
namespace Go.Proofs.YtmkdgnmmebldgaaGreatDoor
def nextF (js:List MJoint)(ls:List Int)(s:MStep):Option MEnd:=
 if kindE js (spotE js (aheadE s)).1=3 then
  (if (spotE js (aheadE s)).2=0 then some (endE js (spotE js (aheadE s)).1 (ls[(spotE js (aheadE s)).1]?.getD 0).toNat)
  else if ls[(spotE js (aheadE s)).1]?.getD 0=((spotE js (aheadE s)).2:Int) then some (endE js (spotE js (aheadE s)).1 0) else none)
 else match beyondF (kindE js (spotE js (aheadE s)).1) (spotE js (aheadE s)).2 with
  | []=>none
  | t::_=>some (endE js (spotE js (aheadE s)).1 t)
def goF (ps:List MPiece)(js:List MJoint)(ss:List MPiece)(ls:List Int):Nat->MStep->Int->List MStep->List MStep × Int × Bool
 | 0,_,_,out=>(out,-1,false)
 | n+1,s,pos,out =>
  if 0<=nextB ss s.piece s.side pos ss.length then (out++[s],nextB ss s.piece s.side pos ss.length,true)
  else if kindE js (spotE js (aheadE s)).1=1 then (out++[s],-1,true)
  else match nextF js ls s with
   | none=>(out++[s],-1,false)
   | some e=>goF ps js ss ls n (stepFromE e) (endAt ps e) (out++[s])
def followF (ps:List MPiece)(js:List MJoint)(ss:List MPiece)(i:Nat)(ls:List Int):List MStep × Int × Bool:=
 match ss[i]? with
 | none=>([],-1,false)
 | some s=>goF ps js ss ls (2*ps.length+2) ⟨s.len,s.brake⟩ s.speed []
def fromE (ps:List MPiece)(s:MStep):Int:=endAt ps (farE (aheadE s))
theorem far_step {e:MEnd}(h:e.side=0\/e.side=1):farE (aheadE (stepFromE e))=e:=by
 obtain ⟨p,s⟩:=e;rcases h with h | h <;> (dsimp only at h;subst h;rfl)
theorem fromE_step (ps:List MPiece){e:MEnd}(h:e.side=0\/e.side=1):fromE ps (stepFromE e)=endAt ps e:=by
 unfold fromE;rw [far_step h]
theorem goF_never {ps:List MPiece}{js:List MJoint}{ss:List MPiece}{ls:List Int}(V:MStep->Prop)
  (hV:∀ s,V s->¬ 0<=nextB ss s.piece s.side (fromE ps s) ss.length/\kindE js (spotE js (aheadE s)).1≠1/\∀ e,nextF js ls s=some e->V (stepFromE e)/\(e.side=0\/e.side=1)) :
  ∀ (n:Nat) (s:MStep) (out:List MStep),V s->(goF ps js ss ls n s (fromE ps s) out).2.2=false
 | 0,_,_,_=>rfl
 | n+1,s,out,hs=>by
  obtain ⟨h1,h2,h3⟩:=hV s hs;unfold goF;rw [if_neg h1,if_neg h2];cases hn:nextF js ls s with
  | none=>rfl
  | some e =>
   dsimp only;obtain ⟨h4,h5⟩:=h3 e hn;rw [<-fromE_step ps h5];exact goF_never V hV n (stepFromE e) (out++[s]) h4
def fitQ (ls:List Int)(l:List MLie):Bool:=l.all fun x=>ls[x.piece.toNat]?.getD 0==x.side
theorem fitQ_app (ls:List Int)(a b:List MLie):fitQ ls (a++b)=(fitQ ls a&&fitQ ls b):=List.all_append
theorem fitQ_of {ls:List Int}{l:List MLie}(h:fitQ ls l=true){x:MLie}(hx:x ∈ l):ls[x.piece.toNat]?.getD 0=x.side:=by
 have:=(List.all_eq_true.1 h) x hx;simpa using this
theorem fitQ_not {ls:List Int}{l:List MLie}{x:MLie}(hx:x ∈ l)(h:ls[x.piece.toNat]?.getD 0≠x.side):fitQ ls l=false:=by
 cases e:fitQ ls l with
 | false=>rfl
 | true=>exact absurd (fitQ_of e hx) h
theorem evs_keeps {ps:List MPiece}{js:List MJoint}{ss:List MPiece}(R:Right ps js ss):∀ (n i:Nat) (pre:List MStep) (s:MStep) (lies:List MLie) (crosses:List Int) (pos:Int),WalkOk ps js ss i pre s lies crosses pos->∀ q ∈ evs ps js ss n (pathOf i (pre++[s]) lies crosses) pos,∀ l ∈ lies,l ∈ q.lies
 | 0,_,_,_,_,_,_,_=>fun q hq=>by cases hq
 | n+1,i,pre,s,lies,crosses,pos,ok=>by
  intro q hq;have h0:LiesOk js lies:=⟨ok.lv,ok.ld⟩
  by_cases hb:0<=nextB ss s.piece s.side pos ss.length
  ·rw [evs_signal hb] at hq;have:q=endP i (nextB ss s.piece s.side pos ss.length) (pre++[s]) lies crosses:=by simpa using hq
   rw [this];exact fun l hl=>hl
  by_cases hr:s ∈ pre
  ·rw [evs_round hb hr] at hq;have:q=pathOf i (pre++[s]) lies crosses:=by simpa using hq
   rw [this];exact fun l hl=>hl
  by_cases hk:kindE js (spotE js (aheadE s)).1=1
  ·rw [evs_buffer hb hr hk] at hq;have:q=endP i (-1) (pre++[s]) lies crosses:=by simpa using hq
   rw [this];exact fun l hl=>hl
  rw [evs_on hb hr hk] at hq;rcases List.mem_cons.1 hq with hq | hq
  ·rw [hq];exact fun l hl=>hl
  ·unfold kidsF at hq;obtain ⟨t,ht,hq⟩:=List.mem_flatMap.1 hq;have hv:=aheadE_valid ok.sv;have hacr:=R.across hv ht;obtain ⟨j,k,hsp,hse⟩:=R.spot hv;obtain ⟨_,hj,hkl,_⟩:=spotF_some hsp;simp only [Nat.sub_zero] at hj hkl;rw [hse] at hq ht hacr hk;dsimp only at hq ht hacr hk;have hkd:=R.kind j hj;have hnext:=fun (lies':List MLie) (crosses':List Int) (hl:LiesOk js lies') (hc:crosses'.length<=pre.length+1)=>WalkOk.next R ok hr hacr (lies':=lies') (crosses':=crosses') hl.1 hl.2 hc
   unfold kidF at hq;rw [kindE_at hj] at hk;have hcl:=ok.cl;have h4:js[j].kind=2\/js[j].kind=3\/js[j].kind=4:=by omega
   rcases h4 with h4 | h4 | h4
   ·rw [over_plain (by rw [kindE_at hj];exact h4)] at hq
    exact evs_keeps R n i _ _ _ _ _ (hnext _ _ h0 (by omega)) q hq
   ·by_cases ha:lies.any (fun l=>l.piece==(j:Int))=true
    ·have hz:=lieF_any ok.lv ha
     by_cases hl:lieF lies j=(max k t:Nat)
     ·rw [over_same (by rw [kindE_at hj];exact h4) hl hz] at hq
      exact evs_keeps R n i _ _ _ _ _ (hnext _ _ h0 (by omega)) q hq
     ·rw [over_other (by rw [kindE_at hj];exact h4) hl hz] at hq
      cases hq
    ·rw [over_new (by rw [kindE_at hj];exact h4) (lieF_not ha)] at hq
     rw [kindE_at hj,h4] at ht;have hm:((max k t:Nat):Int)=1\/((max k t:Nat):Int)=2:=by
      unfold beyondF at ht;rw [if_neg (by omega),if_pos rfl] at ht
      have hk3:k<3:=by have:=hkd.2.2;omega
      by_cases hk0:k=0
      ·rw [if_pos hk0] at ht;have:t=1\/t=2:=by simpa using ht
       omega
      ·rw [if_neg hk0] at ht;have:t=0:=by simpa using ht
       omega
     exact fun l hl=>evs_keeps R n i _ _ _ _ _ (hnext _ _ ⟨lies_push ok.lv hj h4 hm,lies_pushd ok.ld ha⟩ (by omega)) q hq l (List.mem_append.2 (Or.inl hl))
   ·rw [over_cross (by rw [kindE_at hj];exact h4)] at hq
    exact evs_keeps R n i _ _ _ _ _ (hnext _ _ h0 (by simp;omega)) q hq
theorem lieF_fit {ls:List Int}{lies:List MLie}(h:fitQ ls lies=true){j:Nat}(ha:lies.any (fun l=>l.piece==(j:Int))=true):lieF lies j=ls[j]?.getD 0:=by
 unfold lieF;cases hf:lies.find? (fun l=>l.piece==(j:Int)) with
 | none =>
  rw [List.find?_eq_none] at hf;obtain ⟨x,hx,hx2⟩:=List.any_eq_true.1 ha;exact absurd hx2 (hf x hx)
 | some l =>
  have h1:=List.mem_of_find?_eq_some hf;have h2:l.piece=j:=by have:=List.find?_some hf;simpa using this
  have h3:=fitQ_of h h1;rw [h2] at h3;simpa using h3.symm
def SetL (js:List MJoint)(ls:List Int):Prop := ∀ j (_:j<js.length),js[j].kind=3->ls[j]?.getD 0=1\/ls[j]?.getD 0=2
def Trace (ps:List MPiece)(js:List MJoint)(ss:List MPiece)(ls:List Int)(pre:List MStep)(s:MStep):Prop:=
 ∀ b (h:b<pre.length),kindE js (spotE js (aheadE pre[b])).1≠1/\(1<=b->¬ 0<=nextB ss pre[b].piece pre[b].side (fromE ps pre[b]) ss.length)/\∃ e,nextF js ls pre[b]=some e/\(e.side=0\/e.side=1)/\(pre++[s])[b+1]? = some (stepFromE e)
theorem Trace.nil (ps:List MPiece)(js:List MJoint)(ss:List MPiece)(ls:List Int)(s:MStep):Trace ps js ss ls [] s:=fun b h=>absurd h (Nat.not_lt_zero b)
theorem Trace.snoc {ps:List MPiece}{js:List MJoint}{ss:List MPiece}{ls:List Int}{pre:List MStep}{s:MStep}(h:Trace ps js ss ls pre s)(hk:kindE js (spotE js (aheadE s)).1≠1)(hb:1<=pre.length->¬ 0<=nextB ss s.piece s.side (fromE ps s) ss.length){e:MEnd}(he:nextF js ls s=some e)(hs:e.side=0\/e.side=1):Trace ps js ss ls (pre++[s]) (stepFromE e):=by
 intro b hl
 by_cases hb':b<pre.length
 ·obtain ⟨h1,h2,e',h3,h4,h5⟩:=h b hb';have eg:(pre++[s])[b]=pre[b]:=List.getElem_append_left hb';rw [eg];refine ⟨h1,h2,e',h3,h4,?_⟩;rw [List.getElem?_append_left (by simp;omega)]
  exact h5
 ·have hbe:b=pre.length:=by simp at hl;omega
  subst hbe;have eg:(pre++[s])[pre.length]=s:=by simp
  rw [eg];refine ⟨hk,hb,e,he,hs,?_⟩;simp
theorem Trace.round {ps:List MPiece}{js:List MJoint}{ss:List MPiece}{ls:List Int}{pre:List MStep}{s:MStep}(h:Trace ps js ss ls pre s)(hr:s ∈ pre)(hb:¬ 0<=nextB ss s.piece s.side (fromE ps s) ss.length)(n:Nat)(out:List MStep):(goF ps js ss ls n s (fromE ps s) out).2.2=false:=by
 obtain ⟨a,ha,hs⟩:=List.getElem_of_mem hr;refine goF_never (fun x => ∃ (b:Nat) (hb:b<pre.length),a<=b/\pre[b]=x) ?_ n s out ⟨a,ha,Nat.le_refl _,hs⟩
 rintro x ⟨b,hbl,hab,rfl⟩;obtain ⟨h1,h2,e',h3,h4,h5⟩:=h b hbl;refine ⟨?_,h1,fun e he=>?_⟩
 ·by_cases hb0:1<=b
  ·exact h2 hb0
  ·have e1:b=a:=by omega
   subst e1;rw [hs];exact hb
 ·have ee:e'=e:=by rw [he] at h3;exact (Option.some.inj h3).symm
  subst ee;refine ⟨?_,h4⟩
  by_cases hl:b+1<pre.length
  ·rw [List.getElem?_append_left hl,List.getElem?_eq_getElem hl] at h5;exact ⟨b+1,hl,by omega,Option.some.inj h5⟩
  ·have e1:b+1=pre.length:=by omega
   rw [e1] at h5;have e2:s=stepFromE e':=by simpa using h5
   exact ⟨a,ha,Nat.le_refl _,by rw [hs];exact e2⟩
def keepQ (ls:List Int)(q:MPath):Bool:=q.ended&&fitQ ls q.lies
def FitOne (E:List MPath)(i:Nat)(r:List MStep × Int × Bool):Prop:=
 (r.2.2=true->∃ q,E=[q]/\q.steps=r.1/\q.stop=r.2.1/\q.start=(i:Int))/\(r.2.2=false->E=[])
section
variable {ps:List MPiece} {js:List MJoint} {ss:List MPiece} {ls:List Int} {n i j k t:Nat} {pre:List MStep} {s:MStep} {lies:List MLie} {crosses:List Int} {pos:Int}
theorem kid_yes (ok:WalkOk ps js ss i pre s lies crosses pos)(hf:fitQ ls lies=true)(hj:j<js.length)(h3:js[j].kind=3)(hm:((max k t:Nat):Int)=1\/((max k t:Nat):Int)=2)(he:ls[j]?.getD 0=(max k t:Nat)):
  ∃ lies',fitQ ls lies'=true/\LiesOk js lies'/\kidF ps js ss n (pathOf i (pre++[s]) lies crosses) j k t=evs ps js ss n (pathOf i ((pre++[s])++[stepFromE (endE js j t)]) lies' crosses) (endAt ps (endE js j t)):=by
 unfold kidF
 by_cases ha:lies.any (fun l=>l.piece==(j:Int))=true
 ·have hz:=lieF_any ok.lv ha;have hl:lieF lies j=(max k t:Nat):=(lieF_fit hf ha).trans he;refine ⟨lies,hf,⟨ok.lv,ok.ld⟩,?_⟩;rw [over_same (by rw [kindE_at hj];exact h3) hl hz]
 ·refine ⟨lies++[⟨j,(max k t:Nat)⟩],?_,⟨lies_push ok.lv hj h3 hm,lies_pushd ok.ld ha⟩,?_⟩
  ·rw [fitQ_app,hf];simp [fitQ,he]
  ·rw [over_new (by rw [kindE_at hj];exact h3) (lieF_not ha)]
theorem kid_no (R:Right ps js ss)(ok:WalkOk ps js ss i pre s lies crosses pos)(hf:fitQ ls lies=true)(hr:s ∉ pre)(hj:j<js.length)(h3:js[j].kind=3)(hm:((max k t:Nat):Int)=1\/((max k t:Nat):Int)=2)(hv:ValidE ps (endE js j t))(he:ls[j]?.getD 0≠(max k t:Nat)):
  (kidF ps js ss n (pathOf i (pre++[s]) lies crosses) j k t).filter (keepQ ls)=[]:=by
 unfold kidF
 by_cases ha:lies.any (fun l=>l.piece==(j:Int))=true
 ·have hz:=lieF_any ok.lv ha;rw [over_other (by rw [kindE_at hj];exact h3) (fun e=>he ((lieF_fit hf ha).symm.trans e)) hz]
  rfl
 ·rw [over_new (by rw [kindE_at hj];exact h3) (lieF_not ha)]
  rw [List.filter_eq_nil_iff];intro q hq;have hw:=WalkOk.next R ok hr hv (lies_push ok.lv hj h3 hm) (lies_pushd ok.ld ha) (crosses':=crosses) (by have:=ok.cl;omega)
  have hin:=evs_keeps R n i _ _ _ _ _ hw q hq ⟨j,(max k t:Nat)⟩ (List.mem_append.2 (Or.inr (List.mem_singleton.2 rfl)));have:=fitQ_not (ls:=ls) hin (by simpa using he)
  simp [keepQ,this]
end
theorem validE_side {ps:List MPiece}{e:MEnd}(h:ValidE ps e):e.side=0\/e.side=1:=by
 obtain ⟨_,_,_,h⟩:=h;exact h
theorem goF_on {ps:List MPiece}{js:List MJoint}{ss:List MPiece}{ls:List Int}{n:Nat}{s:MStep}{pos:Int}{out:List MStep}(hb:¬ 0<=nextB ss s.piece s.side pos ss.length)(hk:kindE js (spotE js (aheadE s)).1≠1){e:MEnd}(he:nextF js ls s=some e):goF ps js ss ls (n+1) s pos out=goF ps js ss ls n (stepFromE e) (endAt ps e) (out++[s]):=by
 conv=>lhs;unfold goF
 rw [if_neg hb,if_neg hk,he]
theorem goF_off {ps:List MPiece}{js:List MJoint}{ss:List MPiece}{ls:List Int}{n:Nat}{s:MStep}{pos:Int}{out:List MStep}(hb:¬ 0<=nextB ss s.piece s.side pos ss.length)(hk:kindE js (spotE js (aheadE s)).1≠1)(he:nextF js ls s=none):(goF ps js ss ls (n+1) s pos out).2.2=false:=by
 conv=>lhs;unfold goF
 rw [if_neg hb,if_neg hk,he]
theorem evs_fit {ps:List MPiece}{js:List MJoint}{ss:List MPiece}{ls:List Int}(R:Right ps js ss)(hL:SetL js ls):∀ (n i:Nat) (pre:List MStep) (s:MStep) (lies:List MLie) (crosses:List Int) (pos:Int),WalkOk ps js ss i pre s lies crosses pos->fitQ ls lies=true->Trace ps js ss ls pre s ->
  FitOne ((evs ps js ss n (pathOf i (pre++[s]) lies crosses) pos).filter (keepQ ls)) i (goF ps js ss ls n s pos pre)
 | 0,_,_,_,_,_,_=>fun _ _ _=>⟨fun h=>(by cases h),fun _=>rfl⟩
 | n+1,i,pre,s,lies,crosses,pos=>by
  intro ok hf hT
  by_cases hb:0<=nextB ss s.piece s.side pos ss.length
  ·rw [evs_signal hb];have hg:goF ps js ss ls (n+1) s pos pre=(pre++[s],nextB ss s.piece s.side pos ss.length,true):=by unfold goF;rw [if_pos hb]
   rw [hg];refine ⟨fun _=>⟨endP i (nextB ss s.piece s.side pos ss.length) (pre++[s]) lies crosses,?_,rfl,rfl,rfl⟩,fun h=>by cases h⟩
   have:keepQ ls (endP i (nextB ss s.piece s.side pos ss.length) (pre++[s]) lies crosses)=true:=by
    show (true&&fitQ ls lies)=true
    rw [hf];rfl
   simp [this]
  have hplace:1<=pre.length->pos=fromE ps s:=fun h=>by
   have:=ok.place;rw [if_neg (by omega)] at this
   exact this
  have hbf:1<=pre.length->¬ 0<=nextB ss s.piece s.side (fromE ps s) ss.length:=fun h=>by rw [<-hplace h];exact hb
  by_cases hr:s ∈ pre
  ·rw [evs_round hb hr];have hp1:1<=pre.length:=List.length_pos_of_mem hr;have hg:=hT.round hr (hbf hp1) (n+1) pre;rw [<-hplace hp1] at hg;refine ⟨fun h=>(by rw [hg] at h;cases h),fun _=>?_⟩
   have:keepQ ls (pathOf i (pre++[s]) lies crosses)=false:=rfl;simp [this]
  by_cases hk:kindE js (spotE js (aheadE s)).1=1
  ·rw [evs_buffer hb hr hk];have hg:goF ps js ss ls (n+1) s pos pre=(pre++[s],-1,true):=by unfold goF;rw [if_neg hb,if_pos hk]
   rw [hg];refine ⟨fun _=>⟨endP i (-1) (pre++[s]) lies crosses,?_,rfl,rfl,rfl⟩,fun h=>by cases h⟩
   have:keepQ ls (endP i (-1) (pre++[s]) lies crosses)=true:=by
    show (true&&fitQ ls lies)=true
    rw [hf];rfl
   simp [this]
  rw [evs_on hb hr hk];have hp0:keepQ ls (pathOf i (pre++[s]) lies crosses)=false:=rfl;rw [List.filter_cons_of_neg (by rw [hp0];simp)]
  have hv:=aheadE_valid ok.sv;obtain ⟨j,k,hsp,hse⟩:=R.spot hv;obtain ⟨_,hj,hkl,_⟩:=spotF_some hsp;simp only [Nat.sub_zero] at hj hkl;have hacr:=fun t (ht:t ∈ beyondF (kindE js (spotE js (aheadE s)).1) (spotE js (aheadE s)).2)=>R.across hv ht
  have hkd:=R.kind j hj;have hk':=hk;rw [hse] at hk' hacr ⊢;dsimp only at hk' hacr ⊢;rw [kindE_at hj] at hk' hacr ⊢;have hcl:=ok.cl;have h0:LiesOk js lies:=⟨ok.lv,ok.ld⟩;have h4:js[j].kind=2\/js[j].kind=3\/js[j].kind=4:=by omega
  rcases h4 with h4 | h4 | h4
  ·have hbe:beyondF js[j].kind k=[1-k]:=by unfold beyondF;rw [if_pos h4]
   have hval:=hacr (1-k) (by rw [hbe];exact List.mem_singleton.2 rfl)
   have hnx:nextF js ls s=some (endE js j (1-k)):=by
    unfold nextF;rw [hse];dsimp only;rw [kindE_at hj,if_neg (by omega),hbe]
   rw [hbe,goF_on hb hk hnx];unfold kidsF;rw [List.flatMap_singleton];unfold kidF;rw [over_plain (by rw [kindE_at hj];exact h4)]
   exact evs_fit R hL n i _ _ _ _ _ (WalkOk.next R ok hr hval h0.1 h0.2 (by omega)) hf (hT.snoc hk hbf hnx (validE_side hval))
  ·have hls:=hL j hj h4
   by_cases hk0:k=0
   ·subst hk0;have hbe:beyondF js[j].kind 0=[1,2]:=by unfold beyondF;rw [if_neg (by omega),if_pos h4,if_pos rfl]
    have hv1:=hacr 1 (by rw [hbe];simp)
    have hv2:=hacr 2 (by rw [hbe];simp)
    have hnx:nextF js ls s=some (endE js j (ls[j]?.getD 0).toNat):=by
     unfold nextF;rw [hse];dsimp only;rw [kindE_at hj,if_pos h4,if_pos rfl]
    rw [hbe];unfold kidsF;have hfm:([1,2]:List Nat).flatMap (kidF ps js ss n (pathOf i (pre++[s]) lies crosses) j 0)=kidF ps js ss n (pathOf i (pre++[s]) lies crosses) j 0 1++kidF ps js ss n (pathOf i (pre++[s]) lies crosses) j 0 2:=by simp
    rw [hfm,List.filter_append];rcases hls with hls | hls
    ·obtain ⟨lies',f1,f2,f3⟩:=kid_yes (n:=n) (k:=0) (t:=1) ok hf hj h4 (Or.inl rfl) (by rw [hls];rfl)
     have hno:=kid_no (n:=n) (k:=0) (t:=2) R ok hf hr hj h4 (Or.inr rfl) hv2 (by rw [hls];decide)
     rw [hls] at hnx;rw [hno,List.append_nil,f3,goF_on hb hk hnx];exact evs_fit R hL n i _ _ _ _ _ (WalkOk.next R ok hr hv1 f2.1 f2.2 (by omega)) f1 (hT.snoc hk hbf hnx (validE_side hv1))
    ·obtain ⟨lies',f1,f2,f3⟩:=kid_yes (n:=n) (k:=0) (t:=2) ok hf hj h4 (Or.inr rfl) (by rw [hls];rfl)
     have hno:=kid_no (n:=n) (k:=0) (t:=1) R ok hf hr hj h4 (Or.inl rfl) hv1 (by rw [hls];decide)
     rw [hls] at hnx;rw [hno,List.nil_append,f3,goF_on hb hk hnx];exact evs_fit R hL n i _ _ _ _ _ (WalkOk.next R ok hr hv2 f2.1 f2.2 (by omega)) f1 (hT.snoc hk hbf hnx (validE_side hv2))
   ·have hbe:beyondF js[j].kind k=[0]:=by unfold beyondF;rw [if_neg (by omega),if_pos h4,if_neg hk0]
    have hv0:=hacr 0 (by rw [hbe];simp)
    have hk3:k<3:=by have:=hkd.2.2;omega
    have hmx:(max k 0:Nat)=k:=by omega
    have hm:((max k 0:Nat):Int)=1\/((max k 0:Nat):Int)=2:=by omega
    rw [hbe];unfold kidsF;rw [List.flatMap_singleton]
    by_cases he:ls[j]?.getD 0=(k:Int)
    ·have hnx:nextF js ls s=some (endE js j 0):=by
      unfold nextF;rw [hse];dsimp only;rw [kindE_at hj,if_pos h4,if_neg hk0,if_pos he]
     obtain ⟨lies',f1,f2,f3⟩:=kid_yes (n:=n) (k:=k) (t:=0) ok hf hj h4 hm (by rw [hmx];exact he)
     rw [f3,goF_on hb hk hnx];exact evs_fit R hL n i _ _ _ _ _ (WalkOk.next R ok hr hv0 f2.1 f2.2 (by omega)) f1 (hT.snoc hk hbf hnx (validE_side hv0))
    ·have hnx:nextF js ls s=none:=by
      unfold nextF;rw [hse];dsimp only;rw [kindE_at hj,if_pos h4,if_neg hk0,if_neg he]
     have hno:=kid_no (n:=n) (k:=k) (t:=0) R ok hf hr hj h4 hm hv0 (by rw [hmx];exact he)
     rw [hno];exact ⟨fun h=>(by rw [goF_off hb hk hnx] at h;cases h),fun _=>rfl⟩
  ·obtain ⟨t,hbe⟩:∃ t,beyondF js[j].kind k=[t]:=by
    unfold beyondF;rw [if_neg (by omega),if_neg (by omega),if_pos h4]
    exact ⟨_,rfl⟩
   have hval:=hacr t (by rw [hbe];exact List.mem_singleton.2 rfl)
   have hnx:nextF js ls s=some (endE js j t):=by
    unfold nextF;rw [hse];dsimp only;rw [kindE_at hj,if_neg (by omega),hbe]
   rw [hbe,goF_on hb hk hnx];unfold kidsF;rw [List.flatMap_singleton];unfold kidF;rw [over_cross (by rw [kindE_at hj];exact h4)]
   exact evs_fit R hL n i _ _ _ _ _ (WalkOk.next R ok hr hval h0.1 h0.2 (by simp;omega)) hf (hT.snoc hk hbf hnx (validE_side hval))
def allL:List MJoint->List (List Int)
 | []=>[[]]
 | j::r=>if j.kind=3 then (allL r).map (fun l=>1::l)++(allL r).map (fun l=>2::l) else (allL r).map (fun l=>0::l)
def nsw:List MJoint->Nat
 | []=>0
 | j::r=>(if j.kind=3 then 1 else 0)+nsw r
def fitF:(Nat->Int)->List Int->Bool
 | _,[]=>true
 | f,x::r=>(f 0==0 || x==f 0)&&fitF (fun n=>f (n+1)) r
def nreq:(Nat->Int)->List MJoint->Nat
 | _,[]=>0
 | f,j::r=>(if j.kind=3/\f 0≠0 then 1 else 0)+nreq (fun n=>f (n+1)) r
def ReqOk (f:Nat->Int)(js:List MJoint):Prop := ∀ n (h:n<js.length),(js[n].kind=3->f n=0\/f n=1\/f n=2)/\(js[n].kind≠3->f n=0)
theorem ReqOk.tail {f:Nat->Int}{j:MJoint}{r:List MJoint}(h:ReqOk f (j::r)):ReqOk (fun n=>f (n+1)) r:=fun n hn=>h (n+1) (by simpa using hn)
theorem allL_length:∀ js:List MJoint,(allL js).length=2 ^ nsw js
 | []=>rfl
 | j::r=>by
  unfold allL nsw
  by_cases h:j.kind=3
  ·rw [if_pos h,if_pos h,List.length_append,List.length_map,List.length_map,allL_length r,Nat.add_comm 1,Nat.pow_succ];omega
  ·rw [if_neg h,if_neg h,List.length_map,allL_length r,Nat.zero_add]
theorem countP_head (f:Nat->Int)(x:Int)(L:List (List Int)):(L.map (fun l=>x::l)).countP (fitF f)=if f 0=0\/x=f 0 then L.countP (fitF (fun n=>f (n+1))) else 0:=by
 rw [List.countP_map]
 by_cases h:f 0=0\/x=f 0
 ·rw [if_pos h];refine List.countP_congr (fun l _=>?_)
  have e:(f 0==0 || x==f 0)=true:=by simpa using h
  simp [fitF,e]
 ·rw [if_neg h,List.countP_eq_zero];intro l _;have e:(f 0==0 || x==f 0)=false:=by simpa using h
  simp [fitF,e]
theorem count_fit:∀ (js:List MJoint)(f:Nat->Int),ReqOk f js->(allL js).countP (fitF f)*2 ^ nreq f js=2 ^ nsw js
 | [],f,_=>by simp [allL,nreq,nsw,fitF]
 | j::r,f,h=>by
  have ih:=count_fit r (fun n=>f (n+1)) h.tail
  have h0:=h 0 (by simp)
  simp only [List.getElem_cons_zero] at h0;unfold allL nsw nreq
  by_cases hk:j.kind=3
  ·rw [if_pos hk,if_pos hk,List.countP_append,countP_head,countP_head,Nat.add_comm 1 (nsw r),Nat.pow_succ,<-ih];have h1:=h0.1 hk
   by_cases hz:f 0=0
   ·rw [if_pos (Or.inl hz),if_pos (Or.inl hz),if_neg (fun e=>e.2 hz),Nat.zero_add,<-Nat.two_mul,Nat.mul_assoc,Nat.mul_comm]
   ·have hc:j.kind=3/\f 0≠0:=⟨hk,hz⟩;rw [if_pos hc,Nat.add_comm 1 (nreq _ r),Nat.pow_succ,<-Nat.mul_assoc];have h2:f 0=1\/f 0=2:=by omega
    rcases h2 with h2 | h2
    ·rw [if_pos (Or.inr h2.symm),if_neg (by omega),Nat.add_zero]
    ·rw [if_neg (by omega),if_pos (Or.inr h2.symm),Nat.zero_add]
  ·rw [if_neg hk,if_neg hk,if_neg (fun e=>hk e.1),countP_head,if_pos (Or.inl (h0.2 hk)),Nat.zero_add,Nat.zero_add]
   exact ih
theorem fitF_get:∀ (f:Nat->Int)(ls:List Int),fitF f ls=true->∀ n (h:n<ls.length),f n=0\/ls[n]=f n
 | _,[],_,n,h=>absurd h (Nat.not_lt_zero n)
 | f,x::r,hf,n,h=>by
  unfold fitF at hf;rw [Bool.and_eq_true] at hf;cases n with
  | zero =>
   have:=hf.1;simpa using this
  | succ n =>
   have:=fitF_get (fun n=>f (n+1)) r hf.2 n (by simpa using h)
   simpa using this
theorem allL_len:∀ (js:List MJoint)(ls:List Int),ls ∈ allL js->ls.length=js.length
 | [],ls,h=>by
  have:ls=[]:=by simpa [allL] using h
  rw [this];rfl
 | j::r,ls,h=>by
  unfold allL at h;have h2:∃ x l,l ∈ allL r/\ls=x::l:=by
   by_cases hk:j.kind=3
   ·rw [if_pos hk,List.mem_append,List.mem_map,List.mem_map] at h;rcases h with ⟨l,hl,e⟩ | ⟨l,hl,e⟩
    ·exact ⟨1,l,hl,e.symm⟩
    ·exact ⟨2,l,hl,e.symm⟩
   ·rw [if_neg hk,List.mem_map] at h;obtain ⟨l,hl,e⟩:=h;exact ⟨0,l,hl,e.symm⟩
  obtain ⟨x,l,hl,rfl⟩:=h2;simp [allL_len r l hl]
theorem allL_set:∀ (js:List MJoint)(ls:List Int),ls ∈ allL js->SetL js ls
 | [],_,_=>fun j h=>absurd h (Nat.not_lt_zero j)
 | j::r,ls,h=>by
  unfold allL at h;intro n hn hk
  by_cases hk3:j.kind=3
  ·rw [if_pos hk3,List.mem_append,List.mem_map,List.mem_map] at h;have h2:∃ x l,l ∈ allL r/\ls=x::l/\(x=1\/x=2):=by
    rcases h with ⟨l,hl,e⟩ | ⟨l,hl,e⟩
    ·exact ⟨1,l,hl,e.symm,Or.inl rfl⟩
    ·exact ⟨2,l,hl,e.symm,Or.inr rfl⟩
   obtain ⟨x,l,hl,rfl,hx⟩:=h2;cases n with
   | zero=>simpa using hx
   | succ n=>simpa using allL_set r l hl n (by simpa using hn) (by simpa using hk)
  ·rw [if_neg hk3,List.mem_map] at h;obtain ⟨l,hl,rfl⟩:=h;cases n with
   | zero=>exact absurd (by simpa using hk) hk3
   | succ n=>simpa using allL_set r l hl n (by simpa using hn) (by simpa using hk)
theorem nodup_inj {α β:Type}(f:α->β):∀ (l:List α),(l.map f).Nodup->∀ x ∈ l,∀ y ∈ l,f x=f y->x=y
 | [],_,x,hx,_,_,_=>by cases hx
 | a::r,h,x,hx,y,hy,e=>by
  rw [List.map_cons,List.nodup_cons] at h;rcases List.mem_cons.1 hx with rfl | hx
  ·rcases List.mem_cons.1 hy with rfl | hy
   ·rfl
   ·exact absurd (List.mem_map.2 ⟨y,hy,e.symm⟩) h.1
  ·rcases List.mem_cons.1 hy with e2 | hy
   ·rw [e2] at e;exact absurd (List.mem_map.2 ⟨x,hx,e⟩) h.1
   ·exact nodup_inj f r h.2 x hx y hy e
theorem lieF_mem {js:List MJoint}{lies:List MLie}(h:LiesOk js lies){x:MLie}(hx:x ∈ lies):lieF lies x.piece=x.side:=by
 unfold lieF;cases hf:lies.find? (fun l=>l.piece==x.piece) with
 | none =>
  rw [List.find?_eq_none] at hf;exact absurd (by simp) (hf x hx)
 | some l =>
  have h1:=List.mem_of_find?_eq_some hf;have h2:l.piece=x.piece:=by have:=List.find?_some hf;simpa using this
  have:=nodup_inj MEnd.piece lies h.2 l h1 x hx h2;subst this;rfl
theorem lieF_cases {js:List MJoint}{lies:List MLie}(h:LiesOk js lies)(n:Nat):lieF lies n=0\/∃ x ∈ lies,x.piece=n/\lieF lies n=x.side:=by
 by_cases ha:lies.any (fun l=>l.piece==(n:Int))=true
 ·obtain ⟨x,hx,e⟩:=List.any_eq_true.1 ha;have e:x.piece=n:=by simpa using e
  exact Or.inr ⟨x,hx,e,by rw [<-e];exact lieF_mem h hx⟩
 ·exact Or.inl (lieF_not ha)
theorem req_ok {js:List MJoint}{lies:List MLie}(h:LiesOk js lies):ReqOk (fun n=>lieF lies (n:Int)) js:=by
 intro n hn;rcases lieF_cases h n with e | ⟨x,hx,e1,e2⟩
 ·exact ⟨fun _=>Or.inl e,fun _=>e⟩
 ·obtain ⟨j,hj,q1,q2,q3⟩:=h.1 x hx;have hjn:j=n:=by rw [q1] at e1;omega
  subst hjn;refine ⟨fun _=>?_,fun hk=>absurd q2 hk⟩
  dsimp only;rw [e2];exact Or.inr q3
theorem fit_of_req {js:List MJoint}{lies:List MLie}(h:LiesOk js lies){ls:List Int}(hl:ls.length=js.length)(hf:fitF (fun n=>lieF lies (n:Int)) ls=true):fitQ ls lies=true:=by
 unfold fitQ;rw [List.all_eq_true];intro x hx;obtain ⟨j,hj,q1,q2,q3⟩:=h.1 x hx;have hg:=fitF_get _ ls hf j (by omega)
 have hm:=lieF_mem h hx;rw [q1] at hm;rw [hm] at hg;have hlt:j<ls.length:=by omega
 have hv:ls[j]=x.side:=by
  rcases hg with hg | hg
  ·omega
  ·exact hg
 rw [q1];simp [hlt,hv]
theorem nreq_le (lies:List MLie):∀ (js:List MJoint) (o:Nat),nreq (fun n=>lieF lies ((n+o:Nat):Int)) js<=((List.range js.length).countP fun n=>lies.any fun l=>l.piece==((n+o:Nat):Int))
 | [],_=>Nat.le_refl _
 | j::r,o=>by
  have ih:=nreq_le lies r (o+1);unfold nreq;rw [List.length_cons,List.range_succ_eq_map,List.countP_cons,List.countP_map];have e1:nreq (fun n=>lieF lies ((n+1+o:Nat):Int)) r=nreq (fun n=>lieF lies ((n+(o+1):Nat):Int)) r:=by
   congr 1
   funext n
   rw [show n+1+o=n+(o+1) by omega]
  have e2:List.countP ((fun n=>lies.any fun l=>l.piece==((n+o:Nat):Int)) ∘ Nat.succ) (List.range r.length)=List.countP (fun n=>lies.any fun l=>l.piece==((n+(o+1):Nat):Int)) (List.range r.length):=by
   congr 1
   funext n
   simp only [Function.comp,Nat.succ_eq_add_one];rw [show n+1+o=n+(o+1) by omega]
  rw [e1,e2]
  by_cases hz:lies.any (fun l=>l.piece==((0+o:Nat):Int))=true
  ·rw [if_pos hz]
   split <;> omega
  ·rw [if_neg hz];have:lieF lies ((0+o:Nat):Int)=0:=lieF_not hz;rw [if_neg (fun e=>e.2 this)]
   omega
theorem count_any:∀ (lies:List MLie)(N:Nat),((List.range N).countP fun n:Nat=>lies.any fun l=>l.piece==(n:Int))<=lies.length
 | [],N=>by
  rw [List.countP_eq_zero.2 (fun n _=>by simp)]
  exact Nat.zero_le _
 | x::l,N=>by
  have ih:=count_any l N;have h1:((List.range N).countP fun n:Nat=>(x::l).any fun l=>l.piece==(n:Int))<=((List.range N).countP fun n:Nat=>x.piece==(n:Int))+((List.range N).countP fun n:Nat=>l.any fun l=>l.piece==(n:Int)):=by
   generalize List.range N=R
   induction R with
   | nil=>simp
   | cons a R ih =>
    rw [List.countP_cons,List.countP_cons,List.countP_cons];simp only [List.any_cons,Bool.or_eq_true] at ih ⊢
    by_cases a1:(x.piece==(a:Int))=true
    ·rw [if_pos (Or.inl a1),if_pos a1];omega
    ·by_cases a2:(l.any fun l=>l.piece==(a:Int))=true
     ·rw [if_pos (Or.inr a2),if_neg a1,if_pos a2];omega
     ·rw [if_neg (fun e=>e.elim a1 a2),if_neg a1,if_neg a2]
      omega
  have h2:((List.range N).countP fun n:Nat=>x.piece==(n:Int))<=1:=by
   rw [List.countP_eq_length_filter];have hn:((List.range N).filter fun n:Nat=>x.piece==(n:Int)).Nodup:=List.nodup_range.filter _
   have ha:∀ a ∈ ((List.range N).filter fun n:Nat=>x.piece==(n:Int)),(a:Int)=x.piece:=fun a ha=>by
    have:=(List.mem_filter.1 ha).2;have h3:x.piece=a:=by simpa using this
    exact h3.symm
   generalize ((List.range N).filter fun n:Nat=>x.piece==(n:Int))=L at hn ha
   match L,hn,ha with
   | [],_,_=>exact Nat.zero_le _
   | [_],_,_=>exact Nat.le_refl _
   | a::b::r,hn,ha =>
    exfalso;have h3:=ha a (by simp)
    have h4:=ha b (by simp)
    have h5:a=b:=by omega
    rw [List.nodup_cons] at hn;exact hn.1 (by rw [h5];simp)
  rw [List.length_cons];omega
theorem fits_many {js:List MJoint}{lies:List MLie}(h:LiesOk js lies):2 ^ nsw js<=((allL js).countP fun ls=>fitQ ls lies)*2 ^ lies.length:=by
 have hc:=count_fit js _ (req_ok h);have h1:(allL js).countP (fitF fun n=>lieF lies (n:Int))<=(allL js).countP fun ls=>fitQ ls lies:=by
  refine List.countP_mono_left (fun ls hls hf=>fit_of_req h (allL_len js ls hls) hf)
 have h2:nreq (fun n=>lieF lies (n:Int)) js<=lies.length:=by
  have:=nreq_le lies js 0;simp only [Nat.add_zero] at this;exact Nat.le_trans this (count_any lies js.length)
 rw [<-hc];exact Nat.mul_le_mul h1 (Nat.pow_le_pow_right (by omega) h2)
def sw3 (js:List MJoint)(x:MStep):Bool:=decide (kindE js (spotE js (aheadE x)).1=3)
theorem evs_passed {ps:List MPiece}{js:List MJoint}{ss:List MPiece}(R:Right ps js ss):∀ (n i:Nat) (pre:List MStep) (s:MStep) (lies:List MLie) (crosses:List Int) (pos:Int),WalkOk ps js ss i pre s lies crosses pos->lies.length<=pre.countP (sw3 js)->∀ q ∈ evs ps js ss n (pathOf i (pre++[s]) lies crosses) pos,q.lies.length<=q.steps.dropLast.countP (sw3 js)/\q.steps.dropLast.Nodup
 | 0,_,_,_,_,_,_,_,_=>fun q hq=>by cases hq
 | n+1,i,pre,s,lies,crosses,pos,ok,hle=>by
  intro q hq;have h0:LiesOk js lies:=⟨ok.lv,ok.ld⟩;have hend:∀ q:MPath,q.lies=lies->q.steps=pre++[s]->q.lies.length<=q.steps.dropLast.countP (sw3 js)/\q.steps.dropLast.Nodup:=fun q e1 e2=>by
   rw [e1,e2,List.dropLast_concat];exact ⟨hle,ok.nd⟩
  have hcs:(pre++[s]).countP (sw3 js)=pre.countP (sw3 js)+(if sw3 js s=true then 1 else 0):=by rw [List.countP_append,List.countP_singleton]
  by_cases hb:0<=nextB ss s.piece s.side pos ss.length
  ·rw [evs_signal hb] at hq;have:q=endP i (nextB ss s.piece s.side pos ss.length) (pre++[s]) lies crosses:=by simpa using hq
   rw [this];exact hend _ rfl rfl
  by_cases hr:s ∈ pre
  ·rw [evs_round hb hr] at hq;have:q=pathOf i (pre++[s]) lies crosses:=by simpa using hq
   rw [this];exact hend _ rfl rfl
  by_cases hk:kindE js (spotE js (aheadE s)).1=1
  ·rw [evs_buffer hb hr hk] at hq;have:q=endP i (-1) (pre++[s]) lies crosses:=by simpa using hq
   rw [this];exact hend _ rfl rfl
  rw [evs_on hb hr hk] at hq;rcases List.mem_cons.1 hq with hq | hq
  ·rw [hq];exact hend _ rfl rfl
  ·unfold kidsF at hq;obtain ⟨t,ht,hq⟩:=List.mem_flatMap.1 hq;have hv:=aheadE_valid ok.sv;have hacr:=R.across hv ht;obtain ⟨j,k,hsp,hse⟩:=R.spot hv;obtain ⟨_,hj,hkl,_⟩:=spotF_some hsp;simp only [Nat.sub_zero] at hj hkl;have hsw0:sw3 js s=decide (kindE js j=3):=by unfold sw3;rw [hse]
   rw [hse] at hq ht hacr hk;dsimp only at hq ht hacr hk;have hkd:=R.kind j hj;have hnext:=fun (lies':List MLie) (crosses':List Int) (hl:LiesOk js lies') (hc:crosses'.length<=pre.length+1)=>WalkOk.next R ok hr hacr (lies':=lies') (crosses':=crosses') hl.1 hl.2 hc
   unfold kidF at hq;rw [kindE_at hj] at hk;have hcl:=ok.cl;have h4:js[j].kind=2\/js[j].kind=3\/js[j].kind=4:=by omega
   rcases h4 with h4 | h4 | h4
   ·rw [over_plain (by rw [kindE_at hj];exact h4)] at hq
    exact evs_passed R n i _ _ _ _ _ (hnext _ _ h0 (by omega)) (by rw [hcs];omega) q hq
   ·by_cases ha:lies.any (fun l=>l.piece==(j:Int))=true
    ·have hz:=lieF_any ok.lv ha
     by_cases hl:lieF lies j=(max k t:Nat)
     ·rw [over_same (by rw [kindE_at hj];exact h4) hl hz] at hq
      exact evs_passed R n i _ _ _ _ _ (hnext _ _ h0 (by omega)) (by rw [hcs];omega) q hq
     ·rw [over_other (by rw [kindE_at hj];exact h4) hl hz] at hq
      cases hq
    ·rw [over_new (by rw [kindE_at hj];exact h4) (lieF_not ha)] at hq
     have hsw:sw3 js s=true:=by rw [hsw0,kindE_at hj,h4];rfl
     rw [kindE_at hj,h4] at ht;have hm:((max k t:Nat):Int)=1\/((max k t:Nat):Int)=2:=by
      unfold beyondF at ht;rw [if_neg (by omega),if_pos rfl] at ht
      have hk3:k<3:=by have:=hkd.2.2;omega
      by_cases hk0:k=0
      ·rw [if_pos hk0] at ht;have:t=1\/t=2:=by simpa using ht
       omega
      ·rw [if_neg hk0] at ht;have:t=0:=by simpa using ht
       omega
     exact evs_passed R n i _ _ _ _ _ (hnext _ _ ⟨lies_push ok.lv hj h4 hm,lies_pushd ok.ld ha⟩ (by omega)) (by rw [hcs,if_pos hsw,List.length_append];simp;omega) q hq
   ·rw [over_cross (by rw [kindE_at hj];exact h4)] at hq
    exact evs_passed R n i _ _ _ _ _ (hnext _ _ h0 (by simp;omega)) (by rw [hcs];omega) q hq
end Go.Proofs.YtmkdgnmmebldgaaGreatDoor
