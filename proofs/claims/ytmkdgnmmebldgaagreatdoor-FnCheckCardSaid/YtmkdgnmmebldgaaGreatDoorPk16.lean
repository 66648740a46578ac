import Derived.Test.YtmkdgnmmebldgaaGreatDoorPk1
import Derived.StillTail
import Derived.BigQuiet
set_option maxRecDepth 100000
set_option maxHeartbeats 8000000
open Go.Proofs.Tryz
namespace Go.Proofs.YtmkdgnmmebldgaaGreatDoor
open Go
section
variable {P:Program} {ops:Array Oper} {md:Region.Mode} {C:World->Prop} {lo:Oper->Bool}
def qn:Exit->Act->World->Prop:=fun _ _ _=>False
def lr (P:Program)(o:Oper)(a:Act)(w:World)(v:Value):Prop:=
 (execOp a.eval o).run P w = .ok (.value v) w\/((execOp a.eval o).run P w = .ok .skip w/\v=undef)
def mixO (P:Program)(ops:Array Oper)(C:World->Prop)(lo:Oper->Bool)(o:Oper)(K:Act->World->Prop)(a:Act)(w:World):Prop:=
 if Region.wanted o (yielded ops a.tmps)=true then
  (if lo o=true then o.wp P a w (fun a' w'=>C w'/\K a' w') qn else ∃ v,(∀ w',C w'->lr P o a w' v)/\K (a.put o.dst v) w)
 else K (a.put o.dst undef) w
def jC (P:Program)(ops:Array Oper)(C:World->Prop)(lo:Oper->Bool)(i:Nat)(K:Act->World->Prop)(a:Act)(w:World):Prop:=
 match ops[i]? with
 | none=>False
 | some o=>mixO P ops C lo o K a w
def kr (P:Program)(ops:Array Oper)(C:World->Prop)(lo:Oper->Bool)(T:Act->World->Prop):List Oper->Act->World->Prop
 | [],a,w=>T a w
 | o::rest,a,w=>mixO P ops C lo o (kr P ops C lo T rest) a w
theorem kH {o:Oper}{K K':Act->World->Prop}{a:Act}{w:World}(hC:C w)(h:∀ a w,C w->K a w->K' a w)(hh:mixO P ops C lo o K a w):mixO P ops C lo o K' a w:=by
 unfold mixO at *
 split
 ·rename_i hw;rw [if_pos hw] at hh
  split
  ·rename_i hl;rw [if_pos hl] at hh;exact Oper.wp_mono (fun a w hk=>⟨hk.1,h a w hk.1 hk.2⟩) hh
  ·rename_i hl;rw [if_neg hl] at hh;obtain ⟨v,h1,h2⟩:=hh;exact ⟨v,h1,h _ _ hC h2⟩
 ·rename_i hw;rw [if_neg hw] at hh;exact h _ _ hC hh
theorem u9 {o:Oper}{a:Act}{K:Act->World->Prop}{Q:Exit->Act->World->Prop}{r:Result Next}(h:o.upon P a K qn r):o.upon P a K Q r:=by
 cases r with
 | ok n w' =>
  cases n <;> simp only [Oper.upon] at h ⊢ <;> first | exact h | exact h.mono (fun e b he=>by
   cases e with
   | returned v=>exact he
   | panicked c=>exact absurd he (fun h=>h)
   | outgrown=>obtain ⟨_,_,he⟩:=he;exact absurd he (fun h=>h))
 | halt x w'=>cases x <;> simp only [Oper.upon] at h ⊢ <;> exact absurd h (fun h=>h)
theorem sj {i:Nat}{K:Act->World->Prop}{K':Act->World->Prop}{Q:Exit->Act->World->Prop}{a:Act}{w:World}(hC:C w)(h:∀ a w,C w->K a w->K' a w)(hh:jC P ops C lo i K a w):wpOp P ops Q i K' a w:=by
 unfold jC at hh;unfold wpOp
 split
 ·rename_i ho;simp only [ho] at hh
 ·rename_i o ho;simp only [ho] at hh;unfold mixO at hh
  split
  ·rename_i hw;rw [if_pos hw] at hh
   split at hh
   ·exact .inl (Oper.wp_mono (fun a w hk=>h a w hk.1 hk.2) (u9 hh))
   ·obtain ⟨v,h1,h2⟩:=hh;refine .inl ?_;unfold Oper.wp;rcases h1 w hC with h3 | ⟨h3,h4⟩
    ·rw [h3];exact h _ _ hC h2
    ·rw [h3];subst h4;exact h _ _ hC h2
  ·rename_i hw;rw [if_neg hw] at hh;exact h _ _ hC hh
def mV (P:Program)(md:Region.Mode)(ops:Array Oper)(C:World->Prop)(lo:Oper->Bool)(n:Nat)(L:Array Bool->Act->World->Prop):Nat->Array Bool->Act->World->Prop
 | 0,listed,a,w=>L listed a w
 | f+1,listed,a,w =>
  Region.ready md ops listed≠[]/\∀ i ∈ Region.ready md ops listed,i<n/\jC P ops C lo i (mV P md ops C lo n L f (listed.setIfInBounds i true)) a w
theorem jX {n g:Nat}{L:Array Bool->Act->World->Prop}{Q:Exit->Act->World->Prop}(hL:∀ listed a w,L listed a w->wpAny P md ops Q g listed a w):
  ∀ (f:Nat) (listed:Array Bool) (a:Act) (w:World),C w->mV P md ops C lo n L f listed a w->wpAny P md ops Q (f+g) listed a w
 | 0,listed,a,w,_,h=>by rw [Nat.zero_add];exact hL _ _ _ h
 | f+1,listed,a,w,hC,h=>by
  rw [show f+1+g=(f+g)+1 by omega]
  exact ⟨fun h0=>absurd h0 h.1,fun i hi=>sj hC (fun a' w' b h'=>jX hL f _ a' w' b h') (h.2 i hi).2⟩
def fO (P:Program)(ops:Array Oper)(C:World->Prop)(o:Oper)(v:Value)(a:Act):Prop:=
 (Region.wanted o (yielded ops a.tmps)=true/\∀ w,C w->lr P o a w v)\/(Region.wanted o (yielded ops a.tmps)=false/\v=undef)
theorem fO.of_same {o:Oper}{v:Value}{a a':Act}(hy:fO P ops C o v a)(he:execOp a'.eval o=execOp a.eval o)
  (hw:Region.wanted o (yielded ops a'.tmps)=Region.wanted o (yielded ops a.tmps)):fO P ops C o v a':=by
 unfold fO lr at *;rw [he,hw];exact hy
theorem fO.mixO {o:Oper}{v:Value}{a:Act}{w:World}{K:Act->World->Prop}(hl:lo o=false\/Region.wanted o (yielded ops a.tmps)=false)(hy:fO P ops C o v a)(h:K (a.put o.dst v) w):mixO P ops C lo o K a w:=by
 unfold Go.Proofs.YtmkdgnmmebldgaaGreatDoor.mixO;rcases hy with ⟨hw,hv⟩ | ⟨hw,rfl⟩
 ·have b:lo o=false:=hl.resolve_right (by rw [hw];simp)
  rw [if_pos hw,if_neg (by rw [b];simp)]
  exact ⟨v,hv,h⟩
 ·rw [if_neg (by rw [hw];simp)]
  exact h
theorem xV {o:Oper}{a:Act}{w:World}{K:Act->World->Prop}(hl:lo o=false\/Region.wanted o (yielded ops a.tmps)=false)(h:mixO P ops C lo o K a w):∃ v,fO P ops C o v a/\K (a.put o.dst v) w:=by
 unfold mixO at h
 by_cases hw:Region.wanted o (yielded ops a.tmps)=true
 ·have b:lo o=false:=hl.resolve_right (by rw [hw];simp)
  rw [if_pos hw,if_neg (by rw [b];simp)] at h
  obtain ⟨v,h1,h2⟩:=h;exact ⟨v,.inl ⟨hw,h1⟩,h2⟩
 ·rw [if_neg hw] at h;exact ⟨undef,.inr ⟨by simpa using hw,rfl⟩,h⟩
def lZ (P:Program)(G:Value->Option Deferred->World->Prop):Result Next->Prop
 | .ok (.value v) w'=>G v none w'
 | .ok .skip w'=>G undef none w'
 | .ok (.defer d) w'=>G undef (some d) w'
 | .ok (.enter f args) w'=>Calls P f args w' fun e a => ∃ v,e = .returned v/\G v none a
 | .ok (.row row args) w'=>Rows P row args w' fun v a=>G v none a
 | _=>False
def iT (a:Act)(dst:Option Tmp)(v:Value):Option Deferred->Act
 | none=>a.put dst v
 | some d=>{ a with defers:=d::a.defers }.put dst v
theorem uC {o:Oper}{a:Act}{K:Act->World->Prop}{r:Result Next}(h:o.upon P a K qn r):lZ P (fun v d w'=>K (iT a o.dst v d) w') r:=by
 cases r with
 | ok n w' =>
  cases n <;> simp only [Oper.upon] at h <;> simp only [lZ,iT] <;> first | exact h | exact h.mono (fun e b he=>by
   rcases e with v | c | _
   ·exact ⟨v,rfl,he⟩
   ·exact absurd he (fun h=>h)
   ·obtain ⟨_,_,he⟩:=he;exact absurd he (fun h=>h))
 | halt x w'=>cases x <;> simp only [Oper.upon] at h <;> exact absurd h (fun h=>h)
theorem vj {o:Oper}{a:Act}{K:Act->World->Prop}{r:Result Next}(h:lZ P (fun v d w'=>K (iT a o.dst v d) w') r):o.upon P a K qn r:=by
 cases r with
 | ok n w' =>
  cases n <;> simp only [lZ,iT] at h <;> simp only [Oper.upon] <;> first | exact h | exact h.mono (fun e b he=>by obtain ⟨v,rfl,hk⟩:=he;exact hk) | exact h.mono (fun _ _ h=>h)
 | halt x w'=>cases x <;> simp only [lZ] at h
theorem yt {G G':Value->Option Deferred->World->Prop}{r:Result Next}(hg:∀ v d w,G v d w->G' v d w)(h:lZ P G r):lZ P G' r:=by
 cases r with
 | ok n w' =>
  cases n <;> simp only [lZ] at h ⊢ <;> first | exact hg _ _ _ h | exact h.mono (fun e w'' ⟨v,he,hk⟩=>⟨v,he,hg _ _ _ hk⟩) | exact h.mono (fun _ _ h=>hg _ _ _ h)
 | halt x w'=>cases x <;> simp only [lZ] at h
theorem xH (a:Act){x y:Option Tmp}(v u:Value)(d:Option Deferred)(h:∀ t,x=some t->y≠some t):iT (a.put x v) y u d=(iT a y u d).put x v:=by
 cases d with
 | none=>exact Act.put_comm a v u h
 | some d =>
  have:=Act.put_comm ({ a with defers:=d::a.defers }:Act) v u h;cases x <;> cases y <;> simp_all [iT,Act.put]
theorem vk (o:Oper)(hs:∀ cs b,o.op≠.select cs b)(a:Act)(dst:Option Tmp)(v:Value)(d:Option Deferred)(h:∀ t,dst=some t->t ∉ o.looksAt ops):
  execOp (iT a dst v d).eval o=execOp a.eval o/\Region.wanted o (yielded ops (iT a dst v d).tmps)=Region.wanted o (yielded ops a.tmps):=by
 cases d with
 | none=>exact ⟨execOp_put o hs a dst v h,wanted_put o a dst v h⟩
 | some d =>
  have e1:=execOp_put o hs ({ a with defers:=d::a.defers }:Act) dst v h;have e2:=wanted_put o ({ a with defers:=d::a.defers }:Act) dst v h;refine ⟨e1.trans ?_,e2⟩;have:({ a with defers:=d::a.defers }:Act).eval=a.eval:=by
   funext x
   cases x <;> rfl
  rw [this]
theorem AF {oi oj:Oper}{v:Value}(hap:oi.apart ops oj=true)
  (hsi:∀ cs b,oi.op≠.select cs b) (hsj:∀ cs b,oj.op≠.select cs b) {K:Act->World->Prop} {a:Act} {w:World}
  (hy:fO P ops C oi v a) (h:mixO P ops C lo oj K (a.put oi.dst v) w) :
  mixO P ops C lo oj (fun a' w'=>(fO P ops C oi v a'/\Region.wanted oi (yielded ops a'.tmps)=Region.wanted oi (yielded ops a.tmps))/\K (a'.put oi.dst v) w') a w:=by
 obtain ⟨h1,h2,h3⟩:=Oper.apart_spec hap;have keep:∀ u,fO P ops C oi v (a.put oj.dst u)/\Region.wanted oi (yielded ops (a.put oj.dst u).tmps)=Region.wanted oi (yielded ops a.tmps):=fun u =>
  ⟨hy.of_same (execOp_put oi hsi a oj.dst u h3) (wanted_put oi a oj.dst u h3),wanted_put oi a oj.dst u h3⟩
 unfold mixO at *;rw [wanted_put oj a oi.dst v h1] at h
 split
 ·rename_i hw;rw [if_pos hw] at h
  split
  ·rename_i hl;rw [if_pos hl] at h;unfold Oper.wp at *;rw [execOp_put oj hsj a oi.dst v h1] at h;refine vj (yt ?_ (uC h));rintro u d w' ⟨hc,hk⟩;refine ⟨hc,?_,?_⟩
   ·obtain ⟨e1,e2⟩:=vk (ops:=ops) oi hsi a oj.dst u d h3;exact ⟨hy.of_same e1 e2,e2⟩
   ·rw [<-xH a v u d h2];exact hk
  ·rename_i hl;rw [if_neg hl] at h;obtain ⟨u,hu,hk⟩:=h;refine ⟨u,fun w' hC=>?_,keep u,by rw [<-Act.put_comm a v u h2];exact hk⟩
   have:=hu w' hC;unfold lr at *
   rwa [execOp_put oj hsj a oi.dst v h1] at this
 ·rename_i hw;rw [if_neg hw] at h;exact ⟨keep _,by rw [<-Act.put_comm a v undef h2];exact h⟩
theorem sW {n i:Nat}{oi:Oper}{v:Value}{L:Array Bool->Act->World->Prop}(hi:ops[i]? = some oi)(hsel:∀ (j:Nat) (o:Oper) cs b,ops[j]? = some o->o.op≠.select cs b)
  (hs:Region.sinkB md ops n=true) (hc:Region.chainB md ops n=true) (hn:n<ops.size) (hin:i<n)
  (hdone:∀ listed a w,L listed a w->∀ j ∈ Region.ready md ops listed,n<=j) :
  ∀ (f:Nat) (listed:Array Bool) (a:Act) (w:World),C w->HeadInv md ops n listed ->
   (∀ j oj,ops[j]? = some oj->j≠i->listed.getD j true=false->(∀ e ∈ oj.after,Region.binds md e=true->e.on≠i)->oi.apart ops oj=true) ->
   i ∈ Region.ready md ops listed->(lo oi=false\/Region.wanted oi (yielded ops a.tmps)=false)->fO P ops C oi v a ->
   mV P md ops C lo n L f (listed.setIfInBounds i true) (a.put oi.dst v) w->mV P md ops C lo n L (f+1) listed a w:=by
 intro f
 induction f with
 | zero =>
  intro listed a w _ p _ hr hl hy H;have g:=(mem_ready.1 hr).1;refine ⟨fun h=>(by rw [h] at hr;cases hr),fun j hj=>?_⟩
  have q:j<n:=by
   rcases Nat.lt_or_ge j n with h | h
   ·exact h
   ·exact absurd hj (tail_waits hs hc hn p _ i rfl hin g j h)
  refine ⟨q,?_⟩
  by_cases c:j=i
  ·subst c;unfold jC;simp only [hi];exact hy.mixO hl H
  ·have:=hdone _ _ _ H j (ready_mono hj c);omega
 | succ f ih =>
  intro listed a w hC p d hr hl hy H;have g:=(mem_ready.1 hr).1;refine ⟨fun h=>(by rw [h] at hr;cases hr),fun j hj=>?_⟩
  have q:j<n:=by
   rcases Nat.lt_or_ge j n with h | h
   ·exact h
   ·exact absurd hj (tail_waits hs hc hn p _ i rfl hin g j h)
  refine ⟨q,?_⟩
  by_cases c:j=i
  ·subst c;unfold jC;simp only [hi];exact hy.mixO hl H
  ·have h1:=(H.2 j (ready_mono hj c)).2;obtain ⟨m,oj,r,s⟩:=mem_ready.1 hj;have t:∀ e ∈ oj.after,Region.binds md e=true->e.on≠i:=fun e he hb x=>by
    have h1:=s e he hb;rw [x,getD_both g] at h1;cases h1
   have y:=d j oj r c m t;have l:∀ k ok,ops[k]? = some ok->k≠i->(listed.setIfInBounds j true).getD k true=false ->
     (∀ e ∈ ok.after,Region.binds md e=true->e.on≠i)->oi.apart ops ok=true:=fun k ok hk z g A=>by
    refine d k ok hk z ?_ A
    by_cases u:j=k
    ·subst u;exact m
    ·rw [getD_set_ne true u] at g;exact g
   unfold jC at h1 ⊢;simp only [r] at h1 ⊢;have h2:=AF y (fun cs b=>hsel i oi cs b hi) (fun cs b=>hsel j oj cs b r) hy h1
   refine kH hC (fun a' w' B h=>ih (listed.setIfInBounds j true) a' w' B (p.set hj q) l (ready_mono hr (Ne.symm c)) (hl.imp id (fun h0=>h.1.2.trans h0)) h.1.1 ?_) h2
   rw [Array.setIfInBounds_comm _ _ c];exact h.2
end
end Go.Proofs.YtmkdgnmmebldgaaGreatDoor
namespace Go.Proofs.YtmkdgnmmebldgaaGreatDoor
open Go.RowKit
variable {P:Program}{w w':World}
def ig (o:Oper):Bool:=
 match o.op with
 | .call c=>(match c.callee with | .builtin .len=>false | .builtin .cap=>false | .builtin .max=>false | .builtin .min=>false | _=>true)
 | .alloc _=>true
 | .box _ _=>true
 | .buildSlice _ _ _=>true
 | .store _ _ _=>true
 | .makeMap _ _=>true
 | .makeSlice _ _ _=>true
 | .mapUpdate _ _ _ _=>true
 | .insert _ _ _ _=>true
 | .mapEntry _ _ _=>true
 | .entryStore _ _ _ _=>true
 | _=>false
theorem rA {s:Sem Value}{f:FuncId}{args:Array Value}(h:(do let x <-s;pure (Next.value x):Sem Next).run P w = .ok (.enter f args) w'):False:=by
 rw [Sem.run_bind] at h;cases hs:s.run P w with
 | ok x w1 =>
  rw [hs] at h;simp [Result.andThen] at h
 | halt x w1 =>
  rw [hs] at h;simp [Result.andThen] at h
theorem AL {s:Sem Unit}{f:FuncId}{args:Array Value}(h:(do s;pure Next.skip:Sem Next).run P w = .ok (.enter f args) w'):False:=by
 rw [Sem.run_bind] at h;cases hs:s.run P w with
 | ok x w1 =>
  rw [hs] at h;simp [Result.andThen] at h
 | halt x w1 =>
  rw [hs] at h;simp [Result.andThen] at h
section
variable {P:Program} {ops:Array Oper} {C:World->Prop} {lo:Oper->Bool} {T:Act->World->Prop} {o:Oper} {rest:List Oper} {a:Act} {w:World}
theorem xW (hw:Region.wanted o (yielded ops a.tmps)=true)(hl:lo o=false)(hne:∀ w f args w',(execOp a.eval o).run P w≠.ok (.enter f args) w')
  (h:∀ K:Act->Prop,(∀ a,kr P ops C lo T rest a w->K a)->o.quiet P a C K):kr P ops C lo T (o::rest) a w:=by
 obtain ⟨v,h1,h2⟩:=h _ (fun _ h=>h)
 show mixO P ops C lo o _ a w
 unfold mixO;rw [if_pos hw,if_neg (by rw [hl];simp)]
 refine ⟨v,fun w' hC=>?_,h2⟩
 have h3:=h1 w' hC;unfold Oper.quietAt at h3;unfold lr;generalize hr:(execOp a.eval o).run P w'=r at h3;cases r with
 | ok n w2 =>
  cases n <;> simp only [Oper.quietUpon] at h3
  case value u=>rw [h3.1,h3.2];exact Or.inl rfl
  case skip=>rw [h3.1];exact Or.inr ⟨rfl,h3.2⟩
  case enter f args=>exact absurd hr (hne _ _ _ _)
 | halt x w2=>simp only [Oper.quietUpon] at h3
theorem xN (hw:Region.wanted o (yielded ops a.tmps)=true)(hl:lo o=true)
  (h:∀ K:Act->World->Prop,(∀ a w,C w->kr P ops C lo T rest a w->K a w)->wpList P ops (fun e a w=>e = .normal/\K a w) [o] a w):kr P ops C lo T (o::rest) a w:=by
 have h1:=h (fun a w=>C w/\kr P ops C lo T rest a w) (fun _ _ h1 h2=>⟨h1,h2⟩)
 show mixO P ops C lo o _ a w
 unfold mixO;rw [if_pos hw,if_pos hl];unfold wpList at h1;rw [if_pos hw] at h1;rcases h1 with h1 | ⟨_,_,_,h1,_⟩
 ·unfold Oper.wp at h1 ⊢;generalize (execOp a.eval o).run P w=r at *;cases r with
  | ok n w' =>
   cases n <;> simp only [Oper.upon] at h1 ⊢
   case value=>exact h1.2
   case skip=>exact h1.2
   case defer=>exact h1.2
   case row=>exact h1.mono (fun _ _ h=>h.2)
   case enter =>
    refine h1.mono (fun e b he=>?_)
    cases e with
    | returned v=>exact he.2
    | panicked c=>exact absurd he.1 CI
    | outgrown=>obtain ⟨_,_,he,_⟩:=he;cases he
  | halt x w' =>
   cases x <;> simp only [Oper.upon] at h1 ⊢
   exact absurd h1.1 CI
 ·cases h1
end
theorem lM {α:Type}{s:Sem α}{k:α->Sem Next}{f:FuncId}{args:Array Value}(h:(s >>= k).run P w = .ok (.enter f args) w'):∃ x w1,(k x).run P w1 = .ok (.enter f args) w':=by
 rw [Sem.run_bind] at h;cases hs:s.run P w with
 | ok x w1 =>
  rw [hs] at h;exact ⟨x,w1,h⟩
 | halt x w1 =>
  rw [hs] at h;simp [Result.andThen] at h
def me (o:Oper):Bool := !ig o&&(match o.op with | .go _=>false | .defer _=>false | .send _ _=>false | .recv _ _ _=>false | .select _ _=>false | _=>true)
theorem zh {o:Oper}(h0:me o=true)(ρ:Operand->Value)(w:World)(f:FuncId)(args:Array Value)(w':World):(execOp ρ o).run P w≠.ok (.enter f args) w':=by
 intro hr;unfold me at h0;rw [Bool.and_eq_true,Bool.not_eq_true'] at h0;obtain ⟨h,hc⟩:=h0;unfold execOp at hr;unfold ig at h;cases a:o.op <;> rw [a] at hr h hc <;> simp only at hr h hc
 all_goals first
  | exact rA hr
  | exact AL hr
  | (simp [go_sem] at hr;done)
  | (cases h;done)
  | (cases hc;done)
  | skip
 case pick =>
  obtain ⟨_,_,h1⟩:=lM hr;simp [go_sem] at h1
 case nilCheck =>
  split at hr
  ·simp [go_sem] at hr
  ·simp [go_sem] at hr
  ·simp [go_sem] at hr
  ·split at hr
   ·simp [go_sem] at hr
   ·obtain ⟨_,_,h1⟩:=lM hr;obtain ⟨_,_,h2⟩:=lM h1
    split at h2
    ·obtain ⟨_,_,h3⟩:=lM h2;simp [go_sem] at h3
    ·simp [go_sem] at h2
   ·simp [go_sem] at hr
  ·simp [go_sem] at hr
 case call c =>
  have hb:∃ b,c.callee = .builtin b/\(b = .len\/b = .cap\/b = .max\/b = .min):=by
   split at h
   all_goals first
    | (rename_i e;exact ⟨_,e,CI⟩)
    | cases h
  obtain ⟨b,e,hb⟩:=hb;unfold resolve at hr;rw [e] at hr;simp only [Sem.run_bind,Sem.run_pure,Result.andThen] at hr;unfold invoke builtin at hr;rcases hb with rfl | rfl | rfl | rfl
  all_goals exact rA hr
theorem zw {ops:Array Oper}{C:World->Prop}{T:Act->World->Prop}{o:Oper}{rest:List Oper}{a:Act}(hw:Region.wanted o (yielded ops a.tmps)=true)(hr:me o=true)
  (h:∀ K:Act->Prop,(∀ a,kr P ops C ig T rest a w->K a)->o.quiet P a C K):kr P ops C ig T (o::rest) a w:=
 xW hw (by unfold me at hr;rw [Bool.and_eq_true,Bool.not_eq_true'] at hr;exact hr.1) (fun w f b w'=>zh hr _ w f b w') h
def an (S:World->Prop):Type:={u:World // S u}
theorem an.cell {S:World->Prop}{p:Addr}{v:Value}(h:∀ u,S u->u.cell? p=some v):∀ u:an S,World.cell? u.val p=some v:=fun u=>h u.val u.2
theorem ak {S:World->Prop}(h:S w):∃ u:an S,w=u.val:=⟨⟨w,h⟩,rfl⟩
theorem aQ {S:World->Prop}(h:S w):Nonempty (an S):=⟨⟨w,h⟩⟩
section
variable {P:Program} {l:List Oper} {C:World->Prop} {n:Nat} {Q:Exit->Act->World->Prop}
def ly (l:List Oper)(n:Nat):Bool:=Region.noSelect l.toArray&&decide (n<l.length)&&Region.sinkB .any l.toArray n&&Region.chainB .any l.toArray n
def wpT (P:Program)(l:List Oper)(C:World->Prop)(n:Nat)(Q:Exit->Act->World->Prop)(f:Nat)(listed:Array Bool)(a:Act)(w:World):Prop:=
 ly l n=true->HeadInv .any l.toArray n listed->C w ->
  mV P .any l.toArray C ig n (fun b a' w'=>Region.seqB .any l.toArray (l.length-n) n b=true/\wpList P l.toArray Q (l.drop n) a' w') f listed a w
theorem nR {i:Nat}{o:Oper}{rest:List Oper}(h:l.drop i=o::rest):l.toArray[i]? = some o:=by
 have:(l.drop i)[0]? = some o:=by rw [h];rfl
 simpa using this
theorem A8 (i:Nat){o:Oper}{rest:List Oper}{f:Nat}{listed:Array Bool}{a:Act}{w:World}(hi:l.drop i=o::rest)(hw:Region.wanted o (yielded l.toArray a.tmps)=true)
  (hB:(me o&&(decide (i<n)&&((Region.ready .any l.toArray listed).contains i&&Region.free .any l.toArray listed i)))=true)
  (h:∀ K:Act->Prop,(∀ a,wpT P l C n Q f (listed.setIfInBounds i true) a w->K a)->o.quiet P a C K):wpT P l C n Q (f+1) listed a w:=by
 intro hT d hC;have g:=hT;simp only [ly,Bool.and_eq_true,decide_eq_true_eq] at g;obtain ⟨⟨⟨c,hn⟩,hs⟩,hc⟩:=g;simp only [Bool.and_eq_true,decide_eq_true_eq] at hB;obtain ⟨hr,j,p,hf⟩:=hB;have h0:=nR hi;have k:i ∈ Region.ready .any l.toArray listed:=by simpa using p
 have hm:=zw (T:=fun a w=>wpT P l C n Q f (listed.setIfInBounds i true) a w) (rest:=[]) hw hr (fun K hK=>h K hK)
 have m:ig o=false:=by unfold me at hr;rw [Bool.and_eq_true,Bool.not_eq_true'] at hr;exact hr.1
 obtain ⟨v,hy,hk⟩:=xV (Or.inl m) (show mixO P l.toArray C ig o (fun a w=>wpT P l C n Q f (listed.setIfInBounds i true) a w) a w from hm)
 exact sW h0 (Region.noSelect_spec c) hs hc (by simpa using hn) j (fun b a' w' hL=>seqB_ready hL.1) f listed a w hC d (Region.free_spec h0 hf) k (Or.inl m) hy (hk hT (d.set k j) hC)
theorem ae (i:Nat){o:Oper}{rest:List Oper}{f:Nat}{listed:Array Bool}{a:Act}{w:World}(h:∀ K:Act->Prop,(∀ a,wpT P l C n Q f (listed.setIfInBounds i true) a w->K a)->o.quiet P a C K)(hi:l.drop i=o::rest:=by rfl)(hw:Region.wanted o (yielded l.toArray a.tmps)=true:=by kernel_rfl)(hB:(me o&&(decide (i<n)&&((Region.ready .any l.toArray listed).contains i&&Region.free .any l.toArray listed i)))=true:=by kernel_rfl):wpT P l C n Q (f+1) listed a w:=A8 i hi hw hB h
theorem pu {T:Act->World->Prop}{o:Oper}{ops:Array Oper}{a:Act}{w:World}(hw:Region.wanted o (yielded ops a.tmps)=true)(hl:ig o=true)
  (h:∀ K:Act->World->Prop,(∀ a w,C w->T a w->K a w)->wpList P ops (fun e a w=>e = .normal/\K a w) [o] a w):mixO P ops C ig o T a w:=
 xN (rest:=[]) hw hl h
theorem AP (i:Nat){o:Oper}{rest:List Oper}{f:Nat}{listed:Array Bool}{a:Act}{w:World}(hi:l.drop i=o::rest)(hw:Region.wanted o (yielded l.toArray a.tmps)=true)
  (hB:(ig o&&(decide (i<n)&&decide (Region.ready .any l.toArray listed=[i])))=true)
  (h:∀ K:Act->World->Prop,(∀ a w,C w->wpT P l C n Q f (listed.setIfInBounds i true) a w->K a w)->wpList P l.toArray (fun e a w=>e = .normal/\K a w) [o] a w):wpT P l C n Q (f+1) listed a w:=by
 intro hT d hC;simp only [Bool.and_eq_true,decide_eq_true_eq] at hB;obtain ⟨g,b,c⟩:=hB;refine ⟨by rw [c];simp,fun j hj=>?_⟩
 have k:j=i:=by rw [c] at hj;simpa using hj
 subst k;refine ⟨b,?_⟩;unfold jC;simp only [nR hi];exact kH hC (fun a w m hk=>hk hT (d.set hj b) m) (pu hw g h)
theorem az (i:Nat){o:Oper}{rest:List Oper}{f:Nat}{listed:Array Bool}{a:Act}{w:World}(h:∀ K:Act->World->Prop,(∀ a w,C w->wpT P l C n Q f (listed.setIfInBounds i true) a w->K a w)->wpList P l.toArray (fun e a w=>e = .normal/\K a w) [o] a w)(hi:l.drop i=o::rest:=by rfl)(hw:Region.wanted o (yielded l.toArray a.tmps)=true:=by kernel_rfl)(hB:(ig o&&(decide (i<n)&&decide (Region.ready .any l.toArray listed=[i])))=true:=by kernel_rfl):wpT P l C n Q (f+1) listed a w:=AP i hi hw hB h
theorem fh (i k:Nat){o o':Oper}{rest rest':List Oper}{f:Nat}{listed:Array Bool}{a:Act}{w:World}(hi:l.drop i=o::rest)(hk:l.drop k=o'::rest')(hw:Region.wanted o (yielded l.toArray a.tmps)=true)(hw':Region.wanted o' (yielded l.toArray a.tmps)=true)
  (hB:(ig o&&(ig o'&&(decide (i<n)&&(decide (k<n)&&decide (Region.ready .any l.toArray listed=[i,k])))))=true)
  (h:∀ K:Act->World->Prop,(∀ a w,C w->wpT P l C n Q f (listed.setIfInBounds i true) a w->K a w)->wpList P l.toArray (fun e a w=>e = .normal/\K a w) [o] a w)
  (h':∀ K:Act->World->Prop,(∀ a w,C w->wpT P l C n Q f (listed.setIfInBounds k true) a w->K a w)->wpList P l.toArray (fun e a w=>e = .normal/\K a w) [o'] a w):wpT P l C n Q (f+1) listed a w:=by
 intro hT g hC;simp only [Bool.and_eq_true,decide_eq_true_eq] at hB;obtain ⟨r,c,m,p,q⟩:=hB;refine ⟨by rw [q];simp,fun j hj=>?_⟩
 have b:j=i\/j=k:=by rw [q] at hj;simpa using hj
 rcases b with b | b
 ·subst b;refine ⟨m,?_⟩;unfold jC;simp only [nR hi];exact kH hC (fun a w d hk=>hk hT (g.set hj m) d) (pu hw r h)
 ·subst b;refine ⟨p,?_⟩;unfold jC;simp only [nR hk];exact kH hC (fun a w d hk=>hk hT (g.set hj p) d) (pu hw' c h')
theorem AC {listed:Array Bool}{a:Act}{w:World}(hB:Region.seqB .any l.toArray (l.length-n) n listed=true)(h:wpList P l.toArray Q (l.drop n) a w):wpT P l C n Q 0 listed a w:=
 fun _ _ _=>⟨hB,h⟩
theorem ic {id:Nat}{a:Act}{w:World}(C:World->Prop)(n:Nat)(hm:P.follows .mixedOrders=true)(hB:ly l n=true)(hC:C w.drew)
  (h:wpT P l C n Q n (Array.replicate l.length false) a w.drew):(Code.region id l.toArray true).wp P Q a w:=by
 have d:=hB;simp only [ly,Bool.and_eq_true,decide_eq_true_eq] at d;obtain ⟨⟨⟨i,hn⟩,hs⟩,hc⟩:=d;have f:(l.drop n).length=l.length-n:=CI
 have c:HeadInv .any l.toArray n (Array.replicate l.length false):=
  ⟨CI,fun j oj _ hl=>(by rw [getD_replicate_false] at hl;cases hl),fun t _ ht=>getD_in (by simpa using ht) (getD_replicate_false _ _)⟩
 have H:=h hB c hC;refine wp_region_any hm ?_;have:=jX (Q:=Q) (g:=l.length-n) (fun b a' w' hL=>by
  have:=wpAny_of_seq (md:=.any) (Q':=Q) (l.drop n) n b a' w' (fun j=>by simp [List.getElem?_drop]) (by rw [f];exact hL.1) hL.2
  rwa [f] at this) _ _ _ _ hC H
 rw [show n+(l.length-n)=l.toArray.size by simp;omega] at this
 simpa using this
theorem a9 {listed:Array Bool}{a:Act}{w:World}(h:wpList P l.toArray Q (l.drop n) a w)(hB:Region.seqB .any l.toArray (l.length-n) n listed=true:=by kernel_rfl):wpT P l C n Q 0 listed a w:=AC hB h
theorem bW {id:Nat}{a:Act}{w:World}{S:World -> Prop}(n:Nat)(hC:S w.drew)(h:wpT P l (fun w'=>∃ u:an S,w'=u.val) n Q n (Array.replicate l.length false) a w.drew)(hm:P.follows .mixedOrders=true:=by kernel_rfl)(hB:ly l n=true:=by kernel_rfl):(Code.region id l.toArray true).wp P Q a w:=ic (fun w'=>∃ u:an S,w'=u.val) n hm hB (ak hC) h
end
end Go.Proofs.YtmkdgnmmebldgaaGreatDoor
