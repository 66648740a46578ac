import Derived.Test.YtmkdgnmmebldgaaGreatDoorPt1
import Derived.StillTail
set_option maxRecDepth 100000
set_option maxHeartbeats 8000000
namespace Go.Proofs.YtmkdgnmmebldgaaGreatDoor
open Go
section
variable {P:Program} {ops:Array Oper} {md:Region.Mode} {C:World→Prop} {lo:Oper→Bool}
def noExit:Exit→Act→World→Prop:=fun _ _ _=>False
def ReadsAt (P:Program)(o:Oper)(a:Act)(w:World)(v:Value):Prop:=
 (execOp a.eval o).run P w = .ok (.value v) w∨((execOp a.eval o).run P w = .ok .skip w∧v=undef)
def mixO (P:Program)(ops:Array Oper)(C:World→Prop)(lo:Oper→Bool)(o:Oper)(K:Act→World→Prop)(a:Act)(w:World):Prop:=
 if Region.wanted o (yielded ops a.tmps)=true then
  (if lo o=true then o.wp P a w (fun a' w'=>C w'∧K a' w') noExit else ∃ v,(∀ w',C w'→ReadsAt P o a w' v)∧K (a.put o.dst v) w)
 else K (a.put o.dst undef) w
def mixOp (P:Program)(ops:Array Oper)(C:World→Prop)(lo:Oper→Bool)(i:Nat)(K:Act→World→Prop)(a:Act)(w:World):Prop:=
 match ops[i]? with
 | none=>False
 | some o=>mixO P ops C lo o K a w
def wpMix (P:Program)(ops:Array Oper)(C:World→Prop)(lo:Oper→Bool)(T:Act→World→Prop):List Oper→Act→World→Prop
 | [],a,w=>T a w
 | o::rest,a,w=>mixO P ops C lo o (wpMix P ops C lo T rest) a w
theorem mixO_mono {o:Oper}{K K':Act→World→Prop}{a:Act}{w:World}(hC:C w)(h:∀ a w,C w→K a w→K' a w)(hh:mixO P ops C lo o K a w):mixO P ops C lo o K' a w:=by
 unfold mixO at *
 split
 ·rename_i hw
  rw [if_pos hw] at hh
  split
  ·rename_i hl
   rw [if_pos hl] at hh
   exact Oper.wp_mono (fun a w hk=>⟨hk.1,h a w hk.1 hk.2⟩) hh
  ·rename_i hl
   rw [if_neg hl] at hh
   obtain ⟨v,h1,h2⟩:=hh
   exact ⟨v,h1,h _ _ hC h2⟩
 ·rename_i hw
  rw [if_neg hw] at hh
  exact h _ _ hC hh
theorem upon_noExit {o:Oper}{a:Act}{K:Act→World→Prop}{Q:Exit→Act→World→Prop}{r:Result Next}(h:o.upon P a K noExit r):o.upon P a K Q r:=by
 cases r with
 | ok n w' =>
  cases n <;> simp only [Oper.upon] at h ⊢ <;> first | exact h | exact h.mono (fun e w'' he=>by
   cases e with
   | returned v=>exact he
   | panicked c=>exact absurd he (fun h=>h)
   | outgrown=>obtain ⟨_,_,he⟩:=he;exact absurd he (fun h=>h))
 | halt x w'=>cases x <;> simp only [Oper.upon] at h ⊢ <;> exact absurd h (fun h=>h)
theorem wpOp_of_mixOp {i:Nat}{K:Act→World→Prop}{K':Act→World→Prop}{Q:Exit→Act→World→Prop}{a:Act}{w:World}(hC:C w)(h:∀ a w,C w→K a w→K' a w)(hh:mixOp P ops C lo i K a w):wpOp P ops Q i K' a w:=by
 unfold mixOp at hh
 unfold wpOp
 split
 ·rename_i ho;simp only [ho] at hh
 ·rename_i o ho
  simp only [ho] at hh
  unfold mixO at hh
  split
  ·rename_i hw
   rw [if_pos hw] at hh
   split at hh
   ·exact .inl (Oper.wp_mono (fun a w hk=>h a w hk.1 hk.2) (upon_noExit hh))
   ·obtain ⟨v,h1,h2⟩:=hh
    refine .inl ?_
    unfold Oper.wp
    rcases h1 w hC with h3 | ⟨h3,h4⟩
    ·rw [h3];exact h _ _ hC h2
    ·rw [h3]
     subst h4
     exact h _ _ hC h2
  ·rename_i hw
   rw [if_neg hw] at hh
   exact h _ _ hC hh
def wpAnyM (P:Program)(md:Region.Mode)(ops:Array Oper)(C:World→Prop)(lo:Oper→Bool)(n:Nat)(L:Array Bool→Act→World→Prop):Nat→Array Bool→Act→World→Prop
 | 0,listed,a,w=>L listed a w
 | f+1,listed,a,w =>
  Region.ready md ops listed≠[]∧∀ i ∈ Region.ready md ops listed,i<n∧mixOp P ops C lo i (wpAnyM P md ops C lo n L f (listed.setIfInBounds i true)) a w
theorem wpAny_of_mix {n g:Nat}{L:Array Bool→Act→World→Prop}{Q:Exit→Act→World→Prop}(hL:∀ listed a w,L listed a w→wpAny P md ops Q g listed a w):
  ∀ (f:Nat) (listed:Array Bool) (a:Act) (w:World),C w→wpAnyM P md ops C lo n L f listed a w→wpAny P md ops Q (f+g) listed a w
 | 0,listed,a,w,_,h=>by rw [Nat.zero_add];exact hL _ _ _ h
 | f+1,listed,a,w,hC,h=>by
  rw [show f+1+g=(f+g)+1 by omega]
  exact ⟨fun h0=>absurd h0 h.1,fun i hi=>wpOp_of_mixOp hC (fun a' w' hC' h'=>wpAny_of_mix hL f _ a' w' hC' h') (h.2 i hi).2⟩
def YieldsM (P:Program)(ops:Array Oper)(C:World→Prop)(o:Oper)(v:Value)(a:Act):Prop:=
 (Region.wanted o (yielded ops a.tmps)=true∧∀ w,C w→ReadsAt P o a w v)∨(Region.wanted o (yielded ops a.tmps)=false∧v=undef)
theorem YieldsM.of_same {o:Oper}{v:Value}{a a':Act}(hy:YieldsM P ops C o v a)(he:execOp a'.eval o=execOp a.eval o)
  (hw:Region.wanted o (yielded ops a'.tmps)=Region.wanted o (yielded ops a.tmps)):YieldsM P ops C o v a':=by
 unfold YieldsM ReadsAt at *
 rw [he,hw]
 exact hy
theorem YieldsM.mixO {o:Oper}{v:Value}{a:Act}{w:World}{K:Act→World→Prop}(hl:lo o=false∨Region.wanted o (yielded ops a.tmps)=false)(hy:YieldsM P ops C o v a)(h:K (a.put o.dst v) w):mixO P ops C lo o K a w:=by
 unfold Go.Proofs.YtmkdgnmmebldgaaGreatDoor.mixO
 rcases hy with ⟨hw,hv⟩ | ⟨hw,rfl⟩
 ·have hl':lo o=false:=hl.resolve_right (by rw [hw];simp)
  rw [if_pos hw,if_neg (by rw [hl'];simp)]
  exact ⟨v,hv,h⟩
 ·rw [if_neg (by rw [hw];simp)]
  exact h
theorem yieldsM_of {o:Oper}{a:Act}{w:World}{K:Act→World→Prop}(hl:lo o=false∨Region.wanted o (yielded ops a.tmps)=false)(h:mixO P ops C lo o K a w):∃ v,YieldsM P ops C o v a∧K (a.put o.dst v) w:=by
 unfold mixO at h
 by_cases hw:Region.wanted o (yielded ops a.tmps)=true
 ·have hl':lo o=false:=hl.resolve_right (by rw [hw];simp)
  rw [if_pos hw,if_neg (by rw [hl'];simp)] at h
  obtain ⟨v,h1,h2⟩:=h
  exact ⟨v,.inl ⟨hw,h1⟩,h2⟩
 ·rw [if_neg hw] at h
  exact ⟨undef,.inr ⟨by simpa using hw,rfl⟩,h⟩
def outO (P:Program)(G:Value→Option Deferred→World→Prop):Result Next→Prop
 | .ok (.value v) w'=>G v none w'
 | .ok .skip w'=>G undef none w'
 | .ok (.defer d) w'=>G undef (some d) w'
 | .ok (.enter f args) w'=>Calls P f args w' fun e w'' => ∃ v,e = .returned v∧G v none w''
 | .ok (.row row args) w'=>Rows P row args w' fun v w''=>G v none w''
 | _=>False
def after1 (a:Act)(dst:Option Tmp)(v:Value):Option Deferred→Act
 | none=>a.put dst v
 | some d=>{ a with defers:=d::a.defers }.put dst v
theorem out_of_upon {o:Oper}{a:Act}{K:Act→World→Prop}{r:Result Next}(h:o.upon P a K noExit r):outO P (fun v d w'=>K (after1 a o.dst v d) w') r:=by
 cases r with
 | ok n w' =>
  cases n <;> simp only [Oper.upon] at h <;> simp only [outO,after1] <;> first | exact h | exact h.mono (fun e w'' he=>by
   rcases e with v | c | _
   ·exact ⟨v,rfl,he⟩
   ·exact absurd he (fun h=>h)
   ·obtain ⟨_,_,he⟩:=he
    exact absurd he (fun h=>h))
 | halt x w'=>cases x <;> simp only [Oper.upon] at h <;> exact absurd h (fun h=>h)
theorem upon_of_out {o:Oper}{a:Act}{K:Act→World→Prop}{r:Result Next}(h:outO P (fun v d w'=>K (after1 a o.dst v d) w') r):o.upon P a K noExit r:=by
 cases r with
 | ok n w' =>
  cases n <;> simp only [outO,after1] at h <;> simp only [Oper.upon] <;> first | exact h | exact h.mono (fun e w'' he=>by obtain ⟨v,rfl,hk⟩:=he;exact hk) | exact h.mono (fun _ _ h=>h)
 | halt x w'=>cases x <;> simp only [outO] at h
theorem outO_mono {G G':Value→Option Deferred→World→Prop}{r:Result Next}(hg:∀ v d w,G v d w→G' v d w)(h:outO P G r):outO P G' r:=by
 cases r with
 | ok n w' =>
  cases n <;> simp only [outO] at h ⊢ <;> first | exact hg _ _ _ h | exact h.mono (fun e w'' ⟨v,he,hk⟩=>⟨v,he,hg _ _ _ hk⟩) | exact h.mono (fun _ _ h=>hg _ _ _ h)
 | halt x w'=>cases x <;> simp only [outO] at h
theorem after1_put (a:Act){x y:Option Tmp}(v u:Value)(d:Option Deferred)(h:∀ t,x=some t→y≠some t):after1 (a.put x v) y u d=(after1 a y u d).put x v:=by
 cases d with
 | none=>exact Act.put_comm a v u h
 | some d =>
  have:=Act.put_comm ({ a with defers:=d::a.defers }:Act) v u h
  cases x <;> cases y <;> simp_all [after1,Act.put]
theorem after1_eval (o:Oper)(hs:∀ cs b,o.op≠.select cs b)(a:Act)(dst:Option Tmp)(v:Value)(d:Option Deferred)(h:∀ t,dst=some t→t ∉ o.looksAt ops):
  execOp (after1 a dst v d).eval o=execOp a.eval o∧Region.wanted o (yielded ops (after1 a dst v d).tmps)=Region.wanted o (yielded ops a.tmps):=by
 cases d with
 | none=>exact ⟨execOp_put o hs a dst v h,wanted_put o a dst v h⟩
 | some d =>
  have e1:=execOp_put o hs ({ a with defers:=d::a.defers }:Act) dst v h
  have e2:=wanted_put o ({ a with defers:=d::a.defers }:Act) dst v h
  refine ⟨e1.trans ?_,e2⟩
  have:({ a with defers:=d::a.defers }:Act).eval=a.eval:=by
   funext x
   cases x <;> rfl
  rw [this]
theorem mixO_put {oi oj:Oper}{v:Value}(hap:oi.apart ops oj=true)
  (hsi:∀ cs b,oi.op≠.select cs b) (hsj:∀ cs b,oj.op≠.select cs b) {K:Act→World→Prop} {a:Act} {w:World}
  (hy:YieldsM P ops C oi v a) (h:mixO P ops C lo oj K (a.put oi.dst v) w) :
  mixO P ops C lo oj (fun a' w'=>(YieldsM P ops C oi v a'∧Region.wanted oi (yielded ops a'.tmps)=Region.wanted oi (yielded ops a.tmps))∧K (a'.put oi.dst v) w') a w:=by
 obtain ⟨h1,h2,h3⟩:=Oper.apart_spec hap
 have keep:∀ u,YieldsM P ops C oi v (a.put oj.dst u)∧Region.wanted oi (yielded ops (a.put oj.dst u).tmps)=Region.wanted oi (yielded ops a.tmps):=fun u =>
  ⟨hy.of_same (execOp_put oi hsi a oj.dst u h3) (wanted_put oi a oj.dst u h3),wanted_put oi a oj.dst u h3⟩
 unfold mixO at *
 rw [wanted_put oj a oi.dst v h1] at h
 split
 ·rename_i hw
  rw [if_pos hw] at h
  split
  ·rename_i hl
   rw [if_pos hl] at h
   unfold Oper.wp at *
   rw [execOp_put oj hsj a oi.dst v h1] at h
   refine upon_of_out (outO_mono ?_ (out_of_upon h))
   rintro u d w' ⟨hc,hk⟩
   refine ⟨hc,?_,?_⟩
   ·obtain ⟨e1,e2⟩:=after1_eval (ops:=ops) oi hsi a oj.dst u d h3
    exact ⟨hy.of_same e1 e2,e2⟩
   ·rw [← after1_put a v u d h2]
    exact hk
  ·rename_i hl
   rw [if_neg hl] at h
   obtain ⟨u,hu,hk⟩:=h
   refine ⟨u,fun w' hC=>?_,keep u,by rw [← Act.put_comm a v u h2];exact hk⟩
   have:=hu w' hC
   unfold ReadsAt at *
   rwa [execOp_put oj hsj a oi.dst v h1] at this
 ·rename_i hw
  rw [if_neg hw] at h
  exact ⟨keep _,by rw [← Act.put_comm a v undef h2];exact h⟩
theorem wpAnyM_first {n i:Nat}{oi:Oper}{v:Value}{L:Array Bool→Act→World→Prop}(hi:ops[i]? = some oi)(hsel:∀ (j:Nat) (o:Oper) cs b,ops[j]? = some o→o.op≠.select cs b)
  (hs:Region.sinkB md ops n=true) (hc:Region.chainB md ops n=true) (hn:n<ops.size) (hin:i<n)
  (hdone:∀ listed a w,L listed a w→∀ j ∈ Region.ready md ops listed,n≤j) :
  ∀ (f:Nat) (listed:Array Bool) (a:Act) (w:World),C w→HeadInv md ops n listed →
   (∀ j oj,ops[j]? = some oj→j≠i→listed.getD j true=false→(∀ e ∈ oj.after,Region.binds md e=true→e.on≠i)→oi.apart ops oj=true) →
   i ∈ Region.ready md ops listed→(lo oi=false∨Region.wanted oi (yielded ops a.tmps)=false)→YieldsM P ops C oi v a →
   wpAnyM P md ops C lo n L f (listed.setIfInBounds i true) (a.put oi.dst v) w→wpAnyM P md ops C lo n L (f+1) listed a w:=by
 intro f
 induction f with
 | zero =>
  intro listed a w _ inv _ hr hl hy H
  have hun:=(mem_ready.1 hr).1
  refine ⟨fun h=>(by rw [h] at hr;cases hr),fun j hj=>?_⟩
  have hjn:j<n:=by
   rcases Nat.lt_or_ge j n with h | h
   ·exact h
   ·exact absurd hj (tail_waits hs hc hn inv _ i rfl hin hun j h)
  refine ⟨hjn,?_⟩
  by_cases hji:j=i
  ·subst hji
   unfold mixOp
   simp only [hi]
   exact hy.mixO hl H
  ·have:=hdone _ _ _ H j (ready_mono hj hji)
   omega
 | succ f ih =>
  intro listed a w hC inv hfree hr hl hy H
  have hun:=(mem_ready.1 hr).1
  refine ⟨fun h=>(by rw [h] at hr;cases hr),fun j hj=>?_⟩
  have hjn:j<n:=by
   rcases Nat.lt_or_ge j n with h | h
   ·exact h
   ·exact absurd hj (tail_waits hs hc hn inv _ i rfl hin hun j h)
  refine ⟨hjn,?_⟩
  by_cases hji:j=i
  ·subst hji
   unfold mixOp
   simp only [hi]
   exact hy.mixO hl H
  ·have h1:=(H.2 j (ready_mono hj hji)).2
   obtain ⟨hjun,oj,hoj,hall⟩:=mem_ready.1 hj
   have hnot:∀ e ∈ oj.after,Region.binds md e=true→e.on≠i:=fun e he hb heq=>by
    have h1:=hall e he hb
    rw [heq,getD_both hun] at h1
    cases h1
   have hap:=hfree j oj hoj hji hjun hnot
   have hfree':∀ k ok,ops[k]? = some ok→k≠i→(listed.setIfInBounds j true).getD k true=false →
     (∀ e ∈ ok.after,Region.binds md e=true→e.on≠i)→oi.apart ops ok=true:=fun k ok hk hki hun hno=>by
    refine hfree k ok hk hki ?_ hno
    by_cases hjk:j=k
    ·subst hjk;exact hjun
    ·rw [getD_set_ne true hjk] at hun;exact hun
   unfold mixOp at h1 ⊢
   simp only [hoj] at h1 ⊢
   have h2:=mixO_put hap (fun cs b=>hsel i oi cs b hi) (fun cs b=>hsel j oj cs b hoj) hy h1
   refine mixO_mono hC (fun a' w' hC' h=>ih (listed.setIfInBounds j true) a' w' hC' (inv.set hj hjn) hfree' (ready_mono hr (Ne.symm hji)) (hl.imp id (fun h0=>h.1.2.trans h0)) h.1.1 ?_) h2
   rw [Array.setIfInBounds_comm _ _ hji]
   exact h.2
end
end Go.Proofs.YtmkdgnmmebldgaaGreatDoor
