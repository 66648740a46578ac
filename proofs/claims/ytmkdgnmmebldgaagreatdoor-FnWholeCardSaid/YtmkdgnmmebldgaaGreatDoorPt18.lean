import Derived.Test.YtmkdgnmmebldgaaGreatDoorPt17
import Derived.BigQuiet
set_option maxRecDepth 100000
set_option maxHeartbeats 8000000
namespace Go.Proofs.YtmkdgnmmebldgaaGreatDoor
open Go.RowKit
def loudB (o:Oper):Bool:=
 match o.op with
 | .call c=>(match c.callee with | .builtin .len=>false | .builtin .cap=>false | .builtin .max=>false | .builtin .min=>false | _=>true)
 | .alloc _=>true
 | .box _ _=>true
 | .buildSlice _ _ _=>true
 | .store _ _ _=>true
 | .makeMap _ _=>true
 | .makeSlice _ _ _=>true
 | .mapUpdate _ _ _ _=>true
 | .insert _ _ _ _=>true
 | .mapEntry _ _ _=>true
 | .entryStore _ _ _ _=>true
 | _=>false
theorem run_value {P:Program}{w w':World}{s:Sem Value}{f:FuncId}{args:Array Value}(h:(do let x ← s;pure (Next.value x):Sem Next).run P w = .ok (.enter f args) w'):False:=by
 rw [Sem.run_bind] at h
 cases hs:s.run P w with
 | ok x w1 =>
  rw [hs] at h
  simp [Result.andThen] at h
 | halt x w1 =>
  rw [hs] at h
  simp [Result.andThen] at h
theorem run_unit {P:Program}{w w':World}{s:Sem Unit}{f:FuncId}{args:Array Value}(h:(do s;pure Next.skip:Sem Next).run P w = .ok (.enter f args) w'):False:=by
 rw [Sem.run_bind] at h
 cases hs:s.run P w with
 | ok x w1 =>
  rw [hs] at h
  simp [Result.andThen] at h
 | halt x w1 =>
  rw [hs] at h
  simp [Result.andThen] at h
section
variable {P:Program} {ops:Array Oper} {C:World→Prop} {lo:Oper→Bool} {T:Act→World→Prop} {o:Oper} {rest:List Oper} {a:Act} {w:World}
theorem wpMix_read (hw:Region.wanted o (yielded ops a.tmps)=true)(hl:lo o=false)(hne:∀ w f args w',(execOp a.eval o).run P w≠.ok (.enter f args) w')
  (h:∀ K:Act→Prop,(∀ a,wpMix P ops C lo T rest a w→K a)→o.quiet P a C K):wpMix P ops C lo T (o::rest) a w:=by
 obtain ⟨v,h1,h2⟩:=h _ (fun _ h=>h)
 show mixO P ops C lo o _ a w
 unfold mixO
 rw [if_pos hw,if_neg (by rw [hl];simp)]
 refine ⟨v,fun w' hC=>?_,h2⟩
 have h3:=h1 w' hC
 unfold Oper.quietAt at h3
 unfold ReadsAt
 generalize hr:(execOp a.eval o).run P w'=r at h3
 cases r with
 | ok n w2 =>
  cases n <;> simp only [Oper.quietUpon] at h3
  case value u=>rw [h3.1,h3.2];exact Or.inl rfl
  case skip=>rw [h3.1];exact Or.inr ⟨rfl,h3.2⟩
  case enter f args=>exact absurd hr (hne _ _ _ _)
 | halt x w2=>simp only [Oper.quietUpon] at h3
theorem wpMix_loud (hw:Region.wanted o (yielded ops a.tmps)=true)(hl:lo o=true)
  (h:∀ K:Act→World→Prop,(∀ a w,C w→wpMix P ops C lo T rest a w→K a w)→wpList P ops (fun e a w=>e = .normal∧K a w) [o] a w):wpMix P ops C lo T (o::rest) a w:=by
 have h1:=h (fun a w=>C w∧wpMix P ops C lo T rest a w) (fun _ _ h1 h2=>⟨h1,h2⟩)
 show mixO P ops C lo o _ a w
 unfold mixO
 rw [if_pos hw,if_pos hl]
 unfold wpList at h1
 rw [if_pos hw] at h1
 rcases h1 with h1 | ⟨_,_,_,h1,_⟩
 ·unfold Oper.wp at h1 ⊢
  generalize (execOp a.eval o).run P w=r at *
  cases r with
  | ok n w' =>
   cases n <;> simp only [Oper.upon] at h1 ⊢
   case value=>exact h1.2
   case skip=>exact h1.2
   case defer=>exact h1.2
   case row=>exact h1.mono (fun _ _ h=>h.2)
   case enter =>
    refine h1.mono (fun e w'' he=>?_)
    cases e with
    | returned v=>exact he.2
    | panicked c=>exact absurd he.1 (by simp)
    | outgrown=>obtain ⟨_,_,he,_⟩:=he;cases he
  | halt x w' =>
   cases x <;> simp only [Oper.upon] at h1 ⊢
   exact absurd h1.1 (by simp)
 ·cases h1
end
theorem run_then {P:Program}{w w':World}{α:Type}{s:Sem α}{k:α→Sem Next}{f:FuncId}{args:Array Value}(h:(s >>= k).run P w = .ok (.enter f args) w'):∃ x w1,(k x).run P w1 = .ok (.enter f args) w':=by
 rw [Sem.run_bind] at h
 cases hs:s.run P w with
 | ok x w1 =>
  rw [hs] at h
  exact ⟨x,w1,h⟩
 | halt x w1 =>
  rw [hs] at h
  simp [Result.andThen] at h
def readB (o:Oper):Bool := !loudB o&&(match o.op with | .go _=>false | .defer _=>false | .send _ _=>false | .recv _ _ _=>false | .select _ _=>false | _=>true)
theorem not_enter {P:Program}{o:Oper}(h0:readB o=true)(ρ:Operand→Value)(w:World)(f:FuncId)(args:Array Value)(w':World):(execOp ρ o).run P w≠.ok (.enter f args) w':=by
 intro hr
 unfold readB at h0
 rw [Bool.and_eq_true,Bool.not_eq_true'] at h0
 obtain ⟨h,hc⟩:=h0
 unfold execOp at hr
 unfold loudB at h
 cases hop:o.op <;> rw [hop] at hr h hc <;> simp only at hr h hc
 all_goals first
  | exact run_value hr
  | exact run_unit hr
  | (simp [go_sem] at hr;done)
  | (cases h;done)
  | (cases hc;done)
  | skip
 case pick =>
  obtain ⟨_,_,h1⟩:=run_then hr
  simp [go_sem] at h1
 case nilCheck =>
  split at hr
  ·simp [go_sem] at hr
  ·simp [go_sem] at hr
  ·simp [go_sem] at hr
  ·split at hr
   ·simp [go_sem] at hr
   ·obtain ⟨_,_,h1⟩:=run_then hr
    obtain ⟨_,_,h2⟩:=run_then h1
    split at h2
    ·obtain ⟨_,_,h3⟩:=run_then h2
     simp [go_sem] at h3
    ·simp [go_sem] at h2
   ·simp [go_sem] at hr
  ·simp [go_sem] at hr
 case call c =>
  have hb:∃ b,c.callee = .builtin b∧(b = .len∨b = .cap∨b = .max∨b = .min):=by
   split at h
   all_goals first
    | (rename_i e;exact ⟨_,e,by simp⟩)
    | cases h
  obtain ⟨b,e,hb⟩:=hb
  unfold resolve at hr
  rw [e] at hr
  simp only [Sem.run_bind,Sem.run_pure,Result.andThen] at hr
  unfold invoke builtin at hr
  rcases hb with rfl | rfl | rfl | rfl
  all_goals exact run_value hr
theorem wpMix_see {P:Program}{ops:Array Oper}{C:World→Prop}{T:Act→World→Prop}{o:Oper}{rest:List Oper}{a:Act}{w:World}(hw:Region.wanted o (yielded ops a.tmps)=true)(hr:readB o=true)
  (h:∀ K:Act→Prop,(∀ a,wpMix P ops C loudB T rest a w→K a)→o.quiet P a C K):wpMix P ops C loudB T (o::rest) a w:=
 wpMix_read hw (by unfold readB at hr;rw [Bool.and_eq_true,Bool.not_eq_true'] at hr;exact hr.1) (fun w f args w'=>not_enter hr _ w f args w') h
def Held (S:World→Prop):Type:={u:World // S u}
theorem Held.cell {S:World→Prop}{p:Addr}{v:Value}(h:∀ u,S u→u.cell? p=some v):∀ u:Held S,World.cell? u.val p=some v:=fun u=>h u.val u.2
theorem held_some {S:World→Prop}{w:World}(h:S w):∃ u:Held S,w=u.val:=⟨⟨w,h⟩,rfl⟩
theorem held_ne {S:World→Prop}{w:World}(h:S w):Nonempty (Held S):=⟨⟨w,h⟩⟩
section
variable {P:Program} {l:List Oper} {C:World→Prop} {n:Nat} {Q:Exit→Act→World→Prop}
def treeB (l:List Oper)(n:Nat):Bool:=Region.noSelect l.toArray&&decide (n<l.length)&&Region.sinkB .any l.toArray n&&Region.chainB .any l.toArray n
def wpT (P:Program)(l:List Oper)(C:World→Prop)(n:Nat)(Q:Exit→Act→World→Prop)(f:Nat)(listed:Array Bool)(a:Act)(w:World):Prop:=
 treeB l n=true→HeadInv .any l.toArray n listed→C w →
  wpAnyM P .any l.toArray C loudB n (fun listed' a' w'=>Region.seqB .any l.toArray (l.length-n) n listed'=true∧wpList P l.toArray Q (l.drop n) a' w') f listed a w
theorem at_drop {i:Nat}{o:Oper}{rest:List Oper}(h:l.drop i=o::rest):l.toArray[i]? = some o:=by
 have:(l.drop i)[0]? = some o:=by rw [h];rfl
 simpa using this
theorem wpT_see (i:Nat){o:Oper}{rest:List Oper}{f:Nat}{listed:Array Bool}{a:Act}{w:World}(hi:l.drop i=o::rest)(hw:Region.wanted o (yielded l.toArray a.tmps)=true)
  (hB:(readB o&&(decide (i<n)&&((Region.ready .any l.toArray listed).contains i&&Region.free .any l.toArray listed i)))=true)
  (h:∀ K:Act→Prop,(∀ a,wpT P l C n Q f (listed.setIfInBounds i true) a w→K a)→o.quiet P a C K):wpT P l C n Q (f+1) listed a w:=by
 intro hT inv hC
 have hT':=hT
 simp only [treeB,Bool.and_eq_true,decide_eq_true_eq] at hT'
 obtain ⟨⟨⟨hsel,hn⟩,hs⟩,hc⟩:=hT'
 simp only [Bool.and_eq_true,decide_eq_true_eq] at hB
 obtain ⟨hr,hin,hrd,hf⟩:=hB
 have h0:=at_drop hi
 have hr':i ∈ Region.ready .any l.toArray listed:=by simpa using hrd
 have hm:=wpMix_see (T:=fun a w=>wpT P l C n Q f (listed.setIfInBounds i true) a w) (rest:=[]) hw hr (fun K hK=>h K hK)
 have hlo:loudB o=false:=by unfold readB at hr;rw [Bool.and_eq_true,Bool.not_eq_true'] at hr;exact hr.1
 obtain ⟨v,hy,hk⟩:=yieldsM_of (Or.inl hlo) (show mixO P l.toArray C loudB o (fun a w=>wpT P l C n Q f (listed.setIfInBounds i true) a w) a w from hm)
 exact wpAnyM_first h0 (Region.noSelect_spec hsel) hs hc (by simpa using hn) hin (fun listed' a' w' hL=>seqB_ready hL.1) f listed a w hC inv (Region.free_spec h0 hf) hr' (Or.inl hlo) hy (hk hT (inv.set hr' hin) hC)
theorem wpT_sea (i:Nat){o:Oper}{rest:List Oper}{f:Nat}{listed:Array Bool}{a:Act}{w:World}(h:∀ K:Act→Prop,(∀ a,wpT P l C n Q f (listed.setIfInBounds i true) a w→K a)→o.quiet P a C K)(hi:l.drop i=o::rest:=by rfl)(hw:Region.wanted o (yielded l.toArray a.tmps)=true:=by kernel_rfl)(hB:(readB o&&(decide (i<n)&&((Region.ready .any l.toArray listed).contains i&&Region.free .any l.toArray listed i)))=true:=by kernel_rfl):wpT P l C n Q (f+1) listed a w:=wpT_see i hi hw hB h
theorem mix_loud {T:Act→World→Prop}{o:Oper}{ops:Array Oper}{a:Act}{w:World}(hw:Region.wanted o (yielded ops a.tmps)=true)(hl:loudB o=true)
  (h:∀ K:Act→World→Prop,(∀ a w,C w→T a w→K a w)→wpList P ops (fun e a w=>e = .normal∧K a w) [o] a w):mixO P ops C loudB o T a w:=
 wpMix_loud (rest:=[]) hw hl h
theorem wpT_loud (i:Nat){o:Oper}{rest:List Oper}{f:Nat}{listed:Array Bool}{a:Act}{w:World}(hi:l.drop i=o::rest)(hw:Region.wanted o (yielded l.toArray a.tmps)=true)
  (hB:(loudB o&&(decide (i<n)&&decide (Region.ready .any l.toArray listed=[i])))=true)
  (h:∀ K:Act→World→Prop,(∀ a w,C w→wpT P l C n Q f (listed.setIfInBounds i true) a w→K a w)→wpList P l.toArray (fun e a w=>e = .normal∧K a w) [o] a w):wpT P l C n Q (f+1) listed a w:=by
 intro hT inv hC
 simp only [Bool.and_eq_true,decide_eq_true_eq] at hB
 obtain ⟨hlo,hin,hrd⟩:=hB
 refine ⟨by rw [hrd];simp,fun j hj=>?_⟩
 have hj':j=i:=by rw [hrd] at hj;simpa using hj
 subst hj'
 refine ⟨hin,?_⟩
 unfold mixOp
 simp only [at_drop hi]
 exact mixO_mono hC (fun a w hC' hk=>hk hT (inv.set hj hin) hC') (mix_loud hw hlo h)
theorem wpT_loud2 (i k:Nat){o o':Oper}{rest rest':List Oper}{f:Nat}{listed:Array Bool}{a:Act}{w:World}(hi:l.drop i=o::rest)(hk:l.drop k=o'::rest')(hw:Region.wanted o (yielded l.toArray a.tmps)=true)(hw':Region.wanted o' (yielded l.toArray a.tmps)=true)
  (hB:(loudB o&&(loudB o'&&(decide (i<n)&&(decide (k<n)&&decide (Region.ready .any l.toArray listed=[i,k])))))=true)
  (h:∀ K:Act→World→Prop,(∀ a w,C w→wpT P l C n Q f (listed.setIfInBounds i true) a w→K a w)→wpList P l.toArray (fun e a w=>e = .normal∧K a w) [o] a w)
  (h':∀ K:Act→World→Prop,(∀ a w,C w→wpT P l C n Q f (listed.setIfInBounds k true) a w→K a w)→wpList P l.toArray (fun e a w=>e = .normal∧K a w) [o'] a w):wpT P l C n Q (f+1) listed a w:=by
 intro hT inv hC
 simp only [Bool.and_eq_true,decide_eq_true_eq] at hB
 obtain ⟨hlo,hlo',hin,hkn,hrd⟩:=hB
 refine ⟨by rw [hrd];simp,fun j hj=>?_⟩
 have hj':j=i∨j=k:=by rw [hrd] at hj;simpa using hj
 rcases hj' with hj' | hj'
 ·subst hj'
  refine ⟨hin,?_⟩
  unfold mixOp
  simp only [at_drop hi]
  exact mixO_mono hC (fun a w hC' hk=>hk hT (inv.set hj hin) hC') (mix_loud hw hlo h)
 ·subst hj'
  refine ⟨hkn,?_⟩
  unfold mixOp
  simp only [at_drop hk]
  exact mixO_mono hC (fun a w hC' hk=>hk hT (inv.set hj hkn) hC') (mix_loud hw' hlo' h')
theorem wpT_done {listed:Array Bool}{a:Act}{w:World}(hB:Region.seqB .any l.toArray (l.length-n) n listed=true)(h:wpList P l.toArray Q (l.drop n) a w):wpT P l C n Q 0 listed a w:=
 fun _ _ _=>⟨hB,h⟩
theorem wp_region_tree {id:Nat}{a:Act}{w:World}(C:World→Prop)(n:Nat)(hm:P.follows .mixedOrders=true)(hB:treeB l n=true)(hC:C w.drew)
  (h:wpT P l C n Q n (Array.replicate l.length false) a w.drew):(Code.region id l.toArray true).wp P Q a w:=by
 have hB':=hB
 simp only [treeB,Bool.and_eq_true,decide_eq_true_eq] at hB'
 obtain ⟨⟨⟨hsel,hn⟩,hs⟩,hc⟩:=hB'
 have hdl:(l.drop n).length=l.length-n:=by simp
 have inv0:HeadInv .any l.toArray n (Array.replicate l.length false):=
  ⟨by simp,fun j oj _ hl=>(by rw [getD_replicate_false] at hl;cases hl),fun t _ ht=>getD_in (by simpa using ht) (getD_replicate_false _ _)⟩
 have H:=h hB inv0 hC
 refine wp_region_any hm ?_
 have:=wpAny_of_mix (Q:=Q) (g:=l.length-n) (fun listed a' w' hL=>by
  have:=wpAny_of_seq (md:=.any) (Q':=Q) (l.drop n) n listed a' w' (fun j=>by simp [List.getElem?_drop]) (by rw [hdl];exact hL.1) hL.2
  rwa [hdl] at this) _ _ _ _ hC H
 rw [show n+(l.length-n)=l.toArray.size by simp;omega] at this
 simpa using this
end
end Go.Proofs.YtmkdgnmmebldgaaGreatDoor
