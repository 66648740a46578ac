import Derived.Test.YtmkdgnmmebldgaaGreatDoorPt34
import Derived.Test.YtmkdgnmmebldgaaGreatDoorPt35
set_option maxRecDepth 100000
set_option maxHeartbeats 8000000
namespace Go.Proofs.YtmkdgnmmebldgaaGreatDoor
open Go.RowKit Go.Deep
def LiesOk (js:List MJoint)(lies:List MLie):Prop:=(∀ l ∈ lies,∃ (j:Nat) (hj:j<js.length),l.piece=j∧js[j].kind=3∧(l.side=1∨l.side=2))∧(lies.map MEnd.piece).Nodup
theorem evs_lies {ps:List MPiece}{js:List MJoint}{ss:List MPiece}(R:Right ps js ss):∀ (n i:Nat) (pre:List MStep) (s:MStep) (lies:List MLie) (crosses:List Int) (pos:Int),WalkOk ps js ss i pre s lies crosses pos→∀ q ∈ evs ps js ss n (pathOf i (pre++[s]) lies crosses) pos,LiesOk js q.lies
 | 0,_,_,_,_,_,_,_=>fun q hq=>by cases hq
 | n+1,i,pre,s,lies,crosses,pos,ok=>by
  intro q hq
  have h0:LiesOk js lies:=⟨ok.lv,ok.ld⟩
  by_cases hb:0≤nextB ss s.piece s.side pos ss.length
  ·rw [evs_signal hb] at hq
   have:q=endP i (nextB ss s.piece s.side pos ss.length) (pre++[s]) lies crosses:=by simpa using hq
   rw [this];exact h0
  by_cases hr:s ∈ pre
  ·rw [evs_round hb hr] at hq
   have:q=pathOf i (pre++[s]) lies crosses:=by simpa using hq
   rw [this];exact h0
  by_cases hk:kindE js (spotE js (aheadE s)).1=1
  ·rw [evs_buffer hb hr hk] at hq
   have:q=endP i (-1) (pre++[s]) lies crosses:=by simpa using hq
   rw [this];exact h0
  rw [evs_on hb hr hk] at hq
  rcases List.mem_cons.1 hq with hq | hq
  ·rw [hq];exact h0
  ·unfold kidsF at hq
   obtain ⟨t,ht,hq⟩:=List.mem_flatMap.1 hq
   have hv:=aheadE_valid ok.sv
   have hacr:=R.across hv ht
   obtain ⟨j,k,hsp,hse⟩:=R.spot hv
   obtain ⟨_,hj,hkl,_⟩:=spotF_some hsp
   simp only [Nat.sub_zero] at hj hkl
   rw [hse] at hq ht hacr hk
   dsimp only at hq ht hacr hk
   have hkd:=R.kind j hj
   have hnext:=fun (lies':List MLie) (crosses':List Int) (hl:LiesOk js lies') (hc:crosses'.length≤pre.length+1)=>WalkOk.next R ok hr hacr (lies':=lies') (crosses':=crosses') hl.1 hl.2 hc
   unfold kidF at hq
   rw [kindE_at hj] at hk
   have hcl:=ok.cl
   have h4:js[j].kind=2∨js[j].kind=3∨js[j].kind=4:=by omega
   rcases h4 with h4 | h4 | h4
   ·rw [over_plain (by rw [kindE_at hj];exact h4)] at hq
    exact evs_lies R n i _ _ _ _ _ (hnext _ _ h0 (by omega)) q hq
   ·by_cases ha:lies.any (fun l=>l.piece==(j:Int))=true
    ·have hz:=lieF_any ok.lv ha
     by_cases hl:lieF lies j=(max k t:Nat)
     ·rw [over_same (by rw [kindE_at hj];exact h4) hl hz] at hq
      exact evs_lies R n i _ _ _ _ _ (hnext _ _ h0 (by omega)) q hq
     ·rw [over_other (by rw [kindE_at hj];exact h4) hl hz] at hq
      cases hq
    ·rw [over_new (by rw [kindE_at hj];exact h4) (lieF_not ha)] at hq
     rw [kindE_at hj,h4] at ht
     have hm:((max k t:Nat):Int)=1∨((max k t:Nat):Int)=2:=by
      unfold beyondF at ht
      rw [if_neg (by omega),if_pos rfl] at ht
      have hk3:k<3:=by have:=hkd.2.2;omega
      by_cases hk0:k=0
      ·rw [if_pos hk0] at ht
       have:t=1∨t=2:=by simpa using ht
       omega
      ·rw [if_neg hk0] at ht
       have:t=0:=by simpa using ht
       omega
     exact evs_lies R n i _ _ _ _ _ (hnext _ _ ⟨lies_push ok.lv hj h4 hm,lies_pushd ok.ld ha⟩ (by omega)) q hq
   ·rw [over_cross (by rw [kindE_at hj];exact h4)] at hq
    exact evs_lies R n i _ _ _ _ _ (hnext _ _ h0 (by simp;omega)) q hq
theorem allEvs_lies {ps:List MPiece}{js:List MJoint}{ss:List MPiece}(R:Right ps js ss):∀ (m:Nat),m≤ss.length→∀ q ∈ allEvs ps js ss m,LiesOk js q.lies
 | 0,_=>fun q hq=>by cases hq
 | m+1,hm=>by
  intro q hq
  have hm':m<ss.length:=by omega
  have h:allEvs ps js ss (m+1)=allEvs ps js ss m++(match ss[m]? with | none=>[] | some s=>evs ps js ss (depthR ps) (beginP m s) s.speed):=rfl
  rw [h,List.getElem?_eq_getElem hm'] at hq
  rcases List.mem_append.1 hq with hq | hq
  ·exact allEvs_lies R m (by omega) q hq
  ·exact evs_lies R (depthR ps) m [] ⟨ss[m].len,ss[m].brake⟩ [] [] ss[m].speed (WalkOk.begin R hm') q hq
theorem wf_small {x:Int}(h0 : -1000000≤x)(h1:x≤1000000):(Lit.int .i64 x).wf=true:=by
 have e1:IntKind.i64.min = -9223372036854775808:=by decide
 have e2:IntKind.i64.max=9223372036854775807:=by decide
 simp only [Lit.wf,e1,e2]
 simp
 omega
def FlankOk (f:MFlank):Prop := -10≤f.of∧f.of≤1000 ∧ -10≤f.lie∧f.lie≤10
theorem spotE_range {ps:List MPiece}{js:List MJoint}{ss:List MPiece}(R:Right ps js ss)(e:MEnd):(spotE js e).1≤120∧(spotE js e).2≤4:=by
 unfold spotE
 cases h:spotF js e 0 with
 | none=>simp
 | some p =>
  obtain ⟨j,k⟩:=p
  obtain ⟨_,hj,hk,_⟩:=spotF_some h
  simp only [Nat.sub_zero] at hj hk
  have:=R.kind j hj
  have:=R.nj
  simp
  omega
theorem lookF_ok {ps:List MPiece}{js:List MJoint}{ss:List MPiece}(R:Right ps js ss)(lies:List MLie)(pl:Int):∀ (n:Nat) (st:List MEnd × List MFlank) (e:MEnd),(∀ f ∈ st.2,FlankOk f)→∀ f ∈ (lookF js ss lies pl n st e).2,FlankOk f
 | 0,st,e,h=>h
 | n+1,st,e,h=>by
  have hadd:∀ (x:MFlank),FlankOk x→∀ f ∈ st.2++[x],FlankOk f:=fun x hx f hf=>by
   rcases List.mem_append.1 hf with hf | hf
   ·exact h f hf
   ·have:f=x:=by simpa using hf
    rw [this];exact hx
  have hsp:=spotE_range R (farE e)
  simp only [lookF]
  generalize hwy:(if e.side=0 then (-1:Int) else 1)=wy
  split
  ·exact h
  ·split
   ·refine hadd _ ⟨?_,?_,by show (-10:Int)≤0;omega,by show (0:Int)≤10;omega⟩
    ·rename_i hg
     show -10≤guardB ss e.piece wy ss.length
     omega
    ·have:=R.ns
     rcases guardB_range ss e.piece wy ss.length (Nat.le_refl _) with h1 | ⟨b,hb,_,h1,_⟩
     ·show guardB ss e.piece wy ss.length≤1000
      rw [h1];omega
     ·show guardB ss e.piece wy ss.length≤1000
      rw [h1];omega
   ·split
    ·exact hadd _ ⟨by show -10≤(((spotE js (farE e)).1:Nat):Int);omega,by show (((spotE js (farE e)).1:Nat):Int)≤1000;omega,by show (-10:Int)≤0;omega,by show (0:Int)≤10;omega⟩
    ·split
     ·split
      ·exact hadd _ ⟨by show -10≤(((spotE js (farE e)).1:Nat):Int);omega,by show (((spotE js (farE e)).1:Nat):Int)≤1000;omega,by show (-10:Int)≤0;omega,by show (0:Int)≤10;omega⟩
      ·exact hadd _ ⟨by show -10≤(((spotE js (farE e)).1:Nat):Int);omega,by show (((spotE js (farE e)).1:Nat):Int)≤1000;omega,by show (-10:Int)≤3-(((spotE js (farE e)).2:Nat):Int);omega,by show 3-(((spotE js (farE e)).2:Nat):Int)≤10;omega⟩
     ·have hfold:∀ (L:List Nat) (s:List MEnd × List MFlank),(∀ f ∈ s.2,FlankOk f)→∀ f ∈ (L.foldl (fun s t=>lookF js ss lies pl n s (endE js (spotE js (farE e)).1 t)) s).2,FlankOk f:=by
       intro L
       induction L with
       | nil=>exact fun s hs=>hs
       | cons t r ih=>exact fun s hs=>ih _ (lookF_ok R lies pl n s _ hs)
      exact hfold _ _ h
theorem flanksF_ok {ps:List MPiece}{js:List MJoint}{ss:List MPiece}(R:Right ps js ss)(lies:List MLie):∀ (L:List MLie),∀ f ∈ flanksF ps js ss lies L,FlankOk f
 | []=>fun f hf=>by cases hf
 | l::r=>fun f hf=>by
  rcases List.mem_append.1 hf with hf | hf
  ·exact lookF_ok R lies l.piece _ ([],[]) _ (fun f hf=>by cases hf) f hf
  ·exact flanksF_ok R lies r f hf
def PartOk (p:MPart):Prop:=0≤p.lo∧p.lo≤p.hi∧p.hi≤10000000
theorem lenI_range {ps:List MPiece}{js:List MJoint}{ss:List MPiece}(R:Right ps js ss)(p:Int):0≤lenI ps p∧lenI ps p≤10000000:=by
 unfold lenI
 cases h:ps[p.toNat]? with
 | none=>simp
 | some x =>
  obtain ⟨hi,rfl⟩:=List.getElem?_eq_some_iff.1 h
  have:=R.plen _ hi
  simp
  omega
theorem endAt_small {ps:List MPiece}{js:List MJoint}{ss:List MPiece}(R:Right ps js ss)(e:MEnd):0≤endAt ps e∧endAt ps e≤10000000:=by
 unfold endAt
 split
 ·omega
 ·exact lenI_range R _
theorem sigAt_small {ps:List MPiece}{js:List MJoint}{ss:List MPiece}(R:Right ps js ss)(b:Int):0≤sigAt ss b∧sigAt ss b≤10000000:=by
 unfold sigAt
 cases h:ss[b.toNat]? with
 | none=>simp
 | some x =>
  obtain ⟨hi,rfl⟩:=List.getElem?_eq_some_iff.1 h
  obtain ⟨p,hp,_,_,h1,h2⟩:=R.sig _ hi
  have:=R.plen p hp
  simp
  omega
theorem partI_ok {p a b:Int}(ha:0≤a∧a≤10000000)(hb:0≤b∧b≤10000000):PartOk (partI p a b):=by
 unfold partI PartOk
 refine ⟨?_,?_,?_⟩ <;> simp only <;> omega
theorem partsF_ok {ps:List MPiece}{js:List MJoint}{ss:List MPiece}(R:Right ps js ss)(q:MPath):∀ p ∈ partsF ps ss q,PartOk p:=by
 intro p hp
 unfold partsF at hp
 rcases List.mem_append.1 hp with hp | hp
 ·have hfull:∀ (a:Int),(0≤a∧a≤10000000)→∀ (L:List MStep),∀ p ∈ fullParts ps a L,PartOk p:=by
   intro a ha L p hp
   cases L with
   | nil=>cases hp
   | cons s r =>
    rcases List.mem_cons.1 hp with hp | hp
    ·rw [hp];exact partI_ok ha (endAt_small R _)
    ·obtain ⟨x,_,rfl⟩:=List.mem_map.1 hp
     exact partI_ok (endAt_small R _) (endAt_small R _)
  exact hfull _ (sigAt_small R _) _ p hp
 ·have e:=List.mem_singleton.1 hp
  rw [e]
  refine partI_ok ?_ ?_
  ·split
   ·exact sigAt_small R _
   ·exact endAt_small R _
  ·split
   ·exact sigAt_small R _
   ·exact endAt_small R _
structure RtOk (r:MRoute):Prop where
 short:ShortN r
 wf:WfR r
 some_:r.parts≠[]
 parts:∀ p ∈ r.parts,PartOk p
theorem routesF_ok (ps:List MPiece)(js:List MJoint)(ss:List MPiece)(over:Int):(routesF ps js ss over).length≤300∧∀ r ∈ routesF ps js ss over,RtOk r:=by
 unfold routesF
 split
 ·rename_i hc
  have R:Right ps js ss:=right_of hc.1
  refine ⟨by rw [List.length_map];exact hc.2.2.2.2,fun r hr=>?_⟩
  obtain ⟨q,hq,rfl⟩:=List.mem_map.1 hr
  have hq':q ∈ allEvs ps js ss ss.length:=(List.mem_filter.1 hq).1
  have hl:=allEvs_lies R ss.length (Nat.le_refl _) q hq'
  have hfew:=lies_few hl.1 hl.2
  have hnj:=R.nj
  have hnp:=R.np
  have hval:∀ l ∈ q.lies,ValidE ps (endE js l.piece.toNat (3-l.side).toNat):=fun l hlm=>by
   obtain ⟨j,hj,h1,h2,h3⟩:=hl.1 l hlm
   have hk:=R.kind j hj
   have hlt:(3-l.side).toNat<js[j].ends.length:=by have:=hk.2.2;omega
   rw [h1,Int.toNat_natCast,endE_at hj hlt]
   exact R.ends j hj _ hlt
  have hfl:=flanksF_len R q.lies q.lies hval
  have hfl2:2*ps.length*q.lies.length≤200*120:=Nat.mul_le_mul (by omega) (by omega)
  refine ⟨⟨?_,?_⟩,⟨?_,?_⟩,?_,?_⟩
  ·show q.lies.length≤1048576
   omega
  ·show (flanksF ps js ss q.lies q.lies).length≤1048576
   omega
  ·intro i hi
   obtain ⟨j,hj,h1,_,h3⟩:=hl.1 _ (List.getElem_mem hi)
   exact ⟨wf_small (by rw [h1];omega) (by rw [h1];omega),wf_small (by omega) (by omega)⟩
  ·intro i hi
   have hf:=flanksF_ok R q.lies q.lies _ (List.getElem_mem (show i<(flanksF ps js ss q.lies q.lies).length from hi))
   exact ⟨wf_small (by have:=hf.1;show -1000000≤(flanksF ps js ss q.lies q.lies)[i].of;omega) (by have:=hf.2.1;show (flanksF ps js ss q.lies q.lies)[i].of≤1000000;omega),wf_small (by have:=hf.2.2.1;show -1000000≤(flanksF ps js ss q.lies q.lies)[i].lie;omega) (by have:=hf.2.2.2;show (flanksF ps js ss q.lies q.lies)[i].lie≤1000000;omega)⟩
  ·show partsF ps ss q≠[]
   unfold partsF
   simp
  ·exact partsF_ok R q
 ·exact ⟨Nat.zero_le _,fun r hr=>by cases hr⟩
end Go.Proofs.YtmkdgnmmebldgaaGreatDoor
