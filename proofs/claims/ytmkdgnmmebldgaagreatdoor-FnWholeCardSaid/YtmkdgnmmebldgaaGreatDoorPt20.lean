import Derived.Test.YtmkdgnmmebldgaaGreatDoorPt15
import Derived.Test.YtmkdgnmmebldgaaGreatDoorPt10
import Derived.Test.YtmkdgnmmebldgaaGreatDoorPt19
import Derived.Test.YtmkdgnmmebldgaaGreatDoorPt18
set_option maxRecDepth 100000
set_option maxHeartbeats 8000000
namespace Go.Proofs.YtmkdgnmmebldgaaGreatDoor
open Go.RowKit
def Fits (t m:Nat)(E:List MPath):Prop:=t+E.length≤20000∧m+(endedL E).length≤300
structure Went (mk:MPath→MRoute)(t:Nat)(rs:List MRoute)(E:List MPath)(t':Nat)(rs':List MRoute):Prop where
 le:t≤t'
 ge:rs.length≤rs'.length
 fit:Fits t rs.length E→t'=t+E.length∧rs'=rs++(endedL E).map mk
 past:¬ Fits t rs.length E→20000<t'∨300<rs'.length
theorem endedL_app (A B:List MPath):endedL (A++B)=endedL A++endedL B:=by simp [endedL]
theorem Went.stay {mk:MPath→MRoute}{t:Nat}{rs:List MRoute}:Went mk t rs [] t rs:=
 ⟨Nat.le_refl _,Nat.le_refl _,fun _=>by simp [endedL],fun h2=>by
  by_cases h1:20000<t
  ·exact Or.inl h1
  ·refine Or.inr ?_
   refine Nat.lt_of_not_le (fun h3=>h2 ⟨by simp;omega,by simpa [endedL] using h3⟩)⟩
theorem Went.app {mk:MPath→MRoute}{t t1 t2:Nat}{rs rs1 rs2:List MRoute}{A B:List MPath}(h:Went mk t rs A t1 rs1)(k:Went mk t1 rs1 B t2 rs2):Went mk t rs (A++B) t2 rs2:=by
 refine ⟨Nat.le_trans h.le k.le,Nat.le_trans h.ge k.ge,?_,?_⟩
 ·rintro ⟨f1,f2⟩
  rw [List.length_append] at f1
  rw [endedL_app,List.length_append] at f2
  obtain ⟨e1,e2⟩:=h.fit ⟨by omega,by omega⟩
  have hl:rs1.length=rs.length+(endedL A).length:=by rw [e2];simp
  obtain ⟨e3,e4⟩:=k.fit ⟨by omega,by omega⟩
  refine ⟨by rw [List.length_append];omega,?_⟩
  rw [e4,e2,endedL_app,List.map_append,List.append_assoc]
 ·intro hn
  by_cases f:Fits t rs.length A
  ·obtain ⟨e1,e2⟩:=h.fit f
   have hl:rs1.length=rs.length+(endedL A).length:=by rw [e2];simp
   refine k.past (fun g=>hn ?_)
   obtain ⟨g1,g2⟩:=g
   refine ⟨by rw [List.length_append];omega,?_⟩
   rw [endedL_app,List.length_append]
   omega
  ·have h1:=h.le
   have h2:=k.le
   have h3:=k.ge
   rcases h.past f with h4 | h4
   ·exact Or.inl (by omega)
   ·exact Or.inr (by omega)
theorem Went.one {mk:MPath→MRoute}{t:Nat}{rs:List MRoute}{p:MPath}(hp:p.ended=false):Went mk t rs [p] (t+1) rs:=by
 have e:endedL [p]=[]:=by simp [endedL,hp]
 refine ⟨by omega,Nat.le_refl _,fun _=>by simp [e],fun h=>?_⟩
 by_cases h1:20000<t+1
 ·exact Or.inl h1
 ·refine Or.inr (Nat.lt_of_not_le (fun h3=>h ⟨by simp;omega,by rw [e];simpa using h3⟩))
theorem Went.made {mk:MPath→MRoute}{t:Nat}{rs:List MRoute}{p:MPath}{r:MRoute}(hp:p.ended=true)(ht:t+1≤20000)(hr:r=mk p):Went mk t rs [p] (t+1) (rs++[r]):=by
 have e:endedL [p]=[p]:=by simp [endedL,hp]
 subst hr
 refine ⟨by omega,by simp,fun _=>by simp [e],fun h=>?_⟩
 refine Or.inr (Nat.lt_of_not_le (fun h3=>h ⟨by simpa using ht,by rw [e];simpa using h3⟩))
theorem Went.out {mk:MPath→MRoute}{t:Nat}{rs:List MRoute}{p:MPath}{E:List MPath}(h:20000<t+1∨300<rs.length):Went mk t rs (p::E) (t+1) rs:=by
 refine ⟨by omega,Nat.le_refl _,?_,fun _=>h⟩
 rintro ⟨f1,f2⟩
 rw [List.length_cons] at f1
 omega
structure WalkOk (ps:List MPiece)(js:List MJoint)(ss:List MPiece)(i:Nat)(pre:List MStep)(s:MStep)(lies:List MLie)(crosses:List Int)(pos:Int):Prop where
 start:i<ss.length
 sv:ValidS ps s
 pv:∀ x ∈ pre,ValidS ps x
 nd:pre.Nodup
 lv:∀ l ∈ lies,∃ (j:Nat) (hj:j<js.length),l.piece=j∧js[j].kind=3∧(l.side=1∨l.side=2)
 ld:(lies.map MEnd.piece).Nodup
 cl:crosses.length≤pre.length
 place:pos=if pre.length=0 then sigAt ss i else endAt ps (farE (aheadE s))
 p0:0≤pos
 p1:pos≤lenI ps s.piece
theorem aheadE_inj {ps:List MPiece}{a b:MStep}(ha:ValidS ps a)(hb:ValidS ps b)(h:aheadE a=aheadE b):a=b:=by
 obtain ⟨p,hp,e1,e2⟩:=ha
 obtain ⟨q,hq,f1,f2⟩:=hb
 cases a
 cases b
 simp only at e1 e2 f1 f2
 subst e1 f1
 rcases e2 with rfl | rfl <;> rcases f2 with rfl | rfl <;> simp [aheadE] at h ⊢ <;> omega
theorem steps_few {ps:List MPiece}{L:List MStep}(hd:L.Nodup)(hv:∀ x ∈ L,ValidS ps x):L.length≤2*ps.length:=by
 have h:Seen ps (L.map aheadE):=by
  refine ⟨?_,?_⟩
  ·unfold List.Nodup
   rw [List.pairwise_map]
   exact List.Pairwise.imp_of_mem (fun ha hb hne e=>hne (aheadE_inj (hv _ ha) (hv _ hb) e)) hd
  ·intro e he
   obtain ⟨x,hx,rfl⟩:=List.mem_map.1 he
   exact aheadE_valid (hv x hx)
 simpa using h.few
theorem lies_few {js:List MJoint}{lies:List MLie}(hl:∀ l ∈ lies,∃ (j:Nat) (hj:j<js.length),l.piece=j∧js[j].kind=3∧(l.side=1∨l.side=2))(hd:(lies.map MEnd.piece).Nodup):lies.length≤js.length:=by
 have h1:(lies.map (fun l=>l.piece.toNat)).Nodup:=by
  unfold List.Nodup at hd ⊢
  rw [List.pairwise_map] at hd ⊢
  refine List.Pairwise.imp_of_mem (fun ha hb hne e=>hne ?_) hd
  obtain ⟨j,_,e1,_⟩:=hl _ ha
  obtain ⟨k,_,e2,_⟩:=hl _ hb
  rw [e1,e2] at e ⊢
  rw [Int.toNat_natCast,Int.toNat_natCast] at e
  rw [e]
 have:=nats_few js.length h1 (fun x hx=>by
  obtain ⟨l,hl',rfl⟩:=List.mem_map.1 hx
  obtain ⟨j,hj,e1,_⟩:=hl l hl'
  rw [e1]
  simpa using hj)
 simpa using this
theorem lies_like:∀ {lies:List MLie},(lies.map MEnd.piece).Nodup→∀ a ∈ lies,∀ b ∈ lies,a.piece=b.piece→a.side=b.side
 | [],_=>fun a ha=>absurd ha (by simp)
 | x::r,hd=>by
  rw [List.map_cons,List.nodup_cons] at hd
  intro a ha b hb e
  rcases List.mem_cons.1 ha with ha' | ha' <;> rcases List.mem_cons.1 hb with hb' | hb'
  ·rw [ha',hb']
  ·exact absurd (List.mem_map.2 ⟨b,hb',by rw [← e,ha']⟩) hd.1
  ·exact absurd (List.mem_map.2 ⟨a,ha',by rw [e,hb']⟩) hd.1
  ·exact lies_like hd.2 a ha' b hb' e
theorem fullParts_snoc (ps:List MPiece)(a:Int)(pre:List MStep)(s:MStep):fullParts ps a (pre++[s])=fullParts ps a pre++[partI s.piece (if pre.length=0 then a else endAt ps (farE (aheadE s))) (endAt ps (aheadE s))]:=by
 cases pre with
 | nil=>rfl
 | cons x r=>simp [fullParts]
theorem fullParts_len (ps:List MPiece)(a:Int)(pre:List MStep):(fullParts ps a pre).length=pre.length:=by
 cases pre with
 | nil=>rfl
 | cons x r=>simp [fullParts]
theorem specPart_farI {ps:List MPiece}{p way a b:Int}(hw:way=1∨way = -1)(h:(a-b)*way≤0):specPart ps p way (farI ps p a way) (farI ps p b way)=partI p a b:=by
 rcases hw with rfl | rfl
 ·simp only [specPart,farI,partI,if_true]
  rw [if_neg (by omega),Int.min_eq_left (by omega),Int.max_eq_right (by omega)]
 ·simp only [specPart,farI,partI]
  rw [if_pos trivial,if_neg (by omega),if_neg (by omega),Int.min_eq_right (by omega),Int.max_eq_left (by omega)]
  congr 1 <;> omega
theorem farI_end {ps:List MPiece}{p:Nat}{way:Int}(hp:p<ps.length)(hw:way=1∨way = -1):farI ps p (endAt ps (aheadE ⟨p,way⟩)) way=ps[p].len:=by
 rcases hw with rfl | rfl
 ·simp [farI,endAt,aheadE,lenI_at hp]
 ·simp [farI,endAt,aheadE,lenI_at hp]
theorem farI_begin {ps:List MPiece}{e:MEnd}(h:ValidE ps e):farI ps (stepFromE e).piece (endAt ps e) (stepFromE e).side=0∧endAt ps (farE (aheadE (stepFromE e)))=endAt ps e:=by
 obtain ⟨p,hp,e1,e2⟩:=h
 cases e
 simp only at e1 e2
 subst e1
 rcases e2 with rfl | rfl <;> simp [farI,endAt,aheadE,farE,stepFromE]
theorem endAt_range {ps:List MPiece}{js:List MJoint}{ss:List MPiece}(R:Right ps js ss){e:MEnd}(h:ValidE ps e):0≤endAt ps e∧endAt ps e≤lenI ps e.piece:=by
 obtain ⟨p,hp,e1,e2⟩:=h
 have:=R.plen p hp
 have h1:=lenI_at hp
 unfold endAt
 rw [e1,h1]
 split <;> omega
theorem stepFromE_piece (e:MEnd):(stepFromE e).piece=e.piece:=by
 unfold stepFromE
 split <;> rfl
theorem WalkOk.next {ps:List MPiece}{js:List MJoint}{ss:List MPiece}(R:Right ps js ss){i:Nat}{pre:List MStep}{s:MStep}{lies lies':List MLie}{crosses crosses':List Int}{pos:Int}(h:WalkOk ps js ss i pre s lies crosses pos)(hr:s ∉ pre)
  {e:MEnd} (he:ValidE ps e) (hl:∀ l ∈ lies',∃ (j:Nat) (hj:j<js.length),l.piece=j∧js[j].kind=3∧(l.side=1∨l.side=2)) (hd:(lies'.map MEnd.piece).Nodup) (hc:crosses'.length≤pre.length+1) :
  WalkOk ps js ss i (pre++[s]) (stepFromE e) lies' crosses' (endAt ps e):=by
 refine ⟨h.start,stepFromE_valid he,?_,?_,hl,hd,by simpa using hc,?_,(endAt_range R he).1,by rw [stepFromE_piece];exact (endAt_range R he).2⟩
 ·intro x hx
  rcases List.mem_append.1 hx with hx | hx
  ·exact h.pv x hx
  ·have:x=s:=by simpa using hx
   rw [this];exact h.sv
 ·refine List.nodup_append.2 ⟨h.nd,by simp,?_⟩
  intro a ha b hb
  have:b=s:=by simpa using hb
  subst this
  rintro rfl
  exact hr ha
 ·rw [if_neg (by simp),(farI_begin he).2]
theorem WalkOk.few {ps:List MPiece}{js:List MJoint}{ss:List MPiece}{i:Nat}{pre:List MStep}{s:MStep}{lies:List MLie}{crosses:List Int}{pos:Int}(h:WalkOk ps js ss i pre s lies crosses pos):pre.length≤2*ps.length:=steps_few h.nd h.pv
theorem WalkOk.begin {ps:List MPiece}{js:List MJoint}{ss:List MPiece}(R:Right ps js ss){i:Nat}(hi:i<ss.length):WalkOk ps js ss i [] ⟨ss[i].len,ss[i].brake⟩ [] [] ss[i].speed:=by
 obtain ⟨p,hp,e1,e2,e3,e4⟩:=R.sig i hi
 refine ⟨hi,⟨p,hp,e1,e2⟩,by simp,by simp,by simp,by simp,by simp,?_,by omega,?_⟩
 ·rw [if_pos (by simp),sigAt_at hi]
 ·show ss[i].speed≤lenI ps ss[i].len
  rw [e1,lenI_at hp]
  omega
def pathOf (i:Nat)(L:List MStep)(lies:List MLie)(crosses:List Int):MPath:=⟨i,0,false,L,lies,crosses⟩
def endP (i:Nat)(stop:Int)(L:List MStep)(lies:List MLie)(crosses:List Int):MPath:=⟨i,stop,true,L,lies,crosses⟩
def kidF (ps:List MPiece)(js:List MJoint)(ss:List MPiece)(n:Nat)(p:MPath)(j k t:Nat):List MPath:=
 match overP js p j k t with
 | none=>[]
 | some q=>evs ps js ss n q (endAt ps (endE js j t))
def kidsF (ps:List MPiece)(js:List MJoint)(ss:List MPiece)(n:Nat)(p:MPath)(j k:Nat)(L:List Nat):List MPath:=L.flatMap (kidF ps js ss n p j k)
theorem kidsF_snoc (ps:List MPiece)(js:List MJoint)(ss:List MPiece)(n:Nat)(p:MPath)(j k:Nat)(L:List Nat)(t:Nat):kidsF ps js ss n p j k (L++[t])=kidsF ps js ss n p j k L++kidF ps js ss n p j k t:=by
 simp [kidsF]
theorem sameS_iff {a b:MStep}:sameS a b=true↔a=b:=by
 cases a
 cases b
 simp [sameS]
theorem lastS_snoc (i:Nat)(pre:List MStep)(s:MStep)(lies:List MLie)(crosses:List Int):lastS (pathOf i (pre++[s]) lies crosses)=s:=by simp [lastS,pathOf]
theorem roundB_snoc (i:Nat)(pre:List MStep)(s:MStep)(lies:List MLie)(crosses:List Int):roundB (pathOf i (pre++[s]) lies crosses)=true↔s ∈ pre:=by
 unfold roundB
 rw [lastS_snoc]
 show ((pre++[s]).dropLast.any fun x=>sameS x s)=true↔s ∈ pre
 rw [List.dropLast_concat,List.any_eq_true]
 constructor
 ·rintro ⟨x,hx,h⟩
  rw [← sameS_iff.1 h];exact hx
 ·intro h
  exact ⟨s,h,sameS_iff.2 rfl⟩
section
variable {ps:List MPiece} {js:List MJoint} {ss:List MPiece} {n i:Nat} {pre:List MStep} {s:MStep} {lies:List MLie} {crosses:List Int} {pos:Int}
theorem evs_signal (h:0≤nextB ss s.piece s.side pos ss.length):evs ps js ss (n+1) (pathOf i (pre++[s]) lies crosses) pos=[endP i (nextB ss s.piece s.side pos ss.length) (pre++[s]) lies crosses]:=by
 unfold evs stopP
 rw [lastS_snoc,if_pos h]
 simp [pathOf,endP]
theorem evs_round (h:¬ 0≤nextB ss s.piece s.side pos ss.length)(hr:s ∈ pre):evs ps js ss (n+1) (pathOf i (pre++[s]) lies crosses) pos=[pathOf i (pre++[s]) lies crosses]:=by
 have hb:=(roundB_snoc i pre s lies crosses).2 hr
 unfold evs stopP
 rw [lastS_snoc,if_neg h,hb]
 simp [pathOf]
theorem evs_buffer (h:¬ 0≤nextB ss s.piece s.side pos ss.length)(hr:s ∉ pre)(hk:kindE js (spotE js (aheadE s)).1=1):evs ps js ss (n+1) (pathOf i (pre++[s]) lies crosses) pos=[endP i (-1) (pre++[s]) lies crosses]:=by
 have hb:roundB (pathOf i (pre++[s]) lies crosses)=false:=by
  cases e:roundB (pathOf i (pre++[s]) lies crosses) with
  | false=>rfl
  | true=>exact absurd ((roundB_snoc i pre s lies crosses).1 e) hr
 unfold evs stopP
 rw [lastS_snoc,if_neg h,hb,hk]
 simp [pathOf,endP]
theorem evs_on (h:¬ 0≤nextB ss s.piece s.side pos ss.length)(hr:s ∉ pre)(hk:kindE js (spotE js (aheadE s)).1≠1):evs ps js ss (n+1) (pathOf i (pre++[s]) lies crosses) pos=pathOf i (pre++[s]) lies crosses::kidsF ps js ss n (pathOf i (pre++[s]) lies crosses) (spotE js (aheadE s)).1 (spotE js (aheadE s)).2 (beyondF (kindE js (spotE js (aheadE s)).1) (spotE js (aheadE s)).2):=by
 have hb:roundB (pathOf i (pre++[s]) lies crosses)=false:=by
  cases e:roundB (pathOf i (pre++[s]) lies crosses) with
  | false=>rfl
  | true=>exact absurd ((roundB_snoc i pre s lies crosses).1 e) hr
 have hst:stopP js ss (pathOf i (pre++[s]) lies crosses) pos=pathOf i (pre++[s]) lies crosses:=by
  unfold stopP
  rw [lastS_snoc,if_neg h,if_neg (fun e=>hk e.1)]
  rfl
 have hst2:(pathOf i (pre++[s]) lies crosses).ended=false:=rfl
 rw [evs,hst,lastS_snoc,hb,hst2,if_neg (by simp)]
 rfl
theorem evs_ne (m:Nat)(p:MPath):∃ q E,evs ps js ss (m+1) p pos=q::E:=⟨_,_,rfl⟩
theorem over_plain {j k t:Nat}{L:List MStep}(h:kindE js j=2):overP js (pathOf i L lies crosses) j k t=some (pathOf i (L++[stepFromE (endE js j t)]) lies crosses):=by
 unfold overP
 rw [h]
 simp [pathOf]
theorem over_cross {j k t:Nat}{L:List MStep}(h:kindE js j=4):overP js (pathOf i L lies crosses) j k t=some (pathOf i (L++[stepFromE (endE js j t)]) lies (crosses++[(j:Int)])):=by
 unfold overP
 rw [h]
 simp [pathOf]
theorem over_same {j k t:Nat}{L:List MStep}(h:kindE js j=3)(hl:lieF lies j=(max k t:Nat))(hz:lieF lies j≠0):overP js (pathOf i L lies crosses) j k t=some (pathOf i (L++[stepFromE (endE js j t)]) lies crosses):=by
 show (if kindE js j=4 then _ else if kindE js j=3 then (if lieF lies j≠0 then (if lieF lies j=(max k t:Nat) then _ else _) else _) else _)=_
 rw [if_neg (by omega),if_pos h,if_pos hz,if_pos hl]
 rfl
theorem over_other {j k t:Nat}{L:List MStep}(h:kindE js j=3)(hl:lieF lies j≠(max k t:Nat))(hz:lieF lies j≠0):overP js (pathOf i L lies crosses) j k t=none:=by
 show (if kindE js j=4 then _ else if kindE js j=3 then (if lieF lies j≠0 then (if lieF lies j=(max k t:Nat) then _ else _) else _) else _)=_
 rw [if_neg (by omega),if_pos h,if_pos hz,if_neg hl]
theorem over_new {j k t:Nat}{L:List MStep}(h:kindE js j=3)(hz:lieF lies j=0):overP js (pathOf i L lies crosses) j k t=some (pathOf i (L++[stepFromE (endE js j t)]) (lies++[⟨j,(max k t:Nat)⟩]) crosses):=by
 show (if kindE js j=4 then _ else if kindE js j=3 then (if lieF lies j≠0 then (if lieF lies j=(max k t:Nat) then _ else _) else _) else _)=_
 rw [if_neg (by omega),if_pos h,if_neg (fun e=>e hz)]
 rfl
theorem partsF_end {stop:Int}(h:WalkOk ps js ss i pre s lies crosses pos):partsF ps ss (endP i stop (pre++[s]) lies crosses)=fullParts ps (sigAt ss i) pre++[partI s.piece pos (if 0≤stop then sigAt ss stop else endAt ps (aheadE s))]:=by
 unfold partsF
 have h1:lastS (endP i stop (pre++[s]) lies crosses)=s:=by simp [lastS,endP]
 rw [h1]
 simp only [endP,List.dropLast_concat,List.length_append,List.length_singleton]
 rw [h.place]
 congr 3
 by_cases hp:pre.length=0
 ·rw [if_pos (by omega),if_pos hp]
 ·rw [if_neg (by omega),if_neg hp]
theorem fullParts_on (h:WalkOk ps js ss i pre s lies crosses pos):fullParts ps (sigAt ss i) pre++[partI s.piece pos (endAt ps (aheadE s))]=fullParts ps (sigAt ss i) (pre++[s]):=by
 rw [fullParts_snoc,h.place]
theorem lieF_any (hl:∀ l ∈ lies,∃ (j:Nat) (hj:j<js.length),l.piece=j∧js[j].kind=3∧(l.side=1∨l.side=2)){j:Int}(h:lies.any (fun l=>l.piece==j)=true):lieF lies j≠0:=by
 unfold lieF
 cases hf:lies.find? (fun l=>l.piece==j) with
 | none =>
  obtain ⟨x,hx,h2⟩:=List.any_eq_true.1 h
  exact absurd h2 (by simpa using List.find?_eq_none.1 hf x hx)
 | some l =>
  obtain ⟨_,_,_,_,h3⟩:=hl l (List.mem_of_find?_eq_some hf)
  show l.side≠0
  omega
theorem lieF_not {j:Int}(h:¬ lies.any (fun l=>l.piece==j)=true):lieF lies j=0:=by
 unfold lieF
 cases hf:lies.find? (fun l=>l.piece==j) with
 | none=>rfl
 | some l=>exact absurd (List.any_eq_true.2 ⟨l,List.mem_of_find?_eq_some hf,List.find?_some hf⟩) h
theorem lies_push (hl:∀ l ∈ lies,∃ (j:Nat) (hj:j<js.length),l.piece=j∧js[j].kind=3∧(l.side=1∨l.side=2)){j:Nat}{x:Int}(hj:j<js.length)(hk:js[j].kind=3)(hx:x=1∨x=2):∀ l ∈ lies++[(⟨(j:Int),x⟩:MLie)],∃ (j:Nat) (hj:j<js.length),l.piece=j∧js[j].kind=3∧(l.side=1∨l.side=2):=by
 intro l hm
 rcases List.mem_append.1 hm with hm | hm
 ·exact hl l hm
 ·have:l=(⟨(j:Int),x⟩:MLie):=by simpa using hm
  subst this
  exact ⟨j,hj,rfl,hk,hx⟩
theorem lies_pushd (hd:(lies.map MEnd.piece).Nodup){j:Int}{x:Int}(h:¬ lies.any (fun l=>l.piece==j)=true):((lies++[(⟨j,x⟩:MLie)]).map MEnd.piece).Nodup:=by
 rw [List.map_append]
 refine List.nodup_append.2 ⟨hd,by simp,?_⟩
 intro a ha b hb
 have:b=j:=by simpa using hb
 subst this
 rintro rfl
 obtain ⟨l,hl,e⟩:=List.mem_map.1 ha
 exact h (List.any_eq_true.2 ⟨l,hl,by simpa using e⟩)
end
end Go.Proofs.YtmkdgnmmebldgaaGreatDoor
namespace Go.Proofs.YtmkdgnmmebldgaaGreatDoor
open Go.RowKit Go.Deep
structure PAddr where
 a0:Option Addr
 c0:Nat
 a1:Option Addr
 c1:Nat
 a2:Option Addr
 c2:Nat
structure PListsAt (w:World)(d:PAddr)(p:MPath):Prop where
 steps:EndsAt w d.a0 p.steps
 lies:EndsAt w d.a1 p.lies
 crosses:NumsAt w d.a2 p.crosses
 nil0:d.a0=none→p.steps.length=0∧d.c0=0
 nil1:d.a1=none→p.lies.length=0∧d.c1=0
 nil2:d.a2=none→p.crosses.length=0∧d.c2=0
 cap:p.steps.length≤d.c0
theorem PListsAt.below {w w':World}{d:PAddr}{p:MPath}(h:PListsAt w d p)(hb:Below w.heap.size w w'):PListsAt w' d p:=
 ⟨h.steps.below hb,h.lies.below hb,h.crosses.below hb,h.nil0,h.nil1,h.nil2,h.cap⟩
def pathV (d:PAddr)(p:MPath):Value:=.agg #[.int .i64 p.start,.int .i64 p.stop,.bool p.ended,.slice d.a0 p.steps.length d.c0,.slice d.a1 p.lies.length d.c1,.slice d.a2 p.crosses.length d.c2]
theorem lie_any (j a b:Nat)(kd:Value)(w:World):
  Calls Tryz.prog 176 #[.agg #[.int .i64 j,.int .i64 a,.int .i64 b,kd]] w fun e w'=>e = .returned (endV ⟨j,(max a b:Nat)⟩)∧Below w.heap.size w w':=by
 have hm:((a:Int)<b∧((max a b:Nat):Int)=b)∨((a:Int)=b∧((max a b:Nat):Int)=b)∨((b:Int)<a∧((max a b:Nat):Int)=a):=by omega
 obtain ⟨m,hm0⟩:∃ m,((max a b:Nat):Int)=m:=⟨_,rfl⟩
 rw [hm0] at hm ⊢
 clear hm0
 rcases hm with ⟨h1,rfl⟩ | ⟨h1,rfl⟩ | ⟨h1,rfl⟩
 ·go_enter Tryz.func176,Tryz.ntmps176
  go_wp2_with fail
  exact bodyPost_ret (v:=.agg #[.int .i64 (j:Int),.int .i64 (b:Int)]) (by simp [results,Tryz.results176,go_sem]) rfl ⟨rfl,blo⟩
 ·rw [h1]
  go_enter Tryz.func176,Tryz.ntmps176
  go_wp2_with fail
  exact bodyPost_ret (v:=.agg #[.int .i64 (j:Int),.int .i64 (b:Int)]) (by simp [results,Tryz.results176,go_sem]) rfl ⟨rfl,blo⟩
 ·go_enter Tryz.func176,Tryz.ntmps176
  go_wp2_with fail
  exact bodyPost_ret (v:=.agg #[.int .i64 (j:Int),.int .i64 (a:Int)]) (by simp [results,Tryz.results176,go_sem]) rfl ⟨rfl,blo⟩
theorem lastS_get {p:MPath}(h:0<p.steps.length):p.steps[p.steps.length-1]'(by omega)=lastS p:=by
 unfold lastS
 rw [List.getLastD_eq_getLast?,List.getLast?_eq_getElem?,List.getElem?_eq_getElem (by omega)]
 rfl
theorem last_any (d:PAddr)(p:MPath)(w:World)(h:Hid (PListsAt w d p))(h0:0<p.steps.length):
  Calls Tryz.prog 134 #[pathV d p] w fun e w'=>e = .returned (endV (lastS p))∧Below w.heap.size w w':=by
 have hl:=h.out.steps.1
 unfold maxLen at hl
 obtain ⟨b1,off1,ha,hpc⟩:=h.out.steps.2.resolve_left (fun h=>by rw [h] at h0;exact absurd h0 (by simp))
 obtain ⟨c0,c1⟩:=hpc (p.steps.length-1) (by omega)
 rw [lastS_get h0] at c0 c1
 obtain ⟨n,hn⟩:∃ n,p.steps.length=n+1:=⟨p.steps.length-1,by omega⟩
 unfold pathV
 rw [ha,hn]
 rw [hn] at c0 c1 hl
 have e:n+1-1=n:=by omega
 rw [e] at c0 c1
 obtain ⟨ls,hls⟩:∃ ls,lastS p=ls:=⟨_,rfl⟩
 rw [hls] at c0 c1 ⊢
 have hz:=cellLt c0
 dsimp only at hz
 clear hpc e
 go_enter Tryz.func134,Tryz.ntmps134
 go_wp2_with fail
 exact bodyPost_ret (v:=.agg #[.int .i64 ls.piece,.int .i64 ls.side]) (by simp [results,Tryz.results134,go_sem]) rfl ⟨rfl,blo⟩
theorem round_all (p:MPath):(p.steps.take (p.steps.length-1)).any (fun s=>sameS s (lastS p))=roundB p:=by
 unfold roundB
 rw [List.dropLast_eq_take]
theorem isRound_any (d:PAddr)(p:MPath)(w:World)(h:Hid (PListsAt w d p))(h0:0<p.steps.length):
  Calls Tryz.prog 132 #[pathV d p] w fun e w'=>e = .returned (.bool (roundB p))∧Below w.heap.size w w':=by
 have hl:=h.out.steps.1
 unfold maxLen at hl
 obtain ⟨b1,off1,ha,hpc⟩:=h.out.steps.2.resolve_left (fun h=>by rw [h] at h0;exact absurd h0 (by simp))
 have HPC:=hidP hpc
 have HLA:Hid (∀ u:World,Below w.heap.size w u→Calls Tryz.prog 134 #[.agg #[.int .i64 p.start,.int .i64 p.stop,.bool p.ended,.slice (some ⟨b1,off1,none⟩) p.steps.length d.c0,.slice d.a1 p.lies.length d.c1,.slice d.a2 p.crosses.length d.c2]] u fun e w'=>e = .returned (.agg #[.int .i64 (lastS p).piece,.int .i64 (lastS p).side])∧Below u.heap.size u w'):=fun u hu=>by
  have hh:=last_any d p u (h.out.below hu) h0
  unfold pathV at hh
  rw [ha] at hh
  exact hh
 obtain ⟨ls,hls⟩:∃ ls,lastS p=ls:=⟨_,rfl⟩
 have HLS:=hidP hls
 rw [hls] at HLA
 obtain ⟨n,hn⟩:∃ n,p.steps.length=n+1:=⟨p.steps.length-1,by omega⟩
 have HN:=hidP hn
 unfold pathV
 rw [ha,hn]
 rw [hn] at HLA hl
 have hcap:=h.out.cap
 rw [hn] at hcap
 clear hpc ha hls hn
 go_enter Tryz.func132,Tryz.ntmps132
 go_wp2_with fail
 generalize hW:World.alloc w _=W
 have hbW:Below w.heap.size w W:=by rw [← hW];exact blo
 have x0:W.cell? ⟨w.heap.size,0,none⟩=some (.int .i64 p.start):=by rw [← hW];simp [go_sem]
 have x1:W.cell? ⟨w.heap.size,1,none⟩=some (.int .i64 p.stop):=by rw [← hW];simp [go_sem]
 have x2:W.cell? ⟨w.heap.size,2,none⟩=some (.bool p.ended):=by rw [← hW];simp [go_sem]
 have x3:W.cell? ⟨w.heap.size,3,none⟩=some (.slice (some ⟨b1,off1,none⟩) (n+1) d.c0):=by rw [← hW];simp [go_sem]
 have x4:W.cell? ⟨w.heap.size,4,none⟩=some (.slice d.a1 p.lies.length d.c1):=by rw [← hW];simp [go_sem]
 have x5:W.cell? ⟨w.heap.size,5,none⟩=some (.slice d.a2 p.crosses.length d.c2):=by rw [← hW];simp [go_sem]
 have HBW:=hidP hbW
 have hzW:w.heap.size<W.heap.size:=by rw [← hW];simp
 clear hW hbW
 go_loopw [13] (fun i wr => ∃ k:Nat,k≤n∧i = .int .i64 k∧Hid ((p.steps.take k).any (fun s=>sameS s ls)=false)∧Below W.heap.size W wr) (fun i _=>n-(intOf i).toNat)
 case atStart=>exact ⟨0,Nat.zero_le _,rfl,rfl,Below.refl _ _⟩
 case round =>
  obtain ⟨k,hk,rfl,HQ,hb⟩:=hrel
  have hbs:=hb.size
  have hbF:=HBW.out.trans (hb.mono HBW.out.size)
  by_cases hk':k<n
  ·have hkl:k<p.steps.length:=by rw [HN.out];omega
   obtain ⟨c0,c1⟩:=(HPC.out.below hbF) k hkl
   have HTK:Hid ((p.steps.take (k+1)).any (fun s=>sameS s ls)=sameS p.steps[k] ls):=by
    unfold Hid
    rw [List.take_succ_eq_append_getElem hkl,List.any_append,HQ.out]
    simp
   have HHIT:Hid (sameS p.steps[k] ls=true→roundB p=true):=fun hs=>by
    rw [← round_all,List.any_eq_true]
    refine ⟨p.steps[k],?_,by rw [HLS.out];exact hs⟩
    rw [HN.out]
    exact List.mem_take_iff_getElem.2 ⟨k,by simp;omega,rfl⟩
   generalize p.steps[k]=sk at c0 c1 HTK HHIT
   have y0:=cell_later hb x0
   have y1:=cell_later hb x1
   have y2:=cell_later hb x2
   have y3:=cell_later hb x3
   have y4:=cell_later hb x4
   have y5:=cell_later hb x5
   have hki:(k:Int)<n:=by omega
   have hzc:=cellLt c0
   dsimp only at hzc
   clear HQ
   go_upto_region 4 with fail
   generalize hWa:World.alloc wr _=Wa
   have hba:Below wr.heap.size wr Wa:=by rw [← hWa];exact (Below.refl _ _).alloc (Nat.le_refl _) _
   have z0:Wa.cell? ⟨wr.heap.size,0,none⟩=some (.int .i64 sk.piece):=by rw [← hWa];simp [go_sem]
   have z1:Wa.cell? ⟨wr.heap.size,1,none⟩=some (.int .i64 sk.side):=by rw [← hWa];simp [go_sem]
   have HBa:=hidP (hb.trans (hba.mono hbs))
   have HBF:=hidP (hbF.trans (hba.mono (by omega)))
   have m0:=Later.cell (cell_later hba y0)
   have m1:=Later.cell (cell_later hba y1)
   have m2:=Later.cell (cell_later hba y2)
   have m3:=Later.cell (cell_later hba y3)
   have m4:=Later.cell (cell_later hba y4)
   have m5:=Later.cell (cell_later hba y5)
   have l0:=Later.cell z0
   have l1:=Later.cell z1
   have hne:=later_some Wa
   clear hWa hba y0 y1 y2 y3 y4 y5 z0 z1 c0 c1 hb hbF
   have hcs:(sameS sk ls=false∧(sk.piece==ls.piece)=false)∨(sameS sk ls=false∧(sk.piece==ls.piece)=true∧(sk.side==ls.side)=false)∨(sameS sk ls=true∧(sk.piece==ls.piece)=true∧(sk.side==ls.side)=true):=by
    unfold sameS
    cases (sk.piece==ls.piece) <;> cases (sk.side==ls.side) <;> simp
   rcases hcs with ⟨hs,g1⟩ | ⟨hs,g1,g2⟩ | ⟨hs,g1,g2⟩
   ·have HT2:Hid ((p.steps.take (k+1)).any (fun s=>sameS s ls)=false):=HTK.out.trans hs
    clear hs
    refine wp_region_later (by kernel_rfl) (by kernel_rfl) ?_
    iterate 2 (go_big_quiet_step (fail))
    go_big_quiet_step ((rename_i u;exact Later.calls u (HLA.out u.val (HBF.out.trans (u.2.mono HBF.out.size)))))
    iterate 1 (go_big_quiet_step (fail))
    refine wpQuiet_nil ?_
    intro _ hw'
    obtain ⟨u,hw''⟩:=hw'
    subst hw''
    have hbu:=u.2
    generalize u.val=w6 at hbu ⊢
    have HB6:=hidP (HBa.out.trans (hbu.mono HBa.out.size))
    clear m0 m1 m2 m3 m4 m5 l0 l1 hne hbu
    go_wp2_with fail
    go_roundw
    case rel=>exact ⟨k+1,by omega,by go_num,HT2,HB6.out⟩
    case measure=>simp [intOf];omega
   ·have HT2:Hid ((p.steps.take (k+1)).any (fun s=>sameS s ls)=false):=HTK.out.trans hs
    clear hs
    refine wp_region_later (by kernel_rfl) (by kernel_rfl) ?_
    iterate 2 (go_big_quiet_step (fail))
    go_big_quiet_step ((rename_i u;exact Later.calls u (HLA.out u.val (HBF.out.trans (u.2.mono HBF.out.size)))))
    iterate 1 (go_big_quiet_step (fail))
    refine wpQuiet_nil ?_
    intro _ hw'
    obtain ⟨u,hw''⟩:=hw'
    subst hw''
    have hbu:=u.2
    generalize u.val=w6 at hbu ⊢
    have HB6:=hidP (HBa.out.trans (hbu.mono HBa.out.size))
    clear m0 m1 m2 m3 m4 m5 l0 l1 hne hbu
    go_wp2_with fail
    go_roundw
    case rel=>exact ⟨k+1,by omega,by go_num,HT2,HB6.out⟩
    case measure=>simp [intOf];omega
   ·have HT2:Hid (roundB p=true):=HHIT.out hs
    clear hs
    refine wp_region_later (by kernel_rfl) (by kernel_rfl) ?_
    iterate 2 (go_big_quiet_step (fail))
    go_big_quiet_step ((rename_i u;exact Later.calls u (HLA.out u.val (HBF.out.trans (u.2.mono HBF.out.size)))))
    iterate 1 (go_big_quiet_step (fail))
    refine wpQuiet_nil ?_
    intro _ hw'
    obtain ⟨u,hw''⟩:=hw'
    subst hw''
    have hbu:=u.2
    generalize u.val=w6 at hbu ⊢
    have HB6:=hidP (HBF.out.trans (hbu.mono HBF.out.size))
    clear m0 m1 m2 m3 m4 m5 l0 l1 hne hbu
    go_wp2_with fail
    go_ret
    rw [HT2.out]
    exact ⟨rfl,HB6.out⟩
  ·have hkn:k=n:=by omega
   have HT2:Hid (roundB p=false):=by
    unfold Hid
    have h:=HQ.out
    rw [hkn] at h
    rw [← round_all,HN.out,HLS.out]
    exact h
   have hki:¬ (k:Int)<n:=by omega
   clear HQ hkn
   go_wp2_with fail
   go_ret
   rw [HT2.out]
   exact ⟨rfl,hbF⟩
def partsK (ps:List MPiece)(ss:List MPiece)(p:MPath)(k:Nat):List MPart:=if k<p.steps.length then fullParts ps (sigAt ss p.start) (p.steps.take k) else partsF ps ss p
theorem partsK_zero (ps:List MPiece)(ss:List MPiece)(p:MPath)(h:0<p.steps.length):partsK ps ss p 0=[]:=by
 unfold partsK
 rw [if_pos h]
 rfl
theorem partsK_all (ps:List MPiece)(ss:List MPiece)(p:MPath):partsK ps ss p p.steps.length=partsF ps ss p:=by
 unfold partsK
 rw [if_neg (by omega)]
theorem partsK_len (ps:List MPiece)(ss:List MPiece)(p:MPath){k:Nat}(h0:0<p.steps.length)(h:k≤p.steps.length):(partsK ps ss p k).length=k:=by
 unfold partsK
 split
 ·rw [fullParts_len,List.length_take]
  omega
 ·unfold partsF
  rw [List.length_append,fullParts_len,List.length_dropLast]
  simp
  omega
theorem partsK_next (ps:List MPiece)(ss:List MPiece)(p:MPath){k:Nat}(h:k<p.steps.length):partsK ps ss p (k+1)=partsK ps ss p k++[partI p.steps[k].piece (if k=0 then sigAt ss p.start else endAt ps (farE (aheadE p.steps[k]))) (if k=p.steps.length-1∧0≤p.stop then sigAt ss p.stop else endAt ps (aheadE p.steps[k]))]:=by
 by_cases hl:k+1<p.steps.length
 ·unfold partsK
  rw [if_pos hl,if_pos h,List.take_succ_eq_append_getElem h,fullParts_snoc,if_neg (show ¬ (k=p.steps.length-1∧0≤p.stop) from fun e=>by omega)]
  have e:(p.steps.take k).length=k:=by rw [List.length_take];omega
  rw [e]
 ·have hk:k=p.steps.length-1:=by omega
  have hlast:p.steps[k]=lastS p:=by
   have:=lastS_get (p:=p) (by omega)
   rw [← this]
   congr 1
  unfold partsK
  rw [if_neg hl,if_pos h]
  unfold partsF
  rw [hlast,List.dropLast_eq_take,← hk]
  congr 3
  ·by_cases h1:k=0
   ·rw [if_pos (by omega),if_pos h1]
   ·rw [if_neg (by omega),if_neg h1]
  ·by_cases h1:0≤p.stop
   ·rw [if_pos h1,if_pos ⟨rfl,h1⟩]
   ·rw [if_neg h1,if_neg (fun e=>h1 e.2)]
theorem partsOf_any (K:Nat)(pa ja sa:Option Addr)(pc jc sc:Nat)(ps:List MPiece)(js:List MJoint)(ss:List MPiece)(d:PAddr)(p:MPath)(w:World)(hT:Hid (TNet w K pa ja sa pc jc sc ps js ss))(h:Hid (PListsAt w d p))(h0:0<p.steps.length)(h1:p.steps.length≤1000)(hv:Hid (∀ s ∈ p.steps,ValidS ps s))(hs:Hid (∃ i:Nat,i<ss.length∧p.start=i))(he:Hid (p.stop = -1∨∃ i:Nat,i<ss.length∧p.stop=i)):
  Calls Tryz.prog 83 #[.pointer (some ⟨K,0,none⟩),pathV d p] w fun e w' => ∃ x y,e = .returned (.slice x (partsF ps ss p).length y)∧w'.ownsRow w.heap.size 48 3 (.slice x (partsF ps ss p).length y) (partsF ps ss p).length (flatP (partsF ps ss p))∧Below w.heap.size w w':=by
 obtain ⟨b1,off1,ha,hpc⟩:=h.out.steps.2.resolve_left (fun h=>by rw [h] at h0;exact absurd h0 (by simp))
 have HPC:=hidP hpc
 obtain ⟨n,hn⟩:∃ n,p.steps.length=n:=⟨_,rfl⟩
 have HN:=hidP hn
 unfold pathV
 rw [ha,hn]
 rw [hn] at h0 h1
 have c2:=hT.out.c2
 have hK:=cellLt c2
 dsimp only at hK
 clear hpc ha hn
 go_enter Tryz.func83,Tryz.ntmps83
 go_wp2_with fail
 generalize hW:World.alloc w _=W
 have hbW:Below w.heap.size w W:=by rw [← hW];exact blo
 have x0:W.cell? ⟨w.heap.size,0,none⟩=some (.int .i64 p.start):=by rw [← hW];simp [go_sem]
 have x1:W.cell? ⟨w.heap.size,1,none⟩=some (.int .i64 p.stop):=by rw [← hW];simp [go_sem]
 have x3:W.cell? ⟨w.heap.size,3,none⟩=some (.slice (some ⟨b1,off1,none⟩) n d.c0):=by rw [← hW];simp [go_sem]
 have HBW:=hidP hbW
 have hzW:w.heap.size<W.heap.size:=by rw [← hW];simp
 clear hW hbW c2
 go_loopw [5,13] (fun ve i wr => ∃ (k:Nat) (x:Option Addr) (y:Nat),k≤n∧i = .int .i64 k∧ve = .slice x k y∧Hid (wr.ownsRow W.heap.size 48 3 (.slice x k y) k (flatP (partsK ps ss p k)))∧Below W.heap.size W wr) (fun _ i _=>n-(intOf i).toNat)
 case atStart=>exact ⟨0,none,0,Nat.zero_le _,rfl,rfl,by unfold Hid;rw [partsK_zero _ _ _ (by rw [HN.out];exact h0)];exact World.ownsRow_nil _ _ _ _,Below.refl _ _⟩
 case round =>
  obtain ⟨k,x,y,hk,rfl,rfl,HO,hb⟩:=hrel
  have hbs:=hb.size
  have hbF:=HBW.out.trans (hb.mono HBW.out.size)
  by_cases hk':k<n
  ·have hkl:k<p.steps.length:=by rw [HN.out];exact hk'
   obtain ⟨c0,c1⟩:=(HPC.out.below hbF) k hkl
   obtain ⟨q,hq,hq1,hq2⟩:=hv.out _ (List.getElem_mem hkl)
   have HNX:=hidP (partsK_next ps ss p hkl)
   generalize p.steps[k]=sk at c0 c1 hq1 hq2 HNX
   obtain ⟨sp,sw⟩:=sk
   dsimp only at c0 c1 hq1 hq2 HNX
   subst hq1
   have y0:=cell_later hb x0
   have y1:=cell_later hb x1
   have y3:=cell_later hb x3
   have hki:(k:Int)<n:=by omega
   have hzc:=cellLt c0
   dsimp only at hzc
   have HBF:=hidP hbF
   obtain ⟨es,hes⟩:∃ es,aheadE ⟨(q:Int),sw⟩=⟨(q:Int),es⟩∧0≤es∧es≤1:=by
    unfold aheadE
    split
    ·exact ⟨1,rfl,by omega,by omega⟩
    ·exact ⟨0,rfl,by omega,by omega⟩
   have HAH:Hid (∀ u:World,Calls Tryz.prog 114 #[.agg #[.int .i64 (q:Int),.int .i64 sw]] u fun e w'=>e = .returned (.agg #[.int .i64 (q:Int),.int .i64 es])∧Below u.heap.size u w'):=fun u=>by
    have hh:=ahead_any (q:Int) sw u
    rw [hes.1] at hh
    exact hh
   have HFE:Hid (∀ u:World,Calls Tryz.prog 113 #[.agg #[.int .i64 (q:Int),.int .i64 es]] u fun e w'=>e = .returned (.agg #[.int .i64 (q:Int),.int .i64 (1-es)])∧Below u.heap.size u w'):=fun u=>farEnd_any (q:Int) es u hes.2.1 hes.2.2
   obtain ⟨A1,hA1⟩:∃ A,endAt ps ⟨(q:Int),1-es⟩=A:=⟨_,rfl⟩
   obtain ⟨A2,hA2⟩:∃ A,endAt ps ⟨(q:Int),es⟩=A:=⟨_,rfl⟩
   have HNX2:Hid (partsK ps ss p (k+1)=partsK ps ss p k++[partI q (if k=0 then sigAt ss p.start else A1) (if k=n-1∧0≤p.stop then sigAt ss p.stop else A2)]):=by
    unfold Hid
    rw [HNX.out,hes.1,HN.out]
    unfold farE
    rw [hA1,hA2]
   go_upto_region 5 with fail
   generalize hWa:World.alloc wr _=Wa
   have hba:Below wr.heap.size wr Wa:=by rw [← hWa];exact (Below.refl _ _).alloc (Nat.le_refl _) _
   have z0:Wa.cell? ⟨wr.heap.size,0,none⟩=some (.int .i64 (q:Int)):=by rw [← hWa];simp [go_sem]
   have z1:Wa.cell? ⟨wr.heap.size,1,none⟩=some (.int .i64 sw):=by rw [← hWa];simp [go_sem]
   have HBa:=hidP (hb.trans (hba.mono hbs))
   have HBFa:=hidP (hbF.trans (hba.mono (by omega)))
   have HAT1:Hid (∀ u:World,Below Wa.heap.size Wa u→Calls Tryz.prog 112 #[.pointer (some ⟨K,0,none⟩),.agg #[.int .i64 (q:Int),.int .i64 (1-es)]] u fun e w'=>e = .returned (.int .i64 A1)∧Below u.heap.size u w'):=fun u hu=>by
    rw [← hA1]
    exact at_any K pa ja sa pc jc sc ps js ss q (1-es) u ((hT.out.below HBFa.out).below hu) hq
   have HAT2:Hid (∀ u:World,Below Wa.heap.size Wa u→Calls Tryz.prog 112 #[.pointer (some ⟨K,0,none⟩),.agg #[.int .i64 (q:Int),.int .i64 es]] u fun e w'=>e = .returned (.int .i64 A2)∧Below u.heap.size u w'):=fun u hu=>by
    rw [← hA2]
    exact at_any K pa ja sa pc jc sc ps js ss q es u ((hT.out.below HBFa.out).below hu) hq
   replace y0:=cell_later hba y0
   replace y1:=cell_later hba y1
   replace y3:=cell_later hba y3
   have HOa:=hidP (owns_below HO.out hba)
   have l0:=Later.cell z0
   have l1:=Later.cell z1
   have hne:=later_some Wa
   have hzz:=cellLt z0
   dsimp only at hzz
   clear hWa hba c0 c1 hb hbF HO HNX hes hA1 hA2
   refine wp_region_later (by kernel_rfl) (by kernel_rfl) ?_
   iterate 2 (go_big_quiet_step (fail))
   go_big_quiet_step ((rename_i u;exact Later.calls u (HAH.out u.val)))
   go_big_quiet_step ((rename_i u;exact Later.calls u (HFE.out u.val)))
   go_big_quiet_step ((rename_i u;exact Later.calls u (HAT1.out u.val u.2)))
   iterate 2 (go_big_quiet_step (fail))
   go_big_quiet_step ((rename_i u;exact Later.calls u (HAH.out u.val)))
   go_big_quiet_step ((rename_i u;exact Later.calls u (HAT2.out u.val u.2)))
   iterate 2 (go_big_quiet_step (fail))
   refine wpQuiet_nil ?_
   intro _ hw'
   obtain ⟨u,hw''⟩:=hw'
   subst hw''
   have hbu:=u.2
   generalize u.val=w6 at hbu ⊢
   replace y0:=cell_later hbu y0
   replace y1:=cell_later hbu y1
   replace y3:=cell_later hbu y3
   replace z0:=cell_later hbu z0
   have HO6:=hidP (owns_below HOa.out hbu)
   have HB6:=hidP (HBa.out.trans (hbu.mono HBa.out.size))
   have HBF6:=hidP (HBFa.out.trans (hbu.mono HBFa.out.size))
   have hz6:=hbu.size
   clear l0 l1 hne hbu HAH HFE HAT1 HAT2 z1 HOa HBa HBFa
   obtain ⟨i,hi,hpi⟩:=hs.out
   have hT6:=hT.out.below HBF6.out
   obtain ⟨bs,os,hsa,hpcs⟩:=hT6.S.2.2.resolve_left (nz hi)
   obtain ⟨_,_,s2,_⟩:=hpcs i hi
   have k2:=hT6.c2
   rw [hsa] at k2
   have HSI:Hid (sigAt ss p.start=ss[i].speed):=by unfold Hid;rw [hpi];exact sigAt_at hi
   rw [hpi] at y0
   generalize ss[i].speed=sv at s2 HSI
   have hzs:=cellLt s2
   dsimp only at hzs
   have hii:(i:Int)<ss.length:=by omega
   have HSA:=hidP hsa
   have HPI:=hidP hpi
   clear hpcs hT6 hsa hpi
   go_upto_if 28 with fail
   go_cut [8] (fun v wx=>v = .int .i64 (if k=0 then sigAt ss p.start else A1)∧Below w6.heap.size w6 wx)
   case first =>
    by_cases hk0:k=0
    ·have hkb:((k:Int)==0)=true:=by simp [hk0]
     have HV:Hid ((if k=0 then sigAt ss p.start else A1)=sv):=by unfold Hid;rw [if_pos hk0];exact HSI.out
     clear hk0
     go_wp2_with fail
     go_quiet (fail)
     go_wp2_with fail
     go_meet
     exact ⟨by rw [HV.out],blo⟩
    ·have hkb:((k:Int)==0)=false:=by simp;omega
     have HV:Hid ((if k=0 then sigAt ss p.start else A1)=A1):=by unfold Hid;rw [if_neg hk0]
     clear hk0
     go_wp2_with fail
     go_meet
     exact ⟨by rw [HV.out],Below.refl _ _⟩
   case rest =>
    obtain ⟨rfl,hbc⟩:=hcut
    generalize (if k=0 then sigAt ss p.start else A1)=st at HNX2 ⊢
    replace y1:=cell_later hbc y1
    replace y3:=cell_later hbc y3
    replace z0:=cell_later hbc z0
    replace k2:=cell_later hbc k2
    have HO7:=hidP (owns_below HO6.out hbc)
    have HB7:=hidP (HB6.out.trans (hbc.mono HB6.out.size))
    have HBF7:=hidP (HBF6.out.trans (hbc.mono HBF6.out.size))
    have hz7:=hbc.size
    clear hbc HO6 HB6 HBF6 s2 y0 HSI
    obtain ⟨m,hm⟩:∃ m,n=m+1:=⟨n-1,by omega⟩
    have HM:=hidP hm
    have hmi:(n:Int)-1=m:=by omega
    have hsv:Hid (0≤p.stop→∃ (i2:Nat) (h2:i2<ss.length),p.stop=i2∧sigAt ss p.stop=ss[i2].speed):=fun h0'=>by
     rcases he.out with h3 | ⟨i2,h3,h4⟩
     ·omega
     ·exact ⟨i2,h3,h4,by rw [h4];exact sigAt_at h3⟩
    clear hm
    go_upto_region 8 with fail
    go_cut [48] (fun v wx=>v = .bool (decide (k=n-1∧0≤p.stop))∧Below wc.heap.size wc wx)
    case first =>
     by_cases hkm:k=m
     ·have hkb:((k:Int)==(m:Int))=true:=by simp [hkm]
      by_cases hst0:0≤p.stop
      ·have HV:Hid (decide (k=n-1∧0≤p.stop)=true):=by
        have:=HM.out
        unfold Hid
        simp
        omega
       clear hkm
       go_wp2_with fail
       go_meet
       exact ⟨by rw [HV.out],blo⟩
      ·have HV:Hid (decide (k=n-1∧0≤p.stop)=false):=by
        unfold Hid
        simp
        omega
       have hst1:¬ 0≤p.stop:=hst0
       clear hkm
       go_wp2_with fail
       go_meet
       exact ⟨by rw [HV.out],blo⟩
     ·have hkb:((k:Int)==(m:Int))=false:=by simp;omega
      have HV:Hid (decide (k=n-1∧0≤p.stop)=false):=by
       have:=HM.out
       unfold Hid
       simp
       omega
      clear hkm
      go_wp2_with fail
      go_meet
      exact ⟨by rw [HV.out],blo⟩
    case rest =>
     obtain ⟨rfl,hbc⟩:=hcut
     replace y1:=cell_later hbc y1
     replace z0:=cell_later hbc z0
     replace k2:=cell_later hbc k2
     have HO8:=hidP (owns_below HO7.out hbc)
     have HB8:=hidP (HB7.out.trans (hbc.mono HB7.out.size))
     have HBF8:=hidP (HBF7.out.trans (hbc.mono HBF7.out.size))
     have hz8:=hbc.size
     clear hbc HO7 HB7 HBF7 y3
     generalize hdb:decide (k=n-1∧0≤p.stop)=db
     go_upto_if 48 with fail
     go_cut [9] (fun v wx=>v = .int .i64 (if k=n-1∧0≤p.stop then sigAt ss p.stop else A2)∧Below wc.heap.size wc wx)
     case first =>
      cases db with
      | true =>
       have hcc:=of_decide_eq_true hdb
       obtain ⟨i2,h2,hp2,hv2⟩:=hsv.out hcc.2
       have HV:Hid ((if k=n-1∧0≤p.stop then sigAt ss p.stop else A2)=ss[i2].speed):=by unfold Hid;rw [if_pos hcc];exact hv2
       have hT8:=hT.out.below HBF8.out
       obtain ⟨bs',os',hsa',hpcs⟩:=hT8.S.2.2.resolve_left (nz h2)
       obtain ⟨_,_,s2,_⟩:=hpcs i2 h2
       have hee:=HSA.out.symm.trans hsa'
       simp at hee
       obtain ⟨rfl,rfl⟩:=hee
       rw [hp2] at y1
       generalize ss[i2].speed=sv2 at s2 HV
       have hzs2:=cellLt s2
       dsimp only at hzs2
       have hii2:(i2:Int)<ss.length:=by omega
       clear hcc hdb hpcs hT8 hv2 hsa'
       go_wp2_with fail
       go_quiet (fail)
       go_wp2_with fail
       go_meet
       exact ⟨by rw [HV.out],blo⟩
      | false =>
       have HV:Hid ((if k=n-1∧0≤p.stop then sigAt ss p.stop else A2)=A2):=by unfold Hid;rw [if_neg (of_decide_eq_false hdb)]
       clear hdb
       go_wp2_with fail
       go_meet
       exact ⟨by rw [HV.out],Below.refl _ _⟩
     case rest =>
      obtain ⟨rfl,hbc⟩:=hcut
      generalize (if k=n-1∧0≤p.stop then sigAt ss p.stop else A2)=sp at HNX2 ⊢
      replace z0:=cell_later hbc z0
      have HO9:=hidP (owns_below HO8.out hbc)
      have HB9:=hidP (HB8.out.trans (hbc.mono HB8.out.size))
      have hz9:=hbc.size
      clear hbc HO8 HB8 HBF8 k2 hdb hsv y1
      obtain ⟨pt,hpt⟩:∃ pt,partI (q:Int) st sp=pt:=⟨_,rfl⟩
      have HPO:Hid (∀ u:World,Calls Tryz.prog 115 #[.int .i64 (q:Int),.int .i64 st,.int .i64 sp] u fun e w'=>e = .returned (partV pt)∧Below u.heap.size u w'):=fun u=>by rw [← hpt];exact partOf_any (q:Int) st sp u
      rw [hpt] at HNX2
      clear hpt
      go_wp2_with (first
       | (go_at_call 115;refine (HPO.out _).mono ?_;rintro e w2 ⟨rfl,hb2⟩;have HO10:=hidP (owns_below HO9.out hb2);have hb3:=HB9.out.trans (hb2.mono HB9.out.size);have hz10:=hb2.size;have hz11:=hb3.size;unfold partV;clear hb2 HO9 HB9)
       | (at_builtin;refine wpList_push rfl (.tmp 58) (.tmp 64) 41 rfl W.heap.size 48 _ 3 24 Tryz.underlying41 Tryz.infoPart rfl (by decide) (.slice x k y) k (flatP (partsK ps ss p k)) rfl HO10.out w2.heap.size rfl [.int .i64 pt.piece,.int .i64 pt.lo,.int .i64 pt.hi] rfl rfl (by simp [Value.oneCell']) (by unfold maxLen;omega) (by omega) (by omega) ?_;intro x' y' w3 ho3 hg3;rw [flatP_push,← HNX2.out] at ho3;have HO3:=hidP ho3;have hb4:=push_below hb3 HO10.out hg3 (by omega);clear ho3 hg3))
      go_roundw
      case rel=>exact ⟨k+1,x',y',by omega,by go_num,rfl,HO3,hb4⟩
      case measure=>simp [intOf];omega
  ·obtain rfl:k=n:=by omega
   have HNn:Hid ((partsF ps ss p).length=k):=by
    unfold Hid
    rw [← partsK_all,partsK_len _ _ _ (by rw [HN.out];exact h0) (Nat.le_refl _)]
    exact HN.out
   have HOe:Hid (wr.ownsRow w.heap.size 48 3 (.slice x k y) k (flatP (partsF ps ss p))):=by
    have:=owns_base HO.out (show w.heap.size≤W.heap.size by omega)
    rw [← HN.out,partsK_all,HN.out] at this
    exact this
   clear HO hb
   have hki:¬ (k:Int)<k:=by omega
   have HBe:=hidP hbF
   clear hbF
   go_wp2_with fail
   rw [HNn.out]
   exact bodyPost_ret (v:=.slice x k y) (by simp [results,Tryz.results83,go_sem]) rfl ⟨x,y,rfl,HOe.out,HBe.out⟩
end Go.Proofs.YtmkdgnmmebldgaaGreatDoor
