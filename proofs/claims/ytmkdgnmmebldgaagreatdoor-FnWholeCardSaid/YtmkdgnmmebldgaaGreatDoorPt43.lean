import Derived.Test.YtmkdgnmmebldgaaGreatDoorPt28
import Derived.Test.YtmkdgnmmebldgaaGreatDoorPt30
set_option maxRecDepth 100000
set_option maxHeartbeats 8000000
namespace Go.Proofs.YtmkdgnmmebldgaaGreatDoor
open Go.RowKit Go.Deep Go.Maps
theorem WalkOk.path {ps:List MPiece}{js:List MJoint}{ss:List MPiece}(R:Right ps js ss){i:Nat}{pre:List MStep}{s:MStep}{lies:List MLie}{crosses:List Int}{pos:Int}(h:WalkOk ps js ss i pre s lies crosses pos){stop:Int}(hst:stop = -1∨∃ k:Nat,k<ss.length∧stop=k):PathOk ps js ss (endP i stop (pre++[s]) lies crosses):=by
 have hf:=h.few
 have hnp:=R.np
 have hl:=lies_few h.lv h.ld
 have hnj:=R.nj
 have hc:=h.cl
 refine ⟨by simp [endP],by simp [endP];omega,?_,⟨i,h.start,rfl⟩,hst,h.lv,by simp [endP];omega,by simp [endP];omega⟩
 intro x hx
 rcases List.mem_append.1 hx with hx | hx
 ·exact h.pv x hx
 ·have:x=s:=by simpa using hx
  rw [this];exact h.sv
theorem evs_ok {ps:List MPiece}{js:List MJoint}{ss:List MPiece}(R:Right ps js ss):∀ (n i:Nat) (pre:List MStep) (s:MStep) (lies:List MLie) (crosses:List Int) (pos:Int),WalkOk ps js ss i pre s lies crosses pos→∀ q ∈ evs ps js ss n (pathOf i (pre++[s]) lies crosses) pos,q.ended=true→PathOk ps js ss q
 | 0,_,_,_,_,_,_,_,q,hq,_=>absurd hq (by simp [evs])
 | n+1,i,pre,s,lies,crosses,pos,h,q,hq,he=>by
  by_cases hb:0≤nextB ss s.piece s.side pos ss.length
  ·rw [evs_signal hb] at hq
   have hq':q=endP i (nextB ss s.piece s.side pos ss.length) (pre++[s]) lies crosses:=by simpa using hq
   rw [hq']
   rcases nextB_range ss s.piece s.side pos ss.length (Nat.le_refl _) with hr | ⟨b,hb2,_,hr,_⟩
   ·omega
   ·exact h.path R (Or.inr ⟨b,hb2,hr⟩)
  ·by_cases hr:s ∈ pre
   ·rw [evs_round hb hr] at hq
    have hq':q=pathOf i (pre++[s]) lies crosses:=by simpa using hq
    rw [hq'] at he
    cases he
   ·by_cases hk:kindE js (spotE js (aheadE s)).1=1
    ·rw [evs_buffer hb hr hk] at hq
     have hq':q=endP i (-1) (pre++[s]) lies crosses:=by simpa using hq
     rw [hq']
     exact h.path R (Or.inl rfl)
    ·rw [evs_on hb hr hk] at hq
     rcases List.mem_cons.1 hq with hq | hq
     ·rw [hq] at he
      cases he
     ·unfold kidsF at hq
      obtain ⟨t,ht,hq⟩:=List.mem_flatMap.1 hq
      obtain ⟨j,k,h1,h2⟩:=R.spot (aheadE_valid h.sv)
      obtain ⟨_,hj,hkk,_⟩:=spotF_some h1
      simp only [Nat.sub_zero] at hj hkk
      rw [h2] at ht hq
      unfold kidF at hq
      cases hov:overP js (pathOf i (pre++[s]) lies crosses) j k t with
      | none =>
       rw [hov] at hq
       cases hq
      | some q2 =>
       rw [hov] at hq
       obtain ⟨l2,c2,e2,w2⟩:=h.over R hr hj hkk ht hov
       rw [e2] at hq
       exact evs_ok R n i _ _ _ _ _ w2 q hq he
theorem allEvs_ok {ps:List MPiece}{js:List MJoint}{ss:List MPiece}(R:Right ps js ss):∀ (m:Nat),m≤ss.length→∀ q ∈ allEvs ps js ss m,q.ended=true→PathOk ps js ss q
 | 0,_,q,hq,_=>absurd hq (by simp [allEvs])
 | m+1,hm,q,hq,he=>by
  rw [allEvs_succ (by omega)] at hq
  rcases List.mem_append.1 hq with hq | hq
  ·exact allEvs_ok R m (by omega) q hq he
  ·exact evs_ok R (depthR ps) m [] ⟨ss[m].len,ss[m].brake⟩ [] [] ss[m].speed (WalkOk.begin R (by omega)) q hq he
theorem pathsF_ok {ps:List MPiece}{js:List MJoint}{ss:List MPiece}(R:Right ps js ss):∀ q ∈ pathsF ps js ss,PathOk ps js ss q:=by
 intro q hq
 unfold pathsF at hq
 split at hq
 ·unfold endedL at hq
  obtain ⟨h1,h2⟩:=List.mem_filter.1 hq
  exact allEvs_ok R ss.length (Nat.le_refl _) q h1 h2
 ·cases hq
theorem pathsF_few (ps:List MPiece)(js:List MJoint)(ss:List MPiece):(pathsF ps js ss).length≤300:=by
 unfold pathsF
 split
 ·rename_i h
  exact h.2
 ·simp
open Classical in
theorem routesF_paths (ps:List MPiece)(js:List MJoint)(ss:List MPiece)(over:Int):routesF ps js ss over=if sigF ps js ss=(0,0)∧0≤over∧over≤100000 then (pathsF ps js ss).map (routeF ps js ss over) else []:=by
 unfold routesF pathsF
 by_cases h:sigF ps js ss=(0,0)∧0≤over∧over≤100000
 ·rw [if_pos h]
  by_cases hf:fitsB ps js ss
  ·rw [if_pos hf,if_pos ⟨h.1,h.2.1,h.2.2,hf.1,hf.2⟩]
  ·rw [if_neg hf,if_neg (fun q=>hf ⟨q.2.2.2.1,q.2.2.2.2⟩)]
   rfl
 ·rw [if_neg h,if_neg (fun q=>h ⟨q.1,q.2.1,q.2.2.1⟩)]
theorem givenOk_any (pa ja sa:Option Addr)(pc jc sc:Nat)(ps:List MPiece)(js:List MJoint)(ss:List MPiece)(over:Int)(w:World)(hp:Hid (PiecesAt w pa ps))(hj:Hid (JointsAt w ja js))(hs:Hid (PiecesAt w sa ss)):
  Calls Tryz.prog 37 #[.agg #[.slice pa ps.length pc,.slice ja js.length jc],.slice sa ss.length sc,.int .i64 over] w fun e w'=>e = .returned (.bool (decide (sigF ps js ss=(0,0)∧0≤over∧over≤100000)))∧Below w.heap.size w w':=by
 have HSG:Hid (∀ u:World,Below w.heap.size w u→Calls Tryz.prog 25 #[.agg #[.slice pa ps.length pc,.slice ja js.length jc],.slice sa ss.length sc] u fun e w'=>e = .returned (faultV (sigF ps js ss))∧Below u.heap.size u w'):=fun u hu=>implSignalsOk_any pa ja sa pc jc sc ps js ss u (hp.out.below hu) (hj.out.below hu) (hs.out.below hu)
 obtain ⟨sf,hsf⟩:∃ sf,sigF ps js ss=sf:=⟨_,rfl⟩
 rw [hsf] at HSG ⊢
 clear hsf
 obtain ⟨f1,f2⟩:=sf
 unfold faultV at HSG
 by_cases h1:f1=0
 ·subst h1
  by_cases h2:f2=0
  ·subst h2
   have HD:Hid (decide ((((0:Int),(0:Int))=(0,0))∧0≤over∧over≤100000)=inB over 0 100000):=by
    unfold Hid inB
    simp
   go_enter Tryz.func37,Tryz.ntmps37
   go_wp2_with (first | (go_at_call 25;refine (HSG.out _ ((Below.refl _ _).alloc (Nat.le_refl _) _)).mono ?_;rintro e w2 ⟨rfl,hb2⟩) | (go_at_call 80;refine (within_any _ _ _ _).mono ?_;rintro e w3 ⟨rfl,rfl⟩))
   go_ret
   exact ⟨by first | exact ret_bool HD.out.symm | (refine ret_bool ?_;simp [inB]),((Below.refl _ _).alloc (Nat.le_refl _) _).trans (hb2.mono (by simp))⟩
  ·have h2b:(f2==0)=false:=by simp [h2]
   have HD:Hid (decide ((((0:Int),f2)=(0,0))∧0≤over∧over≤100000)=false):=by
    unfold Hid
    simp [h2]
   clear h2
   go_enter Tryz.func37,Tryz.ntmps37
   go_wp2_with (first | (go_at_call 25;refine (HSG.out _ ((Below.refl _ _).alloc (Nat.le_refl _) _)).mono ?_;rintro e w2 ⟨rfl,hb2⟩) | (go_at_call 80;refine (within_any _ _ _ _).mono ?_;rintro e w3 ⟨rfl,rfl⟩))
   go_ret
   exact ⟨by first | exact ret_bool HD.out.symm | (refine ret_bool ?_;simp [inB]),((Below.refl _ _).alloc (Nat.le_refl _) _).trans (hb2.mono (by simp))⟩
 ·have h1b:(f1==0)=false:=by simp [h1]
  have HD:Hid (decide (((f1,f2)=(0,0))∧0≤over∧over≤100000)=false):=by
   unfold Hid
   simp [h1]
  clear h1
  go_enter Tryz.func37,Tryz.ntmps37
  go_wp2_with (first | (go_at_call 25;refine (HSG.out _ ((Below.refl _ _).alloc (Nat.le_refl _) _)).mono ?_;rintro e w2 ⟨rfl,hb2⟩) | (go_at_call 80;refine (within_any _ _ _ _).mono ?_;rintro e w3 ⟨rfl,rfl⟩))
  go_ret
  exact ⟨by first | exact ret_bool HD.out.symm | (refine ret_bool ?_;simp [inB]),((Below.refl _ _).alloc (Nat.le_refl _) _).trans (hb2.mono (by simp))⟩
def encT (q:RAddr × MRoute):List Value:=[.int .i64 q.2.start,.int .i64 q.2.stop,.slice q.1.a0 q.2.steps.length q.1.c0,.slice q.1.a1 q.2.lies.length q.1.c1,.slice q.1.a2 q.2.crosses.length q.1.c2,.slice q.1.a3 q.2.parts.length q.1.c3,.slice q.1.a4 q.2.over.length q.1.c4,.slice q.1.a5 q.2.flanks.length q.1.c5]
def flatT (qs:List (RAddr × MRoute)):List Value:=qs.flatMap encT
theorem encT_one (q:RAddr × MRoute):∀ u ∈ encT q,u.oneCell'=true:=by
 intro u hu
 simp only [encT,List.mem_cons,List.not_mem_nil,or_false] at hu
 rcases hu with rfl | rfl | rfl | rfl | rfl | rfl | rfl | rfl <;> rfl
theorem flatT_snoc (qs:List (RAddr × MRoute))(q:RAddr × MRoute):flatT qs++encT q=flatT (qs++[q]):=by simp [flatT]
structure TabOwn (B:Nat)(w:World)(x:Option Addr)(y:Nat)(qs:List (RAddr × MRoute)):Prop where
 row:w.ownsRow B 44 8 (.slice x qs.length y) qs.length (flatT qs)
 own:∀ q ∈ qs,RClaims B w q.1 q.2
 dis:qs.Pairwise (fun a c => ∀ i j,i<6→j<6→∀ b,AdB (adR a.1 i) b→¬ AdB (adR c.1 j) b)
 out:∀ q ∈ qs,∀ j,j<6→∀ b,AdB (adR q.1 j) b→(Value.slice x qs.length y).ownBlock≠some b
theorem TabOwn.nil (B:Nat)(w:World):TabOwn B w none 0 []:=⟨⟨rfl,Or.inl ⟨rfl,rfl⟩⟩,(fun q hq=>by cases hq),List.Pairwise.nil,fun q hq=>by cases hq⟩
theorem owns_kept {w w':World}{B e s n:Nat}{v:Value}{xs:List Value}(h:w.ownsRow B e s v n xs)(hb:∀ b,v.ownBlock=some b→w'.heap[b]? = w.heap[b]?):w'.ownsRow B e s v n xs:=by
 refine ⟨h.1,?_⟩
 rcases h.2 with q | ⟨g,cap,cur,q1,q2,q3,q4⟩
 ·exact Or.inl q
 ·refine Or.inr ⟨g,cap,cur,q1,q2,(hb g (by rw [q1];rfl)).trans q3,q4⟩
theorem own_ad {x:Option Addr}{n y b:Nat}(h:(Value.slice x n y).ownBlock=some b):AdB x b:=by
 cases x with
 | none=>cases h
 | some a =>
  injection h with h
  obtain ⟨ab,ao,asub⟩:=a
  exact ⟨ao,asub,by rw [← h]⟩
theorem RClaims.kept {B:Nat}{w w':World}{d:RAddr}{r:MRoute}(h:RClaims B w d r)(hb:∀ j,j<6→∀ b,AdB (adR d j) b→w'.heap[b]? = w.heap[b]?):RClaims B w' d r:=
 ⟨owns_kept h.steps (fun b q=>hb 0 (by omega) b (own_ad q)),owns_kept h.lies (fun b q=>hb 1 (by omega) b (own_ad q)),owns_kept h.crosses (fun b q=>hb 2 (by omega) b (own_ad q)),owns_kept h.parts (fun b q=>hb 3 (by omega) b (own_ad q)),owns_kept h.over (fun b q=>hb 4 (by omega) b (own_ad q)),owns_kept h.flanks (fun b q=>hb 5 (by omega) b (own_ad q)),h.dis⟩
theorem RClaims.below {B:Nat}{w w':World}{d:RAddr}{r:MRoute}(h:RClaims B w d r)(hb:Below w.heap.size w w'):RClaims B w' d r:=
 ⟨owns_below h.steps hb,owns_below h.lies hb,owns_below h.crosses hb,owns_below h.parts hb,owns_below h.over hb,owns_below h.flanks hb,h.dis⟩
theorem TabOwn.mono {B B':Nat}{w:World}{x:Option Addr}{y:Nat}{qs:List (RAddr × MRoute)}(h:TabOwn B w x y qs)(hB:B'≤B):TabOwn B' w x y qs:=
 ⟨owns_mono h.row hB,fun q hq=>(h.own q hq).mono hB,h.dis,h.out⟩
theorem TabOwn.push {B:Nat}{wr wp w':World}{x x':Option Addr}{y y':Nat}{qs:List (RAddr × MRoute)}{q:RAddr × MRoute}(h:TabOwn B wr x y qs)(hb:Below wr.heap.size wr wp)(hq:RClaims wr.heap.size wp q.1 q.2)(hB:B≤wr.heap.size)
  (h1:w'.ownsRow B 44 8 (.slice x' (qs.length+1) y') (qs.length+1) (flatT qs++encT q)) (h2:wp.grownBy w' (Value.slice x qs.length y).ownBlock) (h3:∀ b,(Value.slice x' (qs.length+1) y').ownBlock=some b→(Value.slice x qs.length y).ownBlock=some b∨wp.heap.size≤b):TabOwn B w' x' y' (qs++[q]):=by
 have hl:(qs++[q]).length=qs.length+1:=by simp
 have hob:∀ b,(Value.slice x qs.length y).ownBlock=some b→b<wr.heap.size:=fun b e=>(h.row.lt b e).2
 refine ⟨by rw [hl,← flatT_snoc];exact h1,?_,?_,?_⟩
 ·intro r hr
  rcases List.mem_append.1 hr with hr | hr
  ·refine ((h.own r hr).below hb).kept (fun j hj b hbl=>?_)
   have hlt:=((h.own r hr).blk j hj b hbl).2
   exact h2.block b (Nat.lt_of_lt_of_le hlt hb.size) (fun e=>h.out r hr j hj b hbl e.symm)
  ·have:r=q:=by simpa using hr
   subst this
   refine (hq.mono hB).kept (fun j hj b hbl=>?_)
   have hg:=hq.blk j hj b hbl
   exact h2.block b hg.2 (fun e=>by have:=hob b e.symm;omega)
 ·refine List.pairwise_append.2 ⟨h.dis,List.pairwise_singleton _ _,?_⟩
  intro a ha c hc i j hi hj b h4 h5
  have:c=q:=by simpa using hc
  subst this
  have g1:=((h.own a ha).blk i hi b h4).2
  have g2:=(hq.blk j hj b h5).1
  omega
 ·intro r hr j hj b hbl e
  rw [hl] at e
  rcases List.mem_append.1 hr with hr | hr
  ·rcases h3 b e with h6 | h6
   ·exact h.out r hr j hj b hbl h6
   ·have g1:=((h.own r hr).blk j hj b hbl).2
    have:=hb.size
    omega
  ·have:r=q:=by simpa using hr
   subst this
   have g1:=hq.blk j hj b hbl
   rcases h3 b e with h6 | h6
   ·have:=hob b h6
    omega
   ·omega
theorem wpList_push_sharp {P:Program}{Wp:World}{ops:Array Oper}{rest:List Oper}{o:Oper}{a:Act}{Q:Exit→Act→World→Prop}(hg:o.guard=none)(s x:Operand)(t:TypeId)
  (hop:o.op=Op.call { callee:=Callee.builtin Builtin.append,args:=#[s,x],argTypes:=#[t,t] })
  (base:Nat) (e:TypeId) (z:Value) (size bytes:Nat) (h1:P.underlying t=some (.slice e)) (hi:(P.info? e).map (fun i=>(i.zero,i.size,i.bytes))=some (some z,size,bytes)) (h6:z.cells.size=size) (h7:0<size)
  (v:Value) (k:Nat) (xs:List Value) (hs:a.eval s=v) (hown:Wp.ownsRow base e size v k xs) (g:Nat) (hgs:g=Wp.heap.size) (news:List Value) (hx:a.eval x = .slice (some ⟨g,0,none⟩) 1 1) (hn:news.length=size)
  (h1c:∀ u ∈ news,u.oneCell'=true) (b1:k+1≤maxLen) (b2:(k+1)*bytes≤140737488355328) (b3:base≤Wp.heap.size)
  (hK:∀ x' y' w',w'.ownsRow base e size (.slice x' (k+1) y') (k+1) (xs++news)→Wp.grownBy w' v.ownBlock→(∀ b,(Value.slice x' (k+1) y').ownBlock=some b→v.ownBlock=some b∨Wp.heap.size≤b)→wpList P ops Q rest (a.put o.dst (.slice x' (k+1) y')) w') :
  wpList P ops Q (o::rest) a (Wp.alloc (.cells news.toArray e)):=by
 subst hgs
 refine wpList_append_sharp _ hg s x t hop base e z size bytes h1 hi h6 h7 v k xs hs (hown.alloc _) ⟨Wp.heap.size,0,none⟩ 1 news hx hn ?_ h1c b1 b2 (by simp;omega) ?_
 ·intro j u hu
  rw [addr_at,Nat.zero_add]
  have:=cell_of_row (Wp.alloc (.cells news.toArray e)) Wp.heap.size j news.toArray e (0,0) (heap_alloc_new Wp _)
  rw [this]
  simpa using hu
 ·intro x' y' w' r1 r2 r3
  refine hK x' y' w' r1 ⟨r2.os,r2.tape,r2.output,Nat.le_trans (by simp) r2.size,fun k hk hne=>?_⟩ (fun b hb=>(r3 b hb).imp id (fun h=>Nat.le_trans (by simp) h))
  exact (r2.block k (by simp;omega) hne).trans (Below.heap_alloc _ _ _ hk)
def RoutesPost (ps:List MPiece)(js:List MJoint)(ss:List MPiece)(over:Int)(w:World)(e:Ending)(w':World):Prop:=
 ∃ x y qs,e = .returned (.slice x qs.length y)∧qs.map Prod.snd=routesF ps js ss over∧TabOwn w.heap.size w' x y qs∧Below w.heap.size w w'
theorem implRoutes_any (pa ja sa:Option Addr)(pc jc sc:Nat)(ps:List MPiece)(js:List MJoint)(ss:List MPiece)(over:Int)(w:World)(hp:Hid (PiecesAt w pa ps))(hj:Hid (JointsAt w ja js))(hs:Hid (PiecesAt w sa ss)):
  Calls Tryz.prog 10 #[.agg #[.slice pa ps.length pc,.slice ja js.length jc],.slice sa ss.length sc,.int .i64 over] w (RoutesPost ps js ss over w):=by
 have HGO:Hid (∀ u:World,Below w.heap.size w u→Calls Tryz.prog 37 #[.agg #[.slice pa ps.length pc,.slice ja js.length jc],.slice sa ss.length sc,.int .i64 over] u fun e w'=>e = .returned (.bool (decide (sigF ps js ss=(0,0)∧0≤over∧over≤100000)))∧Below u.heap.size u w'):=fun u hu=>givenOk_any pa ja sa pc jc sc ps js ss over u (hp.out.below hu) (hj.out.below hu) (hs.out.below hu)
 have HRT:=hidP (routesF_paths ps js ss over)
 by_cases hg:sigF ps js ss=(0,0)∧0≤over∧over≤100000
 ·rw [decide_eq_true hg] at HGO
  have HRE:=hidP (HRT.out.trans (if_pos hg))
  obtain ⟨hg1,ho0,ho1⟩:=hg
  have R:=hidP (right_of hg1)
  have HTO:Hid (∀ u:World,Below w.heap.size w u→Calls Tryz.prog 38 #[.agg #[.slice pa ps.length pc,.slice ja js.length jc],.slice sa ss.length sc] u fun e w' => ∃ K,e = .returned (.pointer (some ⟨K,0,none⟩))∧u.heap.size≤K∧HasTrack w' K pa ja sa pc jc sc ps js ss∧Below u.heap.size u w'):=fun u hu=>trackOf_any pa ja sa pc jc sc ps js ss R u (hp.out.below hu) (hj.out.below hu) (hs.out.below hu)
  have HPF:=hidP (pathsF_few ps js ss)
  have HPO:=hidP (pathsF_ok R.out)
  clear hg1
  go_enter Tryz.func10,Tryz.ntmps10
  go_upto_region 1 with fail
  generalize hW:World.alloc w _=W
  have HBW:Hid (Below w.heap.size w W):=by rw [← hW];exact (Below.refl _ _).alloc (Nat.le_refl _) _
  have n0:W.cell? ⟨w.heap.size,0,none⟩=some (.slice pa ps.length pc):=by rw [← hW];simp [go_sem]
  have n1:W.cell? ⟨w.heap.size,1,none⟩=some (.slice ja js.length jc):=by rw [← hW];simp [go_sem]
  have hzW:w.heap.size<W.heap.size:=by rw [← hW];simp
  clear hW
  go_upto_region 3 with (go_at_call 37;refine (HGO.out _ HBW.out).mono ?_;rintro e w1 ⟨rfl,hb1⟩;have HB1:Hid (Below w.heap.size w w1):=HBW.out.trans (hb1.mono HBW.out.size);replace n0:=cell_later hb1 n0;replace n1:=cell_later hb1 n1;have hz1:=cellLt n0;dsimp only at hz1;clear hb1)
  go_upto_region 5 with (go_at_call 38;refine (HTO.out _ HB1.out).mono ?_;rintro e w2 ⟨KT,rfl,hK,hT2,hb2⟩)
  obtain ⟨M,hT⟩:=hT2
  have HT:=hidP hT
  have HB2:Hid (Below w.heap.size w w2):=HB1.out.trans (hb2.mono HB1.out.size)
  have HEP:=hidP (endedPaths_any KT M pa ja sa pc jc sc ps js ss R w2 HT)
  clear hT hb2 hK n0 n1
  go_wp2_with (go_at_call 39;refine HEP.out.mono ?_;rintro e w3 ⟨v,rfl,hpo,hb3⟩;obtain ⟨xp,yp,xs,rfl,hxs,hcl,hls⟩:=hpo)
  have HB3:Hid (Below w.heap.size w w3):=HB2.out.trans (hb3.mono HB2.out.size)
  have HT3:=hidP (HT.out.below hb3)
  have hxl:xs.length≤300:=by have h1:=HPF.out;rw [← hxs] at h1;simpa using h1
  have HXS:=hidP hxs
  have HCL:=hidP hcl
  have HLS:=hidP hls
  have HXO:Hid (∀ q ∈ xs,PathOk ps js ss q.2):=fun q hq=>HPO.out q.2 (by rw [← HXS.out];exact List.mem_map.2 ⟨q,hq,rfl⟩)
  clear hxs hcl hls hb3 HEP
  go_loopw [8,22] (fun rv c wr => ∃ (m:Nat) (x:Option Addr) (y:Nat) (qs:List (RAddr × MRoute)),m≤xs.length∧c = .int .i64 m∧rv = .slice x qs.length y∧Hid (qs.map Prod.snd=(xs.take m).map (fun q=>routeF ps js ss over q.2))∧Hid (TabOwn w3.heap.size wr x y qs)∧Below w3.heap.size w3 wr) (fun _ c _=>xs.length-(intOf c).toNat)
  case atStart=>exact ⟨0,none,0,[],Nat.zero_le _,rfl,rfl,rfl,TabOwn.nil _ _,Below.refl _ _⟩
  case round =>
   obtain ⟨m,x,y,qs,hm,rfl,rfl,HQ,HT4,hb⟩:=hrel
   have hbs:=hb.size
   have HB:=hidP hb
   have hql:qs.length=m:=by
    have h1:=congrArg List.length HQ.out
    simp only [List.length_map,List.length_take] at h1
    omega
   by_cases hm':m<xs.length
   ·have hmi:(m:Int)<xs.length:=by omega
    obtain ⟨b,hxb,hcc⟩:=HCL.out.resolve_left (nz hm')
    subst hxb
    obtain ⟨q,hq⟩:∃ q,xs[m]=q:=⟨_,rfl⟩
    have hqm:q ∈ xs:=by rw [← hq];exact List.getElem_mem hm'
    have hce:=hcc m hm'
    rw [hq] at hce
    obtain ⟨d,p⟩:=q
    have p0:=cell_later hb (hce 0 _ rfl)
    have p1:=cell_later hb (hce 1 _ rfl)
    have p2:=cell_later hb (hce 2 _ rfl)
    have p3:=cell_later hb (hce 3 _ rfl)
    have p4:=cell_later hb (hce 4 _ rfl)
    have p5:=cell_later hb (hce 5 _ rfl)
    rw [Nat.add_zero] at p0
    dsimp only at p0 p1 p2 p3 p4 p5
    have hzb:=cellLt p0
    dsimp only at hzb
    have HSN:Hid ((xs.take (m+1)).map (fun q=>routeF ps js ss over q.2)=(xs.take m).map (fun q=>routeF ps js ss over q.2)++[routeF ps js ss over p]):=by
     unfold Hid
     rw [List.take_succ_eq_append_getElem hm',List.map_append,hq]
     rfl
    have HRO:Hid (∀ u:World,Below wr.heap.size wr u→Calls Tryz.prog 40 #[.pointer (some ⟨KT,0,none⟩),.agg #[.int .i64 p.start,.int .i64 p.stop,.bool p.ended,.slice d.a0 p.steps.length d.c0,.slice d.a1 p.lies.length d.c1,.slice d.a2 p.crosses.length d.c2],.int .i64 over] u (RoutePost ps js ss over p u)):=fun u hu=>by
     have h9:=HB.out.trans (hu.mono HB.out.size)
     exact routeOf_any KT M pa ja sa pc jc sc ps js ss R d p (HXO.out _ hqm) over ho0 ho1 u (HT3.out.below h9) ((HLS.out _ hqm).below h9)
    have HRP:Hid (∀ u e u',RoutePost ps js ss over p u e u'→∃ d' rt',rt'=routeF ps js ss over p∧e = .returned (.agg #[.int .i64 rt'.start,.int .i64 rt'.stop,.slice d'.a0 rt'.steps.length d'.c0,.slice d'.a1 rt'.lies.length d'.c1,.slice d'.a2 rt'.crosses.length d'.c2,.slice d'.a3 rt'.parts.length d'.c3,.slice d'.a4 rt'.over.length d'.c4,.slice d'.a5 rt'.flanks.length d'.c5])∧RClaims u.heap.size u' d' rt'∧Below u.heap.size u u'):=fun u e u' ⟨d',h1,h2,h3⟩=>⟨d',_,rfl,h1,h2,h3⟩
    clear hcc hce hqm hq
    go_upto_region 8 with fail
    generalize hV:World.alloc wr _=V
    have HBV:Hid (Below wr.heap.size wr V):=by rw [← hV];exact (Below.refl _ _).alloc (Nat.le_refl _) _
    have s0:V.cell? ⟨wr.heap.size,0,none⟩=some (.int .i64 p.start):=by rw [← hV];simp [go_sem]
    have s1:V.cell? ⟨wr.heap.size,1,none⟩=some (.int .i64 p.stop):=by rw [← hV];simp [go_sem]
    have s2:V.cell? ⟨wr.heap.size,2,none⟩=some (.bool p.ended):=by rw [← hV];simp [go_sem]
    have s3:V.cell? ⟨wr.heap.size,3,none⟩=some (.slice d.a0 p.steps.length d.c0):=by rw [← hV];simp [go_sem]
    have s4:V.cell? ⟨wr.heap.size,4,none⟩=some (.slice d.a1 p.lies.length d.c1):=by rw [← hV];simp [go_sem]
    have s5:V.cell? ⟨wr.heap.size,5,none⟩=some (.slice d.a2 p.crosses.length d.c2):=by rw [← hV];simp [go_sem]
    have hzV:wr.heap.size<V.heap.size:=by rw [← hV];simp
    clear hV p0 p1 p2 p3 p4 p5
    have HQL:=hidP hql
    clear hql
    go_wp2_with (first
     | (go_at_call 40;refine (HRO.out _ HBV.out).mono ?_;intro e w5 h5;obtain ⟨d',rt',hrt',rfl,hcl,hb5⟩:=HRP.out _ _ _ h5;have HRT5:=hidP hrt';have HCL5:=hidP hcl;have HB5:Hid (Below wr.heap.size wr w5):=HBV.out.trans (hb5.mono HBV.out.size);have hz5:=HB5.out.size;have HOW5:=hidP (owns_below HT4.out.row HB5.out);have hsz5:w3.heap.size≤w5.heap.size:=Nat.le_trans hbs hz5;clear h5 hrt' hcl hb5)
     | (at_builtin;refine wpList_push_sharp rfl (.tmp 26) (.tmp 31) 30 rfl w3.heap.size 44 _ 8 160 Tryz.underlying30 Tryz.infoRoute rfl (by decide) (.slice x qs.length y) qs.length (flatT qs) rfl HOW5.out _ rfl (encT (d',rt')) rfl rfl (encT_one (d',rt')) (by have h9:=HQL.out;unfold maxLen;omega) (by have h9:=HQL.out;omega) hsz5 ?_;intro x6 y6 w6 t1 t2 t3))
    have hpush:=HT4.out.push HB5.out (q:=(d',rt')) (HCL5.out.mono HBV.out.size) hbs t1 t2 t3
    have hbb:Below w3.heap.size w3 w6:=push_below (HB.out.trans (HB5.out.mono HB.out.size)) HOW5.out t2 hsz5
    go_roundw
    case rel =>
     refine ⟨m+1,x6,y6,qs++[(d',rt')],by omega,by go_num,by simp,?_,hpush,hbb⟩
     unfold Hid
     rw [HSN.out,List.map_append,HQ.out]
     show _++[rt']=_
     rw [HRT5.out]
    case measure=>simp [intOf];omega
   ·have hme:m=xs.length:=by omega
    have hmi:¬ (m:Int)<xs.length:=by omega
    subst hme
    have hfin:qs.map Prod.snd=routesF ps js ss over:=by
     rw [HRE.out,HQ.out,List.take_length,← HXS.out,List.map_map]
     rfl
    have HFI:=hidP hfin
    clear hfin hql
    go_wp2_with fail
    go_ret
    exact ⟨x,y,qs,rfl,HFI.out,HT4.out.mono HB3.out.size,HB3.out.trans (HB.out.mono HB3.out.size)⟩
 ·rw [decide_eq_false hg] at HGO
  have HRE:=hidP (HRT.out.trans (if_neg hg))
  clear hg
  go_enter Tryz.func10,Tryz.ntmps10
  go_wp2_with (go_at_call 37;refine (HGO.out _ ((Below.refl _ _).alloc (Nat.le_refl _) _)).mono ?_;rintro e w1 ⟨rfl,hb1⟩)
  go_ret
  exact ⟨none,0,[],rfl,by rw [HRE.out];rfl,TabOwn.nil _ _,((Below.refl _ _).alloc (Nat.le_refl _) _).trans (hb1.mono (by simp))⟩
theorem RClaims.lists {B:Nat}{w:World}{d:RAddr}{r:MRoute}(h:RClaims B w d r):RListsAt w d r:=
 ⟨(own_listE h.steps).1,(own_listE h.lies).1,(own_listN h.crosses).1,(own_listP h.parts).1,(own_listP h.over).1,(own_listF h.flanks).1,fun e=>((own_listE h.lies).2 e).2⟩
theorem encT_len (q:RAddr × MRoute):(encT q).length=8:=rfl
theorem TabOwn.cell {B:Nat}{w:World}{g y:Nat}{qs:List (RAddr × MRoute)}(h:TabOwn B w (some ⟨g,0,none⟩) y qs){p:Nat}(hp:p<qs.length){j:Nat}{u:Value}(hu:(encT qs[p])[j]? = some u):w.cell? ⟨g,p*8+j,none⟩=some u:=by
 have hj:j<8:=by rw [← encT_len qs[p]];exact (List.getElem?_eq_some_iff.1 hu).1
 have hc:=h.row.cells rfl (p*8+j) u
 rw [addr_at,Nat.zero_add] at hc
 refine hc ?_
 rw [← hu]
 exact flat_get encT 8 (fun _=>rfl) qs p j hp hj
theorem TabOwn.addr {B:Nat}{w:World}{x:Option Addr}{y:Nat}{qs:List (RAddr × MRoute)}(h:TabOwn B w x y qs)(h0:0<qs.length):∃ g,x=some ⟨g,0,none⟩:=by
 rcases h.row.2 with ⟨_,h2⟩ | ⟨g,cap,cur,h1,_⟩
 ·omega
 ·injection h1 with h1
  exact ⟨g,h1⟩
theorem TabOwn.routes {B:Nat}{w:World}{x:Option Addr}{y:Nat}{qs:List (RAddr × MRoute)}(h:TabOwn B w x y qs)(hl:qs.length≤300):RoutesAt w x (qs.map Prod.snd):=by
 refine ⟨by unfold maxLen;simp;omega,?_⟩
 by_cases h0:qs.length=0
 ·exact Or.inl (by rw [List.eq_nil_of_length_eq_zero h0];rfl)
 ·obtain ⟨g,rfl⟩:=h.addr (by omega)
  refine Or.inr ⟨g,0,rfl,fun i hi=>?_⟩
  have hi':i<qs.length:=by simpa using hi
  refine ⟨qs[i].1,?_,?_⟩
  ·rw [List.getElem_map,Nat.zero_add]
   exact ⟨h.cell hi' (j:=0) rfl,h.cell hi' (j:=1) rfl,h.cell hi' (j:=2) rfl,h.cell hi' (j:=3) rfl,h.cell hi' (j:=4) rfl,h.cell hi' (j:=5) rfl,h.cell hi' (j:=6) rfl,h.cell hi' (j:=7) rfl⟩
  ·rw [List.getElem_map]
   exact (h.own _ (List.getElem_mem hi')).lists
end Go.Proofs.YtmkdgnmmebldgaaGreatDoor
