import Derived.Test.YtmkdgnmmebldgaaGreatDoorPk25
import Derived.Test.YtmkdgnmmebldgaaGreatDoorPk2
set_option maxRecDepth 100000
set_option maxHeartbeats 8000000
open Go.Proofs.Tryz
namespace Go.Proofs.YtmkdgnmmebldgaaGreatDoor
open Go.RowKit Go.Deep Go.Maps
variable {w:World}
def gX (D:∀ p:Prop,Decidable p)(L:List am)(v:Value):Int := @ite _ (∃ x,x ∈ L/\bC x=v) (D _) 1 0
theorem ur (L:List am)(e:am):gX Classical.propDecidable L (bC e)=if L.any (fun x=>cR x e)=true then 1 else 0:=by
 unfold gX
 by_cases h:L.any (fun x=>cR x e)=true
 ·rw [if_pos h,if_pos];obtain ⟨x,hx,h2⟩:=List.any_eq_true.1 h;exact ⟨x,hx,by rw [iD.1 h2]⟩
 ·rw [if_neg h,if_neg];rintro ⟨x,hx,h2⟩;exact h (List.any_eq_true.2 ⟨x,hx,iD.2 (sU h2)⟩)
theorem yd {L:List am}{e:am}:gX Classical.propDecidable (L++[e]) (bC e)=1:=by
 unfold gX;rw [if_pos ⟨e,CI,rfl⟩]
theorem vm {L:List am}{e:am}{v:Value}(h:v≠bC e):gX Classical.propDecidable (L++[e]) v=gX Classical.propDecidable L v:=by
 unfold gX
 by_cases hx:∃ x,x ∈ L/\bC x=v
 ·rw [if_pos hx,if_pos];obtain ⟨x,h1,h2⟩:=hx;exact ⟨x,by simp [h1],h2⟩
 ·rw [if_neg hx,if_neg];rintro ⟨x,h1,h2⟩;rcases List.mem_append.1 h1 with h1 | h1
  ·exact hx ⟨x,h1,h2⟩
  ·have:x=e:=by simpa using h1
   subst this;exact h h2.symm
def sS (KT M2:Nat)(at_:Int)(la:Option Addr)(ln lc:Nat)(v:Value):Array Value:=#[.pointer (some ⟨KT,0,none⟩),.slice la ln lc,.int .i64 at_,.map (some M2),v]
structure eH (w:World)(ps:List af)(KT O M2:Nat)(at_:Int)(la:Option Addr)(ln lc bs:Nat)(K:Nat->Prop)(st:List am × List aN)(W:World):Prop where
 below:Cx w W
 own:∃ (x:Option Addr) (y:Nat),W.rowIs O 221 5 (fun i=>(sS KT M2 at_ la ln lc (.slice x st.2.length y)).getD i (.bool false))/\W.ownsRow bs 50 4 (.slice x st.2.length y) st.2.length (bO st.2) /\
  ∀ k,K k↔k=O\/k=M2\/(Value.slice x st.2.length y).ownBlock=some k
 map:bT 114 W M2 st.1.length (gX Classical.propDecidable st.1)
 low:w.heap.size<=M2/\M2<O/\O<bs
 hi:bs<=W.heap.size
 seen:eZ ps st.1
 fl:st.2.length<=st.1.length
section
variable {w:World} {ps:List af} {KT O M2:Nat} {at_:Int} {la:Option Addr} {ln lc bs:Nat} {K:Nat->Prop} {st:List am × List aN} {W W':World}
theorem eH.lt (h:eH w ps KT O M2 at_ la ln lc bs K st W):∀ k,K k->k<W.heap.size:=by
 intro k hk;obtain ⟨x,y,h1,h2,h5⟩:=h.own;rcases (h5 k).1 hk with rfl | rfl | hk
 ·exact h1.lt
 ·exact h.map.lt
 ·exact (h2.lt k hk).2
theorem eH.low_own (h:eH w ps KT O M2 at_ la ln lc bs K st W):∀ k,K k->w.heap.size<=k:=by
 intro k hk;have hl:=h.low;obtain ⟨x,y,h1,h2,h5⟩:=h.own;rcases (h5 k).1 hk with rfl | rfl | hk
 ·omega
 ·omega
 ·have:=(h2.lt k hk).1;omega
theorem eH.keep (h:eH w ps KT O M2 at_ la ln lc bs K st W)(hb:Cx W W'):eH w ps KT O M2 at_ la ln lc bs K st W':=by
 obtain ⟨x,y,h1,h2,h5⟩:=h.own;exact ⟨h.below.trans (hb.mono h.below.size),⟨x,y,h1.of_block (hb.block _ h1.lt),aq h2 hb,h5⟩,h.map.below hb,h.low,Nat.le_trans h.hi hb.size,h.seen,h.fl⟩
end
def fi (w:World)(ps:List af)(KT O M2:Nat)(at_:Int)(la:Option Addr)(ln lc bs:Nat)(st:List am × List aN)(K:Nat->Prop)(W:World)(e:Ending)(W':World):Prop:=
 (∃ v,e = .returned v)/\ag K W W'/\∃ K',eH w ps KT O M2 at_ la ln lc bs K' st W'/\dP K K' W
theorem Cs {u:World}{g:Nat}{a b c d:Value}(c0:u.cell? ⟨g,0,none⟩=some a)(c1:u.cell? ⟨g,1,none⟩=some b)(c2:u.cell? ⟨g,2,none⟩=some c)(c3:u.cell? ⟨g,3,none⟩=some d):∀ (j:Nat) (v:Value),[a,b,c,d][j]? = some v->u.cell? ((⟨g,0,none⟩:Addr).add j)=some v:=by
 intro j v hv;rw [bH,Nat.zero_add]
 match j with
 | 0=>simp at hv;rw [<-hv];exact c0
 | 1=>simp at hv;rw [<-hv];exact c1
 | 2=>simp at hv;rw [<-hv];exact c2
 | 3=>simp at hv;rw [<-hv];exact c3
 | j+4=>simp at hv
theorem mS (w:World)(ps:List af)(hnp:ps.length<=100)(KT O M2:Nat)(at_:Int)(la:Option Addr)(ln lc bs:Nat)(K:Nat->Prop)(st:List am × List aN)(W:World)(h:Hid (eH w ps KT O M2 at_ la ln lc bs K st W))(hlt:Hid (st.2.length+1<=st.1.length))(kd of_ li:Int):
  Calls prog 139 #[.pointer (some ⟨O,0,none⟩),.int .i64 kd,.int .i64 of_,.int .i64 li] W (fi w ps KT O M2 at_ la ln lc bs (st.1,st.2++[⟨at_,kd,of_,li⟩]) K W):=by
 have l:=h.out.seen.few;have z:=h.out.fl;obtain ⟨x,y,h1,h2,h5⟩:=h.out.own;have m:=h.out.low;have A:=h.out.hi;have c2:W.cell? ⟨O,2,none⟩=some (.int .i64 at_):=h1.cell (i:=2) CG
 have c4:W.cell? ⟨O,4,none⟩=some (.slice x st.2.length y):=h1.cell (i:=4) CG
 have H1:=aa h1;have H2:=aa h2;have H5:=aa h5;have N:=h1.lt;obtain ⟨S,hS⟩:∃ S:World->Prop,∀ u,S u↔ag (fun k=>(Value.slice x st.2.length y).ownBlock=some k) W u:=⟨_,fun _=>Iff.rfl⟩
 have n:=aa hS;have f:¬ (Value.slice x st.2.length y).ownBlock=some O:=fun e=>by have:=(h2.lt O e).1;omega
 have r2:∀ u:an S,World.cell? u.val ⟨O,2,none⟩=some (.int .i64 at_):=fun u=>((hS u.val).1 u.2).cell c2 f
 have r4:∀ u:an S,World.cell? u.val ⟨O,4,none⟩=some (.slice x st.2.length y):=fun u=>((hS u.val).1 u.2).cell c4 f
 have o:S W.drew:=(hS _).2 ((ag.refl _ _).drew);have hne:=aQ o;have B:=aa f;have R:st.2.length<=200:=CG
 clear hS h1 h2 h5 c2 c4 l z f
 go_enter func139,ntmps139
 go_upto_region 0 with fail
 refine bW 15 o ?_
 (refine ae 0 ?_;intro K hK;go_big_quiet_op;go_big_quiet_on);(refine ae 1 ?_;intro K hK;go_big_quiet_op;go_big_quiet_on);(refine ae 2 ?_;intro K hK;go_big_quiet_op;go_big_quiet_on);(refine ae 3 ?_;intro K hK;go_big_quiet_op;go_big_quiet_on);(refine ae 4 ?_;intro K hK;go_big_quiet_op;go_big_quiet_on);(refine ae 5 ?_;intro K hK;go_big_quiet_op;go_big_quiet_on);(refine ae 6 ?_;intro K hK;go_big_quiet_op;go_big_quiet_on);(refine ae 7 ?_;intro K hK;go_big_quiet_op;go_big_quiet_on);(refine ae 8 ?_;intro K hK;go_big_quiet_op;go_big_quiet_on);(refine ae 9 ?_;intro K hK;go_big_quiet_op;go_big_quiet_on);(refine ae 10 ?_;intro K hK;go_big_quiet_op;go_big_quiet_on);(refine ae 11 ?_;intro K hK;go_big_quiet_op;go_big_quiet_on);(refine ae 12 ?_;intro K hK;go_big_quiet_op;go_big_quiet_on)
 refine az 13 ?_;intro KK hK
 go_wp2_with fail
 generalize b:World.alloc W _=V5;have c:Cx W V5:=by rw [<-b];exact CV.alloc CW _
 have n0:V5.cell? ⟨W.heap.size,0,none⟩=some (.int .i64 at_):=by rw [<-b];simp [go_sem]
 have n1:V5.cell? ⟨W.heap.size,1,none⟩=some (.int .i64 kd):=by rw [<-b];simp [go_sem]
 have n2:V5.cell? ⟨W.heap.size,2,none⟩=some (.int .i64 of_):=by rw [<-b];simp [go_sem]
 have n3:V5.cell? ⟨W.heap.size,3,none⟩=some (.int .i64 li):=by rw [<-b];simp [go_sem]
 have t:S V5.drew:=(n.out _).2 ((ag.of_below c).drew);refine hK _ _ (ak t) ?_;clear hK KK b;have C:Hid (∀ (j:Nat) (v:Value),[Value.int .i64 at_,.int .i64 kd,.int .i64 of_,.int .i64 li][j]? = some v->V5.drew.cell? ((⟨W.heap.size,0,none⟩:Addr).add j)=some v):=Cs n0 n1 n2 n3;clear n0 n1 n2 n3;have D:=aa c;have E:Hid (V5.drew.ownsRow bs 50 4 (.slice x st.2.length y) st.2.length (bO st.2)):=re (aq H2.out c);have F:W.heap.size<=V5.drew.heap.size:=c.size;clear c;refine az 14 ?_;intro KK hK
 show wpList prog _ _ [_] _ _
 refine gF _ rfl (.tmp 12) (.tmp 21) 42 rfl bs 50 _ 4 32 underlying42 Tryz.infoFlank rfl CJ (.slice x st.2.length y) st.2.length (bO st.2) rfl E.out ⟨W.heap.size,0,none⟩ 1 [.int .i64 at_,.int .i64 kd,.int .i64 of_,.int .i64 li] rfl rfl C.out CL CK CG CG ?_
 intro x6 y6 w6 q1 q2 q3;have q:S w6:=(n.out _).2 (((ag.of_below D.out).drew).trans (ag.of_grown q2 (fun k hk=>hk)))
 have Q1:=aa q1;have Q3:=aa q3;have r:=aa ((n.out _).1 q);clear q1 q2 q3
 go_wp2_with fail
 refine hK _ _ (ak q) ?_;clear hK KK;refine a9 ?_;have d:=H1.out.of_block (r.out.block _ H1.out.lt B.out);have c6:=d.cell (i:=4) CG
 have f6:=d.frozen 4;have T:=d.lt;have G:=aa (d.set 4 (.slice x6 (st.2.length+1) y6));clear r2 r4 o hne d t q
 go_wp2_with fail
 have H:K O:=(H5.out O).2 (Or.inl rfl);have I:ag K W w6:=r.out.mono (fun k hk=>(H5.out k).2 (Or.inr (Or.inr hk)))
 have s:ag K W (w6.setCell ⟨O,4,none⟩ (.slice x6 (st.2.length+1) y6)):=I.setCell (p:=⟨O,4,none⟩) (Or.inl H) _;have J:=h.out.low_own;have L:(w6.setCell ⟨O,4,none⟩ (.slice x6 (st.2.length+1) y6)).heap[M2]? = W.heap[M2]? := (Below.heap_setCell w6 ⟨O,4,none⟩ _ M2 (by show ¬ M2=O;omega)).trans (r.out.block _ h.out.map.lt (fun e=>by have:=(H2.out.lt M2 e).1;omega))
 have g:(st.2++[(⟨at_,kd,of_,li⟩:aN)]).length=st.2.length+1:=CI
 refine bodyPost_end (results_none rfl _ _ _) rfl ⟨⟨_,rfl⟩,s,(fun k=>k=O\/k=M2\/(Value.slice x6 (st.2.length+1) y6).ownBlock=some k),⟨h.out.below.trans (s.below h.out.below.size (fun k hk e=>by have:=J k e;omega)),⟨x6,y6,?_,?_,fun k=>by simp only [g]⟩,h.out.map.of_block L,m,Nat.le_trans A s.size,h.out.seen,by simp only [g];exact hlt.out⟩,?_⟩
 ·refine rE G.out ?_;intro i hi;simp only [g];have M:i=0\/i=1\/i=2\/i=3\/i=4:=CG
  rcases M with rfl | rfl | rfl | rfl | rfl <;> simp [sS]
 ·have:=ownsRow_setCell_below Q1.out (a:=⟨O,4,none⟩) (by show O<bs;omega) (.slice x6 (st.2.length+1) y6)
  rw [ib st.2 ⟨at_,kd,of_,li⟩] at this;simp only [g];exact this
 ·intro k hk;rcases hk with hk | hk | hk
  ·exact Or.inl ((H5.out k).2 (Or.inl hk))
  ·exact Or.inl ((H5.out k).2 (Or.inr (Or.inl hk)))
  ·rcases Q3.out k hk with h9 | h9
   ·exact Or.inl ((H5.out k).2 (Or.inr (Or.inr h9)))
   ·exact Or.inr (Nat.le_trans F h9)
theorem fi.after {ps:List af}{KT O M2:Nat}{at_:Int}{la:Option Addr}{ln lc bs:Nat}{st:List am × List aN}{K:Nat->Prop}{W W1 W':World}{e:Ending}(h:fi w ps KT O M2 at_ la ln lc bs st K W1 e W')(hb:Cx W W1):fi w ps KT O M2 at_ la ln lc bs st K W e W':=by
 obtain ⟨h1,h2,K',h3,h4⟩:=h;exact ⟨h1,(ag.of_below hb).trans h2,K',h3,h4.mono hb.size⟩
theorem pU (w:World)(ps:List af)(hnp:ps.length<=100)(KT O M2:Nat)(at_:Int)(la:Option Addr)(CA:List bg)(lc bs:Nat)(hL:Hid (aT w la CA))(K:Nat->Prop)(st:List am × List aN)(W:World)(h:Hid (eH w ps KT O M2 at_ la CA.length lc bs K st W))(hlt:Hid (st.2.length+1<=st.1.length))(j k:Nat)(kd:Int)(hk:k<=3):
  Calls prog 170 #[.pointer (some ⟨O,0,none⟩),eV j k kd] W (fi w ps KT O M2 at_ la CA.length lc bs (st.1,st.2++[if ce CA j=k then ⟨at_,4,j,0⟩ else ⟨at_,3,j,3-k⟩]) K W):=by
 have HF:Hid (∀ (u:World),Cx W u->∀ kd of_ li:Int,Calls prog 139 #[.pointer (some ⟨O,0,none⟩),.int .i64 kd,.int .i64 of_,.int .i64 li] u (fi w ps KT O M2 at_ la CA.length lc bs (st.1,st.2++[⟨at_,kd,of_,li⟩]) K W)):=fun u hu kd of_ li =>
  (mS w ps hnp KT O M2 at_ la CA.length lc bs K st u (h.out.keep hu) hlt kd of_ li).mono (fun e w' q=>q.after hu)
 have r:Hid (∀ (u:World),Cx W u->Calls prog 177 #[.slice la CA.length lc,.int .i64 (j:Int)] u fun e w'=>e = .returned (.int .i64 (ce CA j))/\Cx u w'):=fun u hu =>
  qY la lc CA j u (hL.out.below (h.out.below.trans (hu.mono h.out.below.size)))
 have s:Hid (∀ (u:World),Calls prog 118 #[.int .i64 (k:Int)] u fun e w'=>e = .returned (.int .i64 (3-(k:Int)))/\Cx u w'):=fun u=>mM k u CG CG
 obtain ⟨x,y,h1,_,_⟩:=h.out.own;have c1:W.cell? ⟨O,1,none⟩=some (.slice la CA.length lc):=h1.cell (i:=1) CG
 have z:=h1.lt;unfold eV;clear h1
 go_enter func170,ntmps170
 go_upto_region 1 with fail
 generalize hV:World.alloc W _=V;have g:Cx W V:=by rw [<-hV];exact CV.alloc CW _
 have s0:V.cell? ⟨W.heap.size,0,none⟩=some (.int .i64 (j:Int)):=by rw [<-hV];simp [go_sem]
 have s1:V.cell? ⟨W.heap.size,1,none⟩=some (.int .i64 (k:Int)):=by rw [<-hV];simp [go_sem]
 have A:W.heap.size<V.heap.size:=by rw [<-hV];simp
 replace c1:=cell_later g c1;have f:=aa g;clear hV g;obtain ⟨S,hS⟩:∃ S:World->Prop,∀ u,S u↔Cx V u:=⟨_,fun _=>Iff.rfl⟩
 have l:=aa hS;have r1:∀ u:an S,World.cell? u.val ⟨O,1,none⟩=some (.slice la CA.length lc):=fun u=>cell_later ((hS u.val).1 u.2) c1
 have r2:∀ u:an S,World.cell? u.val ⟨W.heap.size,0,none⟩=some (.int .i64 (j:Int)):=fun u=>cell_later ((hS u.val).1 u.2) s0
 have r3:∀ u:an S,World.cell? u.val ⟨W.heap.size,1,none⟩=some (.int .i64 (k:Int)):=fun u=>cell_later ((hS u.val).1 u.2) s1
 have a:S V.drew:=(hS _).2 (CV.drew);have hne:=aQ a;clear hS;refine bW 9 a ?_
 (refine ae 0 ?_;intro K hK;go_big_quiet_op;go_big_quiet_on);(refine ae 1 ?_;intro K hK;go_big_quiet_op;go_big_quiet_on);(refine ae 2 ?_;intro K hK;go_big_quiet_op;go_big_quiet_on);(refine ae 3 ?_;intro K hK;go_big_quiet_op;go_big_quiet_on);(refine ae 4 ?_;intro K hK;go_big_quiet_op;go_big_quiet_on);(refine ae 5 ?_;intro K hK;go_big_quiet_op;go_big_quiet_on)
 (refine ae 7 ?_;intro K hK;go_big_quiet_op;go_big_quiet_on);(refine ae 8 ?_;intro K hK;go_big_quiet_op;go_big_quiet_on)
 refine az 6 ?_;intro KK hK
 go_wp2_with (go_at_call 177;refine (r.out _ (f.out.trans (CV.drew.mono f.out.size))).mono ?_;rintro e u2 ⟨rfl,b⟩)
 have c:Cx V u2:=CV.drew.trans b;refine hK _ _ (ak ((l.out _).2 c)) ?_;clear hK KK b r1 r2 r3 a hne;replace s0:=cell_later c s0;replace s1:=cell_later c s1;have m:Hid (Cx W u2):=f.out.trans (c.mono f.out.size);have B:W.heap.size<u2.heap.size:=ai s0;clear c c1;refine a9 ?_
 by_cases hq:ce CA j=k
 ·have t:(ce CA j==(k:Int))=true:=by simp [hq]
  have HQ:=aa hq;clear hq
  go_wp2_with (go_at_call 139;refine (HF.out _ m.out _ _ _).mono ?_;rintro e u3 ⟨⟨v3,rfl⟩,n,o⟩)
  exact bodyPost_ret (results_none rfl _ _ _) rfl ⟨⟨_,rfl⟩,n,o⟩
 ·have t:(ce CA j==(k:Int))=false:=by simp [hq]
  have HQ:=aa hq;clear hq
  go_upto_region 3 with fail
  obtain ⟨S,hS⟩:∃ S:World->Prop,∀ u,S u↔Cx u2 u:=⟨_,fun _=>Iff.rfl⟩
  have l:=aa hS;have r2:∀ u:an S,World.cell? u.val ⟨W.heap.size,0,none⟩=some (.int .i64 (j:Int)):=fun u=>cell_later ((hS u.val).1 u.2) s0
  have r3:∀ u:an S,World.cell? u.val ⟨W.heap.size,1,none⟩=some (.int .i64 (k:Int)):=fun u=>cell_later ((hS u.val).1 u.2) s1
  have a:S u2.drew:=(hS _).2 (CV.drew);have hne:=aQ a;clear hS;refine bW 6 a ?_
  (refine ae 0 ?_;intro K hK;go_big_quiet_op;go_big_quiet_on);(refine ae 1 ?_;intro K hK;go_big_quiet_op;go_big_quiet_on);(refine ae 2 ?_;intro K hK;go_big_quiet_op;go_big_quiet_on);(refine ae 3 ?_;intro K hK;go_big_quiet_op;go_big_quiet_on);(refine ae 4 ?_;intro K hK;go_big_quiet_op;go_big_quiet_on)
  refine az 5 ?_;intro KK hK
  go_wp2_with (go_at_call 118;refine (s.out _).mono ?_;rintro e u4 ⟨rfl,d⟩)
  have p:Cx u2 u4:=CV.drew.trans d;refine hK _ _ (ak ((l.out _).2 p)) ?_;clear hK KK d r2 r3 a hne;have v:Hid (Cx W u4):=m.out.trans (p.mono m.out.size);clear p;refine a9 ?_
  go_wp2_with (go_at_call 139;refine (HF.out _ v.out _ _ _).mono ?_;rintro e u3 ⟨⟨v3,rfl⟩,n,o⟩)
  exact bodyPost_end (results_none rfl _ _ _) rfl ⟨⟨_,rfl⟩,n,o⟩
def mi (js:List aj)(ss:List af)(CA:List bg)(at_:Int)(n:Nat)(st:List am × List aN)(f:am):List am × List aN:=
 if aH js (aO js f).1=1 then (st.1,st.2++[⟨at_,1,(aO js f).1,0⟩])
 else if aH js (aO js f).1=3/\(aO js f).2≠0 then (st.1,st.2++[if ce CA (aO js f).1=(aO js f).2 then ⟨at_,4,(aO js f).1,0⟩ else ⟨at_,3,(aO js f).1,3-(aO js f).2⟩])
 else (bt (aH js (aO js f).1) (aO js f).2).foldl (fun s t=>bJ js ss CA at_ n s (aY js (aO js f).1 t)) st
theorem wD (js:List aj)(ss:List af)(CA:List bg)(at_:Int)(n:Nat)(st:List am × List aN)(e:am):bJ js ss CA at_ (n+1) st e =
  if st.1.any (fun x=>cR x e)=true then st
  else if 0<=bE ss e.CB (if e.side=0 then -1 else 1) ss.length then (st.1++[e],st.2++[⟨at_,2,bE ss e.CB (if e.side=0 then -1 else 1) ss.length,0⟩])
  else mi js ss CA at_ n (st.1++[e],st.2) (b7 e):=by
 rfl
def mQ (w:World)(ps:List af)(js:List aj)(ss:List af)(CA:List bg)(KT O M2:Nat)(at_:Int)(la:Option Addr)(lc bs:Nat)(n:Nat):Prop:=
 ∀ K st e W,eH w ps KT O M2 at_ la CA.length lc bs K st W->bM ps e->2*ps.length+2<=n+st.1.length ->
  Calls prog 117 #[.pointer (some ⟨O,0,none⟩),bC e] W (fi w ps KT O M2 at_ la CA.length lc bs (bJ js ss CA at_ n st e) K W)
theorem zj (w:World)(M:Nat)(pa ja sa:Option Addr)(pc jc sc:Nat)(ps:List af)(js:List aj)(ss:List af)(CA:List bg)(R:Hid (bo ps js ss))(KT O M2:Nat)(hT:Hid (cB w KT M pa ja sa pc jc sc ps js ss))(at_:Int)(la:Option Addr)(lc bs:Nat)(n:Nat)(IH:Hid (mQ w ps js ss CA KT O M2 at_ la lc bs n))
  (K:Nat->Prop) (st:List am × List aN) (W:World) (h:Hid (eH w ps KT O M2 at_ la CA.length lc bs K st W)) (hn:Hid (2*ps.length+2<=n+st.1.length)) (j k t:Nat) (kd:Int) (hj:j<js.length) (ht:Hid (t<js[j].ends.length)) :
  Calls prog 171 #[.pointer (some ⟨O,0,none⟩),iN j k t kd] W (dm (fun K' u=>eH w ps KT O M2 at_ la CA.length lc bs K' (bJ js ss CA at_ n st (aY js j t)) u) (fun _=>False) K W):=by
 have c:=du hj ht.out;have o:bM ps (aY js j t):=by rw [c];exact R.out.ends j hj t ht.out
 have d:Hid (∀ u:World,Cx W u->Calls prog 117 #[.pointer (some ⟨O,0,none⟩),bC (aY js j t)] u (fi w ps KT O M2 at_ la CA.length lc bs (bJ js ss CA at_ n st (aY js j t)) K W)):=fun u hu =>
  (IH.out K st (aY js j t) u (h.out.keep hu) o hn.out).mono (fun e w' q=>q.after hu)
 have f:Hid (∀ u:World,Cx W u->∀ fr kd:Value,Calls prog 167 #[.pointer (some ⟨KT,0,none⟩),.agg #[.int .i64 j,fr,.int .i64 t,kd]] u fun e w'=>e = .returned (bC (aY js j t))/\Cx u w'):=fun u hu fr kd=>by
  have q:=mz KT pa ja sa pc jc sc ps js ss j t fr kd u (hT.out.below (h.out.below.trans (hu.mono h.out.below.size))).net hj ht.out;rw [<-c] at q;exact q
 obtain ⟨x,y,h1,_,_⟩:=h.out.own;have c0:W.cell? ⟨O,0,none⟩=some (.pointer (some ⟨KT,0,none⟩)):=h1.cell (i:=0) CG
 have z:=h1.lt;generalize aY js j t=en at d f ⊢;unfold bC at d f;unfold iN;clear h1 c o
 go_enter func171,ntmps171
 go_upto_region 1 with fail
 generalize hV:World.alloc W _=V;have g:Cx W V:=by rw [<-hV];exact CV.alloc CW _
 have s0:V.cell? ⟨W.heap.size,0,none⟩=some (.int .i64 (j:Int)):=by rw [<-hV];simp [go_sem]
 have s1:V.cell? ⟨W.heap.size,1,none⟩=some (.int .i64 (k:Int)):=by rw [<-hV];simp [go_sem]
 have s2:V.cell? ⟨W.heap.size,2,none⟩=some (.int .i64 (t:Int)):=by rw [<-hV];simp [go_sem]
 have s3:V.cell? ⟨W.heap.size,3,none⟩=some (.iface (cj kd) (.agg #[])):=by rw [<-hV];simp [go_sem]
 have A:W.heap.size<V.heap.size:=by rw [<-hV];simp
 replace c0:=cell_later g c0;have b:=aa g;clear hV g;obtain ⟨S,hS⟩:∃ S:World->Prop,∀ u,S u↔Cx V u:=⟨_,fun _=>Iff.rfl⟩
 have p:=aa hS;have r0:∀ u:an S,World.cell? u.val ⟨O,0,none⟩=some (.pointer (some ⟨KT,0,none⟩)):=fun u=>cell_later ((hS u.val).1 u.2) c0
 have r1:∀ u:an S,World.cell? u.val ⟨W.heap.size,0,none⟩=some (.int .i64 (j:Int)):=fun u=>cell_later ((hS u.val).1 u.2) s0
 have r2:∀ u:an S,World.cell? u.val ⟨W.heap.size,1,none⟩=some (.int .i64 (k:Int)):=fun u=>cell_later ((hS u.val).1 u.2) s1
 have r3:∀ u:an S,World.cell? u.val ⟨W.heap.size,2,none⟩=some (.int .i64 (t:Int)):=fun u=>cell_later ((hS u.val).1 u.2) s2
 have r4:∀ u:an S,World.cell? u.val ⟨W.heap.size,3,none⟩=some (.iface (cj kd) (.agg #[])):=fun u=>cell_later ((hS u.val).1 u.2) s3
 have l:S V.drew:=(hS _).2 (CV.drew);have hne:=aQ l;clear hS;refine bW 7 l ?_
 (refine ae 0 ?_;intro K hK;go_big_quiet_op;go_big_quiet_on);(refine ae 1 ?_;intro K hK;go_big_quiet_op;go_big_quiet_on);(refine ae 2 ?_;intro K hK;go_big_quiet_op;go_big_quiet_on);(refine ae 3 ?_;intro K hK;go_big_quiet_op;go_big_quiet_on);(refine ae 4 ?_;intro K hK;go_big_quiet_op;go_big_quiet_on);(refine ae 5 ?_;intro K hK;go_big_quiet_op;go_big_quiet_on)
 refine az 6 ?_;intro KK hK
 go_wp2_with (go_at_call 167;refine (f.out _ (b.out.trans (CV.drew.mono b.out.size)) _ _).mono ?_;rintro e u2 ⟨rfl,a⟩)
 have m:Cx V u2:=CV.drew.trans a;refine hK _ _ (ak ((p.out _).2 m)) ?_;clear hK KK a r0 r1 r2 r3 r4 l hne;have r:Hid (Cx W u2):=b.out.trans (m.mono b.out.size);clear m c0 s0 s1 s2 s3;refine a9 ?_
 go_wp2_with (go_at_call 117;refine (d.out _ r.out).mono ?_;rintro e u3 ⟨⟨v3,rfl⟩,s,v⟩)
 go_ret
 exact ⟨true,rfl,s,fun _=>v,fun h=>by cases h⟩
theorem zU {α:Type}(f:α->Nat->α)(L:List Nat)(m t:Nat)(a:α)(ht:L[m]? = some t):(L.take (m+1)).foldl f a=f ((L.take m).foldl f a) t:=by
 rw [List.take_add_one,ht,Option.toList,List.foldl_append];rfl
theorem ts (w:World)(M:Nat)(pa ja sa:Option Addr)(pc jc sc:Nat)(ps:List af)(js:List aj)(ss:List af)(CA:List bg)(R:Hid (bo ps js ss))(KT O M2:Nat)(hT:Hid (cB w KT M pa ja sa pc jc sc ps js ss))(at_:Int)(la:Option Addr)(lc bs:Nat)(hL:Hid (aT w la CA))(n:Nat)(IH:Hid (mQ w ps js ss CA KT O M2 at_ la lc bs n))
  (K:Nat->Prop) (st:List am × List aN) (f:am) (W:World) (h:Hid (eH w ps KT O M2 at_ la CA.length lc bs K st W)) (hlt:Hid (st.2.length+1<=st.1.length)) (hn:Hid (2*ps.length+2<=n+st.1.length)) (hv:Hid (bM ps f)) :
  Calls prog 140 #[.pointer (some ⟨O,0,none⟩),bC f] W (fi w ps KT O M2 at_ la CA.length lc bs (mi js ss CA at_ n st f) K W):=by
 have Y:=R.out.np;obtain ⟨j,k,D,H⟩:=R.out.spot hv.out;obtain ⟨hj,hk⟩:∃ hj:j<js.length,k<js[j].ends.length:=by
  obtain ⟨_,hj,hk,_⟩:=df D;simp only [Nat.sub_zero] at hj hk;exact ⟨hj,hk⟩
 have z:=R.out.kind j hj;have A:=cu hj;have Z:Hid (∀ u:World,Cx W u->(Instr.lookup 145 (.map (some M)) (.agg #[.int .i64 f.CB,.int .i64 f.side]) false).run prog u = .ok (eV j k (aH js j)) u):=fun u hu=>by
  have q:=(hT.out.below (h.out.below.trans (hu.mono h.out.below.size))).lookup R.out hv.out;rw [H] at q;exact q
 have HF:Hid (∀ (u:World),Cx W u->∀ kd of_ li:Int,Calls prog 139 #[.pointer (some ⟨O,0,none⟩),.int .i64 kd,.int .i64 of_,.int .i64 li] u (fi w ps KT O M2 at_ la CA.length lc bs (st.1,st.2++[⟨at_,kd,of_,li⟩]) K W)):=fun u hu kd of_ li =>
  (mS w ps Y KT O M2 at_ la CA.length lc bs K st u (h.out.keep hu) hlt kd of_ li).mono (fun e w' q=>q.after hu)
 have T:Hid (∀ (u:World),Cx W u->Calls prog 170 #[.pointer (some ⟨O,0,none⟩),.agg #[.int .i64 (j:Int),.int .i64 (k:Int),.iface (cj (aH js j)) (.agg #[])]] u (fi w ps KT O M2 at_ la CA.length lc bs (st.1,st.2++[if ce CA j=k then ⟨at_,4,j,0⟩ else ⟨at_,3,j,3-k⟩]) K W)):=fun u hu =>
  (pU w ps Y KT O M2 at_ la CA lc bs hL K st u (h.out.keep hu) hlt j k (aH js j) (by have:=z.2;omega)).mono (fun e w' q=>q.after hu)
 have U:Hid (∀ (u:World),Cx W u->Calls prog 133 #[.pointer (some ⟨KT,0,none⟩),.agg #[.int .i64 f.CB,.int .i64 f.side],.func (.func 171) #[.pointer (some ⟨O,0,none⟩)] #[]] u fun e w'=>(∃ v,e = .returned v)/\ag K W w'/\∃ K',eH w ps KT O M2 at_ la CA.length lc bs K' ((bt (aH js j) k).foldl (fun s t=>bJ js ss CA at_ n s (aY js j t)) st) w'/\dP K K' W):=fun u hu=>by
  have ab:=h.out.keep hu;have q:=mH KT M pa ja sa pc jc sc ps js ss R f 171 (.pointer (some ⟨O,0,none⟩)) (fun m K u=>eH w ps KT O M2 at_ la CA.length lc bs K (((bt (aH js j) k).take m).foldl (fun s t=>bJ js ss CA at_ n s (aY js j t)) st) u) (fun _=>False) K u (hT.out.below ab.below) hv (fun ad u=>CH) j k H ab (fun m K2 u2 q=>q.lt) (fun m K2 u2 u3 q hb=>q.keep hb) (fun m t K2 u2 ht q=>by
   have ah:=List.mem_of_getElem? ht;have al:t<js[j].ends.length:=iF z.2.2 hk (by rw [<-A];exact ah)
   have hg:gk ps st (((bt (aH js j) k).take m).foldl (fun s t=>bJ js ss CA at_ n s (aY js j t)) st):=gk.fold _ h.out.seen (fun t' ao s hs=>jp R.out CA at_ n s _ hs (by
    have E:t'<js[j].ends.length:=iF z.2.2 hk (by rw [<-A];exact List.mem_of_mem_take ao)
    rw [du hj E];exact R.out.ends j hj t' E))
   have hq:=zj w M pa ja sa pc jc sc ps js ss CA R KT O M2 hT at_ la lc bs n IH K2 _ u2 q (by unfold Hid;have h1:=hn.out;have h2:=hg.2.1;omega) j k t (aH js j) hj al
   refine hq.mono ?_;rintro e u3 ⟨b,e1,o1,i1,s1⟩;refine ⟨b,e1,o1,fun hb=>?_,s1⟩
   obtain ⟨K3,i2,g2⟩:=i1 hb;refine ⟨K3,?_,g2⟩;rw [zU _ _ _ _ _ ht];exact i2)
  refine q.mono ?_;rintro e u3 ⟨b,e1,o1,i1,s1⟩;cases b
  ·exact (s1 rfl).elim
  ·obtain ⟨K3,i2,g2⟩:=i1 rfl;rw [List.take_length] at i2;exact ⟨⟨_,e1⟩,(ag.of_below hu).trans o1,K3,i2,g2.mono hu.size⟩
 have l:Hid (mi js ss CA at_ n st f=if aH js j=1 then (st.1,st.2++[⟨at_,1,j,0⟩]) else if aH js j=3/\k≠0 then (st.1,st.2++[if ce CA j=k then ⟨at_,4,j,0⟩ else ⟨at_,3,j,3-k⟩]) else (bt (aH js j) k).foldl (fun s t=>bJ js ss CA at_ n s (aY js j t)) st):=by
  unfold Hid mi;rw [H]
 obtain ⟨x,y,h1,_,_⟩:=h.out.own;have c0:W.cell? ⟨O,0,none⟩=some (.pointer (some ⟨KT,0,none⟩)):=h1.cell (i:=0) CG
 have c3:=(hT.out.below h.out.below).c3;have hK:=ai c3;dsimp only at hK;have av:=h1.lt;have I:1<=aH js j:=by rw [A];exact z.1
 have J:aH js j<=4:=by rw [A];exact z.2.1
 generalize mi js ss CA at_ n st f=res at l ⊢;generalize (bt (aH js j) k).foldl (fun s t=>bJ js ss CA at_ n s (aY js j t)) st=fo at U l
 generalize (if ce CA j=k then (⟨at_,4,j,0⟩:aN) else ⟨at_,3,j,3-k⟩)=sw at T l
 generalize aH js j=kd at Z T l I J A;unfold bC;clear h1 z A D H hk
 go_enter func140,ntmps140
 go_upto_region 1 with fail
 generalize hV:World.alloc W _=V;have L:Cx W V:=by rw [<-hV];exact CV.alloc CW _
 have x0:V.cell? ⟨W.heap.size,0,none⟩=some (.int .i64 f.CB):=by rw [<-hV];simp [go_sem]
 have x1:V.cell? ⟨W.heap.size,1,none⟩=some (.int .i64 f.side):=by rw [<-hV];simp [go_sem]
 have aw:W.heap.size<V.heap.size:=by rw [<-hV];simp
 replace c0:=cell_later L c0;replace c3:=cell_later L c3;have N:=aa L;obtain ⟨S,hS⟩:∃ S:World->Prop,∀ u,S u↔Cx V u:=⟨_,fun _=>Iff.rfl⟩
 have X:=aa hS;have r0:∀ u:an S,World.cell? u.val ⟨O,0,none⟩=some (.pointer (some ⟨KT,0,none⟩)):=fun u=>cell_later ((hS u.val).1 u.2) c0
 have r1:∀ u:an S,World.cell? u.val ⟨W.heap.size,0,none⟩=some (.int .i64 f.CB):=fun u=>cell_later ((hS u.val).1 u.2) x0
 have r2:∀ u:an S,World.cell? u.val ⟨W.heap.size,1,none⟩=some (.int .i64 f.side):=fun u=>cell_later ((hS u.val).1 u.2) x1
 have r3:∀ u:an S,World.cell? u.val ⟨KT,3,none⟩=some (.map (some M)):=fun u=>cell_later ((hS u.val).1 u.2) c3
 have r4:∀ u:an S,(Instr.lookup 145 (.map (some M)) (.agg #[.int .i64 f.CB,.int .i64 f.side]) false).run prog u.val = .ok (eV j k kd) u.val:=fun u=>Z.out u.val (N.out.trans (((hS u.val).1 u.2).mono N.out.size))
 have c:S V.drew:=(hS _).2 (CV.drew);have hne:=aQ c;clear hS hV L
 go_cut [4] (fun v wx => ∃ b,v = .pointer (some ⟨b,0,none⟩)/\V.heap.size<=b/\wx.cell? ⟨b,0,none⟩=some (.int .i64 (j:Int))/\wx.cell? ⟨b,1,none⟩=some (.int .i64 (k:Int))/\wx.cell? ⟨b,2,none⟩=some (.iface (cj kd) (.agg #[]))/\Cx V wx)
 case first =>
  refine bW 10 c ?_
  (refine ae 0 ?_;intro K hK;go_big_quiet_op;go_big_quiet_on);(refine ae 1 ?_;intro K hK;go_big_quiet_op;go_big_quiet_on);(refine ae 2 ?_;intro K hK;go_big_quiet_op;go_big_quiet_on);(refine ae 3 ?_;intro K hK;go_big_quiet_op;go_big_quiet_on);(refine ae 4 ?_;intro K hK;go_big_quiet_op;go_big_quiet_on);(refine ae 5 ?_;intro K hK;go_big_quiet_op;go_big_quiet_on);(refine ae 6 ?_;intro K hK;go_big_quiet_op;go_big_quiet_on);(refine ae 7 ?_;intro K hK;go_big_quiet_op;go_big_quiet_on);(refine ae 8 ?_;intro K hK;go_big_quiet_op;go_big_quiet_on)
  refine az 9 ?_;intro KK hK
  go_wp2_with fail
  have ac:Cx V (V.alloc (Obj.cells #[Value.int IntKind.i64 0,Value.int IntKind.i64 0,Value.nilIface] 153)).drew:=CU.drew;refine hK _ _ (ak ((X.out _).2 ac)) ?_;clear hK KK;refine a9 ?_;unfold eV;clear r0 r1 r2 r3 r4 c hne ac
  go_wp2_with fail
  go_meet
  exact ⟨_,rfl,Nat.le_refl _,CO,CO,CO,CU.drew⟩
 case rest =>
  obtain ⟨b,rfl,hb,z0,z1,z2,B⟩:=hcut;clear r0 r1 r2 r3 r4 c hne;have ap:=ai z0;dsimp only at ap;replace c0:=cell_later B c0;replace x0:=cell_later B x0;replace x1:=cell_later B x1;have ax:=B.size;have C:Hid (Cx W wc):=N.out.trans (B.mono N.out.size);clear B c3;have aq:kd=1\/(kd≠1/\kd=3/\k≠0)\/(kd≠1/\kd=3/\k=0)\/(kd≠1/\kd≠3):=CG
  rcases aq with hq | ⟨d,g,F⟩ | ⟨d,g,F⟩ | ⟨d,g⟩
  ·have o:∀ w,(Instr.typeAssert (.iface (cj kd) (.agg #[])) 149 205 true).run prog w = .ok (.tuple #[.agg #[],.bool true]) w:=fun w=>(isB w _ kd).trans (by rw [decide_eq_true hq])
   have a:=aa (l.out.trans (if_pos hq));clear hq
   go_wp2_with (go_at_call 139;refine (HF.out _ C.out _ _ _).mono ?_;rintro e u3 ⟨⟨v3,rfl⟩,p,r⟩)
   rw [a.out];exact bodyPost_ret (results_none rfl _ _ _) rfl ⟨⟨_,rfl⟩,p,r⟩
  ·have o:∀ w,(Instr.typeAssert (.iface (cj kd) (.agg #[])) 149 205 true).run prog w = .ok (.tuple #[.agg #[],.bool false]) w:=fun w=>(isB w _ kd).trans (by rw [decide_eq_false d])
   have G:∀ w,(Instr.typeAssert (.iface (cj kd) (.agg #[])) 149 207 true).run prog w = .ok (.tuple #[.agg #[],.bool true]) w:=fun w=>(isS w _ kd I J).trans (by rw [decide_eq_true g])
   have ar:((k:Int) != 0)=true:=CN
   have a:=aa (l.out.trans ((if_neg d).trans (if_pos ⟨g,F⟩)));clear d g F
   go_wp2_with (go_at_call 170;refine (T.out _ C.out).mono ?_;rintro e u3 ⟨⟨v3,rfl⟩,p,r⟩)
   rw [a.out];exact bodyPost_ret (results_none rfl _ _ _) rfl ⟨⟨_,rfl⟩,p,r⟩
  ·have o:∀ w,(Instr.typeAssert (.iface (cj kd) (.agg #[])) 149 205 true).run prog w = .ok (.tuple #[.agg #[],.bool false]) w:=fun w=>(isB w _ kd).trans (by rw [decide_eq_false d])
   have G:∀ w,(Instr.typeAssert (.iface (cj kd) (.agg #[])) 149 207 true).run prog w = .ok (.tuple #[.agg #[],.bool true]) w:=fun w=>(isS w _ kd I J).trans (by rw [decide_eq_true g])
   have ar:((k:Int) != 0)=false:=CN
   have a:=aa (l.out.trans ((if_neg d).trans (if_neg (fun q=>q.2 F))))
   clear d g F
   go_upto_region 8 with fail
   obtain ⟨S,hS⟩:∃ S:World->Prop,∀ u,S u↔Cx wc u:=⟨_,fun _=>Iff.rfl⟩
   have X:=aa hS;have r0:∀ u:an S,World.cell? u.val ⟨O,0,none⟩=some (.pointer (some ⟨KT,0,none⟩)):=fun u=>cell_later ((hS u.val).1 u.2) c0
   have r1:∀ u:an S,World.cell? u.val ⟨W.heap.size,0,none⟩=some (.int .i64 f.CB):=fun u=>cell_later ((hS u.val).1 u.2) x0
   have r2:∀ u:an S,World.cell? u.val ⟨W.heap.size,1,none⟩=some (.int .i64 f.side):=fun u=>cell_later ((hS u.val).1 u.2) x1
   have c:S wc.drew:=(hS _).2 (CV.drew);have hne:=aQ c;have au:∀ (fn:Fn) (first cap:Array Value) (w:World),(Instr.makeFunc fn first cap).run prog w = .ok (.func fn first cap) w:=fun _ _ _ _=>rfl
   clear hS;refine bW 7 c ?_
   (refine ae 0 ?_;intro K hK;go_big_quiet_op;go_big_quiet_on);(refine ae 1 ?_;intro K hK;go_big_quiet_op;go_big_quiet_on);(refine ae 2 ?_;intro K hK;go_big_quiet_op;go_big_quiet_on);(refine ae 3 ?_;intro K hK;go_big_quiet_op;go_big_quiet_on);(refine ae 4 ?_;intro K hK;go_big_quiet_op;go_big_quiet_on);(refine ae 5 ?_;intro K hK;go_big_quiet_op;go_big_quiet_on);(refine ae 6 ?_;intro K hK;go_big_quiet_op;go_big_quiet_on)
   clear r0 r1 r2 c hne;refine a9 ?_
   go_wp2_with (go_at_call 133;refine (U.out _ (C.out.trans (CV.drew.mono C.out.size))).mono ?_;rintro e u3 ⟨⟨v3,rfl⟩,p,r⟩)
   rw [a.out];exact bodyPost_end (results_none rfl _ _ _) rfl ⟨⟨_,rfl⟩,p,r⟩
  ·have o:∀ w,(Instr.typeAssert (.iface (cj kd) (.agg #[])) 149 205 true).run prog w = .ok (.tuple #[.agg #[],.bool false]) w:=fun w=>(isB w _ kd).trans (by rw [decide_eq_false d])
   have G:∀ w,(Instr.typeAssert (.iface (cj kd) (.agg #[])) 149 207 true).run prog w = .ok (.tuple #[.agg #[],.bool false]) w:=fun w=>(isS w _ kd I J).trans (by rw [decide_eq_false g])
   have a:=aa (l.out.trans ((if_neg d).trans (if_neg (fun q=>g q.1))))
   clear d g
   go_upto_region 8 with fail
   obtain ⟨S,hS⟩:∃ S:World->Prop,∀ u,S u↔Cx wc u:=⟨_,fun _=>Iff.rfl⟩
   have X:=aa hS;have r0:∀ u:an S,World.cell? u.val ⟨O,0,none⟩=some (.pointer (some ⟨KT,0,none⟩)):=fun u=>cell_later ((hS u.val).1 u.2) c0
   have r1:∀ u:an S,World.cell? u.val ⟨W.heap.size,0,none⟩=some (.int .i64 f.CB):=fun u=>cell_later ((hS u.val).1 u.2) x0
   have r2:∀ u:an S,World.cell? u.val ⟨W.heap.size,1,none⟩=some (.int .i64 f.side):=fun u=>cell_later ((hS u.val).1 u.2) x1
   have c:S wc.drew:=(hS _).2 (CV.drew);have hne:=aQ c;have au:∀ (fn:Fn) (first cap:Array Value) (w:World),(Instr.makeFunc fn first cap).run prog w = .ok (.func fn first cap) w:=fun _ _ _ _=>rfl
   clear hS;refine bW 7 c ?_
   (refine ae 0 ?_;intro K hK;go_big_quiet_op;go_big_quiet_on);(refine ae 1 ?_;intro K hK;go_big_quiet_op;go_big_quiet_on);(refine ae 2 ?_;intro K hK;go_big_quiet_op;go_big_quiet_on);(refine ae 3 ?_;intro K hK;go_big_quiet_op;go_big_quiet_on);(refine ae 4 ?_;intro K hK;go_big_quiet_op;go_big_quiet_on);(refine ae 5 ?_;intro K hK;go_big_quiet_op;go_big_quiet_on);(refine ae 6 ?_;intro K hK;go_big_quiet_op;go_big_quiet_on)
   clear r0 r1 r2 c hne;refine a9 ?_
   go_wp2_with (go_at_call 133;refine (U.out _ (C.out.trans (CV.drew.mono C.out.size))).mono ?_;rintro e u3 ⟨⟨v3,rfl⟩,p,r⟩)
   rw [a.out];exact bodyPost_end (results_none rfl _ _ _) rfl ⟨⟨_,rfl⟩,p,r⟩
theorem rS (w:World)(M:Nat)(pa ja sa:Option Addr)(pc jc sc:Nat)(ps:List af)(js:List aj)(ss:List af)(CA:List bg)(R:Hid (bo ps js ss))(KT O M2:Nat)(hT:Hid (cB w KT M pa ja sa pc jc sc ps js ss))(at_:Int)(la:Option Addr)(lc bs:Nat)(hL:Hid (aT w la CA))(n:Nat)(IH:Hid (mQ w ps js ss CA KT O M2 at_ la lc bs n)):mQ w ps js ss CA KT O M2 at_ la lc bs (n+1):=by
 intro K st e W hB hv hn;have h:=aa hB;have HV:=aa hv;have HN:=aa hn;have au:=R.out.np;have av:=hB.seen.few;have aK:=hB.fl;have B:=hB.low;obtain ⟨x,y,h1,h2,h5⟩:=hB.own;obtain ⟨kl,c⟩:=un hv R.out.np;have c0:W.cell? ⟨O,0,none⟩=some (.pointer (some ⟨KT,0,none⟩)):=h1.cell (i:=0) CG
 have c3:W.cell? ⟨O,3,none⟩=some (.map (some M2)):=h1.cell (i:=3) CG
 have aL:=h1.lt;have T:Hid (∀ u:World,Cx W u->(Instr.lookup 196 (.map (some M2)) (bC e) false).run prog u = .ok (.int .i64 (if st.1.any (fun x=>cR x e)=true then 1 else 0)) u):=fun u hu=>by
  have q:=(hB.map.below hu).lookup lT underlying196 c;rw [ur] at q;exact q
 have H1:=aa h1;have H2:=aa h2;have H5:=aa h5;have U:=aa (wD js ss CA at_ n st e);clear hB hn h1 h2 h5 hv;unfold bC;unfold bC at T
 go_enter func117,ntmps117
 go_upto_region 1 with fail
 generalize hV:World.alloc W _=V;have t:Cx W V:=by rw [<-hV];exact CV.alloc CW _
 have x0:V.cell? ⟨W.heap.size,0,none⟩=some (.int .i64 e.CB):=by rw [<-hV];simp [go_sem]
 have x1:V.cell? ⟨W.heap.size,1,none⟩=some (.int .i64 e.side):=by rw [<-hV];simp [go_sem]
 have aM:W.heap.size<V.heap.size:=by rw [<-hV];simp
 replace c0:=cell_later t c0;replace c3:=cell_later t c3;have d:=aa t;obtain ⟨S,hS⟩:∃ S:World->Prop,∀ u,S u↔Cx V u:=⟨_,fun _=>Iff.rfl⟩
 have aN:=aa hS;have r1:∀ u:an S,World.cell? u.val ⟨W.heap.size,0,none⟩=some (.int .i64 e.CB):=fun u=>cell_later ((hS u.val).1 u.2) x0
 have r2:∀ u:an S,World.cell? u.val ⟨W.heap.size,1,none⟩=some (.int .i64 e.side):=fun u=>cell_later ((hS u.val).1 u.2) x1
 have r3:∀ u:an S,World.cell? u.val ⟨O,3,none⟩=some (.map (some M2)):=fun u=>cell_later ((hS u.val).1 u.2) c3
 have r4:∀ u:an S,(Instr.lookup 196 (.map (some M2)) (.agg #[.int .i64 e.CB,.int .i64 e.side]) false).run prog u.val = .ok (.int .i64 (if st.1.any (fun x=>cR x e)=true then 1 else 0)) u.val:=fun u=>T.out u.val (d.out.trans (((hS u.val).1 u.2).mono d.out.size))
 have f:S V.drew:=(hS _).2 (CV.drew);have hne:=aQ f;clear hS hV t
 by_cases a:st.1.any (fun x=>cR x e)=true
 ·have C:=aa a;have o:(if st.1.any (fun x=>cR x e)=true then (1:Int) else 0)=1:=if_pos a
  rw [o] at r4;have b:=aa (U.out.trans (if_pos a));clear a o;refine bW 6 f ?_
  (refine ae 0 ?_;intro K hK;go_big_quiet_op;go_big_quiet_on);(refine ae 1 ?_;intro K hK;go_big_quiet_op;go_big_quiet_on);(refine ae 2 ?_;intro K hK;go_big_quiet_op;go_big_quiet_on);(refine ae 3 ?_;intro K hK;go_big_quiet_op;go_big_quiet_on);(refine ae 4 ?_;intro K hK;go_big_quiet_op;go_big_quiet_on);(refine ae 5 ?_;intro K hK;go_big_quiet_op;go_big_quiet_on)
  clear r1 r2 r3 r4 f hne;refine a9 ?_
  go_wp2_with fail
  have X:Cx W V.drew:=d.out.trans (CV.drew.mono d.out.size);rw [b.out];exact bodyPost_ret (results_none rfl _ _ _) rfl ⟨⟨_,rfl⟩,ag.of_below X,K,h.out.keep X,dP.refl _ _⟩
 ·have C:=aa a;have o:(if st.1.any (fun x=>cR x e)=true then (1:Int) else 0)=0:=if_neg a
  rw [o] at r4;have g:=aa (U.out.trans (if_neg a));have aw:=aa (h.out.seen.push HV.out a);have D:gX Classical.propDecidable st.1 (bC e)=0:=by rw [ur,if_neg a]
  have E:bT 114 V.drew.drew M2 st.1.length (gX Classical.propDecidable st.1):=(h.out.map.below d.out).below (CV.drew.drew);have F:=E.lookup lT underlying196 c;rw [D] at F;obtain ⟨v0,cn,w1,w2,Y,G,ax,Z,hg⟩:=E.entry xY underlying196 CK c 1 CJ (gX Classical.propDecidable (st.1++[e])) yd (fun k hk=>vm hk)
  rw [D] at G;have ay:=aa Z;have HG:=aa hg;unfold bC at F Y G;clear a o D Z E hg c;refine bW 6 f ?_
  (refine ae 0 ?_;intro K hK;go_big_quiet_op;go_big_quiet_on);(refine ae 1 ?_;intro K hK;go_big_quiet_op;go_big_quiet_on);(refine ae 2 ?_;intro K hK;go_big_quiet_op;go_big_quiet_on);(refine ae 3 ?_;intro K hK;go_big_quiet_op;go_big_quiet_on);(refine ae 4 ?_;intro K hK;go_big_quiet_op;go_big_quiet_on);(refine ae 5 ?_;intro K hK;go_big_quiet_op;go_big_quiet_on)
  clear r1 r2 r3 r4 f hne;refine a9 ?_
  go_upto_region 2 with fail
  have l:Hid (ag (fun k=>k=M2) V w2):=(ag.of_below (CV.drew.drew)).trans (ag.of_grown HG.out (fun k hk=>by cases hk;rfl))
  go_cut [19] (fun _ wx=>wx=w2)
  case first =>
   go_region
   all_goals
    go_wp2_with fail
    go_meet
    rfl
  case rest =>
   subst hcut;have ab:K M2:=(H5.out M2).2 (Or.inr (Or.inl rfl));have v:ag K W wc:=(ag.of_below d.out).trans (l.out.mono (fun k hk=>by subst hk;exact ab))
   have aA:=d.out.size;have aB:=h.out.map.lt;have ac:¬ O=M2:=CG
   have aC:=h.out.low_own;have z:Cx w wc:=h.out.below.trans (v.below h.out.below.size (fun k hk e=>by have:=aC k e;omega))
   have ad:=H1.out.of_block ((l.out.block _ (Nat.lt_of_lt_of_le H1.out.lt aA) ac).trans (d.out.block _ H1.out.lt));have m:(st.1++[e]).length=st.1.length+1:=CI
   have ah:Hid (eH w ps KT O M2 at_ la CA.length lc bs K (st.1++[e],st.2) wc):=by
    refine ⟨z,⟨x,y,ad,cA (aq H2.out d.out) l.out (fun k hk=>CG),H5.out⟩,?_,B,Nat.le_trans h.out.hi v.size,aw.out,by simp only [m];omega⟩
    simp only [m];exact ay.out
   have A:=aa v;replace c0:=l.out.cell c0 (by show ¬ O=M2;exact ac)
   replace x0:=l.out.cell x0 (by show ¬ W.heap.size=M2;omega)
   replace x1:=l.out.cell x1 (by show ¬ W.heap.size=M2;omega)
   have aD:=ai c0;have aE:=ai x0;dsimp only at aD aE;have aF:Hid (∀ u:World,Cx wc u->cB u KT M pa ja sa pc jc sc ps js ss):=fun u hu=>hT.out.below (z.trans (hu.mono z.size))
   have al:(e.side=0/\(if e.side=0 then (-1:Int) else 1) = -1)\/(e.side=1/\(if e.side=0 then (-1:Int) else 1)=1):=by
    obtain ⟨_,_,_,q⟩:=HV.out;rcases q with q | q
    ·exact Or.inl ⟨q,if_pos q⟩
    ·exact Or.inr ⟨q,if_neg CG⟩
   have am:Hid (∀ u:World,Cx wc u->Calls prog 138 #[.pointer (some ⟨KT,0,none⟩),.agg #[.int .i64 e.CB,.int .i64 e.side]] u fun r w'=>r = .returned (.int .i64 (bE ss e.CB (if e.side=0 then -1 else 1) ss.length))/\Cx u w'):=fun u hu=>ux KT pa ja sa pc jc sc ps js ss e.CB e.side _ u (aF.out u hu).net al R.out.speeds
   have j:0<=e.side/\e.side<=1:=CG
   have ao:Hid (∀ u:World,Calls prog 113 #[.agg #[.int .i64 e.CB,.int .i64 e.side]] u fun r w'=>r = .returned (.agg #[.int .i64 (b7 e).CB,.int .i64 (b7 e).side])/\Cx u w'):=fun u=>jE e.CB e.side u j.1 j.2
   have aG:Hid (∀ u:World,Cx wc u->∀ kd of_ li:Int,Calls prog 139 #[.pointer (some ⟨O,0,none⟩),.int .i64 kd,.int .i64 of_,.int .i64 li] u (fi w ps KT O M2 at_ la CA.length lc bs (st.1++[e],st.2++[⟨at_,kd,of_,li⟩]) K wc)):=fun u hu kd of_ li =>
    (mS w ps au KT O M2 at_ la CA.length lc bs K (st.1++[e],st.2) u (ah.out.keep hu) (by unfold Hid;simp only [m];omega) kd of_ li).mono (fun _ _ q=>q.after hu)
   have H:Hid (∀ u:World,Cx wc u->Calls prog 140 #[.pointer (some ⟨O,0,none⟩),.agg #[.int .i64 (b7 e).CB,.int .i64 (b7 e).side]] u (fi w ps KT O M2 at_ la CA.length lc bs (mi js ss CA at_ n (st.1++[e],st.2) (b7 e)) K wc)):=fun u hu =>
    (ts w M pa ja sa pc jc sc ps js ss CA R KT O M2 hT at_ la lc bs hL n IH K (st.1++[e],st.2) (b7 e) u (ah.out.keep hu) (by unfold Hid;simp only [m];omega) (by unfold Hid;have:=HN.out;simp only [m];omega) (jL HV.out)).mono (fun _ _ q=>q.after hu)
   generalize bE ss e.CB (if e.side=0 then -1 else 1) ss.length=gd at am g
   generalize mi js ss CA at_ n (st.1++[e],st.2) (b7 e)=ov at H g;generalize b7 e=fa at ao H;clear v F Y G ax ad z m al j ab c3;obtain ⟨S,hS⟩:∃ S:World->Prop,∀ u,S u↔Cx wc u:=⟨_,fun _=>Iff.rfl⟩
   have aH:=aa hS;have r0:∀ u:an S,World.cell? u.val ⟨O,0,none⟩=some (.pointer (some ⟨KT,0,none⟩)):=fun u=>cell_later ((hS u.val).1 u.2) c0
   have r1:∀ u:an S,World.cell? u.val ⟨W.heap.size,0,none⟩=some (.int .i64 e.CB):=fun u=>cell_later ((hS u.val).1 u.2) x0
   have r2:∀ u:an S,World.cell? u.val ⟨W.heap.size,1,none⟩=some (.int .i64 e.side):=fun u=>cell_later ((hS u.val).1 u.2) x1
   have f:S wc.drew:=(hS _).2 (CV.drew);have hne:=aQ f;clear hS
   go_upto_region 3 with fail
   refine bW 6 f ?_
   (refine ae 0 ?_;intro K hK;go_big_quiet_op;go_big_quiet_on);(refine ae 1 ?_;intro K hK;go_big_quiet_op;go_big_quiet_on);(refine ae 2 ?_;intro K hK;go_big_quiet_op;go_big_quiet_on);(refine ae 3 ?_;intro K hK;go_big_quiet_op;go_big_quiet_on);(refine ae 4 ?_;intro K hK;go_big_quiet_op;go_big_quiet_on)
   refine az 5 ?_;intro KK hK
   go_wp2_with (go_at_call 138;refine (am.out _ (CV.drew)).mono ?_;rintro r u2 ⟨rfl,p⟩)
   have s:Cx wc u2:=CV.drew.trans p;refine hK _ _ (ak ((aH.out _).2 s)) ?_;clear hK KK p r0 r1 r2 f hne;replace x0:=cell_later s x0;replace x1:=cell_later s x1;have I:=aa s;have aI:=ai x0;dsimp only at aI;clear s c0;refine a9 ?_
   by_cases ap:0<=gd
   ·have b:=aa (g.out.trans (if_pos ap))
    go_wp2_with (go_at_call 139;refine (aG.out _ I.out _ _ _).mono ?_;rintro r u3 ⟨⟨v3,rfl⟩,J,K3,L,N⟩)
    rw [b.out];exact bodyPost_ret (results_none rfl _ _ _) rfl ⟨⟨_,rfl⟩,A.out.trans J,K3,L,N.mono A.out.size⟩
   ·have b:=aa (g.out.trans (if_neg ap))
    go_wp2_with (first | (go_at_call 113;refine (ao.out _).mono ?_;rintro r u4 ⟨rfl,ar⟩;have aJ:Hid (Cx wc u4):=I.out.trans (ar.mono I.out.size);clear ar) | (go_at_call 140;refine (H.out _ aJ.out).mono ?_;rintro r u3 ⟨⟨v3,rfl⟩,J,K3,L,N⟩))
    rw [b.out];exact bodyPost_end (results_none rfl _ _ _) rfl ⟨⟨_,rfl⟩,A.out.trans J,K3,L,N.mono A.out.size⟩
theorem mX (w:World)(M:Nat)(pa ja sa:Option Addr)(pc jc sc:Nat)(ps:List af)(js:List aj)(ss:List af)(CA:List bg)(R:Hid (bo ps js ss))(KT O M2:Nat)(hT:Hid (cB w KT M pa ja sa pc jc sc ps js ss))(at_:Int)(la:Option Addr)(lc bs:Nat)(hL:Hid (aT w la CA)):∀ n,mQ w ps js ss CA KT O M2 at_ la lc bs n
 | 0=>fun K st e W hB hv hn=>by
  have:=hB.seen.few;omega
 | n+1=>rS w M pa ja sa pc jc sc ps js ss CA R KT O M2 hT at_ la lc bs hL n (mX w M pa ja sa pc jc sc ps js ss CA R KT O M2 hT at_ la lc bs hL n)
theorem vy {B e s n:Nat}{x:Option Addr}{y:Nat}{xs:List Value}(h:w.ownsRow B e s (.slice x n y) n xs)(hx:x=none):n=0/\y=0:=by
 rcases h.2 with ⟨h1,h2⟩ | ⟨g,a,b,h1,_⟩
 ·injection h1 with _ _ h3;exact ⟨h2,h3⟩
 ·injection h1 with h3;rw [hx] at h3;cases h3
theorem AH {B e s n:Nat}{x:Option Addr}{y:Nat}{xs:List Value}(h:w.ownsRow B e s (.slice x n y) n xs):∀ ad,x=some ad->∀ j u,xs[j]? = some u->w.cell? (ad.add j)=some u:=by
 intro ad hx j u hu;rcases h.2 with ⟨h1,h2⟩ | ⟨g,a,b,h1,_⟩
 ·injection h1 with h3;rw [hx] at h3;cases h3
 ·injection h1 with h3;rw [hx] at h3;injection h3 with h3;rw [h3];exact h.cells (by rw [hx,h3];rfl) j u hu
theorem sV (KT M:Nat)(pa ja sa:Option Addr)(pc jc sc:Nat)(ps:List af)(js:List aj)(ss:List af)(CA:List bg)(R:Hid (bo ps js ss))(la:Option Addr)(lc:Nat)(w:World)(hT:Hid (cB w KT M pa ja sa pc jc sc ps js ss))(hL:Hid (aT w la CA))
  (hlv:Hid (∀ l ∈ CA,∃ (j:Nat) (hj:j<js.length),l.CB=j/\js[j].kind=3/\(l.side=1\/l.side=2))) (hll:CA.length<=120) :
  Calls prog 85 #[.pointer (some ⟨KT,0,none⟩),.slice la CA.length lc] w fun e w' => ∃ x y,e = .returned (.slice x (aS ps js ss CA CA).length y)/\w'.ownsRow w.heap.size 50 4 (.slice x (aS ps js ss CA CA).length y) (aS ps js ss CA CA).length (bO (aS ps js ss CA CA))/\Cx w w':=by
 have T := @run_makeMap prog;have aU:=R.out.np
 go_enter func85,ntmps85
 go_wp2_with fail
 go_loopw [5,11] (fun v c wr => ∃ (m:Nat) (x:Option Addr) (y:Nat),m<=CA.length/\c = .int .i64 m/\v = .slice x (aS ps js ss CA (CA.take m)).length y/\Hid (wr.ownsRow w.heap.size 50 4 (.slice x (aS ps js ss CA (CA.take m)).length y) (aS ps js ss CA (CA.take m)).length (bO (aS ps js ss CA (CA.take m))))/\Hid ((aS ps js ss CA (CA.take m)).length<=200*m)/\Cx w wr) (fun _ c _=>CA.length-(intOf c).toNat)
 case atStart=>exact ⟨0,none,0,Nat.zero_le _,rfl,rfl,⟨rfl,Or.inl ⟨rfl,rfl⟩⟩,Nat.zero_le _,Below.refl _ _⟩
 case round =>
  obtain ⟨m,x,y,hm,rfl,rfl,HO,r,hb⟩:=hrel;have aV:=hb.size;have HB:=aa hb
  by_cases g:m<CA.length
  ·have ao:(m:Int)<CA.length:=CG
   obtain ⟨bl,ol,rfl,U⟩:=(hL.out.below hb).2.resolve_left (nz g);obtain ⟨l0,l1⟩:=U m g;have ap:=ai l0;dsimp only at ap;obtain ⟨j,hj,s,ar,au⟩:=hlv.out CA[m] (List.getElem_mem g);have h:=aa (hT.out.below hb);have av:js[j].ends.length=3:=by have:=(R.out.kind j hj).2.2;omega
   obtain ⟨t,A,ht⟩:∃ t:Nat,(t:Int)=3-CA[m].side/\t<js[j].ends.length:=⟨(3-CA[m].side).toNat,CG,CG⟩
   have b:Hid (aS ps js ss CA (CA.take (m+1))=aS ps js ss CA (CA.take m)++(bJ js ss CA (j:Int) (cI ps) ([],[]) (aY js j t)).2):=by
    unfold Hid;rw [List.take_succ_eq_append_getElem g,j9,s,<-A];simp
   have n:bM ps (aY js j t):=by rw [du hj ht];exact R.out.ends j hj t ht
   have B:=jp R.out CA (j:Int) (cI ps) ([],[]) (aY js j t) (eZ.nil ps) n;have aw:=B.1.few;have W:=B.2.2;simp only [List.length_nil] at W;have C:Hid ((bJ js ss CA (j:Int) (cI ps) ([],[]) (aY js j t)).2.length<=200):=by unfold Hid;omega
   have c1:=h.out.net.c1;obtain ⟨bj,oj,X,d⟩:=h.out.net.J.2.2.resolve_left (nz hj);rw [X] at c1;obtain ⟨_,_,ea,ec,c3,c4⟩:=d j hj;obtain ⟨be,oe,Y,Z⟩:=c4.2.resolve_left (nz ht);rw [Y] at c3;obtain ⟨g0,g1⟩:=Z t ht;have ab:=du hj ht;rw [<-ab] at g0 g1;rw [s] at l0;have aW:(j:Int)<js.length:=CG
   have ax:(t:Int)<js[j].ends.length:=CG
   have ay:=h.out.net.J.1;unfold maxLen at ay;have ac:Hid (∀ u:World,Calls prog 118 #[.int .i64 CA[m].side] u fun e w'=>e = .returned (.int .i64 (t:Int))/\Cx u w'):=fun u=>by
    rw [A];exact mM CA[m].side u CG CG
   have D:0<=CA[m].side:=CG
   have ad:=aa n;generalize aA:aY js j t=en at b n C g0 g1 ad;generalize aB:CA[m].side=sd at ac l1 D;generalize E:js[j].ends.length=el at c3 ax;have aC:=ai c1;have H:=ai c3;have aD:=ai g0;dsimp only at aC H aD;have aE:Hid (aT wr (some ⟨bl,ol,none⟩) CA):=hL.out.below hb;clear U d Z c4 B aw W n ab s au A ar av aA aB E X Y;obtain ⟨F,hF⟩:∃ F,aS ps js ss CA (CA.take m)=F:=⟨_,rfl⟩;rw [hF] at HO r b ⊢;obtain ⟨G,hG⟩:∃ G,bJ js ss CA (j:Int) (cI ps) ([],[]) en=G:=⟨_,rfl⟩;rw [hG] at b C;have aF:Hid (∀ K V O M2 bs,eH wr ps KT O M2 (j:Int) (some ⟨bl,ol,none⟩) CA.length lc bs K ([],[]) V->Calls prog 117 #[.pointer (some ⟨O,0,none⟩),.agg #[.int .i64 en.CB,.int .i64 en.side]] V (fi wr ps KT O M2 (j:Int) (some ⟨bl,ol,none⟩) CA.length lc bs G K V)):=fun K V O M2 bs q=>by
    have z:=mX wr M pa ja sa pc jc sc ps js ss CA R KT O M2 h (j:Int) (some ⟨bl,ol,none⟩) lc bs aE (cI ps) K ([],[]) en V q ad.out (by unfold cI;simp)
    rw [hG] at z;exact z
   clear hF hG
   go_upto_region 6 with fail
   generalize hV:World.alloc (World.alloc (World.alloc wr _) _) _=V;have a:Cx wr V:=by rw [<-hV];exact blo
   have b0:V.cell? ⟨wr.heap.size,0,none⟩=some (.int .i64 (j:Int)):=by rw [<-hV];simp [go_sem]
   have b1:V.cell? ⟨wr.heap.size,1,none⟩=some (.int .i64 sd):=by rw [<-hV];simp [go_sem]
   have ag:V.heap.size=wr.heap.size+1+1+1:=by rw [<-hV];simp
   have aG:Hid (eH wr ps KT (wr.heap.size+1+1) (wr.heap.size+1) (j:Int) (some ⟨bl,ol,none⟩) CA.length lc (wr.heap.size+1+1+1) (fun k=>k=wr.heap.size+1+1\/k=wr.heap.size+1) ([],[]) V):=by
    refine ⟨a,⟨none,0,?_,⟨rfl,Or.inl ⟨rfl,rfl⟩⟩,fun k=>by simp [Value.ownBlock]⟩,?_,CG,CG,eZ.nil ps,Nat.le_refl _⟩
    ·rw [<-hV];have q:=cG ((wr.alloc (Obj.cells #[Value.int .i64 (j:Int),.int .i64 sd] 52)).alloc (Obj.map #[] 0)) (sS KT (wr.heap.size+1) (j:Int) (some ⟨bl,ol,none⟩) CA.length lc (.slice none 0 0)) 221;simpa [sS] using q
    ·rw [<-hV];have q:=(bT.made 114 (wr.alloc (Obj.cells #[Value.int .i64 (j:Int),.int .i64 sd] 52))).below (show Below _ _ (World.alloc _ (Obj.cells #[Value.pointer (some ⟨KT,0,none⟩),.slice (some ⟨bl,ol,none⟩) CA.length lc,.int .i64 (j:Int),.map (some (wr.heap.size+1)),.slice none 0 0] 221)) from CV.alloc CW _)
     have e:(fun _:Value=>(0:Int))=gX Classical.propDecidable []:=by
      funext v
      unfold gX;rw [if_neg (by rintro ⟨x,hx,_⟩;cases hx)]
     rw [e] at q;simpa using q
   clear hV;replace c1:=cell_later a c1;replace c3:=cell_later a c3;replace g0:=cell_later a g0;replace g1:=cell_later a g1;have aX:=aa a;have aZ:=aa ag;have aH:wr.heap.size<V.heap.size:=CG
   obtain ⟨S,hS⟩:∃ S:World->Prop,∀ u,S u↔Cx V u:=⟨_,fun _=>Iff.rfl⟩
   have aI:=aa hS;have r0:∀ u:an S,World.cell? u.val ⟨KT,1,none⟩=some (.slice (some ⟨bj,oj,none⟩) js.length jc):=fun u=>cell_later ((hS u.val).1 u.2) c1
   have r1:∀ u:an S,World.cell? u.val ⟨wr.heap.size,0,none⟩=some (.int .i64 (j:Int)):=fun u=>cell_later ((hS u.val).1 u.2) b0
   have r2:∀ u:an S,World.cell? u.val ⟨wr.heap.size,1,none⟩=some (.int .i64 sd):=fun u=>cell_later ((hS u.val).1 u.2) b1
   have r3:=fun u:an S=>cell_later ((hS u.val).1 u.2) c3
   have r4:=fun u:an S=>cell_later ((hS u.val).1 u.2) g0
   have r5:=fun u:an S=>cell_later ((hS u.val).1 u.2) g1
   have I:S V.drew:=(hS _).2 (CV.drew);have hne:=aQ I;clear hS a ag b0 b1 c1 c3 g0 g1 T;refine bW 15 I ?_
   (refine ae 0 ?_;intro K hK;go_big_quiet_op;go_big_quiet_on);(refine ae 1 ?_;intro K hK;go_big_quiet_op;go_big_quiet_on);(refine ae 2 ?_;intro K hK;go_big_quiet_op;go_big_quiet_on);(refine ae 3 ?_;intro K hK;go_big_quiet_op;go_big_quiet_on);(refine ae 4 ?_;intro K hK;go_big_quiet_op;go_big_quiet_on);(refine ae 5 ?_;intro K hK;go_big_quiet_op;go_big_quiet_on);(refine ae 6 ?_;intro K hK;go_big_quiet_op;go_big_quiet_on);(refine ae 7 ?_;intro K hK;go_big_quiet_op;go_big_quiet_on);(refine ae 8 ?_;intro K hK;go_big_quiet_op;go_big_quiet_on);(refine ae 9 ?_;intro K hK;go_big_quiet_op;go_big_quiet_on);(refine ae 10 ?_;intro K hK;go_big_quiet_op;go_big_quiet_on);(refine ae 11 ?_;intro K hK;go_big_quiet_op;go_big_quiet_on)
   refine az 12 ?_;intro KK hK
   go_wp2_with (go_at_call 118;refine (ac.out _).mono ?_;rintro e u2 ⟨rfl,f⟩)
   have o:Cx V u2:=CV.drew.trans f;refine hK _ _ (ak ((aI.out _).2 o)) ?_;clear hK KK f
   (refine ae 13 ?_;intro K hK;go_big_quiet_op;go_big_quiet_on);(refine ae 14 ?_;intro K hK;go_big_quiet_op;go_big_quiet_on)
   clear r0 r1 r2 r3 r4 r5 I hne;have a0:=aa o;have aJ:=aa (aF.out _ u2 _ _ _ (aG.out.keep o));clear o;refine a9 ?_
   go_upto_region 7 with (go_at_call 117;refine aJ.out.mono ?_;rintro e u3 ⟨⟨v3,rfl⟩,aK,K3,p,aL⟩)
   obtain ⟨x3,y3,q1,q2,_⟩:=p.own;have o4:u3.cell? ⟨wr.heap.size+1+1,4,none⟩=some (.slice x3 G.2.length y3):=q1.cell (i:=4) CG
   have a1:=q1.lt;have ah:=aa (aq HO.out p.below);have L:=aa q2;have al:=p.below;have am:Hid (Cx w u3):=HB.out.trans (al.mono HB.out.size);have H:=am.out.size;have aM:=r.out;have aN:=C.out;clear p q1 q2 aK aL al
   go_wp2_with (at_builtin;refine ev rfl (.tmp 37) (.tmp 39) 42 rfl w.heap.size 50 _ 4 32 underlying42 Tryz.infoFlank rfl CJ (.slice x F.length y) F.length (bO F) rfl ah.out x3 G.2.length y3 (bO G.2) rfl (fun q=>(vy L.out q).2) (nu G.2) (AH L.out) (fun q=>(vy L.out q).1) (rg G.2) CK CG CG ?_;intro v6 w6 t1 t2)
   obtain ⟨x6,y6,e6,_⟩:=ba t1;subst e6;have N:(F++G.2).length=F.length+G.2.length:=CI
   have aO:bO F++bO G.2=bO (F++G.2):=by simp [bO]
   rw [aO,<-N] at t1;have aP:=dw am.out ah.out t2 H
   go_roundw
   case rel =>
    refine ⟨m+1,x6,y6,CG,by go_num,?_,?_,?_,aP⟩
    ·rw [b.out,N]
    ·unfold Hid;rw [b.out];exact t1
    ·unfold Hid;rw [b.out,N];omega
   case measure=>simp [intOf];omega
  ·have aR:m=CA.length:=CG
   have ao:¬ (m:Int)<CA.length:=CG
   subst aR;rw [List.take_length] at HO r;simp only [List.take_length];clear T
   go_wp2_with fail
   go_ret
   exact ⟨x,y,rfl,HO.out,HB.out⟩
end Go.Proofs.YtmkdgnmmebldgaaGreatDoor
namespace Go.Proofs.YtmkdgnmmebldgaaGreatDoor
open Go.RowKit Go.Deep
structure Tab where
 n:Nat->Nat->Nat
 ad:Nat->Nat->Option Addr
 cp:Nat->Nat->Nat
section
variable {G N R:Nat} {t:Tab} {k:Int} {w w':World} {m i q:Nat}
end
end Go.Proofs.YtmkdgnmmebldgaaGreatDoor
namespace Go.Proofs.YtmkdgnmmebldgaaGreatDoor
open Go.RowKit Go.Deep Go.Maps
variable {B:Nat}{d:aL}{r:al}{w:World}
theorem wQ (KT:Nat)(over:Int)(w:World):
  Calls prog 84 #[.pointer (some ⟨KT,0,none⟩),.int .i64 (-1),.int .i64 over] w fun e w'=>e = .returned (.slice none 0 0)/\Cx w w':=by
 go_enter func84,ntmps84
 go_wp2_with fail
 go_ret
 exact ⟨rfl,blo⟩
theorem wF (KT M:Nat)(pa ja sa:Option Addr)(pc jc sc:Nat)(ps:List af)(js:List aj)(ss:List af)(R:Hid (bo ps js ss))(stop:Int)(hst:stop = -1\/∃ i:Nat,i<ss.length/\stop=i)(over:Int)(h0:0<=over)(h1:over<=100000)(w:World)(hT:Hid (cB w KT M pa ja sa pc jc sc ps js ss)):
  Calls prog 84 #[.pointer (some ⟨KT,0,none⟩),.int .i64 stop,.int .i64 over] w fun e w' => ∃ x y,e = .returned (.slice x (dE ps js ss stop over).length y)/\w'.ownsRow w.heap.size 48 3 (.slice x (dE ps js ss stop over).length y) (dE ps js ss stop over).length (bG (dE ps js ss stop over))/\Cx w w':=by
 rcases hst with rfl | ⟨i,hi,rfl⟩
 ·have e:dE ps js ss (-1) over=[]:=by unfold dE;rw [if_pos CG]
  rw [e];refine (wQ KT over w).mono ?_;rintro r w' ⟨rfl,hb⟩;exact ⟨none,0,rfl,⟨rfl,Or.inl ⟨rfl,rfl⟩⟩,hb⟩
 ·exact xJ KT M pa ja sa pc jc sc ps js ss R i hi over h0 h1 w hT
def adR (d:aL):Nat->Option Addr
 | 0=>d.a0
 | 1=>d.a1
 | 2=>d.a2
 | 3=>d.a3
 | 4=>d.a4
 | _=>d.a5
def AdB (a:Option Addr)(b:Nat):Prop := ∃ o s,a=some ⟨b,o,s⟩
structure cU (B:Nat)(w:World)(d:aL)(r:al):Prop where
 CE:w.ownsRow B 46 2 (.slice d.a0 r.CE.length d.c0) r.CE.length (aG r.CE)
 CA:w.ownsRow B 52 2 (.slice d.a1 r.CA.length d.c1) r.CA.length (aG r.CA)
 Cy:w.ownsRow B 3 1 (.slice d.a2 r.Cy.length d.c2) r.Cy.length (bP r.Cy)
 CF:w.ownsRow B 48 3 (.slice d.a3 r.CF.length d.c3) r.CF.length (bG r.CF)
 over:w.ownsRow B 48 3 (.slice d.a4 r.over.length d.c4) r.over.length (bG r.over)
 Cz:w.ownsRow B 50 4 (.slice d.a5 r.Cz.length d.c5) r.Cz.length (bO r.Cz)
 dis:∀ i j,i<6->j<6->∀ b,AdB (adR d i) b->AdB (adR d j) b->i=j
theorem dV {B' e s n:Nat}{v:Value}{xs:List Value}(h:w.ownsRow B e s v n xs)(hB:B'<=B):w.ownsRow B' e s v n xs:=
 ⟨h.1,h.2.imp id fun ⟨g,cap,cur,q1,q2,q3⟩=>⟨g,cap,cur,q1,Nat.le_trans hB q2,q3⟩⟩
theorem eC {e s n:Nat}{x:Option Addr}{y:Nat}{xs:List Value}(h:w.ownsRow B e s (.slice x n y) n xs):∀ b,AdB x b->B<=b/\b<w.heap.size:=by
 rintro b ⟨o,sb,hx⟩;refine h.lt b ?_;rw [hx];rfl
theorem cU.blk (h:cU B w d r):∀ j,j<6->∀ b,AdB (adR d j) b->B<=b/\b<w.heap.size:=by
 intro j hj b hb
 match j,hj with
 | 0,_=>exact eC h.CE b hb
 | 1,_=>exact eC h.CA b hb
 | 2,_=>exact eC h.Cy b hb
 | 3,_=>exact eC h.CF b hb
 | 4,_=>exact eC h.over b hb
 | 5,_=>exact eC h.Cz b hb
theorem zL {w0 w1 w2 w3 w4 w5 w6:World}
  (h0:w1.ownsRow w0.heap.size 46 2 (.slice d.a0 r.CE.length d.c0) r.CE.length (aG r.CE)) (b1:Cx w1 w2)
  (h1:w2.ownsRow w1.heap.size 52 2 (.slice d.a1 r.CA.length d.c1) r.CA.length (aG r.CA)) (b2:Cx w2 w3)
  (h2:w3.ownsRow w2.heap.size 3 1 (.slice d.a2 r.Cy.length d.c2) r.Cy.length (bP r.Cy)) (b3:Cx w3 w4)
  (h3:w4.ownsRow w3.heap.size 48 3 (.slice d.a3 r.CF.length d.c3) r.CF.length (bG r.CF)) (b4:Cx w4 w5)
  (h4:w5.ownsRow w4.heap.size 48 3 (.slice d.a4 r.over.length d.c4) r.over.length (bG r.over)) (b5:Cx w5 w6)
  (h5:w6.ownsRow w5.heap.size 50 4 (.slice d.a5 r.Cz.length d.c5) r.Cz.length (bO r.Cz)) (b6:Cx w6 w) (hw:w0.heap.size<=w1.heap.size):cU w0.heap.size w d r:=by
 have z1:=b1.size;have z2:=b2.size;have z3:=b3.size;have z4:=b4.size;have z5:=b5.size;have z6:=b6.size;have c5:=b6;have c4:=b5.trans (b6.mono z5);have c3:=b4.trans (c4.mono z4);have c2:=b3.trans (c3.mono z3);have c1:=b2.trans (c2.mono z2);have c0:=b1.trans (c1.mono z1);refine ⟨aq h0 c0,dV (aq h1 c1) hw,dV (aq h2 c2) CG,dV (aq h3 c3) CG,dV (aq h4 c4) CG,dV (aq h5 c5) CG,?_⟩
 have k:∀ j,j<6->∀ b,AdB (adR d j) b->(j=0/\b<w1.heap.size)\/(j=1/\w1.heap.size<=b/\b<w2.heap.size)\/(j=2/\w2.heap.size<=b/\b<w3.heap.size)\/(j=3/\w3.heap.size<=b/\b<w4.heap.size)\/(j=4/\w4.heap.size<=b/\b<w5.heap.size)\/(j=5/\w5.heap.size<=b):=by
  intro j hj b hb
  match j,hj with
  | 0,_=>have:=eC h0 b hb;omega
  | 1,_=>have:=eC h1 b hb;omega
  | 2,_=>have:=eC h2 b hb;omega
  | 3,_=>have:=eC h3 b hb;omega
  | 4,_=>have:=eC h4 b hb;omega
  | 5,_=>have:=eC h5 b hb;omega
 intro i j hi hj b a c;have q1:=k i hi b a;have q2:=k j hj b c;omega
structure lm (ps:List af)(js:List aj)(ss:List af)(p:aw):Prop where
 s0:0<p.CE.length
 s1:p.CE.length<=202
 sv:∀ s ∈ p.CE,eR ps s
 start:∃ i:Nat,i<ss.length/\p.start=i
 stop:p.stop = -1\/∃ i:Nat,i<ss.length/\p.stop=i
 lv:∀ l ∈ p.CA,∃ (j:Nat) (hj:j<js.length),l.CB=j/\js[j].kind=3/\(l.side=1\/l.side=2)
 ll:p.CA.length<=120
 cl:p.Cy.length<=202
theorem cU.only {w':World}(h:cU B w d r){K:Nat->Prop}(hO:ag K w w')(hK:∀ k,K k->k<B):cU B w' d r:=
 ⟨cA h.CE hO hK,cA h.CA hO hK,cA h.Cy hO hK,cA h.CF hO hK,cA h.over hO hK,cA h.Cz hO hK,h.dis⟩
theorem cU.mono {B':Nat}(h:cU B w d r)(hB:B'<=B):cU B' w d r:=
 ⟨dV h.CE hB,dV h.CA hB,dV h.Cy hB,dV h.CF hB,dV h.over hB,dV h.Cz hB,h.dis⟩
def kB (ps:List af)(js:List aj)(ss:List af)(over:Int)(p:aw)(w:World)(e:Ending)(w':World):Prop:=
 ∃ d',e = .returned (cC d' (dr ps js ss over p))/\cU w.heap.size w' d' (dr ps js ss over p)/\Cx w w'
theorem va (KT M:Nat)(pa ja sa:Option Addr)(pc jc sc:Nat)(ps:List af)(js:List aj)(ss:List af)(R:Hid (bo ps js ss))(d:cH)(p:aw)(hp:Hid (lm ps js ss p))(over:Int)(ho0:0<=over)(ho1:over<=100000)(w:World)(hT:Hid (cB w KT M pa ja sa pc jc sc ps js ss))(h:Hid (bI w d p)):
  Calls prog 40 #[.pointer (some ⟨KT,0,none⟩),dB d p,.int .i64 over] w (kB ps js ss over p w):=by
 have Y:=hp.out.s1;have O:=hp.out.ll;have ab:=hp.out.cl;have E:Hid (∀ u:World,Cx w u->Calls prog 83 #[.pointer (some ⟨KT,0,none⟩),.agg #[.int .i64 p.start,.int .i64 p.stop,.bool p.ended,.slice d.a0 p.CE.length d.c0,.slice d.a1 p.CA.length d.c1,.slice d.a2 p.Cy.length d.c2]] u fun e w' => ∃ x y,e = .returned (.slice x (cY ps ss p).length y)/\w'.ownsRow u.heap.size 48 3 (.slice x (cY ps ss p).length y) (cY ps ss p).length (bG (cY ps ss p))/\Cx u w'):=fun u hu =>
  uP KT pa ja sa pc jc sc ps js ss d p u (hT.out.below hu).net (h.out.below hu) hp.out.s0 CG hp.out.sv hp.out.start hp.out.stop
 have F:Hid (∀ u:World,Cx w u->Calls prog 84 #[.pointer (some ⟨KT,0,none⟩),.int .i64 p.stop,.int .i64 over] u fun e w' => ∃ x y,e = .returned (.slice x (dE ps js ss p.stop over).length y)/\w'.ownsRow u.heap.size 48 3 (.slice x (dE ps js ss p.stop over).length y) (dE ps js ss p.stop over).length (bG (dE ps js ss p.stop over))/\Cx u w'):=fun u hu =>
  wF KT M pa ja sa pc jc sc ps js ss R p.stop hp.out.stop over ho0 ho1 u (hT.out.below hu)
 have G:Hid (∀ u:World,Cx w u->Calls prog 85 #[.pointer (some ⟨KT,0,none⟩),.slice d.a1 p.CA.length d.c1] u fun e w' => ∃ x y,e = .returned (.slice x (aS ps js ss p.CA p.CA).length y)/\w'.ownsRow u.heap.size 50 4 (.slice x (aS ps js ss p.CA p.CA).length y) (aS ps js ss p.CA p.CA).length (bO (aS ps js ss p.CA p.CA))/\Cx u w'):=fun u hu =>
  sV KT M pa ja sa pc jc sc ps js ss p.CA R d.a1 d.c1 u (hT.out.below hu) (h.out.CA.below hu) hp.out.lv O
 have C:Hid (dr ps js ss over p=⟨p.start,p.stop,p.CE,p.CA,p.Cy,cY ps ss p,dE ps js ss p.stop over,aS ps js ss p.CA p.CA⟩):=rfl;generalize cY ps ss p=PA at E C;generalize dE ps js ss p.stop over=OV at F C;generalize aS ps js ss p.CA p.CA=FL at G C;unfold dB
 go_enter func40,ntmps40
 go_upto_region 1 with fail
 generalize hW:World.alloc (World.alloc w _) _=W;have H:Cx w W:=by rw [<-hW];exact blo
 have x0:W.cell? ⟨w.heap.size,0,none⟩=some (.int .i64 p.start):=by rw [<-hW];simp [go_sem]
 have x1:W.cell? ⟨w.heap.size,1,none⟩=some (.int .i64 p.stop):=by rw [<-hW];simp [go_sem]
 have x2:W.cell? ⟨w.heap.size,2,none⟩=some (.bool p.ended):=by rw [<-hW];simp [go_sem]
 have x3:W.cell? ⟨w.heap.size,3,none⟩=some (.slice d.a0 p.CE.length d.c0):=by rw [<-hW];simp [go_sem]
 have x4:W.cell? ⟨w.heap.size,4,none⟩=some (.slice d.a1 p.CA.length d.c1):=by rw [<-hW];simp [go_sem]
 have x5:W.cell? ⟨w.heap.size,5,none⟩=some (.slice d.a2 p.Cy.length d.c2):=by rw [<-hW];simp [go_sem]
 have I:W.heap.size=w.heap.size+1+1:=by rw [<-hW];simp
 have T:Hid (∃ f,W.rowIs (w.heap.size+1) 44 8 f):=by
  unfold Hid;rw [<-hW];have q:=cG (w.alloc (Obj.cells #[Value.int .i64 p.start,.int .i64 p.stop,.bool p.ended,.slice d.a0 p.CE.length d.c0,.slice d.a1 p.CA.length d.c1,.slice d.a2 p.Cy.length d.c2] 94)) #[.int .i64 0,.int .i64 0,.slice none 0 0,.slice none 0 0,.slice none 0 0,.slice none 0 0,.slice none 0 0,.slice none 0 0] 44;have e:(w.alloc (Obj.cells #[Value.int .i64 p.start,.int .i64 p.stop,.bool p.ended,.slice d.a0 p.CE.length d.c0,.slice d.a1 p.CA.length d.c1,.slice d.a2 p.Cy.length d.c2] 94)).heap.size=w.heap.size+1:=CI
  rw [e] at q;exact ⟨_,q⟩
 have a:=aa H;have U:=aa I;have ac:w.heap.size<W.heap.size:=CG
 obtain ⟨S,hS⟩:∃ S:World->Prop,∀ u,S u↔Cx W u:=⟨_,fun _=>Iff.rfl⟩
 have c:=aa hS;have r0:∀ u:an S,World.cell? u.val ⟨w.heap.size,0,none⟩=some (.int .i64 p.start):=fun u=>cell_later ((hS u.val).1 u.2) x0
 have r1:∀ u:an S,World.cell? u.val ⟨w.heap.size,1,none⟩=some (.int .i64 p.stop):=fun u=>cell_later ((hS u.val).1 u.2) x1
 have r2:∀ u:an S,World.cell? u.val ⟨w.heap.size,2,none⟩=some (.bool p.ended):=fun u=>cell_later ((hS u.val).1 u.2) x2
 have r3:∀ u:an S,World.cell? u.val ⟨w.heap.size,3,none⟩=some (.slice d.a0 p.CE.length d.c0):=fun u=>cell_later ((hS u.val).1 u.2) x3
 have r4:∀ u:an S,World.cell? u.val ⟨w.heap.size,4,none⟩=some (.slice d.a1 p.CA.length d.c1):=fun u=>cell_later ((hS u.val).1 u.2) x4
 have r5:∀ u:an S,World.cell? u.val ⟨w.heap.size,5,none⟩=some (.slice d.a2 p.Cy.length d.c2):=fun u=>cell_later ((hS u.val).1 u.2) x5
 have D:S W.drew:=(hS _).2 (CV.drew);have hne:=aQ D;clear hS hW H I x0 x1 x2 x3 x4 x5;refine bW 25 D ?_
 (refine ae 0 ?_;intro K hK;go_big_quiet_op;go_big_quiet_on);(refine ae 1 ?_;intro K hK;go_big_quiet_op;go_big_quiet_on);(refine ae 2 ?_;intro K hK;go_big_quiet_op;go_big_quiet_on);(refine ae 3 ?_;intro K hK;go_big_quiet_op;go_big_quiet_on);(refine ae 4 ?_;intro K hK;go_big_quiet_op;go_big_quiet_on);(refine ae 5 ?_;intro K hK;go_big_quiet_op;go_big_quiet_on)
 (refine ae 7 ?_;intro K hK;go_big_quiet_op;go_big_quiet_on);(refine ae 8 ?_;intro K hK;go_big_quiet_op;go_big_quiet_on)
 (refine ae 10 ?_;intro K hK;go_big_quiet_op;go_big_quiet_on);(refine ae 11 ?_;intro K hK;go_big_quiet_op;go_big_quiet_on)
 (refine ae 13 ?_;intro K hK;go_big_quiet_op;go_big_quiet_on);(refine ae 14 ?_;intro K hK;go_big_quiet_op;go_big_quiet_on)
 (refine ae 16 ?_;intro K hK;go_big_quiet_op;go_big_quiet_on);(refine ae 17 ?_;intro K hK;go_big_quiet_op;go_big_quiet_on);(refine ae 18 ?_;intro K hK;go_big_quiet_op;go_big_quiet_on);(refine ae 19 ?_;intro K hK;go_big_quiet_op;go_big_quiet_on)
 (refine ae 21 ?_;intro K hK;go_big_quiet_op;go_big_quiet_on);(refine ae 22 ?_;intro K hK;go_big_quiet_op;go_big_quiet_on);(refine ae 23 ?_;intro K hK;go_big_quiet_op;go_big_quiet_on)
 clear r0 r1 r2 r3 r4 r5;refine az 6 ?_;intro KK hK
 show wpList prog _ _ [_] _ _
 refine eu rfl (.tmp 12) 38 rfl 46 _ 2 16 underlying38 Tryz.infoStep rfl CJ d.a0 p.CE.length d.c0 (aG p.CE) rfl h.out.nil0 (eL _) (kz ((h.out.CE.below a.out).below (CV.drew))) (fT _) h.out.CE.1 CG ?_
 intro g j w1 o1 b1;have J:Cx W w1:=CV.drew.trans b1;have O1:=aa o1;have B1:=aa J;clear o1 b1 J
 go_wp2_with fail
 refine hK _ _ (ak ((c.out _).2 B1.out)) ?_;clear hK KK;refine az 9 ?_;intro KK hK
 show wpList prog _ _ [_] _ _
 refine eu rfl (.tmp 15) 39 rfl 52 _ 2 16 underlying39 Tryz.infoLie rfl CJ d.a1 p.CA.length d.c1 (aG p.CA) rfl h.out.nil1 (eL _) (kz ((h.out.CA.below a.out).below B1.out)) (fT _) h.out.CA.1 CG ?_
 intro l m w2 o2 b2;have O2:=aa o2;have B2:=aa b2;have C2:Hid (Cx W w2):=B1.out.trans (b2.mono B1.out.size);clear o2 b2
 go_wp2_with fail
 refine hK _ _ (ak ((c.out _).2 C2.out)) ?_;clear hK KK;refine az 12 ?_;intro KK hK
 show wpList prog _ _ [_] _ _
 refine eu rfl (.tmp 18) 40 rfl 3 _ 1 8 underlying40 Tryz.infoInt rfl CJ d.a2 p.Cy.length d.c2 (bP p.Cy) rfl h.out.nil2 (gS _) (sM ((h.out.Cy.below a.out).below C2.out)) (kD _) h.out.Cy.1 CG ?_
 intro n o w3 o3 b3;have O3:=aa o3;have B3:=aa b3;have C3:Hid (Cx W w3):=C2.out.trans (b3.mono C2.out.size);clear o3 b3
 go_wp2_with fail
 refine hK _ _ (ak ((c.out _).2 C3.out)) ?_;clear hK KK;refine az 15 ?_;intro KK hK
 go_wp2_with (go_at_call 83;refine (E.out _ (a.out.trans (C3.out.mono a.out.size))).mono ?_;rintro e w4 ⟨r,s,rfl,o4,b4⟩)
 have O4:=aa o4;have B4:=aa b4;have C4:Hid (Cx W w4):=C3.out.trans (b4.mono C3.out.size);clear o4 b4;refine hK _ _ (ak ((c.out _).2 C4.out)) ?_;clear hK KK;refine az 20 ?_;intro KK hK
 go_wp2_with (go_at_call 84;refine (F.out _ (a.out.trans (C4.out.mono a.out.size))).mono ?_;rintro e w5 ⟨t,z,rfl,o5,b5⟩)
 have O5:=aa o5;have B5:=aa b5;have C5:Hid (Cx W w5):=C4.out.trans (b5.mono C4.out.size);clear o5 b5;refine hK _ _ (ak ((c.out _).2 C5.out)) ?_;clear hK KK;refine az 24 ?_;intro KK hK
 go_wp2_with (go_at_call 85;refine (G.out _ (a.out.trans (C5.out.mono a.out.size))).mono ?_;rintro e w6 ⟨A,B,rfl,o6,b6⟩)
 have O6:=aa o6;have B6:=aa b6;have C6:Hid (Cx W w6):=C5.out.trans (b6.mono C5.out.size);clear o6 b6;refine hK _ _ (ak ((c.out _).2 C6.out)) ?_;clear hK KK D hne;refine a9 ?_;obtain ⟨f,hf⟩:=T.out;have hr:=hf.of_block (C6.out.block _ hf.lt);have g0:=hr.cell (i:=0) CG
 have g1:=hr.cell (i:=1) CG
 have g2:=hr.cell (i:=2) CG
 have g3:=hr.cell (i:=3) CG
 have g4:=hr.cell (i:=4) CG
 have g5:=hr.cell (i:=5) CG
 have g6:=hr.cell (i:=6) CG
 have g7:=hr.cell (i:=7) CG
 have f0:=hr.frozen 0;have f1:=hr.frozen 1;have f2:=hr.frozen 2;have f3:=hr.frozen 3;have f4:=hr.frozen 4;have f5:=hr.frozen 5;have f6:=hr.frozen 6;have f7:=hr.frozen 7;have ad:=hr.lt;have HR:=aa hr;clear hr hf
 go_wp2_with fail
 generalize hZ:World.setCell (World.setCell (World.setCell (World.setCell (World.setCell (World.setCell (World.setCell (World.setCell w6 _ _) _ _) _ _) _ _) _ _) _ _) _ _) _ _=Z;have b:=(((((((HR.out.set 0 (.int .i64 p.start)).set 1 (.int .i64 p.stop)).set 2 (.slice g p.CE.length j)).set 3 (.slice l p.CA.length m)).set 4 (.slice n p.Cy.length o)).set 5 (.slice r PA.length s)).set 6 (.slice t OV.length z)).set 7 (.slice A FL.length B);rw [hZ] at b;have L:ag (fun k=>k=w.heap.size+1) w6 Z:=by
  rw [<-hZ];exact ((((((((ag.refl (fun k=>k=w.heap.size+1) w6).setCell (p:=⟨w.heap.size+1,0,none⟩) (Or.inl rfl) _).setCell (p:=⟨w.heap.size+1,1,none⟩) (Or.inl rfl) _).setCell (p:=⟨w.heap.size+1,2,none⟩) (Or.inl rfl) _).setCell (p:=⟨w.heap.size+1,3,none⟩) (Or.inl rfl) _).setCell (p:=⟨w.heap.size+1,4,none⟩) (Or.inl rfl) _).setCell (p:=⟨w.heap.size+1,5,none⟩) (Or.inl rfl) _).setCell (p:=⟨w.heap.size+1,6,none⟩) (Or.inl rfl) _).setCell (p:=⟨w.heap.size+1,7,none⟩) (Or.inl rfl) _
 clear hZ;have z0:Z.cell? ⟨w.heap.size+1,0,none⟩=some (.int .i64 p.start):=(b.cell (i:=0) CG).trans CI
 have z1:Z.cell? ⟨w.heap.size+1,1,none⟩=some (.int .i64 p.stop):=(b.cell (i:=1) CG).trans CI
 have z2:Z.cell? ⟨w.heap.size+1,2,none⟩=some (.slice g p.CE.length j):=(b.cell (i:=2) CG).trans CI
 have z3:Z.cell? ⟨w.heap.size+1,3,none⟩=some (.slice l p.CA.length m):=(b.cell (i:=3) CG).trans CI
 have z4:Z.cell? ⟨w.heap.size+1,4,none⟩=some (.slice n p.Cy.length o):=(b.cell (i:=4) CG).trans CI
 have z5:Z.cell? ⟨w.heap.size+1,5,none⟩=some (.slice r PA.length s):=(b.cell (i:=5) CG).trans CI
 have z6:Z.cell? ⟨w.heap.size+1,6,none⟩=some (.slice t OV.length z):=(b.cell (i:=6) CG).trans CI
 have z7:Z.cell? ⟨w.heap.size+1,7,none⟩=some (.slice A FL.length B):=(b.cell (i:=7) CG).trans CI
 have ah:=U.out;have V:cU W.drew.heap.size w6 ⟨g,j,l,m,n,o,r,s,t,z,A,B⟩ ⟨p.start,p.stop,p.CE,p.CA,p.Cy,PA,OV,FL⟩:=zL O1.out B2.out O2.out B3.out O3.out B4.out O4.out B5.out O5.out B6.out O6.out CV B1.out.size;have X:cU W.heap.size Z ⟨g,j,l,m,n,o,r,s,t,z,A,B⟩ ⟨p.start,p.stop,p.CE,p.CA,p.Cy,PA,OV,FL⟩:=V.only L (fun k hk=>by show k<W.heap.size;omega)
 have N:Cx w w6:=a.out.trans (C6.out.mono a.out.size);refine bodyPost_ret (v:=cC ⟨g,j,l,m,n,o,r,s,t,z,A,B⟩ ⟨p.start,p.stop,p.CE,p.CA,p.Cy,PA,OV,FL⟩) (by simp [cC,results,results40,go_sem,z0,z1,z2,z3,z4,z5,z6,z7]) rfl ?_
 unfold kB;rw [C.out];exact ⟨_,rfl,X.mono CG,N.trans (L.below N.size (fun k hk e=>CG))⟩
end Go.Proofs.YtmkdgnmmebldgaaGreatDoor
