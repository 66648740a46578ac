import Derived.Test.YtmkdgnmmebldgabGreatDoorPl27
import Derived.Test.YtmkdgnmmebldgabGreatDoorPl2
set_option maxRecDepth 100000
set_option maxHeartbeats 8000000
namespace Go.Proofs.YtmkdgnmmebldgabGreatDoor
open Go.RowKit Go.Deep Go.Maps
def seenF (D : ∀ p : Prop, Decidable p) (L : List MEnd) (v : Value) : Int := @ite _ (∃ x,x ∈ L∧endV x=v) (D _) 1 0
theorem seenF_at (L:List MEnd)(e:MEnd):seenF Classical.propDecidable L (endV e)=if L.any (fun x=>sameE x e)=true then 1 else 0:=by
 unfold seenF
 by_cases h:L.any (fun x=>sameE x e)=true
 ·rw [if_pos h,if_pos]
  obtain ⟨x,hx,h2⟩:=List.any_eq_true.1 h
  exact ⟨x,hx,by rw [sameE_iff.1 h2]⟩
 ·rw [if_neg h,if_neg]
  rintro ⟨x,hx,h2⟩
  exact h (List.any_eq_true.2 ⟨x,hx,sameE_iff.2 (endV_inj h2)⟩)
theorem seenF_put {L:List MEnd}{e:MEnd}:seenF Classical.propDecidable (L++[e]) (endV e)=1:=by
 unfold seenF
 rw [if_pos ⟨e,by simp,rfl⟩]
theorem seenF_other {L:List MEnd}{e:MEnd}{v:Value}(h:v≠endV e):seenF Classical.propDecidable (L++[e]) v=seenF Classical.propDecidable L v:=by
 unfold seenF
 by_cases hx:∃ x,x ∈ L∧endV x=v
 ·rw [if_pos hx,if_pos]
  obtain ⟨x,h1,h2⟩:=hx
  exact ⟨x,by simp [h1],h2⟩
 ·rw [if_neg hx,if_neg]
  rintro ⟨x,h1,h2⟩
  rcases List.mem_append.1 h1 with h1 | h1
  ·exact hx ⟨x,h1,h2⟩
  ·have:x=e:=by simpa using h1
   subst this
   exact h h2.symm
def lookC (KT M2:Nat)(at_:Int)(la:Option Addr)(ln lc:Nat)(v:Value):Array Value:=#[.pointer (some ⟨KT,0,none⟩),.slice la ln lc,.int .i64 at_,.map (some M2),v]
structure LBase (w:World)(ps:List MPiece)(KT O M2:Nat)(at_:Int)(la:Option Addr)(ln lc bs:Nat)(K:Nat→Prop)(st:List MEnd × List MFlank)(W:World):Prop where
 below:Below w.heap.size w W
 own:∃ (x:Option Addr) (y:Nat),W.rowIs O 316 5 (fun i=>(lookC KT M2 at_ la ln lc (.slice x st.2.length y)).getD i (.bool false))∧W.ownsRow bs 133 4 (.slice x st.2.length y) st.2.length (flatF st.2) ∧
  ∀ k,K k↔k=O∨k=M2∨(Value.slice x st.2.length y).ownBlock=some k
 map:CMap 192 W M2 st.1.length (seenF Classical.propDecidable st.1)
 low:w.heap.size≤M2∧M2<O∧O<bs
 hi:bs≤W.heap.size
 seen:Seen ps st.1
 fl:st.2.length≤st.1.length
section
variable {w:World} {ps:List MPiece} {KT O M2:Nat} {at_:Int} {la:Option Addr} {ln lc bs:Nat} {K:Nat→Prop} {st:List MEnd × List MFlank} {W W':World}
theorem LBase.lt (h:LBase w ps KT O M2 at_ la ln lc bs K st W):∀ k,K k→k<W.heap.size:=by
 intro k hk
 obtain ⟨x,y,h1,h2,h5⟩:=h.own
 rcases (h5 k).1 hk with rfl | rfl | hk
 ·exact h1.lt
 ·exact h.map.lt
 ·exact (h2.lt k hk).2
theorem LBase.low_own (h:LBase w ps KT O M2 at_ la ln lc bs K st W):∀ k,K k→w.heap.size≤k:=by
 intro k hk
 have hl:=h.low
 obtain ⟨x,y,h1,h2,h5⟩:=h.own
 rcases (h5 k).1 hk with rfl | rfl | hk
 ·omega
 ·omega
 ·have:=(h2.lt k hk).1
  omega
theorem LBase.keep (h:LBase w ps KT O M2 at_ la ln lc bs K st W)(hb:Below W.heap.size W W'):LBase w ps KT O M2 at_ la ln lc bs K st W':=by
 obtain ⟨x,y,h1,h2,h5⟩:=h.own
 exact ⟨h.below.trans (hb.mono h.below.size),⟨x,y,h1.of_block (hb.block _ h1.lt),owns_below h2 hb,h5⟩,h.map.below hb,h.low,Nat.le_trans h.hi hb.size,h.seen,h.fl⟩
end
def Looked (w:World)(ps:List MPiece)(KT O M2:Nat)(at_:Int)(la:Option Addr)(ln lc bs:Nat)(st:List MEnd × List MFlank)(K:Nat→Prop)(W:World)(e:Ending)(W':World):Prop:=
 (∃ v,e = .returned v)∧Only K W W'∧∃ K',LBase w ps KT O M2 at_ la ln lc bs K' st W'∧Grow K K' W
theorem news4 {u:World}{g:Nat}{a b c d:Value}(c0:u.cell? ⟨g,0,none⟩=some a)(c1:u.cell? ⟨g,1,none⟩=some b)(c2:u.cell? ⟨g,2,none⟩=some c)(c3:u.cell? ⟨g,3,none⟩=some d):∀ (j:Nat) (v:Value),[a,b,c,d][j]? = some v→u.cell? ((⟨g,0,none⟩:Addr).add j)=some v:=by
 intro j v hv
 rw [addr_at,Nat.zero_add]
 match j with
 | 0=>simp at hv;rw [← hv];exact c0
 | 1=>simp at hv;rw [← hv];exact c1
 | 2=>simp at hv;rw [← hv];exact c2
 | 3=>simp at hv;rw [← hv];exact c3
 | j+4=>simp at hv
theorem found_any (w:World)(ps:List MPiece)(hnp:ps.length≤100)(KT O M2:Nat)(at_:Int)(la:Option Addr)(ln lc bs:Nat)(K:Nat→Prop)(st:List MEnd × List MFlank)(W:World)(h:Hid (LBase w ps KT O M2 at_ la ln lc bs K st W))(hlt:Hid (st.2.length+1≤st.1.length))(kd of_ li:Int):
  Calls Tryz.prog 197 #[.pointer (some ⟨O,0,none⟩),.int .i64 kd,.int .i64 of_,.int .i64 li] W (Looked w ps KT O M2 at_ la ln lc bs (st.1,st.2++[⟨at_,kd,of_,li⟩]) K W):=by
 have hfew:=h.out.seen.few
 have hfl:=h.out.fl
 obtain ⟨x,y,h1,h2,h5⟩:=h.out.own
 have hlow:=h.out.low
 have hhi:=h.out.hi
 have c2:W.cell? ⟨O,2,none⟩=some (.int .i64 at_):=h1.cell (i:=2) (by omega)
 have c4:W.cell? ⟨O,4,none⟩=some (.slice x st.2.length y):=h1.cell (i:=4) (by omega)
 have H1:=hidP h1
 have H2:=hidP h2
 have H5:=hidP h5
 have hzO:=h1.lt
 obtain ⟨S,hS⟩:∃ S:World→Prop,∀ u,S u↔Only (fun k=>(Value.slice x st.2.length y).ownBlock=some k) W u:=⟨_,fun _=>Iff.rfl⟩
 have HS0:=hidP hS
 have hnO:¬ (Value.slice x st.2.length y).ownBlock=some O:=fun e=>by have:=(h2.lt O e).1;omega
 have r2:∀ u:Held S,World.cell? u.val ⟨O,2,none⟩=some (.int .i64 at_):=fun u=>((hS u.val).1 u.2).cell c2 hnO
 have r4:∀ u:Held S,World.cell? u.val ⟨O,4,none⟩=some (.slice x st.2.length y):=fun u=>((hS u.val).1 u.2).cell c4 hnO
 have hS1:S W.drew:=(hS _).2 ((Only.refl _ _).drew)
 have hne:=held_ne hS1
 have HNO:=hidP hnO
 have hsl:st.2.length≤200:=by omega
 clear hS h1 h2 h5 c2 c4 hfew hfl hnO
 go_enter Tryz.func197,Tryz.ntmps197
 go_upto_region 0 with fail
 refine wp_region_tree (fun w' => ∃ u:Held S,w'=u.val) 15 (by kernel_rfl) (by kernel_rfl) (held_some hS1) ?_
 (refine wpT_sea 0 ?_;intro K hK;go_big_quiet_op;go_big_quiet_on);(refine wpT_sea 1 ?_;intro K hK;go_big_quiet_op;go_big_quiet_on);(refine wpT_sea 2 ?_;intro K hK;go_big_quiet_op;go_big_quiet_on);(refine wpT_sea 3 ?_;intro K hK;go_big_quiet_op;go_big_quiet_on);(refine wpT_sea 4 ?_;intro K hK;go_big_quiet_op;go_big_quiet_on);(refine wpT_sea 5 ?_;intro K hK;go_big_quiet_op;go_big_quiet_on);(refine wpT_sea 6 ?_;intro K hK;go_big_quiet_op;go_big_quiet_on);(refine wpT_sea 7 ?_;intro K hK;go_big_quiet_op;go_big_quiet_on);(refine wpT_sea 8 ?_;intro K hK;go_big_quiet_op;go_big_quiet_on);(refine wpT_sea 9 ?_;intro K hK;go_big_quiet_op;go_big_quiet_on);(refine wpT_sea 10 ?_;intro K hK;go_big_quiet_op;go_big_quiet_on);(refine wpT_sea 11 ?_;intro K hK;go_big_quiet_op;go_big_quiet_on);(refine wpT_sea 12 ?_;intro K hK;go_big_quiet_op;go_big_quiet_on)
 refine wpT_loud 13 (by rfl) (by kernel_rfl) (by kernel_rfl) ?_
 intro KK hK
 go_wp2_with fail
 generalize hV5:World.alloc W _=V5
 have hb5:Below W.heap.size W V5:=by rw [← hV5];exact (Below.refl _ _).alloc (Nat.le_refl _) _
 have n0:V5.cell? ⟨W.heap.size,0,none⟩=some (.int .i64 at_):=by rw [← hV5];simp [go_sem]
 have n1:V5.cell? ⟨W.heap.size,1,none⟩=some (.int .i64 kd):=by rw [← hV5];simp [go_sem]
 have n2:V5.cell? ⟨W.heap.size,2,none⟩=some (.int .i64 of_):=by rw [← hV5];simp [go_sem]
 have n3:V5.cell? ⟨W.heap.size,3,none⟩=some (.int .i64 li):=by rw [← hV5];simp [go_sem]
 have hS5:S V5.drew:=(HS0.out _).2 ((Only.of_below hb5).drew)
 refine hK _ _ (held_some hS5) ?_
 clear hK KK hV5
 have HN4:Hid (∀ (j:Nat) (v:Value),[Value.int .i64 at_,.int .i64 kd,.int .i64 of_,.int .i64 li][j]? = some v→V5.drew.cell? ((⟨W.heap.size,0,none⟩:Addr).add j)=some v):=news4 n0 n1 n2 n3
 clear n0 n1 n2 n3
 have HB5:=hidP hb5
 have HO5:Hid (V5.drew.ownsRow bs 133 4 (.slice x st.2.length y) st.2.length (flatF st.2)):=owns_drew (owns_below H2.out hb5)
 have hz5:W.heap.size≤V5.drew.heap.size:=hb5.size
 clear hb5
 refine wpT_loud 14 (by rfl) (by kernel_rfl) (by kernel_rfl) ?_
 intro KK hK
 show wpList Tryz.prog _ _ [_] _ _
 refine wpList_append_sharp _ rfl (.tmp 12) (.tmp 21) 79 rfl bs 133 _ 4 32 Tryz.underlying79 Tryz.infoFlank rfl (by decide) (.slice x st.2.length y) st.2.length (flatF st.2) rfl HO5.out ⟨W.heap.size,0,none⟩ 1 [.int .i64 at_,.int .i64 kd,.int .i64 of_,.int .i64 li] rfl rfl HN4.out (by simp [Value.oneCell']) (by unfold maxLen;omega) (by omega) (by omega) ?_
 intro x6 y6 w6 q1 q2 q3
 have hS6:S w6:=(HS0.out _).2 (((Only.of_below HB5.out).drew).trans (Only.of_grown q2 (fun k hk=>hk)))
 have Q1:=hidP q1
 have Q3:=hidP q3
 have HO6:=hidP ((HS0.out _).1 hS6)
 clear q1 q2 q3
 go_wp2_with fail
 refine hK _ _ (held_some hS6) ?_
 clear hK KK
 refine wpT_done (by kernel_rfl) ?_
 have hr6:=H1.out.of_block (HO6.out.block _ H1.out.lt HNO.out)
 have c6:=hr6.cell (i:=4) (by omega)
 have f6:=hr6.frozen 4
 have hz6:=hr6.lt
 have HR6:=hidP (hr6.set 4 (.slice x6 (st.2.length+1) y6))
 clear r2 r4 hS1 hne hr6 hS5 hS6
 go_wp2_with fail
 have hKO:K O:=(H5.out O).2 (Or.inl rfl)
 have hOK:Only K W w6:=HO6.out.mono (fun k hk=>(H5.out k).2 (Or.inr (Or.inr hk)))
 have hO7:Only K W (w6.setCell ⟨O,4,none⟩ (.slice x6 (st.2.length+1) y6)):=hOK.setCell (p:=⟨O,4,none⟩) (Or.inl hKO) _
 have hlo:=h.out.low_own
 have hM6:(w6.setCell ⟨O,4,none⟩ (.slice x6 (st.2.length+1) y6)).heap[M2]? = W.heap[M2]? := (Below.heap_setCell w6 ⟨O,4,none⟩ _ M2 (by show ¬ M2=O;omega)).trans (HO6.out.block _ h.out.map.lt (fun e=>by have:=(H2.out.lt M2 e).1;omega))
 have hxl:(st.2++[(⟨at_,kd,of_,li⟩:MFlank)]).length=st.2.length+1:=by simp
 refine bodyPost_end (results_none rfl _ _ _) rfl ⟨⟨_,rfl⟩,hO7,(fun k=>k=O∨k=M2∨(Value.slice x6 (st.2.length+1) y6).ownBlock=some k),⟨h.out.below.trans (hO7.below h.out.below.size (fun k hk e=>by have:=hlo k e;omega)),⟨x6,y6,?_,?_,fun k=>by simp only [hxl]⟩,h.out.map.of_block hM6,hlow,Nat.le_trans hhi hO7.size,h.out.seen,by simp only [hxl];exact hlt.out⟩,?_⟩
 ·refine row_congr HR6.out ?_
  intro i hi
  simp only [hxl]
  have hi':i=0∨i=1∨i=2∨i=3∨i=4:=by omega
  rcases hi' with rfl | rfl | rfl | rfl | rfl <;> simp [lookC]
 ·have:=ownsRow_setCell_below Q1.out (a:=⟨O,4,none⟩) (by show O<bs;omega) (.slice x6 (st.2.length+1) y6)
  rw [flatF_push st.2 ⟨at_,kd,of_,li⟩] at this
  simp only [hxl]
  exact this
 ·intro k hk
  rcases hk with hk | hk | hk
  ·exact Or.inl ((H5.out k).2 (Or.inl hk))
  ·exact Or.inl ((H5.out k).2 (Or.inr (Or.inl hk)))
  ·rcases Q3.out k hk with h9 | h9
   ·exact Or.inl ((H5.out k).2 (Or.inr (Or.inr h9)))
   ·exact Or.inr (Nat.le_trans hz5 h9)
theorem Looked.after {w:World}{ps:List MPiece}{KT O M2:Nat}{at_:Int}{la:Option Addr}{ln lc bs:Nat}{st:List MEnd × List MFlank}{K:Nat→Prop}{W W1 W':World}{e:Ending}(h:Looked w ps KT O M2 at_ la ln lc bs st K W1 e W')(hb:Below W.heap.size W W1):Looked w ps KT O M2 at_ la ln lc bs st K W e W':=by
 obtain ⟨h1,h2,K',h3,h4⟩:=h
 exact ⟨h1,(Only.of_below hb).trans h2,K',h3,h4.mono hb.size⟩
theorem foundSwitch_any (w:World)(ps:List MPiece)(hnp:ps.length≤100)(KT O M2:Nat)(at_:Int)(la:Option Addr)(lies:List MLie)(lc bs:Nat)(hL:Hid (EndsAt w la lies))(K:Nat→Prop)(st:List MEnd × List MFlank)(W:World)(h:Hid (LBase w ps KT O M2 at_ la lies.length lc bs K st W))(hlt:Hid (st.2.length+1≤st.1.length))(j k:Nat)(kd:Int)(hk:k≤3):
  Calls Tryz.prog 207 #[.pointer (some ⟨O,0,none⟩),spotV j k kd] W (Looked w ps KT O M2 at_ la lies.length lc bs (st.1,st.2++[if lieF lies j=k then ⟨at_,4,j,0⟩ else ⟨at_,3,j,3-k⟩]) K W):=by
 have HF:Hid (∀ (u:World),Below W.heap.size W u→∀ kd of_ li:Int,Calls Tryz.prog 197 #[.pointer (some ⟨O,0,none⟩),.int .i64 kd,.int .i64 of_,.int .i64 li] u (Looked w ps KT O M2 at_ la lies.length lc bs (st.1,st.2++[⟨at_,kd,of_,li⟩]) K W)):=fun u hu kd of_ li =>
  (found_any w ps hnp KT O M2 at_ la lies.length lc bs K st u (h.out.keep hu) hlt kd of_ li).mono (fun e w' q=>q.after hu)
 have HLI:Hid (∀ (u:World),Below W.heap.size W u→Calls Tryz.prog 215 #[.slice la lies.length lc,.int .i64 (j:Int)] u fun e w'=>e = .returned (.int .i64 (lieF lies j))∧Below u.heap.size u w'):=fun u hu =>
  lieOf_any la lc lies j u (hL.out.below (h.out.below.trans (hu.mono h.out.below.size)))
 have HOL:Hid (∀ (u:World),Calls Tryz.prog 179 #[.int .i64 (k:Int)] u fun e w'=>e = .returned (.int .i64 (3-(k:Int)))∧Below u.heap.size u w'):=fun u=>otherLie_any k u (by omega) (by omega)
 obtain ⟨x,y,h1,_,_⟩:=h.out.own
 have c1:W.cell? ⟨O,1,none⟩=some (.slice la lies.length lc):=h1.cell (i:=1) (by omega)
 have hzO:=h1.lt
 unfold spotV
 clear h1
 go_enter Tryz.func207,Tryz.ntmps207
 go_upto_region 1 with fail
 generalize hV:World.alloc W _=V
 have hbV:Below W.heap.size W V:=by rw [← hV];exact (Below.refl _ _).alloc (Nat.le_refl _) _
 have s0:V.cell? ⟨W.heap.size,0,none⟩=some (.int .i64 (j:Int)):=by rw [← hV];simp [go_sem]
 have s1:V.cell? ⟨W.heap.size,1,none⟩=some (.int .i64 (k:Int)):=by rw [← hV];simp [go_sem]
 have hzV:W.heap.size<V.heap.size:=by rw [← hV];simp
 replace c1:=cell_later hbV c1
 have HBV:=hidP hbV
 clear hV hbV
 obtain ⟨S,hS⟩:∃ S:World→Prop,∀ u,S u↔Below V.heap.size V u:=⟨_,fun _=>Iff.rfl⟩
 have HS0:=hidP hS
 have r1:∀ u:Held S,World.cell? u.val ⟨O,1,none⟩=some (.slice la lies.length lc):=fun u=>cell_later ((hS u.val).1 u.2) c1
 have r2:∀ u:Held S,World.cell? u.val ⟨W.heap.size,0,none⟩=some (.int .i64 (j:Int)):=fun u=>cell_later ((hS u.val).1 u.2) s0
 have r3:∀ u:Held S,World.cell? u.val ⟨W.heap.size,1,none⟩=some (.int .i64 (k:Int)):=fun u=>cell_later ((hS u.val).1 u.2) s1
 have hS1:S V.drew:=(hS _).2 ((Below.refl _ _).drew)
 have hne:=held_ne hS1
 clear hS
 refine wp_region_tree (fun w' => ∃ u:Held S,w'=u.val) 9 (by kernel_rfl) (by kernel_rfl) (held_some hS1) ?_
 (refine wpT_sea 0 ?_;intro K hK;go_big_quiet_op;go_big_quiet_on);(refine wpT_sea 1 ?_;intro K hK;go_big_quiet_op;go_big_quiet_on);(refine wpT_sea 2 ?_;intro K hK;go_big_quiet_op;go_big_quiet_on);(refine wpT_sea 3 ?_;intro K hK;go_big_quiet_op;go_big_quiet_on);(refine wpT_sea 4 ?_;intro K hK;go_big_quiet_op;go_big_quiet_on);(refine wpT_sea 5 ?_;intro K hK;go_big_quiet_op;go_big_quiet_on)
 (refine wpT_sea 7 ?_;intro K hK;go_big_quiet_op;go_big_quiet_on);(refine wpT_sea 8 ?_;intro K hK;go_big_quiet_op;go_big_quiet_on)
 refine wpT_loud 6 (by rfl) (by kernel_rfl) (by kernel_rfl) ?_
 intro KK hK
 go_wp2_with (go_at_call 215;refine (HLI.out _ (HBV.out.trans ((Below.refl _ _).drew.mono HBV.out.size))).mono ?_;rintro e u2 ⟨rfl,hb2'⟩)
 have hb2:Below V.heap.size V u2:=(Below.refl _ _).drew.trans hb2'
 refine hK _ _ (held_some ((HS0.out _).2 hb2)) ?_
 clear hK KK hb2' r1 r2 r3 hS1 hne
 replace s0:=cell_later hb2 s0
 replace s1:=cell_later hb2 s1
 have HB2:Hid (Below W.heap.size W u2):=HBV.out.trans (hb2.mono HBV.out.size)
 have hz2:W.heap.size<u2.heap.size:=cellLt s0
 clear hb2 c1
 refine wpT_done (by kernel_rfl) ?_
 by_cases hq:lieF lies j=k
 ·have hqb:(lieF lies j==(k:Int))=true:=by simp [hq]
  have HQ:=hidP hq
  clear hq
  go_wp2_with (go_at_call 197;refine (HF.out _ HB2.out _ _ _).mono ?_;rintro e u3 ⟨⟨v3,rfl⟩,ho3,hl3⟩)
  exact bodyPost_ret (results_none rfl _ _ _) rfl ⟨⟨_,rfl⟩,ho3,hl3⟩
 ·have hqb:(lieF lies j==(k:Int))=false:=by simp [hq]
  have HQ:=hidP hq
  clear hq
  go_upto_region 3 with fail
  obtain ⟨S,hS⟩:∃ S:World→Prop,∀ u,S u↔Below u2.heap.size u2 u:=⟨_,fun _=>Iff.rfl⟩
  have HS0:=hidP hS
  have r2:∀ u:Held S,World.cell? u.val ⟨W.heap.size,0,none⟩=some (.int .i64 (j:Int)):=fun u=>cell_later ((hS u.val).1 u.2) s0
  have r3:∀ u:Held S,World.cell? u.val ⟨W.heap.size,1,none⟩=some (.int .i64 (k:Int)):=fun u=>cell_later ((hS u.val).1 u.2) s1
  have hS1:S u2.drew:=(hS _).2 ((Below.refl _ _).drew)
  have hne:=held_ne hS1
  clear hS
  refine wp_region_tree (fun w' => ∃ u:Held S,w'=u.val) 6 (by kernel_rfl) (by kernel_rfl) (held_some hS1) ?_
  (refine wpT_sea 0 ?_;intro K hK;go_big_quiet_op;go_big_quiet_on);(refine wpT_sea 1 ?_;intro K hK;go_big_quiet_op;go_big_quiet_on);(refine wpT_sea 2 ?_;intro K hK;go_big_quiet_op;go_big_quiet_on);(refine wpT_sea 3 ?_;intro K hK;go_big_quiet_op;go_big_quiet_on);(refine wpT_sea 4 ?_;intro K hK;go_big_quiet_op;go_big_quiet_on)
  refine wpT_loud 5 (by rfl) (by kernel_rfl) (by kernel_rfl) ?_
  intro KK hK
  go_wp2_with (go_at_call 179;refine (HOL.out _).mono ?_;rintro e u4 ⟨rfl,hb4'⟩)
  have hb4:Below u2.heap.size u2 u4:=(Below.refl _ _).drew.trans hb4'
  refine hK _ _ (held_some ((HS0.out _).2 hb4)) ?_
  clear hK KK hb4' r2 r3 hS1 hne
  have HB4:Hid (Below W.heap.size W u4):=HB2.out.trans (hb4.mono HB2.out.size)
  clear hb4
  refine wpT_done (by kernel_rfl) ?_
  go_wp2_with (go_at_call 197;refine (HF.out _ HB4.out _ _ _).mono ?_;rintro e u3 ⟨⟨v3,rfl⟩,ho3,hl3⟩)
  exact bodyPost_end (results_none rfl _ _ _) rfl ⟨⟨_,rfl⟩,ho3,hl3⟩
def overL (js:List MJoint)(ss:List MPiece)(lies:List MLie)(at_:Int)(n:Nat)(st:List MEnd × List MFlank)(f:MEnd):List MEnd × List MFlank:=
 if kindE js (spotE js f).1=1 then (st.1,st.2++[⟨at_,1,(spotE js f).1,0⟩])
 else if kindE js (spotE js f).1=3∧(spotE js f).2≠0 then (st.1,st.2++[if lieF lies (spotE js f).1=(spotE js f).2 then ⟨at_,4,(spotE js f).1,0⟩ else ⟨at_,3,(spotE js f).1,3-(spotE js f).2⟩])
 else (beyondF (kindE js (spotE js f).1) (spotE js f).2).foldl (fun s t=>lookF js ss lies at_ n s (endE js (spotE js f).1 t)) st
theorem lookF_succ (js:List MJoint)(ss:List MPiece)(lies:List MLie)(at_:Int)(n:Nat)(st:List MEnd × List MFlank)(e:MEnd):lookF js ss lies at_ (n+1) st e =
  if st.1.any (fun x=>sameE x e)=true then st
  else if 0≤guardB ss e.piece (if e.side=0 then -1 else 1) ss.length then (st.1++[e],st.2++[⟨at_,2,guardB ss e.piece (if e.side=0 then -1 else 1) ss.length,0⟩])
  else overL js ss lies at_ n (st.1++[e],st.2) (farE e):=by
 rfl
def LookAt (w:World)(ps:List MPiece)(js:List MJoint)(ss:List MPiece)(lies:List MLie)(KT O M2:Nat)(at_:Int)(la:Option Addr)(lc bs:Nat)(n:Nat):Prop:=
 ∀ K st e W,LBase w ps KT O M2 at_ la lies.length lc bs K st W→ValidE ps e→2*ps.length+2≤n+st.1.length →
  Calls Tryz.prog 178 #[.pointer (some ⟨O,0,none⟩),endV e] W (Looked w ps KT O M2 at_ la lies.length lc bs (lookF js ss lies at_ n st e) K W)
theorem lpass_any (w:World)(M:Nat)(pa ja sa:Option Addr)(pc jc sc:Nat)(ps:List MPiece)(js:List MJoint)(ss:List MPiece)(lies:List MLie)(R:Hid (Right ps js ss))(KT O M2:Nat)(hT:Hid (TTrack w KT M pa ja sa pc jc sc ps js ss))(at_:Int)(la:Option Addr)(lc bs:Nat)(n:Nat)(IH:Hid (LookAt w ps js ss lies KT O M2 at_ la lc bs n))
  (K:Nat→Prop) (st:List MEnd × List MFlank) (W:World) (h:Hid (LBase w ps KT O M2 at_ la lies.length lc bs K st W)) (hn:Hid (2*ps.length+2≤n+st.1.length)) (j k t:Nat) (kd:Int) (hj:j<js.length) (ht:Hid (t<js[j].ends.length)) :
  Calls Tryz.prog 208 #[.pointer (some ⟨O,0,none⟩),passV j k t kd] W (Visited (fun K' u=>LBase w ps KT O M2 at_ la lies.length lc bs K' (lookF js ss lies at_ n st (endE js j t)) u) (fun _=>False) K W):=by
 have hee:=endE_at hj ht.out
 have hve:ValidE ps (endE js j t):=by rw [hee];exact R.out.ends j hj t ht.out
 have HLK:Hid (∀ u:World,Below W.heap.size W u→Calls Tryz.prog 178 #[.pointer (some ⟨O,0,none⟩),endV (endE js j t)] u (Looked w ps KT O M2 at_ la lies.length lc bs (lookF js ss lies at_ n st (endE js j t)) K W)):=fun u hu =>
  (IH.out K st (endE js j t) u (h.out.keep hu) hve hn.out).mono (fun e w' q=>q.after hu)
 have HEB:Hid (∀ u:World,Below W.heap.size W u→∀ fr kd:Value,Calls Tryz.prog 204 #[.pointer (some ⟨KT,0,none⟩),.agg #[.int .i64 j,fr,.int .i64 t,kd]] u fun e w'=>e = .returned (endV (endE js j t))∧Below u.heap.size u w'):=fun u hu fr kd=>by
  have q:=endBehind_any KT pa ja sa pc jc sc ps js ss j t fr kd u (hT.out.below (h.out.below.trans (hu.mono h.out.below.size))).net hj ht.out
  rw [← hee] at q
  exact q
 obtain ⟨x,y,h1,_,_⟩:=h.out.own
 have c0:W.cell? ⟨O,0,none⟩=some (.pointer (some ⟨KT,0,none⟩)):=h1.cell (i:=0) (by omega)
 have hzO:=h1.lt
 generalize endE js j t=en at HLK HEB ⊢
 unfold endV at HLK HEB
 unfold passV
 clear h1 hee hve
 go_enter Tryz.func208,Tryz.ntmps208
 go_upto_region 1 with fail
 generalize hV:World.alloc W _=V
 have hbV:Below W.heap.size W V:=by rw [← hV];exact (Below.refl _ _).alloc (Nat.le_refl _) _
 have s0:V.cell? ⟨W.heap.size,0,none⟩=some (.int .i64 (j:Int)):=by rw [← hV];simp [go_sem]
 have s1:V.cell? ⟨W.heap.size,1,none⟩=some (.int .i64 (k:Int)):=by rw [← hV];simp [go_sem]
 have s2:V.cell? ⟨W.heap.size,2,none⟩=some (.int .i64 (t:Int)):=by rw [← hV];simp [go_sem]
 have s3:V.cell? ⟨W.heap.size,3,none⟩=some (.iface (kindT kd) (.agg #[])):=by rw [← hV];simp [go_sem]
 have hzV:W.heap.size<V.heap.size:=by rw [← hV];simp
 replace c0:=cell_later hbV c0
 have HBV:=hidP hbV
 clear hV hbV
 obtain ⟨S,hS⟩:∃ S:World→Prop,∀ u,S u↔Below V.heap.size V u:=⟨_,fun _=>Iff.rfl⟩
 have HS0:=hidP hS
 have r0:∀ u:Held S,World.cell? u.val ⟨O,0,none⟩=some (.pointer (some ⟨KT,0,none⟩)):=fun u=>cell_later ((hS u.val).1 u.2) c0
 have r1:∀ u:Held S,World.cell? u.val ⟨W.heap.size,0,none⟩=some (.int .i64 (j:Int)):=fun u=>cell_later ((hS u.val).1 u.2) s0
 have r2:∀ u:Held S,World.cell? u.val ⟨W.heap.size,1,none⟩=some (.int .i64 (k:Int)):=fun u=>cell_later ((hS u.val).1 u.2) s1
 have r3:∀ u:Held S,World.cell? u.val ⟨W.heap.size,2,none⟩=some (.int .i64 (t:Int)):=fun u=>cell_later ((hS u.val).1 u.2) s2
 have r4:∀ u:Held S,World.cell? u.val ⟨W.heap.size,3,none⟩=some (.iface (kindT kd) (.agg #[])):=fun u=>cell_later ((hS u.val).1 u.2) s3
 have hS1:S V.drew:=(hS _).2 ((Below.refl _ _).drew)
 have hne:=held_ne hS1
 clear hS
 refine wp_region_tree (fun w' => ∃ u:Held S,w'=u.val) 7 (by kernel_rfl) (by kernel_rfl) (held_some hS1) ?_
 (refine wpT_sea 0 ?_;intro K hK;go_big_quiet_op;go_big_quiet_on);(refine wpT_sea 1 ?_;intro K hK;go_big_quiet_op;go_big_quiet_on);(refine wpT_sea 2 ?_;intro K hK;go_big_quiet_op;go_big_quiet_on);(refine wpT_sea 3 ?_;intro K hK;go_big_quiet_op;go_big_quiet_on);(refine wpT_sea 4 ?_;intro K hK;go_big_quiet_op;go_big_quiet_on);(refine wpT_sea 5 ?_;intro K hK;go_big_quiet_op;go_big_quiet_on)
 refine wpT_loud 6 (by rfl) (by kernel_rfl) (by kernel_rfl) ?_
 intro KK hK
 go_wp2_with (go_at_call 204;refine (HEB.out _ (HBV.out.trans ((Below.refl _ _).drew.mono HBV.out.size)) _ _).mono ?_;rintro e u2 ⟨rfl,hb2'⟩)
 have hb2:Below V.heap.size V u2:=(Below.refl _ _).drew.trans hb2'
 refine hK _ _ (held_some ((HS0.out _).2 hb2)) ?_
 clear hK KK hb2' r0 r1 r2 r3 r4 hS1 hne
 have HB2:Hid (Below W.heap.size W u2):=HBV.out.trans (hb2.mono HBV.out.size)
 clear hb2 c0 s0 s1 s2 s3
 refine wpT_done (by kernel_rfl) ?_
 go_wp2_with (go_at_call 178;refine (HLK.out _ HB2.out).mono ?_;rintro e u3 ⟨⟨v3,rfl⟩,ho3,hl3⟩)
 go_ret
 exact ⟨true,rfl,ho3,fun _=>hl3,fun h=>by cases h⟩
theorem fold_take {α:Type}(f:α→Nat→α)(L:List Nat)(m t:Nat)(a:α)(ht:L[m]? = some t):(L.take (m+1)).foldl f a=f ((L.take m).foldl f a) t:=by
 rw [List.take_add_one,ht,Option.toList,List.foldl_append]
 rfl
theorem lookOver_any (w:World)(M:Nat)(pa ja sa:Option Addr)(pc jc sc:Nat)(ps:List MPiece)(js:List MJoint)(ss:List MPiece)(lies:List MLie)(R:Hid (Right ps js ss))(KT O M2:Nat)(hT:Hid (TTrack w KT M pa ja sa pc jc sc ps js ss))(at_:Int)(la:Option Addr)(lc bs:Nat)(hL:Hid (EndsAt w la lies))(n:Nat)(IH:Hid (LookAt w ps js ss lies KT O M2 at_ la lc bs n))
  (K:Nat→Prop) (st:List MEnd × List MFlank) (f:MEnd) (W:World) (h:Hid (LBase w ps KT O M2 at_ la lies.length lc bs K st W)) (hlt:Hid (st.2.length+1≤st.1.length)) (hn:Hid (2*ps.length+2≤n+st.1.length)) (hv:Hid (ValidE ps f)) :
  Calls Tryz.prog 198 #[.pointer (some ⟨O,0,none⟩),endV f] W (Looked w ps KT O M2 at_ la lies.length lc bs (overL js ss lies at_ n st f) K W):=by
 have hnp:=R.out.np
 obtain ⟨j,k,hspF,hsp⟩:=R.out.spot hv.out
 obtain ⟨hj,hk⟩:∃ hj:j<js.length,k<js[j].ends.length:=by
  obtain ⟨_,hj,hk,_⟩:=spotF_some hspF
  simp only [Nat.sub_zero] at hj hk
  exact ⟨hj,hk⟩
 have hkd:=R.out.kind j hj
 have hke:=kindE_at hj
 have HLK:Hid (∀ u:World,Below W.heap.size W u→(Instr.lookup 257 (.map (some M)) (.agg #[.int .i64 f.piece,.int .i64 f.side]) false).run Tryz.prog u = .ok (spotV j k (kindE js j)) u):=fun u hu=>by
  have q:=(hT.out.below (h.out.below.trans (hu.mono h.out.below.size))).lookup R.out hv.out
  rw [hsp] at q
  exact q
 have HF:Hid (∀ (u:World),Below W.heap.size W u→∀ kd of_ li:Int,Calls Tryz.prog 197 #[.pointer (some ⟨O,0,none⟩),.int .i64 kd,.int .i64 of_,.int .i64 li] u (Looked w ps KT O M2 at_ la lies.length lc bs (st.1,st.2++[⟨at_,kd,of_,li⟩]) K W)):=fun u hu kd of_ li =>
  (found_any w ps hnp KT O M2 at_ la lies.length lc bs K st u (h.out.keep hu) hlt kd of_ li).mono (fun e w' q=>q.after hu)
 have HFS:Hid (∀ (u:World),Below W.heap.size W u→Calls Tryz.prog 207 #[.pointer (some ⟨O,0,none⟩),.agg #[.int .i64 (j:Int),.int .i64 (k:Int),.iface (kindT (kindE js j)) (.agg #[])]] u (Looked w ps KT O M2 at_ la lies.length lc bs (st.1,st.2++[if lieF lies j=k then ⟨at_,4,j,0⟩ else ⟨at_,3,j,3-k⟩]) K W)):=fun u hu =>
  (foundSwitch_any w ps hnp KT O M2 at_ la lies lc bs hL K st u (h.out.keep hu) hlt j k (kindE js j) (by have:=hkd.2;omega)).mono (fun e w' q=>q.after hu)
 have HPS:Hid (∀ (u:World),Below W.heap.size W u→Calls Tryz.prog 191 #[.pointer (some ⟨KT,0,none⟩),.agg #[.int .i64 f.piece,.int .i64 f.side],.func (.func 208) #[.pointer (some ⟨O,0,none⟩)] #[]] u fun e w'=>(∃ v,e = .returned v)∧Only K W w'∧∃ K',LBase w ps KT O M2 at_ la lies.length lc bs K' ((beyondF (kindE js j) k).foldl (fun s t=>lookF js ss lies at_ n s (endE js j t)) st) w'∧Grow K K' W):=fun u hu=>by
  have hLu:=h.out.keep hu
  have q:=passages_any KT M pa ja sa pc jc sc ps js ss R f 208 (.pointer (some ⟨O,0,none⟩)) (fun m K u=>LBase w ps KT O M2 at_ la lies.length lc bs K (((beyondF (kindE js j) k).take m).foldl (fun s t=>lookF js ss lies at_ n s (endE js j t)) st) u) (fun _=>False) K u (hT.out.below hLu.below) hv (fun args u=>by kernel_rfl) j k hsp hLu (fun m K2 u2 q=>q.lt) (fun m K2 u2 u3 q hb=>q.keep hb) (fun m t K2 u2 ht q=>by
   have htm:=List.mem_of_getElem? ht
   have htl:t<js[j].ends.length:=beyond_lt hkd.2.2 hk (by rw [← hke];exact htm)
   have hg:Grew ps st (((beyondF (kindE js j) k).take m).foldl (fun s t=>lookF js ss lies at_ n s (endE js j t)) st):=Grew.fold _ h.out.seen (fun t' ht' s hs=>look_grew R.out lies at_ n s _ hs (by
    have htl':t'<js[j].ends.length:=beyond_lt hkd.2.2 hk (by rw [← hke];exact List.mem_of_mem_take ht')
    rw [endE_at hj htl']
    exact R.out.ends j hj t' htl'))
   have hq:=lpass_any w M pa ja sa pc jc sc ps js ss lies R KT O M2 hT at_ la lc bs n IH K2 _ u2 q (by unfold Hid;have h1:=hn.out;have h2:=hg.2.1;omega) j k t (kindE js j) hj htl
   refine hq.mono ?_
   rintro e u3 ⟨b,e1,o1,i1,s1⟩
   refine ⟨b,e1,o1,fun hb=>?_,s1⟩
   obtain ⟨K3,i2,g2⟩:=i1 hb
   refine ⟨K3,?_,g2⟩
   rw [fold_take _ _ _ _ _ ht]
   exact i2)
  refine q.mono ?_
  rintro e u3 ⟨b,e1,o1,i1,s1⟩
  cases b
  ·exact (s1 rfl).elim
  ·obtain ⟨K3,i2,g2⟩:=i1 rfl
   rw [List.take_length] at i2
   exact ⟨⟨_,e1⟩,(Only.of_below hu).trans o1,K3,i2,g2.mono hu.size⟩
 have HOL:Hid (overL js ss lies at_ n st f=if kindE js j=1 then (st.1,st.2++[⟨at_,1,j,0⟩]) else if kindE js j=3∧k≠0 then (st.1,st.2++[if lieF lies j=k then ⟨at_,4,j,0⟩ else ⟨at_,3,j,3-k⟩]) else (beyondF (kindE js j) k).foldl (fun s t=>lookF js ss lies at_ n s (endE js j t)) st):=by
  unfold Hid overL
  rw [hsp]
 obtain ⟨x,y,h1,_,_⟩:=h.out.own
 have c0:W.cell? ⟨O,0,none⟩=some (.pointer (some ⟨KT,0,none⟩)):=h1.cell (i:=0) (by omega)
 have c3:=(hT.out.below h.out.below).c3
 have hK:=cellLt c3
 dsimp only at hK
 have hzO:=h1.lt
 have hk1:1≤kindE js j:=by rw [hke];exact hkd.1
 have hk4:kindE js j≤4:=by rw [hke];exact hkd.2.1
 generalize overL js ss lies at_ n st f=res at HOL ⊢
 generalize (beyondF (kindE js j) k).foldl (fun s t=>lookF js ss lies at_ n s (endE js j t)) st=fo at HPS HOL
 generalize (if lieF lies j=k then (⟨at_,4,j,0⟩:MFlank) else ⟨at_,3,j,3-k⟩)=sw at HFS HOL
 generalize kindE js j=kd at HLK HFS HOL hk1 hk4 hke
 unfold endV
 clear h1 hkd hke hspF hsp hk
 go_enter Tryz.func198,Tryz.ntmps198
 go_upto_region 1 with fail
 generalize hV:World.alloc W _=V
 have hbV:Below W.heap.size W V:=by rw [← hV];exact (Below.refl _ _).alloc (Nat.le_refl _) _
 have x0:V.cell? ⟨W.heap.size,0,none⟩=some (.int .i64 f.piece):=by rw [← hV];simp [go_sem]
 have x1:V.cell? ⟨W.heap.size,1,none⟩=some (.int .i64 f.side):=by rw [← hV];simp [go_sem]
 have hzV:W.heap.size<V.heap.size:=by rw [← hV];simp
 replace c0:=cell_later hbV c0
 replace c3:=cell_later hbV c3
 have HBV:=hidP hbV
 obtain ⟨S,hS⟩:∃ S:World→Prop,∀ u,S u↔Below V.heap.size V u:=⟨_,fun _=>Iff.rfl⟩
 have HS0:=hidP hS
 have r0:∀ u:Held S,World.cell? u.val ⟨O,0,none⟩=some (.pointer (some ⟨KT,0,none⟩)):=fun u=>cell_later ((hS u.val).1 u.2) c0
 have r1:∀ u:Held S,World.cell? u.val ⟨W.heap.size,0,none⟩=some (.int .i64 f.piece):=fun u=>cell_later ((hS u.val).1 u.2) x0
 have r2:∀ u:Held S,World.cell? u.val ⟨W.heap.size,1,none⟩=some (.int .i64 f.side):=fun u=>cell_later ((hS u.val).1 u.2) x1
 have r3:∀ u:Held S,World.cell? u.val ⟨KT,3,none⟩=some (.map (some M)):=fun u=>cell_later ((hS u.val).1 u.2) c3
 have r4:∀ u:Held S,(Instr.lookup 257 (.map (some M)) (.agg #[.int .i64 f.piece,.int .i64 f.side]) false).run Tryz.prog u.val = .ok (spotV j k kd) u.val:=fun u=>HLK.out u.val (HBV.out.trans (((hS u.val).1 u.2).mono HBV.out.size))
 have hS1:S V.drew:=(hS _).2 ((Below.refl _ _).drew)
 have hne:=held_ne hS1
 clear hS hV hbV
 go_cut [4] (fun v wx => ∃ b,v = .pointer (some ⟨b,0,none⟩)∧V.heap.size≤b∧wx.cell? ⟨b,0,none⟩=some (.int .i64 (j:Int))∧wx.cell? ⟨b,1,none⟩=some (.int .i64 (k:Int))∧wx.cell? ⟨b,2,none⟩=some (.iface (kindT kd) (.agg #[]))∧Below V.heap.size V wx)
 case first =>
  refine wp_region_tree (fun w' => ∃ u:Held S,w'=u.val) 10 (by kernel_rfl) (by kernel_rfl) (held_some hS1) ?_
  (refine wpT_sea 0 ?_;intro K hK;go_big_quiet_op;go_big_quiet_on);(refine wpT_sea 1 ?_;intro K hK;go_big_quiet_op;go_big_quiet_on);(refine wpT_sea 2 ?_;intro K hK;go_big_quiet_op;go_big_quiet_on);(refine wpT_sea 3 ?_;intro K hK;go_big_quiet_op;go_big_quiet_on);(refine wpT_sea 4 ?_;intro K hK;go_big_quiet_op;go_big_quiet_on);(refine wpT_sea 5 ?_;intro K hK;go_big_quiet_op;go_big_quiet_on);(refine wpT_sea 6 ?_;intro K hK;go_big_quiet_op;go_big_quiet_on);(refine wpT_sea 7 ?_;intro K hK;go_big_quiet_op;go_big_quiet_on);(refine wpT_sea 8 ?_;intro K hK;go_big_quiet_op;go_big_quiet_on)
  refine wpT_loud 9 (by rfl) (by kernel_rfl) (by kernel_rfl) ?_
  intro KK hK
  go_wp2_with fail
  have hb3:Below V.heap.size V (V.alloc (Obj.cells #[Value.int IntKind.i64 0,Value.int IntKind.i64 0,Value.nilIface] 265)).drew:=((Below.refl _ _).alloc (Nat.le_refl _) _).drew
  refine hK _ _ (held_some ((HS0.out _).2 hb3)) ?_
  clear hK KK
  refine wpT_done (by kernel_rfl) ?_
  unfold spotV
  clear r0 r1 r2 r3 r4 hS1 hne hb3
  go_wp2_with fail
  go_meet
  exact ⟨_,rfl,Nat.le_refl _,by simp [go_sem],by simp [go_sem],by simp [go_sem],((Below.refl _ _).alloc (Nat.le_refl _) _).drew⟩
 case rest =>
  obtain ⟨b,rfl,hb,z0,z1,z2,hbc⟩:=hcut
  clear r0 r1 r2 r3 r4 hS1 hne
  have hzb:=cellLt z0
  dsimp only at hzb
  replace c0:=cell_later hbc c0
  replace x0:=cell_later hbc x0
  replace x1:=cell_later hbc x1
  have hzc:=hbc.size
  have HBC:Hid (Below W.heap.size W wc):=HBV.out.trans (hbc.mono HBV.out.size)
  clear hbc c3
  have hcs:kd=1∨(kd≠1∧kd=3∧k≠0)∨(kd≠1∧kd=3∧k=0)∨(kd≠1∧kd≠3):=by omega
  rcases hcs with hq | ⟨hq1,hq3,hqk⟩ | ⟨hq1,hq3,hqk⟩ | ⟨hq1,hq3⟩
  ·have hisB:∀ w,(Instr.typeAssert (.iface (kindT kd) (.agg #[])) 261 299 true).run Tryz.prog w = .ok (.tuple #[.agg #[],.bool true]) w:=fun w=>(isB w _ kd).trans (by rw [decide_eq_true hq])
   have HRES:=hidP (HOL.out.trans (if_pos hq))
   clear hq
   go_wp2_with (go_at_call 197;refine (HF.out _ HBC.out _ _ _).mono ?_;rintro e u3 ⟨⟨v3,rfl⟩,ho3,hl3⟩)
   rw [HRES.out]
   exact bodyPost_ret (results_none rfl _ _ _) rfl ⟨⟨_,rfl⟩,ho3,hl3⟩
  ·have hisB:∀ w,(Instr.typeAssert (.iface (kindT kd) (.agg #[])) 261 299 true).run Tryz.prog w = .ok (.tuple #[.agg #[],.bool false]) w:=fun w=>(isB w _ kd).trans (by rw [decide_eq_false hq1])
   have hisS:∀ w,(Instr.typeAssert (.iface (kindT kd) (.agg #[])) 261 301 true).run Tryz.prog w = .ok (.tuple #[.agg #[],.bool true]) w:=fun w=>(isS w _ kd hk1 hk4).trans (by rw [decide_eq_true hq3])
   have hkn:((k:Int) != 0)=true:=by simp;omega
   have HRES:=hidP (HOL.out.trans ((if_neg hq1).trans (if_pos ⟨hq3,hqk⟩)))
   clear hq1 hq3 hqk
   go_wp2_with (go_at_call 207;refine (HFS.out _ HBC.out).mono ?_;rintro e u3 ⟨⟨v3,rfl⟩,ho3,hl3⟩)
   rw [HRES.out]
   exact bodyPost_ret (results_none rfl _ _ _) rfl ⟨⟨_,rfl⟩,ho3,hl3⟩
  ·have hisB:∀ w,(Instr.typeAssert (.iface (kindT kd) (.agg #[])) 261 299 true).run Tryz.prog w = .ok (.tuple #[.agg #[],.bool false]) w:=fun w=>(isB w _ kd).trans (by rw [decide_eq_false hq1])
   have hisS:∀ w,(Instr.typeAssert (.iface (kindT kd) (.agg #[])) 261 301 true).run Tryz.prog w = .ok (.tuple #[.agg #[],.bool true]) w:=fun w=>(isS w _ kd hk1 hk4).trans (by rw [decide_eq_true hq3])
   have hkn:((k:Int) != 0)=false:=by simp;omega
   have HRES:=hidP (HOL.out.trans ((if_neg hq1).trans (if_neg (fun q=>q.2 hqk))))
   clear hq1 hq3 hqk
   go_upto_region 8 with fail
   obtain ⟨S,hS⟩:∃ S:World→Prop,∀ u,S u↔Below wc.heap.size wc u:=⟨_,fun _=>Iff.rfl⟩
   have HS0:=hidP hS
   have r0:∀ u:Held S,World.cell? u.val ⟨O,0,none⟩=some (.pointer (some ⟨KT,0,none⟩)):=fun u=>cell_later ((hS u.val).1 u.2) c0
   have r1:∀ u:Held S,World.cell? u.val ⟨W.heap.size,0,none⟩=some (.int .i64 f.piece):=fun u=>cell_later ((hS u.val).1 u.2) x0
   have r2:∀ u:Held S,World.cell? u.val ⟨W.heap.size,1,none⟩=some (.int .i64 f.side):=fun u=>cell_later ((hS u.val).1 u.2) x1
   have hS1:S wc.drew:=(hS _).2 ((Below.refl _ _).drew)
   have hne:=held_ne hS1
   have hmf:∀ (fn:Fn) (first cap:Array Value) (w:World),(Instr.makeFunc fn first cap).run Tryz.prog w = .ok (.func fn first cap) w:=fun _ _ _ _=>rfl
   clear hS
   refine wp_region_tree (fun w' => ∃ u:Held S,w'=u.val) 7 (by kernel_rfl) (by kernel_rfl) (held_some hS1) ?_
   (refine wpT_sea 0 ?_;intro K hK;go_big_quiet_op;go_big_quiet_on);(refine wpT_sea 1 ?_;intro K hK;go_big_quiet_op;go_big_quiet_on);(refine wpT_sea 2 ?_;intro K hK;go_big_quiet_op;go_big_quiet_on);(refine wpT_sea 3 ?_;intro K hK;go_big_quiet_op;go_big_quiet_on);(refine wpT_sea 4 ?_;intro K hK;go_big_quiet_op;go_big_quiet_on);(refine wpT_sea 5 ?_;intro K hK;go_big_quiet_op;go_big_quiet_on);(refine wpT_sea 6 ?_;intro K hK;go_big_quiet_op;go_big_quiet_on)
   clear r0 r1 r2 hS1 hne
   refine wpT_done (by kernel_rfl) ?_
   go_wp2_with (go_at_call 191;refine (HPS.out _ (HBC.out.trans ((Below.refl _ _).drew.mono HBC.out.size))).mono ?_;rintro e u3 ⟨⟨v3,rfl⟩,ho3,hl3⟩)
   rw [HRES.out]
   exact bodyPost_end (results_none rfl _ _ _) rfl ⟨⟨_,rfl⟩,ho3,hl3⟩
  ·have hisB:∀ w,(Instr.typeAssert (.iface (kindT kd) (.agg #[])) 261 299 true).run Tryz.prog w = .ok (.tuple #[.agg #[],.bool false]) w:=fun w=>(isB w _ kd).trans (by rw [decide_eq_false hq1])
   have hisS:∀ w,(Instr.typeAssert (.iface (kindT kd) (.agg #[])) 261 301 true).run Tryz.prog w = .ok (.tuple #[.agg #[],.bool false]) w:=fun w=>(isS w _ kd hk1 hk4).trans (by rw [decide_eq_false hq3])
   have HRES:=hidP (HOL.out.trans ((if_neg hq1).trans (if_neg (fun q=>hq3 q.1))))
   clear hq1 hq3
   go_upto_region 8 with fail
   obtain ⟨S,hS⟩:∃ S:World→Prop,∀ u,S u↔Below wc.heap.size wc u:=⟨_,fun _=>Iff.rfl⟩
   have HS0:=hidP hS
   have r0:∀ u:Held S,World.cell? u.val ⟨O,0,none⟩=some (.pointer (some ⟨KT,0,none⟩)):=fun u=>cell_later ((hS u.val).1 u.2) c0
   have r1:∀ u:Held S,World.cell? u.val ⟨W.heap.size,0,none⟩=some (.int .i64 f.piece):=fun u=>cell_later ((hS u.val).1 u.2) x0
   have r2:∀ u:Held S,World.cell? u.val ⟨W.heap.size,1,none⟩=some (.int .i64 f.side):=fun u=>cell_later ((hS u.val).1 u.2) x1
   have hS1:S wc.drew:=(hS _).2 ((Below.refl _ _).drew)
   have hne:=held_ne hS1
   have hmf:∀ (fn:Fn) (first cap:Array Value) (w:World),(Instr.makeFunc fn first cap).run Tryz.prog w = .ok (.func fn first cap) w:=fun _ _ _ _=>rfl
   clear hS
   refine wp_region_tree (fun w' => ∃ u:Held S,w'=u.val) 7 (by kernel_rfl) (by kernel_rfl) (held_some hS1) ?_
   (refine wpT_sea 0 ?_;intro K hK;go_big_quiet_op;go_big_quiet_on);(refine wpT_sea 1 ?_;intro K hK;go_big_quiet_op;go_big_quiet_on);(refine wpT_sea 2 ?_;intro K hK;go_big_quiet_op;go_big_quiet_on);(refine wpT_sea 3 ?_;intro K hK;go_big_quiet_op;go_big_quiet_on);(refine wpT_sea 4 ?_;intro K hK;go_big_quiet_op;go_big_quiet_on);(refine wpT_sea 5 ?_;intro K hK;go_big_quiet_op;go_big_quiet_on);(refine wpT_sea 6 ?_;intro K hK;go_big_quiet_op;go_big_quiet_on)
   clear r0 r1 r2 hS1 hne
   refine wpT_done (by kernel_rfl) ?_
   go_wp2_with (go_at_call 191;refine (HPS.out _ (HBC.out.trans ((Below.refl _ _).drew.mono HBC.out.size))).mono ?_;rintro e u3 ⟨⟨v3,rfl⟩,ho3,hl3⟩)
   rw [HRES.out]
   exact bodyPost_end (results_none rfl _ _ _) rfl ⟨⟨_,rfl⟩,ho3,hl3⟩
theorem lookFrom_step (w:World)(M:Nat)(pa ja sa:Option Addr)(pc jc sc:Nat)(ps:List MPiece)(js:List MJoint)(ss:List MPiece)(lies:List MLie)(R:Hid (Right ps js ss))(KT O M2:Nat)(hT:Hid (TTrack w KT M pa ja sa pc jc sc ps js ss))(at_:Int)(la:Option Addr)(lc bs:Nat)(hL:Hid (EndsAt w la lies))(n:Nat)(IH:Hid (LookAt w ps js ss lies KT O M2 at_ la lc bs n)):LookAt w ps js ss lies KT O M2 at_ la lc bs (n+1):=by
 intro K st e W hB hv hn
 have h:=hidP hB
 have HV:=hidP hv
 have HN:=hidP hn
 have hnp:=R.out.np
 have hfew:=hB.seen.few
 have hfl:=hB.fl
 have hlow:=hB.low
 obtain ⟨x,y,h1,h2,h5⟩:=hB.own
 obtain ⟨kl,hkey⟩:=keyEnd hv R.out.np
 have c0:W.cell? ⟨O,0,none⟩=some (.pointer (some ⟨KT,0,none⟩)):=h1.cell (i:=0) (by omega)
 have c3:W.cell? ⟨O,3,none⟩=some (.map (some M2)):=h1.cell (i:=3) (by omega)
 have hzO:=h1.lt
 have HLK:Hid (∀ u:World,Below W.heap.size W u→(Instr.lookup 314 (.map (some M2)) (endV e) false).run Tryz.prog u = .ok (.int .i64 (if st.1.any (fun x=>sameE x e)=true then 1 else 0)) u):=fun u hu=>by
  have q:=(hB.map.below hu).lookup lawE Tryz.underlying314 hkey
  rw [seenF_at] at q
  exact q
 have H1:=hidP h1
 have H2:=hidP h2
 have H5:=hidP h5
 have HSU:=hidP (lookF_succ js ss lies at_ n st e)
 clear hB hn h1 h2 h5 hv
 unfold endV
 unfold endV at HLK
 go_enter Tryz.func178,Tryz.ntmps178
 go_upto_region 1 with fail
 generalize hV:World.alloc W _=V
 have hbV:Below W.heap.size W V:=by rw [← hV];exact (Below.refl _ _).alloc (Nat.le_refl _) _
 have x0:V.cell? ⟨W.heap.size,0,none⟩=some (.int .i64 e.piece):=by rw [← hV];simp [go_sem]
 have x1:V.cell? ⟨W.heap.size,1,none⟩=some (.int .i64 e.side):=by rw [← hV];simp [go_sem]
 have hzV:W.heap.size<V.heap.size:=by rw [← hV];simp
 replace c0:=cell_later hbV c0
 replace c3:=cell_later hbV c3
 have HBV:=hidP hbV
 obtain ⟨S,hS⟩:∃ S:World→Prop,∀ u,S u↔Below V.heap.size V u:=⟨_,fun _=>Iff.rfl⟩
 have HS0:=hidP hS
 have r1:∀ u:Held S,World.cell? u.val ⟨W.heap.size,0,none⟩=some (.int .i64 e.piece):=fun u=>cell_later ((hS u.val).1 u.2) x0
 have r2:∀ u:Held S,World.cell? u.val ⟨W.heap.size,1,none⟩=some (.int .i64 e.side):=fun u=>cell_later ((hS u.val).1 u.2) x1
 have r3:∀ u:Held S,World.cell? u.val ⟨O,3,none⟩=some (.map (some M2)):=fun u=>cell_later ((hS u.val).1 u.2) c3
 have r4:∀ u:Held S,(Instr.lookup 314 (.map (some M2)) (.agg #[.int .i64 e.piece,.int .i64 e.side]) false).run Tryz.prog u.val = .ok (.int .i64 (if st.1.any (fun x=>sameE x e)=true then 1 else 0)) u.val:=fun u=>HLK.out u.val (HBV.out.trans (((hS u.val).1 u.2).mono HBV.out.size))
 have hS1:S V.drew:=(hS _).2 ((Below.refl _ _).drew)
 have hne:=held_ne hS1
 clear hS hV hbV
 by_cases hany:st.1.any (fun x=>sameE x e)=true
 ·have HANY:=hidP hany
  have hif:(if st.1.any (fun x=>sameE x e)=true then (1:Int) else 0)=1:=if_pos hany
  rw [hif] at r4
  have HRES:=hidP (HSU.out.trans (if_pos hany))
  clear hany hif
  refine wp_region_tree (fun w' => ∃ u:Held S,w'=u.val) 6 (by kernel_rfl) (by kernel_rfl) (held_some hS1) ?_
  (refine wpT_sea 0 ?_;intro K hK;go_big_quiet_op;go_big_quiet_on);(refine wpT_sea 1 ?_;intro K hK;go_big_quiet_op;go_big_quiet_on);(refine wpT_sea 2 ?_;intro K hK;go_big_quiet_op;go_big_quiet_on);(refine wpT_sea 3 ?_;intro K hK;go_big_quiet_op;go_big_quiet_on);(refine wpT_sea 4 ?_;intro K hK;go_big_quiet_op;go_big_quiet_on);(refine wpT_sea 5 ?_;intro K hK;go_big_quiet_op;go_big_quiet_on)
  clear r1 r2 r3 r4 hS1 hne
  refine wpT_done (by kernel_rfl) ?_
  go_wp2_with fail
  have hbw:Below W.heap.size W V.drew:=HBV.out.trans ((Below.refl _ _).drew.mono HBV.out.size)
  rw [HRES.out]
  exact bodyPost_ret (results_none rfl _ _ _) rfl ⟨⟨_,rfl⟩,Only.of_below hbw,K,h.out.keep hbw,Grow.refl _ _⟩
 ·have HANY:=hidP hany
  have hif:(if st.1.any (fun x=>sameE x e)=true then (1:Int) else 0)=0:=if_neg hany
  rw [hif] at r4
  have HRE2:=hidP (HSU.out.trans (if_neg hany))
  have HSN:=hidP (h.out.seen.push HV.out hany)
  have hs0:seenF Classical.propDecidable st.1 (endV e)=0:=by rw [seenF_at,if_neg hany]
  have hM2:CMap 192 V.drew.drew M2 st.1.length (seenF Classical.propDecidable st.1):=(h.out.map.below HBV.out).below ((Below.refl _ _).drew.drew)
  have hlk:=hM2.lookup lawE Tryz.underlying314 hkey
  rw [hs0] at hlk
  obtain ⟨v0,cn,w1,w2,hme,hl1,hes,hM3,hg⟩:=hM2.entry lawKE Tryz.underlying314 (by unfold maxLen;omega) hkey 1 (by decide) (seenF Classical.propDecidable (st.1++[e])) seenF_put (fun k hk=>seenF_other hk)
  rw [hs0] at hl1
  have HM3:=hidP hM3
  have HG:=hidP hg
  unfold endV at hlk hme hl1
  clear hany hif hs0 hM3 hM2 hg hkey
  refine wp_region_tree (fun w' => ∃ u:Held S,w'=u.val) 6 (by kernel_rfl) (by kernel_rfl) (held_some hS1) ?_
  (refine wpT_sea 0 ?_;intro K hK;go_big_quiet_op;go_big_quiet_on);(refine wpT_sea 1 ?_;intro K hK;go_big_quiet_op;go_big_quiet_on);(refine wpT_sea 2 ?_;intro K hK;go_big_quiet_op;go_big_quiet_on);(refine wpT_sea 3 ?_;intro K hK;go_big_quiet_op;go_big_quiet_on);(refine wpT_sea 4 ?_;intro K hK;go_big_quiet_op;go_big_quiet_on);(refine wpT_sea 5 ?_;intro K hK;go_big_quiet_op;go_big_quiet_on)
  clear r1 r2 r3 r4 hS1 hne
  refine wpT_done (by kernel_rfl) ?_
  go_upto_region 2 with fail
  have HG0:Hid (Only (fun k=>k=M2) V w2):=(Only.of_below ((Below.refl _ _).drew.drew)).trans (Only.of_grown HG.out (fun k hk=>by cases hk;rfl))
  go_cut [19] (fun _ wx=>wx=w2)
  case first =>
   go_region
   all_goals
    go_wp2_with fail
    go_meet
    rfl
  case rest =>
   subst hcut
   have hKM:K M2:=(H5.out M2).2 (Or.inr (Or.inl rfl))
   have hOW:Only K W wc:=(Only.of_below HBV.out).trans (HG0.out.mono (fun k hk=>by subst hk;exact hKM))
   have hzW:=HBV.out.size
   have hM2l:=h.out.map.lt
   have hnO:¬ O=M2:=by omega
   have hlo:=h.out.low_own
   have hbW:Below w.heap.size w wc:=h.out.below.trans (hOW.below h.out.below.size (fun k hk e=>by have:=hlo k e;omega))
   have hrO:=H1.out.of_block ((HG0.out.block _ (Nat.lt_of_lt_of_le H1.out.lt hzW) hnO).trans (HBV.out.block _ H1.out.lt))
   have hxl:(st.1++[e]).length=st.1.length+1:=by simp
   have HLB:Hid (LBase w ps KT O M2 at_ la lies.length lc bs K (st.1++[e],st.2) wc):=by
    refine ⟨hbW,⟨x,y,hrO,owns_only (owns_below H2.out HBV.out) HG0.out (fun k hk=>by omega),H5.out⟩,?_,hlow,Nat.le_trans h.out.hi hOW.size,HSN.out,by simp only [hxl];omega⟩
    simp only [hxl]
    exact HM3.out
   have HOW:=hidP hOW
   replace c0:=HG0.out.cell c0 (by show ¬ O=M2;exact hnO)
   replace x0:=HG0.out.cell x0 (by show ¬ W.heap.size=M2;omega)
   replace x1:=HG0.out.cell x1 (by show ¬ W.heap.size=M2;omega)
   have hzc:=cellLt c0
   have hzx:=cellLt x0
   dsimp only at hzc hzx
   have HTB:Hid (∀ u:World,Below wc.heap.size wc u→TTrack u KT M pa ja sa pc jc sc ps js ss):=fun u hu=>hT.out.below (hbW.trans (hu.mono hbW.size))
   have hsd:(e.side=0∧(if e.side=0 then (-1:Int) else 1) = -1)∨(e.side=1∧(if e.side=0 then (-1:Int) else 1)=1):=by
    obtain ⟨_,_,_,q⟩:=HV.out
    rcases q with q | q
    ·exact Or.inl ⟨q,if_pos q⟩
    ·exact Or.inr ⟨q,if_neg (by omega)⟩
   have HGU:Hid (∀ u:World,Below wc.heap.size wc u→Calls Tryz.prog 196 #[.pointer (some ⟨KT,0,none⟩),.agg #[.int .i64 e.piece,.int .i64 e.side]] u fun r w'=>r = .returned (.int .i64 (guardB ss e.piece (if e.side=0 then -1 else 1) ss.length))∧Below u.heap.size u w'):=fun u hu=>guardOf_any KT pa ja sa pc jc sc ps js ss e.piece e.side _ u (HTB.out u hu).net hsd R.out.speeds
   have hsd2:0≤e.side∧e.side≤1:=by omega
   have HFE:Hid (∀ u:World,Calls Tryz.prog 174 #[.agg #[.int .i64 e.piece,.int .i64 e.side]] u fun r w'=>r = .returned (.agg #[.int .i64 (farE e).piece,.int .i64 (farE e).side])∧Below u.heap.size u w'):=fun u=>farEnd_any e.piece e.side u hsd2.1 hsd2.2
   have HFO:Hid (∀ u:World,Below wc.heap.size wc u→∀ kd of_ li:Int,Calls Tryz.prog 197 #[.pointer (some ⟨O,0,none⟩),.int .i64 kd,.int .i64 of_,.int .i64 li] u (Looked w ps KT O M2 at_ la lies.length lc bs (st.1++[e],st.2++[⟨at_,kd,of_,li⟩]) K wc)):=fun u hu kd of_ li =>
    (found_any w ps hnp KT O M2 at_ la lies.length lc bs K (st.1++[e],st.2) u (HLB.out.keep hu) (by unfold Hid;simp only [hxl];omega) kd of_ li).mono (fun _ _ q=>q.after hu)
   have HLO:Hid (∀ u:World,Below wc.heap.size wc u→Calls Tryz.prog 198 #[.pointer (some ⟨O,0,none⟩),.agg #[.int .i64 (farE e).piece,.int .i64 (farE e).side]] u (Looked w ps KT O M2 at_ la lies.length lc bs (overL js ss lies at_ n (st.1++[e],st.2) (farE e)) K wc)):=fun u hu =>
    (lookOver_any w M pa ja sa pc jc sc ps js ss lies R KT O M2 hT at_ la lc bs hL n IH K (st.1++[e],st.2) (farE e) u (HLB.out.keep hu) (by unfold Hid;simp only [hxl];omega) (by unfold Hid;have:=HN.out;simp only [hxl];omega) (farE_valid HV.out)).mono (fun _ _ q=>q.after hu)
   generalize guardB ss e.piece (if e.side=0 then -1 else 1) ss.length=gd at HGU HRE2
   generalize overL js ss lies at_ n (st.1++[e],st.2) (farE e)=ov at HLO HRE2
   generalize farE e=fa at HFE HLO
   clear hOW hlk hme hl1 hes hrO hbW hxl hsd hsd2 hKM c3
   obtain ⟨S,hS⟩:∃ S:World→Prop,∀ u,S u↔Below wc.heap.size wc u:=⟨_,fun _=>Iff.rfl⟩
   have HS1:=hidP hS
   have r0:∀ u:Held S,World.cell? u.val ⟨O,0,none⟩=some (.pointer (some ⟨KT,0,none⟩)):=fun u=>cell_later ((hS u.val).1 u.2) c0
   have r1:∀ u:Held S,World.cell? u.val ⟨W.heap.size,0,none⟩=some (.int .i64 e.piece):=fun u=>cell_later ((hS u.val).1 u.2) x0
   have r2:∀ u:Held S,World.cell? u.val ⟨W.heap.size,1,none⟩=some (.int .i64 e.side):=fun u=>cell_later ((hS u.val).1 u.2) x1
   have hS1:S wc.drew:=(hS _).2 ((Below.refl _ _).drew)
   have hne:=held_ne hS1
   clear hS
   go_upto_region 3 with fail
   refine wp_region_tree (fun w' => ∃ u:Held S,w'=u.val) 6 (by kernel_rfl) (by kernel_rfl) (held_some hS1) ?_
   (refine wpT_sea 0 ?_;intro K hK;go_big_quiet_op;go_big_quiet_on);(refine wpT_sea 1 ?_;intro K hK;go_big_quiet_op;go_big_quiet_on);(refine wpT_sea 2 ?_;intro K hK;go_big_quiet_op;go_big_quiet_on);(refine wpT_sea 3 ?_;intro K hK;go_big_quiet_op;go_big_quiet_on);(refine wpT_sea 4 ?_;intro K hK;go_big_quiet_op;go_big_quiet_on)
   refine wpT_loud 5 (by rfl) (by kernel_rfl) (by kernel_rfl) ?_
   intro KK hK
   go_wp2_with (go_at_call 196;refine (HGU.out _ ((Below.refl _ _).drew)).mono ?_;rintro r u2 ⟨rfl,hb2'⟩)
   have hb2:Below wc.heap.size wc u2:=(Below.refl _ _).drew.trans hb2'
   refine hK _ _ (held_some ((HS1.out _).2 hb2)) ?_
   clear hK KK hb2' r0 r1 r2 hS1 hne
   replace x0:=cell_later hb2 x0
   replace x1:=cell_later hb2 x1
   have HB2:=hidP hb2
   have hz2:=cellLt x0
   dsimp only at hz2
   clear hb2 c0
   refine wpT_done (by kernel_rfl) ?_
   by_cases hgd:0≤gd
   ·have HRES:=hidP (HRE2.out.trans (if_pos hgd))
    go_wp2_with (go_at_call 197;refine (HFO.out _ HB2.out _ _ _).mono ?_;rintro r u3 ⟨⟨v3,rfl⟩,ho3,K3,hl3,hg3⟩)
    rw [HRES.out]
    exact bodyPost_ret (results_none rfl _ _ _) rfl ⟨⟨_,rfl⟩,HOW.out.trans ho3,K3,hl3,hg3.mono HOW.out.size⟩
   ·have HRES:=hidP (HRE2.out.trans (if_neg hgd))
    go_wp2_with (first | (go_at_call 174;refine (HFE.out _).mono ?_;rintro r u4 ⟨rfl,hb4⟩;have HB4:Hid (Below wc.heap.size wc u4):=HB2.out.trans (hb4.mono HB2.out.size);clear hb4) | (go_at_call 198;refine (HLO.out _ HB4.out).mono ?_;rintro r u3 ⟨⟨v3,rfl⟩,ho3,K3,hl3,hg3⟩))
    rw [HRES.out]
    exact bodyPost_end (results_none rfl _ _ _) rfl ⟨⟨_,rfl⟩,HOW.out.trans ho3,K3,hl3,hg3.mono HOW.out.size⟩
theorem lookFrom_any (w:World)(M:Nat)(pa ja sa:Option Addr)(pc jc sc:Nat)(ps:List MPiece)(js:List MJoint)(ss:List MPiece)(lies:List MLie)(R:Hid (Right ps js ss))(KT O M2:Nat)(hT:Hid (TTrack w KT M pa ja sa pc jc sc ps js ss))(at_:Int)(la:Option Addr)(lc bs:Nat)(hL:Hid (EndsAt w la lies)):∀ n,LookAt w ps js ss lies KT O M2 at_ la lc bs n
 | 0=>fun K st e W hB hv hn=>by
  have:=hB.seen.few
  omega
 | n+1=>lookFrom_step w M pa ja sa pc jc sc ps js ss lies R KT O M2 hT at_ la lc bs hL n (lookFrom_any w M pa ja sa pc jc sc ps js ss lies R KT O M2 hT at_ la lc bs hL n)
theorem own_nil {w:World}{B e s n:Nat}{x:Option Addr}{y:Nat}{xs:List Value}(h:w.ownsRow B e s (.slice x n y) n xs)(hx:x=none):n=0∧y=0:=by
 rcases h.2 with ⟨h1,h2⟩ | ⟨g,cap,cur,h1,_⟩
 ·injection h1 with _ _ h3
  exact ⟨h2,h3⟩
 ·injection h1 with h3
  rw [hx] at h3
  cases h3
theorem own_news {w:World}{B e s n:Nat}{x:Option Addr}{y:Nat}{xs:List Value}(h:w.ownsRow B e s (.slice x n y) n xs):∀ ad,x=some ad→∀ j u,xs[j]? = some u→w.cell? (ad.add j)=some u:=by
 intro ad hx j u hu
 rcases h.2 with ⟨h1,h2⟩ | ⟨g,cap,cur,h1,_⟩
 ·injection h1 with h3
  rw [hx] at h3
  cases h3
 ·injection h1 with h3
  rw [hx] at h3
  injection h3 with h3
  rw [h3]
  exact h.cells (by rw [hx,h3];rfl) j u hu
theorem flanksOf_any (KT M:Nat)(pa ja sa:Option Addr)(pc jc sc:Nat)(ps:List MPiece)(js:List MJoint)(ss:List MPiece)(lies:List MLie)(R:Hid (Right ps js ss))(la:Option Addr)(lc:Nat)(w:World)(hT:Hid (TTrack w KT M pa ja sa pc jc sc ps js ss))(hL:Hid (EndsAt w la lies))
  (hlv:Hid (∀ l ∈ lies,∃ (j:Nat) (hj:j<js.length),l.piece=j∧js[j].kind=3∧(l.side=1∨l.side=2))) (hll:lies.length≤120) :
  Calls Tryz.prog 143 #[.pointer (some ⟨KT,0,none⟩),.slice la lies.length lc] w fun e w' => ∃ x y,e = .returned (.slice x (flanksF ps js ss lies lies).length y)∧w'.ownsRow w.heap.size 133 4 (.slice x (flanksF ps js ss lies lies).length y) (flanksF ps js ss lies lies).length (flatF (flanksF ps js ss lies lies))∧Below w.heap.size w w':=by
 have hmm := @run_makeMap Tryz.prog
 have hnp:=R.out.np
 go_enter Tryz.func143,Tryz.ntmps143
 go_wp2_with fail
 go_loopw [5,11] (fun v c wr => ∃ (m:Nat) (x:Option Addr) (y:Nat),m≤lies.length∧c = .int .i64 m∧v = .slice x (flanksF ps js ss lies (lies.take m)).length y∧Hid (wr.ownsRow w.heap.size 133 4 (.slice x (flanksF ps js ss lies (lies.take m)).length y) (flanksF ps js ss lies (lies.take m)).length (flatF (flanksF ps js ss lies (lies.take m))))∧Hid ((flanksF ps js ss lies (lies.take m)).length≤200*m)∧Below w.heap.size w wr) (fun _ c _=>lies.length-(intOf c).toNat)
 case atStart=>exact ⟨0,none,0,Nat.zero_le _,rfl,rfl,⟨rfl,Or.inl ⟨rfl,rfl⟩⟩,Nat.zero_le _,Below.refl _ _⟩
 case round =>
  obtain ⟨m,x,y,hm,rfl,rfl,HO,HFL,hb⟩:=hrel
  have hbs:=hb.size
  have HB:=hidP hb
  by_cases hm':m<lies.length
  ·have hmi:(m:Int)<lies.length:=by omega
   obtain ⟨bl,ol,rfl,hpl⟩:=(hL.out.below hb).2.resolve_left (nz hm')
   obtain ⟨l0,l1⟩:=hpl m hm'
   have hzl:=cellLt l0
   dsimp only at hzl
   obtain ⟨j,hj,hlp,hk3,hls⟩:=hlv.out lies[m] (List.getElem_mem hm')
   have HTW:=hidP (hT.out.below hb)
   have hel:js[j].ends.length=3:=by have:=(R.out.kind j hj).2.2;omega
   obtain ⟨t,ht0,ht⟩:∃ t:Nat,(t:Int)=3-lies[m].side∧t<js[j].ends.length:=⟨(3-lies[m].side).toNat,by omega,by omega⟩
   have HSN:Hid (flanksF ps js ss lies (lies.take (m+1))=flanksF ps js ss lies (lies.take m)++(lookF js ss lies (j:Int) (depthR ps) ([],[]) (endE js j t)).2):=by
    unfold Hid
    rw [List.take_succ_eq_append_getElem hm',flanksF_snoc,hlp,← ht0]
    simp
   have hve:ValidE ps (endE js j t):=by rw [endE_at hj ht];exact R.out.ends j hj t ht
   have hgr:=look_grew R.out lies (j:Int) (depthR ps) ([],[]) (endE js j t) (Seen.nil ps) hve
   have hf1:=hgr.1.few
   have hf2:=hgr.2.2
   simp only [List.length_nil] at hf2
   have HNX:Hid ((lookF js ss lies (j:Int) (depthR ps) ([],[]) (endE js j t)).2.length≤200):=by unfold Hid;omega
   have c1:=HTW.out.net.c1
   obtain ⟨bj,oj,hja,hpcj⟩:=HTW.out.net.J.2.2.resolve_left (nz hj)
   rw [hja] at c1
   obtain ⟨_,_,ea,ec,c3,c4⟩:=hpcj j hj
   obtain ⟨be,oe,hea,hpe⟩:=c4.2.resolve_left (nz ht)
   rw [hea] at c3
   obtain ⟨g0,g1⟩:=hpe t ht
   have hee:=endE_at hj ht
   rw [← hee] at g0 g1
   rw [hlp] at l0
   have hji:(j:Int)<js.length:=by omega
   have hti:(t:Int)<js[j].ends.length:=by omega
   have hjl:=HTW.out.net.J.1
   unfold maxLen at hjl
   have HOT:Hid (∀ u:World,Calls Tryz.prog 179 #[.int .i64 lies[m].side] u fun e w'=>e = .returned (.int .i64 (t:Int))∧Below u.heap.size u w'):=fun u=>by
    rw [ht0]
    exact otherLie_any lies[m].side u (by omega) (by omega)
   have hsd0:0≤lies[m].side:=by omega
   have HVE:=hidP hve
   generalize hen:endE js j t=en at HSN hve HNX g0 g1 HVE
   generalize hsd:lies[m].side=sd at HOT l1 hsd0
   generalize hln3:js[j].ends.length=el at c3 hti
   have hzc:=cellLt c1
   have hz3:=cellLt c3
   have hzg:=cellLt g0
   dsimp only at hzc hz3 hzg
   have HLE:Hid (EndsAt wr (some ⟨bl,ol,none⟩) lies):=hL.out.below hb
   clear hpl hpcj hpe c4 hgr hf1 hf2 hve hee hlp hls ht0 hk3 hel hen hsd hln3 hja hea
   obtain ⟨F,hF⟩:∃ F,flanksF ps js ss lies (lies.take m)=F:=⟨_,rfl⟩
   rw [hF] at HO HFL HSN ⊢
   obtain ⟨G,hG⟩:∃ G,lookF js ss lies (j:Int) (depthR ps) ([],[]) en=G:=⟨_,rfl⟩
   rw [hG] at HSN HNX
   have HLF:Hid (∀ K V O M2 bs,LBase wr ps KT O M2 (j:Int) (some ⟨bl,ol,none⟩) lies.length lc bs K ([],[]) V→Calls Tryz.prog 178 #[.pointer (some ⟨O,0,none⟩),.agg #[.int .i64 en.piece,.int .i64 en.side]] V (Looked wr ps KT O M2 (j:Int) (some ⟨bl,ol,none⟩) lies.length lc bs G K V)):=fun K V O M2 bs q=>by
    have z:=lookFrom_any wr M pa ja sa pc jc sc ps js ss lies R KT O M2 HTW (j:Int) (some ⟨bl,ol,none⟩) lc bs HLE (depthR ps) K ([],[]) en V q HVE.out (by unfold depthR;simp)
    rw [hG] at z
    exact z
   clear hF hG
   go_upto_region 6 with fail
   generalize hV:World.alloc (World.alloc (World.alloc wr _) _) _=V
   have hbV:Below wr.heap.size wr V:=by rw [← hV];exact blo
   have b0:V.cell? ⟨wr.heap.size,0,none⟩=some (.int .i64 (j:Int)):=by rw [← hV];simp [go_sem]
   have b1:V.cell? ⟨wr.heap.size,1,none⟩=some (.int .i64 sd):=by rw [← hV];simp [go_sem]
   have hzV:V.heap.size=wr.heap.size+1+1+1:=by rw [← hV];simp
   have HLB:Hid (LBase wr ps KT (wr.heap.size+1+1) (wr.heap.size+1) (j:Int) (some ⟨bl,ol,none⟩) lies.length lc (wr.heap.size+1+1+1) (fun k=>k=wr.heap.size+1+1∨k=wr.heap.size+1) ([],[]) V):=by
    refine ⟨hbV,⟨none,0,?_,⟨rfl,Or.inl ⟨rfl,rfl⟩⟩,fun k=>by simp [Value.ownBlock]⟩,?_,by omega,by omega,Seen.nil ps,Nat.le_refl _⟩
    ·rw [← hV]
     have q:=row_of_alloc2 ((wr.alloc (Obj.cells #[Value.int .i64 (j:Int),.int .i64 sd] 109)).alloc (Obj.map #[] 0)) (lookC KT (wr.heap.size+1) (j:Int) (some ⟨bl,ol,none⟩) lies.length lc (.slice none 0 0)) 316
     simpa [lookC] using q
    ·rw [← hV]
     have q:=(CMap.made 192 (wr.alloc (Obj.cells #[Value.int .i64 (j:Int),.int .i64 sd] 109))).below (show Below _ _ (World.alloc _ (Obj.cells #[Value.pointer (some ⟨KT,0,none⟩),.slice (some ⟨bl,ol,none⟩) lies.length lc,.int .i64 (j:Int),.map (some (wr.heap.size+1)),.slice none 0 0] 316)) from (Below.refl _ _).alloc (Nat.le_refl _) _)
     have e:(fun _:Value=>(0:Int))=seenF Classical.propDecidable []:=by
      funext v
      unfold seenF
      rw [if_neg (by rintro ⟨x,hx,_⟩;cases hx)]
     rw [e] at q
     simpa using q
   clear hV
   replace c1:=cell_later hbV c1
   replace c3:=cell_later hbV c3
   replace g0:=cell_later hbV g0
   replace g1:=cell_later hbV g1
   have HBV:=hidP hbV
   have HZV:=hidP hzV
   have hzV2:wr.heap.size<V.heap.size:=by omega
   obtain ⟨S,hS⟩:∃ S:World→Prop,∀ u,S u↔Below V.heap.size V u:=⟨_,fun _=>Iff.rfl⟩
   have HS0:=hidP hS
   have r0:∀ u:Held S,World.cell? u.val ⟨KT,1,none⟩=some (.slice (some ⟨bj,oj,none⟩) js.length jc):=fun u=>cell_later ((hS u.val).1 u.2) c1
   have r1:∀ u:Held S,World.cell? u.val ⟨wr.heap.size,0,none⟩=some (.int .i64 (j:Int)):=fun u=>cell_later ((hS u.val).1 u.2) b0
   have r2:∀ u:Held S,World.cell? u.val ⟨wr.heap.size,1,none⟩=some (.int .i64 sd):=fun u=>cell_later ((hS u.val).1 u.2) b1
   have r3:=fun u:Held S=>cell_later ((hS u.val).1 u.2) c3
   have r4:=fun u:Held S=>cell_later ((hS u.val).1 u.2) g0
   have r5:=fun u:Held S=>cell_later ((hS u.val).1 u.2) g1
   have hS1:S V.drew:=(hS _).2 ((Below.refl _ _).drew)
   have hne:=held_ne hS1
   clear hS hbV hzV b0 b1 c1 c3 g0 g1 hmm
   refine wp_region_tree (fun w' => ∃ u:Held S,w'=u.val) 15 (by kernel_rfl) (by kernel_rfl) (held_some hS1) ?_
   (refine wpT_sea 0 ?_;intro K hK;go_big_quiet_op;go_big_quiet_on);(refine wpT_sea 1 ?_;intro K hK;go_big_quiet_op;go_big_quiet_on);(refine wpT_sea 2 ?_;intro K hK;go_big_quiet_op;go_big_quiet_on);(refine wpT_sea 3 ?_;intro K hK;go_big_quiet_op;go_big_quiet_on);(refine wpT_sea 4 ?_;intro K hK;go_big_quiet_op;go_big_quiet_on);(refine wpT_sea 5 ?_;intro K hK;go_big_quiet_op;go_big_quiet_on);(refine wpT_sea 6 ?_;intro K hK;go_big_quiet_op;go_big_quiet_on);(refine wpT_sea 7 ?_;intro K hK;go_big_quiet_op;go_big_quiet_on);(refine wpT_sea 8 ?_;intro K hK;go_big_quiet_op;go_big_quiet_on);(refine wpT_sea 9 ?_;intro K hK;go_big_quiet_op;go_big_quiet_on);(refine wpT_sea 10 ?_;intro K hK;go_big_quiet_op;go_big_quiet_on);(refine wpT_sea 11 ?_;intro K hK;go_big_quiet_op;go_big_quiet_on)
   refine wpT_loud 12 (by rfl) (by kernel_rfl) (by kernel_rfl) ?_
   intro KK hK
   go_wp2_with (go_at_call 179;refine (HOT.out _).mono ?_;rintro e u2 ⟨rfl,hb2'⟩)
   have hb2:Below V.heap.size V u2:=(Below.refl _ _).drew.trans hb2'
   refine hK _ _ (held_some ((HS0.out _).2 hb2)) ?_
   clear hK KK hb2'
   (refine wpT_sea 13 ?_;intro K hK;go_big_quiet_op;go_big_quiet_on);(refine wpT_sea 14 ?_;intro K hK;go_big_quiet_op;go_big_quiet_on)
   clear r0 r1 r2 r3 r4 r5 hS1 hne
   have HB2:=hidP hb2
   have HL2:=hidP (HLF.out _ u2 _ _ _ (HLB.out.keep hb2))
   clear hb2
   refine wpT_done (by kernel_rfl) ?_
   go_upto_region 7 with (go_at_call 178;refine HL2.out.mono ?_;rintro e u3 ⟨⟨v3,rfl⟩,ho3,K3,hl3,hg3⟩)
   obtain ⟨x3,y3,q1,q2,_⟩:=hl3.own
   have o4:u3.cell? ⟨wr.heap.size+1+1,4,none⟩=some (.slice x3 G.2.length y3):=q1.cell (i:=4) (by omega)
   have hzo:=q1.lt
   have HO3:=hidP (owns_below HO.out hl3.below)
   have HQ2:=hidP q2
   have hb3:=hl3.below
   have HB3:Hid (Below w.heap.size w u3):=HB.out.trans (hb3.mono HB.out.size)
   have hz3:=HB3.out.size
   have hfl1:=HFL.out
   have hfl2:=HNX.out
   clear hl3 q1 q2 ho3 hg3 hb3
   go_wp2_with (at_builtin;refine wpList_append_list rfl (.tmp 37) (.tmp 39) 79 rfl w.heap.size 133 _ 4 32 Tryz.underlying79 Tryz.infoFlank rfl (by decide) (.slice x F.length y) F.length (flatF F) rfl HO3.out x3 G.2.length y3 (flatF G.2) rfl (fun q=>(own_nil HQ2.out q).2) (flatF_len G.2) (own_news HQ2.out) (fun q=>(own_nil HQ2.out q).1) (flatF_one G.2) (by unfold maxLen;omega) (by omega) (by omega) ?_;intro v6 w6 t1 t2)
   obtain ⟨x6,y6,e6,_⟩:=owns_shape t1
   subst e6
   have hle:(F++G.2).length=F.length+G.2.length:=by simp
   have hfe:flatF F++flatF G.2=flatF (F++G.2):=by simp [flatF]
   rw [hfe,← hle] at t1
   have hbb:=push_below HB3.out HO3.out t2 hz3
   go_roundw
   case rel =>
    refine ⟨m+1,x6,y6,by omega,by go_num,?_,?_,?_,hbb⟩
    ·rw [HSN.out,hle]
    ·unfold Hid
     rw [HSN.out]
     exact t1
    ·unfold Hid
     rw [HSN.out,hle]
     omega
   case measure=>simp [intOf];omega
  ·have hme:m=lies.length:=by omega
   have hmi:¬ (m:Int)<lies.length:=by omega
   subst hme
   rw [List.take_length] at HO HFL
   simp only [List.take_length]
   clear hmm
   go_wp2_with fail
   go_ret
   exact ⟨x,y,rfl,HO.out,HB.out⟩
end Go.Proofs.YtmkdgnmmebldgabGreatDoor
namespace Go.Proofs.YtmkdgnmmebldgabGreatDoor
open Go.RowKit Go.Deep
structure Tab where
 n:Nat→Nat→Nat
 ad:Nat→Nat→Option Addr
 cp:Nat→Nat→Nat
section
variable {G N R:Nat} {t:Tab} {k:Int} {w w':World} {m i q:Nat}
end
end Go.Proofs.YtmkdgnmmebldgabGreatDoor
namespace Go.Proofs.YtmkdgnmmebldgabGreatDoor
open Go.RowKit Go.Deep Go.Maps
theorem overOf_neg (KT:Nat)(over:Int)(w:World):
  Calls Tryz.prog 142 #[.pointer (some ⟨KT,0,none⟩),.int .i64 (-1),.int .i64 over] w fun e w'=>e = .returned (.slice none 0 0)∧Below w.heap.size w w':=by
 go_enter Tryz.func142,Tryz.ntmps142
 go_wp2_with fail
 go_ret
 exact ⟨rfl,blo⟩
theorem overOf_all (KT M:Nat)(pa ja sa:Option Addr)(pc jc sc:Nat)(ps:List MPiece)(js:List MJoint)(ss:List MPiece)(R:Hid (Right ps js ss))(stop:Int)(hst:stop = -1∨∃ i:Nat,i<ss.length∧stop=i)(over:Int)(h0:0≤over)(h1:over≤100000)(w:World)(hT:Hid (TTrack w KT M pa ja sa pc jc sc ps js ss)):
  Calls Tryz.prog 142 #[.pointer (some ⟨KT,0,none⟩),.int .i64 stop,.int .i64 over] w fun e w' => ∃ x y,e = .returned (.slice x (overF ps js ss stop over).length y)∧w'.ownsRow w.heap.size 185 3 (.slice x (overF ps js ss stop over).length y) (overF ps js ss stop over).length (flatP (overF ps js ss stop over))∧Below w.heap.size w w':=by
 rcases hst with rfl | ⟨i,hi,rfl⟩
 ·have e:overF ps js ss (-1) over=[]:=by unfold overF;rw [if_pos (by omega)]
  rw [e]
  refine (overOf_neg KT over w).mono ?_
  rintro r w' ⟨rfl,hb⟩
  exact ⟨none,0,rfl,⟨rfl,Or.inl ⟨rfl,rfl⟩⟩,hb⟩
 ·exact overOf_any KT M pa ja sa pc jc sc ps js ss R i hi over h0 h1 w hT
def adR (d:RAddr):Nat→Option Addr
 | 0=>d.a0
 | 1=>d.a1
 | 2=>d.a2
 | 3=>d.a3
 | 4=>d.a4
 | _=>d.a5
def AdB (a:Option Addr)(b:Nat):Prop := ∃ o s,a=some ⟨b,o,s⟩
structure RClaims (B:Nat)(w:World)(d:RAddr)(r:MRoute):Prop where
 steps:w.ownsRow B 166 2 (.slice d.a0 r.steps.length d.c0) r.steps.length (flatE r.steps)
 lies:w.ownsRow B 109 2 (.slice d.a1 r.lies.length d.c1) r.lies.length (flatE r.lies)
 crosses:w.ownsRow B 3 1 (.slice d.a2 r.crosses.length d.c2) r.crosses.length (flatN r.crosses)
 parts:w.ownsRow B 185 3 (.slice d.a3 r.parts.length d.c3) r.parts.length (flatP r.parts)
 over:w.ownsRow B 185 3 (.slice d.a4 r.over.length d.c4) r.over.length (flatP r.over)
 flanks:w.ownsRow B 133 4 (.slice d.a5 r.flanks.length d.c5) r.flanks.length (flatF r.flanks)
 dis:∀ i j,i<6→j<6→∀ b,AdB (adR d i) b→AdB (adR d j) b→i=j
theorem owns_mono {w:World}{B B' e s n:Nat}{v:Value}{xs:List Value}(h:w.ownsRow B e s v n xs)(hB:B'≤B):w.ownsRow B' e s v n xs:=
 ⟨h.1,h.2.imp id fun ⟨g,cap,cur,q1,q2,q3⟩=>⟨g,cap,cur,q1,Nat.le_trans hB q2,q3⟩⟩
theorem owns_blk {w:World}{B e s n:Nat}{x:Option Addr}{y:Nat}{xs:List Value}(h:w.ownsRow B e s (.slice x n y) n xs):∀ b,AdB x b→B≤b∧b<w.heap.size:=by
 rintro b ⟨o,sb,hx⟩
 refine h.lt b ?_
 rw [hx]
 rfl
theorem RClaims.blk {B:Nat}{w:World}{d:RAddr}{r:MRoute}(h:RClaims B w d r):∀ j,j<6→∀ b,AdB (adR d j) b→B≤b∧b<w.heap.size:=by
 intro j hj b hb
 match j,hj with
 | 0,_=>exact owns_blk h.steps b hb
 | 1,_=>exact owns_blk h.lies b hb
 | 2,_=>exact owns_blk h.crosses b hb
 | 3,_=>exact owns_blk h.parts b hb
 | 4,_=>exact owns_blk h.over b hb
 | 5,_=>exact owns_blk h.flanks b hb
theorem claims_of {w0 w1 w2 w3 w4 w5 w6 w:World}{d:RAddr}{r:MRoute}
  (h0:w1.ownsRow w0.heap.size 166 2 (.slice d.a0 r.steps.length d.c0) r.steps.length (flatE r.steps)) (b1:Below w1.heap.size w1 w2)
  (h1:w2.ownsRow w1.heap.size 109 2 (.slice d.a1 r.lies.length d.c1) r.lies.length (flatE r.lies)) (b2:Below w2.heap.size w2 w3)
  (h2:w3.ownsRow w2.heap.size 3 1 (.slice d.a2 r.crosses.length d.c2) r.crosses.length (flatN r.crosses)) (b3:Below w3.heap.size w3 w4)
  (h3:w4.ownsRow w3.heap.size 185 3 (.slice d.a3 r.parts.length d.c3) r.parts.length (flatP r.parts)) (b4:Below w4.heap.size w4 w5)
  (h4:w5.ownsRow w4.heap.size 185 3 (.slice d.a4 r.over.length d.c4) r.over.length (flatP r.over)) (b5:Below w5.heap.size w5 w6)
  (h5:w6.ownsRow w5.heap.size 133 4 (.slice d.a5 r.flanks.length d.c5) r.flanks.length (flatF r.flanks)) (b6:Below w6.heap.size w6 w) (hw:w0.heap.size≤w1.heap.size):RClaims w0.heap.size w d r:=by
 have z1:=b1.size
 have z2:=b2.size
 have z3:=b3.size
 have z4:=b4.size
 have z5:=b5.size
 have z6:=b6.size
 have c5:=b6
 have c4:=b5.trans (b6.mono z5)
 have c3:=b4.trans (c4.mono z4)
 have c2:=b3.trans (c3.mono z3)
 have c1:=b2.trans (c2.mono z2)
 have c0:=b1.trans (c1.mono z1)
 refine ⟨owns_below h0 c0,owns_mono (owns_below h1 c1) hw,owns_mono (owns_below h2 c2) (by omega),owns_mono (owns_below h3 c3) (by omega),owns_mono (owns_below h4 c4) (by omega),owns_mono (owns_below h5 c5) (by omega),?_⟩
 have k:∀ j,j<6→∀ b,AdB (adR d j) b→(j=0∧b<w1.heap.size)∨(j=1∧w1.heap.size≤b∧b<w2.heap.size)∨(j=2∧w2.heap.size≤b∧b<w3.heap.size)∨(j=3∧w3.heap.size≤b∧b<w4.heap.size)∨(j=4∧w4.heap.size≤b∧b<w5.heap.size)∨(j=5∧w5.heap.size≤b):=by
  intro j hj b hb
  match j,hj with
  | 0,_=>have:=owns_blk h0 b hb;omega
  | 1,_=>have:=owns_blk h1 b hb;omega
  | 2,_=>have:=owns_blk h2 b hb;omega
  | 3,_=>have:=owns_blk h3 b hb;omega
  | 4,_=>have:=owns_blk h4 b hb;omega
  | 5,_=>have:=owns_blk h5 b hb;omega
 intro i j hi hj b hbi hbj
 have q1:=k i hi b hbi
 have q2:=k j hj b hbj
 omega
structure PathOk (ps:List MPiece)(js:List MJoint)(ss:List MPiece)(p:MPath):Prop where
 s0:0<p.steps.length
 s1:p.steps.length≤202
 sv:∀ s ∈ p.steps,ValidS ps s
 start:∃ i:Nat,i<ss.length∧p.start=i
 stop:p.stop = -1∨∃ i:Nat,i<ss.length∧p.stop=i
 lv:∀ l ∈ p.lies,∃ (j:Nat) (hj:j<js.length),l.piece=j∧js[j].kind=3∧(l.side=1∨l.side=2)
 ll:p.lies.length≤120
 cl:p.crosses.length≤202
theorem RClaims.only {B:Nat}{w w':World}{d:RAddr}{r:MRoute}(h:RClaims B w d r){K:Nat→Prop}(hO:Only K w w')(hK:∀ k,K k→k<B):RClaims B w' d r:=
 ⟨owns_only h.steps hO hK,owns_only h.lies hO hK,owns_only h.crosses hO hK,owns_only h.parts hO hK,owns_only h.over hO hK,owns_only h.flanks hO hK,h.dis⟩
theorem RClaims.mono {B B':Nat}{w:World}{d:RAddr}{r:MRoute}(h:RClaims B w d r)(hB:B'≤B):RClaims B' w d r:=
 ⟨owns_mono h.steps hB,owns_mono h.lies hB,owns_mono h.crosses hB,owns_mono h.parts hB,owns_mono h.over hB,owns_mono h.flanks hB,h.dis⟩
def RoutePost (ps:List MPiece)(js:List MJoint)(ss:List MPiece)(over:Int)(p:MPath)(w:World)(e:Ending)(w':World):Prop:=
 ∃ d',e = .returned (routeV d' (routeF ps js ss over p))∧RClaims w.heap.size w' d' (routeF ps js ss over p)∧Below w.heap.size w w'
theorem routeOf_any (KT M:Nat)(pa ja sa:Option Addr)(pc jc sc:Nat)(ps:List MPiece)(js:List MJoint)(ss:List MPiece)(R:Hid (Right ps js ss))(d:PAddr)(p:MPath)(hp:Hid (PathOk ps js ss p))(over:Int)(ho0:0≤over)(ho1:over≤100000)(w:World)(hT:Hid (TTrack w KT M pa ja sa pc jc sc ps js ss))(h:Hid (PListsAt w d p)):
  Calls Tryz.prog 114 #[.pointer (some ⟨KT,0,none⟩),pathV d p,.int .i64 over] w (RoutePost ps js ss over p w):=by
 have hs1:=hp.out.s1
 have hl1:=hp.out.ll
 have hc1:=hp.out.cl
 have HPA:Hid (∀ u:World,Below w.heap.size w u→Calls Tryz.prog 141 #[.pointer (some ⟨KT,0,none⟩),.agg #[.int .i64 p.start,.int .i64 p.stop,.bool p.ended,.slice d.a0 p.steps.length d.c0,.slice d.a1 p.lies.length d.c1,.slice d.a2 p.crosses.length d.c2]] u fun e w' => ∃ x y,e = .returned (.slice x (partsF ps ss p).length y)∧w'.ownsRow u.heap.size 185 3 (.slice x (partsF ps ss p).length y) (partsF ps ss p).length (flatP (partsF ps ss p))∧Below u.heap.size u w'):=fun u hu =>
  partsOf_any KT pa ja sa pc jc sc ps js ss d p u (hT.out.below hu).net (h.out.below hu) hp.out.s0 (by omega) hp.out.sv hp.out.start hp.out.stop
 have HOV:Hid (∀ u:World,Below w.heap.size w u→Calls Tryz.prog 142 #[.pointer (some ⟨KT,0,none⟩),.int .i64 p.stop,.int .i64 over] u fun e w' => ∃ x y,e = .returned (.slice x (overF ps js ss p.stop over).length y)∧w'.ownsRow u.heap.size 185 3 (.slice x (overF ps js ss p.stop over).length y) (overF ps js ss p.stop over).length (flatP (overF ps js ss p.stop over))∧Below u.heap.size u w'):=fun u hu =>
  overOf_all KT M pa ja sa pc jc sc ps js ss R p.stop hp.out.stop over ho0 ho1 u (hT.out.below hu)
 have HFL:Hid (∀ u:World,Below w.heap.size w u→Calls Tryz.prog 143 #[.pointer (some ⟨KT,0,none⟩),.slice d.a1 p.lies.length d.c1] u fun e w' => ∃ x y,e = .returned (.slice x (flanksF ps js ss p.lies p.lies).length y)∧w'.ownsRow u.heap.size 133 4 (.slice x (flanksF ps js ss p.lies p.lies).length y) (flanksF ps js ss p.lies p.lies).length (flatF (flanksF ps js ss p.lies p.lies))∧Below u.heap.size u w'):=fun u hu =>
  flanksOf_any KT M pa ja sa pc jc sc ps js ss p.lies R d.a1 d.c1 u (hT.out.below hu) (h.out.lies.below hu) hp.out.lv hl1
 have HRF:Hid (routeF ps js ss over p=⟨p.start,p.stop,p.steps,p.lies,p.crosses,partsF ps ss p,overF ps js ss p.stop over,flanksF ps js ss p.lies p.lies⟩):=rfl
 generalize partsF ps ss p=PA at HPA HRF
 generalize overF ps js ss p.stop over=OV at HOV HRF
 generalize flanksF ps js ss p.lies p.lies=FL at HFL HRF
 unfold pathV
 go_enter Tryz.func114,Tryz.ntmps114
 go_upto_region 1 with fail
 generalize hW:World.alloc (World.alloc w _) _=W
 have hbW:Below w.heap.size w W:=by rw [← hW];exact blo
 have x0:W.cell? ⟨w.heap.size,0,none⟩=some (.int .i64 p.start):=by rw [← hW];simp [go_sem]
 have x1:W.cell? ⟨w.heap.size,1,none⟩=some (.int .i64 p.stop):=by rw [← hW];simp [go_sem]
 have x2:W.cell? ⟨w.heap.size,2,none⟩=some (.bool p.ended):=by rw [← hW];simp [go_sem]
 have x3:W.cell? ⟨w.heap.size,3,none⟩=some (.slice d.a0 p.steps.length d.c0):=by rw [← hW];simp [go_sem]
 have x4:W.cell? ⟨w.heap.size,4,none⟩=some (.slice d.a1 p.lies.length d.c1):=by rw [← hW];simp [go_sem]
 have x5:W.cell? ⟨w.heap.size,5,none⟩=some (.slice d.a2 p.crosses.length d.c2):=by rw [← hW];simp [go_sem]
 have hzW:W.heap.size=w.heap.size+1+1:=by rw [← hW];simp
 have HRR:Hid (∃ f,W.rowIs (w.heap.size+1) 81 8 f):=by
  unfold Hid
  rw [← hW]
  have q:=row_of_alloc2 (w.alloc (Obj.cells #[Value.int .i64 p.start,.int .i64 p.stop,.bool p.ended,.slice d.a0 p.steps.length d.c0,.slice d.a1 p.lies.length d.c1,.slice d.a2 p.crosses.length d.c2] 212)) #[.int .i64 0,.int .i64 0,.slice none 0 0,.slice none 0 0,.slice none 0 0,.slice none 0 0,.slice none 0 0,.slice none 0 0] 81
  have e:(w.alloc (Obj.cells #[Value.int .i64 p.start,.int .i64 p.stop,.bool p.ended,.slice d.a0 p.steps.length d.c0,.slice d.a1 p.lies.length d.c1,.slice d.a2 p.crosses.length d.c2] 212)).heap.size=w.heap.size+1:=by simp
  rw [e] at q
  exact ⟨_,q⟩
 have HBW:=hidP hbW
 have HZW:=hidP hzW
 have hzx:w.heap.size<W.heap.size:=by omega
 obtain ⟨S,hS⟩:∃ S:World→Prop,∀ u,S u↔Below W.heap.size W u:=⟨_,fun _=>Iff.rfl⟩
 have HS0:=hidP hS
 have r0:∀ u:Held S,World.cell? u.val ⟨w.heap.size,0,none⟩=some (.int .i64 p.start):=fun u=>cell_later ((hS u.val).1 u.2) x0
 have r1:∀ u:Held S,World.cell? u.val ⟨w.heap.size,1,none⟩=some (.int .i64 p.stop):=fun u=>cell_later ((hS u.val).1 u.2) x1
 have r2:∀ u:Held S,World.cell? u.val ⟨w.heap.size,2,none⟩=some (.bool p.ended):=fun u=>cell_later ((hS u.val).1 u.2) x2
 have r3:∀ u:Held S,World.cell? u.val ⟨w.heap.size,3,none⟩=some (.slice d.a0 p.steps.length d.c0):=fun u=>cell_later ((hS u.val).1 u.2) x3
 have r4:∀ u:Held S,World.cell? u.val ⟨w.heap.size,4,none⟩=some (.slice d.a1 p.lies.length d.c1):=fun u=>cell_later ((hS u.val).1 u.2) x4
 have r5:∀ u:Held S,World.cell? u.val ⟨w.heap.size,5,none⟩=some (.slice d.a2 p.crosses.length d.c2):=fun u=>cell_later ((hS u.val).1 u.2) x5
 have hS1:S W.drew:=(hS _).2 ((Below.refl _ _).drew)
 have hne:=held_ne hS1
 clear hS hW hbW hzW x0 x1 x2 x3 x4 x5
 refine wp_region_tree (fun w' => ∃ u:Held S,w'=u.val) 25 (by kernel_rfl) (by kernel_rfl) (held_some hS1) ?_
 (refine wpT_sea 0 ?_;intro K hK;go_big_quiet_op;go_big_quiet_on);(refine wpT_sea 1 ?_;intro K hK;go_big_quiet_op;go_big_quiet_on);(refine wpT_sea 2 ?_;intro K hK;go_big_quiet_op;go_big_quiet_on);(refine wpT_sea 3 ?_;intro K hK;go_big_quiet_op;go_big_quiet_on);(refine wpT_sea 4 ?_;intro K hK;go_big_quiet_op;go_big_quiet_on);(refine wpT_sea 5 ?_;intro K hK;go_big_quiet_op;go_big_quiet_on)
 (refine wpT_sea 7 ?_;intro K hK;go_big_quiet_op;go_big_quiet_on);(refine wpT_sea 8 ?_;intro K hK;go_big_quiet_op;go_big_quiet_on)
 (refine wpT_sea 10 ?_;intro K hK;go_big_quiet_op;go_big_quiet_on);(refine wpT_sea 11 ?_;intro K hK;go_big_quiet_op;go_big_quiet_on)
 (refine wpT_sea 13 ?_;intro K hK;go_big_quiet_op;go_big_quiet_on);(refine wpT_sea 14 ?_;intro K hK;go_big_quiet_op;go_big_quiet_on)
 (refine wpT_sea 16 ?_;intro K hK;go_big_quiet_op;go_big_quiet_on);(refine wpT_sea 17 ?_;intro K hK;go_big_quiet_op;go_big_quiet_on);(refine wpT_sea 18 ?_;intro K hK;go_big_quiet_op;go_big_quiet_on);(refine wpT_sea 19 ?_;intro K hK;go_big_quiet_op;go_big_quiet_on)
 (refine wpT_sea 21 ?_;intro K hK;go_big_quiet_op;go_big_quiet_on);(refine wpT_sea 22 ?_;intro K hK;go_big_quiet_op;go_big_quiet_on);(refine wpT_sea 23 ?_;intro K hK;go_big_quiet_op;go_big_quiet_on)
 clear r0 r1 r2 r3 r4 r5
 refine wpT_loud 6 (by rfl) (by kernel_rfl) (by kernel_rfl) ?_
 intro KK hK
 show wpList Tryz.prog _ _ [_] _ _
 refine wpList_copy0 rfl (.tmp 12) 76 rfl 166 _ 2 16 Tryz.underlying76 Tryz.infoStep rfl (by decide) d.a0 p.steps.length d.c0 (flatE p.steps) rfl h.out.nil0 (flatE_len _) (newsE ((h.out.steps.below HBW.out).below ((Below.refl _ _).drew))) (flatE_one _) h.out.steps.1 (by omega) ?_
 intro s1x s1y w1 o1 b1
 have hb1:Below W.heap.size W w1:=(Below.refl _ _).drew.trans b1
 have O1:=hidP o1
 have B1:=hidP hb1
 clear o1 b1 hb1
 go_wp2_with fail
 refine hK _ _ (held_some ((HS0.out _).2 B1.out)) ?_
 clear hK KK
 refine wpT_loud 9 (by rfl) (by kernel_rfl) (by kernel_rfl) ?_
 intro KK hK
 show wpList Tryz.prog _ _ [_] _ _
 refine wpList_copy0 rfl (.tmp 15) 77 rfl 109 _ 2 16 Tryz.underlying77 Tryz.infoLie rfl (by decide) d.a1 p.lies.length d.c1 (flatE p.lies) rfl h.out.nil1 (flatE_len _) (newsE ((h.out.lies.below HBW.out).below B1.out)) (flatE_one _) h.out.lies.1 (by omega) ?_
 intro s2x s2y w2 o2 b2
 have O2:=hidP o2
 have B2:=hidP b2
 have C2:Hid (Below W.heap.size W w2):=B1.out.trans (b2.mono B1.out.size)
 clear o2 b2
 go_wp2_with fail
 refine hK _ _ (held_some ((HS0.out _).2 C2.out)) ?_
 clear hK KK
 refine wpT_loud 12 (by rfl) (by kernel_rfl) (by kernel_rfl) ?_
 intro KK hK
 show wpList Tryz.prog _ _ [_] _ _
 refine wpList_copy0 rfl (.tmp 18) 54 rfl 3 _ 1 8 Tryz.underlying54 Tryz.infoInt rfl (by decide) d.a2 p.crosses.length d.c2 (flatN p.crosses) rfl h.out.nil2 (flatN_len _) (newsN ((h.out.crosses.below HBW.out).below C2.out)) (flatN_one _) h.out.crosses.1 (by omega) ?_
 intro s3x s3y w3 o3 b3
 have O3:=hidP o3
 have B3:=hidP b3
 have C3:Hid (Below W.heap.size W w3):=C2.out.trans (b3.mono C2.out.size)
 clear o3 b3
 go_wp2_with fail
 refine hK _ _ (held_some ((HS0.out _).2 C3.out)) ?_
 clear hK KK
 refine wpT_loud 15 (by rfl) (by kernel_rfl) (by kernel_rfl) ?_
 intro KK hK
 go_wp2_with (go_at_call 141;refine (HPA.out _ (HBW.out.trans (C3.out.mono HBW.out.size))).mono ?_;rintro e w4 ⟨s4x,s4y,rfl,o4,b4⟩)
 have O4:=hidP o4
 have B4:=hidP b4
 have C4:Hid (Below W.heap.size W w4):=C3.out.trans (b4.mono C3.out.size)
 clear o4 b4
 refine hK _ _ (held_some ((HS0.out _).2 C4.out)) ?_
 clear hK KK
 refine wpT_loud 20 (by rfl) (by kernel_rfl) (by kernel_rfl) ?_
 intro KK hK
 go_wp2_with (go_at_call 142;refine (HOV.out _ (HBW.out.trans (C4.out.mono HBW.out.size))).mono ?_;rintro e w5 ⟨s5x,s5y,rfl,o5,b5⟩)
 have O5:=hidP o5
 have B5:=hidP b5
 have C5:Hid (Below W.heap.size W w5):=C4.out.trans (b5.mono C4.out.size)
 clear o5 b5
 refine hK _ _ (held_some ((HS0.out _).2 C5.out)) ?_
 clear hK KK
 refine wpT_loud 24 (by rfl) (by kernel_rfl) (by kernel_rfl) ?_
 intro KK hK
 go_wp2_with (go_at_call 143;refine (HFL.out _ (HBW.out.trans (C5.out.mono HBW.out.size))).mono ?_;rintro e w6 ⟨s6x,s6y,rfl,o6,b6⟩)
 have O6:=hidP o6
 have B6:=hidP b6
 have C6:Hid (Below W.heap.size W w6):=C5.out.trans (b6.mono C5.out.size)
 clear o6 b6
 refine hK _ _ (held_some ((HS0.out _).2 C6.out)) ?_
 clear hK KK hS1 hne
 refine wpT_done (by kernel_rfl) ?_
 obtain ⟨f,hf⟩:=HRR.out
 have hr:=hf.of_block (C6.out.block _ hf.lt)
 have g0:=hr.cell (i:=0) (by omega)
 have g1:=hr.cell (i:=1) (by omega)
 have g2:=hr.cell (i:=2) (by omega)
 have g3:=hr.cell (i:=3) (by omega)
 have g4:=hr.cell (i:=4) (by omega)
 have g5:=hr.cell (i:=5) (by omega)
 have g6:=hr.cell (i:=6) (by omega)
 have g7:=hr.cell (i:=7) (by omega)
 have f0:=hr.frozen 0
 have f1:=hr.frozen 1
 have f2:=hr.frozen 2
 have f3:=hr.frozen 3
 have f4:=hr.frozen 4
 have f5:=hr.frozen 5
 have f6:=hr.frozen 6
 have f7:=hr.frozen 7
 have hzr:=hr.lt
 have HR:=hidP hr
 clear hr hf
 go_wp2_with fail
 generalize hZ:World.setCell (World.setCell (World.setCell (World.setCell (World.setCell (World.setCell (World.setCell (World.setCell w6 _ _) _ _) _ _) _ _) _ _) _ _) _ _) _ _=Z
 have hRZ:=(((((((HR.out.set 0 (.int .i64 p.start)).set 1 (.int .i64 p.stop)).set 2 (.slice s1x p.steps.length s1y)).set 3 (.slice s2x p.lies.length s2y)).set 4 (.slice s3x p.crosses.length s3y)).set 5 (.slice s4x PA.length s4y)).set 6 (.slice s5x OV.length s5y)).set 7 (.slice s6x FL.length s6y)
 rw [hZ] at hRZ
 have hOZ:Only (fun k=>k=w.heap.size+1) w6 Z:=by
  rw [← hZ]
  exact ((((((((Only.refl (fun k=>k=w.heap.size+1) w6).setCell (p:=⟨w.heap.size+1,0,none⟩) (Or.inl rfl) _).setCell (p:=⟨w.heap.size+1,1,none⟩) (Or.inl rfl) _).setCell (p:=⟨w.heap.size+1,2,none⟩) (Or.inl rfl) _).setCell (p:=⟨w.heap.size+1,3,none⟩) (Or.inl rfl) _).setCell (p:=⟨w.heap.size+1,4,none⟩) (Or.inl rfl) _).setCell (p:=⟨w.heap.size+1,5,none⟩) (Or.inl rfl) _).setCell (p:=⟨w.heap.size+1,6,none⟩) (Or.inl rfl) _).setCell (p:=⟨w.heap.size+1,7,none⟩) (Or.inl rfl) _
 clear hZ
 have z0:Z.cell? ⟨w.heap.size+1,0,none⟩=some (.int .i64 p.start):=(hRZ.cell (i:=0) (by omega)).trans (by simp)
 have z1:Z.cell? ⟨w.heap.size+1,1,none⟩=some (.int .i64 p.stop):=(hRZ.cell (i:=1) (by omega)).trans (by simp)
 have z2:Z.cell? ⟨w.heap.size+1,2,none⟩=some (.slice s1x p.steps.length s1y):=(hRZ.cell (i:=2) (by omega)).trans (by simp)
 have z3:Z.cell? ⟨w.heap.size+1,3,none⟩=some (.slice s2x p.lies.length s2y):=(hRZ.cell (i:=3) (by omega)).trans (by simp)
 have z4:Z.cell? ⟨w.heap.size+1,4,none⟩=some (.slice s3x p.crosses.length s3y):=(hRZ.cell (i:=4) (by omega)).trans (by simp)
 have z5:Z.cell? ⟨w.heap.size+1,5,none⟩=some (.slice s4x PA.length s4y):=(hRZ.cell (i:=5) (by omega)).trans (by simp)
 have z6:Z.cell? ⟨w.heap.size+1,6,none⟩=some (.slice s5x OV.length s5y):=(hRZ.cell (i:=6) (by omega)).trans (by simp)
 have z7:Z.cell? ⟨w.heap.size+1,7,none⟩=some (.slice s6x FL.length s6y):=(hRZ.cell (i:=7) (by omega)).trans (by simp)
 have hzw:=HZW.out
 have hcl:RClaims W.drew.heap.size w6 ⟨s1x,s1y,s2x,s2y,s3x,s3y,s4x,s4y,s5x,s5y,s6x,s6y⟩ ⟨p.start,p.stop,p.steps,p.lies,p.crosses,PA,OV,FL⟩:=claims_of O1.out B2.out O2.out B3.out O3.out B4.out O4.out B5.out O5.out B6.out O6.out (Below.refl _ _) B1.out.size
 have hcz:RClaims W.heap.size Z ⟨s1x,s1y,s2x,s2y,s3x,s3y,s4x,s4y,s5x,s5y,s6x,s6y⟩ ⟨p.start,p.stop,p.steps,p.lies,p.crosses,PA,OV,FL⟩:=hcl.only hOZ (fun k hk=>by show k<W.heap.size;omega)
 have hbw:Below w.heap.size w w6:=HBW.out.trans (C6.out.mono HBW.out.size)
 refine bodyPost_ret (v:=routeV ⟨s1x,s1y,s2x,s2y,s3x,s3y,s4x,s4y,s5x,s5y,s6x,s6y⟩ ⟨p.start,p.stop,p.steps,p.lies,p.crosses,PA,OV,FL⟩) (by simp [routeV,results,Tryz.results114,go_sem,z0,z1,z2,z3,z4,z5,z6,z7]) rfl ?_
 unfold RoutePost
 rw [HRF.out]
 exact ⟨_,rfl,hcz.mono (by omega),hbw.trans (hOZ.below hbw.size (fun k hk e=>by omega))⟩
end Go.Proofs.YtmkdgnmmebldgabGreatDoor
