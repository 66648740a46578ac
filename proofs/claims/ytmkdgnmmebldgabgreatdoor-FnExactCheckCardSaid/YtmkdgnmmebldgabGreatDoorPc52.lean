import Derived.Test.YtmkdgnmmebldgabGreatDoorPc42
import Derived.Test.YtmkdgnmmebldgabGreatDoorPc49
import Derived.Test.YtmkdgnmmebldgabGreatDoorPc48
import Derived.Test.YtmkdgnmmebldgabGreatDoorPc50
import Derived.Test.YtmkdgnmmebldgabGreatDoorPc36
import Derived.Test.YtmkdgnmmebldgabGreatDoorPc45
set_option maxRecDepth 100000
set_option maxHeartbeats 8000000
namespace Go.Proofs.YtmkdgnmmebldgabGreatDoor
open Go.RowKit Go.Deep
theorem checkAll_any (pa ja sa ra ta:Option Addr)(pc jc sc rc tc:Nat)(ps:List MPiece)(js:List MJoint)(ss:List MPiece)(over:Int)(rs:List MRoute)(tt:List (List Int))(w:World)(hp:Hid (PiecesAt w pa ps))(hj:Hid (JointsAt w ja js))(hs:Hid (PiecesAt w sa ss))(hr:Hid (RoutesAt w ra rs))(ht:Hid (TabAt w ta tt)):
  Calls Tryz.prog 41 #[.agg #[.slice pa ps.length pc,.slice ja js.length jc],.slice sa ss.length sc,.int .i64 over,.slice ra rs.length rc,.slice ta tt.length tc] w fun e w'=>e = .returned (errsV (allF ps js ss over rs tt))∧Below w.heap.size w w':=by
 obtain ⟨O,hO⟩:∃ O,allF ps js ss over rs tt=O:=⟨_,rfl⟩
 rw [hO]
 have HO:=hidP hO
 clear hO
 go_enter Tryz.func41,Tryz.ntmps41
 go_upto_region 1 with fail
 generalize hW:World.alloc w _=W
 have e0:W.cell? ⟨w.heap.size,0,none⟩=some (.slice pa ps.length pc):=by rw [← hW];simp [go_sem]
 have e1:W.cell? ⟨w.heap.size,1,none⟩=some (.slice ja js.length jc):=by rw [← hW];simp [go_sem]
 have HBW:Hid (Below w.heap.size w W):=by rw [← hW];exact blo
 have HP:=hidQ (hp.out.below HBW.out)
 have HJ:=hidQ (hj.out.below HBW.out)
 have HS:=hidQ (hs.out.below HBW.out)
 have HR:=hidQ (hr.out.below HBW.out)
 have HT:=hidQ (ht.out.below HBW.out)
 clear hW hp hj hs hr ht
 have HGO:=hidP (givenOk_any pa ja sa pc jc sc ps js ss over W HP HJ HS)
 by_cases hg:sigF ps js ss=(0,0)∧0≤over∧over≤100000
 rotate_left
 ·rw [decide_eq_false hg] at HGO
  have HE:Hid (O=some (1,none)):=by unfold Hid;rw [← HO.out];exact allF_no hg
  clear hg
  go_wp2_with (go_at_call 70;refine HGO.out.mono ?_;rintro e w1 ⟨rfl,hb1⟩)
  go_ret
  exact ⟨by rw [HE.out];rfl,HBW.out.trans (hb1.mono HBW.out.size)⟩
 have HG:=hidP hg
 rw [decide_eq_true hg] at HGO
 clear hg
 go_upto_region 3 with (go_at_call 70;refine HGO.out.mono ?_;rintro e w1 ⟨rfl,hb1⟩)
 have HB1:=hidP hb1
 replace e0:=cell_later hb1 e0
 replace e1:=cell_later hb1 e1
 clear hb1 HGO
 have HIR:=hidP (implRoutes_any pa ja sa pc jc sc ps js ss over w1 (HP.out.below HB1.out) (HJ.out.below HB1.out) (HS.out.below HB1.out))
 have HRF:=hidP (routesF_ok ps js ss over)
 obtain ⟨want,hwant⟩:∃ q,routesF ps js ss over=q:=⟨_,rfl⟩
 rw [hwant] at HRF
 have HWT:=hidP hwant
 clear hwant
 go_wp2_with fail
 refine HIR.out.mono ?_
 rintro e w2 ⟨x,y,qs,rfl,hqs,htab,hb2⟩
 rw [HWT.out] at hqs
 have HQL:Hid (qs.length=want.length):=by unfold Hid;rw [← hqs];simp
 have HQR:Hid (RoutesAt w2 x want):=by have h:=htab.routes (by rw [HQL.out];exact HRF.out.1);rw [hqs] at h;exact h
 rw [HQL.out]
 have HB2:Hid (Below W.heap.size W w2):=HB1.out.trans (hb2.mono HB1.out.size)
 have HR2:=hidP (HR.out.below HB2.out)
 clear hqs htab hb2 HIR HQL e0 e1
 go_wp2_with fail
 refine (checkRoutes_any ra x rc y rs want w2 HR2 HQR).mono ?_
 rintro e w3 ⟨rfl,hb3⟩
 have HB3:Hid (Below W.heap.size W w3):=HB2.out.trans (hb3.mono HB2.out.size)
 clear hb3 HR2 HQR
 cases hck:chkR rs want 0 with
 | some ci =>
  obtain ⟨c,i⟩:=ci
  have HE:Hid (O=some (c,some ((i:Int),0))):=by unfold Hid;rw [← HO.out];exact allF_r HG.out (by rw [HWT.out];exact hck)
  clear hck
  unfold chkV errV
  go_wp2_with fail
  go_ret
  exact ⟨by rw [HE.out];rfl,HBW.out.trans (HB3.out.mono HBW.out.size)⟩
 | none =>
  have HEQ:=hidP (chkR_none rs want 0 hck)
  have HCK:Hid (chkR rs (routesF ps js ss over) 0=none):=by unfold Hid;rw [HWT.out];exact hck
  clear hck
  unfold chkV
  have HSH:Hid (ShortRs rs):=fun r hr=>(HRF.out.2 r (by rw [← HEQ.out];exact hr)).short
  have HWF:Hid (WfRs rs):=fun i hi=>(HRF.out.2 _ (by rw [← HEQ.out];exact List.getElem_mem hi)).wf
  have HR3:=hidP (HR.out.below HB3.out)
  have HIT:=hidP (implTable_any ra rc rs w3 HR3 HSH HWF)
  have HTL:=hidP (tableF_len rs)
  obtain ⟨uu,huu⟩:∃ uu,tableF rs=uu:=⟨_,rfl⟩
  rw [huu] at HIT HTL
  have HUU:=hidP huu
  clear huu
  go_wp2_with fail
  refine HIT.out.mono ?_
  rintro e w4 ⟨x4,y4,cells,rfl,ho,hRo,_,hb4⟩
  have HTA:Hid (TabAt w4 x4 uu):=tab_of_owns ho hRo (by have:=HTL.out.1;unfold maxLen;omega) (fun i h=>by have:=HTL.out.2 i h;unfold maxLen;omega)
  have HB4:Hid (Below W.heap.size W w4):=HB3.out.trans (hb4.mono HB3.out.size)
  have HT4:=hidP (HT.out.below HB4.out)
  clear ho hRo hb4 HIT
  go_wp2_with fail
  refine (checkTable_any ta x4 tc y4 tt uu w4 HT4 HTA).mono ?_
  rintro e w5 ⟨rfl,hb5⟩
  have HB5:Hid (Below W.heap.size W w5):=HB4.out.trans (hb5.mono HB4.out.size)
  have HE:Hid (errsV O=tabV (chkT tt uu)):=by
   unfold Hid
   rw [← HO.out]
   cases hct:chkT tt uu with
   | none=>rw [allF_ok HG.out HCK.out (by rw [HUU.out];exact hct)];rfl
   | some ik=>obtain ⟨i,k⟩:=ik;rw [allF_t HG.out HCK.out (by rw [HUU.out];exact hct)];rfl
  clear hb5
  go_wp2_with fail
  go_ret
  exact ⟨by rw [HE.out];rfl,HBW.out.trans (HB5.out.mono HBW.out.size)⟩
def placeV:Option (Int × Int)→Value
 | none=>.nilIface
 | some (a,b)=>.iface 95 (.agg #[.int .i64 a,.int .i64 b])
theorem errsV_n:errsV none = .nilIface:=rfl
theorem errsV_s (c:Int)(p:Option (Int × Int)):errsV (some (c,p)) = .iface 91 (.agg #[.int .i64 c,placeV p]):=by
 rcases p with _ | ⟨a,b⟩ <;> rfl
theorem placeV_one (p:Option (Int × Int)):(placeV p).oneCell'=true:=by
 rcases p with _ | ⟨a,b⟩ <;> rfl
theorem Only.frozen {S:Nat→Prop}{w w':World}(h:Only S w w'){p:Addr}(hl:p.block<w.heap.size)(hs:¬ S p.block):w'.frozen? p=w.frozen? p:=
 World.frozen?_of_block (w:=w) (h.block p.block hl hs)
theorem implCheck_any (pa ja sa ra ta:Option Addr)(pc jc sc rc tc:Nat)(ps:List MPiece)(js:List MJoint)(ss:List MPiece)(over:Int)(rs:List MRoute)(tt:List (List Int))(w:World)(hp:Hid (PiecesAt w pa ps))(hj:Hid (JointsAt w ja js))(hs:Hid (PiecesAt w sa ss))(hr:Hid (RoutesAt w ra rs))(ht:Hid (TabAt w ta tt))(hg:Hid (w.cell? ⟨0,0,none⟩=some (.iface 231 (.agg #[.pointer (some ⟨4,88,none⟩)])))):
  Calls Tryz.prog 15 #[.agg #[.slice pa ps.length pc,.slice ja js.length jc],.slice sa ss.length sc,.int .i64 over,.slice ra rs.length rc,.slice ta tt.length tc] w fun e w'=>e = .returned (wrongV (allF ps js ss over rs tt))∧Below w.heap.size w w':=by
 have HCA:Hid (∀ u:World,Below w.heap.size w u→Calls Tryz.prog 41 #[.agg #[.slice pa ps.length pc,.slice ja js.length jc],.slice sa ss.length sc,.int .i64 over,.slice ra rs.length rc,.slice ta tt.length tc] u fun e w'=>e = .returned (errsV (allF ps js ss over rs tt))∧Below u.heap.size u w'):=fun u hu=>checkAll_any pa ja sa ra ta pc jc sc rc tc ps js ss over rs tt u (hp.out.below hu) (hj.out.below hu) (hs.out.below hu) (hr.out.below hu) (ht.out.below hu)
 obtain ⟨O,hO⟩:∃ O,allF ps js ss over rs tt=O:=⟨_,rfl⟩
 rw [hO] at HCA ⊢
 clear hO hp hj hs hr ht
 go_enter Tryz.func15,Tryz.ntmps15
 go_upto_region 1 with fail
 generalize hW:World.alloc (World.alloc w _) _=W
 have e0:W.cell? ⟨w.heap.size,0,none⟩=some (.slice pa ps.length pc):=by rw [← hW];simp [go_sem]
 have e1:W.cell? ⟨w.heap.size,1,none⟩=some (.slice ja js.length jc):=by rw [← hW];simp [go_sem]
 have r0:W.cell? ⟨w.heap.size+1,0,none⟩=some (.int .i64 0):=by rw [← hW];simp [go_sem]
 have r1:W.cell? ⟨w.heap.size+1,1,none⟩=some (.int .i64 0):=by rw [← hW];simp [go_sem]
 have r2:W.cell? ⟨w.heap.size+1,2,none⟩=some (.int .i64 0):=by rw [← hW];simp [go_sem]
 have z:∀ o,W.frozen? ⟨w.heap.size+1,o,none⟩=false:=by intro o;rw [← hW];simp [go_sem]
 have hbW:Below w.heap.size w W:=by rw [← hW];exact blo
 have hzW:w.heap.size+1<W.heap.size:=by rw [← hW];simp
 clear hW
 go_upto_region 2 with (go_at_call 41;refine (HCA.out _ hbW).mono ?_;rintro e w1 ⟨rfl,hb1⟩)
 clear HCA e0 e1
 have hbw1:=hbW.trans (hb1.mono hbW.size)
 have hz1:=hb1.size
 go_upto_region 4 with fail
 generalize hW2:World.alloc (World.alloc w1 _) _=W2
 have a0:W2.cell? ⟨w1.heap.size,0,none⟩=some (.int .i64 0):=by rw [← hW2];simp [go_sem]
 have a1:W2.cell? ⟨w1.heap.size,1,none⟩=some (.int .i64 0):=by rw [← hW2];simp [go_sem]
 have a2:W2.cell? ⟨w1.heap.size,2,none⟩=some (.int .i64 0):=by rw [← hW2];simp [go_sem]
 have p0:W2.cell? ⟨w1.heap.size+1,0,none⟩=some (.int .i64 0):=by rw [← hW2];simp [go_sem]
 have p1:W2.cell? ⟨w1.heap.size+1,1,none⟩=some .nilIface:=by rw [← hW2];simp [go_sem]
 have zA:∀ o,W2.frozen? ⟨w1.heap.size,o,none⟩=false:=by intro o;rw [← hW2];simp [go_sem]
 have zP:∀ o,W2.frozen? ⟨w1.heap.size+1,o,none⟩=false:=by intro o;rw [← hW2];simp [go_sem]
 have hb2:Below w1.heap.size w1 W2:=by rw [← hW2];exact blo
 have hz2:W2.heap.size=w1.heap.size+2:=by rw [← hW2];simp
 clear hW2
 have hbW2:Below W.heap.size W W2:=hb1.trans (hb2.mono hb1.size)
 have hbw2:Below w.heap.size w W2:=hbw1.trans (hb2.mono hbw1.size)
 replace r0:=cell_later hbW2 r0
 replace r1:=cell_later hbW2 r1
 replace r2:=cell_later hbW2 r2
 replace z:∀ o,W2.frozen? ⟨w.heap.size+1,o,none⟩=false:=fun o=>(hbW2.frozen (p:=⟨w.heap.size+1,o,none⟩) hzW).trans (z o)
 have g2:=cell_later hbw2 hg.out
 obtain ⟨A,hA⟩:∃ A,w1.heap.size=A:=⟨_,rfl⟩
 obtain ⟨R,hR⟩:∃ R,w.heap.size+1=R:=⟨_,rfl⟩
 have HRw:Hid (w.heap.size+1=R):=hR
 rw [hA] at a0 a1 a2 p0 p1 zA zP hz2 hz1 ⊢
 rw [hR] at r0 r1 r2 z hzW ⊢
 obtain ⟨P,hP⟩:∃ P,A+1=P:=⟨_,rfl⟩
 rw [hP] at p0 p1 zP ⊢
 clear hb1 hb2 hbW hbw1 hbW2 hg
 have hRA:R<A:=by omega
 have hne1:R≠A:=by omega
 have hne2:R≠P:=by omega
 have hne3:A≠P:=by omega
 have hPz:P<W2.heap.size:=by omega
 have hAz:A<W2.heap.size:=by omega
 have hRz:R<W2.heap.size:=by omega
 have zR0:=z 0
 have zR1:=z 1
 have zR2:=z 2
 have HB2:=hidP hbw2
 have hwz:w.heap.size≤R:=by omega
 clear hA hR hbw2 hz2
 rcases O with _ | ⟨c,p⟩
 ·rw [errsV_n]
  go_wp2_with (go_at_call 42;refine (as_none _ _).mono ?_;rintro e w3 ⟨rfl,rfl⟩)
  have hbx:=HB2.out
  exact bodyPost_ret (v:=.agg #[.int .i64 0,.int .i64 0,.int .i64 0]) (by simp [results,Tryz.results15,go_sem,r0,r1,r2,hRz]) rfl ⟨rfl,blo⟩
 rw [errsV_s]
 go_upto_region 5 with (go_at_call 42;refine (asA_hit (.int .i64 c) (placeV p) (.int .i64 0) .nilIface P W2 rfl (placeV_one p) g2 p0 p1 (zP 0) (zP 1)).mono ?_;rintro e w3 ⟨rfl,q0,q1,hO3⟩)
 replace a0:=hO3.cell a0 (by exact hne3)
 replace a1:=hO3.cell a1 (by exact hne3)
 replace a2:=hO3.cell a2 (by exact hne3)
 replace r0:=hO3.cell r0 (by exact hne2)
 replace r1:=hO3.cell r1 (by exact hne2)
 replace r2:=hO3.cell r2 (by exact hne2)
 replace g2:=hO3.cell g2 (by show ¬ (0=P);omega)
 have zA3:∀ o,w3.frozen? ⟨A,o,none⟩=false:=fun o=>(hO3.frozen (p:=⟨A,o,none⟩) hAz hne3).trans (zA o)
 have zR3:∀ o,w3.frozen? ⟨R,o,none⟩=false:=fun o=>(hO3.frozen (p:=⟨R,o,none⟩) hRz hne2).trans (z o)
 have hz3:=hO3.size
 have HB3:Hid (Below w.heap.size w w3):=HB2.out.trans (hO3.below HB2.out.size (fun k hk e=>by omega))
 clear hO3 zA zP z p0 p1 zR0 zR1 zR2 HB2
 have zA0:=zA3 0
 go_upto_region 7 with fail
 have hz3R:R<w3.heap.size:=by omega
 have hz3A:A<w3.heap.size:=by omega
 have hz30:0<w3.heap.size:=cellLt g2
 have h0A:0≠A:=by omega
 have hA0:A≠0:=by omega
 generalize hW4:World.alloc (World.setCell w3 _ _) _=W4
 have b0:W4.cell? ⟨A,0,none⟩=some (.int .i64 c):=by rw [← hW4];simp [go_sem,a0,hz3A]
 have b1:W4.cell? ⟨A,1,none⟩=some (.int .i64 0):=by rw [← hW4];simp [go_sem,a1,hz3A]
 have b2:W4.cell? ⟨A,2,none⟩=some (.int .i64 0):=by rw [← hW4];simp [go_sem,a2,hz3A]
 have s0:W4.cell? ⟨R,0,none⟩=some (.int .i64 0):=by rw [← hW4];simp [go_sem,r0,hz3R]
 have s1:W4.cell? ⟨R,1,none⟩=some (.int .i64 0):=by rw [← hW4];simp [go_sem,r1,hz3R]
 have s2:W4.cell? ⟨R,2,none⟩=some (.int .i64 0):=by rw [← hW4];simp [go_sem,r2,hz3R]
 have d0:W4.cell? ⟨w3.heap.size,0,none⟩=some (.int .i64 0):=by rw [← hW4];simp [go_sem]
 have d1:W4.cell? ⟨w3.heap.size,1,none⟩=some (.int .i64 0):=by rw [← hW4];simp [go_sem]
 have g4:W4.cell? ⟨0,0,none⟩=some (.iface 231 (.agg #[.pointer (some ⟨4,88,none⟩)])):=by rw [← hW4];simp [go_sem,g2,hz30]
 have zA4:∀ o,W4.frozen? ⟨A,o,none⟩=false:=by intro o;rw [← hW4];simp [go_sem,zA3,hz3A]
 have zR4:∀ o,W4.frozen? ⟨R,o,none⟩=false:=by intro o;rw [← hW4];simp [go_sem,zR3,hz3R]
 have zD:∀ o,W4.frozen? ⟨w3.heap.size,o,none⟩=false:=by intro o;rw [← hW4];simp [go_sem]
 have HB4:Hid (Below w.heap.size w W4):=by rw [← hW4];exact (HB3.out.setCell (by simp only;omega) _).alloc (by simpa using HB3.out.size) _
 have hz4:w3.heap.size<W4.heap.size:=by rw [← hW4];simp
 clear hW4 zA0 zA3 zR3 a0 a1 a2 r0 r1 r2 g2 q0 q1
 generalize w3.heap.size=D at *
 have hRD:R≠D:=by omega
 have hAD:A≠D:=by omega
 have hR4:R<W4.heap.size:=by omega
 have hA4:A<W4.heap.size:=by omega
 rcases p with _ | ⟨a,b⟩
 ·have hpv:placeV none = .nilIface:=rfl
  rw [hpv]
  clear hpv
  go_upto_region 9 with (go_at_call 42;refine (asB_none (.int .i64 c) (.int .i64 0) D W4 g4 d0).mono ?_;rintro e w5 ⟨rfl,hb5⟩)
  replace b0:=cell_later hb5 b0
  replace b1:=cell_later hb5 b1
  replace b2:=cell_later hb5 b2
  replace s0:=cell_later hb5 s0
  replace s1:=cell_later hb5 s1
  replace s2:=cell_later hb5 s2
  have zR0:=(hb5.frozen (p:=⟨R,0,none⟩) hR4).trans (zR4 0)
  have zR1:=(hb5.frozen (p:=⟨R,1,none⟩) hR4).trans (zR4 1)
  have zR2:=(hb5.frozen (p:=⟨R,2,none⟩) hR4).trans (zR4 2)
  have hbx:=HB4.out.trans (hb5.mono HB4.out.size)
  clear hb5 zA4 zR4 zD
  go_wp2_with fail
  exact bodyPost_ret (v:=.agg #[.int .i64 c,.int .i64 0,.int .i64 0]) (by simp [results,Tryz.results15,go_sem,s0,s1,s2]) rfl ⟨rfl,blo⟩
 ·have hpv:placeV (some (a,b)) = .iface 95 (.agg #[.int .i64 a,.int .i64 b]):=rfl
  rw [hpv]
  clear hpv
  go_upto_region 8 with (go_at_call 42;refine (asB_hit (.int .i64 c) (.int .i64 a) (.int .i64 b) (.int .i64 0) (.int .i64 0) D W4 rfl rfl g4 d0 d1 (zD 0) (zD 1)).mono ?_;rintro e w5 ⟨rfl,q0,q1,hO5⟩)
  replace b0:=hO5.cell b0 hAD
  replace b1:=hO5.cell b1 hAD
  replace b2:=hO5.cell b2 hAD
  replace s0:=hO5.cell s0 hRD
  replace s1:=hO5.cell s1 hRD
  replace s2:=hO5.cell s2 hRD
  have zA1:=(hO5.frozen (p:=⟨A,1,none⟩) hA4 hAD).trans (zA4 1)
  have zA2:=(hO5.frozen (p:=⟨A,2,none⟩) hA4 hAD).trans (zA4 2)
  have zR0:=(hO5.frozen (p:=⟨R,0,none⟩) hR4 hRD).trans (zR4 0)
  have zR1:=(hO5.frozen (p:=⟨R,1,none⟩) hR4 hRD).trans (zR4 1)
  have zR2:=(hO5.frozen (p:=⟨R,2,none⟩) hR4 hRD).trans (zR4 2)
  have hbx:Below w.heap.size w w5:=HB4.out.trans (hO5.below HB4.out.size (fun k hk e=>by omega))
  have hwA:w.heap.size≤A:=by omega
  have h5R:R<w5.heap.size:=Nat.lt_of_lt_of_le hR4 hO5.size
  have h5A:A<w5.heap.size:=Nat.lt_of_lt_of_le hA4 hO5.size
  clear hO5 zA4 zR4 zD d0 d1 g4
  go_region
  all_goals
   go_wp2_with fail
   exact bodyPost_ret (v:=.agg #[.int .i64 c,.int .i64 a,.int .i64 b]) (by simp [results,Tryz.results15,go_sem,s0,s1,s2]) rfl ⟨rfl,blo⟩
end Go.Proofs.YtmkdgnmmebldgabGreatDoor
