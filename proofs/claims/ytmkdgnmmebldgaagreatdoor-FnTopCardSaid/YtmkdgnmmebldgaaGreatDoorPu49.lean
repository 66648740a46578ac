import Derived.Test.YtmkdgnmmebldgaaGreatDoorPu44
import Derived.Test.YtmkdgnmmebldgaaGreatDoorPu45
import Derived.Test.YtmkdgnmmebldgaaGreatDoorPu48
import Derived.Test.YtmkdgnmmebldgaaGreatDoorPu47
import Derived.Test.YtmkdgnmmebldgaaGreatDoorPt36
import Derived.Test.YtmkdgnmmebldgaaGreatDoorPt34
import Derived.Test.YtmkdgnmmebldgaaGreatDoorPt35
import Derived.Test.YtmkdgnmmebldgaaGreatDoorPt43
set_option maxRecDepth 100000
set_option maxHeartbeats 8000000
namespace Go.Proofs.YtmkdgnmmebldgaaGreatDoor
open Go.RowKit Go.Deep
theorem tab_of_owns {w:World}{B B':Nat}{x:Option Addr}{y:Nat}{cells:List Value}{tt:List (List Int)}(ho:w.ownsRow B 40 1 (.slice x tt.length y) tt.length cells)(hr:RowsOwn w B' cells tt)(hm:tt.length≤maxLen)(hm2:∀ i (h:i<tt.length),tt[i].length≤maxLen):TabAt w x tt:=by
 refine ⟨hm,?_⟩
 rcases ho.2 with ⟨_,h0⟩ | ⟨g,cap,cur,h1,_,h3,_⟩
 ·exact Or.inl (List.eq_nil_of_length_eq_zero h0)
 ·cases h1
  refine Or.inr ⟨g,0,rfl,fun i hi=>?_⟩
  obtain ⟨v,h4,h5⟩:=hr.2 i hi
  obtain ⟨ra,rc,rfl,h6,_⟩:=ownN h5 (hm2 i hi)
  have:=ho.cells rfl i _ h4
  rw [addr_at] at this
  exact ⟨ra,rc,by simpa using this,h6⟩
theorem tableF_len (rs:List MRoute):(tableF rs).length≤300∧∀ i (h:i<(tableF rs).length),(tableF rs)[i].length≤300:=by
 by_cases h:300<rs.length
 ·have e:tableF rs=[]:=by unfold tableF;rw [if_pos h]
  rw [e]
  exact ⟨by simp,fun i h=>absurd h (by simp)⟩
 ·have e:tableF rs=rs.map fun a=>rs.map (exclF a):=by unfold tableF;rw [if_neg h]
  rw [e]
  exact ⟨by rw [List.length_map];omega,fun i hi=>by rw [List.getElem_map,List.length_map];omega⟩
theorem checkAll_any (pa ja sa ra ta:Option Addr)(pc jc sc rc tc:Nat)(ps:List MPiece)(js:List MJoint)(ss:List MPiece)(over:Int)(rs:List MRoute)(tt:List (List Int))(w:World)(hp:Hid (PiecesAt w pa ps))(hj:Hid (JointsAt w ja js))(hs:Hid (PiecesAt w sa ss))(hr:Hid (RoutesAt w ra rs))(ht:Hid (TabAt w ta tt)):
  Calls Tryz.prog 41 #[.agg #[.slice pa ps.length pc,.slice ja js.length jc],.slice sa ss.length sc,.int .i64 over,.slice ra rs.length rc,.slice ta tt.length tc] w fun e w'=>e = .returned (errsV (allF ps js ss over rs tt))∧Below w.heap.size w w':=by
 obtain ⟨O,hO⟩:∃ O,allF ps js ss over rs tt=O:=⟨_,rfl⟩
 rw [hO]
 have HO:=hidP hO
 clear hO
 go_enter Tryz.func41,Tryz.ntmps41
 go_upto_region 1 with fail
 generalize hW:World.alloc w _=W
 have e0:W.cell? ⟨w.heap.size,0,none⟩=some (.slice pa ps.length pc):=by rw [← hW];simp [go_sem]
 have e1:W.cell? ⟨w.heap.size,1,none⟩=some (.slice ja js.length jc):=by rw [← hW];simp [go_sem]
 have HBW:Hid (Below w.heap.size w W):=by rw [← hW];exact blo
 have HP:=hidQ (hp.out.below HBW.out)
 have HJ:=hidQ (hj.out.below HBW.out)
 have HS:=hidQ (hs.out.below HBW.out)
 have HR:=hidQ (hr.out.below HBW.out)
 have HT:=hidQ (ht.out.below HBW.out)
 clear hW hp hj hs hr ht
 have HGO:=hidP (givenOk_any pa ja sa pc jc sc ps js ss over W HP HJ HS)
 by_cases hg:sigF ps js ss=(0,0)∧0≤over∧over≤100000
 rotate_left
 ·rw [decide_eq_false hg] at HGO
  have HE:Hid (O=some (1,none)):=by unfold Hid;rw [← HO.out];exact allF_no hg
  clear hg
  go_wp2_with (go_at_call 37;refine HGO.out.mono ?_;rintro e w1 ⟨rfl,hb1⟩)
  go_ret
  exact ⟨by rw [HE.out];rfl,HBW.out.trans (hb1.mono HBW.out.size)⟩
 have HG:=hidP hg
 rw [decide_eq_true hg] at HGO
 clear hg
 go_upto_region 3 with (go_at_call 37;refine HGO.out.mono ?_;rintro e w1 ⟨rfl,hb1⟩)
 have HB1:=hidP hb1
 replace e0:=cell_later hb1 e0
 replace e1:=cell_later hb1 e1
 clear hb1 HGO
 have HIR:=hidP (implRoutes_any pa ja sa pc jc sc ps js ss over w1 (HP.out.below HB1.out) (HJ.out.below HB1.out) (HS.out.below HB1.out))
 have HRF:=hidP (routesF_ok ps js ss over)
 obtain ⟨want,hwant⟩:∃ q,routesF ps js ss over=q:=⟨_,rfl⟩
 rw [hwant] at HRF
 have HWT:=hidP hwant
 clear hwant
 go_wp2_with fail
 refine HIR.out.mono ?_
 rintro e w2 ⟨x,y,qs,rfl,hqs,htab,hb2⟩
 rw [HWT.out] at hqs
 have HQL:Hid (qs.length=want.length):=by unfold Hid;rw [← hqs];simp
 have HQR:Hid (RoutesAt w2 x want):=by have h:=htab.routes (by rw [HQL.out];exact HRF.out.1);rw [hqs] at h;exact h
 rw [HQL.out]
 have HB2:Hid (Below W.heap.size W w2):=HB1.out.trans (hb2.mono HB1.out.size)
 have HR2:=hidP (HR.out.below HB2.out)
 clear hqs htab hb2 HIR HQL e0 e1
 go_wp2_with fail
 refine (checkRoutes_any ra x rc y rs want w2 HR2 HQR).mono ?_
 rintro e w3 ⟨rfl,hb3⟩
 have HB3:Hid (Below W.heap.size W w3):=HB2.out.trans (hb3.mono HB2.out.size)
 clear hb3 HR2 HQR
 cases hck:chkR rs want 0 with
 | some ci =>
  obtain ⟨c,i⟩:=ci
  have HE:Hid (O=some (c,some ((i:Int),0))):=by unfold Hid;rw [← HO.out];exact allF_r HG.out (by rw [HWT.out];exact hck)
  clear hck
  unfold chkV errV
  go_wp2_with fail
  go_ret
  exact ⟨by rw [HE.out];rfl,HBW.out.trans (HB3.out.mono HBW.out.size)⟩
 | none =>
  have HEQ:=hidP (chkR_none rs want 0 hck)
  have HCK:Hid (chkR rs (routesF ps js ss over) 0=none):=by unfold Hid;rw [HWT.out];exact hck
  clear hck
  unfold chkV
  have HSH:Hid (ShortRs rs):=fun r hr=>(HRF.out.2 r (by rw [← HEQ.out];exact hr)).short
  have HWF:Hid (WfRs rs):=fun i hi=>(HRF.out.2 _ (by rw [← HEQ.out];exact List.getElem_mem hi)).wf
  have HR3:=hidP (HR.out.below HB3.out)
  have HIT:=hidP (implTable_any ra rc rs w3 HR3 HSH HWF)
  have HTL:=hidP (tableF_len rs)
  obtain ⟨uu,huu⟩:∃ uu,tableF rs=uu:=⟨_,rfl⟩
  rw [huu] at HIT HTL
  have HUU:=hidP huu
  clear huu
  go_wp2_with fail
  refine HIT.out.mono ?_
  rintro e w4 ⟨x4,y4,cells,rfl,ho,hRo,_,hb4⟩
  have HTA:Hid (TabAt w4 x4 uu):=tab_of_owns ho hRo (by have:=HTL.out.1;unfold maxLen;omega) (fun i h=>by have:=HTL.out.2 i h;unfold maxLen;omega)
  have HB4:Hid (Below W.heap.size W w4):=HB3.out.trans (hb4.mono HB3.out.size)
  have HT4:=hidP (HT.out.below HB4.out)
  clear ho hRo hb4 HIT
  go_wp2_with fail
  refine (checkTable_any ta x4 tc y4 tt uu w4 HT4 HTA).mono ?_
  rintro e w5 ⟨rfl,hb5⟩
  have HB5:Hid (Below W.heap.size W w5):=HB4.out.trans (hb5.mono HB4.out.size)
  have HE:Hid (errsV O=tabV (chkT tt uu)):=by
   unfold Hid
   rw [← HO.out]
   cases hct:chkT tt uu with
   | none=>rw [allF_ok HG.out HCK.out (by rw [HUU.out];exact hct)];rfl
   | some ik=>obtain ⟨i,k⟩:=ik;rw [allF_t HG.out HCK.out (by rw [HUU.out];exact hct)];rfl
  clear hb5
  go_wp2_with fail
  go_ret
  exact ⟨by rw [HE.out];rfl,HBW.out.trans (HB5.out.mono HBW.out.size)⟩
end Go.Proofs.YtmkdgnmmebldgaaGreatDoor
