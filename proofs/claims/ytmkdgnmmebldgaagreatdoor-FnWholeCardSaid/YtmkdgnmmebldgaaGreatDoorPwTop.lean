import Derived.Test.YtmkdgnmmebldgaaGreatDoorPw44
import Derived.Test.YtmkdgnmmebldgaaGreatDoorPw53
import Derived.Test.YtmkdgnmmebldgaaGreatDoorPw52
import Derived.Test.YtmkdgnmmebldgaaGreatDoorPw50
import Derived.Test.YtmkdgnmmebldgaaGreatDoorPt43
import Derived.Test.YtmkdgnmmebldgaaGreatDoorTie
import Derived.Test.YtmkdgnmmebldgaaGreatDoorCards
import Derived.Test.YtmkdgnmmebldgaaGreatDoorPw41
import Derived.Stop.LaidErr
import Derived.ChangeSame
import Derived.ChangeVars
import Derived.JoinedOf
import Derived.RowKitTokens
import Derived.LaidLaws
import Derived.LaidHandle
import Derived.Stop.Joined
set_option maxRecDepth 100000
set_option maxHeartbeats 60000000
namespace Go.Proofs.YtmkdgnmmebldgaaGreatDoor
open Go.RowKit Go.Deep
theorem wByteV_any (a:Option Addr)(c:Nat)(bs:List Int)(k:Nat)(w:World)(h:Hid (BytesAt w a bs))(hk:k<=1000):
  Calls Tryz.prog 16 #[.slice a bs.length c,.int .i64 k] w fun e w' => ∃ x:Nat,x<256/\e = .returned (.int .i64 x)/\Below w.heap.size w w':=by
 have hl:=h.out.len;unfold maxLen at hl
 go_enter Tryz.func16,Tryz.ntmps16
 by_cases h0:bs.length=0
 ·have h1:((bs.length:Int)==0)=true:=by simp [h0]
  go_wp2_with fail
  go_ret
  exact ⟨0,by omega,rfl,Below.refl _ _⟩
 ·have h1:((bs.length:Int)==0)=false:=by rw [beq_eq_false_iff_ne];omega
  obtain ⟨b,off,hca,hcl⟩:=h.out.lie.resolve_left (fun h=>by rw [h] at h0;exact h0 rfl)
  subst hca;obtain ⟨r,hr,hrl⟩:=rem_nat k (show (0:Int)<bs.length by omega)
  have hrl':r<bs.length:=by omega
  have d0:=hcl r hrl';have hsm:=h.out.small _ (List.getElem_mem hrl');generalize bs[r]=bv at d0 hsm;obtain ⟨bn,hbn⟩:∃ bn:Nat,bv=bn:=⟨bv.toNat,by omega⟩
  subst hbn;have hz:=cellLt d0;dsimp only at hz;have hr2:Int.tmod (k:Int) (bs.length:Int)=(r:Int):=by rw [Int.tmod_eq_emod_of_nonneg (by omega)];exact hr
  clear hcl
  go_wp2_with fail
  refine bodyPost_ret (v:=.int .i64 (bn:Int)) (by simp [results,Tryz.results16,go_sem]) rfl ⟨bn,by omega,rfl,?_⟩
  exact blo
theorem setL_of {js:List MJoint}{ls:List Int}(h:SetOk js ls)(hl:ls.length=js.length):SetL js ls:=fun j hj h3=>by
 rw [List.getElem?_eq_getElem (by rw [hl];exact hj)]
 exact (h.2 j (by rw [hl];exact hj) hj).1 h3
theorem bytes3 {w:World}{g:Nat}{b0 b1 b2:Int}(h0:w.cell? ⟨g,0,none⟩=some (.int .u8 b0))(h1:w.cell? ⟨g,1,none⟩=some (.int .u8 b1))(h2:w.cell? ⟨g,2,none⟩=some (.int .u8 b2)):ByteCells w g 0 [b0,b1,b2]:=by
 intro i hi
 match i,hi with
 | 0,_=>exact h0
 | 1,_=>exact h1
 | 2,_=>exact h2
theorem lawWhole_any (ca da:Option Addr)(cc dc:Nat)(bs ms:List Int)(w:World)(hb:Hid (BytesAt w ca bs))(hm:Hid (BytesAt w da ms))(ht:Hid (TabU w)):
  Calls Tryz.prog 4 #[.slice ca bs.length cc,.slice da ms.length dc] w fun e w'=>e = .returned (.bool true)/\Below w.heap.size w w':=by
 have hl1:=hb.out.len;have hl2:=hm.out.len;unfold maxLen at hl1 hl2
 go_enter Tryz.func4,Tryz.ntmps4
 by_cases h1:(1048576:Int)<bs.length
 ·go_wp2_with fail
  go_ret
  exact ⟨rfl,Below.refl _ _⟩
 by_cases h2:(1048576:Int)<ms.length
 ·go_wp2_with fail
  go_ret
  exact ⟨rfl,Below.refl _ _⟩
 go_wp2_with fail
 refine (DrawnV_any ca cc bs w hb.out.lie hb.out.small (by omega)).mono ?_
 rintro e w1 ⟨pa,pc,ja,jc,sa,sc,ps,js,ss,over,rfl,hP,hJ,hS,ho0,ho1,hsf,hfew,hbd⟩;have HP:=hidP hP;have HJ:=hidP hJ;have HS:=hidP hS;have HB1:=hidP hbd;have HGV:Hid (sigF ps js ss=(0,0)/\ps.length<=10/\ss.length<=8/\0<=over/\over<=100000):=⟨hsf,hfew.1,hfew.2,ho0,by omega⟩
 clear hP hJ hS hbd hb hsf hfew
 go_upto_region 4 with fail
 generalize hW:World.alloc w1 _=W;have e0:W.cell? ⟨w1.heap.size,0,none⟩=some (.slice pa ps.length pc):=by rw [<-hW];simp [go_sem]
 have e1:W.cell? ⟨w1.heap.size,1,none⟩=some (.slice ja js.length jc):=by rw [<-hW];simp [go_sem]
 have hbW:Below w1.heap.size w1 W:=by rw [<-hW];exact blo
 have HPW:=hidP (HP.out.below hbW);have HJW:=hidP (HJ.out.below hbW);have HSW:=hidP (HS.out.below hbW);have HBW:Hid (Below w.heap.size w W):=HB1.out.trans (hbW.mono HB1.out.size);generalize w1.heap.size=X at e0 e1 ⊢;clear hW hbW HP HJ HS HB1 ho0 ho1;have HSR:Hid (∀ u:World,Below W.heap.size W u->Calls Tryz.prog 9 #[.agg #[.slice pa ps.length pc,.slice ja js.length jc],.slice sa ss.length sc,.int .i64 over] u fun e w' => ∃ a c,e = .returned (.slice a (routesF ps js ss over).length c)/\RoutesAt w' a (routesF ps js ss over)/\Below u.heap.size u w'):=fun u hu=>(specRoutes_any pa ja sa pc jc sc ps js ss over u (HPW.out.below hu) (HJW.out.below hu) (HSW.out.below hu)).mono (by rintro e w' ⟨a,c,h1,h2,_,h3⟩;exact ⟨a,c,h1,h2,h3⟩)
 have HIR:=hidP (implRoutes_any pa ja sa pc jc sc ps js ss over W HPW HJW HSW);unfold RoutesPost at HIR;have HLI:Hid (∀ (u:World) (g:Nat) (b0 b1 b2:Int),Below W.heap.size W u->ByteCells u g 0 [b0,b1,b2]->(0<=b0/\b0<256)->(0<=b1/\b1<256)->(0<=b2/\b2<256)->Calls Tryz.prog 15 #[.agg #[.slice pa ps.length pc,.slice ja js.length jc],.slice (some ⟨g,0,none⟩) 3 3] u fun e w' => ∃ x y ls,e = .returned (.slice x js.length y)/\ls.length=js.length/\NumsAt w' x ls/\SetOk js ls/\Below u.heap.size u w'):=fun u g b0 b1 b2 hu hc h0 h1 h2 =>
  Lies_any pa ps.length pc ja jc js (some ⟨g,0,none⟩) 3 [b0,b1,b2] u (HJW.out.below hu) (Nat.le_trans (right_of HGV.out.1).nj (by omega)) (Or.inr ⟨g,0,rfl,hc⟩) (fun x hx=>by
   simp only [List.mem_cons,List.not_mem_nil,or_false] at hx;rcases hx with rfl | rfl | rfl
   ·exact h0
   ·exact h1
   ·exact h2) (by simp)
 have HFO:Hid (∀ (u:World) (la:Option Addr) (lc:Nat) (ls:List Int) (i:Nat),Below W.heap.size W u->ls.length=js.length->NumsAt u la ls->SetOk js ls->i<ss.length->Calls Tryz.prog 17 #[.agg #[.slice pa ps.length pc,.slice ja js.length jc],.slice sa ss.length sc,.int .i64 i,.slice la js.length lc] u (FolOut (followF ps js ss i ls) u)):=fun u la lc ls i hu hll hn hso hi=>by
  have h:=Followed_any pa ja sa la pc jc sc lc ps js ss i ls u (right_of HGV.out.1) (HPW.out.below hu) (HJW.out.below hu) (HSW.out.below hu) hn hll (setL_of hso hll) hi;rw [hll] at h;exact h
 have HRA:Hid (∀ (u:World) (ra la:Option Addr) (rc lc:Nat) (ls:List Int) (nm:ByteArray),Below W.heap.size W u->ls.length=js.length->NumsAt u la ls->RoutesAt u ra (routesF ps js ss over)->Calls Tryz.prog 19 #[.agg #[.slice pa ps.length pc,.slice ja js.length jc],.slice sa ss.length sc,.slice ra (routesF ps js ss over).length rc,.string nm,.slice la js.length lc] u fun e w'=>e = .returned (.int .i64 (routeAtF ps js ss (routesF ps js ss over) nm ls))/\Below u.heap.size u w'):=fun u ra la rc lc ls nm hu hll hn hr=>by
  have h:=implRouteAt_any pa ja sa ra la pc jc sc rc lc ps js ss (routesF ps js ss over) nm ls u (HPW.out.below hu) (HJW.out.below hu) (HSW.out.below hu) hr hn ((ht.out.below HBW.out).below hu);rw [hll] at h;exact h
 have HON:Hid (∀ (ls:List Int) (i met:Nat) (which:Int) (hi:i<ss.length),ls.length=js.length->SetOk js ls->WhichOk (pickR i ls) (routesF ps js ss over) (routesF ps js ss over).length met which ->
   ((followF ps js ss i ls).2.2=true->met=1/\∃ y,∃ hy:y<(routesF ps js ss over).length,which=y/\(routesF ps js ss over)[y].steps=(followF ps js ss i ls).1/\(routesF ps js ss over)[y].stop=(followF ps js ss i ls).2.1)/\((followF ps js ss i ls).2.2=false->met=0)/\routeAtF ps js ss (routesF ps js ss over) ss[i].name ls=which):=fun ls i met which hi hll hso hw =>
  whole_one HGV.out.1 HGV.out.2.1 HGV.out.2.2.1 HGV.out.2.2.2.1 HGV.out.2.2.2.2 (setL_of hso hll) hll hi hw
 have HRF:=hidP (routesF_ok ps js ss over).1;have HLN:Hid (∀ r ∈ routesF ps js ss over,LnOk ps js ss r):=routes_line ps js ss over;have HNJ:Hid (js.length<=120/\ss.length<=8):=⟨(right_of HGV.out.1).nj,HGV.out.2.2.1⟩;obtain ⟨RS,hRS⟩:∃ RS,routesF ps js ss over=RS:=⟨_,rfl⟩;rw [hRS] at HSR HIR HRA HON HRF HLN;obtain ⟨m,hm'⟩:∃ m,RS.length=m:=⟨_,rfl⟩;rw [hm'] at HSR HRA HRF;have HM:Hid (RS.length=m):=hm';have hm300:m<=300:=HRF.out;obtain ⟨nj,hnj⟩:∃ nj,js.length=nj:=⟨_,rfl⟩;have HJL:Hid (js.length=nj):=hnj;rw [hnj] at e1 HSR HIR HLI HFO HRA HON HNJ;obtain ⟨ns,hns⟩:∃ ns,ss.length=ns:=⟨_,rfl⟩;have HSL:Hid (ss.length=ns):=hns;rw [hns] at HSR HIR HFO HRA HNJ ⊢;obtain ⟨hnj1,hns1⟩:=HNJ.out;generalize ps.length=np at e0 HSR HIR HLI HFO HRA;have HMB:Hid (BytesAt W da ms):=hm.out.below HBW.out;have HTW:Hid (∀ u,Below W.heap.size W u->PiecesAt u sa ss):=fun u hu=>HSW.out.below hu
 clear hRS hm' hnj hns HPW HJW HSW HGV HRF hm ht HNJ
 go_upto_region 5 with (go_at_call 10;refine HIR.out.mono ?_;rintro e w2 ⟨x,y,qs,rfl,hqs,htab,hb2⟩)
 have HQL:Hid (qs.length=m):=by unfold Hid;rw [<-HM.out,<-hqs];simp
 have HQR:Hid (RoutesAt w2 x RS):=by have h:=htab.routes (by rw [HQL.out];exact hm300);rw [hqs] at h;exact h
 have HB2:=hidP hb2;have x0:=cell_later hb2 e0;have x1:=cell_later hb2 e1;rw [HQL.out];clear hqs htab hb2 HIR e0 e1
 go_wp2_with fail
 refine (HSR.out w2 HB2.out).mono ?_;rintro e w3 ⟨a3,c3,rfl,hR3,hb3⟩;have HWR:=hidP (wRoutes_any x a3 y c3 RS w3 (hidQ (HQR.out.below hb3)) (hidQ hR3));rw [HM.out] at HWR;have HB3:=hidP hb3;clear hR3 hb3 HSR
 go_wp2_with fail
 refine HWR.out.mono ?_;rintro e V ⟨rfl,hb4⟩;have HBV:Hid (Below W.heap.size W V):=HB2.out.trans ((HB3.out.trans (hb4.mono HB3.out.size)).mono HB2.out.size);have hb2V:Below w2.heap.size w2 V:=HB3.out.trans (hb4.mono HB3.out.size);have HRV:=hidP (HQR.out.below hb2V);replace x0:=cell_later hb2V x0;replace x1:=cell_later hb2V x1;have HMV:=hidP (HMB.out.below HBV.out);have HU:Hid (∀ u,Below V.heap.size V u->Below W.heap.size W u):=fun u hu=>HBV.out.trans (hu.mono HBV.out.size)
 clear hb2V hb4 HWR HB3 HQR HMB HB2 HQL;have hXz:=cellLt x0;dsimp only at hXz
 go_wp2_with fail
 go_loopw [9] (fun kk wr => ∃ k:Nat,kk = .int .i64 k/\k<=3/\Hid (Below V.heap.size V wr)) (fun kk _=>3-(intOf kk).toNat)
 case atStart=>exact ⟨0,rfl,by omega,Below.refl _ _⟩
 case round =>
  obtain ⟨k,rfl,hk,HBk⟩:=hrel
  by_cases hk':k<3
  ·have hki:(k:Int)<3:=by omega
   have HW1:Hid (∀ u,Below V.heap.size V u->Calls Tryz.prog 16 #[.slice da ms.length dc,.int .i64 (k:Int)] u fun e w' => ∃ x:Nat,x<256/\e = .returned (.int .i64 x)/\Below u.heap.size u w'):=fun u hu=>wByteV_any da dc ms k u (HMV.out.below hu) (by omega)
   have HW2:Hid (∀ u,Below V.heap.size V u->Calls Tryz.prog 16 #[.slice da ms.length dc,.int .i64 ((k:Int)+3)] u fun e w' => ∃ x:Nat,x<256/\e = .returned (.int .i64 x)/\Below u.heap.size u w'):=fun u hu=>by have h:=wByteV_any da dc ms (k+3) u (HMV.out.below hu) (by omega);simpa using h
   have k0:=cell_later HBk.out x0;have k1:=cell_later HBk.out x1
   go_upto_region 10 with fail
   obtain ⟨S,hS⟩:∃ S:World->Prop,∀ u,S u↔Below wr.heap.size wr u:=⟨_,fun _=>Iff.rfl⟩
   have HS0:=hidP hS;have r0:∀ u:Held S,World.cell? u.val ⟨X,0,none⟩=some (.slice pa np pc):=fun u=>cell_later ((hS u.val).1 u.2) k0
   have r1:∀ u:Held S,World.cell? u.val ⟨X,1,none⟩=some (.slice ja nj jc):=fun u=>cell_later ((hS u.val).1 u.2) k1
   have hS1:S wr.drew:=(hS _).2 ((Below.refl _ _).drew);have hne:=held_ne hS1;clear hS;refine wp_region_tree (fun w' => ∃ u:Held S,w'=u.val) 14 (by kernel_rfl) (by kernel_rfl) (held_some hS1) ?_
   (refine wpT_sea 0 ?_;intro K hK;go_big_quiet_op;go_big_quiet_on);(refine wpT_sea 1 ?_;intro K hK;go_big_quiet_op;go_big_quiet_on);(refine wpT_sea 2 ?_;intro K hK;go_big_quiet_op;go_big_quiet_on)
   (refine wpT_sea 5 ?_;intro K hK;go_big_quiet_op;go_big_quiet_on);(refine wpT_sea 6 ?_;intro K hK;go_big_quiet_op;go_big_quiet_on);(refine wpT_sea 7 ?_;intro K hK;go_big_quiet_op;go_big_quiet_on)
   (refine wpT_sea 10 ?_;intro K hK;go_big_quiet_op;go_big_quiet_on);(refine wpT_sea 11 ?_;intro K hK;go_big_quiet_op;go_big_quiet_on)
   refine wpT_loud 3 (by rfl) (by kernel_rfl) (by kernel_rfl) ?_
   intro K hK
   go_wp2_with (go_at_call 16;refine (HW1.out _ (HBk.out.trans (((Below.refl _ _).drew).mono HBk.out.size))).mono ?_;rintro e w4 ⟨z1,hz1,rfl,hb4'⟩)
   have hb4:Below wr.heap.size wr w4:=((Below.refl _ _).drew).trans hb4';refine hK _ _ (held_some ((HS0.out _).2 hb4)) ?_;clear hK K hb4'
   (refine wpT_sea 4 ?_;intro K hK;go_big_quiet_op;go_big_quiet_on)
   refine wpT_loud 8 (by rfl) (by kernel_rfl) (by kernel_rfl) ?_
   intro K hK
   go_wp2_with (go_at_call 16;refine (HW2.out _ (HBk.out.trans (hb4.mono HBk.out.size))).mono ?_;rintro e w5 ⟨z2,hz2,rfl,hb5'⟩)
   have hb5:Below wr.heap.size wr w5:=hb4.trans (hb5'.mono hb4.size);refine hK _ _ (held_some ((HS0.out _).2 hb5)) ?_;clear hK K hb5'
   (refine wpT_sea 9 ?_;intro K hK;go_big_quiet_op;go_big_quiet_on)
   refine wpT_loud 12 (by rfl) (by kernel_rfl) (by kernel_rfl) ?_
   intro K hK
   go_wp2_with fail
   generalize hA6:World.alloc w5 _=w6;have hb6':Below w5.heap.size w5 w6:=by rw [<-hA6];exact blo
   have g0:w6.cell? ⟨w5.heap.size,0,none⟩=some (.int .u8 (z1:Int)):=by rw [<-hA6];simp [go_sem]
   have g1:w6.cell? ⟨w5.heap.size,1,none⟩=some (.int .u8 (z2:Int)):=by rw [<-hA6];simp [go_sem]
   have g2:w6.cell? ⟨w5.heap.size,2,none⟩=some (.int .u8 (k:Int)):=by rw [<-hA6];simp [go_sem]
   have hb6:Below wr.heap.size wr w6:=hb5.trans (hb6'.mono hb5.size);refine hK _ _ (held_some ((HS0.out _).2 hb6)) ?_;clear hK K hA6 hb6';have HCL:=hidP (HLI.out w6 w5.heap.size z1 z2 k (HU.out _ (HBk.out.trans (hb6.mono HBk.out.size))) (bytes3 g0 g1 g2) ⟨by omega,by omega⟩ ⟨by omega,by omega⟩ ⟨by omega,by omega⟩)
   refine wpT_loud 13 (by rfl) (by kernel_rfl) (by kernel_rfl) ?_
   intro K hK
   go_wp2_with (go_at_call 15;refine HCL.out.mono ?_;rintro e w7 ⟨la,lc,ls,rfl,hll,hnl,hso,hb7'⟩)
   have hb7:Below wr.heap.size wr w7:=hb6.trans (hb7'.mono hb6.size);refine hK _ _ (held_some ((HS0.out _).2 hb7)) ?_;have HLL:Hid (ls.length=nj):=hll;have HNL:=hidP hnl;have HSO:=hidP hso;have HB7:Hid (Below V.heap.size V w7):=HBk.out.trans (hb7.mono HBk.out.size);clear hK K hb7' hb7 hb6 hb5 hb4 HCL g0 g1 g2 hll hnl hso HW1 HW2 hz1 hz2;refine wpT_done (by kernel_rfl) ?_
   simp only [List.drop_succ_cons,List.drop_zero];clear r0 r1 hne hS1 HS0 S k0 k1
   go_wp2_with fail
   go_loopw [67] (fun ii wr => ∃ i:Nat,ii = .int .i64 i/\i<=ns/\Hid (Below w7.heap.size w7 wr)) (fun ii _=>ns-(intOf ii).toNat)
   case atStart=>exact ⟨0,rfl,Nat.zero_le _,Below.refl _ _⟩
   case round =>
    obtain ⟨i,rfl,hin,HBi⟩:=hrel
    by_cases hi:i<ns
    ·have hii:(i:Int)<ns:=by omega
     have HIS:Hid (i<ss.length):=by unfold Hid;rw [HSL.out];exact hi
     have HVi:Hid (Below V.heap.size V wr):=HB7.out.trans (HBi.out.mono HB7.out.size);have k0:=cell_later HVi.out x0;have k1:=cell_later HVi.out x1;have HFi:=hidP (HFO.out wr la lc ls i (HU.out _ HVi.out) HLL.out (HNL.out.below HBi.out) HSO.out hi);have HOi:=hidP (fun met which=>HON.out ls i met which HIS.out HLL.out HSO.out)
     obtain ⟨ST,tt,ok,hA⟩:∃ ST tt ok,followF ps js ss i ls=(ST,tt,ok):=⟨_,_,_,rfl⟩;rw [hA] at HFi HOi;unfold FolOut at HFi;dsimp only at HFi HOi;clear hA
     go_wp2_with fail
     refine HFi.out.mono ?_;rintro e w8 ⟨sx,sy,rfl,hE8,hb8⟩;have HE8:=hidP hE8;have HV8:Hid (Below V.heap.size V w8):=HVi.out.trans (hb8.mono HVi.out.size);have HL8:Hid (NumsAt w8 la ls):=(HNL.out.below HBi.out).below hb8;have HB8:Hid (Below w7.heap.size w7 w8):=HBi.out.trans (hb8.mono HBi.out.size);clear hE8 hb8 HFi k0 k1
     go_wp2_with fail
     go_loopw [15,16,81] (fun a b c wr => ∃ (q met:Nat) (which:Int),a = .int .i64 met/\b = .int .i64 which/\c = .int .i64 q/\q<=m/\met<=q /\ -1<=which/\which<=q/\Hid (WhichOk (pickR i ls) RS q met which)/\Hid (Below w8.heap.size w8 wr)) (fun _ _ c _=>m-(intOf c).toNat)
     case atStart=>exact ⟨0,0,-1,rfl,rfl,rfl,Nat.zero_le _,Nat.le_refl _,by omega,by omega,WhichOk.zero _ _,Below.refl _ _⟩
     case round =>
      obtain ⟨q,met,which,rfl,rfl,rfl,hqm,hmq,hw1,hw2,HWO,HBq⟩:=hrel;have HVq:Hid (Below V.heap.size V wr):=HV8.out.trans (HBq.out.mono HV8.out.size)
      by_cases hq:q<m
      ·have hqi:(q:Int)<m:=by omega
       have hql:q<RS.length:=by rw [HM.out];exact hq
       obtain ⟨b,o,hxa,hc⟩:=(HRV.out.below HVq.out).2.resolve_left (nz hql);obtain ⟨d,⟨c0,c1,c2,c3,c4,c5,c6,c7⟩,ql⟩:=hc q hql;obtain ⟨a0,g0,a1,g1,a2,g2,a3,g3,a4,g4,a5,g5⟩:=d;dsimp only at c2 c3 c4 c5 c6 c7;have HLr:=hidP (HLN.out _ (List.getElem_mem hql));have HSK:=hidP (HWO.out.skip hql);have HH0:=hidP (HWO.out.hit0 hql);have HH1:=hidP (HWO.out.hit1 hql);generalize RS[q]=r at c0 c1 c2 c3 c4 c5 c6 c7 ql HLr HSK HH0 HH1;have HLS:Hid (EndsAt wr a1 r.lies):=ql.lies;obtain ⟨n2,hn2⟩:∃ n2,r.lies.length=n2:=⟨_,rfl⟩;have hm2:n2<=120:=by rw [<-hn2];exact HLr.out.n2
       rw [hn2] at c3;have HN2:=hidP hn2;subst hxa;clear hc ql hql hn2 HWO
       go_wp2_with fail
       generalize hW9:World.alloc wr _=w9;have hb9:Below wr.heap.size wr w9:=by rw [<-hW9];exact blo
       have HLS9:=hidP (HLS.out.below hb9);have HL9:Hid (NumsAt w9 la ls):=HL8.out.below (HBq.out.trans (hb9.mono HBq.out.size));have HB9:Hid (Below w8.heap.size w8 w9):=HBq.out.trans (hb9.mono HBq.out.size);clear hW9 hb9 c0 c1 c2 c3 c4 c5 c6 c7 HLS HBq HVq
       go_loopw [19,93] (fun f c wr => ∃ l:Nat,f = .bool (fitT i ls r l)/\c = .int .i64 l/\l<=n2/\Hid (Below w9.heap.size w9 wr)) (fun _ c _=>n2-(intOf c).toNat)
       case atStart=>exact ⟨0,by rw [fitT_0],rfl,Nat.zero_le _,Below.refl _ _⟩
       case round =>
        obtain ⟨l,rfl,rfl,hl,HBl⟩:=hrel;obtain ⟨f,hf⟩:∃ f,fitT i ls r l=f:=⟨_,rfl⟩;rw [hf]
        by_cases hl':l<n2
        ·have hli:(l:Int)<n2:=by omega
         have hlr:l<r.lies.length:=by rw [HN2.out];exact hl'
         obtain ⟨b2,o2,ha2,hc2⟩:=(HLS9.out.below HBl.out).2.resolve_left (nz hlr);have cx:=hc2 l hlr;obtain ⟨jt,hjt,ejt,hsd⟩:=HLr.out.lies _ (List.getElem_mem hlr);rw [HJL.out] at hjt;have hjm:jt<ls.length:=by rw [HLL.out];exact hjt
         obtain ⟨lb,lo,hla,hlc⟩:=(HL9.out.below HBl.out).2.resolve_left (nz hjm);have cv:=hlc jt hjm;have hft:=fitT_on (i:=i) (ls:=ls) hlr;rw [hf,ejt,Int.toNat_natCast,List.getElem?_eq_getElem hjm,Option.getD_some] at hft;rw [ejt] at cx;subst ha2;subst hla;generalize ls[jt]=v at cv hft;generalize r.lies[l].side=sd at cx hft;have HFT:=hidP hft;obtain ⟨cx0,cx1⟩:=cx;have hjtI:(jt:Int)<nj:=by omega
         clear hc2 hlc hlr hjm ejt hsd hft hf
         go_upto_region 24 with fail
         generalize hW3:World.alloc wr _=W3;have hb3:Below wr.heap.size wr W3:=by rw [<-hW3];exact blo
         have z0:W3.cell? ⟨wr.heap.size,0,none⟩=some (.int .i64 jt):=by rw [<-hW3];simp [go_sem]
         have z1:W3.cell? ⟨wr.heap.size,1,none⟩=some (.int .i64 sd):=by rw [<-hW3];simp [go_sem]
         replace cv:=cell_later hb3 cv;have HB3:Hid (Below w9.heap.size w9 W3):=HBl.out.trans (hb3.mono HBl.out.size);generalize wr.heap.size=Z at z0 z1 ⊢;clear hW3 hb3 cx0 cx1;cases f
         ·rw [Bool.false_and] at HFT
          go_quiet (fail)
          go_wp2_with fail
          go_roundw
          case rel=>exact ⟨l+1,by rw [HFT.out],by go_num,by omega,bdrewN HB3.out _⟩
          case measure=>simp [intOf];omega
         ·rw [Bool.true_and] at HFT
          go_quiet (fail)
          go_wp2_with fail
          go_roundw
          case rel=>exact ⟨l+1,by rw [HFT.out],by go_num,by omega,bdrewN HB3.out _⟩
          case measure=>simp [intOf];omega
        ·have hli:¬ (l:Int)<n2:=by omega
         have hpk:pickR i ls r=f:=by rw [<-hf];exact (fitT_all (by rw [HN2.out];omega)).symm
         have HBN:Hid (Below w8.heap.size w8 wr):=HB9.out.trans (HBl.out.mono HB9.out.size);cases f
         ·have HNX:=hidP (HSK.out hpk);clear hpk hf HSK HH0 HH1
          go_wp2_with fail
          go_roundw
          case rel=>exact ⟨q+1,met,which,rfl,rfl,by go_num,by omega,by omega,hw1,by omega,HNX,HBN⟩
          case measure=>simp [intOf];omega
         ·by_cases hw0:which<0
          ·have HNX:=hidP (HH0.out hpk (by omega))
           clear hpk hf HSK HH0 HH1
           go_wp2_with fail
           go_roundw
           case rel=>exact ⟨q+1,met+1,q,by go_num,rfl,by go_num,by omega,by omega,by omega,by omega,HNX,HBN⟩
           case measure=>simp [intOf];omega
          ·have HNX:=hidP (HH1.out hpk (by omega))
           clear hpk hf HSK HH0 HH1
           go_wp2_with fail
           go_roundw
           case rel=>exact ⟨q+1,met+1,which,by go_num,rfl,by go_num,by omega,by omega,hw1,by omega,HNX,HBN⟩
           case measure=>simp [intOf];omega
      ·have hqi:¬ (q:Int)<m:=by omega
       have hqe:q=m:=by omega
       have HDN:=hidP (HOi.out met which (by have h:=HWO.out;rw [hqe,<-HM.out] at h;exact h))
       obtain ⟨sb,so,hsa,hsc⟩:=PieceCells.name (HTW.out wr (HU.out _ HVq.out)) HIS.out;have HRI:=hidP (fun u (hu:Below V.heap.size V u) (hl:NumsAt u la ls) nm=>HRA.out u x la y lc ls nm (HU.out _ hu) HLL.out hl (HRV.out.below hu))
       have k0:=cell_later HVq.out x0;have k1:=cell_later HVq.out x1;have HBQ:Hid (Below w7.heap.size w7 wr):=HB8.out.trans (HBq.out.mono HB8.out.size);have HLQ:Hid (NumsAt wr la ls):=HL8.out.below HBq.out;have HEQ:Hid (EndsAt wr sx ST):=HE8.out.below HBq.out;generalize ss[i].name=nm at hsc HDN;subst hsa;clear HWO hqe hqm hmq HOi;cases ok
       ·have hm0:=HDN.out.2.1 rfl;have hra:=HDN.out.2.2;have HRA2:=hidP (fun u (hu:Below wr.heap.size wr u)=>HRI.out u (HVq.out.trans (hu.mono HVq.out.size)) (HLQ.out.below hu) nm)
        rw [hra] at HRA2;subst hm0;clear HDN hra HRI
        go_upto_region 33 with fail
        have m0:=Later.cell (W:=wr) k0;have m1:=Later.cell (W:=wr) k1;have m2:=Later.cell (W:=wr) hsc;have hne:=later_some wr;have k2:(which != which)=false:=by simp
        refine wp_region_later (by kernel_rfl) (by kernel_rfl) ?_
        iterate 16 (go_big_quiet_step (fail))
        go_big_quiet_step ((rename_i u;exact Later.calls u (HRA2.out u.val u.2)))
        iterate 3 (go_big_quiet_step (fail))
        refine wpQuiet_nil ?_;intro _ hw';obtain ⟨u,hw''⟩:=hw';subst hw'';have hbu:=u.2;generalize u.val=w6 at hbu ⊢;have HB6:Hid (Below w7.heap.size w7 w6):=HBQ.out.trans (hbu.mono HBQ.out.size);clear m0 m1 m2 hne HRA2 hbu k2
        go_wp2_with fail
        go_roundw
        case rel=>exact ⟨i+1,by go_num,by omega,HB6⟩
        case measure=>simp [intOf];omega
       ·obtain ⟨hm1,yy,hyy,hwy,hst,hto⟩:=HDN.out.1 rfl;have hra:=HDN.out.2.2;obtain ⟨b,o,hxa,hc⟩:=(HRV.out.below HVq.out).2.resolve_left (nz hyy);obtain ⟨d,⟨c0,c1,c2,c3,c4,c5,c6,c7⟩,ql⟩:=hc yy hyy;have HWS:=hidP (wSteps_any d.a0 sx d.c0 sy ST wr (hidQ (by have h:=ql.steps;rw [hst] at h;exact h)) HEQ)
        rw [hto] at c1;rw [hst] at c2;have hyI:(yy:Int)<m:=by rw [<-HM.out];omega
        subst hxa;subst hwy;subst hm1;have k2:(tt != tt)=false:=by simp
        clear HDN hc ql c0 c3 c4 c5 c6 c7 hst hto hyy
        go_upto_region 33 with (go_at_call 18;refine HWS.out.mono ?_;rintro e wz ⟨rfl,hbz⟩)
        have HRA2:=hidP (fun u (hu:Below wz.heap.size wz u)=>HRI.out u (HVq.out.trans ((hbz.trans (hu.mono hbz.size)).mono HVq.out.size)) (HLQ.out.below (hbz.trans (hu.mono hbz.size))) nm)
        rw [hra] at HRA2;have HBZ:Hid (Below w7.heap.size w7 wz):=HBQ.out.trans (hbz.mono HBQ.out.size);replace k0:=cell_later hbz k0;replace k1:=cell_later hbz k1;replace hsc:=cell_later hbz hsc;clear hra HRI HWS k2 hbz c1 c2;have m0:=Later.cell (W:=wz) k0;have m1:=Later.cell (W:=wz) k1;have m2:=Later.cell (W:=wz) hsc;have hne:=later_some wz;have k2:((yy:Int) != (yy:Int))=false:=by simp
        refine wp_region_later (by kernel_rfl) (by kernel_rfl) ?_
        iterate 16 (go_big_quiet_step (fail))
        go_big_quiet_step ((rename_i u;exact Later.calls u (HRA2.out u.val u.2)))
        iterate 3 (go_big_quiet_step (fail))
        refine wpQuiet_nil ?_;intro _ hw';obtain ⟨u,hw''⟩:=hw';subst hw'';have hbu:=u.2;generalize u.val=w6 at hbu ⊢;have HB6:Hid (Below w7.heap.size w7 w6):=HBZ.out.trans (hbu.mono HBZ.out.size);clear m0 m1 m2 hne HRA2 hbu k2
        go_wp2_with fail
        go_roundw
        case rel=>exact ⟨i+1,by go_num,by omega,HB6⟩
        case measure=>simp [intOf];omega
    ·have hii:¬ (i:Int)<ns:=by omega
     go_wp2_with fail
     go_roundw
     case rel=>exact ⟨k+1,by go_num,by omega,HB7.out.trans (HBi.out.mono HB7.out.size)⟩
     case measure=>simp [intOf];omega
  ·have hki:¬ (k:Int)<3:=by omega
   go_wp2_with fail
   go_ret
   exact ⟨rfl,HBW.out.trans ((HU.out _ HBk.out).mono HBW.out.size)⟩
end Go.Proofs.YtmkdgnmmebldgaaGreatDoor
namespace Go.Proofs.YtmkdgnmmebldgaaGreatDoor
open Go.ChangeShapes Go.WideShapes Go.ChangeAt Go.RowKit Go.Deep
theorem Tryz.gPow : Tryz.prog.globalNamed "internal/strconv.uint64pow10" = some 1 := by kernel_rfl
theorem Tryz.gPowT:(Tryz.prog.globals[1]?).map (·.type)=some 315:=by kernel_rfl
theorem Tryz.cellsU64:Tryz.prog.cellsOf 74=1:=by kernel_rfl
theorem Tryz.cellsPow:Tryz.prog.cellsOf 315=20:=by kernel_rfl
theorem pow_laid:(Rows.laid_internal_strconv_uint64pow10:DataW Unit)=Lib.tabData .u64 Lib.pow10Tab:=by kernel_rfl
theorem tab_of_laid {W:World}(h:laidMetH Tryz.prog Rows.fnWholeRow.laid W):TabU W:=by
 have h':laidMet Tryz.prog Rows.fnWholeRow.laid W:=h;have h2 : laidMet Tryz.prog [("internal/strconv.uint64pow10", Rows.laid_internal_strconv_uint64pow10)] W := h'.tail.tail;rw [pow_laid] at h2;exact Lib.tabIs_of_head Tryz.gPow Tryz.gPowT Tryz.underlying315 Tryz.underlying74 Tryz.cellsU64 Tryz.cellsPow h2
def tabCells:DataW Unit->Array Value
 | .agg l=>(l.map fun
  | .lit (.int k z)=>Value.int k z
  | _=>.nilIface).toArray
 | _=>#[]
def laidWorld (P : Program) (os : Os) : World :=
 let w0:=World.holding P os ⟨#[],#[],[]⟩
 let put:=fun (h:Array Obj) (g:Nat) (d:DataW Unit)=>h.modify g fun
   | .cells _ t frozen=>.cells (tabCells d) t frozen
   | o=>o
 { w0 with heap:=put (put (put w0.heap 1 Rows.laid_internal_strconv_uint64pow10) 2 Rows.laid_math_bits_deBruijn32tab) 3 Rows.laid_math_bits_deBruijn64tab }
theorem laidWorld_met (os:Os)(args:Array Value):laidMetH Tryz.prog Rows.fnWholeRow.laid ((laidWorld Tryz.prog os).forCall (fun _ _=>0) ⟨#[],args,[]⟩).memory:=
 laidMetH_of_parts (laidMet_of_run' 100 (by kernel_rfl) (by kernel_rfl)) (by kernel_rfl)
theorem whole_lifted (os:Os)(started:os.Started)(H:Type)(enc:TypeId × Value->H):
  ReturnsInHanded {} Tryz.checked os 4 .any (fun w args=>(Rows.fnWholeSpec.pre enc Tryz.prog Tryz.f4 [] false w args/\laidMetH Tryz.prog Rows.fnWholeRow.laid w)/\sizedMet enc Tryz.prog Tryz.f4 (OpenSpec.ofChange Rows.fnWholeSpec) false w args)
   (Rows.fnWholeSpec.post enc Tryz.prog Tryz.f4 false true false false):=by
 refine returnsInHanded_of_change_and (C:=Tryz.checked) (X:=fun w _=>laidMetH Tryz.prog Rows.fnWholeRow.laid w) (fun _ _ _ hh h=>h.of_heap hh) ownDraws started (by kernel_rfl) Tryz.func4
  (ChangeSpec.witness_at (enc:=enc) (C:=Tryz.checked) (os:=os) (X:=fun w _=>laidMetH Tryz.prog Rows.fnWholeRow.laid w) false (laidWorld Tryz.prog os) #[.slice none 0 0,.slice none 0 0] 8 rfl (by kernel_rfl) (by kernel_rfl) (by kernel_rfl) (by kernel_rfl) (by kernel_rfl) (laidWorld_met os _)) ?_
 intro W base args ds gs before hval0 hW _ _ hL _;have hval:∀ (j:Nat) t v,Tryz.f4.params[j]? = some t->args[j]? = some v->Value.okWide Tryz.prog W .any base t v:=hval0;have hW':=hW;obtain ⟨p,q,hA0,hV,rfl,hfz,hnd⟩:=hW;have hA:DataW.TrodAll enc Tryz.prog W 0 (fun _=>true) true Tryz.f4.params.toList args.toList ds p:=hA0
 rw [Tryz.params4] at hA hval;obtain ⟨v0,vs0,d0,ds0,p0,q0,hargs,rfl,rfl,h0,r0⟩:=trodAll_cons hA;obtain ⟨v1,vs1,d1,ds1,p1,q1,rfl,rfl,rfl,h1,r1⟩:=trodAll_cons r0;obtain ⟨rfl,rfl,rfl⟩:=trodAll_nil r1;obtain rfl:args = #[v0,v1]:=by cases args;simp_all
 obtain ⟨rfl,rfl⟩:=trodVars_none hV;have k0:=h0;have lt0:∀ x ∈ p0,x.block<W.heap.size:=by obtain ⟨m,hm⟩:=k0;exact DataW.trod_lt m _ _ _ hm
 have k1:=h1;have lt1:∀ x ∈ p1,x.block<W.heap.size:=by obtain ⟨m,hm⟩:=k1;exact DataW.trod_lt m _ _ _ hm
 obtain ⟨ca,cc,bs,hv0,hb0⟩:=openBytesV (hval 0 22 v0 rfl rfl) h0;subst hv0;obtain ⟨da,dc,ms,hv1,hb1⟩:=openBytesV (hval 1 22 v1 rfl rfl) h1;subst hv1;clear hA0 hval0;refine (lawWhole_any ca da cc dc bs ms W hb0 hb1 (tab_of_laid hL)).mono fun e W' ⟨he,bel⟩=>?_
 subst he;exact ⟨_,rfl,_,_,_,[],_,[],hW',trodAll_mk1 (shut_bool Tryz.underlying4 _),(trodAll_cons_mk (Below.trod Tryz.laidOutD (by kernel_rfl) (of_decide_eq_true (by kernel_rfl)) k0 bel lt0) (trodAll_cons_mk (Below.trod Tryz.laidOutD (by kernel_rfl) (of_decide_eq_true (by kernel_rfl)) k1 bel lt1) trodAll_mk0)),rfl,bel.frame _,fun h=>by cases h⟩
theorem whole_card:Rows.FnWholeCardSaid:=whole_card_of (whole_holds_of (fun os started H enc=>whole_lifted os started H enc))
#print axioms whole_card
end Go.Proofs.YtmkdgnmmebldgaaGreatDoor
