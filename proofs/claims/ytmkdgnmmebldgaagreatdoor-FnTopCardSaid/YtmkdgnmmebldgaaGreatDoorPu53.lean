import Derived.Test.YtmkdgnmmebldgaaGreatDoorPu49
import Derived.Test.YtmkdgnmmebldgaaGreatDoorPu41
import Derived.Test.YtmkdgnmmebldgaaGreatDoorPu52
import Derived.Test.YtmkdgnmmebldgaaGreatDoorPu51
import Derived.Test.YtmkdgnmmebldgaaGreatDoorPt36
import Derived.Test.YtmkdgnmmebldgaaGreatDoorPt34
set_option maxRecDepth 100000
set_option maxHeartbeats 60000000
namespace Go.Proofs.YtmkdgnmmebldgaaGreatDoor
open Go.RowKit Go.Deep
theorem TopS.cellsAt {B:Nat}{wB w:World}{b o:Nat}{y:Nat}{qs:List (RAddr × MRoute)}{i:Nat}(h:TopS B wB w (some ⟨b,o,none⟩) y qs i){k:Nat}(hk:k<qs.length):RouteCell w b (o+k*8) qs[k].1 qs[k].2:=by
 obtain ⟨b',o',e,h⟩:=h.cells hk
 cases e
 exact h
theorem lawTop_any (ca:Option Addr)(cc:Nat)(bs:List Int)(w:World)(hb:Hid (BytesAt w ca bs)):
  Calls Tryz.prog 3 #[.slice ca bs.length cc] w fun e w'=>e = .returned (.bool true)∧Below w.heap.size w w':=by
 have hl1:=hb.out.len
 unfold maxLen at hl1
 go_enter Tryz.func3,Tryz.ntmps3
 by_cases h1:(1048576:Int)<bs.length
 ·go_wp2_with fail
  go_ret
  exact ⟨rfl,Below.refl _ _⟩
 go_wp2_with fail
 refine (DrawnV_any ca cc bs w hb.out.lie hb.out.small (by omega)).mono ?_
 rintro e w1 ⟨pa,pc,ja,jc,sa,sc,ps,js,ss,over,rfl,hP,hJ,hS,ho0,ho1,hsf,hbd⟩
 have HP:=hidP hP
 have HJ:=hidP hJ
 have HS:=hidP hS
 have HB1:=hidP hbd
 have HGV:Hid (sigF ps js ss=(0,0)∧0≤over∧over≤100000):=⟨hsf,ho0,by omega⟩
 clear hP hJ hS hbd hb hsf
 go_upto_region 4 with fail
 generalize hW:World.alloc w1 _=W
 have e0:W.cell? ⟨w1.heap.size,0,none⟩=some (.slice pa ps.length pc):=by rw [← hW];simp [go_sem]
 have e1:W.cell? ⟨w1.heap.size,1,none⟩=some (.slice ja js.length jc):=by rw [← hW];simp [go_sem]
 have hbW:Below w1.heap.size w1 W:=by rw [← hW];exact blo
 have HPW:=hidP (HP.out.below hbW)
 have HJW:=hidP (HJ.out.below hbW)
 have HSW:=hidP (HS.out.below hbW)
 have HBW:Hid (Below w.heap.size w W):=HB1.out.trans (hbW.mono HB1.out.size)
 generalize w1.heap.size=X at e0 e1 ⊢
 clear hW hbW HP HJ HS HB1 ho0 ho1
 have HSR:Hid (Calls Tryz.prog 9 #[.agg #[.slice pa ps.length pc,.slice ja js.length jc],.slice sa ss.length sc,.int .i64 over] W fun e w' => ∃ a c,e = .returned (.slice a (routesF ps js ss over).length c)∧RoutesAt w' a (routesF ps js ss over)∧Below W.heap.size W w'):=(specRoutes_any pa ja sa pc jc sc ps js ss over W HPW HJW HSW).mono (by rintro e w' ⟨a,c,h1,h2,_,h3⟩;exact ⟨a,c,h1,h2,h3⟩)
 have HIR:Hid (∀ u:World,Below W.heap.size W u→Calls Tryz.prog 10 #[.agg #[.slice pa ps.length pc,.slice ja js.length jc],.slice sa ss.length sc,.int .i64 over] u (RoutesPost ps js ss over u)):=fun u hu=>implRoutes_any pa ja sa pc jc sc ps js ss over u (HPW.out.below hu) (HJW.out.below hu) (HSW.out.below hu)
 have HCK:Hid (∀ (u:World) (ra ta:Option Addr) (rc tc:Nat),Below W.heap.size W u→RoutesAt u ra (routesF ps js ss over)→TabAt u ta (tableF (routesF ps js ss over))→Calls Tryz.prog 12 #[.agg #[.slice pa ps.length pc,.slice ja js.length jc],.slice sa ss.length sc,.int .i64 over,.slice ra (routesF ps js ss over).length rc,.slice ta (tableF (routesF ps js ss over)).length tc] u fun e w'=>e = .returned (.agg #[.int .i64 0,.int .i64 0,.int .i64 0])∧Below u.heap.size u w'):=fun u ra ta rc tc hu hr ht=>implCheck_ok pa ja sa ra ta pc jc sc rc tc ps js ss over u (HPW.out.below hu) (HJW.out.below hu) (HSW.out.below hu) hr ht HGV
 have HTA:Hid (∀ (u:World) (a:Option Addr) (c:Nat),RoutesAt u a (routesF ps js ss over)→Calls Tryz.prog 13 #[.slice a (routesF ps js ss over).length c] u fun e w' => ∃ x y,e = .returned (.slice x (tableF (routesF ps js ss over)).length y)∧TabAt w' x (tableF (routesF ps js ss over))∧Below u.heap.size u w'):=fun u a c hr=>specTable_at ps js ss over a c u hr
 have HRF:=hidP (routesF_ok ps js ss over).1
 unfold RoutesPost at HIR
 obtain ⟨RS,hRS⟩:∃ RS,routesF ps js ss over=RS:=⟨_,rfl⟩
 rw [hRS] at HSR HIR HCK HTA HRF
 obtain ⟨tl,TT,hTT⟩:∃ (tl:Nat) (TT:List (List Int)),tableF RS=TT∧TT.length=tl:=⟨_,_,rfl,rfl⟩
 rw [hTT.1,hTT.2] at HCK HTA
 obtain ⟨m,hm⟩:∃ m,RS.length=m:=⟨_,rfl⟩
 rw [hm] at HSR HCK HTA HRF
 have HM:Hid (RS.length=m):=hm
 have hm300:m≤300:=HRF.out
 generalize ps.length=np at e0 HSR HIR HCK
 generalize js.length=nj at e1 HSR HIR HCK
 generalize ss.length=ns at HSR HIR HCK ⊢
 clear hRS hTT hm HPW HJW HSW HGV HRF
 go_upto_region 5 with (go_at_call 9;refine HSR.out.mono ?_;rintro e w2 ⟨a,c,rfl,hR,hb2⟩)
 have HR2:=hidP hR
 have HB2:=hidP hb2
 have x0:=cell_later hb2 e0
 have x1:=cell_later hb2 e1
 clear hR hb2 HSR e0 e1
 go_upto_region 6 with (go_at_call 10;refine (HIR.out w2 HB2.out).mono ?_;rintro e w3 ⟨x,y,qs,rfl,hqs,htab,hb3⟩)
 have HQS:Hid (qs.map Prod.snd=RS):=hqs
 have HQL:Hid (qs.length=m):=by unfold Hid;rw [← HM.out,← hqs];simp
 have HQR:Hid (RoutesAt w3 x RS):=by have h:=htab.routes (by rw [HQL.out];exact hm300);rw [hqs] at h;exact h
 have HT3:Hid (TopS w2.heap.size w2 w3 x y qs 0):=TopS.of_tab htab hb3
 have HB3:=hidP hb3
 have y0:=cell_later hb3 x0
 have y1:=cell_later hb3 x1
 have HR3:=hidP (HR2.out.below hb3)
 have HBW3:Hid (Below W.heap.size W w3):=HB2.out.trans (hb3.mono HB2.out.size)
 rw [HQL.out]
 clear hqs htab hb3
 obtain ⟨S,hS⟩:∃ S:World→Prop,∀ u,S u↔Below w3.heap.size w3 u:=⟨_,fun _=>Iff.rfl⟩
 have HS0:=hidP hS
 have r0:∀ u:Held S,World.cell? u.val ⟨X,0,none⟩=some (.slice pa np pc):=fun u=>cell_later ((hS u.val).1 u.2) y0
 have r1:∀ u:Held S,World.cell? u.val ⟨X,1,none⟩=some (.slice ja nj jc):=fun u=>cell_later ((hS u.val).1 u.2) y1
 have hS1:S w3.drew:=(hS _).2 ((Below.refl _ _).drew)
 have hne:=held_ne hS1
 clear hS
 refine wp_region_tree (fun w' => ∃ u:Held S,w'=u.val) 13 (by kernel_rfl) (by kernel_rfl) (held_some hS1) ?_
 (refine wpT_sea 0 ?_;intro K hK;go_big_quiet_op;go_big_quiet_on);(refine wpT_sea 1 ?_;intro K hK;go_big_quiet_op;go_big_quiet_on)
 refine wpT_loud 2 (by rfl) (by kernel_rfl) (by kernel_rfl) ?_
 intro K hK
 have HWR:=hidP (wRoutes_any x a y c RS w3.drew (hidQ (HQR.out.below ((Below.refl _ _).drew))) (hidQ (HR3.out.below ((Below.refl _ _).drew))))
 rw [HM.out] at HWR
 go_wp2_with (go_at_call 11;refine HWR.out.mono ?_;rintro e w4 ⟨rfl,hb4'⟩)
 have hb4:Below w3.heap.size w3 w4:=((Below.refl _ _).drew).trans hb4'
 refine hK _ _ (held_some ((HS0.out _).2 hb4)) ?_
 clear hK K hb4' HWR
 (refine wpT_sea 3 ?_;intro K hK;go_big_quiet_op;go_big_quiet_on);(refine wpT_sea 4 ?_;intro K hK;go_big_quiet_op;go_big_quiet_on);(refine wpT_sea 5 ?_;intro K hK;go_big_quiet_op;go_big_quiet_on);(refine wpT_sea 6 ?_;intro K hK;go_big_quiet_op;go_big_quiet_on);(refine wpT_sea 7 ?_;intro K hK;go_big_quiet_op;go_big_quiet_on);(refine wpT_sea 8 ?_;intro K hK;go_big_quiet_op;go_big_quiet_on);(refine wpT_sea 9 ?_;intro K hK;go_big_quiet_op;go_big_quiet_on)
 (refine wpT_sea 12 ?_;intro K hK;go_big_quiet_op;go_big_quiet_on)
 refine wpT_loud 10 (by rfl) (by kernel_rfl) (by kernel_rfl) ?_
 intro K hK
 go_wp2_with (go_at_call 13;refine (HTA.out w4 a c (HR3.out.below hb4)).mono ?_;rintro e w5 ⟨tx,ty,rfl,ht5,hb5'⟩)
 have hb5:Below w3.heap.size w3 w5:=hb4.trans (hb5'.mono hb4.size)
 have HT5:=hidP ht5
 refine hK _ _ (held_some ((HS0.out _).2 hb5)) ?_
 clear hK K hb5' ht5 HTA
 refine wpT_loud 11 (by rfl) (by kernel_rfl) (by kernel_rfl) ?_
 intro K hK
 go_wp2_with (go_at_call 12;refine (HCK.out w5 a tx c ty (HBW3.out.trans (hb5.mono HBW3.out.size)) (HR3.out.below hb5) HT5.out).mono ?_;rintro e w6 ⟨rfl,hb6'⟩)
 have hb6:Below w3.heap.size w3 w6:=hb5.trans (hb6'.mono hb5.size)
 refine hK _ _ (held_some ((HS0.out _).2 hb6)) ?_
 clear hK K hb6' HCK HT5
 refine wpT_done (by kernel_rfl) ?_
 simp only [List.drop_succ_cons,List.drop_zero]
 have HT6:Hid (TopS w2.heap.size w2 w6 x y qs 0):=HT3.out.later hb6 HB3.out.size
 clear r0 r1 hne hS1 HS0 hb4 hb5 hb6 y0 y1 HQR HR3 HT3 HB3 HBW3 S
 have HBW2:Hid (∀ u,Below w2.heap.size w2 u→Below W.heap.size W u):=fun u hu=>HB2.out.trans (hu.mono HB2.out.size)
 have HX0:Hid (∀ u,Below w2.heap.size w2 u→u.cell? ⟨X,0,none⟩=some (.slice pa np pc)∧u.cell? ⟨X,1,none⟩=some (.slice ja nj jc)):=fun u hu=>⟨cell_later hu x0,cell_later hu x1⟩
 have HRW:Hid (∀ u,Below w2.heap.size w2 u→RoutesAt u a RS):=fun u hu=>HR2.out.below hu
 have HRO:=HR2
 clear x0 x1 HB2 HR2
 obtain ⟨B,hB⟩:∃ B,w2.heap.size=B:=⟨_,rfl⟩
 rw [hB] at HT6 HBW2 HX0 HRW
 have HBB:Hid (w2.heap.size=B):=hB
 clear hB
 go_wp2_with fail
 go_loopw [49] (fun ii wr => ∃ i:Nat,ii = .int .i64 i∧i≤m∧Hid (TopS B w2 wr x y qs i)) (fun ii _=>m-(intOf ii).toNat)
 case atStart=>exact ⟨0,rfl,Nat.zero_le _,HT6⟩
 case round =>
  clear HT6
  obtain ⟨i,rfl,him,HT⟩:=hrel
  by_cases hi:i<m
  ·have hii:(i:Int)<m:=by omega
   have HIQ:Hid (i<qs.length):=by unfold Hid;rw [HQL.out];exact hi
   obtain ⟨b,o,hx,_⟩:=HT.out.cells HIQ.out
   subst hx
   obtain ⟨d,hd⟩:∃ d,(qs[i]'HIQ.out).1=d:=⟨_,rfl⟩
   obtain ⟨r,hr⟩:∃ r,(qs[i]'HIQ.out).2=r:=⟨_,rfl⟩
   have HCE:Hid (∀ u,TopS B w2 u (some ⟨b,o,none⟩) y qs i→RouteCell u b (o+i*8) d r):=fun u hu=>by have h:=hu.cellsAt HIQ.out;rw [hd,hr] at h;exact h
   have HOL:Hid (∀ u,TopS B w2 u (some ⟨b,o,none⟩) y qs i→∀ j,j<6→∀ p,p<lnQ r j*szQ j→∃ g v,adR d j=some ⟨g,0,none⟩∧u.cell? ⟨g,p,none⟩=some v∧u.frozen? ⟨g,p,none⟩=false):=fun u hu j hj p hp=>by
    have h:=(hu.cur HIQ.out j hj).cell (p:=p) (by rw [hr];exact hp)
    rw [hd] at h
    exact h
   have HST:Hid (∀ u j g p v,TopS B w2 u (some ⟨b,o,none⟩) y qs i→j<6→adR d j=some ⟨g,0,none⟩→TopS B w2 (u.setCell ⟨g,p,none⟩ v) (some ⟨b,o,none⟩) y qs i):=fun u j g p v hu hj hg=>hu.store HIQ.out hj (by rw [hd];exact hg) p v
   have HLN:Hid (r.steps.length≤9223372036854775807∧r.lies.length≤9223372036854775807∧r.crosses.length≤9223372036854775807∧r.parts.length≤9223372036854775807∧r.over.length≤9223372036854775807∧r.flanks.length≤9223372036854775807):=by
    have h:=routes_len HQS.out HRO.out HIQ.out
    rw [hr] at h
    exact h
   obtain ⟨hn0,hn1,hn2,hn3,hn4,hn5⟩:=HLN.out
   clear hd hr HLN
   have k2:=(HCE.out wr HT.out).k2
   go_wp2_with fail
   clear k2
   go_loopw [58] (fun kk wr => ∃ k:Nat,kk = .int .i64 k∧k≤r.steps.length∧Hid (TopS B w2 wr (some ⟨b,o,none⟩) y qs i)) (fun kk _=>r.steps.length-(intOf kk).toNat)
   case atStart=>exact ⟨0,rfl,Nat.zero_le _,HT⟩
   case round =>
    clear HT
    obtain ⟨k,rfl,hk,HTa⟩:=hrel
    by_cases hk':k<r.steps.length
    ·have hki:(k:Int)<r.steps.length:=by omega
     obtain ⟨g,v,hg,hcv,hzv⟩:=HOL.out wr HTa.out 0 (by omega) (k*2) (by show k*2<r.steps.length*2;omega)
     have k2:=(HCE.out wr HTa.out).k2
     have hg':d.a0=some ⟨g,0,none⟩:=hg
     rw [hg'] at k2
     have HN:=hidP (HST.out wr 0 g (k*2) (.int .i64 77) HTa.out (by omega) hg)
     clear hg hg'
     go_wp2_with fail
     go_roundw
     case rel=>exact ⟨k+1,by go_num,by omega,HN⟩
     case measure=>simp [intOf];omega
    have hkn:¬ (k:Int)<r.steps.length:=by omega
    clear hk' hk
    have k5:=(HCE.out wr HTa.out).k5
    go_wp2_with fail
    clear k5
    go_loopw [76] (fun kk wr => ∃ k:Nat,kk = .int .i64 k∧k≤r.parts.length∧Hid (TopS B w2 wr (some ⟨b,o,none⟩) y qs i)) (fun kk _=>r.parts.length-(intOf kk).toNat)
    case atStart=>exact ⟨0,rfl,Nat.zero_le _,HTa⟩
    case round =>
     clear HTa
     obtain ⟨k,rfl,hk,HTb⟩:=hrel
     by_cases hk':k<r.parts.length
     ·have hki:(k:Int)<r.parts.length:=by omega
      obtain ⟨g,v,hg,hcv,hzv⟩:=HOL.out wr HTb.out 3 (by omega) (k*3) (by show k*3<r.parts.length*3;omega)
      have k5:=(HCE.out wr HTb.out).k5
      have hg':d.a3=some ⟨g,0,none⟩:=hg
      rw [hg'] at k5
      have HN:=hidP (HST.out wr 3 g (k*3) (.int .i64 77) HTb.out (by omega) hg)
      clear hg hg'
      go_wp2_with fail
      go_roundw
      case rel=>exact ⟨k+1,by go_num,by omega,HN⟩
      case measure=>simp [intOf];omega
     have hkn:¬ (k:Int)<r.parts.length:=by omega
     clear hk' hk
     have k7:=(HCE.out wr HTb.out).k7
     go_wp2_with fail
     clear k7
     go_loopw [94] (fun kk wr => ∃ k:Nat,kk = .int .i64 k∧k≤r.flanks.length∧Hid (TopS B w2 wr (some ⟨b,o,none⟩) y qs i)) (fun kk _=>r.flanks.length-(intOf kk).toNat)
     case atStart=>exact ⟨0,rfl,Nat.zero_le _,HTb⟩
     case round =>
      clear HTb
      obtain ⟨k,rfl,hk,HTc⟩:=hrel
      by_cases hk':k<r.flanks.length
      ·have hki:(k:Int)<r.flanks.length:=by omega
       obtain ⟨g,v,hg,hcv,hzv⟩:=HOL.out wr HTc.out 5 (by omega) (k*4+1) (by show k*4+1<r.flanks.length*4;omega)
       have k7:=(HCE.out wr HTc.out).k7
       have hg':d.a5=some ⟨g,0,none⟩:=hg
       rw [hg'] at k7
       have HN:=hidP (HST.out wr 5 g (k*4+1) (.int .i64 77) HTc.out (by omega) hg)
       clear hg hg'
       go_wp2_with fail
       go_roundw
       case rel=>exact ⟨k+1,by go_num,by omega,HN⟩
       case measure=>simp [intOf];omega
      have hkn:¬ (k:Int)<r.flanks.length:=by omega
      clear hk' hk
      have k6:=(HCE.out wr HTc.out).k6
      go_wp2_with fail
      clear k6
      go_loopw [112] (fun kk wr => ∃ k:Nat,kk = .int .i64 k∧k≤r.over.length∧Hid (TopS B w2 wr (some ⟨b,o,none⟩) y qs i)) (fun kk _=>r.over.length-(intOf kk).toNat)
      case atStart=>exact ⟨0,rfl,Nat.zero_le _,HTc⟩
      case round =>
       clear HTc
       obtain ⟨k,rfl,hk,HTd⟩:=hrel
       by_cases hk':k<r.over.length
       ·have hki:(k:Int)<r.over.length:=by omega
        obtain ⟨g,v,hg,hcv,hzv⟩:=HOL.out wr HTd.out 4 (by omega) (k*3) (by show k*3<r.over.length*3;omega)
        have k6:=(HCE.out wr HTd.out).k6
        have hg':d.a4=some ⟨g,0,none⟩:=hg
        rw [hg'] at k6
        have HN:=hidP (HST.out wr 4 g (k*3) (.int .i64 77) HTd.out (by omega) hg)
        clear hg hg'
        go_wp2_with fail
        go_roundw
        case rel=>exact ⟨k+1,by go_num,by omega,HN⟩
        case measure=>simp [intOf];omega
       have hkn:¬ (k:Int)<r.over.length:=by omega
       clear hk' hk
       have k3:=(HCE.out wr HTd.out).k3
       go_wp2_with fail
       clear k3
       go_loopw [130] (fun kk wr => ∃ k:Nat,kk = .int .i64 k∧k≤r.lies.length∧Hid (TopS B w2 wr (some ⟨b,o,none⟩) y qs i)) (fun kk _=>r.lies.length-(intOf kk).toNat)
       case atStart=>exact ⟨0,rfl,Nat.zero_le _,HTd⟩
       case round =>
        clear HTd
        obtain ⟨k,rfl,hk,HTe⟩:=hrel
        by_cases hk':k<r.lies.length
        ·have hki:(k:Int)<r.lies.length:=by omega
         obtain ⟨g,v,hg,hcv,hzv⟩:=HOL.out wr HTe.out 1 (by omega) (k*2+1) (by show k*2+1<r.lies.length*2;omega)
         have k3:=(HCE.out wr HTe.out).k3
         have hg':d.a1=some ⟨g,0,none⟩:=hg
         rw [hg'] at k3
         have HN:=hidP (HST.out wr 1 g (k*2+1) (.int .i64 77) HTe.out (by omega) hg)
         clear hg hg'
         go_wp2_with fail
         go_roundw
         case rel=>exact ⟨k+1,by go_num,by omega,HN⟩
         case measure=>simp [intOf];omega
        have hkn:¬ (k:Int)<r.lies.length:=by omega
        clear hk' hk
        have k4:=(HCE.out wr HTe.out).k4
        go_wp2_with fail
        clear k4
        go_loopw [148] (fun kk wr => ∃ k:Nat,kk = .int .i64 k∧k≤r.crosses.length∧Hid (TopS B w2 wr (some ⟨b,o,none⟩) y qs i)) (fun kk _=>r.crosses.length-(intOf kk).toNat)
        case atStart=>exact ⟨0,rfl,Nat.zero_le _,HTe⟩
        case round =>
         clear HTe
         obtain ⟨k,rfl,hk,HTf⟩:=hrel
         by_cases hk':k<r.crosses.length
         ·have hki:(k:Int)<r.crosses.length:=by omega
          obtain ⟨g,v,hg,hcv,hzv⟩:=HOL.out wr HTf.out 2 (by omega) (k) (by show k<r.crosses.length*1;omega)
          have k4:=(HCE.out wr HTf.out).k4
          have hg':d.a2=some ⟨g,0,none⟩:=hg
          rw [hg'] at k4
          have HN:=hidP (HST.out wr 2 g (k) (.int .i64 77) HTf.out (by omega) hg)
          clear hg hg'
          go_wp2_with fail
          go_roundw
          case rel=>exact ⟨k+1,by go_num,by omega,HN⟩
          case measure=>simp [intOf];omega
         have hkn:¬ (k:Int)<r.crosses.length:=by omega
         clear hk' hk
         have hbr:=HTf.out.base
         rw [← HBB.out] at hbr
         have HBR:=hidP hbr
         clear hbr
         go_upto_region 41 with fail
         by_cases hn:i+1<m
         ·have hni:(i:Int)+1<m:=by omega
          have HQN:Hid (i+1<qs.length):=by unfold Hid;rw [HQL.out];exact hn
          have HCN:=hidP (HTf.out.cellsAt HQN.out)
          have HLS:=hidP (HTf.out.rest (i+1) HQN.out (by omega)).lists
          have HWT:=hidP (HRW.out wr (by rw [← HBB.out];exact HBR.out))
          have hnr:i+1<RS.length:=by rw [HM.out];exact hn
          obtain ⟨b2,o2,ha2,hc2⟩:=HWT.out.2.resolve_left (nz hnr)
          subst ha2
          obtain ⟨d2,dc2,ql2⟩:=hc2 (i+1) hnr
          have hrr:(qs[i+1]'HQN.out).2=RS[i+1]:=by
           have h:=HQS.out
           subst h
           simp
          rw [hrr] at HCN HLS
          generalize RS[i+1]=rn at HCN HLS dc2 ql2
          generalize (qs[i+1]'HQN.out).1=dn at HCN HLS
          have HWR:=hidP (fun u (hu:Below wr.heap.size wr u)=>wRoute_any dn d2 rn u (hidQ (HLS.out.below hu)) (hidQ (ql2.below hu)))
          obtain ⟨S,hS⟩:∃ S:World→Prop,∀ u,S u↔Below wr.heap.size wr u:=⟨_,fun _=>Iff.rfl⟩
          have HS0:=hidP hS
          have yr:∀ u:Held S,RouteCell u.val b (o+(i+1)*8) dn rn:=fun u=>HCN.out.below ((hS u.val).1 u.2)
          have zr:∀ u:Held S,RouteCell u.val b2 (o2+(i+1)*8) d2 rn:=fun u=>dc2.below ((hS u.val).1 u.2)
          have v0:=fun u=>(yr u).k0
          have v1:=fun u=>(yr u).k1
          have v2:=fun u=>(yr u).k2
          have v3:=fun u=>(yr u).k3
          have v4:=fun u=>(yr u).k4
          have v5:=fun u=>(yr u).k5
          have v6:=fun u=>(yr u).k6
          have v7:=fun u=>(yr u).k7
          have z0:=fun u=>(zr u).k0
          have z1:=fun u=>(zr u).k1
          have z2:=fun u=>(zr u).k2
          have z3:=fun u=>(zr u).k3
          have z4:=fun u=>(zr u).k4
          have z5:=fun u=>(zr u).k5
          have z6:=fun u=>(zr u).k6
          have z7:=fun u=>(zr u).k7
          have hS1:S wr.drew:=(hS _).2 ((Below.refl _ _).drew)
          have hne:=held_ne hS1
          clear hS yr zr dc2 hrr ql2 hc2 hnr
          refine wp_region_tree (fun w' => ∃ u:Held S,w'=u.val) 17 (by kernel_rfl) (by kernel_rfl) (held_some hS1) ?_
          (refine wpT_sea 0 ?_;intro K hK;go_big_quiet_op;go_big_quiet_on);(refine wpT_sea 1 ?_;intro K hK;go_big_quiet_op;go_big_quiet_on);(refine wpT_sea 2 ?_;intro K hK;go_big_quiet_op;go_big_quiet_on);(refine wpT_sea 3 ?_;intro K hK;go_big_quiet_op;go_big_quiet_on);(refine wpT_sea 4 ?_;intro K hK;go_big_quiet_op;go_big_quiet_on);(refine wpT_sea 5 ?_;intro K hK;go_big_quiet_op;go_big_quiet_on);(refine wpT_sea 6 ?_;intro K hK;go_big_quiet_op;go_big_quiet_on);(refine wpT_sea 7 ?_;intro K hK;go_big_quiet_op;go_big_quiet_on);(refine wpT_sea 8 ?_;intro K hK;go_big_quiet_op;go_big_quiet_on);(refine wpT_sea 9 ?_;intro K hK;go_big_quiet_op;go_big_quiet_on);(refine wpT_sea 10 ?_;intro K hK;go_big_quiet_op;go_big_quiet_on);(refine wpT_sea 11 ?_;intro K hK;go_big_quiet_op;go_big_quiet_on);(refine wpT_sea 12 ?_;intro K hK;go_big_quiet_op;go_big_quiet_on);(refine wpT_sea 13 ?_;intro K hK;go_big_quiet_op;go_big_quiet_on);(refine wpT_sea 14 ?_;intro K hK;go_big_quiet_op;go_big_quiet_on);(refine wpT_sea 15 ?_;intro K hK;go_big_quiet_op;go_big_quiet_on)
          refine wpT_loud 16 (by rfl) (by kernel_rfl) (by kernel_rfl) ?_
          intro KK hK
          go_wp2_with (go_at_call 14;refine (HWR.out _ ((Below.refl _ _).drew)).mono ?_;rintro e w9 ⟨rfl,hb9'⟩)
          have hb9:Below wr.heap.size wr w9:=(Below.refl _ _).drew.trans hb9'
          refine hK _ _ (held_some ((HS0.out _).2 hb9)) ?_
          have HT9:Hid (TopS B w2 w9 (some ⟨b,o,none⟩) y qs (i+1)):=(HTf.out.later hb9 (by have:=HBR.out.size;have:=HBB.out;omega)).next
          clear hK KK hb9' hb9 v0 v1 v2 v3 v4 v5 v6 v7 z0 z1 z2 z3 z4 z5 z6 z7 hS1 hne HWR
          refine wpT_done (by kernel_rfl) ?_
          simp only [List.drop_succ_cons,List.drop_zero]
          go_wp2_with fail
          go_roundw
          case rel=>exact ⟨i+1,by go_num,by omega,HT9⟩
          case measure=>simp [intOf];omega
         ·have hni:¬ (i:Int)+1<m:=by omega
          have HT9:Hid (TopS B w2 wr (some ⟨b,o,none⟩) y qs (i+1)):=HTf.out.next
          have HT9b:Hid (∀ u,Below wr.heap.size wr u→TopS B w2 u (some ⟨b,o,none⟩) y qs (i+1)):=fun u hu=>HT9.out.later hu (by have:=HBR.out.size;have:=HBB.out;omega)
          go_big_quiet (fail)
          go_wp2_with fail
          go_roundw
          case rel=>exact ⟨i+1,by go_num,by omega,HT9b.out _ (bdrewN (Below.refl _ _) _)⟩
          case measure=>simp [intOf];omega
  ·have hii:¬ (i:Int)<m:=by omega
   have hbr:=HT.out.base
   rw [← HBB.out] at hbr
   obtain ⟨q0,q1⟩:=HX0.out wr (by rw [← HBB.out];exact hbr)
   have HRT:=hidP (HIR.out wr (HBW2.out wr (by rw [← HBB.out];exact hbr)))
   have HWT:=hidP (HRW.out wr (by rw [← HBB.out];exact hbr))
   have HBR:Hid (Below w.heap.size w wr):=HBW.out.trans ((HBW2.out wr (by rw [← HBB.out];exact hbr)).mono HBW.out.size)
   clear hbr
   go_wp2_with fail
   refine HRT.out.mono ?_
   rintro e w8 ⟨x8,y8,qs8,rfl,hqs8,htab8,hb8⟩
   have HL8:Hid (qs8.length=m):=by unfold Hid;rw [← HM.out,← hqs8];simp
   have HQ8:Hid (RoutesAt w8 x8 RS):=by have h:=htab8.routes (by rw [HL8.out];exact hm300);rw [hqs8] at h;exact h
   have HWR:=hidP (wRoutes_any x8 a y8 c RS w8 HQ8 (hidQ (HWT.out.below hb8)))
   rw [HM.out] at HWR
   have HB8:Hid (Below w.heap.size w w8):=HBR.out.trans (hb8.mono HBR.out.size)
   rw [HL8.out]
   clear hqs8 htab8 hb8 HRT
   go_wp2_with fail
   refine HWR.out.mono ?_
   rintro e w9 ⟨rfl,hb9⟩
   have HB9:Hid (Below w.heap.size w w9):=HB8.out.trans (hb9.mono HB8.out.size)
   go_wp2_with fail
   go_ret
   exact ⟨rfl,HB9.out⟩
end Go.Proofs.YtmkdgnmmebldgaaGreatDoor
