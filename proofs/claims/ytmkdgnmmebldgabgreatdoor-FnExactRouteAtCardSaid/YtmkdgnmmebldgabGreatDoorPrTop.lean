import Derived.Test.YtmkdgnmmebldgabGreatDoorPr52
import Derived.Test.YtmkdgnmmebldgabGreatDoorPr45
import Derived.Test.YtmkdgnmmebldgabGreatDoorPr40
import Derived.Laws.IdiomStrings
import Derived.Test.YtmkdgnmmebldgabGreatDoorPr39
import Derived.Test.YtmkdgnmmebldgabGreatDoorTie
import Derived.Test.YtmkdgnmmebldgabGreatDoorCards
import Derived.Test.YtmkdgnmmebldgabGreatDoorPr42
import Derived.Stop.LaidErr
import Derived.ChangeSame
import Derived.ChangeVars
import Derived.JoinedOf
import Derived.RowKitTokens
import Derived.LaidLaws
import Derived.LaidHandle
import Derived.Stop.Joined
set_option maxRecDepth 100000
set_option maxHeartbeats 8000000
namespace Go.Proofs.YtmkdgnmmebldgabGreatDoor
open Go.RowKit Go.Deep Go.Maps
theorem pieces_rowD {w:World}{t g:Nat}{ps:List MPiece}{a:Option Addr}{w0:World}(h:PieceRowAt w t g ps)(h0:PiecesAt w0 a ps):PiecesAt w (some ⟨g,0,none⟩) ps:=⟨h0.1,h0.2.1,Or.inr ⟨g,0,rfl,h.cells⟩⟩
theorem joints_rowD {w:World}{g:Nat}{js:List MJoint}{a:Option Addr}{w0:World}(h:JointRowAt w g js)(h0:JointsAt w0 a js)(hl:∀ j,j ∈ js→j.ends.length≤1048576):JointsAt w (some ⟨g,0,none⟩) js:=⟨h0.1,h0.2.1,Or.inr ⟨g,0,rfl,h.cells hl⟩⟩
theorem lawRouteAt_any (pa ja sa ra la:Option Addr)(pc jc sc rc lc:Nat)(ps:List MPiece)(js:List MJoint)(ss:List MPiece)(rs:List MRoute)(from_:ByteArray)(ls:List Int)(w:World)(hp:Hid (PiecesAt w pa ps))(hj:Hid (JointsAt w ja js))(hs:Hid (PiecesAt w sa ss))(hr:Hid (RoutesAt w ra rs))(hl:Hid (NumsAt w la ls))(hfr:from_.size≤maxLen)(ht:Hid (TabU w)):
  Calls Tryz.prog 5 #[.agg #[.slice pa ps.length pc,.slice ja js.length jc],.slice sa ss.length sc,.slice ra rs.length rc,.string from_,.slice la ls.length lc] w fun e w'=>e = .returned (.bool true)∧Below w.heap.size w w':=by
 have hll:=hl.out.1
 unfold maxLen at hll hfr
 go_enter Tryz.func5,Tryz.ntmps5
 go_upto_region 1 with fail
 generalize hW:World.alloc w _=W
 have e0:W.cell? ⟨w.heap.size,0,none⟩=some (.slice pa ps.length pc):=by rw [← hW];simp [go_sem]
 have e1:W.cell? ⟨w.heap.size,1,none⟩=some (.slice ja js.length jc):=by rw [← hW];simp [go_sem]
 have hzA:w.heap.size<W.heap.size:=by rw [← hW];simp
 have HBW:Hid (Below w.heap.size w W):=by rw [← hW];exact (Below.refl _ _).alloc (Nat.le_refl _) _
 have HP:=hidQ (hp.out.below HBW.out)
 have HJ:=hidQ (hj.out.below HBW.out)
 have HS:=hidQ (hs.out.below HBW.out)
 have HR:=hidQ (hr.out.below HBW.out)
 have HL:=hidQ (hl.out.below HBW.out)
 have HTB:=hidQ (ht.out.below HBW.out)
 have E0:=hidP e0
 have E1:=hidP e1
 clear hW hp hj hs hr hl ht
 by_cases h1:1048576<from_.size
 ·have f0:(1048576:Int)<from_.size:=by omega
  go_wp2_with fail
  go_ret
  exact ⟨rfl,HBW.out⟩
 have f0:¬ (1048576:Int)<from_.size:=by omega
 by_cases h2:1048576<ls.length
 ·have f1:(1048576:Int)<ls.length:=by omega
  go_wp2_with fail
  go_ret
  exact ⟨rfl,HBW.out⟩
 have f1:¬ (1048576:Int)<ls.length:=by omega
 have hls:ls.length≤1048576:=by omega
 clear h1 h2
 go_upto_region 6 with fail
 clear f0 f1
 have HSZ0:=hidP (szNet_any pa ja pc jc ps js 1048576 W HP HJ (by omega) (by omega))
 go_upto_region 7 with (go_at_call 6;refine HSZ0.out.mono ?_;rintro e w1 ⟨r,rfl,hr1,hr2,hb1⟩;have HSZ:=hidQ hr2;have HB1:=hidP hb1;clear hr2 hb1)
 by_cases hr:r<0
 ·go_wp2_with fail
  go_ret
  exact ⟨rfl,HBW.out.trans (HB1.out.mono HBW.out.size)⟩
 obtain ⟨sz1,sz2,sz3⟩:=HSZ.out (by omega)
 have SZ3:=hidQ sz3
 clear sz3 HSZ HSZ0
 have hrs:∃ r2:Int,(if r<ss.length then -1 else szP (r-ss.length) ss)=r2∧r2≤r∧(0≤r2→(ss.length:Int)≤1048576):=by
  refine ⟨_,rfl,?_,?_⟩
  ·by_cases h:r<ss.length
   ·rw [if_pos h];omega
   ·rw [if_neg h]
    have:=(szP_le ss (r-ss.length) (by omega)).1
    omega
  ·by_cases h:r<ss.length
   ·rw [if_pos h];exact fun h=>absurd h (by omega)
   ·exact fun _=>by omega
 obtain ⟨r2,hq1,hq3,hq2⟩:=hrs
 have HQ2:=hidQ hq2
 have HSG0:=hidP (szSignalS_any sa sc ss r w1 (HS.out.below HB1.out) (by omega) (by omega))
 rw [hq1] at HSG0
 clear hq1 hq2
 go_upto_region 10 with (go_at_call 7;refine HSG0.out.mono ?_;rintro e w2 ⟨rfl,hb2⟩;have HB2:Hid (Below W.heap.size W w2):=HB1.out.trans (hb2.mono HB1.out.size);clear hb2)
 by_cases hr3:r2<0
 ·go_wp2_with fail
  go_ret
  exact ⟨rfl,HBW.out.trans (HB2.out.mono HBW.out.size)⟩
 have sz4:ss.length≤1048576:=by have:=HQ2.out (by omega);omega
 clear HQ2 HSG0 HB1
 have HSR0:=hidP (szRouteS_any ra rc rs r2 w2 (HR.out.below HB2.out) (by omega) (by omega))
 go_upto_region 13 with (go_at_call 8;refine HSR0.out.mono ?_;rintro e w3 ⟨r3,rfl,hle3,hln3,hb3⟩;have HL3:=hidP hln3;have HB3:Hid (Below W.heap.size W w3):=HB2.out.trans (hb3.mono HB2.out.size);clear hb3 hln3)
 by_cases hr4:r3<0
 ·go_wp2_with fail
  go_ret
  exact ⟨rfl,HBW.out.trans (HB3.out.mono HBW.out.size)⟩
 have HLR:=hidP (HL3.out (by omega))
 clear HL3 HSR0 HB2
 have HTN:Hid (∀ u:World,Below W.heap.size W u→Calls Tryz.prog 11 #[.agg #[.slice pa ps.length pc,.slice ja js.length jc]] u fun e w' => ∃ g h,e = .returned (.agg #[.slice (some ⟨g,0,none⟩) ps.length ps.length,.slice (some ⟨h,0,none⟩) js.length js.length])∧Hid (PiecesAt w' (some ⟨g,0,none⟩) ps)∧Hid (JointsAt w' (some ⟨h,0,none⟩) js)∧Below u.heap.size u w'):=fun u hu=>(toNet_row pa ja pc jc ps js u (HP.out.below hu) (HJ.out.below hu) sz1 sz2 SZ3).mono (fun e w' ⟨g,h,he,hpr,hjr,hb,_,_⟩=>⟨g,h,he,pieces_rowD hpr.out HP.out,joints_rowD hjr.out HJ.out SZ3.out,hb⟩)
 have HTS:Hid (∀ u:World,Below W.heap.size W u→Calls Tryz.prog 12 #[.slice sa ss.length sc] u fun e w' => ∃ g,e = .returned (.slice (some ⟨g,0,none⟩) ss.length ss.length)∧Hid (PiecesAt w' (some ⟨g,0,none⟩) ss)∧Below u.heap.size u w'):=fun u hu=>(toSignalS_row sa sc ss u (HS.out.below hu) sz4).mono (fun e w' ⟨g,he,hsr,hb,_⟩=>⟨g,he,pieces_rowD hsr.out HS.out,hb⟩)
 have HTR:Hid (∀ u:World,Below W.heap.size W u→Calls Tryz.prog 13 #[.slice ra rs.length rc] u fun e w' => ∃ G,e = .returned (.slice (some ⟨G,0,none⟩) rs.length rs.length)∧Hid (RoutesAt w' (some ⟨G,0,none⟩) rs)∧Below u.heap.size u w'):=fun u hu=>(toRouteS_row ra rc rs u (HR.out.below hu) HLR).mono (fun e w' ⟨G,gg,f,he,h1,h2,hb,_⟩=>⟨G,he,routes_of_row h1.out h2.out HLR.out,hb⟩)
 have HTT:Hid (∀ u:World,Below W.heap.size W u→Calls Tryz.prog 24 #[.slice la ls.length lc] u fun e w' => ∃ G,e = .returned (.slice (some ⟨G,0,none⟩) ls.length ls.length)∧Hid (NumsAt w' (some ⟨G,0,none⟩) ls)∧Below u.heap.size u w'):=fun u hu=>(toIntS_row la lc ls u (HL.out.below hu) hls).mono (fun e w' ⟨G,he,h1,hb,_⟩=>⟨G,he,⟨by unfold maxLen;omega,Or.inr ⟨G,0,rfl,numCells_of h1.out.cell⟩⟩,hb⟩)
 obtain ⟨va,hv⟩:∃ v,routeAtF ps js ss rs from_ ls=v:=⟨_,rfl⟩
 have HV:=hidP hv
 clear hv
 replace e0:=cell_later HB3.out E0.out
 replace e1:=cell_later HB3.out E1.out
 have hz4:=cellLt e0
 dsimp only at hz4
 go_upto_region 16 with (first
  | (go_at_call 11;refine (HTN.out _ HB3.out).mono ?_;rintro e w5 ⟨g1,g2,rfl,hp5,hj5,hb5⟩;have HB5:Hid (Below W.heap.size W w5):=HB3.out.trans (hb5.mono HB3.out.size);clear hb5)
  | (go_at_call 12;refine (HTS.out _ HB5.out).mono ?_;rintro e w6 ⟨g3,rfl,hs6,hb6⟩;have HB6:Hid (Below W.heap.size W w6):=HB5.out.trans (hb6.mono HB5.out.size);have hp6:=hidP (hp5.out.below hb6);have hj6:=hidP (hj5.out.below hb6);clear hb6)
  | (go_at_call 13;refine (HTR.out _ HB6.out).mono ?_;rintro e w7 ⟨g4,rfl,hr7,hb7⟩;have HB7:Hid (Below W.heap.size W w7):=HB6.out.trans (hb7.mono HB6.out.size);have hp7:=hidP (hp6.out.below hb7);have hj7:=hidP (hj6.out.below hb7);have hs7:=hidP (hs6.out.below hb7);clear hb7)
  | (go_at_call 24;refine (HTT.out _ HB7.out).mono ?_;rintro e w8 ⟨g5,rfl,ht8,hb8⟩;have HB8:Hid (Below W.heap.size W w8):=HB7.out.trans (hb8.mono HB7.out.size);have hp8:=hidP (hp7.out.below hb8);have hj8:=hidP (hj7.out.below hb8);have hs8:=hidP (hs7.out.below hb8);have hr8:=hidP (hr7.out.below hb8);clear hb8)
  | (go_at_call 23;refine (specRouteAt_any _ _ _ _ _ _ _ _ _ _ ps js ss rs from_ ls w8 hp8 hj8 hs8 hr8 ht8).mono ?_;rw [HV.out];rintro e w9 ⟨rfl,hb9⟩;have HB9:Hid (Below W.heap.size W w9):=HB8.out.trans (hb9.mono HB8.out.size);clear hb9))
 obtain ⟨WA,hWA⟩:∃ u,u=w9:=⟨_,rfl⟩
 subst hWA
 have HBA:=HB9
 clear hp5 hj5 hp6 hj6 hs6 hp7 hj7 hs7 hr7 hp8 hj8 hs8 hr8 ht8 HB5 HB6 HB7 HB8 HB9
 replace e0:=cell_later HBA.out E0.out
 replace e1:=cell_later HBA.out E1.out
 have hzA2:=cellLt e0
 dsimp only at hzA2
 go_upto_region 17 with (go_at_call 11;refine (HTN.out _ HBA.out).mono ?_;rintro e w10 ⟨g6,g7,rfl,hp10,hj10,hb10⟩)
 generalize hWB:World.alloc w10 _=WB
 have x0:WB.cell? ⟨w10.heap.size,0,none⟩=some (.slice (some ⟨g6,0,none⟩) ps.length ps.length):=by rw [← hWB];simp [go_sem]
 have x1:WB.cell? ⟨w10.heap.size,1,none⟩=some (.slice (some ⟨g7,0,none⟩) js.length js.length):=by rw [← hWB];simp [go_sem]
 have hbB:Below w10.heap.size w10 WB:=by rw [← hWB];exact (Below.refl _ _).alloc (Nat.le_refl _) _
 have HAB:Hid (Below WA.heap.size WA WB):=hb10.trans (hbB.mono hb10.size)
 have hpB:=hidP (hp10.out.below hbB)
 have hjB:=hidP (hj10.out.below hbB)
 generalize w10.heap.size=B at x0 x1 hbB ⊢
 clear hWB hp10 hj10 hb10 hbB e0 e1 hzA2
 have HBB:Hid (Below W.heap.size W WB):=HBA.out.trans (HAB.out.mono HBA.out.size)
 go_upto_region 18 with (go_at_call 12;refine (HTS.out _ HBB.out).mono ?_;rintro e w11 ⟨g8,rfl,hs11,hb11⟩)
 have HB11:Hid (Below WB.heap.size WB w11):=hb11
 clear hb11
 have HW11:Hid (Below W.heap.size W w11):=HBB.out.trans (HB11.out.mono HBB.out.size)
 go_upto_region 19 with (go_at_call 13;refine (HTR.out _ HW11.out).mono ?_;rintro e w12 ⟨g9,rfl,hr12,hb12⟩)
 have HB12:Hid (Below WB.heap.size WB w12):=HB11.out.trans (hb12.mono HB11.out.size)
 have hs12:=hidP (hs11.out.below hb12)
 clear hb12
 have HW12:Hid (Below W.heap.size W w12):=HBB.out.trans (HB12.out.mono HBB.out.size)
 go_upto_region 20 with (go_at_call 24;refine (HTT.out _ HW12.out).mono ?_;rintro e w13 ⟨g10,rfl,ht13,hb13⟩)
 have HB13:Hid (Below WB.heap.size WB w13):=HB12.out.trans (hb13.mono HB12.out.size)
 have hs13:=hidP (hs12.out.below hb13)
 have hr13:=hidP (hr12.out.below hb13)
 have hp13:=hidP (hpB.out.below HB13.out)
 have hj13:=hidP (hjB.out.below HB13.out)
 clear hb13 hs11 hs12 hr12 hpB hjB HB11 HB12 HW11 HW12
 have HW13:Hid (Below W.heap.size W w13):=HBB.out.trans (HB13.out.mono HBB.out.size)
 replace x0:=cell_later HB13.out x0
 replace x1:=cell_later HB13.out x1
 have hzx:=cellLt x0
 dsimp only at hzx
 have X0:=hidP x0
 have X1:=hidP x1
 have HIC:=hidP (implRouteAt_any (some ⟨g6,0,none⟩) (some ⟨g7,0,none⟩) (some ⟨g8,0,none⟩) (some ⟨g9,0,none⟩) (some ⟨g10,0,none⟩) ps.length js.length ss.length rs.length ls.length ps js ss rs from_ ls w13 hp13 hj13 hs13 hr13 ht13 (HTB.out.below HW13.out))
 rw [HV.out] at HIC
 have f0:(va != va)=false:=by simp
 go_upto_region 23 with (go_at_call 25;refine HIC.out.mono ?_;rintro e w15 ⟨rfl,hb15⟩)
 have HB15:Hid (Below w13.heap.size w13 w15):=hb15
 clear hb15 HIC x0 x1 hzx f0 HAB
 have HW15:Hid (Below W.heap.size W w15):=HW13.out.trans (HB15.out.mono HW13.out.size)
 have hp15:=hidP (hp13.out.below HB15.out)
 have hj15:=hidP (hj13.out.below HB15.out)
 have hs15:=hidP (hs13.out.below HB15.out)
 have hr15:=hidP (hr13.out.below HB15.out)
 have ht15:=hidP (ht13.out.below HB15.out)
 have e0:=cell_later HW15.out E0.out
 have e1:=cell_later HW15.out E1.out
 have x0:=cell_later HB15.out X0.out
 have x1:=cell_later HB15.out X1.out
 have hzx:=cellLt x0
 have hze:=cellLt e0
 dsimp only at hzx hze
 obtain ⟨S,hS⟩:∃ S:World→Prop,∀ u,S u↔Below w15.heap.size w15 u:=⟨_,fun _=>Iff.rfl⟩
 have HS0:=hidP hS
 have q0:∀ u:Held S,World.cell? u.val ⟨w.heap.size,0,none⟩=some (.slice pa ps.length pc):=fun u=>cell_later ((hS u.val).1 u.2) e0
 have q1:∀ u:Held S,World.cell? u.val ⟨w.heap.size,1,none⟩=some (.slice ja js.length jc):=fun u=>cell_later ((hS u.val).1 u.2) e1
 have q2:∀ u:Held S,World.cell? u.val ⟨B,0,none⟩=some (.slice (some ⟨g6,0,none⟩) ps.length ps.length):=fun u=>cell_later ((hS u.val).1 u.2) x0
 have q3:∀ u:Held S,World.cell? u.val ⟨B,1,none⟩=some (.slice (some ⟨g7,0,none⟩) js.length js.length):=fun u=>cell_later ((hS u.val).1 u.2) x1
 have hS1:S w15.drew:=(hS _).2 ((Below.refl _ _).drew)
 have hne:=held_ne hS1
 clear hS
 refine wp_region_tree (fun w' => ∃ u:Held S,w'=u.val) 3 (by kernel_rfl) (by kernel_rfl) (held_some hS1) ?_
 (refine wpT_sea 0 ?_;intro K hK;go_big_quiet_op;go_big_quiet_on);(refine wpT_sea 1 ?_;intro K hK;go_big_quiet_op;go_big_quiet_on)
 refine wpT_loud 2 (by rfl) (by kernel_rfl) (by kernel_rfl) ?_
 intro KK hK
 go_wp2_with (go_at_call 11;refine (HTN.out _ (HW15.out.trans ((Below.refl _ _).drew.mono HW15.out.size))).mono ?_;rintro e w16 ⟨g11,g12,rfl,hp16,hj16,hb16'⟩)
 have hb16:Below w15.heap.size w15 w16:=(Below.refl _ _).drew.trans hb16'
 refine hK _ _ (held_some ((HS0.out _).2 hb16)) ?_
 clear hK KK hb16' q0 q1 q2 q3 hS1 hne e0 e1 x0 x1 hzx hze
 have HQ16:=hidP (eqNet_any (some ⟨g6,0,none⟩) (some ⟨g7,0,none⟩) (some ⟨g11,0,none⟩) (some ⟨g12,0,none⟩) ps.length js.length ps.length js.length ps js w16 (hp15.out.below hb16) (hj15.out.below hb16) hp16.out hj16.out)
 have HB16:=hidP hb16
 clear hb16 hp16 hj16
 refine wpT_done (by kernel_rfl) ?_
 go_upto_region 25 with (go_at_call 17;refine HQ16.out.mono ?_;rintro e w17 ⟨rfl,hb17⟩;have HB17:Hid (Below w15.heap.size w15 w17):=HB16.out.trans (hb17.mono HB16.out.size);clear hb17)
 have HW17:Hid (Below W.heap.size W w17):=HW15.out.trans (HB17.out.mono HW15.out.size)
 have hs17:=hidP (hs15.out.below HB17.out)
 have hr17:=hidP (hr15.out.below HB17.out)
 have ht17:=hidP (ht15.out.below HB17.out)
 go_upto_region 27 with (first
  | (go_at_call 12;refine (HTS.out _ HW17.out).mono ?_;rintro e w18 ⟨g13,rfl,hs18,hb18⟩;have HQ18:=hidP (eqSignalS_walk (some ⟨g8,0,none⟩) (some ⟨g13,0,none⟩) ss.length ss.length ss w18 (hs17.out.below hb18) hs18.out);have HB18:Hid (Below w17.heap.size w17 w18):=hb18;clear hb18)
  | (go_at_call 18;refine HQ18.out.mono ?_;rintro e w19 ⟨rfl,hb19⟩;have HB19:Hid (Below w17.heap.size w17 w19):=HB18.out.trans (hb19.mono HB18.out.size);clear hb19))
 have HW19:Hid (Below W.heap.size W w19):=HW17.out.trans (HB19.out.mono HW17.out.size)
 have hr19:=hidP (hr17.out.below HB19.out)
 have ht19:=hidP (ht17.out.below HB19.out)
 go_upto_region 29 with (first
  | (go_at_call 13;refine (HTR.out _ HW19.out).mono ?_;rintro e w20 ⟨g14,rfl,hr20,hb20⟩;have HQ20:=hidP (eqRouteS_walk (some ⟨g9,0,none⟩) (some ⟨g14,0,none⟩) rs.length rs.length rs w20 (hr19.out.below hb20) hr20.out);have HB20:Hid (Below w19.heap.size w19 w20):=hb20;clear hb20)
  | (go_at_call 19;refine HQ20.out.mono ?_;rintro e w21 ⟨rfl,hb21⟩;have HB21:Hid (Below w19.heap.size w19 w21):=HB20.out.trans (hb21.mono HB20.out.size);clear hb21))
 have HW21:Hid (Below W.heap.size W w21):=HW19.out.trans (HB21.out.mono HW19.out.size)
 have ht21:=hidP (ht19.out.below HB21.out)
 go_wp2_with (first
  | (go_at_call 24;refine (HTT.out _ HW21.out).mono ?_;rintro e w22 ⟨g15,rfl,ht22,hb22⟩;have HQ22:=hidP (eqIntS_walk (some ⟨g10,0,none⟩) (some ⟨g15,0,none⟩) ls.length ls.length ls w22 (ht21.out.below hb22) ht22.out);have HW22:Hid (Below W.heap.size W w22):=HW21.out.trans (hb22.mono HW21.out.size);clear hb22)
  | (go_at_call 26;refine HQ22.out.mono ?_;rintro e w23 ⟨rfl,hb23⟩;have HW23:Hid (Below W.heap.size W w23):=HW22.out.trans (hb23.mono HW22.out.size);clear hb23))
 go_ret
 exact ⟨rfl,HBW.out.trans (HW23.out.mono HBW.out.size)⟩
end Go.Proofs.YtmkdgnmmebldgabGreatDoor
namespace Go.Proofs.YtmkdgnmmebldgabGreatDoor
open Go.ChangeShapes Go.WideShapes Go.ChangeAt Go.RowKit Go.Deep
theorem Tryz.gPow : Tryz.prog.globalNamed "internal/strconv.uint64pow10" = some 1 := by kernel_rfl
theorem Tryz.gPowT:(Tryz.prog.globals[1]?).map (·.type)=some 361:=by kernel_rfl
theorem Tryz.cellsU64:Tryz.prog.cellsOf 215=1:=by kernel_rfl
theorem Tryz.cellsPow:Tryz.prog.cellsOf 361=20:=by kernel_rfl
theorem pow_laid:(Rows.laid_internal_strconv_uint64pow10:DataW Unit)=Lib.tabData .u64 Lib.pow10Tab:=by kernel_rfl
theorem tab_of_laid {W:World}(h:laidMetH Tryz.prog Rows.fnExactRouteAtRow.laid W):TabU W:=by
 have h':laidMet Tryz.prog Rows.fnExactRouteAtRow.laid W:=h
 have h2 : laidMet Tryz.prog [("internal/strconv.uint64pow10", Rows.laid_internal_strconv_uint64pow10)] W := h'.tail.tail
 rw [pow_laid] at h2
 exact Lib.tabIs_of_head Tryz.gPow Tryz.gPowT Tryz.underlying361 Tryz.underlying215 Tryz.cellsU64 Tryz.cellsPow h2
def tabCells:DataW Unit→Array Value
 | .agg l=>(l.map fun
  | .lit (.int k z)=>Value.int k z
  | _=>.nilIface).toArray
 | _=>#[]
def laidWorld (P : Program) (os : Os) : World :=
 let w0:=World.holding P os ⟨#[],#[],[]⟩
 let put:=fun (h:Array Obj) (g:Nat) (d:DataW Unit)=>h.modify g fun
   | .cells _ t frozen=>.cells (tabCells d) t frozen
   | o=>o
 { w0 with heap:=put (put (put w0.heap 1 Rows.laid_internal_strconv_uint64pow10) 2 Rows.laid_math_bits_deBruijn32tab) 3 Rows.laid_math_bits_deBruijn64tab }
theorem laidWorld_met (os:Os)(args:Array Value):laidMetH Tryz.prog Rows.fnExactRouteAtRow.laid ((laidWorld Tryz.prog os).forCall (fun _ _=>0) ⟨#[],args,[]⟩).memory:=
 laidMetH_of_parts (laidMet_of_run' 100 (by kernel_rfl) (by kernel_rfl)) (by kernel_rfl)
theorem routeAt_lifted (os:Os)(started:os.Started)(H:Type)(enc:TypeId × Value→H):
  ReturnsInHanded {} Tryz.checked os 5 .any (fun w args=>(Rows.fnExactRouteAtSpec.pre enc Tryz.prog Tryz.f5 [] false w args∧laidMetH Tryz.prog Rows.fnExactRouteAtRow.laid w)∧sizedMet enc Tryz.prog Tryz.f5 (OpenSpec.ofChange Rows.fnExactRouteAtSpec) false w args)
   (Rows.fnExactRouteAtSpec.post enc Tryz.prog Tryz.f5 false true false false):=by
 refine returnsInHanded_of_change_and (C:=Tryz.checked) (X:=fun w _=>laidMetH Tryz.prog Rows.fnExactRouteAtRow.laid w) (fun _ _ _ hh h=>h.of_heap hh) ownSig started (by kernel_rfl) Tryz.func5
  (ChangeSpec.witness_at (enc:=enc) (C:=Tryz.checked) (os:=os) (X:=fun w _=>laidMetH Tryz.prog Rows.fnExactRouteAtRow.laid w) false (laidWorld Tryz.prog os) #[.agg #[.slice none 0 0,.slice none 0 0],.slice none 0 0,.slice none 0 0,.string ⟨#[]⟩,.slice none 0 0] 8 rfl (by kernel_rfl) (by kernel_rfl) (by kernel_rfl) (by kernel_rfl) (by kernel_rfl) (laidWorld_met os _)) ?_
 intro W base args ds gs before hval0 hW _ _ hL _
 have hval:∀ (j:Nat) t v,Tryz.f5.params[j]? = some t→args[j]? = some v→Value.okWide Tryz.prog W .any base t v:=hval0
 have hW':=hW
 obtain ⟨p,q,hA0,hV,rfl,hfz,hnd⟩:=hW
 have hA:DataW.TrodAll enc Tryz.prog W 0 (fun _=>true) true Tryz.f5.params.toList args.toList ds p:=hA0
 rw [Tryz.params5] at hA hval
 obtain ⟨v0,vs0,d0,ds0,p0,q0,hargs,rfl,rfl,h0,r0⟩:=trodAll_cons hA
 obtain ⟨v1,vs1,d1,ds1,p1,q1,rfl,rfl,rfl,h1,r1⟩:=trodAll_cons r0
 obtain ⟨v2,vs2,d2,ds2,p2,q2,rfl,rfl,rfl,h2,r2⟩:=trodAll_cons r1
 obtain ⟨v3,vs3,d3,ds3,p3,q3,rfl,rfl,rfl,h3,r3⟩:=trodAll_cons r2
 obtain ⟨v4,vs4,d4,ds4,p4,q4,rfl,rfl,rfl,h4,r4⟩:=trodAll_cons r3
 obtain ⟨rfl,rfl,rfl⟩:=trodAll_nil r4
 obtain rfl:args = #[v0,v1,v2,v3,v4]:=by cases args;simp_all
 obtain ⟨rfl,rfl⟩:=trodVars_none hV
 have k0:=h0
 have lt0:∀ x ∈ p0,x.block<W.heap.size:=by obtain ⟨m,hm⟩:=k0;exact DataW.trod_lt m _ _ _ hm
 have k1:=h1
 have lt1:∀ x ∈ p1,x.block<W.heap.size:=by obtain ⟨m,hm⟩:=k1;exact DataW.trod_lt m _ _ _ hm
 have k2:=h2
 have lt2:∀ x ∈ p2,x.block<W.heap.size:=by obtain ⟨m,hm⟩:=k2;exact DataW.trod_lt m _ _ _ hm
 have k3:=h3
 have lt3:∀ x ∈ p3,x.block<W.heap.size:=by obtain ⟨m,hm⟩:=k3;exact DataW.trod_lt m _ _ _ hm
 have k4:=h4
 have lt4:∀ x ∈ p4,x.block<W.heap.size:=by obtain ⟨m,hm⟩:=k4;exact DataW.trod_lt m _ _ _ hm
 obtain ⟨pa,pc,ps,ja,jc,js,hv0,hpp,hjj⟩:∃ (pa:Option Addr) (pc:Nat) (ps:List MPiece) (ja:Option Addr) (jc:Nat) (js:List MJoint),v0 = .agg #[.slice pa ps.length pc,.slice ja js.length jc]∧PiecesAt W pa ps∧JointsAt W ja js:=by
  obtain ⟨c0,c1,y0,y1,m,e0,_,_,t0,t1⟩:=Joins.open_agg2 Tryz.underlying25 (by kernel_rfl) cellsLNetSig (hval 0 25 v0 rfl rfl) h0
  obtain ⟨pa,pc,ps,f0,hpp⟩:=open_pieces t0
  obtain ⟨ja,jc,js,f1,hjj⟩:=open_joints t1
  simp at f0 f1
  subst f0 f1
  exact ⟨pa,pc,ps,ja,jc,js,e0,hpp,hjj⟩
 subst hv0
 obtain ⟨sa,sc,ss,hv1,hss⟩:∃ (sa:Option Addr) (sc:Nat) (ss:List MPiece),v1 = .slice sa ss.length sc∧PiecesAt W sa ss:=by
  obtain ⟨sa,len,sc,rfl⟩:=okWide_slice Tryz.underlying26 (hval 1 26 v1 rfl rfl)
  obtain ⟨fuel,hf⟩:=h1
  obtain ⟨a,cap,ss,e,hss⟩:=open_signals hf
  simp [Value.cells] at e
  obtain ⟨rfl,rfl,rfl⟩:=e
  exact ⟨_,_,ss,rfl,hss⟩
 subst hv1
 obtain ⟨ra,rc,rs,hv2,hrs⟩:∃ (ra:Option Addr) (rc:Nat) (rs:List MRoute),v2 = .slice ra rs.length rc∧RoutesAt W ra rs:=by
  obtain ⟨sa,len,sc,rfl⟩:=okWide_slice Tryz.underlying27 (hval 2 27 v2 rfl rfl)
  obtain ⟨fuel,hf⟩:=h2
  obtain ⟨a,cap,rs,e,hrs⟩:=openRoutesC hf
  simp [Value.cells] at e
  obtain ⟨rfl,rfl,rfl⟩:=e
  exact ⟨_,_,rs,rfl,hrs⟩
 subst hv2
 obtain ⟨fr,hv3,hfr⟩:∃ s:ByteArray,v3 = .string s∧s.size≤maxLen:=by
  obtain ⟨s,rfl⟩:=okWide_string Tryz.underlying9 (hval 3 9 v3 rfl rfl)
  obtain ⟨fuel,hf⟩:=h3
  obtain ⟨s',e,_,hs⟩:=DataW.trod_string Tryz.underlying9 hf
  simp [Value.cells] at e
  subst e
  exact ⟨_,rfl,hs⟩
 subst hv3
 obtain ⟨la,lc,ls,hv4,hls⟩:∃ (la:Option Addr) (lc:Nat) (ls:List Int),v4 = .slice la ls.length lc∧NumsAt W la ls:=by
  obtain ⟨sa,len,sc,rfl⟩:=okWide_slice Tryz.underlying54 (hval 4 54 v4 rfl rfl)
  obtain ⟨fuel,hf⟩:=h4
  obtain ⟨a,cap,ls,e,hls⟩:=openIntS hf
  simp [Value.cells] at e
  obtain ⟨rfl,rfl,rfl⟩:=e
  exact ⟨_,_,ls,rfl,hls⟩
 subst hv4
 clear hA0 hval0
 refine (lawRouteAt_any pa ja sa ra la pc jc sc rc lc ps js ss rs fr ls W hpp hjj hss hrs hls hfr (tab_of_laid hL)).mono fun e W' ⟨he,bel⟩=>?_
 subst he
 exact ⟨_,rfl,_,_,_,[],_,[],hW',trodAll_mk1 (shut_bool Tryz.underlying4 _),(trodAll_cons_mk (Below.trod Tryz.laidOutB (by kernel_rfl) (of_decide_eq_true (by kernel_rfl)) k0 bel lt0) (trodAll_cons_mk (Below.trod Tryz.laidOutB (by kernel_rfl) (of_decide_eq_true (by kernel_rfl)) k1 bel lt1) (trodAll_cons_mk (Below.trod Tryz.laidOutB (by kernel_rfl) (of_decide_eq_true (by kernel_rfl)) k2 bel lt2) (trodAll_cons_mk (Below.trod Tryz.laidOutB (by kernel_rfl) (of_decide_eq_true (by kernel_rfl)) k3 bel lt3) (trodAll_cons_mk (Below.trod Tryz.laidOutB (by kernel_rfl) (of_decide_eq_true (by kernel_rfl)) k4 bel lt4) trodAll_mk0))))),rfl,bel.frame _,fun h=>by cases h⟩
theorem routeAt_holds:Rows.FnExactRouteAtSaid:=
 OpenClaim.holds_of_wide 5 Tryz.f5 rfl rfl rfl rfl rfl rfl rfl ⟨rfl,rfl,rfl,rfl,rfl⟩ rfl rfl rfl rfl rfl (by kernel_rfl) Tryz.func5 (by kernel_rfl)
  (of_decide_eq_true (by kernel_rfl)) (by unfold Func.isWrapper;first | (rw [if_pos (by decide +kernel)];kernel_rfl) | (rw [if_neg (by decide +kernel)];exact ⟨rfl,rfl⟩))
  (fun os started H enc _=>routeAt_lifted os started H enc)
theorem routeAt_card:Rows.FnExactRouteAtCardSaid:=
 Claim7.holds_tied_plain_at .later [] [.data,.data,.data] true _ true
  routeAt_holds (fun _ h=>by cases h) (by kernel_rfl) (fun _ h=>by cases h) fnExactRouteAt_row_tie rfl ⟨rfl,rfl⟩ (by kernel_rfl) rfl
  (fun f fn hf hfn=>by
   obtain rfl : f = 5 := Option.some.inj ((show Tryz.prog.funcNamed "loop.example/lockbar/laws.FnExactRouteAt" = some 5 by kernel_rfl).symm.trans hf) |>.symm
   obtain rfl:fn=Tryz.f5:=(Option.some.inj (Tryz.func5.symm.trans hfn)).symm
   exact ⟨by kernel_rfl,fun j t ht=>by
    rw [Tryz.params5] at ht
    have h3:t=25∨t=26∨t=27∨t=9∨t=54:=by
     rcases j with _ | _ | _ | _ | _ | j
     ·exact Or.inl (by simpa using ht.symm)
     ·exact Or.inr (Or.inl (by simpa using ht.symm))
     ·exact Or.inr (Or.inr (Or.inl (by simpa using ht.symm)))
     ·exact Or.inr (Or.inr (Or.inr (Or.inl (by simpa using ht.symm))))
     ·exact Or.inr (Or.inr (Or.inr (Or.inr (by simpa using ht.symm))))
     ·simp at ht
    rcases h3 with rfl | rfl | rfl | rfl | rfl
    ·exact (show Tryz.prog.wantsStandIn 25=false by kernel_rfl)
    ·exact (show Tryz.prog.wantsStandIn 26=false by kernel_rfl)
    ·exact (show Tryz.prog.wantsStandIn 27=false by kernel_rfl)
    ·exact (show Tryz.prog.wantsStandIn 9=false by kernel_rfl)
    ·exact (show Tryz.prog.wantsStandIn 54=false by kernel_rfl)⟩)
  (by kernel_rfl)
#print axioms routeAt_card
end Go.Proofs.YtmkdgnmmebldgabGreatDoor
