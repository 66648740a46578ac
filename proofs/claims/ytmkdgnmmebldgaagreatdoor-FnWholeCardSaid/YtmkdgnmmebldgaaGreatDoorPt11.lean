import Derived.Test.YtmkdgnmmebldgaaGreatDoorPt6
import Derived.Test.YtmkdgnmmebldgaaGreatDoorPt10
set_option maxRecDepth 100000
set_option maxHeartbeats 8000000
namespace Go.Proofs.YtmkdgnmmebldgaaGreatDoor
open Go.RowKit Go.Deep
theorem behindF_0 {ps:List MPiece}{js:List MJoint}{n:Nat}{s:MStep}{pos left:Int}(h:left≤0):behindF ps js n s pos left=[]:=by
 cases n with
 | zero=>rfl
 | succ n=>simp only [behindF,if_pos h]
theorem part_eq {ps:List MPiece}{p:Nat}{way pos left:Int}(hp:p<ps.length)(hw:way=1∨way = -1)(h0:0≤pos)(h1:pos≤ps[p].len)(hl:0≤left):
  specPart ps p way (farI ps p pos way) (min (farI ps p pos way+left) ps[p].len)=partI p pos (pos+min left ((endAt ps (aheadE ⟨p,way⟩)-pos)*way)*way) ∧
  min (farI ps p pos way+left) ps[p].len-farI ps p pos way=min left ((endAt ps (aheadE ⟨p,way⟩)-pos)*way):=by
 have hL:=lenI_at hp
 rcases hw with rfl | rfl
 ·simp only [specPart,farI,partI,endAt,aheadE,if_true,hL,Int.mul_one]
  have e:¬ ((1:Int) = -1):=by omega
  have e2:¬ ((1:Int)=0):=by omega
  rw [if_neg e,if_neg e2]
  refine ⟨?_,by omega⟩
  congr 1 <;> omega
 ·have e:¬ ((-1:Int)=1):=by omega
  simp only [specPart,farI,partI,endAt,aheadE,if_true,if_neg e,hL]
  refine ⟨?_,by omega⟩
  congr 1 <;> omega
structure FNet (w:World)(F:Nat)(pa ja sa:Option Addr)(pc jc sc:Nat)(ps:List MPiece)(js:List MJoint)(ss:List MPiece)(over:Int):Prop where
 c0:w.cell? ⟨F,0,none⟩=some (.slice pa ps.length pc)
 c1:w.cell? ⟨F,1,none⟩=some (.slice ja js.length jc)
 c2:w.cell? ⟨F,2,none⟩=some (.slice sa ss.length sc)
 c3:w.cell? ⟨F,3,none⟩=some (.int .i64 over)
 P:PiecesAt w pa ps
 J:JointsAt w ja js
 S:PiecesAt w sa ss
theorem FNet.below {w w':World}{F:Nat}{pa ja sa:Option Addr}{pc jc sc:Nat}{ps:List MPiece}{js:List MJoint}{ss:List MPiece}{over:Int}(h:FNet w F pa ja sa pc jc sc ps js ss over)(hb:Below w.heap.size w w'):FNet w' F pa ja sa pc jc sc ps js ss over:=
 ⟨cell_later hb h.c0,cell_later hb h.c1,cell_later hb h.c2,cell_later hb h.c3,h.P.below hb,h.J.below hb,h.S.below hb⟩
theorem flatP_push (ps:List MPart)(p:MPart):flatP ps++[.int .i64 p.piece,.int .i64 p.lo,.int .i64 p.hi]=flatP (ps++[p]):=by
 rw [flatP_snoc]
 rfl
theorem beyond_any (F:Nat)(pa ja sa:Option Addr)(pc jc sc:Nat)(ps:List MPiece)(js:List MJoint)(ss:List MPiece)(over:Int)(R:Hid (Right ps js ss))(p0:Nat)(way0 pos0:Int)(w:World)(hF:Hid (FNet w F pa ja sa pc jc sc ps js ss over))
  (hp0:p0<ps.length) (hw0:way0=1∨way0 = -1) (hs0:0<pos0) (hs1:pos0<ps[p0].len) (ho0:0≤over) (ho1:over≤100000) :
  Calls Tryz.prog 77 #[.pointer (some ⟨F,0,none⟩),.int .i64 p0,.int .i64 way0,.int .i64 (farI ps p0 pos0 way0)] w fun e w' => ∃ x y,e = .returned (.slice x (behindF ps js (over.toNat+1) ⟨p0,way0⟩ pos0 over).length y)∧w'.ownsRow w.heap.size 48 3 (.slice x (behindF ps js (over.toNat+1) ⟨p0,way0⟩ pos0 over).length y) (behindF ps js (over.toNat+1) ⟨p0,way0⟩ pos0 over).length (flatP (behindF ps js (over.toNat+1) ⟨p0,way0⟩ pos0 over))∧Below w.heap.size w w':=by
 have hpl:=hF.out.P.1
 have hjl:=hF.out.J.1
 have hFz:=cellLt hF.out.c3
 have hc3:=hF.out.c3
 unfold maxLen at hpl hjl
 have HFAR0:Hid (farI ps p0 pos0 way0<ps[p0].len∧0≤farI ps p0 pos0 way0):=by
  unfold Hid farI
  rw [lenI_at hp0]
  split <;> omega
 obtain ⟨tot,htot⟩:∃ tot,behindF ps js (over.toNat+1) ⟨p0,way0⟩ pos0 over=tot:=⟨_,rfl⟩
 rw [htot]
 have HTOT:=hidP htot
 have HW0:=hidP hw0
 clear htot hw0
 go_enter Tryz.func77,Tryz.ntmps77
 go_wp2_with fail
 clear hc3
 go_loopw [1,2,3,9,10] (fun a1 a2 a3 v l wr => ∃ (p:Nat) (hp:p<ps.length) (way pos lf:Int) (n:Nat) (acc:List MPart) (x:Option Addr) (y:Nat),a1 = .int .i64 p∧a2 = .int .i64 way∧a3 = .int .i64 (farI ps p pos way)∧l = .int .i64 lf∧v = .slice x acc.length y∧Hid (way=1∨way = -1)∧Hid (0≤pos∧pos≤ps[p].len∧farI ps p pos way<ps[p].len∧0≤farI ps p pos way)∧0≤lf∧(acc.length:Int)+lf≤100000∧lf.toNat<n ∧
  Hid (wr.ownsRow w.heap.size 48 3 (.slice x acc.length y) acc.length (flatP acc))∧Hid (tot=acc++behindF ps js n ⟨p,way⟩ pos lf)∧Below w.heap.size w wr) (fun _ _ _ _ l _=>(intOf l).toNat)
 case atStart=>exact ⟨p0,hp0,way0,pos0,over,over.toNat+1,[],none,0,rfl,rfl,rfl,rfl,rfl,HW0,⟨by omega,by omega,HFAR0.out.1,HFAR0.out.2⟩,ho0,by simpa using ho1,by omega,World.ownsRow_nil _ _ _ _,HTOT.out.symm,Below.refl _ _⟩
 case round =>
  obtain ⟨p,hp,way,pos,lf,n,acc,x,y,rfl,rfl,rfl,rfl,rfl,HW,HPOS,hlf0,hlf1,hn,HO,HT,hb⟩:=hrel
  have hbs:=hb.size
  by_cases hl:0<lf
  ·have HF2:=hidP (hF.out.below hb)
   have hFz':=Nat.lt_of_lt_of_le hFz hb.size
   obtain ⟨hL1,hL2⟩:=R.out.plen p hp
   have HPE:=hidP (part_eq (ps:=ps) (left:=lf) hp HW.out HPOS.out.1 HPOS.out.2.1 hlf0)
   obtain ⟨far,hfar⟩:∃ far,farI ps p pos way=far:=⟨_,rfl⟩
   have HFAR:=hidP hfar
   have hfb:far<ps[p].len∧0≤far:=by rw [← hfar];exact ⟨HPOS.out.2.2.1,HPOS.out.2.2.2⟩
   obtain ⟨hfb1,hfb2⟩:=hfb
   rw [hfar]
   clear hfar
   obtain ⟨b1,off1,rfl,hpc⟩:=HF2.out.P.2.2.resolve_left (nz hp)
   obtain ⟨_,q2,_,_⟩:=hpc p hp
   have f0:=HF2.out.c0
   have f1:=HF2.out.c1
   have hz2:=cellLt q2
   clear hpc
   obtain ⟨en,hen⟩:∃ en,min (far+lf) ps[p].len=en:=⟨_,rfl⟩
   have HEN:=hidP hen
   have he1:far<en∧en≤ps[p].len∧en≤far+lf:=by omega
   obtain ⟨he1,he2,he3⟩:=he1
   clear hen
   by_cases hcmp:ps[p].len<far+lf
   ·have henL:Hid (en=ps[p].len):=by have:=HEN.out;unfold Hid;omega
    go_wp2_with fail
    refine (l2part_any _ _ _ _ _ ps p way far (ps[p].len) _ (HF2.out.P.below blo) hp ⟨hL1,hL2⟩ (by omega) (by omega) (by omega) (by omega)).mono ?_
    rintro e w2 ⟨rfl,hb2⟩
    obtain ⟨pt,hpt⟩:∃ pt,specPart ps p way far (ps[p].len)=pt:=⟨_,rfl⟩
    rw [hpt]
    have HPT:=hidP hpt
    have HO2:=hidP (owns_below HO.out hb2)
    have hb3:=hb.trans (hb2.mono hb.size)
    have hbs3:=hb3.size
    have g0:=cell_later hb2 f0
    have g1:=cell_later hb2 f1
    have hzz:=hb2.size
    unfold partV
    clear hpt hb2 q2 f0 f1
    go_wp2_with (at_builtin;refine wpList_push rfl (.tmp 47) (.tmp 57) 41 rfl w.heap.size 48 _ 3 24 Tryz.underlying41 Tryz.infoPart rfl (by decide) (.slice x acc.length y) acc.length (flatP acc) rfl HO2.out w2.heap.size rfl [.int .i64 pt.piece,.int .i64 pt.lo,.int .i64 pt.hi] rfl rfl (by simp [Value.oneCell']) (by unfold maxLen;omega) (by omega) (by omega) ?_;intro x' y' w3 ho3 hg3;rw [flatP_push] at ho3;have HO3:=hidP ho3;have hb4:=push_below hb3 HO2.out hg3 (by omega);have HBX:=hidP hg3;clear ho3 hg3)
    have hneF:some F≠(Value.slice x acc.length y).ownBlock:=fun e=>by have:=(HO2.out.lt F e.symm).1;omega
    have k0:=HBX.out.cell g0 hneF
    have k1:=HBX.out.cell g1 hneF
    have hbs4:=hb4.size
    have hFz4:F<w3.heap.size:=by omega
    have HF4:=hidP (hF.out.below hb4)
    clear hneF HBX g0 g1 hb3 hbs3 HO2 HF2
    obtain ⟨ji,ki,hsp,hse⟩:=R.out.spot (aheadE_valid (ps:=ps) (s:=⟨p,way⟩) ⟨p,hp,rfl,HW.out⟩)
    have HSP:=hidP hsp
    have HSE:=hidP hse
    clear hsp hse
    go_region_held3 (fun w'=>w'.cell? ⟨F,0,none⟩=some (.slice (some ⟨b1,off1,none⟩) ps.length pc)∧w'.cell? ⟨F,1,none⟩=some (.slice ja js.length jc)) (first | go_keep | (refine ⟨?_,?_⟩ <;> assumption))
     (first
      | (go_at_call 47;refine (l2head_any p way _).mono ?_;rintro e w5 ⟨rfl,hb5⟩;have hb35:Below w3.heap.size w3 w5:=(Below.refl _ _).drew.trans hb5;replace k0:=cell_later hb35 k0;replace k1:=cell_later hb35 k1;have HB5:=hidP hb35;clear hb5 hb35)
      | (go_at_call 46;refine (l1at_any _ _ _ _ _ js _ ji ki _ (HF4.out.J.below HB5.out) HSP).mono ?_;rintro e w6 ⟨rfl,hb6⟩;replace k0:=cell_later hb6 k0;replace k1:=cell_later hb6 k1;have HB6:=hidP (HB5.out.trans (hb6.mono HB5.out.size));clear hb6))
    all_goals
     have hb7:=hb4.trans (HB6.out.mono hb4.size)
     have HO7:=hidP (owns_below HO3.out HB6.out)
     have HF7:=hidP (HF4.out.below HB6.out)
     have hbs7:=hb7.size
     have hFz7:F<w6.heap.size:=by omega
     clear HB5 HB6 HF4 HO3 hb4
     have hl':0<lf-(ps[p].len-far):=by omega
     obtain ⟨_,hji,hki,hend,_,_⟩:=spotF_some HSP.out
     simp only [Nat.sub_zero] at hji hki hend
     obtain ⟨hk1,hk2,hk3⟩:=R.out.kind ji hji
     obtain ⟨b3,off3,rfl,hjc⟩:=HF7.out.J.2.2.resolve_left (nz hji)
     obtain ⟨c1,_,ea,ec,c3,c4⟩:=hjc ji hji
     have C4:=hidP c4
     have hz3:=cellLt c1
     clear hjc c4
     have HX1:Hid (tot=acc++([pt]++(if js[ji].kind=2 then behindF ps js (n-1) (stepFromE (endE js ji (1-ki))) (endAt ps (endE js ji (1-ki))) (lf-(ps[p].len-far)) else []))):=by
      have h1:=HT.out
      have h2:=HPE.out
      rw [HFAR.out,HEN.out,henL.out,HPT.out] at h2
      obtain ⟨n',rfl⟩:∃ n',n=n'+1:=⟨n-1,by omega⟩
      unfold Hid
      rw [h1,behindF,if_neg (by omega),← h2.1,← h2.2,HSE.out,kindE_at hji]
      rfl
     by_cases hK:js[ji].kind=2
     ·have hkb:(js[ji].kind != 2)=false:=by simp [hK]
      rw [if_pos hK] at HX1
      have hel:js[ji].ends.length=2:=by omega
      obtain ⟨b4,off4,rfl,hec⟩:=C4.out.2.resolve_left (nz hki)
      have hk01:ki=0∨ki=1:=by omega
      have hcase:∃ kk:Nat,kk<2∧1-ki=kk∧((1:Int)-(ki:Int))=(kk:Int):=⟨1-ki,by omega,rfl,by omega⟩
      obtain ⟨kk,hkk1,hkk2,hkk3⟩:=hcase
      have hkl:kk<js[ji].ends.length:=by omega
      obtain ⟨d0,d1⟩:=hec kk hkl
      obtain ⟨p',hp',he1,he2⟩:=R.out.ends ji hji kk hkl
      obtain ⟨hM1,hM2⟩:=R.out.plen p' hp'
      have HEE:Hid (endE js ji (1-ki)=js[ji].ends[kk]):=by unfold Hid;rw [hkk2,endE_at hji hkl]
      rw [he1] at d0
      have hzz4:=cellLt d0
      have hel':(js[ji].ends.length:Int)=2:=by omega
      have HLN:Hid ((acc++[pt]).length=acc.length+1):=by unfold Hid;simp
      have HKK:=hidP hkk3
      clear hec hkk2 hkk1 HPT HPE HEN
      rcases he2 with hs | hs
      ·rw [hs] at d1
       have HST:Hid (stepFromE (endE js ji (1-ki))=⟨p',1⟩∧endAt ps (endE js ji (1-ki))=0):=by
        unfold Hid
        rw [HEE.out]
        unfold stepFromE endAt
        rw [if_pos hs,if_pos hs,he1]
        exact ⟨rfl,rfl⟩
       clear he1 hs
       go_wp2_with fail
       go_roundw
       case rel =>
        refine ⟨p',hp',1,0,lf-(ps[p].len-far),n-1,acc++[pt],x',y',by first | rfl | go_num,rfl,by simp [farI],rfl,by rw [HLN.out],Or.inl rfl,⟨by omega,by omega,by simp only [farI,if_true];omega,by simp [farI]⟩,by omega,?_,by omega,by rw [HLN.out];exact HO7.out.alloc _,?_,blo⟩
        ·rw [HLN.out];omega
        ·have h:=HX1.out
         rw [HST.out.1,HST.out.2] at h
         unfold Hid
         rw [h,List.append_assoc]
       case measure=>simp [intOf];omega
      ·rw [hs] at d1
       have HST:Hid (stepFromE (endE js ji (1-ki))=⟨p',-1⟩∧endAt ps (endE js ji (1-ki))=ps[p'].len):=by
        unfold Hid
        rw [HEE.out]
        unfold stepFromE endAt
        rw [if_neg (by rw [hs];omega),if_neg (by rw [hs];omega),he1,lenI_at hp']
        exact ⟨rfl,rfl⟩
       clear he1 hs
       go_wp2_with fail
       go_roundw
       case rel =>
        refine ⟨p',hp',-1,ps[p'].len,lf-(ps[p].len-far),n-1,acc++[pt],x',y',by first | rfl | go_num,rfl,by simp [farI,lenI_at hp'],rfl,by rw [HLN.out],Or.inr rfl,⟨by omega,by omega,by simp [farI,lenI_at hp'];omega,by simp [farI,lenI_at hp']⟩,by omega,?_,by omega,by rw [HLN.out];exact HO7.out.alloc _,?_,blo⟩
        ·rw [HLN.out];omega
        ·have h:=HX1.out
         rw [HST.out.1,HST.out.2] at h
         unfold Hid
         rw [h,List.append_assoc]
       case measure=>simp [intOf];omega
     ·have hkb:(js[ji].kind != 2)=true:=by simp [hK]
      rw [if_neg hK,List.append_nil] at HX1
      obtain rfl:=HX1.out
      clear hK
      go_wp2_with fail
      go_ret
      exact ⟨x',y',by simp,by simpa using HO7.out,hb7⟩
   ·have henL:Hid (en=far+lf):=by have:=HEN.out;unfold Hid;omega
    go_wp2_with fail
    refine (l2part_any _ _ _ _ _ ps p way far (far+lf) _ (HF2.out.P.below blo) hp ⟨hL1,hL2⟩ (by omega) (by omega) (by omega) (by omega)).mono ?_
    rintro e w2 ⟨rfl,hb2⟩
    obtain ⟨pt,hpt⟩:∃ pt,specPart ps p way far (far+lf)=pt:=⟨_,rfl⟩
    rw [hpt]
    have HPT:=hidP hpt
    have HO2:=hidP (owns_below HO.out hb2)
    have hb3:=hb.trans (hb2.mono hb.size)
    have hbs3:=hb3.size
    have g0:=cell_later hb2 f0
    have g1:=cell_later hb2 f1
    have hzz:=hb2.size
    unfold partV
    clear hpt hb2 q2 f0 f1
    go_wp2_with (at_builtin;refine wpList_push rfl (.tmp 47) (.tmp 57) 41 rfl w.heap.size 48 _ 3 24 Tryz.underlying41 Tryz.infoPart rfl (by decide) (.slice x acc.length y) acc.length (flatP acc) rfl HO2.out w2.heap.size rfl [.int .i64 pt.piece,.int .i64 pt.lo,.int .i64 pt.hi] rfl rfl (by simp [Value.oneCell']) (by unfold maxLen;omega) (by omega) (by omega) ?_;intro x' y' w3 ho3 hg3;rw [flatP_push] at ho3;have HO3:=hidP ho3;have hb4:=push_below hb3 HO2.out hg3 (by omega);have HBX:=hidP hg3;clear ho3 hg3)
    have hneF:some F≠(Value.slice x acc.length y).ownBlock:=fun e=>by have:=(HO2.out.lt F e.symm).1;omega
    have k0:=HBX.out.cell g0 hneF
    have k1:=HBX.out.cell g1 hneF
    have hbs4:=hb4.size
    have hFz4:F<w3.heap.size:=by omega
    have HF4:=hidP (hF.out.below hb4)
    clear hneF HBX g0 g1 hb3 hbs3 HO2 HF2
    obtain ⟨ji,ki,hsp,hse⟩:=R.out.spot (aheadE_valid (ps:=ps) (s:=⟨p,way⟩) ⟨p,hp,rfl,HW.out⟩)
    have HSP:=hidP hsp
    have HSE:=hidP hse
    clear hsp hse
    go_region_held3 (fun w'=>w'.cell? ⟨F,0,none⟩=some (.slice (some ⟨b1,off1,none⟩) ps.length pc)∧w'.cell? ⟨F,1,none⟩=some (.slice ja js.length jc)) (first | go_keep | (refine ⟨?_,?_⟩ <;> assumption))
     (first
      | (go_at_call 47;refine (l2head_any p way _).mono ?_;rintro e w5 ⟨rfl,hb5⟩;have hb35:Below w3.heap.size w3 w5:=(Below.refl _ _).drew.trans hb5;replace k0:=cell_later hb35 k0;replace k1:=cell_later hb35 k1;have HB5:=hidP hb35;clear hb5 hb35)
      | (go_at_call 46;refine (l1at_any _ _ _ _ _ js _ ji ki _ (HF4.out.J.below HB5.out) HSP).mono ?_;rintro e w6 ⟨rfl,hb6⟩;replace k0:=cell_later hb6 k0;replace k1:=cell_later hb6 k1;have HB6:=hidP (HB5.out.trans (hb6.mono HB5.out.size));clear hb6))
    all_goals
     have hb7:=hb4.trans (HB6.out.mono hb4.size)
     have HO7:=hidP (owns_below HO3.out HB6.out)
     have HF7:=hidP (HF4.out.below HB6.out)
     have hbs7:=hb7.size
     have hFz7:F<w6.heap.size:=by omega
     clear HB5 HB6 HF4 HO3 hb4
     have HX:Hid (tot=acc++[pt]):=by
      have h1:=HT.out
      have h2:=HPE.out
      rw [HFAR.out,HEN.out,henL.out,HPT.out] at h2
      obtain ⟨n',rfl⟩:∃ n',n=n'+1:=⟨n-1,by omega⟩
      rw [h1,behindF,if_neg (by omega),← h2.1,← h2.2]
      congr 2
      split
      ·exact behindF_0 (by omega)
      ·rfl
     have hll:lf-(far+lf-far)=0:=by omega
     rw [hll]
     obtain rfl:=HX.out
     go_wp2_with fail
     go_ret
     exact ⟨x',y',by simp,by simpa using HO7.out,hb7⟩
  ·have HX:Hid (tot=acc):=by have:=HT.out;rw [behindF_0 (by omega),List.append_nil] at this;exact this
   obtain rfl:=HX.out
   go_wp2_with fail
   go_ret
   exact ⟨x,y,rfl,HO.out,hb⟩
end Go.Proofs.YtmkdgnmmebldgaaGreatDoor
