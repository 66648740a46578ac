import Derived.Test.YtmkdgnmmebldgaaGreatDoorPt25
import Derived.Test.YtmkdgnmmebldgaaGreatDoorPt18
import Derived.Deep.RegionLaw
set_option maxRecDepth 100000
set_option maxHeartbeats 8000000
namespace Go.Proofs.YtmkdgnmmebldgaaGreatDoor
open Go.RowKit Go.Deep
theorem walk_on (w0:World)(F:Nat)(pa ja sa:Option Addr)(pc jc sc:Nat)(ps:List MPiece)(js:List MJoint)(ss:List MPiece)(over:Int)(n:Nat)(R:Hid (Right ps js ss))(HP:Hid (PiecesAt w0 pa ps))(HJ:Hid (JointsAt w0 ja js))(HS:Hid (PiecesAt w0 sa ss))(_ho0:0≤over)(_ho1:over≤100000)
  (hfl:Hid (∀ (B Q:Nat) (la:Option Addr) (lc:Nat) (lies:List MLie) (pl:Int) (n:Nat),LB w0 B F Q pa ja sa la ps js ss lies→LookSpec w0 B F Q pa ja sa la pc jc sc lc ps js ss lies pl n))
  (ih:Hid (WalkSpec w0 F pa ja sa pc jc sc ps js ss over n))
  (a0:Option Addr) (k0:Nat) (a1:Option Addr) (k1:Nat) (a2:Option Addr) (k2:Nat) (a3:Option Addr) (k3:Nat) (i:Nat) (pre:List MStep) (p:Nat) (way:Int) (lies:List MLie) (crosses:List Int) (pos:Int) (xo:Option Addr) (yo t:Nat) (pr:List (RAddr × MRoute)) (w:World) (ok:Hid (WalkOk ps js ss i pre ⟨p,way⟩ lies crosses pos)) (hn:Hid (n+1+pre.length=2*ps.length+2))
  (hs:Hid (WS w0 w F pa ja sa pc jc sc ps.length js.length ss.length over xo yo t pr)) (hk:Hid (RKeep w F ⟨a0,k0,a1,k1,a2,k2,a3,k3,none,0,none,0⟩ (walkR ps ss i pre lies crosses))) (hnil:Hid (NilR ⟨a0,k0,a1,k1,a2,k2,a3,k3,none,0,none,0⟩ (walkR ps ss i pre lies crosses))) (ht:t≤100000) (hpr:pr.length≤301)
  (HLIM:Hid (pr.length≤300∧t+1≤20000)) (HNBN:Hid (nextB ss p way pos ss.length<0)) (HNOT:Hid ((⟨(p:Int),way⟩:MStep) ∉ pre)) :
  Calls Tryz.prog 35 #[.pointer (some ⟨F,0,none⟩),.agg #[.int .i64 i,.int .i64 0,.slice a0 pre.length k0,.slice a1 lies.length k1,.slice a2 crosses.length k2,.slice a3 pre.length k3,.slice none 0 0,.slice none 0 0],.int .i64 p,.int .i64 way,.int .i64 (farI ps p pos way)] w (WalkPost w0 w F pa ja sa pc jc sc ps js ss over (n+1) t (.slice xo pr.length yo) (pr.map Prod.snd) (evs ps js ss (n+1) (pathOf i (pre++[⟨p,way⟩]) lies crosses) pos)):=by
 have c0:=hs.out.c0
 have c1:=hs.out.c1
 have c2:=hs.out.c2
 have c4:=hs.out.c4
 have c5:=hs.out.c5
 have z5:=hs.out.z5
 have hFw:=hs.out.lt
 obtain ⟨far,hfar⟩:∃ far,farI ps p pos way=far:=⟨_,rfl⟩
 rw [hfar]
 have HFAR:=hidP hfar
 clear hfar
 obtain ⟨pl,hpl⟩:∃ pl,fullParts ps (sigAt ss i) pre=pl:=⟨_,rfl⟩
 have HPL:=hidP hpl
 have hpll:pl.length=pre.length:=by rw [← hpl];exact fullParts_len _ _ _
 have HPL2:=hidP hpll
 have hag:(Value.agg #[.int .i64 i,.int .i64 0,.slice a0 pre.length k0,.slice a1 lies.length k1,.slice a2 crosses.length k2,.slice a3 pre.length k3,.slice none 0 0,.slice none 0 0]) = .agg #[.int .i64 i,.int .i64 0,.slice a0 pre.length k0,.slice a1 lies.length k1,.slice a2 crosses.length k2,.slice a3 pl.length k3,.slice none 0 0,.slice none 0 0]:=by rw [hpll]
 rw [hag]
 clear hpl hpll hag
 have HT1:Hid (((t+1:Nat):Int)=(t:Int)+1):=by unfold Hid;omega
 go_enter Tryz.func35,Tryz.ntmps35
 by_cases hlim:pr.length≤300∧t+1≤20000
 rotate_left
 ·exact absurd HLIM.out hlim
 ·have hc:(pr.length:Int)≤300:=by omega
  have hc2:(t:Int)+1≤20000:=by omega
  go_wp2_with fail
  generalize hW:World.alloc _ _=W
  obtain ⟨W1,hW1⟩:∃ W1,w.setCell ⟨F,5,none⟩ (.int .i64 ((t:Int)+1))=W1:=⟨_,rfl⟩
  rw [hW1] at hW
  have HE1:Hid (Eff F (.slice xo pr.length yo) (.slice xo pr.length yo) w W1):=by rw [← hW1];exact hs.out.effI _
  have HS1:Hid (WS w0 W1 F pa ja sa pc jc sc ps.length js.length ss.length over xo yo (t+1) pr):=by rw [← hW1,← HT1.out];exact hs.out.inc _
  have hz1:W1.heap.size=w.heap.size:=by rw [← hW1];simp
  have HX:Hid (∀ W,Below w.heap.size W1 W→WS w0 W F pa ja sa pc jc sc ps.length js.length ss.length over xo yo (t+1) pr∧Eff F (.slice xo pr.length yo) (.slice xo pr.length yo) w W):=by
   intro W hb
   rw [← hz1] at hb
   exact ⟨HS1.out.below hb,HE1.out.later hb⟩
  have hbW:Below w.heap.size W1 W:=by rw [← hW,← hz1];exact (Below.refl _ _).alloc (Nat.le_refl _) _
  have HQW:Hid (QC W w.heap.size (.int .i64 i) (.int .i64 0) (.slice a0 pre.length k0) (.slice a1 lies.length k1) (.slice a2 crosses.length k2) (.slice a3 pl.length k3) (.slice none 0 0) (.slice none 0 0)):=by rw [← hW,← hz1];exact qc_alloc _ _ _ _ _ _ _ _ _
  have hzW:w.heap.size+1≤W.heap.size∧W.heap.size≤w.heap.size+1:=by rw [← hW];simp [hz1]
  have HKW:Hid (RKeep W F ⟨a0,k0,a1,k1,a2,k2,a3,k3,none,0,none,0⟩ (walkR ps ss i pre lies crosses)):=hk.out.kept (HX.out W hbW).2
  obtain ⟨hzW1,hzW2⟩:=hzW
  have HBW:=hidP hbW
  clear hW hW1 hbW HE1 HS1 hz1 c0 c1 c2 c4 c5 z5
  have hfew:=ok.out.few
  have hnp:=R.out.np
  go_loopw [10,46] (fun rb c wr => ∃ (m:Nat),m≤pre.length∧c = .int .i64 m∧rb = .bool ((pre.take m).any (fun s=>sameS s ⟨p,way⟩))∧Below W.heap.size W wr) (fun _ c _=>pre.length-(intOf c).toNat)
  case atStart=>exact ⟨0,Nat.zero_le _,rfl,rfl,Below.refl _ _⟩
  case round =>
   obtain ⟨m,hm,rfl,rfl,hb⟩:=hrel
   have hbs:=hb.size
   by_cases hm':m<pre.length
   ·have hst:EndsAt W a0 pre:=HKW.out.lists.steps
    obtain ⟨b1,off1,rfl,hpc⟩:=hst.2.resolve_left (nz hm')
    obtain ⟨d0,d1⟩:=(hpc.below hb) m hm'
    have hzd:=cellLt d0
    dsimp only at hzd
    have HN:Hid ((pre.take (m+1)).any (fun s=>sameS s ⟨p,way⟩)=((pre.take m).any (fun s=>sameS s ⟨p,way⟩) || sameS pre[m] ⟨p,way⟩)):=by
     unfold Hid
     rw [List.take_succ_eq_append_getElem hm',List.any_append]
     simp
    clear hpc hst
    generalize hrb:(pre.take m).any (fun s=>sameS s ⟨p,way⟩)=rb at HN
    clear hrb
    have hcs:rb=true∨(rb=false∧(pre[m].piece==(p:Int))=false)∨(rb=false∧(pre[m].piece==(p:Int))=true∧(pre[m].side==way)=false)∨(rb=false∧(pre[m].piece==(p:Int))=true∧(pre[m].side==way)=true):=by
     cases rb <;> cases (pre[m].piece==(p:Int)) <;> cases (pre[m].side==way) <;> simp
    rcases hcs with rfl | ⟨rfl,h1⟩ | ⟨rfl,h1,h2⟩ | ⟨rfl,h1,h2⟩
    ·go_wp2_with fail
     go_roundw
     case rel=>exact ⟨m+1,by omega,by go_num,by rw [HN.out];simp,blo⟩
     case measure=>simp [intOf];omega
    ·go_wp2_with fail
     go_roundw
     case rel=>exact ⟨m+1,by omega,by go_num,by rw [HN.out];simp [sameS,h1],blo⟩
     case measure=>simp [intOf];omega
    ·go_wp2_with fail
     go_roundw
     case rel=>exact ⟨m+1,by omega,by go_num,by rw [HN.out];simp [sameS,h1,h2],blo⟩
     case measure=>simp [intOf];omega
    ·go_wp2_with fail
     go_roundw
     case rel=>exact ⟨m+1,by omega,by go_num,by rw [HN.out];simp [sameS,h1,h2],blo⟩
     case measure=>simp [intOf];omega
   ·have hme:m=pre.length:=by omega
    subst hme
    rw [List.take_length]
    have HQr:=hidP (HQW.out.below hb)
    have HBr:=hidP (HBW.out.trans (hb.mono (by omega)))
    have HKr:=hidP (HKW.out.kept (Eff.of_below (F:=F) hb))
    have hwr:w.heap.size<wr.heap.size:=by omega
    generalize hrb:pre.any (fun s=>sameS s ⟨p,way⟩)=rb
    have HRB:=hidP hrb
    clear hrb hb HQW HBW HKW hzW1 hzW2
    obtain ⟨q0,q1,q2,q3,q4,q5,q6,q7,_,_⟩:=HQr.out
    have h1:=lies_few ok.out.lv ok.out.ld
    have h2:=R.out.nj
    have h3:=ok.out.cl
    have HSH:Hid (ShortR (walkR ps ss i pre lies crosses)):=by
     refine ⟨?_,?_,?_,?_⟩
     ·show pre.length≤1000
      omega
     ·show lies.length≤1000
      omega
     ·show crosses.length≤1000
      omega
     ·show (fullParts ps (sigAt ss i) pre).length≤1000
      rw [fullParts_len];omega
    have HCP:Hid (Calls Tryz.prog 75 #[.agg #[.int .i64 i,.int .i64 0,.slice a0 pre.length k0,.slice a1 lies.length k1,.slice a2 crosses.length k2,.slice a3 pl.length k3,.slice none 0 0,.slice none 0 0]] wr fun e w' => ∃ v0 v1 v2 v3,e = .returned (.agg #[.int .i64 i,.int .i64 0,v0,v1,v2,v3,.slice none 0 0,.slice none 0 0])∧OwnR w' wr.heap.size v0 v1 v2 v3 ⟨i,0,pre,lies,crosses,pl,[],[]⟩∧Below wr.heap.size wr w'):=by
     rw [← HPL.out]
     exact l2copy_any ⟨a0,k0,a1,k1,a2,k2,a3,k3,none,0,none,0⟩ (walkR ps ss i pre lies crosses) wr HKr.out.lists HSH hnil
    go_wp2_with fail
    refine HCP.out.mono ?_
    rintro e w2 ⟨v0,v1,v2,v3,rfl,hown2,hb2⟩
    obtain ⟨x0,y0,rfl,_⟩:∃ x y,v0 = .slice x pre.length y∧(x=none→pre.length=0∧y=0):=owns_shape hown2.o0
    obtain ⟨x1,y1,rfl,_⟩:∃ x y,v1 = .slice x lies.length y∧(x=none→lies.length=0∧y=0):=owns_shape hown2.o1
    obtain ⟨x2,y2,rfl,_⟩:∃ x y,v2 = .slice x crosses.length y∧(x=none→crosses.length=0∧y=0):=owns_shape hown2.o2
    obtain ⟨x3,y3,rfl,_⟩:∃ x y,v3 = .slice x pl.length y∧(x=none→pl.length=0∧y=0):=owns_shape hown2.o3
    have HO2:=hidP hown2
    have HQ2:=hidP (HQr.out.below hb2)
    have HB2:=hidP (HBr.out.trans (hb2.mono (by omega)))
    have hz2:=hb2.size
    obtain ⟨r0,r1,r2,r3,r4,r5,r6,r7,hz,_⟩:=HQ2.out
    have z0:=hz 0
    have z1:=hz 1
    have z2:=hz 2
    have z3:=hz 3
    have z4:=hz 4
    have z5:=hz 5
    have z6:=hz 6
    have z7:=hz 7
    clear q0 q1 q2 q3 q4 q5 q6 q7 hown2 hb2 hz HQr HBr HCP HSH HKr
    have hpre:pre.length≤200:=by omega
    go_wp2_with (at_builtin;obtain ⟨U,hU,hqc,hblk,hbel,hsz⟩:=QC.store8 HQ2.out (.int .i64 i) (.int .i64 0) (.slice x0 pre.length y0) (.slice x1 lies.length y1) (.slice x2 crosses.length y2) (.slice x3 pl.length y3) (.slice none 0 0) (.slice none 0 0);rw [← hU];have hUz:w2.heap.size=U.heap.size:=(by rw [hU];simp);have HRB1:Hid (RB W1 U w.heap.size w.heap.size wr.heap.size x0 y0 x1 y1 x2 y2 x3 y3 (.slice none 0 0) (.slice none 0 0) ⟨i,0,pre,lies,crosses,pl,[],[]⟩):=⟨hbel _ _ (Nat.le_refl _) HB2.out,Nat.le_refl _,(by omega),Nat.le_trans hz2 hsz,hqc,⟨owns_kept2 HO2.out.o0 (fun b hb=>hblk b (by have:=(HO2.out.o0.lt b hb).1;omega)),owns_kept2 HO2.out.o1 (fun b hb=>hblk b (by have:=(HO2.out.o1.lt b hb).1;omega)),owns_kept2 HO2.out.o2 (fun b hb=>hblk b (by have:=(HO2.out.o2.lt b hb).1;omega)),owns_kept2 HO2.out.o3 (fun b hb=>hblk b (by have:=(HO2.out.o3.lt b hb).1;omega))⟩⟩;clear hU hqc hblk hbel;refine wpList_push rfl (.tmp 67) (.tmp 71) 38 rfl wr.heap.size 46 _ 2 16 Tryz.underlying38 Tryz.infoStep rfl (by decide) (.slice x0 pre.length y0) pre.length (flatE pre) rfl HRB1.out.own.o0 w2.heap.size hUz [.int .i64 p,.int .i64 way] rfl rfl (by simp [Value.oneCell']) (by unfold maxLen;omega) (by omega) (by omega) ?_;intro x' y' w3 ho3 hg3;rw [flatE_push _ ⟨p,way⟩] at ho3;have HRB3:=hidP (HRB1.out.push0 hg3 ho3);have hq3:=HRB1.out.qc.of_block (hg3.block _ HRB1.out.qc.lt (HRB1.out.nQ HRB1.out.own.o0 (by decide)));have s2:=hq3.q2;have t2:=hq3.z 2;clear ho3 hg3 hq3 HRB1 hUz hsz)
    generalize hW4:World.setCell w3 _ _=W4
    rw [hW4] at HRB3
    clear hW4 s2 t2 r0 r1 r2 r3 r4 r5 r6 r7 z0 z1 z2 z3 z4 z5 z6 z7 HQ2 HB2 HO2
    have HPL4:Hid (PiecesAt W4 pa ps∧JointsAt W4 ja js∧PiecesAt W4 sa ss):=by
     have hb:=(HX.out W4 HRB3.out.hB).1.base
     exact ⟨HP.out.below hb,HJ.out.below hb,HS.out.below hb⟩
    obtain ⟨f0,f1,f2⟩:W4.cell? ⟨F,0,none⟩=some (.slice pa ps.length pc)∧W4.cell? ⟨F,1,none⟩=some (.slice ja js.length jc)∧W4.cell? ⟨F,2,none⟩=some (.slice sa ss.length sc):=⟨(HX.out W4 HRB3.out.hB).1.c0,(HX.out W4 HRB3.out.hB).1.c1,(HX.out W4 HRB3.out.hB).1.c2⟩
    obtain ⟨p',hp,hpp,hway⟩:=ok.out.sv
    have hpp':p=p':=by have h:(p:Int)=p':=hpp;omega
    subst hpp'
    dsimp only at hway
    have HWAY:=hidP hway
    have hL:=R.out.plen p hp
    obtain ⟨nb,hnb⟩:∃ nb,nextB ss p way pos ss.length=nb:=⟨_,rfl⟩
    have HNB:=hidP hnb
    have HSG:Hid (∀ u:World,Below W4.heap.size W4 u→Calls Tryz.prog 45 #[.agg #[.slice pa ps.length pc,.slice ja js.length jc],.slice sa ss.length sc,.int .i64 p,.int .i64 way,.int .i64 far] u fun e w'=>e = .returned (.int .i64 nb)∧Below u.heap.size u w'):=by
     intro u hu
     rw [← HFAR.out,← HNB.out]
     exact l2signal_any pa ja sa pc js.length jc sc ps ss p way pos u (HPL4.out.1.below hu) (HPL4.out.2.2.below hu) hp hL HWAY.out (fun k hk=>by obtain ⟨q,hq,_,_,e3,e4⟩:=R.out.sig k hk;have:=R.out.plen q hq;omega)
    clear hnb hway hpp
    have m0:=Later.cell f0
    have m1:=Later.cell f1
    have m2:=Later.cell f2
    have hne:=later_some W4
    refine wp_region_later (by kernel_rfl) (by kernel_rfl) ?_
    repeat (go_big_quiet_step ((rename_i u;exact Later.calls u (HSG.out u.val u.2))))
    refine wpQuiet_nil ?_
    intro _ hw'
    obtain ⟨u,hw''⟩:=hw'
    subst hw''
    have hbu:=u.2
    generalize u.val=wu at hbu ⊢
    have HRBu:=hidP (HRB3.out.below hbu)
    have HPLu:Hid (PiecesAt wu pa ps∧JointsAt wu ja js∧PiecesAt wu sa ss):=⟨HPL4.out.1.below hbu,HPL4.out.2.1.below hbu,HPL4.out.2.2.below hbu⟩
    have g0:=cell_later hbu f0
    have g1:=cell_later hbu f1
    have g2:=cell_later hbu f2
    clear hbu m0 m1 m2 hne HSG HPL4 HRB3 f0 f1 f2
    have hnr : -1≤nb∧nb<60:=by
     rw [← HNB.out]
     rcases nextB_range ss p way pos ss.length (Nat.le_refl _) with h | ⟨b,hb,_,h,_⟩
     ·rw [h];omega
     ·rw [h];have:=R.out.ns;omega
    have hcs:(nb<0∧rb=true)∨0≤nb∨(nb<0∧rb=false):=by cases rb <;> simp <;> omega
    rcases hcs with ⟨hnn,hrt⟩ | hnn | ⟨hnn,hrt⟩
    ·exfalso
     obtain ⟨x,hx,h⟩:=List.any_eq_true.1 (HRB.out.trans hrt)
     exact HNOT.out (by rw [← sameS_iff.1 h];exact hx)
    ·exfalso
     have h:=HNBN.out
     rw [HNB.out] at h
     omega
    ·subst hrt
     have hnotin:Hid ((⟨(p:Int),way⟩:MStep) ∉ pre):=fun hm=>by
      have h:pre.any (fun s=>sameS s ⟨p,way⟩)=true:=List.any_eq_true.2 ⟨_,hm,sameS_iff.2 rfl⟩
      rw [HRB.out] at h
      cases h
     have HNN:Hid (nextB ss p way pos ss.length<0):=by unfold Hid;rw [HNB.out];exact hnn
     obtain ⟨ji,ki,hsp,hse⟩:=R.out.spot (aheadE_valid (ps:=ps) (s:=⟨p,way⟩) ok.out.sv)
     obtain ⟨_,hji,hki,hend,_,_⟩:=spotF_some hsp
     simp only [Nat.sub_zero] at hji hki hend
     have HSP:=hidP hsp
     have HSE:=hidP hse
     have hjl:=R.out.nj
     obtain ⟨bp,op,hpa,hpcp⟩:=HPLu.out.1.2.2.resolve_left (nz hp)
     subst hpa
     obtain ⟨_,j1,_,_⟩:=hpcp p hp
     have HENR:Hid (0≤far∧far≤10000000):=by
      unfold Hid
      have h1:=ok.out.p0
      have h2:=ok.out.p1
      have h3:=lenI_at hp
      dsimp only at h2
      rw [h3] at h2
      rw [← HFAR.out]
      unfold farI
      rw [h3]
      split <;> omega
     obtain ⟨pt,hpt⟩:∃ pt,specPart ps p way far ps[p].len=pt:=⟨_,rfl⟩
     have HPT:=hidP hpt
     have HPCv:Hid (∀ u:World,Below wu.heap.size wu u→Calls Tryz.prog 76 #[.agg #[.slice (some ⟨bp,op,none⟩) ps.length pc,.slice ja js.length jc],.int .i64 p,.int .i64 way,.int .i64 far,.int .i64 ps[p].len] u fun e w'=>e = .returned (.agg #[.int .i64 pt.piece,.int .i64 pt.lo,.int .i64 pt.hi])∧Below u.heap.size u w'):=by
      intro u hu
      rw [← HPT.out]
      exact l2part_any (some ⟨bp,op,none⟩) ja pc js.length jc ps p way far ps[p].len u (HPLu.out.1.below hu) hp hL HENR.out.1 HENR.out.2 (by omega) (by omega)
     have hpi0:(0:Int)≤p:=by omega
     have hpi:(p:Int)<ps.length:=by omega
     have hz3:=cellLt j1
     dsimp only at hz3
     clear hpt hpcp hsp hse
     have q5:=HRBu.out.qc.q5
     have qz5:=HRBu.out.qc.z 5
     have hFQ:F≠w.heap.size:=by omega
     have hFv:F<wu.heap.size:=cellLt g0
     have hQv:w.heap.size<wu.heap.size:=HRBu.out.qc.lt
     have hBv:=HRBu.out.BW
     dsimp only at q5
     go_wp2_with fail
     go_cut [] (fun wx => ∃ x3' y3',Hid (RB W1 wx w.heap.size w.heap.size wr.heap.size x' y' x1 y1 x2 y2 x3' y3' (.slice none 0 0) (.slice none 0 0) ⟨i,0,pre++[⟨p,way⟩],lies,crosses,pl++[pt],[],[]⟩))
     case first =>
      obtain ⟨S,hS⟩:∃ S:World→Prop,∀ u,S u↔(u.cell? ⟨w.heap.size,5,none⟩=some (.slice x3 pl.length y3)∧u.cell? ⟨F,0,none⟩=some (.slice (some ⟨bp,op,none⟩) ps.length pc)∧u.cell? ⟨F,1,none⟩=some (.slice ja js.length jc)∧u.cell? ⟨bp,op+p*4+1,none⟩=some (.int .i64 ps[p].len)):=⟨_,fun _=>Iff.rfl⟩
      have HS0:=hidP hS
      have r0:∀ u:Held S,World.cell? u.val ⟨w.heap.size,5,none⟩=some (.slice x3 pl.length y3):=fun u=>((hS u.val).1 u.2).1
      have r1:∀ u:Held S,World.cell? u.val ⟨F,0,none⟩=some (.slice (some ⟨bp,op,none⟩) ps.length pc):=fun u=>((hS u.val).1 u.2).2.1
      have r2:∀ u:Held S,World.cell? u.val ⟨F,1,none⟩=some (.slice ja js.length jc):=fun u=>((hS u.val).1 u.2).2.2.1
      have r3:∀ u:Held S,World.cell? u.val ⟨bp,op+p*4+1,none⟩=some (.int .i64 ps[p].len):=fun u=>((hS u.val).1 u.2).2.2.2
      have hSu:S wu.drew:=(hS _).2 ⟨q5,g0,g1,j1⟩
      have hne:=held_ne hSu
      clear hS q5 g0 g1 j1
      refine wp_region_tree (fun w' => ∃ u:Held S,w'=u.val) 20 (by kernel_rfl) (by kernel_rfl) (held_some hSu) ?_
      (refine wpT_sea 0 ?_;intro K hK;go_big_quiet_op;go_big_quiet_on);(refine wpT_sea 1 ?_;intro K hK;go_big_quiet_op;go_big_quiet_on);(refine wpT_sea 2 ?_;intro K hK;go_big_quiet_op;go_big_quiet_on);(refine wpT_sea 3 ?_;intro K hK;go_big_quiet_op;go_big_quiet_on);(refine wpT_sea 4 ?_;intro K hK;go_big_quiet_op;go_big_quiet_on);(refine wpT_sea 5 ?_;intro K hK;go_big_quiet_op;go_big_quiet_on);(refine wpT_sea 6 ?_;intro K hK;go_big_quiet_op;go_big_quiet_on);(refine wpT_sea 7 ?_;intro K hK;go_big_quiet_op;go_big_quiet_on);(refine wpT_sea 8 ?_;intro K hK;go_big_quiet_op;go_big_quiet_on);(refine wpT_sea 9 ?_;intro K hK;go_big_quiet_op;go_big_quiet_on);(refine wpT_sea 10 ?_;intro K hK;go_big_quiet_op;go_big_quiet_on);(refine wpT_sea 11 ?_;intro K hK;go_big_quiet_op;go_big_quiet_on);(refine wpT_sea 12 ?_;intro K hK;go_big_quiet_op;go_big_quiet_on);(refine wpT_sea 13 ?_;intro K hK;go_big_quiet_op;go_big_quiet_on);(refine wpT_sea 14 ?_;intro K hK;go_big_quiet_op;go_big_quiet_on);(refine wpT_sea 15 ?_;intro K hK;go_big_quiet_op;go_big_quiet_on);(refine wpT_sea 16 ?_;intro K hK;go_big_quiet_op;go_big_quiet_on);(refine wpT_sea 17 ?_;intro K hK;go_big_quiet_op;go_big_quiet_on)
      refine wpT_loud 18 (by rfl) (by kernel_rfl) (by kernel_rfl) ?_
      intro K hK
      go_wp2_with (go_at_call 76;refine (HPCv.out _ (Below.refl _ _).drew).mono ?_;rintro e w5 ⟨rfl,hb5'⟩)
      have hb5:Below wu.heap.size wu w5:=(Below.refl _ _).drew.trans hb5'
      have hS5:S w5:=by
       obtain ⟨s1,s2,s3,s4⟩:=(HS0.out _).1 hSu
       exact (HS0.out _).2 ⟨cell_later hb5' s1,cell_later hb5' s2,cell_later hb5' s3,cell_later hb5' s4⟩
      have HRB5:=hidP (HRBu.out.below hb5)
      have hz5:=hb5.size
      clear hb5' hb5
      refine hK _ _ (held_some hS5) ?_
      clear hK K
      refine wpT_loud 19 (by rfl) (by kernel_rfl) (by kernel_rfl) ?_
      intro K hK
      go_wp2_with fail
      have hS6:∀ o,S (World.alloc w5 o):=fun o=>by
       obtain ⟨s1,s2,s3,s4⟩:=(HS0.out _).1 hS5
       have hb:=(Below.refl w5.heap.size w5).alloc (Nat.le_refl _) o
       exact (HS0.out _).2 ⟨cell_later hb s1,cell_later hb s2,cell_later hb s3,cell_later hb s4⟩
      refine hK _ _ (held_some (hS6 _)) ?_
      clear hK K hS6 hS5 hSu hne r0 r1 r2 r3
      refine wpT_done (by kernel_rfl) ?_
      simp only [List.drop_succ_cons,List.drop_zero]
      refine wpList_push rfl (.tmp 134) (.tmp 152) 41 rfl wr.heap.size 48 _ 3 24 Tryz.underlying41 Tryz.infoPart rfl (by decide) (.slice x3 pl.length y3) pl.length (flatP pl) rfl HRB5.out.own.o3 w5.heap.size rfl [.int .i64 pt.piece,.int .i64 pt.lo,.int .i64 pt.hi] rfl rfl (by simp [Value.oneCell']) (by have:=HPL2.out;unfold maxLen;omega) (by have:=HPL2.out;omega) (by omega) ?_
      intro x3' y3' w6 ho6 hg6
      rw [flatP_push] at ho6
      have HRB6:=hidP (HRB5.out.push3 hg6 ho6)
      have hq6:=HRB5.out.qc.of_block (hg6.block _ HRB5.out.qc.lt (HRB5.out.nQ HRB5.out.own.o3 (by decide)))
      have s5:=hq6.q5
      have t5:=hq6.z 5
      clear ho6 hg6 hq6
      go_wp2_with fail
      go_meet
      exact ⟨x3',y3',HRB6⟩
     case rest =>
      obtain ⟨x3',y3',HRBc⟩:=hcut
      clear q5 qz5 g0 g1 g2 HPCv HRBu hFv hQv hBv j1 hz3 HPLu
      have HRTB:Hid (⟨i,-1,pre++[⟨p,way⟩],lies,crosses,pl++[pt],[],flanksF ps js ss lies lies⟩=routeF ps js ss over (endP i (-1) (pre++[⟨p,way⟩]) lies crosses)):=by
       unfold Hid
       rw [← HPL.out,← HPT.out,← HFAR.out]
       exact route_buffer ok.out HWAY.out hp
      have HPON:Hid (pl++[pt]=fullParts ps (sigAt ss i) (pre++[⟨p,way⟩])):=by
       unfold Hid
       rw [← HPL.out,← HPT.out,← HFAR.out]
       exact parts_on ok.out HWAY.out hp
      obtain ⟨L,hL'⟩:∃ L,pre++[(⟨(p:Int),way⟩:MStep)]=L:=⟨_,rfl⟩
      obtain ⟨PL,hPL'⟩:∃ PL,pl++[pt]=PL:=⟨_,rfl⟩
      rw [hL',hPL'] at HRBc HRTB HPON
      have HLE:=hidP hL'
      have HPLL:Hid (PL.length=L.length):=by unfold Hid;rw [← hPL',← hL'];simp [HPL2.out]
      clear hL' hPL'
      have HSc:=hidP (HX.out wc HRBc.out.hB).1
      have f0:=HSc.out.c0
      have f1:=HSc.out.c1
      have HJc:=hidP (HJ.out.below HSc.out.base)
      obtain ⟨eh,heh⟩:∃ E,aheadE ⟨(p:Int),way⟩=E:=⟨_,rfl⟩
      have HHD:Hid (∀ u:World,Below wc.heap.size wc u→Calls Tryz.prog 47 #[.int .i64 p,.int .i64 way] u fun e w'=>e = .returned (.agg #[.int .i64 eh.piece,.int .i64 eh.side])∧Below u.heap.size u w'):=fun u _=>by rw [← heh];exact l2head_any p way u
      have HAT:Hid (∀ u:World,Below wc.heap.size wc u→Calls Tryz.prog 46 #[.agg #[.slice (some ⟨bp,op,none⟩) ps.length pc,.slice ja js.length jc],.agg #[.int .i64 eh.piece,.int .i64 eh.side]] u fun r w'=>r = .returned (.tuple #[.int .i64 ji,.int .i64 ki])∧Below u.heap.size u w'):=fun u hu=>l1at_any (some ⟨bp,op,none⟩) ja ps.length pc jc js eh ji ki u (HJc.out.below hu) (by unfold Hid;rw [← heh];exact HSP.out)
      clear heh
      go_wp2_with fail
      have m0:=Later.cell f0
      have m1:=Later.cell f1
      have hne:=later_some wc
      refine wp_region_later (by kernel_rfl) (by kernel_rfl) ?_
      iterate 6 (go_big_quiet_step (fail))
      go_big_quiet_step ((rename_i u;exact Later.calls u (HHD.out u.val u.2)))
      go_big_quiet_step ((rename_i u;exact Later.calls u (HAT.out u.val u.2)))
      iterate 5 (go_big_quiet_step (fail))
      refine wpQuiet_nil ?_
      intro _ hw'
      obtain ⟨u,hw''⟩:=hw'
      subst hw''
      have hbu:=u.2
      generalize u.val=wd at hbu ⊢
      have HRBd:=hidP (HRBc.out.below hbu)
      clear m0 m1 hne HHD HAT hbu HRBc HSc HJc f0 f1
      have HSd:=hidP (HX.out wd HRBd.out.hB).1
      have g1:=HSd.out.c1
      obtain ⟨bj,oj,hja,hpcj⟩:=(HJ.out.below HSd.out.base).2.2.resolve_left (nz hji)
      subst hja
      obtain ⟨c1,c2,ea,ec,c3,c4⟩:=hpcj ji hji
      have HEA:=hidP c4
      have hzd:=cellLt c1
      dsimp only at hzd
      have hkd:=R.out.kind ji hji
      have hji0:(0:Int)≤ji:=by omega
      have hji1:(ji:Int)<js.length:=by omega
      have hQd:w.heap.size<wd.heap.size:=HRBd.out.qc.lt
      have hFd:F<wd.heap.size:=HSd.out.lt
      clear hpcj c4
      have hk4:js[ji].kind=1∨(js[ji].kind=2∨js[ji].kind=3∨js[ji].kind=4):=by omega
      rcases hk4 with hkv | hkv
      ·have HEV:Hid (evs ps js ss (n+1) (pathOf i (pre++[⟨p,way⟩]) lies crosses) pos=[endP i (-1) L lies crosses]):=by
        unfold Hid
        rw [← HLE.out]
        exact evs_buffer (s:=⟨(p:Int),way⟩) (by show ¬ 0≤nextB ss p way pos ss.length;have:=HNN.out;omega) hnotin.out (by rw [HSE.out,kindE_at hji];exact hkv)
       rw [hkv] at c1
       obtain ⟨e0,e1,e2,e3,e4,e5,e6,e7,ez,_⟩:=HRBd.out.qc
       have ez1:=ez 1
       dsimp only at e0 e1 e2 e3 e4 e5
       clear ez
       go_wp2_with fail
       generalize hWz:World.alloc _ _=Wz
       have HRBz:Hid (RB W1 Wz w.heap.size w.heap.size wr.heap.size x' y' x1 y1 x2 y2 x3' y3' (.slice none 0 0) (.slice none 0 0) ⟨i,-1,L,lies,crosses,PL,[],[]⟩):=by rw [← hWz];exact (HRBd.out.set1 (-1)).below ((Below.refl _ _).alloc (Nat.le_refl _) _)
       clear hWz
       refine (done_rb (ov:=[]) (x4:=none) (y4:=0) R HP HJ HS hfl (HX.out _ HRBz.out.hB).1 HRBz.out (by omega) (by omega) ok.out.lv ok.out.ld).mono ?_
       intro e w9 hd
       have hend:=walk_end (n:=n) (HX.out _ HRBz.out.hB).1 (HX.out _ HRBz.out.hB).2 HRBz.out (by omega) (World.ownsRow_nil _ _ _ _) (Nat.lt_succ_self F) hd (p':=endP i (-1) L lies crosses) rfl HRTB.out (by omega) (by omega)
       have he:=hend.1
       subst he
       rw [← HEV.out] at hend
       have HND:=hidP hend
       clear hd hend e0 e1 e2 e3 e4 e5 e6 e7 ez1
       go_wp2_with fail
       (try simp only [Exit.inBlock,Exit.then])
       refine bodyPost_ret (results_none rfl _ _ _) rfl ?_
       exact HND.out
      ·obtain ⟨T,hT⟩:∃ T,beyondF js[ji].kind ki=T:=⟨_,rfl⟩
       have HEV:Hid (evs ps js ss (n+1) (pathOf i (pre++[⟨p,way⟩]) lies crosses) pos=pathOf i L lies crosses::kidsF ps js ss n (pathOf i L lies crosses) ji ki T):=by
        unfold Hid
        have h:=evs_on (ps:=ps) (js:=js) (ss:=ss) (pre:=pre) (s:=⟨(p:Int),way⟩) (pos:=pos) (n:=n) (i:=i) (lies:=lies) (crosses:=crosses) (by show ¬ 0≤nextB ss p way pos ss.length;have:=HNN.out;omega) hnotin.out (by rw [HSE.out,kindE_at hji];omega)
        rw [HSE.out] at h
        dsimp only at h
        rw [kindE_at hji,hT,HLE.out] at h
        rw [HLE.out]
        exact h
       have HTL:Hid (T.length≤2∧∀ x ∈ T,x<js[ji].ends.length):=by
        unfold Hid
        rw [← hT]
        exact ⟨beyondF_few _ _,fun x hx=>beyond_lt hkd.2.2 hki hx⟩
       obtain ⟨LE,hLE⟩:∃ LE,T.map (fun t=>js[ji].ends.getD t ⟨0,0⟩)=LE:=⟨_,rfl⟩
       have HAC:Hid (∀ u:World,Below wd.heap.size wd u→Calls Tryz.prog 48 #[.agg #[.int .i64 js[ji].kind,.string js[ji].name,.slice ea js[ji].ends.length ec],.int .i64 ki] u (AcrossPostN u LE)):=fun u hu=>by
        rw [← hLE,← hT]
        exact l1acrossN_any js[ji].kind js[ji].name js[ji].ends ki hki hkd.2.2 hkv ea ec u (HEA.out.below hu)
       have HLEL:Hid (LE.length=T.length∧∀ m (h:m<LE.length) (h':m<T.length),∃ (h2:T[m]<js[ji].ends.length),LE[m]=js[ji].ends[T[m]]):=by
        unfold Hid
        subst hLE
        refine ⟨by simp,fun m h h'=>?_⟩
        have h2:=HTL.out.2 T[m] (List.getElem_mem h')
        exact ⟨h2,by simp [h2]⟩
       have HTT:=hidP hT
       have HRV:Hid (∀ b,w.heap.size≤b→(Value.slice xo pr.length yo).ownBlock≠some b):=fun b hb e=>by have:=(hs.out.own.lt b e).2;omega
       obtain ⟨kd,hkd'⟩:∃ kd,js[ji].kind=kd:=⟨_,rfl⟩
       rw [hkd'] at c1 HAC
       have HKD:=hidP hkd'
       have hkv':kd=2∨kd=3∨kd=4:=by rw [← hkd'];exact hkv
       have ht1:(kd==1)=false:=by rcases hkv' with h | h | h <;> simp [h]
       clear hT hLE hkd' hkv
       go_wp2_with (go_at_call 48;refine (HAC.out _ ((Below.refl _ _).alloc (Nat.le_refl _) _)).mono ?_;rintro e wl ⟨g,rfl,hcl,hgl,hbl⟩;have HCL:=hidP hcl;have HBL:Hid (Below wd.heap.size wd wl):=(((Below.refl _ _).alloc (Nat.le_refl _) _).trans (hbl.mono (by simp)));have X0:wl.cell? ⟨wd.heap.size,0,none⟩=some (.int .i64 kd):=cell_later hbl (by simp [go_sem]);have hgd:wd.heap.size<g:=(by simp at hgl;omega);clear hcl hgl hbl)
       have HRBl:=hidP (HRBd.out.below HBL.out)
       have HSl:=hidP (HX.out wl HRBl.out.hB).1
       have HEl:=hidP (HX.out wl HRBl.out.hB).2
       have HKl:=hidP (keep_rb (F:=F) HRBl.out (by omega))
       have HNl:=hidP (nil_rb HRBl.out)
       have HLI0:Hid (LoopInv w0 wl wl F (some ⟨bp,op,none⟩) (some ⟨bj,oj,none⟩) sa pc jc sc ps js ss over n t (.slice xo pr.length yo) (pr.map Prod.snd) (pathOf i L lies crosses) ji ki T 0):=LoopInv.start HSl.out (by have:=hn.out;omega) (by omega) rfl hpr
       have HSH:Hid (ShortR ⟨i,0,L,lies,crosses,PL,[],[]⟩):=by
        have e1:L.length=pre.length+1:=by rw [← HLE.out];simp
        have e2:=HPLL.out
        exact ⟨by show L.length≤1000;omega,by show lies.length≤1000;omega,by show crosses.length≤1000;omega,by show PL.length≤1000;omega⟩
       have hLEn:LE.length≤2:=by rw [HLEL.out.1];exact HTL.out.1
       have hwl:wd.heap.size≤wl.heap.size:=HBL.out.size
       clear c1 c2 c3 g1 HEA HSd HRBd HAC hzd HBL
       go_loopw [185] (fun c wq => ∃ m:Nat,m≤LE.length∧c = .int .i64 m∧Hid (LoopInv w0 wl wq F (some ⟨bp,op,none⟩) (some ⟨bj,oj,none⟩) sa pc jc sc ps js ss over n t (.slice xo pr.length yo) (pr.map Prod.snd) (pathOf i L lies crosses) ji ki T m)) (fun c _=>LE.length-(intOf c).toNat)
       case atStart=>exact ⟨0,Nat.zero_le _,rfl,HLI0⟩
       case round =>
        clear HLI0
        obtain ⟨m,hm,rfl,HLI⟩:=hrel
        by_cases hm':m<LE.length
        ·obtain ⟨xq,yq,tq,prq,hwq,heq,hwt,htq,hprq⟩:=HLI.out
         have HWQ:=hidP hwq
         have HEQ:=hidP heq
         have HWT:=hidP hwt
         have hwqz:=heq.size
         clear heq hwq hwt
         have hmT:m<T.length:=by rw [← HLEL.out.1];exact hm'
         obtain ⟨htm,hlem⟩:=HLEL.out.2 m hm' hmT
         obtain ⟨pe,hpe,hpe1,hsd⟩:=R.out.ends ji hji T[m] htm
         obtain ⟨d0,d1⟩:=HCL.out m hm'
         have hgl:g<wl.heap.size:=cellLt d0
         have hgb:wr.heap[g]? = wl.heap[g]? := HEQ.out.block (by omega) hgl (HRV.out g (by omega))
         rw [hlem] at d0 d1
         rw [hpe1] at d0
         have gm0:wr.cell? ⟨g,m*2,none⟩=some (.int .i64 pe):=by have h:=(World.cell?_of_block (w:=wl) hgb).trans d0;simpa using h
         have gm1:wr.cell? ⟨g,m*2+1,none⟩=some (.int .i64 js[ji].ends[T[m]].side):=by have h:=(World.cell?_of_block (w:=wl) hgb).trans d1;simpa using h
         have HQq:=hidP (HRBl.out.qc.of_block (HEQ.out.block (by omega) HRBl.out.qc.lt (HRV.out _ (Nat.le_refl _))))
         have X0q:wr.cell? ⟨wd.heap.size,0,none⟩=some (.int .i64 kd):=(World.cell?_of_block (w:=wl) (HEQ.out.block (b:=wd.heap.size) (by omega) (cellLt X0) (HRV.out wd.heap.size (by omega)))).trans X0
         have HKq:=hidP (HKl.out.kept HEQ.out)
         have HCP:Hid (∀ u:World,Below wr.heap.size wr u→Calls Tryz.prog 75 #[.agg #[.int .i64 i,.int .i64 0,.slice x' L.length y',.slice x1 lies.length y1,.slice x2 crosses.length y2,.slice x3' PL.length y3',.slice none 0 0,.slice none 0 0]] u fun e w' => ∃ v0 v1 v2 v3,e = .returned (.agg #[.int .i64 i,.int .i64 0,v0,v1,v2,v3,.slice none 0 0,.slice none 0 0])∧OwnR w' u.heap.size v0 v1 v2 v3 ⟨i,0,L,lies,crosses,PL,[],[]⟩∧Below u.heap.size u w'):=fun u hu=>l2copy_any ⟨x',y',x1,y1,x2,y2,x3',y3',none,0,none,0⟩ ⟨i,0,L,lies,crosses,PL,[],[]⟩ u (HKq.out.lists.below hu) HSH HNl
         have HVE:Hid (ValidE ps js[ji].ends[T[m]]):=⟨pe,hpe,hpe1,hsd⟩
         have HEE:Hid (endE js ji T[m]=js[ji].ends[T[m]]):=endE_at hji htm
         have HPE:=hidP hpe1
         have HKF:Hid (kindE js ji=kd):=by unfold Hid;rw [kindE_at hji];exact HKD.out
         have HMX:Hid (kd=3→((ki=0∧T[m]=m+1)∨(ki≠0∧T[m]=0))):=by
          intro h3
          have hTT:=HTT.out
          rw [HKD.out,h3] at hTT
          unfold beyondF at hTT
          rw [if_neg (by omega),if_pos rfl] at hTT
          by_cases hk0:ki=0
          ·rw [if_pos hk0] at hTT
           subst hTT
           have hm2:m=0∨m=1:=by simp at hmT;omega
           rcases hm2 with rfl | rfl
           ·exact Or.inl ⟨hk0,rfl⟩
           ·exact Or.inl ⟨hk0,rfl⟩
          ·rw [if_neg hk0] at hTT
           subst hTT
           have hm2:m=0:=by simp at hmT;omega
           subst hm2
           exact Or.inr ⟨hk0,rfl⟩
         generalize js[ji].ends[T[m]]=en at gm1 hsd HVE HEE HPE
         obtain ⟨sd,hsd'⟩:∃ sd,en.side=sd:=⟨_,rfl⟩
         rw [hsd'] at gm1 hsd
         have hws:((sd==1)=false∧(stepFromE en).side=1)∨((sd==1)=true∧(stepFromE en).side = -1):=by
          rcases hsd with h | h
          ·exact Or.inl ⟨by simp [h],stepFrom_side0 (hsd'.trans h)⟩
          ·exact Or.inr ⟨by simp [h],stepFrom_side1 (hsd'.trans h)⟩
         have HWS:=hidP hws
         clear hws hsd hsd' hpe1 hlem d0 d1 HLI hgb
         obtain ⟨e0,e1,e2,e3,e4,e5,e6,e7,_,_⟩:=HQq.out
         dsimp only at e0 e1 e2 e3 e4 e5
         have hgq:g<wr.heap.size:=by omega
         have hXq:wd.heap.size<wr.heap.size:=by omega
         have hQq:w.heap.size<wr.heap.size:=by omega
         have hFq:F<wr.heap.size:=by omega
         have hmi:(m:Int)<LE.length:=by omega
         rcases hkv' with rfl | rfl | rfl
         ·rcases HWS.out with ⟨hs1,hs2⟩ | ⟨hs1,hs2⟩
          all_goals
           go_wp2_with (go_at_call 75;refine (HCP.out _ ((Below.refl _ _).alloc (Nat.le_refl _) _)).mono ?_;rintro e w5 ⟨v0,v1,v2,v3,rfl,hown,hb5⟩;obtain ⟨z0,t0,rfl,_⟩:∃ x y,v0 = .slice x L.length y∧(x=none→L.length=0∧y=0):=owns_shape hown.o0;obtain ⟨z1,t1,rfl,_⟩:∃ x y,v1 = .slice x lies.length y∧(x=none→lies.length=0∧y=0):=owns_shape hown.o1;obtain ⟨z2,t2,rfl,_⟩:∃ x y,v2 = .slice x crosses.length y∧(x=none→crosses.length=0∧y=0):=owns_shape hown.o2;obtain ⟨z3,t3,rfl,_⟩:∃ x y,v3 = .slice x PL.length y∧(x=none→PL.length=0∧y=0):=owns_shape hown.o3;have HO5:Hid (OwnR w5 (wr.heap.size+1) (.slice z0 L.length t0) (.slice z1 lies.length t1) (.slice z2 crosses.length t2) (.slice z3 PL.length t3) ⟨i,0,L,lies,crosses,PL,[],[]⟩):=⟨owns_base hown.o0 (by simp),owns_base hown.o1 (by simp),owns_base hown.o2 (by simp),owns_base hown.o3 (by simp)⟩;have HB5:Hid (Below wr.heap.size wr w5):=((Below.refl _ _).alloc (Nat.le_refl _) _).trans (hb5.mono (by simp));have X05:=cell_later HB5.out X0q;have en0:w5.cell? ⟨wr.heap.size,0,none⟩=some (.int .i64 pe):=cell_later hb5 (by simp [go_sem]);have en1:w5.cell? ⟨wr.heap.size,1,none⟩=some (.int .i64 sd):=cell_later hb5 (by simp [go_sem]);have hz5:wr.heap.size+1≤w5.heap.size:=(by have:=hb5.size;simpa using this);have hX5:wd.heap.size<w5.heap.size:=(by omega);have hE5:wr.heap.size<w5.heap.size:=(by omega);clear hown hb5 e0 e1 e2 e3 e4 e5 e6 e7 gm0 gm1 X0q)
           generalize hW6:World.alloc w5 _=W6
           have HRB6:=hidP (rb_new HB5.out hz5 HO5.out)
           rw [hW6] at HRB6
           clear hW6 en0 en1 X05
           have HWB:Hid (Below wr.heap.size wr W6):=HRB6.out.hB
           have hch:=child_call ih.out R.out ok.out hnotin.out hn.out HLE.out HPON.out HVE.out HPE.out ok.out.lv ok.out.ld (by have:=ok.out.cl;omega) (HWQ.out.below HWB.out) HRB6.out (by omega) (by have:=hn.out;omega) hprq hs2
           refine hch.mono ?_
           clear hch
           intro e w9 hw9
           obtain ⟨he,hin⟩:=LoopInv.gone HEQ.out HWT.out htq HWB.out hmT (q:=pathOf i (L++[stepFromE en]) lies crosses) (by rw [over_plain HKF.out,HEE.out]) (by rw [HEE.out];exact hw9)
           subst he
           have HIN:=hidP hin
           clear hin hw9
           go_wp2_with fail
           go_roundw
           case rel=>exact ⟨m+1,by omega,by go_num,HIN⟩
           case measure=>simp [intOf];omega
         ·have hm2:m≤1:=by omega
          rcases HMX.out rfl with ⟨hka,hkb⟩ | ⟨hka,hkb⟩
          ·have hk0:((ki:Int)==0)=true:=by simp [hka]
           have HLY:Hid (((max ki T[m]:Nat):Int)=(m:Int)+1):=by unfold Hid;rw [hkb,hka];omega
           have HL12:Hid ((m:Int)+1=1∨(m:Int)+1=2):=by unfold Hid;omega
           clear hka hkb
           go_wp2_with (go_at_call 75;refine (HCP.out _ ((Below.refl _ _).alloc (Nat.le_refl _) _)).mono ?_;rintro e w5 ⟨v0,v1,v2,v3,rfl,hown,hb5⟩;obtain ⟨z0,t0,rfl,_⟩:∃ x y,v0 = .slice x L.length y∧(x=none→L.length=0∧y=0):=owns_shape hown.o0;obtain ⟨z1,t1,rfl,_⟩:∃ x y,v1 = .slice x lies.length y∧(x=none→lies.length=0∧y=0):=owns_shape hown.o1;obtain ⟨z2,t2,rfl,_⟩:∃ x y,v2 = .slice x crosses.length y∧(x=none→crosses.length=0∧y=0):=owns_shape hown.o2;obtain ⟨z3,t3,rfl,_⟩:∃ x y,v3 = .slice x PL.length y∧(x=none→PL.length=0∧y=0):=owns_shape hown.o3;have HO5:Hid (OwnR w5 (wr.heap.size+1) (.slice z0 L.length t0) (.slice z1 lies.length t1) (.slice z2 crosses.length t2) (.slice z3 PL.length t3) ⟨i,0,L,lies,crosses,PL,[],[]⟩):=⟨owns_base hown.o0 (by simp),owns_base hown.o1 (by simp),owns_base hown.o2 (by simp),owns_base hown.o3 (by simp)⟩;have HB5:Hid (Below wr.heap.size wr w5):=((Below.refl _ _).alloc (Nat.le_refl _) _).trans (hb5.mono (by simp));have X05:=cell_later HB5.out X0q;have en0:w5.cell? ⟨wr.heap.size,0,none⟩=some (.int .i64 pe):=cell_later hb5 (by simp [go_sem]);have en1:w5.cell? ⟨wr.heap.size,1,none⟩=some (.int .i64 sd):=cell_later hb5 (by simp [go_sem]);have hz5:wr.heap.size+1≤w5.heap.size:=(by have:=hb5.size;simpa using this);have hX5:wd.heap.size<w5.heap.size:=(by omega);have hE5:wr.heap.size<w5.heap.size:=(by omega);clear hown hb5 e0 e1 e2 e3 e4 e5 e6 e7 gm0 gm1 X0q)
           generalize hW6:World.alloc w5 _=W6
           have HRB6:=hidP (rb_new HB5.out hz5 HO5.out)
           rw [hW6] at HRB6
           have hb56:Below w5.heap.size w5 W6:=by rw [← hW6];exact (Below.refl _ _).alloc (Nat.le_refl _) _
           replace en0:=cell_later hb56 en0
           replace en1:=cell_later hb56 en1
           replace X05:=cell_later hb56 X05
           have hz6:=hb56.size
           clear hW6 hb56 HO5 HB5
           refine (l2lies_any w5.heap.size (wr.heap.size+1) lies.length z1 t1 lies ji ((m:Int)+1) W6 HRB6.out.qc.q3 (HRB6.out.qc.z 3) HRB6.out.own.o1 rfl (by omega) (HRB6.out.nQ HRB6.out.own.o1 (by decide)) (by omega)).mono ?_
           intro e w7 hpost
           unfold LiesPost at hpost
           by_cases hany:lies.any (fun l=>l.piece==(ji:Int))=true
           ·rw [if_pos hany] at hpost
            obtain ⟨rfl,hb7⟩:=hpost
            have HZ0:=hidP (lieF_any ok.out.lv hany)
            have HRB7:=hidP (HRB6.out.below hb7)
            obtain ⟨f0,f1,f2,f3,f4,f5,f6,f7,_,_⟩:=HRB7.out.qc
            dsimp only at f0 f1 f2 f3 f4 f5
            replace en0:=cell_later hb7 en0
            replace en1:=cell_later hb7 en1
            replace X05:=cell_later hb7 X05
            have hz7:=hb7.size
            have hE7:wr.heap.size<w7.heap.size:=by omega
            have hQ7:w5.heap.size<w7.heap.size:=by have:=HRB7.out.qc.lt;omega
            clear hb7 hany
            cases hq:(lieF lies ji==((m:Int)+1))
            ·have HIN:Hid (LoopInv w0 wl w7 F (some ⟨bp,op,none⟩) (some ⟨bj,oj,none⟩) sa pc jc sc ps js ss over n t (.slice xo pr.length yo) (pr.map Prod.snd) (pathOf i L lies crosses) ji ki T (m+1)):=LoopInv.none (LoopInv.below ⟨xq,yq,tq,prq,HWQ.out,HEQ.out,HWT.out,htq,hprq⟩ HRB7.out.hB) hmT (over_other HKF.out (by rw [HLY.out];simpa using hq) HZ0.out)
             go_wp2_with fail
             go_roundw
             case rel=>exact ⟨m+1,by omega,by go_num,HIN⟩
             case measure=>simp [intOf];omega
            ·have HQL:Hid (lieF lies ji=((m:Int)+1)):=by unfold Hid;simpa using hq
             rcases HWS.out with ⟨hs1,hs2⟩ | ⟨hs1,hs2⟩
             all_goals
              go_wp2_with fail
              clear en0 en1 X05 f0 f1 f2 f3 f4 f5 f6 f7
              have HWB:Hid (Below wr.heap.size wr w7):=HRB7.out.hB
              have hch:=child_call ih.out R.out ok.out hnotin.out hn.out HLE.out HPON.out HVE.out HPE.out ok.out.lv ok.out.ld (by have:=ok.out.cl;omega) (HWQ.out.below HWB.out) HRB7.out (by omega) (by have:=hn.out;omega) hprq hs2
              refine hch.mono ?_
              clear hch
              intro e w9 hw9
              obtain ⟨he,hin⟩:=LoopInv.gone HEQ.out HWT.out htq HWB.out hmT (q:=pathOf i (L++[stepFromE en]) lies crosses) (by rw [over_same HKF.out (by rw [HLY.out];exact HQL.out) HZ0.out,HEE.out]) (by rw [HEE.out];exact hw9)
              subst he
              have HIN:=hidP hin
              clear hin hw9
              go_wp2_with fail
              go_roundw
              case rel=>exact ⟨m+1,by omega,by go_num,HIN⟩
              case measure=>simp [intOf];omega
           ·rw [if_neg hany] at hpost
            obtain ⟨rfl,x4,y4,w8,rfl,ho8,hg8⟩:=hpost
            have HRB8:=hidP (HRB6.out.push1 hg8 ho8)
            have hnE:some wr.heap.size≠(Value.slice z1 lies.length t1).ownBlock:=fun e=>by have:=(HRB6.out.own.o1.lt wr.heap.size e.symm).1;omega
            have hnX:some wd.heap.size≠(Value.slice z1 lies.length t1).ownBlock:=fun e=>by have:=(HRB6.out.own.o1.lt wd.heap.size e.symm).1;omega
            have g0':(w8.setCell ⟨w5.heap.size,3,none⟩ (.slice x4 (lies.length+1) y4)).cell? ⟨wr.heap.size,0,none⟩=some (.int .i64 pe):=by rw [World.cell?_setCell_other _ _ _ _ (by first | (simp;done) | (simp;omega))];exact hg8.cell en0 hnE
            have g1':(w8.setCell ⟨w5.heap.size,3,none⟩ (.slice x4 (lies.length+1) y4)).cell? ⟨wr.heap.size,1,none⟩=some (.int .i64 sd):=by rw [World.cell?_setCell_other _ _ _ _ (by first | (simp;done) | (simp;omega))];exact hg8.cell en1 hnE
            have gX':(w8.setCell ⟨w5.heap.size,3,none⟩ (.slice x4 (lies.length+1) y4)).cell? ⟨wd.heap.size,0,none⟩=some (.int .i64 3):=by rw [World.cell?_setCell_other _ _ _ _ (by first | (simp;done) | (simp;omega))];exact hg8.cell X05 hnX
            generalize hW8:World.setCell w8 _ _=W8 at HRB8 g0' g1' gX' ⊢
            obtain ⟨f0,f1,f2,f3,f4,f5,f6,f7,_,_⟩:=HRB8.out.qc
            dsimp only at f0 f1 f2 f3 f4 f5
            simp only [List.length_append,List.length_singleton] at f3
            have hE8:=cellLt g0'
            dsimp only at hE8
            have hQ8:=HRB8.out.qc.lt
            have HAN:=hidP hany
            clear hW8 ho8 hg8 hnE hnX hany en0 en1 X05
            rcases HWS.out with ⟨hs1,hs2⟩ | ⟨hs1,hs2⟩
            all_goals
             go_wp2_with fail
             clear g0' g1' gX' f0 f1 f2 f3 f4 f5 f6 f7
             have HWB:Hid (Below wr.heap.size wr W8):=HRB8.out.hB
             have hch:=child_call ih.out R.out ok.out hnotin.out hn.out HLE.out HPON.out HVE.out HPE.out (lies_push ok.out.lv hji HKD.out HL12.out) (lies_pushd ok.out.ld HAN.out) (by have:=ok.out.cl;omega) (HWQ.out.below HWB.out) HRB8.out (by omega) (by have:=hn.out;omega) hprq hs2
             rw [List.length_append,List.length_singleton] at hch
             refine hch.mono ?_
             clear hch
             intro e w9 hw9
             obtain ⟨he,hin⟩:=LoopInv.gone HEQ.out HWT.out htq HWB.out hmT (q:=pathOf i (L++[stepFromE en]) (lies++[(⟨(ji:Int),((m:Int)+1)⟩:MLie)]) crosses) (by rw [over_new HKF.out (lieF_not HAN.out),HEE.out,HLY.out]) (by rw [HEE.out];exact hw9)
             subst he
             have HIN:=hidP hin
             clear hin hw9
             go_wp2_with fail
             go_roundw
             case rel=>exact ⟨m+1,by omega,by go_num,HIN⟩
             case measure=>simp [intOf];omega
          ·have hk0:((ki:Int)==0)=false:=by simp [hka]
           have HLY:Hid (((max ki T[m]:Nat):Int)=(ki:Int)):=by unfold Hid;rw [hkb];omega
           have HL12:Hid ((ki:Int)=1∨(ki:Int)=2):=by unfold Hid;have:=hkd.2.2;rw [HKD.out] at this;omega
           clear hka hkb
           go_wp2_with (go_at_call 75;refine (HCP.out _ ((Below.refl _ _).alloc (Nat.le_refl _) _)).mono ?_;rintro e w5 ⟨v0,v1,v2,v3,rfl,hown,hb5⟩;obtain ⟨z0,t0,rfl,_⟩:∃ x y,v0 = .slice x L.length y∧(x=none→L.length=0∧y=0):=owns_shape hown.o0;obtain ⟨z1,t1,rfl,_⟩:∃ x y,v1 = .slice x lies.length y∧(x=none→lies.length=0∧y=0):=owns_shape hown.o1;obtain ⟨z2,t2,rfl,_⟩:∃ x y,v2 = .slice x crosses.length y∧(x=none→crosses.length=0∧y=0):=owns_shape hown.o2;obtain ⟨z3,t3,rfl,_⟩:∃ x y,v3 = .slice x PL.length y∧(x=none→PL.length=0∧y=0):=owns_shape hown.o3;have HO5:Hid (OwnR w5 (wr.heap.size+1) (.slice z0 L.length t0) (.slice z1 lies.length t1) (.slice z2 crosses.length t2) (.slice z3 PL.length t3) ⟨i,0,L,lies,crosses,PL,[],[]⟩):=⟨owns_base hown.o0 (by simp),owns_base hown.o1 (by simp),owns_base hown.o2 (by simp),owns_base hown.o3 (by simp)⟩;have HB5:Hid (Below wr.heap.size wr w5):=((Below.refl _ _).alloc (Nat.le_refl _) _).trans (hb5.mono (by simp));have X05:=cell_later HB5.out X0q;have en0:w5.cell? ⟨wr.heap.size,0,none⟩=some (.int .i64 pe):=cell_later hb5 (by simp [go_sem]);have en1:w5.cell? ⟨wr.heap.size,1,none⟩=some (.int .i64 sd):=cell_later hb5 (by simp [go_sem]);have hz5:wr.heap.size+1≤w5.heap.size:=(by have:=hb5.size;simpa using this);have hX5:wd.heap.size<w5.heap.size:=(by omega);have hE5:wr.heap.size<w5.heap.size:=(by omega);clear hown hb5 e0 e1 e2 e3 e4 e5 e6 e7 gm0 gm1 X0q)
           generalize hW6:World.alloc w5 _=W6
           have HRB6:=hidP (rb_new HB5.out hz5 HO5.out)
           rw [hW6] at HRB6
           have hb56:Below w5.heap.size w5 W6:=by rw [← hW6];exact (Below.refl _ _).alloc (Nat.le_refl _) _
           replace en0:=cell_later hb56 en0
           replace en1:=cell_later hb56 en1
           replace X05:=cell_later hb56 X05
           have hz6:=hb56.size
           clear hW6 hb56 HO5 HB5
           refine (l2lies_any w5.heap.size (wr.heap.size+1) lies.length z1 t1 lies ji (ki:Int) W6 HRB6.out.qc.q3 (HRB6.out.qc.z 3) HRB6.out.own.o1 rfl (by omega) (HRB6.out.nQ HRB6.out.own.o1 (by decide)) (by omega)).mono ?_
           intro e w7 hpost
           unfold LiesPost at hpost
           by_cases hany:lies.any (fun l=>l.piece==(ji:Int))=true
           ·rw [if_pos hany] at hpost
            obtain ⟨rfl,hb7⟩:=hpost
            have HZ0:=hidP (lieF_any ok.out.lv hany)
            have HRB7:=hidP (HRB6.out.below hb7)
            obtain ⟨f0,f1,f2,f3,f4,f5,f6,f7,_,_⟩:=HRB7.out.qc
            dsimp only at f0 f1 f2 f3 f4 f5
            replace en0:=cell_later hb7 en0
            replace en1:=cell_later hb7 en1
            replace X05:=cell_later hb7 X05
            have hz7:=hb7.size
            have hE7:wr.heap.size<w7.heap.size:=by omega
            have hQ7:w5.heap.size<w7.heap.size:=by have:=HRB7.out.qc.lt;omega
            clear hb7 hany
            cases hq:(lieF lies ji==(ki:Int))
            ·have HIN:Hid (LoopInv w0 wl w7 F (some ⟨bp,op,none⟩) (some ⟨bj,oj,none⟩) sa pc jc sc ps js ss over n t (.slice xo pr.length yo) (pr.map Prod.snd) (pathOf i L lies crosses) ji ki T (m+1)):=LoopInv.none (LoopInv.below ⟨xq,yq,tq,prq,HWQ.out,HEQ.out,HWT.out,htq,hprq⟩ HRB7.out.hB) hmT (over_other HKF.out (by rw [HLY.out];simpa using hq) HZ0.out)
             go_wp2_with fail
             go_roundw
             case rel=>exact ⟨m+1,by omega,by go_num,HIN⟩
             case measure=>simp [intOf];omega
            ·have HQL:Hid (lieF lies ji=(ki:Int)):=by unfold Hid;simpa using hq
             rcases HWS.out with ⟨hs1,hs2⟩ | ⟨hs1,hs2⟩
             all_goals
              go_wp2_with fail
              clear en0 en1 X05 f0 f1 f2 f3 f4 f5 f6 f7
              have HWB:Hid (Below wr.heap.size wr w7):=HRB7.out.hB
              have hch:=child_call ih.out R.out ok.out hnotin.out hn.out HLE.out HPON.out HVE.out HPE.out ok.out.lv ok.out.ld (by have:=ok.out.cl;omega) (HWQ.out.below HWB.out) HRB7.out (by omega) (by have:=hn.out;omega) hprq hs2
              refine hch.mono ?_
              clear hch
              intro e w9 hw9
              obtain ⟨he,hin⟩:=LoopInv.gone HEQ.out HWT.out htq HWB.out hmT (q:=pathOf i (L++[stepFromE en]) lies crosses) (by rw [over_same HKF.out (by rw [HLY.out];exact HQL.out) HZ0.out,HEE.out]) (by rw [HEE.out];exact hw9)
              subst he
              have HIN:=hidP hin
              clear hin hw9
              go_wp2_with fail
              go_roundw
              case rel=>exact ⟨m+1,by omega,by go_num,HIN⟩
              case measure=>simp [intOf];omega
           ·rw [if_neg hany] at hpost
            obtain ⟨rfl,x4,y4,w8,rfl,ho8,hg8⟩:=hpost
            have HRB8:=hidP (HRB6.out.push1 hg8 ho8)
            have hnE:some wr.heap.size≠(Value.slice z1 lies.length t1).ownBlock:=fun e=>by have:=(HRB6.out.own.o1.lt wr.heap.size e.symm).1;omega
            have hnX:some wd.heap.size≠(Value.slice z1 lies.length t1).ownBlock:=fun e=>by have:=(HRB6.out.own.o1.lt wd.heap.size e.symm).1;omega
            have g0':(w8.setCell ⟨w5.heap.size,3,none⟩ (.slice x4 (lies.length+1) y4)).cell? ⟨wr.heap.size,0,none⟩=some (.int .i64 pe):=by rw [World.cell?_setCell_other _ _ _ _ (by first | (simp;done) | (simp;omega))];exact hg8.cell en0 hnE
            have g1':(w8.setCell ⟨w5.heap.size,3,none⟩ (.slice x4 (lies.length+1) y4)).cell? ⟨wr.heap.size,1,none⟩=some (.int .i64 sd):=by rw [World.cell?_setCell_other _ _ _ _ (by first | (simp;done) | (simp;omega))];exact hg8.cell en1 hnE
            have gX':(w8.setCell ⟨w5.heap.size,3,none⟩ (.slice x4 (lies.length+1) y4)).cell? ⟨wd.heap.size,0,none⟩=some (.int .i64 3):=by rw [World.cell?_setCell_other _ _ _ _ (by first | (simp;done) | (simp;omega))];exact hg8.cell X05 hnX
            generalize hW8:World.setCell w8 _ _=W8 at HRB8 g0' g1' gX' ⊢
            obtain ⟨f0,f1,f2,f3,f4,f5,f6,f7,_,_⟩:=HRB8.out.qc
            dsimp only at f0 f1 f2 f3 f4 f5
            simp only [List.length_append,List.length_singleton] at f3
            have hE8:=cellLt g0'
            dsimp only at hE8
            have hQ8:=HRB8.out.qc.lt
            have HAN:=hidP hany
            clear hW8 ho8 hg8 hnE hnX hany en0 en1 X05
            rcases HWS.out with ⟨hs1,hs2⟩ | ⟨hs1,hs2⟩
            all_goals
             go_wp2_with fail
             clear g0' g1' gX' f0 f1 f2 f3 f4 f5 f6 f7
             have HWB:Hid (Below wr.heap.size wr W8):=HRB8.out.hB
             have hch:=child_call ih.out R.out ok.out hnotin.out hn.out HLE.out HPON.out HVE.out HPE.out (lies_push ok.out.lv hji HKD.out HL12.out) (lies_pushd ok.out.ld HAN.out) (by have:=ok.out.cl;omega) (HWQ.out.below HWB.out) HRB8.out (by omega) (by have:=hn.out;omega) hprq hs2
             rw [List.length_append,List.length_singleton] at hch
             refine hch.mono ?_
             clear hch
             intro e w9 hw9
             obtain ⟨he,hin⟩:=LoopInv.gone HEQ.out HWT.out htq HWB.out hmT (q:=pathOf i (L++[stepFromE en]) (lies++[(⟨(ji:Int),(ki:Int)⟩:MLie)]) crosses) (by rw [over_new HKF.out (lieF_not HAN.out),HEE.out,HLY.out]) (by rw [HEE.out];exact hw9)
             subst he
             have HIN:=hidP hin
             clear hin hw9
             go_wp2_with fail
             go_roundw
             case rel=>exact ⟨m+1,by omega,by go_num,HIN⟩
             case measure=>simp [intOf];omega
         ·rcases HWS.out with ⟨hs1,hs2⟩ | ⟨hs1,hs2⟩
          all_goals
           go_wp2_with (first | (go_at_call 75;refine (HCP.out _ ((Below.refl _ _).alloc (Nat.le_refl _) _)).mono ?_;rintro e w5 ⟨v0,v1,v2,v3,rfl,hown,hb5⟩;obtain ⟨z0,t0,rfl,_⟩:∃ x y,v0 = .slice x L.length y∧(x=none→L.length=0∧y=0):=owns_shape hown.o0;obtain ⟨z1,t1,rfl,_⟩:∃ x y,v1 = .slice x lies.length y∧(x=none→lies.length=0∧y=0):=owns_shape hown.o1;obtain ⟨z2,t2,rfl,_⟩:∃ x y,v2 = .slice x crosses.length y∧(x=none→crosses.length=0∧y=0):=owns_shape hown.o2;obtain ⟨z3,t3,rfl,_⟩:∃ x y,v3 = .slice x PL.length y∧(x=none→PL.length=0∧y=0):=owns_shape hown.o3;have HO5:Hid (OwnR w5 (wr.heap.size+1) (.slice z0 L.length t0) (.slice z1 lies.length t1) (.slice z2 crosses.length t2) (.slice z3 PL.length t3) ⟨i,0,L,lies,crosses,PL,[],[]⟩):=⟨owns_base hown.o0 (by simp),owns_base hown.o1 (by simp),owns_base hown.o2 (by simp),owns_base hown.o3 (by simp)⟩;have HB5:Hid (Below wr.heap.size wr w5):=((Below.refl _ _).alloc (Nat.le_refl _) _).trans (hb5.mono (by simp));have X05:=cell_later HB5.out X0q;have en0:w5.cell? ⟨wr.heap.size,0,none⟩=some (.int .i64 pe):=cell_later hb5 (by simp [go_sem]);have en1:w5.cell? ⟨wr.heap.size,1,none⟩=some (.int .i64 sd):=cell_later hb5 (by simp [go_sem]);have hz5:wr.heap.size+1≤w5.heap.size:=(by have:=hb5.size;simpa using this);have hX5:wd.heap.size<w5.heap.size:=(by omega);have hE5:wr.heap.size<w5.heap.size:=(by omega);clear hown hb5 e0 e1 e2 e3 e4 e5 e6 e7 gm0 gm1 X0q) | (at_builtin;generalize hW6:World.alloc w5 _=W6;have HRB6:=hidP (rb_new HB5.out hz5 HO5.out);rw [hW6] at HRB6;have hz6:w5.heap.size+1=W6.heap.size:=(by rw [← hW6];simp);have hb56:Below w5.heap.size w5 W6:=(by rw [← hW6];exact (Below.refl _ _).alloc (Nat.le_refl _) _);replace en0:=cell_later hb56 en0;replace en1:=cell_later hb56 en1;clear hW6 hb56 X05;refine wpList_push rfl (.tmp 208) (.tmp 210) 40 rfl (wr.heap.size+1) 3 _ 1 8 Tryz.underlying40 Tryz.infoInt rfl (by decide) (.slice z2 crosses.length t2) crosses.length (flatN crosses) rfl HRB6.out.own.o2 (w5.heap.size+1) hz6 [.int .i64 ji] rfl rfl (by simp [Value.oneCell']) (by unfold maxLen;omega) (by omega) (by omega) ?_;intro x4 y4 w7 ho7 hg7;rw [flatN_push] at ho7;have HRB7:=hidP (HRB6.out.push2 hg7 ho7);obtain ⟨f0,f1,f2,f3,f4,f5,f6,f7,fz,_⟩:=HRB6.out.qc.of_block (hg7.block _ HRB6.out.qc.lt (HRB6.out.nQ HRB6.out.own.o2 (by decide)));have fz4:=fz 4;dsimp only at f0 f1 f2 f3 f4 f5;have hnE:some wr.heap.size≠(Value.slice z2 crosses.length t2).ownBlock:=(fun e=>by have:=(HRB6.out.own.o2.lt wr.heap.size e.symm).1;omega);replace en0:=hg7.cell en0 hnE;replace en1:=hg7.cell en1 hnE;have hz7:=hg7.size;have hE7:wr.heap.size<w7.heap.size:=(by omega);have hEQ:wr.heap.size≠w5.heap.size:=(by omega);clear ho7 hg7 hnE fz HO5 HB5))
           generalize hW8:World.setCell w7 _ _=W8
           rw [hW8] at HRB7
           clear hW8 en0 en1 f0 f1 f2 f3 f4 f5 f6 f7 fz4
           have HWB:Hid (Below wr.heap.size wr W8):=HRB7.out.hB
           have hch:=child_call ih.out R.out ok.out hnotin.out hn.out HLE.out HPON.out HVE.out HPE.out ok.out.lv ok.out.ld (by have:=ok.out.cl;simp;omega) (HWQ.out.below HWB.out) HRB7.out (by omega) (by have:=hn.out;omega) hprq hs2
           rw [List.length_append,List.length_singleton] at hch
           refine hch.mono ?_
           clear hch
           intro e w9 hw9
           obtain ⟨he,hin⟩:=LoopInv.gone HEQ.out HWT.out htq HWB.out hmT (q:=pathOf i (L++[stepFromE en]) lies (crosses++[(ji:Int)])) (by rw [over_cross HKF.out,HEE.out]) (by rw [HEE.out];exact hw9)
           subst he
           have HIN:=hidP hin
           clear hin hw9
           go_wp2_with fail
           go_roundw
           case rel=>exact ⟨m+1,by omega,by go_num,HIN⟩
           case measure=>simp [intOf];omega
        ·have hme:m=LE.length:=by omega
         subst hme
         have HND:=hidP (HLI.out.stop HLEL.out.1 HTL.out.1 HEl.out HEV.out)
         go_wp2_with fail
         (try simp only [Exit.inBlock,Exit.then])
         first
          | refine bodyPost_end (results_none rfl _ _ _) rfl ?_
          | go_end0
         exact HND.out
end Go.Proofs.YtmkdgnmmebldgaaGreatDoor
