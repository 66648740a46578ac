import Derived.Test.YtmkdgnmmebldgaaGreatDoorPt25
import Derived.Deep.RegionLaw
set_option maxRecDepth 100000
set_option maxHeartbeats 8000000
namespace Go.Proofs.YtmkdgnmmebldgaaGreatDoor
open Go.RowKit Go.Deep
theorem walk_first (w0:World)(F:Nat)(pa ja sa:Option Addr)(pc jc sc:Nat)(ps:List MPiece)(js:List MJoint)(ss:List MPiece)(over:Int)(n:Nat)(R:Hid (Right ps js ss))(HP:Hid (PiecesAt w0 pa ps))(HJ:Hid (JointsAt w0 ja js))(HS:Hid (PiecesAt w0 sa ss))(ho0:0≤over)(ho1:over≤100000)
  (hfl:Hid (∀ (B Q:Nat) (la:Option Addr) (lc:Nat) (lies:List MLie) (pl:Int) (n:Nat),LB w0 B F Q pa ja sa la ps js ss lies→LookSpec w0 B F Q pa ja sa la pc jc sc lc ps js ss lies pl n))
  (ih:Hid (WalkSpec w0 F pa ja sa pc jc sc ps js ss over n))
  (a0:Option Addr) (k0:Nat) (a1:Option Addr) (k1:Nat) (a2:Option Addr) (k2:Nat) (a3:Option Addr) (k3:Nat) (i:Nat) (pre:List MStep) (p:Nat) (way:Int) (lies:List MLie) (crosses:List Int) (pos:Int) (xo:Option Addr) (yo t:Nat) (pr:List (RAddr × MRoute)) (w:World) (ok:Hid (WalkOk ps js ss i pre ⟨p,way⟩ lies crosses pos)) (_hn:Hid (n+1+pre.length=2*ps.length+2))
  (hs:Hid (WS w0 w F pa ja sa pc jc sc ps.length js.length ss.length over xo yo t pr)) (hk:Hid (RKeep w F ⟨a0,k0,a1,k1,a2,k2,a3,k3,none,0,none,0⟩ (walkR ps ss i pre lies crosses))) (hnil:Hid (NilR ⟨a0,k0,a1,k1,a2,k2,a3,k3,none,0,none,0⟩ (walkR ps ss i pre lies crosses))) (ht:t≤100000) (hpr:pr.length≤301)
  (hA:Hid (¬ (pr.length≤300∧t+1≤20000)∨0≤nextB ss p way pos ss.length∨(⟨(p:Int),way⟩:MStep) ∈ pre)) :
  Calls Tryz.prog 35 #[.pointer (some ⟨F,0,none⟩),.agg #[.int .i64 i,.int .i64 0,.slice a0 pre.length k0,.slice a1 lies.length k1,.slice a2 crosses.length k2,.slice a3 pre.length k3,.slice none 0 0,.slice none 0 0],.int .i64 p,.int .i64 way,.int .i64 (farI ps p pos way)] w (WalkPost w0 w F pa ja sa pc jc sc ps js ss over (n+1) t (.slice xo pr.length yo) (pr.map Prod.snd) (evs ps js ss (n+1) (pathOf i (pre++[⟨p,way⟩]) lies crosses) pos)):=by
 have c0:=hs.out.c0
 have c1:=hs.out.c1
 have c2:=hs.out.c2
 have c4:=hs.out.c4
 have c5:=hs.out.c5
 have z5:=hs.out.z5
 have hFw:=hs.out.lt
 obtain ⟨far,hfar⟩:∃ far,farI ps p pos way=far:=⟨_,rfl⟩
 rw [hfar]
 have HFAR:=hidP hfar
 clear hfar
 obtain ⟨pl,hpl⟩:∃ pl,fullParts ps (sigAt ss i) pre=pl:=⟨_,rfl⟩
 have HPL:=hidP hpl
 have hpll:pl.length=pre.length:=by rw [← hpl];exact fullParts_len _ _ _
 have HPL2:=hidP hpll
 have hag:(Value.agg #[.int .i64 i,.int .i64 0,.slice a0 pre.length k0,.slice a1 lies.length k1,.slice a2 crosses.length k2,.slice a3 pre.length k3,.slice none 0 0,.slice none 0 0]) = .agg #[.int .i64 i,.int .i64 0,.slice a0 pre.length k0,.slice a1 lies.length k1,.slice a2 crosses.length k2,.slice a3 pl.length k3,.slice none 0 0,.slice none 0 0]:=by rw [hpll]
 rw [hag]
 clear hpl hpll hag
 have HT1:Hid (((t+1:Nat):Int)=(t:Int)+1):=by unfold Hid;omega
 go_enter Tryz.func35,Tryz.ntmps35
 by_cases hlim:pr.length≤300∧t+1≤20000
 rotate_left
 ·obtain ⟨q,E,hE⟩:=evs_ne (ps:=ps) (js:=js) (ss:=ss) (pos:=pos) n (pathOf i (pre++[⟨p,way⟩]) lies crosses)
  rw [hE]
  have HG:Hid (∀ w',Below (w.setCell ⟨F,5,none⟩ (.int .i64 ((t:Int)+1))).heap.size (w.setCell ⟨F,5,none⟩ (.int .i64 ((t:Int)+1))) w'→WalkPost w0 w F pa ja sa pc jc sc ps js ss over (n+1) t (.slice xo pr.length yo) (pr.map Prod.snd) (q::E) (.returned (.tuple #[])) w'):=by
   intro w' hb
   refine ⟨rfl,xo,yo,t+1,pr,?_,?_,Went.out ?_,by omega,hpr⟩
   ·refine WS.below ?_ hb
    rw [← HT1.out];exact hs.out.inc _
   ·exact (hs.out.effI _).later hb
   ·rw [List.length_map];omega
  clear hE
  have hc:(300:Int)<(pr.length:Int)∨((pr.length:Int)≤300∧(20000:Int)<(t:Int)+1):=by omega
  rcases hc with hc | ⟨hc,hc2⟩
  all_goals
   go_wp2_with fail
   (try simp only [Exit.inBlock,Exit.then])
   refine bodyPost_ret (results_none rfl _ _ _) rfl ?_
   exact HG.out _ ((Below.refl _ _).alloc (Nat.le_refl _) _)
 ·have hc:(pr.length:Int)≤300:=by omega
  have hc2:(t:Int)+1≤20000:=by omega
  go_wp2_with fail
  generalize hW:World.alloc _ _=W
  obtain ⟨W1,hW1⟩:∃ W1,w.setCell ⟨F,5,none⟩ (.int .i64 ((t:Int)+1))=W1:=⟨_,rfl⟩
  rw [hW1] at hW
  have HE1:Hid (Eff F (.slice xo pr.length yo) (.slice xo pr.length yo) w W1):=by rw [← hW1];exact hs.out.effI _
  have HS1:Hid (WS w0 W1 F pa ja sa pc jc sc ps.length js.length ss.length over xo yo (t+1) pr):=by rw [← hW1,← HT1.out];exact hs.out.inc _
  have hz1:W1.heap.size=w.heap.size:=by rw [← hW1];simp
  have HX:Hid (∀ W,Below w.heap.size W1 W→WS w0 W F pa ja sa pc jc sc ps.length js.length ss.length over xo yo (t+1) pr∧Eff F (.slice xo pr.length yo) (.slice xo pr.length yo) w W):=by
   intro W hb
   rw [← hz1] at hb
   exact ⟨HS1.out.below hb,HE1.out.later hb⟩
  have hbW:Below w.heap.size W1 W:=by rw [← hW,← hz1];exact (Below.refl _ _).alloc (Nat.le_refl _) _
  have HQW:Hid (QC W w.heap.size (.int .i64 i) (.int .i64 0) (.slice a0 pre.length k0) (.slice a1 lies.length k1) (.slice a2 crosses.length k2) (.slice a3 pl.length k3) (.slice none 0 0) (.slice none 0 0)):=by rw [← hW,← hz1];exact qc_alloc _ _ _ _ _ _ _ _ _
  have hzW:w.heap.size+1≤W.heap.size∧W.heap.size≤w.heap.size+1:=by rw [← hW];simp [hz1]
  have HKW:Hid (RKeep W F ⟨a0,k0,a1,k1,a2,k2,a3,k3,none,0,none,0⟩ (walkR ps ss i pre lies crosses)):=hk.out.kept (HX.out W hbW).2
  obtain ⟨hzW1,hzW2⟩:=hzW
  have HBW:=hidP hbW
  clear hW hW1 hbW HE1 HS1 hz1 c0 c1 c2 c4 c5 z5
  have hfew:=ok.out.few
  have hnp:=R.out.np
  go_loopw [10,46] (fun rb c wr => ∃ (m:Nat),m≤pre.length∧c = .int .i64 m∧rb = .bool ((pre.take m).any (fun s=>sameS s ⟨p,way⟩))∧Below W.heap.size W wr) (fun _ c _=>pre.length-(intOf c).toNat)
  case atStart=>exact ⟨0,Nat.zero_le _,rfl,rfl,Below.refl _ _⟩
  case round =>
   obtain ⟨m,hm,rfl,rfl,hb⟩:=hrel
   have hbs:=hb.size
   by_cases hm':m<pre.length
   ·have hst:EndsAt W a0 pre:=HKW.out.lists.steps
    obtain ⟨b1,off1,rfl,hpc⟩:=hst.2.resolve_left (nz hm')
    obtain ⟨d0,d1⟩:=(hpc.below hb) m hm'
    have hzd:=cellLt d0
    dsimp only at hzd
    have HN:Hid ((pre.take (m+1)).any (fun s=>sameS s ⟨p,way⟩)=((pre.take m).any (fun s=>sameS s ⟨p,way⟩) || sameS pre[m] ⟨p,way⟩)):=by
     unfold Hid
     rw [List.take_succ_eq_append_getElem hm',List.any_append]
     simp
    clear hpc hst
    generalize hrb:(pre.take m).any (fun s=>sameS s ⟨p,way⟩)=rb at HN
    clear hrb
    have hcs:rb=true∨(rb=false∧(pre[m].piece==(p:Int))=false)∨(rb=false∧(pre[m].piece==(p:Int))=true∧(pre[m].side==way)=false)∨(rb=false∧(pre[m].piece==(p:Int))=true∧(pre[m].side==way)=true):=by
     cases rb <;> cases (pre[m].piece==(p:Int)) <;> cases (pre[m].side==way) <;> simp
    rcases hcs with rfl | ⟨rfl,h1⟩ | ⟨rfl,h1,h2⟩ | ⟨rfl,h1,h2⟩
    ·go_wp2_with fail
     go_roundw
     case rel=>exact ⟨m+1,by omega,by go_num,by rw [HN.out];simp,blo⟩
     case measure=>simp [intOf];omega
    ·go_wp2_with fail
     go_roundw
     case rel=>exact ⟨m+1,by omega,by go_num,by rw [HN.out];simp [sameS,h1],blo⟩
     case measure=>simp [intOf];omega
    ·go_wp2_with fail
     go_roundw
     case rel=>exact ⟨m+1,by omega,by go_num,by rw [HN.out];simp [sameS,h1,h2],blo⟩
     case measure=>simp [intOf];omega
    ·go_wp2_with fail
     go_roundw
     case rel=>exact ⟨m+1,by omega,by go_num,by rw [HN.out];simp [sameS,h1,h2],blo⟩
     case measure=>simp [intOf];omega
   ·have hme:m=pre.length:=by omega
    subst hme
    rw [List.take_length]
    have HQr:=hidP (HQW.out.below hb)
    have HBr:=hidP (HBW.out.trans (hb.mono (by omega)))
    have HKr:=hidP (HKW.out.kept (Eff.of_below (F:=F) hb))
    have hwr:w.heap.size<wr.heap.size:=by omega
    generalize hrb:pre.any (fun s=>sameS s ⟨p,way⟩)=rb
    have HRB:=hidP hrb
    clear hrb hb HQW HBW HKW hzW1 hzW2
    obtain ⟨q0,q1,q2,q3,q4,q5,q6,q7,_,_⟩:=HQr.out
    have h1:=lies_few ok.out.lv ok.out.ld
    have h2:=R.out.nj
    have h3:=ok.out.cl
    have HSH:Hid (ShortR (walkR ps ss i pre lies crosses)):=by
     refine ⟨?_,?_,?_,?_⟩
     ·show pre.length≤1000
      omega
     ·show lies.length≤1000
      omega
     ·show crosses.length≤1000
      omega
     ·show (fullParts ps (sigAt ss i) pre).length≤1000
      rw [fullParts_len];omega
    have HCP:Hid (Calls Tryz.prog 75 #[.agg #[.int .i64 i,.int .i64 0,.slice a0 pre.length k0,.slice a1 lies.length k1,.slice a2 crosses.length k2,.slice a3 pl.length k3,.slice none 0 0,.slice none 0 0]] wr fun e w' => ∃ v0 v1 v2 v3,e = .returned (.agg #[.int .i64 i,.int .i64 0,v0,v1,v2,v3,.slice none 0 0,.slice none 0 0])∧OwnR w' wr.heap.size v0 v1 v2 v3 ⟨i,0,pre,lies,crosses,pl,[],[]⟩∧Below wr.heap.size wr w'):=by
     rw [← HPL.out]
     exact l2copy_any ⟨a0,k0,a1,k1,a2,k2,a3,k3,none,0,none,0⟩ (walkR ps ss i pre lies crosses) wr HKr.out.lists HSH hnil
    go_wp2_with fail
    refine HCP.out.mono ?_
    rintro e w2 ⟨v0,v1,v2,v3,rfl,hown2,hb2⟩
    obtain ⟨x0,y0,rfl,_⟩:∃ x y,v0 = .slice x pre.length y∧(x=none→pre.length=0∧y=0):=owns_shape hown2.o0
    obtain ⟨x1,y1,rfl,_⟩:∃ x y,v1 = .slice x lies.length y∧(x=none→lies.length=0∧y=0):=owns_shape hown2.o1
    obtain ⟨x2,y2,rfl,_⟩:∃ x y,v2 = .slice x crosses.length y∧(x=none→crosses.length=0∧y=0):=owns_shape hown2.o2
    obtain ⟨x3,y3,rfl,_⟩:∃ x y,v3 = .slice x pl.length y∧(x=none→pl.length=0∧y=0):=owns_shape hown2.o3
    have HO2:=hidP hown2
    have HQ2:=hidP (HQr.out.below hb2)
    have HB2:=hidP (HBr.out.trans (hb2.mono (by omega)))
    have hz2:=hb2.size
    obtain ⟨r0,r1,r2,r3,r4,r5,r6,r7,hz,_⟩:=HQ2.out
    have z0:=hz 0
    have z1:=hz 1
    have z2:=hz 2
    have z3:=hz 3
    have z4:=hz 4
    have z5:=hz 5
    have z6:=hz 6
    have z7:=hz 7
    clear q0 q1 q2 q3 q4 q5 q6 q7 hown2 hb2 hz HQr HBr HCP HSH HKr
    have hpre:pre.length≤200:=by omega
    go_wp2_with (at_builtin;obtain ⟨U,hU,hqc,hblk,hbel,hsz⟩:=QC.store8 HQ2.out (.int .i64 i) (.int .i64 0) (.slice x0 pre.length y0) (.slice x1 lies.length y1) (.slice x2 crosses.length y2) (.slice x3 pl.length y3) (.slice none 0 0) (.slice none 0 0);rw [← hU];have hUz:w2.heap.size=U.heap.size:=(by rw [hU];simp);have HRB1:Hid (RB W1 U w.heap.size w.heap.size wr.heap.size x0 y0 x1 y1 x2 y2 x3 y3 (.slice none 0 0) (.slice none 0 0) ⟨i,0,pre,lies,crosses,pl,[],[]⟩):=⟨hbel _ _ (Nat.le_refl _) HB2.out,Nat.le_refl _,(by omega),Nat.le_trans hz2 hsz,hqc,⟨owns_kept2 HO2.out.o0 (fun b hb=>hblk b (by have:=(HO2.out.o0.lt b hb).1;omega)),owns_kept2 HO2.out.o1 (fun b hb=>hblk b (by have:=(HO2.out.o1.lt b hb).1;omega)),owns_kept2 HO2.out.o2 (fun b hb=>hblk b (by have:=(HO2.out.o2.lt b hb).1;omega)),owns_kept2 HO2.out.o3 (fun b hb=>hblk b (by have:=(HO2.out.o3.lt b hb).1;omega))⟩⟩;clear hU hqc hblk hbel;refine wpList_push rfl (.tmp 67) (.tmp 71) 38 rfl wr.heap.size 46 _ 2 16 Tryz.underlying38 Tryz.infoStep rfl (by decide) (.slice x0 pre.length y0) pre.length (flatE pre) rfl HRB1.out.own.o0 w2.heap.size hUz [.int .i64 p,.int .i64 way] rfl rfl (by simp [Value.oneCell']) (by unfold maxLen;omega) (by omega) (by omega) ?_;intro x' y' w3 ho3 hg3;rw [flatE_push _ ⟨p,way⟩] at ho3;have HRB3:=hidP (HRB1.out.push0 hg3 ho3);have hq3:=HRB1.out.qc.of_block (hg3.block _ HRB1.out.qc.lt (HRB1.out.nQ HRB1.out.own.o0 (by decide)));have s2:=hq3.q2;have t2:=hq3.z 2;clear ho3 hg3 hq3 HRB1 hUz hsz)
    generalize hW4:World.setCell w3 _ _=W4
    rw [hW4] at HRB3
    clear hW4 s2 t2 r0 r1 r2 r3 r4 r5 r6 r7 z0 z1 z2 z3 z4 z5 z6 z7 HQ2 HB2 HO2
    have HPL4:Hid (PiecesAt W4 pa ps∧JointsAt W4 ja js∧PiecesAt W4 sa ss):=by
     have hb:=(HX.out W4 HRB3.out.hB).1.base
     exact ⟨HP.out.below hb,HJ.out.below hb,HS.out.below hb⟩
    obtain ⟨f0,f1,f2⟩:W4.cell? ⟨F,0,none⟩=some (.slice pa ps.length pc)∧W4.cell? ⟨F,1,none⟩=some (.slice ja js.length jc)∧W4.cell? ⟨F,2,none⟩=some (.slice sa ss.length sc):=⟨(HX.out W4 HRB3.out.hB).1.c0,(HX.out W4 HRB3.out.hB).1.c1,(HX.out W4 HRB3.out.hB).1.c2⟩
    obtain ⟨p',hp,hpp,hway⟩:=ok.out.sv
    have hpp':p=p':=by have h:(p:Int)=p':=hpp;omega
    subst hpp'
    dsimp only at hway
    have HWAY:=hidP hway
    have hL:=R.out.plen p hp
    obtain ⟨nb,hnb⟩:∃ nb,nextB ss p way pos ss.length=nb:=⟨_,rfl⟩
    have HNB:=hidP hnb
    have HSG:Hid (∀ u:World,Below W4.heap.size W4 u→Calls Tryz.prog 45 #[.agg #[.slice pa ps.length pc,.slice ja js.length jc],.slice sa ss.length sc,.int .i64 p,.int .i64 way,.int .i64 far] u fun e w'=>e = .returned (.int .i64 nb)∧Below u.heap.size u w'):=by
     intro u hu
     rw [← HFAR.out,← HNB.out]
     exact l2signal_any pa ja sa pc js.length jc sc ps ss p way pos u (HPL4.out.1.below hu) (HPL4.out.2.2.below hu) hp hL HWAY.out (fun k hk=>by obtain ⟨q,hq,_,_,e3,e4⟩:=R.out.sig k hk;have:=R.out.plen q hq;omega)
    clear hnb hway hpp
    have m0:=Later.cell f0
    have m1:=Later.cell f1
    have m2:=Later.cell f2
    have hne:=later_some W4
    refine wp_region_later (by kernel_rfl) (by kernel_rfl) ?_
    repeat (go_big_quiet_step ((rename_i u;exact Later.calls u (HSG.out u.val u.2))))
    refine wpQuiet_nil ?_
    intro _ hw'
    obtain ⟨u,hw''⟩:=hw'
    subst hw''
    have hbu:=u.2
    generalize u.val=wu at hbu ⊢
    have HRBu:=hidP (HRB3.out.below hbu)
    have HPLu:Hid (PiecesAt wu pa ps∧JointsAt wu ja js∧PiecesAt wu sa ss):=⟨HPL4.out.1.below hbu,HPL4.out.2.1.below hbu,HPL4.out.2.2.below hbu⟩
    have g0:=cell_later hbu f0
    have g1:=cell_later hbu f1
    have g2:=cell_later hbu f2
    clear hbu m0 m1 m2 hne HSG HPL4 HRB3 f0 f1 f2
    have hnr : -1≤nb∧nb<60:=by
     rw [← HNB.out]
     rcases nextB_range ss p way pos ss.length (Nat.le_refl _) with h | ⟨b,hb,_,h,_⟩
     ·rw [h];omega
     ·rw [h];have:=R.out.ns;omega
    have hcs:(nb<0∧rb=true)∨0≤nb∨(nb<0∧rb=false):=by cases rb <;> simp <;> omega
    rcases hcs with ⟨hnn,hrt⟩ | hnn | ⟨hnn,hrt⟩
    ·subst hrt
     have HEV:Hid (evs ps js ss (n+1) (pathOf i (pre++[⟨p,way⟩]) lies crosses) pos=[pathOf i (pre++[⟨p,way⟩]) lies crosses]):=by
      refine evs_round (s:=⟨(p:Int),way⟩) ?_ ?_
      ·show ¬ 0≤nextB ss p way pos ss.length
       rw [HNB.out];omega
      ·obtain ⟨x,hx,h⟩:=List.any_eq_true.1 HRB.out
       rw [← sameS_iff.1 h];exact hx
     go_wp2_with fail
     (try simp only [Exit.inBlock,Exit.then])
     refine bodyPost_ret (results_none rfl _ _ _) rfl ?_
     refine ⟨rfl,xo,yo,t+1,pr,(HX.out wu HRBu.out.hB).1,(HX.out wu HRBu.out.hB).2,(by rw [HEV.out];exact Went.one rfl),by omega,hpr⟩
    ·have HEV:Hid (evs ps js ss (n+1) (pathOf i (pre++[⟨p,way⟩]) lies crosses) pos=[endP i nb (pre++[⟨p,way⟩]) lies crosses]):=by
      have h:=evs_signal (ps:=ps) (js:=js) (ss:=ss) (n:=n) (i:=i) (pre:=pre) (s:=⟨(p:Int),way⟩) (lies:=lies) (crosses:=crosses) (pos:=pos) (by show 0≤nextB ss p way pos ss.length;rw [HNB.out];exact hnn)
      unfold Hid
      rw [h]
      show [endP i (nextB ss p way pos ss.length) _ _ _]=_
      rw [HNB.out]
     obtain ⟨b,hb,hnbb,hsl,hsb⟩:∃ (b:Nat) (hb:b<ss.length),nb=b∧ss[b].len=p∧ss[b].brake=way:=by
      rcases nextB_range ss p way pos ss.length (Nat.le_refl _) with h | ⟨b,hb,_,h,h1,h2⟩
      ·rw [HNB.out] at h;omega
      ·exact ⟨b,hb,by rw [← HNB.out];exact h,h1,h2⟩
     subst hnbb
     obtain ⟨q,hq,hq1,hq2,hq3,hq4⟩:=R.out.sig b hb
     have hqp:q=p:=by have h:(q:Int)=p:=hq1.symm.trans hsl;omega
     subst hqp
     obtain ⟨bs,os,hsa,hpcs⟩:=HPLu.out.2.2.2.2.resolve_left (nz hb)
     subst hsa
     obtain ⟨_,_,j2,_⟩:=hpcs b hb
     obtain ⟨en,hen⟩:∃ en,farI ps q ss[b].speed way=en:=⟨_,rfl⟩
     have HEN:=hidP hen
     have HENR:Hid (0≤far∧far≤10000000∧0≤en∧en≤10000000):=by
      unfold Hid
      have h1:=ok.out.p0
      have h2:=ok.out.p1
      have h3:=lenI_at hp
      dsimp only at h2
      rw [h3] at h2
      rw [← HFAR.out,← hen]
      unfold farI
      rw [h3]
      split <;> omega
     have HFR:Hid (∀ u:World,Below wu.heap.size wu u→Calls Tryz.prog 36 #[.agg #[.slice pa ps.length pc,.slice ja js.length jc],.int .i64 q,.int .i64 ss[b].speed,.int .i64 way] u fun e w'=>e = .returned (.int .i64 en)∧Below u.heap.size u w'):=by
      intro u hu
      rw [← HEN.out]
      exact l2far_any pa ja pc js.length jc ps q ss[b].speed way u (HPLu.out.1.below hu) hp hL (by omega) (by omega)
     obtain ⟨pt,hpt⟩:∃ pt,specPart ps q way far en=pt:=⟨_,rfl⟩
     have HPT:=hidP hpt
     have HPC:Hid (∀ u:World,Below wu.heap.size wu u→Calls Tryz.prog 76 #[.agg #[.slice pa ps.length pc,.slice ja js.length jc],.int .i64 q,.int .i64 way,.int .i64 far,.int .i64 en] u fun e w'=>e = .returned (.agg #[.int .i64 pt.piece,.int .i64 pt.lo,.int .i64 pt.hi])∧Below u.heap.size u w'):=by
      intro u hu
      rw [← HPT.out]
      exact l2part_any pa ja pc js.length jc ps q way far en u (HPLu.out.1.below hu) hp hL HENR.out.1 HENR.out.2.1 HENR.out.2.2.1 HENR.out.2.2.2
     have hbi0:(0:Int)≤b:=by omega
     have hbi:(b:Int)<ss.length:=by omega
     have hz3:=cellLt j2
     dsimp only at hz3
     clear hen hpt hpcs
     go_wp2_with fail
     have m0:=Later.cell g0
     have m1:=Later.cell g1
     have m2:=Later.cell g2
     have m3:=Later.cell j2
     have hne:=later_some wu
     refine wp_region_later (by kernel_rfl) (by kernel_rfl) ?_
     repeat (go_big_quiet_step ((rename_i u;exact Later.calls u (HFR.out u.val u.2))))
     refine wpQuiet_nil ?_
     intro _ hw'
     obtain ⟨u,hw''⟩:=hw'
     subst hw''
     have hbu:=u.2
     generalize u.val=wv at hbu ⊢
     have HRBv:=hidP (HRBu.out.below hbu)
     replace g0:=cell_later hbu g0
     replace g1:=cell_later hbu g1
     have HPCv:Hid (∀ u:World,Below wv.heap.size wv u→Calls Tryz.prog 76 #[.agg #[.slice pa ps.length pc,.slice ja js.length jc],.int .i64 q,.int .i64 way,.int .i64 far,.int .i64 en] u fun e w'=>e = .returned (.agg #[.int .i64 pt.piece,.int .i64 pt.lo,.int .i64 pt.hi])∧Below u.heap.size u w'):=fun u hu=>HPC.out u (hbu.trans (hu.mono hbu.size))
     clear m0 m1 m2 m3 hne HFR HPC hbu HRBu HPLu g2 j2 hz3
     have q5:=HRBv.out.qc.q5
     have qz5:=HRBv.out.qc.z 5
     have hFQ:F≠w.heap.size:=by omega
     have hFv:F<wv.heap.size:=cellLt g0
     have hQv:w.heap.size<wv.heap.size:=HRBv.out.qc.lt
     have hBv:=HRBv.out.BW
     dsimp only at q5
     go_wp2_with fail
     go_cut [] (fun wx => ∃ x3' y3',Hid (RB W1 wx w.heap.size w.heap.size wr.heap.size x' y' x1 y1 x2 y2 x3' y3' (.slice none 0 0) (.slice none 0 0) ⟨i,0,pre++[⟨q,way⟩],lies,crosses,pl++[pt],[],[]⟩))
     case first =>
      go_region_law
       (first
        | (refine step_push0 (by rfl) (.tmp 109) (.tmp 119) 41 (by rfl) wr.heap.size 48 _ 3 24 Tryz.underlying41 Tryz.infoPart (by rfl) (by decide) (.slice x3 pl.length y3) pl.length (flatP pl) (by rfl) HRB5.out.own.o3 w5.heap.size (by rfl) [.int .i64 pt.piece,.int .i64 pt.lo,.int .i64 pt.hi] (by rfl) (by rfl) (by simp [Value.oneCell']) (by have:=HPL2.out;unfold maxLen;omega) (by have:=HPL2.out;omega) (by omega) ?_;intro x3' y3' w6 ho6 hg6;rw [flatP_push] at ho6;have HRB6:=hidP (HRB5.out.push3 hg6 ho6);have hq6:=HRB5.out.qc.of_block (hg6.block _ HRB5.out.qc.lt (HRB5.out.nQ HRB5.out.own.o3 (by decide)));have s5:=hq6.q5;have t5:=hq6.z 5;have hnF:some F≠(Value.slice x3 pl.length y3).ownBlock:=(fun e=>by have:=(HRB5.out.own.o3.lt F e.symm).1;omega);have k0':=hg6.cell g0 hnF;have k1':=hg6.cell g1 hnF;clear ho6 hg6 hq6)
        | (go_simp;go_wp2_with (go_at_call 76;refine (HPCv.out _ (Below.refl _ _).drew).mono ?_;rintro e w5 ⟨rfl,hb5'⟩;have hb5:Below wv.heap.size wv w5:=(Below.refl _ _).drew.trans hb5';replace g0:=cell_later hb5 g0;replace g1:=cell_later hb5 g1;replace q5:=cell_later hb5 q5;have HRB5:=hidP (HRBv.out.below hb5);have hz5:=hb5.size;have hF5:F<w5.heap.size:=(by omega);have hQ5:w.heap.size<w5.heap.size:=(by omega);clear hb5' hb5)))
      all_goals
       go_wp2_with fail
       go_meet
       exact ⟨x3',y3',HRB6⟩
     case rest =>
      obtain ⟨x3',y3',HRBc⟩:=hcut
      have HRT:Hid ((⟨i,b,pre++[⟨q,way⟩],lies,crosses,pl++[pt],behindF ps js (over.toNat+1) ⟨q,way⟩ ss[b].speed over,flanksF ps js ss lies lies⟩:MRoute)=routeF ps js ss over (endP i b (pre++[⟨q,way⟩]) lies crosses)):=by
       unfold Hid
       rw [← HPL.out,← HPT.out,← HFAR.out,← HEN.out]
       exact route_signal ok.out HWAY.out hb HNB.out hsl hsb
      obtain ⟨L,hL'⟩:∃ L,pre++[(⟨(q:Int),way⟩:MStep)]=L:=⟨_,rfl⟩
      obtain ⟨PL,hPL'⟩:∃ PL,pl++[pt]=PL:=⟨_,rfl⟩
      obtain ⟨ov,hov⟩:∃ ov,behindF ps js (over.toNat+1) ⟨q,way⟩ ss[b].speed over=ov:=⟨_,rfl⟩
      rw [hL',hPL'] at HRBc
      rw [hL',hPL',hov] at HRT
      have HRB6:=hidP (HRBc.out.set1 b)
      have q1:=HRBc.out.qc.q1
      have qz1:=HRBc.out.qc.z 1
      obtain ⟨W6,hW6⟩:∃ W6,wc.setCell ⟨w.heap.size,1,none⟩ (.int .i64 b)=W6:=⟨_,rfl⟩
      rw [hW6] at HRB6
      have HBY:Hid (Calls Tryz.prog 77 #[.pointer (some ⟨F,0,none⟩),.int .i64 q,.int .i64 way,.int .i64 en] W6 fun e w' => ∃ x y,e = .returned (.slice x ov.length y)∧w'.ownsRow W6.heap.size 48 3 (.slice x ov.length y) ov.length (flatP ov)∧Below W6.heap.size W6 w'):=by
       unfold Hid
       rw [← hov,← HEN.out]
       exact beyond_any F pa ja (some ⟨bs,os,none⟩) pc jc sc ps js ss over R q way ss[b].speed W6 ((HX.out W6 HRB6.out.hB).1.net HP.out HJ.out HS.out) hp HWAY.out (by omega) (by omega) ho0 ho1
      have HW6:=hidP hW6
      have HLE:=hidP hL'
      clear q5 qz5 g0 g1 HPCv HRBv hFv hQv hBv hL' hPL' hov hW6
      dsimp only at q1
      go_wp2_with (go_at_call 77;rw [HW6.out];refine HBY.out.mono ?_;rintro e w7 ⟨x4,y4,rfl,ho7,hb7⟩;have HRB7:=hidP (HRB6.out.below hb7);have HO7:=hidP ho7;have HB7:=hidP hb7;obtain ⟨e0,e1,e2,e3,e4,e5,e6,e7,ez,_⟩:=HRB7.out.qc;have ez6:=ez 6;dsimp only at e0 e1 e2 e3 e4 e5;clear ho7 hb7 ez)
      have HRB8:=hidP ((HRB7.out.set6 (.slice x4 ov.length y4)).over ov)
      have hQ6:w.heap.size<W6.heap.size:=HRB6.out.qc.lt
      have HO8:Hid ((w7.setCell ⟨w.heap.size,6,none⟩ (.slice x4 ov.length y4)).ownsRow W6.heap.size 48 3 (.slice x4 ov.length y4) ov.length (flatP ov)):=ownsRow_setCell_below HO7.out hQ6 _
      refine (done_rb R HP HJ HS hfl (HX.out _ HRB8.out.hB).1 HRB8.out (by omega) (by omega) ok.out.lv ok.out.ld).mono ?_
      intro e w9 hd
      have hend:=walk_end (n:=n) (HX.out _ HRB8.out.hB).1 (HX.out _ HRB8.out.hB).2 HRB8.out (by omega) HO8.out (by omega) hd (p':=endP i b L lies crosses) rfl HRT.out (by omega) (by omega)
      have he:=hend.1
      subst he
      rw [← HLE.out,← HEV.out] at hend
      have HND:=hidP hend
      clear hd hend e0 e1 e2 e3 e4 e5 e6 e7 ez6
      go_wp2_with fail
      (try simp only [Exit.inBlock,Exit.then])
      refine bodyPost_ret (results_none rfl _ _ _) rfl ?_
      exact HND.out
    ·exfalso
     rcases hA.out with h | h | h
     ·exact h hlim
     ·rw [HNB.out] at h;omega
     ·have h2:pre.any (fun s=>sameS s ⟨p,way⟩)=true:=List.any_eq_true.2 ⟨_,h,sameS_iff.2 rfl⟩
      rw [HRB.out,hrt] at h2
      cases h2
end Go.Proofs.YtmkdgnmmebldgaaGreatDoor
