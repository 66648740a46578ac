import Derived.Test.YtmkdgnmmebldgaaGreatDoorPt14
set_option maxRecDepth 100000
set_option maxHeartbeats 8000000
namespace Go.Proofs.YtmkdgnmmebldgaaGreatDoor
open Go.RowKit Go.Deep
theorem ownBlock_len (x:Option Addr)(n m y z:Nat):(Value.slice x n y).ownBlock=(Value.slice x m z).ownBlock:=by cases x <;> rfl
theorem Tame.len {w:World}{v:Value}{x:Option Addr}{n y:Nat}(h:Tame w v (.slice x n y))(m:Nat):Tame w v (.slice x m y):=fun b hb=>h b (by rw [ownBlock_len x n m y y];exact hb)
theorem flank_step (w0:World)(B F Q:Nat)(pa ja sa la:Option Addr)(pc jc sc lc:Nat)(ps:List MPiece)(js:List MJoint)(ss:List MPiece)(lies:List MLie)(pl:Int)(n:Nat)(R:Hid (Right ps js ss))(b0:Hid (LB w0 B F Q pa ja sa la ps js ss lies))(ih:Hid (LookSpec w0 B F Q pa ja sa la pc jc sc lc ps js ss lies pl n))
  (st:List MEnd × List MFlank) (p:Nat) (hp:p<ps.length) (sd:Int) (hsd:sd=0∨sd=1) (xs:Option Addr) (ys:Nat) (xf:Option Addr) (yf:Nat) (w:World) (hk:Hid (LK w0 w B F Q pa ja sa la pc jc sc lc ps.length js.length ss.length lies xs ys xf yf st)) (hs:Hid (Seen ps st.1)) (hfl:st.2.length+2*ps.length≤100000+st.1.length) (hn:2*ps.length+1≤(n+1)+st.1.length) :
  Calls Tryz.prog 110 #[.pointer (some ⟨F,0,none⟩),.pointer (some ⟨Q,0,none⟩),.int .i64 pl,.agg #[.int .i64 p,.int .i64 sd]] w (FlankPost w0 w B F Q pa ja sa la pc jc sc lc ps.length js.length ss.length lies (.slice xs st.1.length ys) (.slice xf st.2.length yf) (lookF js ss lies pl (n+1) st ⟨p,sd⟩)):=by
 have hfew:=hs.out.few
 have hpn:=R.out.np
 have hz6:=hk.out.s6
 have hFz:=cellLt hk.out.s6
 have hQz:=cellLt hk.out.f7
 dsimp only at hQz
 go_enter Tryz.func110,Tryz.ntmps110
 go_wp2_with fail
 generalize hW:w.alloc (Obj.cells #[Value.int IntKind.i64 p,Value.int IntKind.i64 sd] 114)=W
 have e0:W.cell? ⟨w.heap.size,0,none⟩=some (.int .i64 p):=by rw [← hW];simp [go_sem]
 have e1:W.cell? ⟨w.heap.size,1,none⟩=some (.int .i64 sd):=by rw [← hW];simp [go_sem]
 have hz:w.heap.size+1=W.heap.size:=by rw [← hW];simp
 have hbW:Below w.heap.size w W:=by rw [← hW];exact blo
 have HK:=hidP (hk.out.below hbW)
 clear hW hz6
 go_loopw [25] (fun c wr => ∃ (m:Nat),m≤st.1.length∧c = .int .i64 m∧Hid (∀ q (hq:q<st.1.length),q<m→sameE st.1[q] ⟨p,sd⟩=false)∧Below W.heap.size W wr) (fun c _=>st.1.length-(intOf c).toNat)
 case atStart=>exact ⟨0,Nat.zero_le _,rfl,(fun q _ h=>absurd h (Nat.not_lt_zero q)),Below.refl _ _⟩
 case round =>
  obtain ⟨m,hm,rfl,HQ,hb⟩:=hrel
  have hbs:=hb.size
  have hz2:w.heap.size<wr.heap.size:=by omega
  have f0:=cell_later hb e0
  have f1:=cell_later hb e1
  by_cases hm':m<st.1.length
  ·obtain ⟨xa,ya,hxy,hea,_,_⟩:=ownE HK.out.oS (by unfold maxLen;omega)
   cases hxy
   obtain ⟨b1,off1,rfl,hpc⟩:=hea.2.resolve_left (nz hm')
   obtain ⟨d0,d1⟩:=(hpc.below hb) m hm'
   have hzd:=cellLt d0
   clear hpc hea
   cases t:sameE st.1[m] ⟨p,sd⟩
   ·have HQ2:Hid (∀ q (hq:q<st.1.length),q<m+1→sameE st.1[q] ⟨p,sd⟩=false):=by
     intro q hq hqm
     by_cases e:q<m
     ·exact HQ.out q hq e
     ·have:q=m:=by omega
      subst this;exact t
    have hcs:(st.1[m].piece==(p:Int))=false∨(st.1[m].piece==(p:Int))=true∧(st.1[m].side==sd)=false:=by
     unfold sameE at t
     revert t
     cases (st.1[m].piece==(p:Int)) <;> cases (st.1[m].side==sd) <;> simp
    clear HQ t
    rcases hcs with h1 | ⟨h1,h2⟩
    all_goals
     go_wp2_with fail
     go_roundw
     case rel=>exact ⟨m+1,by omega,by go_num,HQ2,blo⟩
     case measure=>simp [intOf];omega
   ·have HX:Hid (lookF js ss lies pl (n+1) st ⟨p,sd⟩=st):=by
     unfold Hid
     simp only [lookF]
     rw [if_pos (List.any_eq_true.2 ⟨_,List.getElem_mem hm',t⟩)]
    have h12:st.1[m].piece=(p:Int)∧st.1[m].side=sd:=by
     have:=sameE_iff.1 t
     rw [this]
     exact ⟨rfl,rfl⟩
    rw [h12.1] at d0
    rw [h12.2] at d1
    clear HQ t h12
    have hbz:Below w.heap.size w wr:=hbW.trans (hb.mono hbW.size)
    go_wp2_with fail
    (try simp only [Exit.inBlock,Exit.then])
    refine bodyPost_ret (results_none rfl _ _ _) rfl ?_
    rw [HX.out]
    refine ⟨rfl,⟨_,_,_,_,hk.out.below ?_,Tame.refl _ _,Tame.refl _ _⟩,Turn.of_below ?_ hFz hQz⟩
    ·exact blo
    ·exact blo
  ·have HA:Hid (¬ st.1.any (fun x=>sameE x ⟨p,sd⟩)=true):=by
    rw [Hid,List.any_eq_true]
    rintro ⟨x,hx,ht⟩
    obtain ⟨i,hi,rfl⟩:=List.getElem_of_mem hx
    rw [HQ.out i hi (by omega)] at ht
    cases ht
   have HKr:=hidP (HK.out.below hb)
   have g6:=HKr.out.s6
   have z6:=HKr.out.z6
   have hFr:=cellLt g6
   have hFB:=b0.out.f1
   have hBz:=HKr.out.bz
   have hBw:=hk.out.bz
   clear HQ
   have hne:some F≠(Value.slice xs st.1.length ys).ownBlock:=fun e=>by have:=(HKr.out.oS.lt F e.symm).1;omega
   have hne2:some w.heap.size≠(Value.slice xs st.1.length ys).ownBlock:=fun e=>by have:=(hk.out.oS.lt w.heap.size e.symm).2;omega
   go_wp2_with fail
   go_cut [] (fun wx => ∃ x' y',Hid (LK w0 wx B F Q pa ja sa la pc jc sc lc ps.length js.length ss.length lies x' y' xf yf (st.1++[⟨p,sd⟩],st.2))∧Hid (Turn F Q (.slice xs st.1.length ys) (.slice xf st.2.length yf) wr wx)∧Hid (Tame wr (.slice xs st.1.length ys) (.slice x' (st.1.length+1) y'))∧wx.cell? ⟨w.heap.size,0,none⟩=some (.int .i64 p)∧wx.cell? ⟨w.heap.size,1,none⟩=some (.int .i64 sd))
   case first =>
    go_region_law
     ((refine step_push (by rfl) (.tmp 37) (.tmp 39) 83 (by rfl) B 114 _ 2 16 Tryz.underlying83 Tryz.infoE (by rfl) (by decide) (.slice xs st.1.length ys) st.1.length (flatE st.1) (by rfl) HKr.out.oS wr.heap.size (by rfl) [.int .i64 p,.int .i64 sd] (by rfl) (by rfl) (by simp [Value.oneCell']) (by unfold maxLen;omega) (by omega) (by omega) ?_;intro x' y' w2 ho2 hg2 ht2;have HT2:=hidP ht2;have h6:=hg2.cell g6 hne;have h6z:=(World.frozen?_of_block (a:=⟨F,6,none⟩) (hg2.block F hFr hne)).trans z6;have h60:=hg2.cell f0 hne2;have h61:=hg2.cell f1 hne2;rw [flatE_push _ ⟨p,sd⟩] at ho2;have HP2:=hidP (LK.pushS b0.out HKr.out hg2 ho2);clear ho2 hg2 ht2))
    all_goals
     go_wp2_with fail
     go_meet
     refine ⟨x',y',HP2.out.1,HP2.out.2,HT2,?_,?_⟩
     ·rw [World.cell?_setCell_other _ _ _ _ (by simp)];exact h60
     ·rw [World.cell?_setCell_other _ _ _ _ (by simp)];exact h61
   case rest =>
    obtain ⟨x',y',HL,HON,HTA,k0,k1⟩:=hcut
    have hzc:=cellLt k0
    have HONW:Hid (Turn F Q (.slice xs st.1.length ys) (.slice xf st.2.length yf) w wc):=LKR.trans (Turn.of_below (hbW.trans (hb.mono hbW.size)) hFz hQz) (Tame.refl _ _) (Tame.refl _ _) HON.out
    have HTW:Hid (Tame w (.slice xs st.1.length ys) (.slice x' (st.1.length+1) y')):=HTA.out.later (Nat.le_trans hbW.size hb.size)
    clear HON HTA
    clear f0 f1 g6 z6 hFr hne hne2 hb hbs hz2 HKr e0 e1 hz
    obtain ⟨wy,hwy⟩:∃ wy,(if sd=0 then (-1:Int) else 1)=wy:=⟨_,rfl⟩
    have HWY:=hidP hwy
    have HW:Hid (wy=1∨wy = -1):=by unfold Hid;rw [← hwy];split <;> simp
    go_upto_if 45 with fail
    go_cut [10] (fun s10 wx=>s10 = .int .i64 wy∧wx=wc)
    case first =>
     rcases hsd with rfl | rfl
     ·have:wy = -1:=by rw [← hwy];rfl
      subst this
      go_wp2_with fail
      go_meet
      exact ⟨rfl,rfl⟩
     ·have:wy=1:=by rw [← hwy];rfl
      subst this
      go_wp2_with fail
      go_meet
      exact ⟨rfl,rfl⟩
    case rest =>
     obtain ⟨rfl,rfl⟩:=hcut
     clear hwy
     have n0:=HL.out.c0
     have n1:=HL.out.c1
     have n2:=HL.out.c2
     have hFc:=cellLt n0
     have HP:=hidP (b0.out.P.below HL.out.base)
     have HS:=hidP (b0.out.S.below HL.out.base)
     have hsl:=R.out.ns
     go_wp2_with fail
     go_loopw [11,51] (fun b c wl => ∃ (k:Nat),k≤ss.length∧c = .int .i64 k∧b = .int .i64 (guardB ss p wy k)∧Below wc.heap.size wc wl) (fun _ c _=>ss.length-(intOf c).toNat)
     case atStart=>exact ⟨0,Nat.zero_le _,rfl,rfl,Below.refl _ _⟩
     case round =>
      obtain ⟨k,hk1,rfl,rfl,hb⟩:=hrel
      have hbs:=hb.size
      have hzl:w.heap.size<wr.heap.size:=by omega
      have hFl:F<wr.heap.size:=by omega
      replace n0:=cell_later hb n0
      replace n1:=cell_later hb n1
      replace n2:=cell_later hb n2
      replace k0:=cell_later hb k0
      replace k1:=cell_later hb k1
      by_cases hk':k<ss.length
      ·obtain ⟨b1,off1,rfl,hpc⟩:=HS.out.2.2.resolve_left (nz hk')
       obtain ⟨c1,c2,c3,c4⟩:=(hpc.below hb) k hk'
       have HPC:=hidP hpc
       have HR:=hidP (guardB_range ss p wy k hk1)
       have hsp:0≤ss[k].speed∧ss[k].speed≤10000000:=by
        obtain ⟨q,hq,_,_,h1,h2⟩:=R.out.sig k hk'
        have:=R.out.plen q hq
        omega
       obtain ⟨hs0,hs1⟩:=hsp
       have hl:=R.out.plen p hp
       clear hpc
       cases t1:(ss[k].len==(p:Int))
       ·have HN:=hidP (guardB_skip (way:=wy) hk' (Or.inl (by simpa using t1)))
        go_wp2_with fail
        go_quiet (fail)
        all_goals
         go_wp2_with fail
         go_roundw
         case rel=>exact ⟨k+1,by omega,by go_num,by rw [HN.out],blo⟩
         case measure=>simp [intOf];omega
       cases t2:(ss[k].brake==wy)
       ·have HN:=hidP (guardB_skip (p:=(p:Int)) hk' (Or.inr (by simpa using t2)))
        go_wp2_with fail
        go_quiet (fail)
        all_goals
         go_wp2_with fail
         go_roundw
         case rel=>exact ⟨k+1,by omega,by go_num,by rw [HN.out],blo⟩
         case measure=>simp [intOf];omega
       have HT:Hid (¬ (ss[k].len≠(p:Int)∨ss[k].brake≠wy)):=by
        have h1:ss[k].len=(p:Int):=by simpa using t1
        have h2:ss[k].brake=wy:=by simpa using t2
        rintro (h | h)
        ·exact h h1
        ·exact h h2
       rcases HR.out with hn | ⟨b,hb1,hb2,hn,hb3,hb4⟩
       ·have HN:=hidP (guardB_take (p:=(p:Int)) hk' HT.out (Or.inl (by rw [hn];omega)))
        rw [hn]
        clear hn
        go_wp2_with fail
        go_quiet (fail)
        all_goals
         go_wp2_with fail
         go_roundw
         case rel=>exact ⟨k+1,by omega,by go_num,by rw [HN.out],blo⟩
         case measure=>simp [intOf];omega
       ·rw [hn]
        have HA:Hid (farI ps p ss[k].speed wy=farI ps p ss[k].speed wy):=rfl
        have hsb:0≤ss[b].speed∧ss[b].speed≤10000000:=by
         obtain ⟨q,hq,_,_,h1,h2⟩:=R.out.sig b hb1
         have:=R.out.plen q hq
         omega
        obtain ⟨hsb0,hsb1⟩:=hsb
        obtain ⟨g1,g2,g3,g4⟩:=(HPC.out.below hb) b hb1
        have HSig:Hid (sigAt ss (b:Int)=ss[b].speed):=by unfold Hid sigAt;rw [Int.toNat_natCast,List.getElem?_eq_getElem hb1];rfl
        have HGT:=hidP (farI_gt (ps:=ps) (q:=(p:Int)) HW.out (a:=ss[k].speed) (b:=ss[b].speed))
        have HNT:Hid (farI ps p ss[b].speed wy<farI ps p ss[k].speed wy→guardB ss p wy (k+1)=k):=fun h=>guardB_take (p:=(p:Int)) hk' HT.out (Or.inr (by rw [hn,HSig.out];exact HGT.out.1 h))
        have HNL:Hid (farI ps p ss[k].speed wy≤farI ps p ss[b].speed wy→guardB ss p wy (k+1)=b):=fun hh=>by
         have h:¬ farI ps p ss[b].speed wy<farI ps p ss[k].speed wy:=by omega
         rw [guardB_leave (p:=(p:Int)) hk' HT.out (by rw [hn,HSig.out];exact fun h0=>h0.elim (fun h1=>absurd h1 (by omega)) (fun h1=>h (HGT.out.2 h1))),hn]
        have HFK:Hid (∀ u:World,Below wc.heap.size wc u→Calls Tryz.prog 36 #[.agg #[.slice pa ps.length pc,.slice ja js.length jc],.int .i64 p,.int .i64 ss[k].speed,.int .i64 wy] u fun e w'=>e = .returned (.int .i64 (farI ps p ss[k].speed wy))∧Below u.heap.size u w'):=fun u hu=>l2far_any pa ja pc js.length jc ps p ss[k].speed wy u (HP.out.below hu) hp hl hs0 hs1
        have HFB:Hid (∀ u:World,Below wc.heap.size wc u→Calls Tryz.prog 36 #[.agg #[.slice pa ps.length pc,.slice ja js.length jc],.int .i64 p,.int .i64 ss[b].speed,.int .i64 wy] u fun e w'=>e = .returned (.int .i64 (farI ps p ss[b].speed wy))∧Below u.heap.size u w'):=fun u hu=>l2far_any pa ja pc js.length jc ps p ss[b].speed wy u (HP.out.below hu) hp hl hsb0 hsb1
        generalize farI ps p ss[k].speed wy=fk at HNT HNL HFK HGT
        generalize farI ps p ss[b].speed wy=fb at HNT HNL HFB HGT
        clear HGT
        generalize ss[k].speed=sk at c3 HFK hs0 hs1
        generalize ss[b].speed=sb at g3 HFB hsb0 hsb1 HSig
        generalize ss[k].len=lk at c2 t1
        generalize ss[k].brake=bk at c4 t2
        generalize ss[k].name=nk at c1
        have hbk:(b:Int)<ss.length:=by omega
        have hb00:decide ((b:Int)<0)=false:=decide_eq_false (by omega)
        clear hn HA HSig HR g1 g2 g4 HPC
        go_wp2_with fail
        generalize hWs:wr.alloc _=Ws
        have hbs2:Below wr.heap.size wr Ws:=by rw [← hWs];exact blo
        have s1:=Later.cell (show Ws.cell? ⟨wr.heap.size,1,none⟩=some (.int .i64 lk) by rw [← hWs];simp [go_sem])
        have s2:=Later.cell (show Ws.cell? ⟨wr.heap.size,2,none⟩=some (.int .i64 sk) by rw [← hWs];simp [go_sem])
        have s3:=Later.cell (show Ws.cell? ⟨wr.heap.size,3,none⟩=some (.int .i64 bk) by rw [← hWs];simp [go_sem])
        have m0:=Later.cell (cell_later hbs2 n0)
        have m1:=Later.cell (cell_later hbs2 n1)
        have m2:=Later.cell (cell_later hbs2 n2)
        have l0:=Later.cell (cell_later hbs2 k0)
        have r3:=Later.cell (cell_later hbs2 g3)
        have hbWs:=hb.trans (hbs2.mono hb.size)
        have hne:=later_some Ws
        clear hWs
        have hbF:=hbWs
        refine wp_region_later (by kernel_rfl) (by kernel_rfl) ?_
        iterate 24 (go_big_quiet_step (fail))
        go_big_quiet_step ((rename_i u;exact Later.calls u (HFK.out u.val (hbWs.trans (u.2.mono hbWs.size)))))
        iterate 15 (go_big_quiet_step (fail))
        go_big_quiet_step ((rename_i u;exact Later.calls u (HFB.out u.val (hbWs.trans (u.2.mono hbWs.size)))))
        iterate 3 (go_big_quiet_step (fail))
        refine wpQuiet_nil ?_
        intro _ hw'
        obtain ⟨u,hw''⟩:=hw'
        subst hw''
        have hbu:=hbWs.trans (u.2.mono hbWs.size)
        generalize u.val=wu at hbu ⊢
        clear s1 s2 s3 m0 m1 m2 l0 r3
        cases t3:decide (fb<fk)
        ·have HN:Hid (guardB ss p wy (k+1)=b):=HNL.out (by have:=of_decide_eq_false t3;omega)
         go_wp2_with fail
         go_roundw
         case rel=>exact ⟨k+1,by omega,by go_num,by rw [HN.out],hbu⟩
         case measure=>simp [intOf];omega
        ·have HN:Hid (guardB ss p wy (k+1)=k):=HNT.out (of_decide_eq_true t3)
         go_wp2_with fail
         go_roundw
         case rel=>exact ⟨k+1,by omega,by go_num,by rw [HN.out],hbu⟩
         case measure=>simp [intOf];omega
      ·have hkk:k=ss.length:=by omega
       have HLr:=hidP (HL.out.below hb)
       have HO0:=hidP (HONW.out.later hb)
       have q7:wr.cell? ⟨Q,7,none⟩=some (.slice xf st.2.length yf):=HLr.out.f7
       have z7:=HLr.out.z7
       have hQr:=cellLt q7
       dsimp only at hQr
       have hBr:=HLr.out.bz
       have hneQ:some Q≠(Value.slice xf st.2.length yf).ownBlock:=fun e=>by have h1:=(HLr.out.oF.lt Q e.symm).1;have h2:=b0.out.q1;omega
       rw [hkk]
       have HGR:=hidP (guardB_range ss p wy ss.length (Nat.le_refl _))
       clear n2 hk1 hk' HL HONW
       rcases HGR.out with hg | ⟨b,hb1,_,hg,_,_⟩
       ·rw [hg]
        clear HGR q7 z7 hQr hneQ hBr
        have HV:Hid (ValidE ps ⟨p,sd⟩):=⟨p,hp,rfl,hsd⟩
        obtain ⟨j,k',h1,h2⟩:=R.out.spot (farE_valid HV.out)
        obtain ⟨_,hj,hk2,_⟩:=spotF_some h1
        simp only [Nat.sub_zero] at hj hk2
        obtain ⟨hkd1,hkd2,hkl⟩:=R.out.kind j hj
        have HLK:Hid (lookF js ss lies pl (n+1) st ⟨p,sd⟩=if js[j].kind=1 then (st.1++[⟨p,sd⟩],st.2++[⟨pl,1,(j:Int),0⟩]) else if js[j].kind=3∧k'≠0 then (st.1++[⟨p,sd⟩],st.2++[if lieF lies j=k' then ⟨pl,4,(j:Int),0⟩ else ⟨pl,3,(j:Int),3-(k':Int)⟩]) else (beyondF js[j].kind k').foldl (fun s t=>lookF js ss lies pl n s (endE js j t)) (st.1++[⟨p,sd⟩],st.2)):=by
         unfold Hid
         simp only [lookF]
         rw [if_neg HA.out,HWY.out,hg,if_neg (by omega),h2,kindE_at hj]
        have hsd0:0≤sd:=by omega
        have hsd1:sd≤1:=by omega
        obtain ⟨sd',hsd'⟩:∃ s,1-sd=s:=⟨_,rfl⟩
        have HJr:=hidP (b0.out.J.below HLr.out.base)
        have HAt:Hid (∀ u:World,Below wr.heap.size wr u→Calls Tryz.prog 46 #[.agg #[.slice pa ps.length pc,.slice ja js.length jc],.agg #[.int .i64 p,.int .i64 sd']] u fun r w'=>r = .returned (.tuple #[.int .i64 j,.int .i64 k'])∧Below u.heap.size u w'):=fun u hu=>l1at_any pa ja ps.length pc jc js ⟨p,sd'⟩ j k' u (HJr.out.below hu) (by unfold Hid;rw [← hsd'];exact h1)
        have hjl:=R.out.nj
        have HKL:=hidP hkl
        clear hg h1 h2 hkl
        have m0:=Later.cell n0
        have m1:=Later.cell n1
        have l0:=Later.cell k0
        have l1:=Later.cell k1
        have hne:=later_some wr
        go_wp2_with fail
        refine wp_region_later (by kernel_rfl) (by kernel_rfl) ?_
        repeat (go_big_quiet_step ((rename_i u;exact Later.calls u (HAt.out u.val u.2))))
        refine wpQuiet_nil ?_
        intro _ hw'
        obtain ⟨u,hw''⟩:=hw'
        subst hw''
        have hbu:=u.2
        generalize u.val=wu at hbu ⊢
        replace n0:=cell_later hbu n0
        replace n1:=cell_later hbu n1
        have HLu:=hidP (HLr.out.below hbu)
        have HOu:=hidP (HO0.out.later hbu)
        have hFu:=cellLt n0
        dsimp only at hFu
        obtain ⟨bj,offj,hja,hpcj⟩:=b0.out.J.2.2.resolve_left (nz hj)
        obtain ⟨c1',c2',ea,ec,c3',c4'⟩:=hpcj j hj
        have c1:=cell_later HLu.out.base c1'
        have c2:=cell_later HLu.out.base c2'
        have c3:=cell_later HLu.out.base c3'
        have HEA:=hidP c4'
        subst hja
        have hbsu:=hbu.size
        clear m0 m1 l0 l1 hne HAt HJr HLr HO0 hpcj c1' c2' c3' c4' k0 k1 hb hbs hbu HP HS n0 hzl hFl
        have hk4:js[j].kind=1∨js[j].kind=3∨(js[j].kind=2∨js[j].kind=4):=by omega
        rcases hk4 with hkv | hkv | hkv
        ·have HX:Hid (lookF js ss lies pl (n+1) st ⟨p,sd⟩=(st.1++[⟨p,sd⟩],st.2++[⟨pl,1,(j:Int),0⟩])):=by unfold Hid;rw [HLK.out,if_pos hkv]
         rw [hkv] at c1
         have q7u:wu.cell? ⟨Q,7,none⟩=some (.slice xf st.2.length yf):=HLu.out.f7
         have hQu:=cellLt q7u
         dsimp only at hQu
         clear HLK
         go_wp2_with (at_builtin;generalize hWj:wu.alloc _=Wj;have hbj:Below wu.heap.size wu Wj:=(by rw [← hWj];exact blo);have HLj:=hidP (HLu.out.below hbj);have HOj:=hidP (HOu.out.later hbj);have HZj:Hid (wu.heap.size+1=Wj.heap.size):=(by rw [← hWj];unfold Hid;simp);clear hWj;have q7:Wj.cell? ⟨Q,7,none⟩=some (.slice xf st.2.length yf):=HLj.out.f7;have z7:=HLj.out.z7;have hQr:=cellLt q7;dsimp only at hQr;have hBr:=HLj.out.bz;have hneQ:some Q≠(Value.slice xf st.2.length yf).ownBlock:=(fun e=>by have h1:=(HLj.out.oF.lt Q e.symm).1;have h2:=b0.out.q1;omega);refine wpList_push2 rfl (.tmp 156) (.tmp 160) 42 rfl B 50 _ 4 32 Tryz.underlying42 Tryz.infoFlank rfl (by decide) (.slice xf st.2.length yf) st.2.length (flatF st.2) rfl HLj.out.oF (wu.heap.size+1) HZj.out [.int .i64 pl,.int .i64 1,.int .i64 (j:Int),.int .i64 0] rfl rfl (by simp [Value.oneCell']) (by unfold maxLen;omega) (by omega) (by omega) ?_;intro x2 y2 w3 ho3 hg3 ht3;have HT3:=hidP ht3;have h7:=hg3.cell q7 hneQ;have h7z:=(World.frozen?_of_block (a:=⟨Q,7,none⟩) (hg3.block Q hQr hneQ)).trans z7;have hQ3:=cellLt h7;rw [flatF_push _ ⟨pl,1,(j:Int),0⟩] at ho3;have HP3:=hidP (LK.pushF b0.out HLj.out hg3 ho3);clear ho3 hg3 ht3)
         (try simp only [Exit.inBlock,Exit.then])
         first
          | refine bodyPost_ret (results_none rfl _ _ _) rfl ?_
          | refine bodyPost_end (results_none rfl _ _ _) rfl ?_
          | go_end0
         rw [HX.out]
         exact ⟨rfl,⟨x',y',x2,y2,HP3.out.1,HTW.out.len _,(HT3.out.later HOj.out.size).len _⟩,LKR.trans HOj.out (HTW.out.len _) (Tame.refl _ _) HP3.out.2⟩
        ·have hl3:js[j].ends.length=3:=by have:=HKL.out;omega
         have HSn:Hid (Seen ps (st.1++[⟨p,sd⟩])):=hs.out.push HV.out HA.out
         rw [hkv] at c1
         by_cases hk0:k'=0
         ·subst hk0
          have HX:Hid (lookF js ss lies pl (n+1) st ⟨p,sd⟩=lookF js ss lies pl n (lookF js ss lies pl n (st.1++[⟨p,sd⟩],st.2) (js[j].ends[1]'(by omega))) (js[j].ends[2]'(by omega))):=by
           unfold Hid
           rw [HLK.out,if_neg (by omega),if_neg (by simp),hkv,show beyondF 3 0=[1,2] from rfl,List.foldl_cons,List.foldl_cons,List.foldl_nil,endE_at hj (by omega),endE_at hj (by omega)]
          have HV1:Hid (ValidE ps (js[j].ends[1]'(by omega))):=R.out.ends j hj 1 (by omega)
          have HV2:Hid (ValidE ps (js[j].ends[2]'(by omega))):=R.out.ends j hj 2 (by omega)
          obtain ⟨be,oe,hea,hpe⟩:=HEA.out.2.resolve_left (fun h=>by rw [h] at hl3;simp at hl3)
          subst hea
          have HPE:=hidP hpe
          obtain ⟨g1,g2⟩:=(hpe.below HLu.out.base) 1 (by omega)
          have g1b:wu.cell? ⟨be,oe+2,none⟩=some (.int .i64 (js[j].ends[1]'(by omega)).piece):=g1
          have g2b:wu.cell? ⟨be,oe+3,none⟩=some (.int .i64 (js[j].ends[1]'(by omega)).side):=g2
          have g2c:wu.cell? ⟨be,oe+2+1,none⟩=some (.int .i64 (js[j].ends[1]'(by omega)).side):=g2
          have hbe:=cellLt g1b
          dsimp only at hbe
          clear HLK hpe g1 g2
          go_wp2_with fail
          generalize hWj:wu.alloc _=Wj
          have hbj:Below wu.heap.size wu Wj:=by rw [← hWj];exact blo
          have bx:Wj.cell? ⟨wu.heap.size,2,none⟩=some (.slice (some ⟨be,oe,none⟩) 3 ec):=by rw [← hWj];first | (simp [go_sem];done) | (simp [go_sem];exact hl3)
          have HLj:=hidP (HLu.out.below hbj)
          have HOj:=hidP (HOu.out.later hbj)
          have hFB:=b0.out.f1
          have hQB:=b0.out.q1
          have hBu:=HLu.out.bz
          have HNR:Hid (¬ LKR F Q (.slice x' (st.1++[(⟨p,sd⟩:MEnd)]).length y') (.slice xf st.2.length yf) wu.heap.size):=by
           rintro (h | h | h | h)
           ·omega
           ·omega
           ·have:=(HLu.out.oS.lt _ h).2;omega
           ·have:=(HLu.out.oF.lt _ h).2;omega
          clear hWj c1 c2 c3 g1b g2b g2c
          refine (ih.out (st.1++[⟨p,sd⟩],st.2) (js[j].ends[1]'(by omega)) x' y' xf yf Wj HLj HSn HV1 (by simp only [List.length_append,List.length_cons,List.length_nil];omega) (by simp only [List.length_append,List.length_cons,List.length_nil];omega)).mono ?_
          rintro e w5 ⟨rfl,⟨xs5,ys5,xf5,yf5,hk5,t5,t5'⟩,hO5⟩
          have HG5:=hidP (look_grew R.out lies pl n (st.1++[⟨p,sd⟩],st.2) (js[j].ends[1]'(by omega)) HSn.out HV1.out)
          generalize lookF js ss lies pl n (st.1++[⟨p,sd⟩],st.2) (js[j].ends[1]'(by omega))=st5 at HX hk5 t5 t5' HG5
          have HK5:=hidP hk5
          have bx5:=hO5.only.cell bx HNR.out
          have hzb:=cellLt bx5
          dsimp only at hzb
          obtain ⟨g1,g2⟩:=(HPE.out.below hk5.base) 2 (by omega)
          have g1b:w5.cell? ⟨be,oe+4,none⟩=some (.int .i64 (js[j].ends[2]'(by omega)).piece):=g1
          have g2b:w5.cell? ⟨be,oe+5,none⟩=some (.int .i64 (js[j].ends[2]'(by omega)).side):=g2
          have g2c:w5.cell? ⟨be,oe+4+1,none⟩=some (.int .i64 (js[j].ends[2]'(by omega)).side):=g2
          have HO5:Hid (Turn F Q (.slice xs st.1.length ys) (.slice xf st.2.length yf) w w5):=LKR.trans HOj.out (HTW.out.len _) (Tame.refl _ _) hO5
          have HT5:Hid (Tame w (.slice xs st.1.length ys) (.slice xs5 st5.1.length ys5)):=(HTW.out.len _).trans t5 HOj.out.size
          have HF5:Hid (Tame w (.slice xf st.2.length yf) (.slice xf5 st5.2.length yf5)):=t5'.later HOj.out.size
          have hg1:=HG5.out.2.1
          have hg2:=HG5.out.2.2
          simp only [List.length_append,List.length_cons,List.length_nil] at hg1 hg2
          clear hk5 t5 t5' hO5 bx
          go_wp2_with fail
          refine (ih.out st5 (js[j].ends[2]'(by omega)) xs5 ys5 xf5 yf5 w5 HK5 HG5.out.1 HV2 (by omega) (by omega)).mono ?_
          rintro e w6 ⟨rfl,⟨xs6,ys6,xf6,yf6,hk6,t6,t6'⟩,hO6⟩
          have HR6:Hid (FlankPost w0 w B F Q pa (some ⟨bj,offj,none⟩) sa la pc jc sc lc ps.length js.length ss.length lies (.slice xs st.1.length ys) (.slice xf st.2.length yf) (lookF js ss lies pl (n+1) st ⟨p,sd⟩) (.returned (.tuple #[])) w6):=by
           unfold Hid
           rw [HX.out]
           exact ⟨rfl,⟨xs6,ys6,xf6,yf6,hk6,HT5.out.trans t6 HO5.out.size,HF5.out.trans t6' HO5.out.size⟩,LKR.trans HO5.out HT5.out HF5.out hO6⟩
          clear hk6 t6 t6' hO6 bx5 g1 g2 g1b g2b g2c
          go_wp2_with fail
          (try simp only [Exit.inBlock,Exit.then])
          first
           | refine bodyPost_ret (results_none rfl _ _ _) rfl ?_
           | refine bodyPost_end (results_none rfl _ _ _) rfl ?_
           | go_end0
          exact HR6.out
         ·have hk12:k'≤2:=by omega
          have HOp:=hidP (lie_open b0.out.lu (j:=(j:Int)) (k:=(k':Int)) (by omega))
          have hkne:((k':Int)==0)=false:=by rw [beq_eq_false_iff_ne];omega
          have q3:wu.cell? ⟨Q,3,none⟩=some (.slice la lies.length lc):=HLu.out.q3
          have hQu:=cellLt q3
          dsimp only at hQu
          have hln:=b0.out.ln
          go_wp2_with fail
          generalize hWj:wu.alloc _=Wj
          have hbj:Below wu.heap.size wu Wj:=by rw [← hWj];exact blo
          have HLj:=hidP (HLu.out.below hbj)
          have HOj:=hidP (HOu.out.later hbj)
          clear hWj c1 c2 c3 q3 hQu HLu HOu hbj
          go_loopw [189] (fun c wl => ∃ (m':Nat),m'≤lies.length∧c = .int .i64 m'∧Hid (∀ q (hq:q<lies.length),q<m'→¬ (lies[q].piece=(j:Int)∧lies[q].side=(k':Int)))∧Below Wj.heap.size Wj wl) (fun c _=>lies.length-(intOf c).toNat)
          case atStart=>exact ⟨0,Nat.zero_le _,rfl,(fun q _ h=>absurd h (Nat.not_lt_zero q)),Below.refl _ _⟩
          case round =>
           obtain ⟨m',hm1,rfl,HQm,hbl⟩:=hrel
           have HLl:=hidP (HLj.out.below hbl)
           have HOl:=hidP (HOj.out.later hbl)
           have hbls:=hbl.size
           have q7:wr.cell? ⟨Q,7,none⟩=some (.slice xf st.2.length yf):=HLl.out.f7
           have z7:=HLl.out.z7
           have hQr:=cellLt q7
           dsimp only at hQr
           have hBr:=HLl.out.bz
           have hneQ:some Q≠(Value.slice xf st.2.length yf).ownBlock:=(fun e=>by have h1:=(HLl.out.oF.lt Q e.symm).1;have h2:=b0.out.q1;omega)
           by_cases hm2:m'<lies.length
           ·obtain ⟨bl,ol,hla,hpl⟩:=HLl.out.L.2.resolve_left (nz hm2)
            subst hla
            obtain ⟨d0,d1⟩:=hpl m' hm2
            have hdz:=cellLt d0
            dsimp only at hdz
            clear hpl
            cases t1:(lies[m'].piece==(j:Int))
            ·have HQ2:Hid (∀ q (hq:q<lies.length),q<m'+1→¬ (lies[q].piece=(j:Int)∧lies[q].side=(k':Int))):=by
              intro q hq hqm
              by_cases e:q<m'
              ·exact HQm.out q hq e
              ·have:q=m':=by omega
               subst this
               rintro ⟨h,_⟩
               simp [h] at t1
             clear HQm
             go_wp2_with fail
             go_roundw
             case rel=>exact ⟨m'+1,by omega,by go_num,HQ2,blo⟩
             case measure=>simp [intOf];omega
            cases t2:(lies[m'].side==(k':Int))
            ·have HQ2:Hid (∀ q (hq:q<lies.length),q<m'+1→¬ (lies[q].piece=(j:Int)∧lies[q].side=(k':Int))):=by
              intro q hq hqm
              by_cases e:q<m'
              ·exact HQm.out q hq e
              ·have:q=m':=by omega
               subst this
               rintro ⟨_,h⟩
               simp [h] at t2
             clear HQm
             go_wp2_with fail
             go_roundw
             case rel=>exact ⟨m'+1,by omega,by go_num,HQ2,blo⟩
             case measure=>simp [intOf];omega
            have HX:Hid (lookF js ss lies pl (n+1) st ⟨p,sd⟩=(st.1++[⟨p,sd⟩],st.2++[⟨pl,4,(j:Int),0⟩])):=by
             unfold Hid
             rw [HLK.out,if_neg (by omega),if_pos ⟨hkv,hk0⟩,if_pos (HOp.out.2 ⟨m',hm2,by simpa using t1,by simpa using t2⟩)]
            clear HQm HLK
            go_wp2_with (at_builtin;generalize hWl:wr.alloc _=Wl;have hbw:Below wr.heap.size wr Wl:=(by rw [← hWl];exact blo);have HLw:=hidP (HLl.out.below hbw);have HOw:=hidP (HOl.out.later hbw);have HZl:Hid (wr.heap.size+1=Wl.heap.size):=(by rw [← hWl];unfold Hid;simp);clear hWl q7 z7 hQr hBr hneQ;have q7:Wl.cell? ⟨Q,7,none⟩=some (.slice xf st.2.length yf):=HLw.out.f7;have z7:=HLw.out.z7;have hQr:=cellLt q7;dsimp only at hQr;have hBr:=HLw.out.bz;have hneQ:some Q≠(Value.slice xf st.2.length yf).ownBlock:=(fun e=>by have h1:=(HLw.out.oF.lt Q e.symm).1;have h2:=b0.out.q1;omega);refine wpList_push2 rfl (.tmp 207) (.tmp 211) 42 rfl B 50 _ 4 32 Tryz.underlying42 Tryz.infoFlank rfl (by decide) (.slice xf st.2.length yf) st.2.length (flatF st.2) rfl HLw.out.oF (wr.heap.size+1) HZl.out [.int .i64 pl,.int .i64 4,.int .i64 (j:Int),.int .i64 0] rfl rfl (by simp [Value.oneCell']) (by unfold maxLen;omega) (by omega) (by omega) ?_;intro x2 y2 w3 ho3 hg3 ht3;have HT3:=hidP ht3;have h7:=hg3.cell q7 hneQ;have h7z:=(World.frozen?_of_block (a:=⟨Q,7,none⟩) (hg3.block Q hQr hneQ)).trans z7;have hQ3:=cellLt h7;rw [flatF_push _ ⟨pl,4,(j:Int),0⟩] at ho3;have HP3:=hidP (LK.pushF b0.out HLw.out hg3 ho3);clear ho3 hg3 ht3)
            (try simp only [Exit.inBlock,Exit.then])
            first
             | refine bodyPost_ret (results_none rfl _ _ _) rfl ?_
             | refine bodyPost_end (results_none rfl _ _ _) rfl ?_
             | go_end0
            rw [HX.out]
            exact ⟨rfl,⟨x',y',x2,y2,HP3.out.1,HTW.out.len _,(HT3.out.later HOw.out.size).len _⟩,LKR.trans HOw.out (HTW.out.len _) (Tame.refl _ _) HP3.out.2⟩
           ·have HX:Hid (lookF js ss lies pl (n+1) st ⟨p,sd⟩=(st.1++[⟨p,sd⟩],st.2++[⟨pl,3,(j:Int),3-(k':Int)⟩])):=by
             unfold Hid
             rw [HLK.out,if_neg (by omega),if_pos ⟨hkv,hk0⟩,if_neg (fun h=>by obtain ⟨q,hq,e1,e2⟩:=HOp.out.1 h;exact HQm.out q hq (by omega) ⟨e1,e2⟩)]
            clear HQm HLK
            go_wp2_with (at_builtin;refine wpList_push2 rfl (.tmp 220) (.tmp 226) 42 rfl B 50 _ 4 32 Tryz.underlying42 Tryz.infoFlank rfl (by decide) (.slice xf st.2.length yf) st.2.length (flatF st.2) rfl HLl.out.oF wr.heap.size rfl [.int .i64 pl,.int .i64 3,.int .i64 (j:Int),.int .i64 (3-(k':Int))] rfl rfl (by simp [Value.oneCell']) (by unfold maxLen;omega) (by omega) (by omega) ?_;intro x2 y2 w3 ho3 hg3 ht3;have HT3:=hidP ht3;have h7:=hg3.cell q7 hneQ;have h7z:=(World.frozen?_of_block (a:=⟨Q,7,none⟩) (hg3.block Q hQr hneQ)).trans z7;have hQ3:=cellLt h7;rw [flatF_push _ ⟨pl,3,(j:Int),(3-(k':Int))⟩] at ho3;have HP3:=hidP (LK.pushF b0.out HLl.out hg3 ho3);clear ho3 hg3 ht3)
            (try simp only [Exit.inBlock,Exit.then])
            first
             | refine bodyPost_ret (results_none rfl _ _ _) rfl ?_
             | refine bodyPost_end (results_none rfl _ _ _) rfl ?_
             | go_end0
            rw [HX.out]
            exact ⟨rfl,⟨x',y',x2,y2,HP3.out.1,HTW.out.len _,(HT3.out.later HOl.out.size).len _⟩,LKR.trans HOl.out (HTW.out.len _) (Tame.refl _ _) HP3.out.2⟩
        ·have HSn:Hid (Seen ps (st.1++[⟨p,sd⟩])):=hs.out.push HV.out HA.out
         have HNk:Hid (lookF js ss lies pl (n+1) st ⟨p,sd⟩=(beyondF js[j].kind k').foldl (fun s t=>lookF js ss lies pl n s (endE js j t)) (st.1++[⟨p,sd⟩],st.2)):=by unfold Hid;rw [HLK.out,if_neg (by omega),if_neg (by omega)]
         have hkn1:(js[j].kind==1)=false:=by rw [beq_eq_false_iff_ne];omega
         have hkn3:(js[j].kind==3)=false:=by rw [beq_eq_false_iff_ne];omega
         clear HLK
         go_wp2_with fail
         generalize hWj:wu.alloc _=Wj
         have hbj:Below wu.heap.size wu Wj:=by rw [← hWj];exact blo
         have HLj:=hidP (HLu.out.below hbj)
         have HOj:=hidP (HOu.out.later hbj)
         clear hWj c1 c2 c3
         obtain ⟨tt,htt,hbt,hCall⟩:=l1across_one js[j].kind js[j].name js[j].ends k' hk2 HKL.out hkv ea ec Wj (HEA.out.below HLj.out.base)
         have HX:Hid (lookF js ss lies pl (n+1) st ⟨p,sd⟩=lookF js ss lies pl n (st.1++[⟨p,sd⟩],st.2) js[j].ends[tt]):=by unfold Hid;rw [HNk.out,hbt,List.foldl_cons,List.foldl_nil,endE_at hj htt]
         have HVt:Hid (ValidE ps js[j].ends[tt]):=R.out.ends j hj tt htt
         refine hCall.mono ?_
         rintro e w2 ⟨g,rfl,hcells,hb2⟩
         obtain ⟨d0,d1⟩:=hcells 0 (by simp)
         simp only [List.getElem_cons_zero,Nat.zero_mul,Nat.add_zero] at d0 d1
         have HL2:=hidP (HLj.out.below hb2)
         have HO2:=hidP (HOj.out.later hb2)
         have HIH:=hidP (ih.out (st.1++[⟨p,sd⟩],st.2) js[j].ends[tt] x' y' xf yf w2 HL2 HSn HVt (by simp only [List.length_append,List.length_cons,List.length_nil];omega) (by simp only [List.length_append,List.length_cons,List.length_nil];omega))
         have hgz:=cellLt d0
         clear hCall hcells hb2 hbt HNk
         simp only [List.length_cons,List.length_nil]
         go_wp2_with fail
         refine HIH.out.mono ?_
         rintro e w5 ⟨rfl,⟨xs5,ys5,xf5,yf5,hk5,t5,t5'⟩,hO5⟩
         have HK5:=hidP hk5
         have HR5:Hid (FlankPost w0 w B F Q pa (some ⟨bj,offj,none⟩) sa la pc jc sc lc ps.length js.length ss.length lies (.slice xs st.1.length ys) (.slice xf st.2.length yf) (lookF js ss lies pl (n+1) st ⟨p,sd⟩) (.returned (.tuple #[])) w5):=by
          unfold Hid
          rw [HX.out]
          exact ⟨rfl,⟨xs5,ys5,xf5,yf5,hk5,(HTW.out.len _).trans t5 HO2.out.size,t5'.later HO2.out.size⟩,LKR.trans HO2.out (HTW.out.len _) (Tame.refl _ _) hO5⟩
         clear hk5 t5 t5' hO5 HIH d0 d1
         go_wp2_with fail
         (try simp only [Exit.inBlock,Exit.then])
         first
          | refine bodyPost_ret (results_none rfl _ _ _) rfl ?_
          | refine bodyPost_end (results_none rfl _ _ _) rfl ?_
          | go_end0
         exact HR5.out
       ·have HX:Hid (lookF js ss lies pl (n+1) st ⟨p,sd⟩=(st.1++[⟨p,sd⟩],st.2++[⟨pl,2,b,0⟩])):=by
         unfold Hid
         simp only [lookF]
         rw [if_neg HA.out,HWY.out,hg,if_pos (by omega)]
        rw [hg]
        clear HGR hg k0 k1 n0 n1
        go_wp2_with (at_builtin;refine wpList_push2 rfl (.tmp 108) (.tmp 112) 42 rfl B 50 _ 4 32 Tryz.underlying42 Tryz.infoFlank rfl (by decide) (.slice xf st.2.length yf) st.2.length (flatF st.2) rfl HLr.out.oF wr.heap.size rfl [.int .i64 pl,.int .i64 2,.int .i64 b,.int .i64 0] rfl rfl (by simp [Value.oneCell']) (by unfold maxLen;omega) (by omega) (by omega) ?_;intro x2 y2 w3 ho3 hg3 ht3;have HT3:=hidP ht3;have h7:=hg3.cell q7 hneQ;have h7z:=(World.frozen?_of_block (a:=⟨Q,7,none⟩) (hg3.block Q hQr hneQ)).trans z7;have hQ3:=cellLt h7;rw [flatF_push _ ⟨pl,2,b,0⟩] at ho3;have HP3:=hidP (LK.pushF b0.out HLr.out hg3 ho3);clear ho3 hg3 ht3)
        (try simp only [Exit.inBlock,Exit.then])
        refine bodyPost_ret (results_none rfl _ _ _) rfl ?_
        rw [HX.out]
        exact ⟨rfl,⟨x',y',x2,y2,HP3.out.1,HTW.out.len _,(HT3.out.later (Nat.le_trans HO0.out.size (Nat.le_refl _))).len _⟩,LKR.trans HO0.out (HTW.out.len _) (Tame.refl _ _) HP3.out.2⟩
theorem flank_any (w0:World)(B F Q:Nat)(pa ja sa la:Option Addr)(pc jc sc lc:Nat)(ps:List MPiece)(js:List MJoint)(ss:List MPiece)(lies:List MLie)(pl:Int)(R:Hid (Right ps js ss))(b0:Hid (LB w0 B F Q pa ja sa la ps js ss lies)):∀ n,LookSpec w0 B F Q pa ja sa la pc jc sc lc ps js ss lies pl n
 | 0=>fun _ _ _ _ _ _ _ _ hs _ _ h2=>absurd h2 (by have:=hs.out.few;omega)
 | n+1=>fun st e xs ys xf yf w hk hs hv h1 h2=>by
  obtain ⟨p,hp,he,hsd⟩:=hv.out
  obtain ⟨ep,es⟩:=e
  simp only at he hsd
  subst he
  exact flank_step w0 B F Q pa ja sa la pc jc sc lc ps js ss lies pl n R b0 (flank_any w0 B F Q pa ja sa la pc jc sc lc ps js ss lies pl R b0 n) st p hp es hsd xs ys xf yf w hk hs h1 h2
end Go.Proofs.YtmkdgnmmebldgaaGreatDoor
