import Derived.Test.YtmkdgnmmebldgaaGreatDoorPw44
import Derived.Test.YtmkdgnmmebldgaaGreatDoorPw51
import Derived.Test.YtmkdgnmmebldgaaGreatDoorPt18
import Derived.Test.YtmkdgnmmebldgaaGreatDoorPt34
import Derived.Test.YtmkdgnmmebldgaaGreatDoorPw41
import Derived.Test.YtmkdgnmmebldgaaGreatDoorPt25
import Derived.Test.YtmkdgnmmebldgaaGreatDoorPt2
import Derived.Test.YtmkdgnmmebldgaaGreatDoorPt35
import Derived.BigQuiet
import Derived.Deep.DeepCutAuto
import Derived.Test.YtmkdgnmmebldgaaGreatDoorPt14
set_option maxRecDepth 100000
set_option maxHeartbeats 8000000
namespace Go.Proofs.YtmkdgnmmebldgaaGreatDoor
open Go.RowKit Go.Deep
theorem l1across_point (nm:ByteArray)(es:List MEnd)(hl:es.length=3)(ea:Option Addr)(ec:Nat)(w:World)(he:Hid (EndsAt w ea es)):
  Calls Tryz.prog 48 #[.agg #[.int .i64 3,.string nm,.slice ea 3 ec],.int .i64 (0:Nat)] w (AcrossPost w [es[1],es[2]]):=by
 obtain ⟨a,b,c,rfl⟩:=list3 hl;exact l1across_3_0 nm a b c ea ec w he
theorem l1across_leg (nm:ByteArray)(es:List MEnd)(hl:es.length=3)(k:Nat)(hk:k<es.length)(h0:0<k)(ea:Option Addr)(ec:Nat)(w:World)(he:Hid (EndsAt w ea es)):
  Calls Tryz.prog 48 #[.agg #[.int .i64 3,.string nm,.slice ea 3 ec],.int .i64 k] w (AcrossPost w [es[0]]):=by
 obtain ⟨a,b,c,rfl⟩:=list3 hl;have hk2:k=1\/k=2:=by simp at hk;omega
 rcases hk2 with rfl | rfl
 ·exact l1across_3_1 nm a b c ea ec w he
 ·exact l1across_3_2 nm a b c ea ec w he
theorem goF_stop {ps:List MPiece}{js:List MJoint}{ss:List MPiece}{ls:List Int}{n:Nat}{s:MStep}{pos:Int}{out:List MStep}(hb:0<=nextB ss s.piece s.side pos ss.length):goF ps js ss ls (n+1) s pos out=(out++[s],nextB ss s.piece s.side pos ss.length,true):=by
 unfold goF;rw [if_pos hb]
theorem goF_buf {ps:List MPiece}{js:List MJoint}{ss:List MPiece}{ls:List Int}{n:Nat}{s:MStep}{pos:Int}{out:List MStep}(hb:¬ 0<=nextB ss s.piece s.side pos ss.length)(hk:kindE js (spotE js (aheadE s)).1=1):goF ps js ss ls (n+1) s pos out=(out++[s],-1,true):=by
 unfold goF;rw [if_neg hb,if_pos hk]
theorem goF_none {ps:List MPiece}{js:List MJoint}{ss:List MPiece}{ls:List Int}{n:Nat}{s:MStep}{pos:Int}{out:List MStep}(hb:¬ 0<=nextB ss s.piece s.side pos ss.length)(hk:kindE js (spotE js (aheadE s)).1≠1)(he:nextF js ls s=none):goF ps js ss ls (n+1) s pos out=(out++[s],-1,false):=by
 unfold goF;rw [if_neg hb,if_neg hk,he]
def FolS (ps:List MPiece)(js:List MJoint)(ss:List MPiece)(ls:List Int)(A:List MStep × Int × Bool)(W wr:World)(p:Nat)(way far:Int)(x:Option Addr)(k y:Nat):Prop:=
 ∃ pos out,far=farI ps p pos way/\(way=1\/way = -1)/\out.length=k/\wr.ownsRow W.heap.size 46 2 (.slice x k y) k (flatE out)/\goF ps js ss ls (2*ps.length+2-k) ⟨p,way⟩ pos out=A/\Below W.heap.size W wr
def FolOut (A:List MStep × Int × Bool)(w:World)(e:Ending)(w':World):Prop:=
 ∃ x y,e = .returned (.tuple #[.slice x A.1.length y,.int .i64 A.2.1,.bool A.2.2])/\EndsAt w' x A.1/\Below w.heap.size w w'
theorem fol_end {A:List MStep × Int × Bool}{w wr:World}{out:List MStep}{tt:Int}{ok:Bool}{B k y:Nat}{x:Option Addr}(hA:(out,tt,ok)=A)(hk:out.length=k)(ho:wr.ownsRow B 46 2 (.slice x k y) k (flatE out))(hb:Below w.heap.size w wr):FolOut A w (.returned (.tuple #[.slice x k y,.int .i64 tt,.bool ok])) wr:=by
 subst hA;subst hk;exact ⟨x,y,rfl,(own_listE ho).1,hb⟩
theorem fol_next {ps:List MPiece}{js:List MJoint}{ss:List MPiece}{ls:List Int}{A:List MStep × Int × Bool}{W wr:World}{p:Nat}{way pos:Int}{out:List MStep}{x:Option Addr}{k y:Nat}{e:MEnd}{p':Nat}{way':Int}
  (hv:ValidE ps e) (he:e.piece=p') (hs:e.side=0/\way'=1\/e.side=1/\way' = -1) (hA:goF ps js ss ls (2*ps.length+2-k) ⟨p,way⟩ pos out=A) (hk:k<2*ps.length+2) (hb:¬ 0<=nextB ss p way pos ss.length) (hkd:kindE js (spotE js (aheadE ⟨p,way⟩)).1≠1) (hn:nextF js ls ⟨p,way⟩=some e) (hlen:out.length=k)
  (ho:wr.ownsRow W.heap.size 46 2 (.slice x (k+1) y) (k+1) (flatE (out++[⟨p,way⟩]))) (hW:Below W.heap.size W wr):FolS ps js ss ls A W wr p' way' 0 x (k+1) y:=by
 have hf:=(farI_begin hv).1;have h2:2*ps.length+2-k=(2*ps.length+2-(k+1))+1:=by omega
 rw [h2,goF_on (s:=⟨p,way⟩) hb hkd hn] at hA;have hst:stepFromE e=⟨p',way'⟩:=by
  unfold stepFromE;rcases hs with ⟨h1,h2⟩ | ⟨h1,h2⟩
  ·rw [if_pos h1,he,h2]
  ·rw [if_neg (by rw [h1];omega),he,h2]
 rw [hst] at hf hA;exact ⟨endAt ps e,out++[⟨p,way⟩],hf.symm,hs.imp And.right And.right,by simp [hlen],ho,hA,hW⟩
theorem nextF_point {js:List MJoint}{ls:List Int}{s:MStep}{j:Nat}(hs:spotE js (aheadE s)=(j,0))(hj:j<js.length)(h3:js[j].kind=3){t:Nat}(hl:ls[j]?.getD 0=(t:Int)+1)(ht:t+1<js[j].ends.length):nextF js ls s=some js[j].ends[t+1]:=by
 unfold nextF;rw [hs];dsimp only;rw [kindE_at hj,if_pos h3,if_pos rfl,hl,show ((t:Int)+1).toNat=t+1 by omega,endE_at hj ht]
theorem nextF_leg {js:List MJoint}{ls:List Int}{s:MStep}{j k:Nat}(hs:spotE js (aheadE s)=(j,k))(hj:j<js.length)(h3:js[j].kind=3)(hk:k≠0)(h0:0<js[j].ends.length):nextF js ls s=if ls[j]?.getD 0=(k:Int) then some js[j].ends[0] else none:=by
 unfold nextF;rw [hs];dsimp only;rw [kindE_at hj,if_pos h3,if_neg hk,endE_at hj h0]
theorem nextF_plain {js:List MJoint}{ls:List Int}{s:MStep}{j k t:Nat}(hs:spotE js (aheadE s)=(j,k))(hj:j<js.length)(h3:js[j].kind≠3)(hb:beyondF js[j].kind k=[t])(ht:t<js[j].ends.length):nextF js ls s=some js[j].ends[t]:=by
 unfold nextF;rw [hs];dsimp only;rw [kindE_at hj,if_neg h3,hb];dsimp only;rw [endE_at hj ht]
theorem Followed_any (pa ja sa la:Option Addr)(pc jc sc lc:Nat)(ps:List MPiece)(js:List MJoint)(ss:List MPiece)(i:Nat)(ls:List Int)(w:World)(R:Hid (Right ps js ss))(hp:Hid (PiecesAt w pa ps))(hj:Hid (JointsAt w ja js))(hs:Hid (PiecesAt w sa ss))(hl:Hid (NumsAt w la ls))(hll:Hid (ls.length=js.length))(hL:Hid (SetL js ls))(hi:i<ss.length):
  Calls Tryz.prog 17 #[.agg #[.slice pa ps.length pc,.slice ja js.length jc],.slice sa ss.length sc,.int .i64 i,.slice la ls.length lc] w (FolOut (followF ps js ss i ls) w):=by
 obtain ⟨A,hA⟩:∃ A,followF ps js ss i ls=A:=⟨_,rfl⟩;rw [hA];obtain ⟨p0,hp0,e1,e2,e3,e4⟩:=R.out.sig i hi;obtain ⟨hL1,hL2⟩:=R.out.plen p0 hp0;have HA0:Hid (goF ps js ss ls (2*ps.length+2) ⟨p0,ss[i].brake⟩ ss[i].speed []=A):=by
  unfold Hid;rw [<-hA];unfold followF;rw [List.getElem?_eq_getElem hi];dsimp only;rw [e1]
 have HSP:Hid (∀ k (hk:k<ss.length),0<=ss[k].speed/\ss[k].speed<=10000000):=fun k hk=>by
  obtain ⟨p,hp,_,_,h3,h4⟩:=R.out.sig k hk;have:=R.out.plen p hp;omega
 have hnp:=R.out.np;have hnj:=R.out.nj;have hns:=R.out.ns;have hsl:ss.length<=60:=hns;obtain ⟨b1,off1,rfl,hpc⟩:=hs.out.2.2.resolve_left (nz hi);obtain ⟨c1,c2,c3,c4⟩:=hpc i hi;rw [e1] at c2;generalize hwy:ss[i].brake=way0 at c4 e2 HA0;generalize hsp:ss[i].speed=pos0 at c3 e3 e4 HA0;generalize ss[i].name=nm0 at c1;have HW0:Hid (way0=1\/way0 = -1):=e2;have hzs:=cellLt c1;clear hpc hA e1 e2 hwy hsp
 go_enter Tryz.func17,Tryz.ntmps17
 go_wp2_with fail
 refine (l2far_any pa ja pc js.length jc ps p0 pos0 way0 _ (hp.out.below blo) hp0 ⟨hL1,hL2⟩ (by omega) (by omega)).mono ?_
 rintro e W ⟨rfl,hbW'⟩;have hbW:Below w.heap.size w W:=Below.trans (show Below w.heap.size w _ from blo) (hbW'.mono (by simp;omega))
 have e0:W.cell? ⟨w.heap.size,0,none⟩=some (.slice pa ps.length pc):=cell_later hbW' (by simp [go_sem])
 have e1:W.cell? ⟨w.heap.size,1,none⟩=some (.slice ja js.length jc):=cell_later hbW' (by simp [go_sem])
 have HP:=hidP (hp.out.below hbW);have HJ:=hidP (hj.out.below hbW);have HS:=hidP (hs.out.below hbW);have HLS:=hidP (hl.out.below hbW);have HBW:=hidP hbW;have HI0:Hid (FolS ps js ss ls A W W p0 way0 (farI ps p0 pos0 way0) none 0 0):=⟨pos0,[],rfl,HW0.out,rfl,World.ownsRow_nil _ _ _ _,HA0.out,Below.refl _ _⟩;obtain ⟨far0,hfar0⟩:∃ far,farI ps p0 pos0 way0=far:=⟨_,rfl⟩;rw [hfar0] at HI0 ⊢;have hFz:w.heap.size<W.heap.size:=cellLt e0;generalize w.heap.size=F at e0 e1 hFz ⊢;have HPB:Hid (b1=b1):=rfl;clear hfar0 hbW hbW' c1 c2 c3 c4 hp hj hs hl HW0 HA0 hL1 hL2 e3 e4 hzs HPB
 go_wp2_with fail
 go_loopw [12,13,14,15,16] (fun a12 a13 a14 v kk wr => ∃ (k p:Nat) (way far:Int) (x:Option Addr) (y:Nat),a12 = .int .i64 p/\a13 = .int .i64 way/\a14 = .int .i64 far/\v = .slice x k y/\kk = .int .i64 k/\k<=2*ps.length+2/\p<ps.length/\Hid (FolS ps js ss ls A W wr p way far x k y)) (fun _ _ _ _ kk _=>2*ps.length+2-(intOf kk).toNat)
 case atStart=>exact ⟨0,p0,way0,far0,none,0,rfl,rfl,rfl,rfl,rfl,Nat.zero_le _,hp0,HI0⟩
 case round =>
  clear HI0 hp0;obtain ⟨k,p,way,far,x,y,rfl,rfl,rfl,rfl,rfl,hk,hp,HF⟩:=hrel;obtain ⟨pos,out,hfar,hway,hlen,hown,hA,hb⟩:=HF.out;have HFAR:=hidP hfar;have HWAY:=hidP hway;have HLEN:=hidP hlen;have HO:=hidP hown;have HA:=hidP hA;have HB:=hidP hb;have f0:=cell_later hb e0;have f1:=cell_later hb e1;have hbs:=hb.size;have hFr:F<wr.heap.size:=by omega
  clear hfar hway hlen hown hA hb HF
  by_cases hk':k<2*ps.length+2
  ·have hki:(k:Int)<2*(ps.length:Int)+2:=by omega
   obtain ⟨hL1,hL2⟩:=R.out.plen p hp
   go_wp2_with (at_builtin;refine wpList_push rfl (.tmp 46) (.tmp 50) 38 rfl W.heap.size 46 _ 2 16 Tryz.underlying38 Tryz.infoStep rfl (by decide) (.slice x k y) k (flatE out) rfl HO.out wr.heap.size rfl [.int .i64 (p:Int),.int .i64 way] rfl rfl (by simp [Value.oneCell']) (by unfold maxLen;omega) (by omega) (by omega) ?_;intro x3 y3 w3 ho3 hg3;rw [flatE_push out ⟨(p:Int),way⟩] at ho3;have HO3:=hidP ho3;have hb3:=push_below HB.out HO.out hg3 (by omega);clear ho3 hg3 f0 f1;have f0:=cell_later hb3 e0;have f1:=cell_later hb3 e1;have hbs3:=hb3.size;have hF3:F<w3.heap.size:=(by omega))
   rw [HFAR.out];refine (l2signal_any pa ja _ pc js.length jc sc ps ss p way pos _ (HP.out.below hb3) (HS.out.below hb3) hp ⟨hL1,hL2⟩ HWAY.out HSP).mono ?_;rintro e w5 ⟨rfl,hb5'⟩;have hb5:Below W.heap.size W w5:=hb3.trans (hb5'.mono hb3.size);have HO5:=hidP (owns_below HO3.out hb5');have HB5:=hidP hb5;obtain ⟨nb,hnb⟩:∃ nb,nextB ss p way pos ss.length=nb:=⟨_,rfl⟩;rw [hnb];have HNB:=hidP hnb;have q0:=cell_later hb5 e0;have q1:=cell_later hb5 e1;have hbs5:=hb5.size;have HOUT:Hid (∀ (wz:World) (tt:Int) (ok:Bool),goF ps js ss ls ((2*ps.length+2-(k+1))+1) ⟨p,way⟩ pos out=(out++[⟨(p:Int),way⟩],tt,ok)->Below w5.heap.size w5 wz->FolOut A w (.returned (.tuple #[.slice x3 (k+1) y3,.int .i64 tt,.bool ok])) wz):=fun wz tt ok h hz=>by
    rw [show (2*ps.length+2-(k+1))+1=2*ps.length+2-k by omega,HA.out] at h
    refine fol_end h.symm (by simp [HLEN.out]) (owns_below HO5.out hz) ?_
    exact HBW.out.trans ((HB5.out.trans (hz.mono HB5.out.size)).mono HBW.out.size)
   clear hb5' hb5 hb3 hnb f0 f1 HO HB HO3 hF3 hbs3
   by_cases hn0:0<=nb
   ·have HE:=hidP (HOUT.out w5 nb true (by rw [goF_stop (s:=⟨p,way⟩) (by rw [HNB.out];exact hn0)];dsimp only;rw [HNB.out]) (Below.refl _ _))
    go_wp2_with fail
    exact bodyPost_ret (v:=.tuple #[.slice x3 (k+1) y3,.int .i64 nb,.bool true]) (by simp [results,Tryz.results17,go_sem]) rfl HE.out
   have hnn:¬ 0<=nextB ss p way pos ss.length:=by rw [HNB.out];exact hn0
   have HNN:=hidP hnn;clear hnn;have HNX:Hid (∀ (wz:World) (e:MEnd) (p':Nat) (way':Int),nextF js ls ⟨p,way⟩=some e->kindE js (spotE js (aheadE ⟨p,way⟩)).1≠1->ValidE ps e->e.piece=p'->(e.side=0/\way'=1\/e.side=1/\way' = -1)->Below w5.heap.size w5 wz->FolS ps js ss ls A W wz p' way' 0 x3 (k+1) y3):=fun wz e p' way' h1 h2 h3 h4 h5 h6 =>
    fol_next h3 h4 h5 HA.out hk' HNN.out h2 h1 HLEN.out (owns_below HO5.out h6) (HB5.out.trans (h6.mono HB5.out.size))
   obtain ⟨j,ki,hsp,hse⟩:=R.out.spot (aheadE_valid (ps:=ps) (s:=⟨p,way⟩) ⟨p,hp,rfl,HWAY.out⟩);have HSPT:=hidP hsp;have HSE:=hidP hse;obtain ⟨_,hji,hki2,_,_,_⟩:=spotF_some hsp;simp only [Nat.sub_zero] at hji hki2;clear hsp hse;obtain ⟨S,hS⟩:∃ S:World->Prop,∀ u,S u↔Below w5.heap.size w5 u:=⟨_,fun _=>Iff.rfl⟩
   have HS0:=hidP hS;have r0:∀ u:Held S,World.cell? u.val ⟨F,0,none⟩=some (.slice pa ps.length pc):=fun u=>cell_later ((hS u.val).1 u.2) q0
   have r1:∀ u:Held S,World.cell? u.val ⟨F,1,none⟩=some (.slice ja js.length jc):=fun u=>cell_later ((hS u.val).1 u.2) q1
   have hS1:S w5.drew:=(hS _).2 ((Below.refl _ _).drew);have hne:=held_ne hS1;clear hS
   go_upto_region 13 with fail
   refine wp_region_tree (fun w' => ∃ u:Held S,w'=u.val) 9 (by kernel_rfl) (by kernel_rfl) (held_some hS1) ?_
   (refine wpT_sea 0 ?_;intro K hK;go_big_quiet_op;go_big_quiet_on);(refine wpT_sea 1 ?_;intro K hK;go_big_quiet_op;go_big_quiet_on);(refine wpT_sea 2 ?_;intro K hK;go_big_quiet_op;go_big_quiet_on)
   refine wpT_loud 3 (by rfl) (by kernel_rfl) (by kernel_rfl) ?_
   intro K hK
   go_wp2_with (go_at_call 47;refine (l2head_any p way _).mono ?_;rintro e w7 ⟨rfl,hb7'⟩)
   have hb7:Below w5.heap.size w5 w7:=((Below.refl _ _).drew).trans hb7';refine hK _ _ (held_some ((HS0.out _).2 hb7)) ?_;clear hK K hb7';refine wpT_loud 4 (by rfl) (by kernel_rfl) (by kernel_rfl) ?_
   intro K hK
   go_wp2_with (go_at_call 46;refine (l1at_any pa ja ps.length pc jc js _ j ki _ (HJ.out.below (HB5.out.trans (hb7.mono HB5.out.size))) HSPT).mono ?_;rintro e w8 ⟨rfl,hb8'⟩)
   have hb8:Below w5.heap.size w5 w8:=hb7.trans (hb8'.mono hb7.size);refine hK _ _ (held_some ((HS0.out _).2 hb8)) ?_;clear hK K hb8'
   (refine wpT_sea 5 ?_;intro K hK;go_big_quiet_op;go_big_quiet_on);(refine wpT_sea 6 ?_;intro K hK;go_big_quiet_op;go_big_quiet_on);(refine wpT_sea 7 ?_;intro K hK;go_big_quiet_op;go_big_quiet_on);(refine wpT_sea 8 ?_;intro K hK;go_big_quiet_op;go_big_quiet_on)
   refine wpT_done (by kernel_rfl) ?_
   simp only [List.drop_succ_cons,List.drop_zero];have hbw8:Below W.heap.size W w8:=HB5.out.trans (hb8.mono HB5.out.size);replace q0:=cell_later hb8 q0;replace q1:=cell_later hb8 q1;have HB8:=hidP hb8;have hbs8:=hbw8.size;have hF8:F<w8.heap.size:=by omega
   obtain ⟨bj,oj,hja,hjc⟩:=(HJ.out.below hbw8).2.2.resolve_left (nz hji);obtain ⟨c1,c2,ea,ec,c3,c4⟩:=hjc j hji;have HEA:=hidP c4;obtain ⟨hk1,hk2,hk3⟩:=R.out.kind j hji;have hzj:=cellLt c1;dsimp only at hzj;have hlj:j<ls.length:=by rw [hll.out];exact hji
   obtain ⟨lb,lo,hla,hlc⟩:=(HLS.out.below hbw8).2.resolve_left (nz hlj);have cv:=hlc j hlj;have hzl:=cellLt cv;dsimp only at hzl;have HGV:Hid (ls[j]?.getD 0=ls[j]):=by unfold Hid;rw [List.getElem?_eq_getElem hlj];rfl
   have HLJ:Hid (js[j].kind=3->ls[j]=1\/ls[j]=2):=fun h=>by have h2:=hL.out j hji h;rw [HGV.out] at h2;exact h2
   have HKE:Hid (kindE js (spotE js (aheadE ⟨p,way⟩)).1=js[j].kind):=by unfold Hid;rw [HSE.out];exact kindE_at hji
   have HEND:Hid (∀ t (ht:t<js[j].ends.length),∃ p':Nat,p'<ps.length/\js[j].ends[t].piece=p'/\(js[j].ends[t].side=0\/js[j].ends[t].side=1)):=R.out.ends j hji;have HN8:Hid (∀ (wz:World) (t:Nat) (ht:t<js[j].ends.length) (p':Nat) (way':Int),nextF js ls ⟨p,way⟩=some js[j].ends[t]->js[j].kind≠1->js[j].ends[t].piece=p'->(js[j].ends[t].side=0/\way'=1\/js[j].ends[t].side=1/\way' = -1)->Below w8.heap.size w8 wz->FolS ps js ss ls A W wz p' way' 0 x3 (k+1) y3):=fun wz t ht p' way' h1 h2 h3 h4 h5=>HNX.out wz _ p' way' h1 (by rw [HKE.out];exact h2) (HEND.out t ht) h3 h4 (HB8.out.trans (h5.mono HB8.out.size))
   have HO8:Hid (∀ (wz:World) (tt:Int) (ok:Bool),goF ps js ss ls ((2*ps.length+2-(k+1))+1) ⟨p,way⟩ pos out=(out++[⟨(p:Int),way⟩],tt,ok)->Below w8.heap.size w8 wz->FolOut A w (.returned (.tuple #[.slice x3 (k+1) y3,.int .i64 tt,.bool ok])) wz):=fun wz tt ok h hz=>HOUT.out wz tt ok h (HB8.out.trans (hz.mono HB8.out.size))
   subst hja;subst hla;clear hjc hlc c4 hbw8 hb8 hb7 r0 r1 hne hS1 HS0 S HNX HOUT HA HNB HO5 w7
   by_cases hK1:js[j].kind=1
   ·have HE:Hid (∀ wz,Below w8.heap.size w8 wz->FolOut A w (.returned (.tuple #[.slice x3 (k+1) y3,.int .i64 (-1),.bool true])) wz):=fun wz hz=>HO8.out wz (-1) true (goF_buf (s:=⟨p,way⟩) (show ¬ 0<=nextB ss p way pos ss.length from (by have:=HNN.out;omega)) (by rw [HKE.out];exact hK1)) hz
    rw [hK1] at c1;clear hk1 hk2 hk3 hK1
    go_wp2_with fail
    exact bodyPost_ret (v:=.tuple #[.slice x3 (k+1) y3,.int .i64 (-1),.bool true]) (by simp [results,Tryz.results17,go_sem]) rfl (HE.out _ blo)
   by_cases hK3:js[j].kind=3
   ·have hel:js[j].ends.length=3:=by omega
    have hls:=HLJ.out hK3;have HPT:Hid (ki=0->∀ t (ht:t+1<js[j].ends.length),ls[j]=(t:Int)+1->nextF js ls ⟨p,way⟩=some js[j].ends[t+1]):=fun h0 t ht h=>nextF_point (by rw [HSE.out,h0]) hji hK3 (by rw [HGV.out];exact h) ht
    have HLG:Hid (ki≠0->nextF js ls ⟨p,way⟩=if ls[j]=(ki:Int) then some (js[j].ends[0]'(by rw [hel];omega)) else none):=fun h0=>by have h:=nextF_leg (ls:=ls) HSE.out hji hK3 h0 (by rw [hel];omega);rw [HGV.out] at h;exact h
    clear HLJ HGV;generalize ls[j]=v at cv hls HPT HLG;rw [hK3] at c1;rw [hel] at c3
    by_cases hki0:ki=0
    ·subst hki0
     go_wp2_with fail
     generalize hW9:World.alloc w8 _=w9;have hb9:Below w8.heap.size w8 w9:=by rw [<-hW9];exact blo
     have z0:w9.cell? ⟨w8.heap.size,0,none⟩=some (.int .i64 3):=by rw [<-hW9];simp [go_sem]
     have z1:w9.cell? ⟨w8.heap.size,1,none⟩=some (.string js[j].name):=by rw [<-hW9];simp [go_sem]
     have z2:w9.cell? ⟨w8.heap.size,2,none⟩=some (.slice ea 3 ec):=by rw [<-hW9];simp [go_sem]
     clear hW9;have hCall:=l1across_point js[j].name js[j].ends hel ea ec w9 (hidQ (HEA.out.below hb9));refine hCall.mono ?_;rintro e w10 ⟨g,rfl,hcells,hb10'⟩;have hb10:Below w8.heap.size w8 w10:=hb9.trans (hb10'.mono hb9.size);obtain ⟨d0,d1⟩:=hcells 0 (by simp)
     obtain ⟨u0,u1⟩:=hcells 1 (by simp)
     simp only [List.getElem_cons_zero,List.getElem_cons_succ,Nat.zero_mul,Nat.one_mul,Nat.add_zero,Nat.zero_add] at d0 d1 u0 u1;replace z0:=cell_later hb10' z0;replace cv:=cell_later hb10 cv;have hgz:=cellLt d0;have hz10:w8.heap.size<w10.heap.size:=cellLt z0;have hlz:=cellLt cv;dsimp only at hgz hlz;have HBX:Hid (∀ wz,Below w10.heap.size w10 wz->Below w8.heap.size w8 wz):=fun wz hz=>hb10.trans (hz.mono hb10.size)
     clear hCall hcells hb10' hb10 hb9 z1 z2 c1 c2 c3 q0 q1;simp only [List.length_cons,List.length_nil];rcases hls with rfl | rfl
     ·have hnx:=HPT.out (by first | trivial | rfl) 0 (by omega) rfl
      clear HPT HLG;obtain ⟨p',hp',he,hsd⟩:=HEND.out 1 (by omega)
      rw [he] at d0;rcases hsd with hs | hs
      ·rw [hs] at d1;have HN:=hidP (fun wz hz=>HN8.out wz 1 (by omega) p' 1 hnx hK1 he (Or.inl ⟨hs,rfl⟩) hz)
       clear he hs HEND HN8 hK1
       go_wp2_with fail
       go_roundw
       case rel=>exact ⟨k+1,p',1,0,x3,y3,by first | rfl | go_num,by first | rfl | go_num,by first | rfl | go_num,rfl,by go_num,by omega,hp',HN.out _ (HBX.out _ blo)⟩
       case measure=>simp [intOf];omega
      ·rw [hs] at d1;have HN:=hidP (fun wz hz=>HN8.out wz 1 (by omega) p' (-1) hnx hK1 he (Or.inr ⟨hs,rfl⟩) hz)
       clear he hs HEND HN8 hK1
       go_wp2_with fail
       go_roundw
       case rel=>exact ⟨k+1,p',-1,0,x3,y3,by first | rfl | go_num,by first | rfl | go_num,by first | rfl | go_num,rfl,by go_num,by omega,hp',HN.out _ (HBX.out _ blo)⟩
       case measure=>simp [intOf];omega
     ·have hnx:=HPT.out (by first | trivial | rfl) 1 (by omega) rfl
      clear HPT HLG;obtain ⟨p',hp',he,hsd⟩:=HEND.out 2 (by omega)
      rw [he] at u0;rcases hsd with hs | hs
      ·rw [hs] at u1;have HN:=hidP (fun wz hz=>HN8.out wz 2 (by omega) p' 1 hnx hK1 he (Or.inl ⟨hs,rfl⟩) hz)
       clear he hs HEND HN8 hK1
       go_wp2_with fail
       go_roundw
       case rel=>exact ⟨k+1,p',1,0,x3,y3,by first | rfl | go_num,by first | rfl | go_num,by first | rfl | go_num,rfl,by go_num,by omega,hp',HN.out _ (HBX.out _ blo)⟩
       case measure=>simp [intOf];omega
      ·rw [hs] at u1;have HN:=hidP (fun wz hz=>HN8.out wz 2 (by omega) p' (-1) hnx hK1 he (Or.inr ⟨hs,rfl⟩) hz)
       clear he hs HEND HN8 hK1
       go_wp2_with fail
       go_roundw
       case rel=>exact ⟨k+1,p',-1,0,x3,y3,by first | rfl | go_num,by first | rfl | go_num,by first | rfl | go_num,rfl,by go_num,by omega,hp',HN.out _ (HBX.out _ blo)⟩
       case measure=>simp [intOf];omega
    ·have hkp:0<ki:=by omega
     have g1:(0:Int)<ki:=by omega
     have g2:((ki:Int)==0)=false:=by rw [beq_eq_false_iff_ne];omega
     have g3:decide ((0:Int)<ki)=true:=by simpa using hkp
     go_wp2_with fail
     generalize hW9:World.alloc w8 _=w9;have hb9:Below w8.heap.size w8 w9:=by rw [<-hW9];exact blo
     have z0:w9.cell? ⟨w8.heap.size,0,none⟩=some (.int .i64 3):=by rw [<-hW9];simp [go_sem]
     have z1:w9.cell? ⟨w8.heap.size,1,none⟩=some (.string js[j].name):=by rw [<-hW9];simp [go_sem]
     have z2:w9.cell? ⟨w8.heap.size,2,none⟩=some (.slice ea 3 ec):=by rw [<-hW9];simp [go_sem]
     clear hW9;have hCall:=l1across_leg js[j].name js[j].ends hel ki hki2 hkp ea ec w9 (hidQ (HEA.out.below hb9));refine hCall.mono ?_;rintro e w10 ⟨g,rfl,hcells,hb10'⟩;have hb10:Below w8.heap.size w8 w10:=hb9.trans (hb10'.mono hb9.size);obtain ⟨d0,d1⟩:=hcells 0 (by simp)
     simp only [List.getElem_cons_zero,Nat.zero_mul,Nat.add_zero,Nat.zero_add] at d0 d1;replace z0:=cell_later hb10' z0;replace cv:=cell_later hb10 cv;have hgz:=cellLt d0;have hz10:w8.heap.size<w10.heap.size:=cellLt z0;have hlz:=cellLt cv;dsimp only at hgz hlz;have HBX:Hid (∀ wz,Below w10.heap.size w10 wz->Below w8.heap.size w8 wz):=fun wz hz=>hb10.trans (hz.mono hb10.size)
     clear hCall hcells hb10' hb10 hb9 z1 z2 c1 c2 c3 q0 q1;simp only [List.length_cons,List.length_nil]
     by_cases hv:v=(ki:Int)
     ·have hnx:=HLG.out hki0;rw [if_pos hv] at hnx;have g4:(v != (ki:Int))=false:=by simp [hv]
      clear HPT HLG hls hv;obtain ⟨p',hp',he,hsd⟩:=HEND.out 0 (by omega)
      rw [he] at d0;rcases hsd with hs | hs
      ·rw [hs] at d1;have HN:=hidP (fun wz hz=>HN8.out wz 0 (by omega) p' 1 hnx hK1 he (Or.inl ⟨hs,rfl⟩) hz)
       clear he hs HEND HN8 hK1
       go_wp2_with fail
       go_roundw
       case rel=>exact ⟨k+1,p',1,0,x3,y3,by first | rfl | go_num,by first | rfl | go_num,by first | rfl | go_num,rfl,by go_num,by omega,hp',HN.out _ (HBX.out _ blo)⟩
       case measure=>simp [intOf];omega
      ·rw [hs] at d1;have HN:=hidP (fun wz hz=>HN8.out wz 0 (by omega) p' (-1) hnx hK1 he (Or.inr ⟨hs,rfl⟩) hz)
       clear he hs HEND HN8 hK1
       go_wp2_with fail
       go_roundw
       case rel=>exact ⟨k+1,p',-1,0,x3,y3,by first | rfl | go_num,by first | rfl | go_num,by first | rfl | go_num,rfl,by go_num,by omega,hp',HN.out _ (HBX.out _ blo)⟩
       case measure=>simp [intOf];omega
     ·have hnx:=HLG.out hki0;rw [if_neg hv] at hnx;have g4:(v != (ki:Int))=true:=by simpa using hv
      have HE:Hid (∀ wz,Below w8.heap.size w8 wz->FolOut A w (.returned (.tuple #[.slice x3 (k+1) y3,.int .i64 (-1),.bool false])) wz):=fun wz hz=>HO8.out wz (-1) false (goF_none (s:=⟨p,way⟩) (show ¬ 0<=nextB ss p way pos ss.length from (by have:=HNN.out;omega)) (by rw [HKE.out];exact hK1) hnx) hz
      clear HPT HLG hls hv hnx hK1
      go_wp2_with fail
      exact bodyPost_ret (v:=.tuple #[.slice x3 (k+1) y3,.int .i64 (-1),.bool false]) (by simp [results,Tryz.results17,go_sem]) rfl (HE.out _ (HBX.out _ blo))
   ·have hkv:js[j].kind=2\/js[j].kind=4:=by omega
    have HK3:=hidP hK3;have g1:(js[j].kind==1)=false:=by rw [beq_eq_false_iff_ne];exact hK1
    have g3:(js[j].kind==3)=false:=by rw [beq_eq_false_iff_ne];exact hK3
    go_wp2_with fail
    generalize hW9:World.alloc w8 _=w9;have hb9:Below w8.heap.size w8 w9:=by rw [<-hW9];exact blo
    have z0:w9.cell? ⟨w8.heap.size,0,none⟩=some (.int .i64 js[j].kind):=by rw [<-hW9];simp [go_sem]
    have z1:w9.cell? ⟨w8.heap.size,1,none⟩=some (.string js[j].name):=by rw [<-hW9];simp [go_sem]
    have z2:w9.cell? ⟨w8.heap.size,2,none⟩=some (.slice ea js[j].ends.length ec):=by rw [<-hW9];simp [go_sem]
    clear hW9;obtain ⟨t,ht,hbt,hCall⟩:=l1across_one js[j].kind js[j].name js[j].ends ki hki2 hk3 hkv ea ec w9 (hidQ (HEA.out.below hb9));have hnx:=nextF_plain (ls:=ls) HSE.out hji hK3 hbt ht;refine hCall.mono ?_;rintro e w10 ⟨g,rfl,hcells,hb10'⟩;have hb10:Below w8.heap.size w8 w10:=hb9.trans (hb10'.mono hb9.size);obtain ⟨d0,d1⟩:=hcells 0 (by simp)
    simp only [List.getElem_cons_zero,Nat.zero_mul,Nat.add_zero,Nat.zero_add] at d0 d1;replace z0:=cell_later hb10' z0;replace cv:=cell_later hb10 cv;have hgz:=cellLt d0;have hz10:w8.heap.size<w10.heap.size:=cellLt z0;have hlz:=cellLt cv;dsimp only at hgz hlz;have HBX:Hid (∀ wz,Below w10.heap.size w10 wz->Below w8.heap.size w8 wz):=fun wz hz=>hb10.trans (hz.mono hb10.size)
    clear hCall hcells hb10' hb10 hb9 z1 z2 c1 c2 c3 q0 q1;simp only [List.length_cons,List.length_nil];obtain ⟨p',hp',he,hsd⟩:=HEND.out t ht;rw [he] at d0;rcases hsd with hs | hs
    ·rw [hs] at d1;have HN:=hidP (fun wz hz=>HN8.out wz t ht p' 1 hnx hK1 he (Or.inl ⟨hs,rfl⟩) hz)
     clear he hs HEND HN8 hK1
     go_wp2_with fail
     go_roundw
     case rel=>exact ⟨k+1,p',1,0,x3,y3,by first | rfl | go_num,by first | rfl | go_num,by first | rfl | go_num,rfl,by go_num,by omega,hp',HN.out _ (HBX.out _ blo)⟩
     case measure=>simp [intOf];omega
    ·rw [hs] at d1;have HN:=hidP (fun wz hz=>HN8.out wz t ht p' (-1) hnx hK1 he (Or.inr ⟨hs,rfl⟩) hz)
     clear he hs HEND HN8 hK1
     go_wp2_with fail
     go_roundw
     case rel=>exact ⟨k+1,p',-1,0,x3,y3,by first | rfl | go_num,by first | rfl | go_num,by first | rfl | go_num,rfl,by go_num,by omega,hp',HN.out _ (HBX.out _ blo)⟩
     case measure=>simp [intOf];omega
  ·have hki:¬ (k:Int)<2*(ps.length:Int)+2:=by omega
   have HE:Hid (FolOut A w (.returned (.tuple #[.slice x k y,.int .i64 (-1),.bool false])) wr):=by
    refine fol_end ?_ HLEN.out HO.out (HBW.out.trans (HB.out.mono HBW.out.size));rw [<-HA.out,show 2*ps.length+2-k=0 by omega]
    rfl
   go_wp2_with fail
   exact bodyPost_ret (v:=.tuple #[.slice x k y,.int .i64 (-1),.bool false]) (by simp [results,Tryz.results17,go_sem]) rfl HE.out
def SetOk (js:List MJoint)(ls:List Int):Prop:=ls.length<=js.length/\∀ j (h:j<ls.length) (h':j<js.length),(js[j].kind=3->ls[j]=1\/ls[j]=2)/\(js[j].kind≠3->ls[j]=0)
theorem SetOk.push {js:List MJoint}{ls:List Int}(h:SetOk js ls)(hl:ls.length<js.length){x:Int}(h3:js[ls.length].kind=3->x=1\/x=2)(h0:js[ls.length].kind≠3->x=0):SetOk js (ls++[x]):=by
 refine ⟨by simp;omega,fun j hj hj'=>?_⟩
 by_cases e:j<ls.length
 ·rw [List.getElem_append_left e];exact h.2 j e hj'
 ·have e2:j=ls.length:=by simp at hj;omega
  subst e2;simpa using ⟨h3,h0⟩
def SetS (W wr:World)(C:Nat)(ca:Option Addr)(cc:Nat)(bs:List Int)(js:List MJoint)(x:Option Addr)(k y:Nat):Prop:=
 ∃ ls at_,ls.length=k/\wr.ownsRow W.heap.size 3 1 (.slice x k y) k (flatN ls)/\SetOk js ls/\Cur wr C ca cc bs at_/\at_<=2*k/\Only (fun b=>b=C) W wr
theorem Lies_any (pa:Option Addr)(np pc:Nat)(ja:Option Addr)(jc:Nat)(js:List MJoint)(ca:Option Addr)(cc:Nat)(bs:List Int)(w:World)(hj:Hid (JointsAt w ja js))(hj1:js.length<=1000)(hcode:Hid (bs=[]\/∃ b off,ca=some ⟨b,off,none⟩/\ByteCells w b off bs))(hsm:Hid (∀ x ∈ bs,0<=x/\x<256))(hlen:bs.length<=1048576):
  Calls Tryz.prog 15 #[.agg #[.slice pa np pc,.slice ja js.length jc],.slice ca bs.length cc] w fun e w' => ∃ x y ls,e = .returned (.slice x js.length y)/\ls.length=js.length/\NumsAt w' x ls/\SetOk js ls/\Below w.heap.size w w':=by
 have hlt:Hid (bs=[]\/∀ b off,ca=some ⟨b,off,none⟩->b<w.heap.size):=by
  rcases hcode.out with h | ⟨b,off,h1,h2⟩
  ·exact Or.inl h
  ·by_cases h0:bs=[]
   ·exact Or.inl h0
   ·refine Or.inr (fun b' off' e=>?_)
    rw [h1] at e;cases e;exact cellLt (h2 0 (List.length_pos_iff.2 h0))
 go_enter Tryz.func15,Tryz.ntmps15
 go_wp2_with fail
 generalize hW:World.alloc (World.alloc w _) _=W;have hbW:Below w.heap.size w W:=by rw [<-hW];exact blo
 have HC0:Hid (Cur W (w.heap.size+1) ca cc bs 0):=by
  refine ⟨by rw [<-hW];simp [go_sem],by rw [<-hW];simp [go_sem],⟨0,by rw [<-hW];simp [go_sem]⟩,fun o=>by rw [<-hW];simp [go_sem],?_,hsm.out,hlen,fun o ho=>by rw [<-hW];simp [go_sem];omega⟩
  rcases hcode.out with h | ⟨b,off,h1,h2⟩
  ·exact Or.inl h
  ·rcases hlt.out with h0 | h0
   ·exact Or.inl h0
   ·exact Or.inr ⟨b,off,h1,by have:=h0 b off h1;omega,fun i hi=>cell_later hbW (h2 i hi)⟩
 have hzW:w.heap.size+1<W.heap.size:=by rw [<-hW];simp
 have HBW:=hidP hbW;have HJ0:=hj;clear hW hbW hj;obtain ⟨C,hC⟩:∃ C,w.heap.size+1=C:=⟨_,rfl⟩;rw [hC] at HC0 hzW ⊢;have HCw:Hid (w.heap.size+1=C):=hC;have HL:Hid (LowB C ca bs):=hlt.out.imp id (fun h0 b off h=>by have:=h0 b off h;omega)
 clear hC;have HI0:Hid (SetS W W C ca cc bs js none 0 0):=⟨[],0,rfl,World.ownsRow_nil _ _ _ _,⟨Nat.zero_le _,fun j h=>absurd h (Nat.not_lt_zero _)⟩,HC0.out,Nat.le_refl _,Only.refl _ _⟩
 have HJC:Hid (∀ u,Only (fun b=>b=C) W u->∀ k (hk:k<js.length),∃ b off ea ec,ja=some ⟨b,off,none⟩/\u.cell? ⟨b,off+k*3,none⟩=some (.int .i64 js[k].kind)/\u.cell? ⟨b,off+k*3+1,none⟩=some (.string js[k].name)/\u.cell? ⟨b,off+k*3+2,none⟩=some (.slice ea js[k].ends.length ec)):=by
  intro u hu k hk;obtain ⟨b,off,e,hc⟩:=HJ0.out.2.2.resolve_left (nz hk);obtain ⟨h1,h2,ea,ec,h3,_⟩:=hc k hk;have hbz:b<w.heap.size:=cellLt h1;have hcw:=HCw.out;have hblk:u.heap[b]? = w.heap[b]? := (hu.block b (by have:=HBW.out.size;omega) (by omega)).trans (HBW.out.block b hbz)
  exact ⟨b,off,ea,ec,e,(World.cell?_of_block (w:=w) hblk).trans h1,(World.cell?_of_block (w:=w) hblk).trans h2,(World.cell?_of_block (w:=w) hblk).trans h3⟩
 obtain ⟨n,hn⟩:∃ n,js.length=n:=⟨_,rfl⟩;have HN:Hid (js.length=n):=hn;rw [hn] at hj1 ⊢;clear hn HC0
 go_loopw [6,16] (fun ve kk wr => ∃ (k:Nat) (x:Option Addr) (y:Nat),ve = .slice x k y/\kk = .int .i64 k/\k<=n/\Hid (SetS W wr C ca cc bs js x k y)) (fun _ kk _=>n-(intOf kk).toNat)
 case atStart=>exact ⟨0,none,0,rfl,rfl,Nat.zero_le _,HI0⟩
 case round =>
  clear HI0;obtain ⟨k,x,y,rfl,rfl,hk,HS⟩:=hrel
  by_cases hk':k<n
  ·have hki:(k:Int)<n:=by omega
   obtain ⟨ls,at_,hl,hrow,hlo,hc,hat,ho⟩:=HS.out;have hkj:k<js.length:=by rw [HN.out];exact hk'
   obtain ⟨b,off,ea,ec,hja,c0,c1,c2⟩:=HJC.out wr ho k hkj;subst hja;have HPU:Hid (∀ (Wp w8:World) (v:Int) (x8:Option Addr) (y8 at':Nat),Only (fun b=>b=C) wr Wp->Cur Wp C ca cc bs at'->at'<=2*(k+1)->(js[k].kind=3->v=1\/v=2)->(js[k].kind≠3->v=0)->w8.ownsRow W.heap.size 3 1 (.slice x8 (k+1) y8) (k+1) (flatN ls++[.int .i64 v])->Wp.grownBy w8 (Value.slice x k y).ownBlock->SetS W w8 C ca cc bs js x8 (k+1) y8):=by
    intro Wp w8 v x8 y8 at' h1 h2 h3 h4 h5 h6 h7;rw [flatN_push] at h6;have hob:∀ q,q<W.heap.size->(Value.slice x k y).ownBlock≠some q:=fun q hq e=>by have:=(hrow.lt q e).1;omega
    have hWr:=ho.size;have hrp:=h1.size;subst hl;exact ⟨ls++[v],at',by simp,h6,hlo.push hkj h4 h5,h2.above HL.out (fun q hq=>h7.block q (by omega) (fun e=>hob q (by omega) e.symm)),h3,⟨h7.os.trans (h1.os.trans ho.os),h7.tape.trans (h1.tape.trans ho.tape),h7.output.trans (h1.output.trans ho.output),by have:=h7.size;omega,fun q hq hn=>(h7.block q (by omega) (fun e=>hob q hq e.symm)).trans ((h1.block q (by omega) hn).trans (ho.block q hq hn))⟩⟩
   have HROW:=hidP hrow;have HC:=hidP hc;have hWr:=ho.size;have hcl:=hc.lt;generalize hkd:js[k].kind=kd at c0 HPU;generalize js[k].name=nm at c1;generalize js[k].ends.length=el at c2;clear hl hrow hlo hc ho HS HJC HJ0 hkd hkj
   by_cases h3:kd=3
   ·subst h3
    go_wp2_with fail
    generalize hA:World.alloc wr _=A;have hbA:Below wr.heap.size wr A:=by rw [<-hA];exact blo
    have HBA:=hidP hbA;clear hA hbA;refine (pick_any C ca cc bs at_ 2 A (HC.out.below HBA.out) (by omega) (by omega)).mono ?_
    rintro e w2 ⟨z,at2,hz,rfl,hat2,hc2,ho2⟩;have HC2:=hidP hc2;have HO2:Hid (Only (fun b=>b=C) wr w2):=(Only.of_below HBA.out).trans ho2
    have HR2:Hid (w2.ownsRow W.heap.size 3 1 (.slice x k y) k (flatN ls)):=owns_kept2 HROW.out (fun q hq=>HO2.out.block q (HROW.out.lt q hq).2 (by have:=(HROW.out.lt q hq).1;omega))
    have hz2:=HO2.out.size;have hz1:z<2:=by omega
    clear hc2 ho2
    go_wp2_with (at_builtin;refine wpList_push (Wp:=w2) rfl (.tmp 26) (.tmp 28) 40 rfl W.heap.size 3 _ 1 8 Tryz.underlying40 Tryz.infoInt rfl (by decide) (.slice x k y) k (flatN ls) rfl HR2.out w2.heap.size rfl [.int .i64 (1+(z:Int))] rfl rfl (by simp [Value.oneCell']) (by unfold maxLen;omega) (by omega) (by omega) ?_;intro x8 y8 w8 ho8 hg8;have HN8:=hidP (HPU.out w2 w8 (1+(z:Int)) x8 y8 at2 HO2.out HC2.out (by omega) (fun _=>by omega) (fun h=>absurd rfl h) ho8 hg8);clear ho8 hg8)
    go_roundw
    case rel=>exact ⟨k+1,x8,y8,rfl,by go_num,by omega,HN8⟩
    case measure=>simp [intOf];omega
   ·have h3b:(kd==3)=false:=by simpa using h3
    go_wp2_with (at_builtin;refine wpList_push rfl (.tmp 26) (.tmp 28) 40 rfl W.heap.size 3 _ 1 8 Tryz.underlying40 Tryz.infoInt rfl (by decide) (.slice x k y) k (flatN ls) rfl (HROW.out.alloc _) (wr.heap.size+1) (by simp) [.int .i64 0] rfl rfl (by simp [Value.oneCell']) (by unfold maxLen;omega) (by omega) (by simp;omega) ?_;intro x8 y8 w8 ho8 hg8;have HN8:=hidP (HPU.out _ w8 0 x8 y8 at_ (Only.of_below ((Below.refl _ _).alloc (Nat.le_refl _) _)) (HC.out.below ((Below.refl _ _).alloc (Nat.le_refl _) _)) (by omega) (fun h=>absurd h h3) (fun _=>rfl) ho8 hg8);clear ho8 hg8)
    go_roundw
    case rel=>exact ⟨k+1,x8,y8,rfl,by go_num,by omega,HN8⟩
    case measure=>simp [intOf];omega
  ·have hki:¬ (k:Int)<n:=by omega
   have hkn:k=n:=by omega
   subst hkn;obtain ⟨ls,at_,hl,hrow,hlo,hc,hat,ho⟩:=HS.out;have HEND:Hid (∃ x' y' ls',(Ending.returned (.slice x k y):Ending) = .returned (.slice x' k y')/\ls'.length=k/\NumsAt wr x' ls'/\SetOk js ls'/\Below w.heap.size w wr):=by
    subst hl;refine ⟨x,y,ls,rfl,rfl,(own_listN hrow).1,hlo,?_⟩;have hb:=HBW.out;have hcw:=HCw.out;exact ⟨ho.os.trans hb.os,ho.tape.trans hb.tape,ho.output.trans hb.output,by have:=ho.size;have:=hb.size;omega,fun q hq=>(ho.block q (by have:=hb.size;omega) (by omega)).trans (hb.block q hq)⟩
   clear hl hrow hlo hc hat ho HS
   go_wp2_with fail
   exact bodyPost_ret (v:=.slice x k y) (by simp [results,Tryz.results15,go_sem]) rfl (by obtain ⟨x',y',ls',h1,h2,h3,h4,h5⟩:=HEND.out;exact ⟨x',⟨y',by rw [HN.out];exact h1⟩,ls',by rw [HN.out];exact h2,h3,h4,h5⟩)
theorem wSteps_any (a a':Option Addr)(c c':Nat)(xs:List MEnd)(w:World)(hx:Hid (EndsAt w a xs))(hy:Hid (EndsAt w a' xs)):
  Calls Tryz.prog 18 #[.slice a xs.length c,.slice a' xs.length c'] w fun e w'=>e = .returned (.bool true)/\Below w.heap.size w w':=by
 have hl1:=hx.out.1;unfold maxLen at hl1;obtain ⟨n,hn⟩:∃ n,xs.length=n:=⟨_,rfl⟩;rw [hn] at hl1 ⊢;have HN:=hidP hn;clear hn;have f0:((n:Int) != (n:Int))=false:=by simp
 go_enter Tryz.func18,Tryz.ntmps18
 go_wp2_with fail
 go_loopw [13] (fun i wr => ∃ k:Nat,k<=n/\i = .int .i64 k/\Below w.heap.size w wr) (fun i _=>n-(intOf i).toNat)
 case atStart=>exact ⟨0,Nat.zero_le _,rfl,Below.refl _ _⟩
 case round =>
  obtain ⟨k,hk,rfl,hbr⟩:=hrel
  by_cases hk':k<n
  ·have hki:(k:Int)<n:=by omega
   have hkx:k<xs.length:=by rw [HN.out];exact hk'
   obtain ⟨b,o,ha,hc⟩:=(hx.out.below hbr).2.resolve_left (nz hkx);obtain ⟨b',o',ha',hc'⟩:=(hy.out.below hbr).2.resolve_left (nz hkx);subst ha ha';have cx:=hc k hkx;have cy:=hc' k hkx;generalize xs[k]=x at cx cy;obtain ⟨x0,x1⟩:=x;obtain ⟨cx0,cx1⟩:=cx;obtain ⟨cy0,cy1⟩:=cy;dsimp only at cx0 cy0 cx1 cy1;have HBr:=hidP hbr;clear hc hc' hbr hkx
   go_upto_region 6 with fail
   have b0:(x0 != x0)=false:=by simp
   have b1:(x1 != x1)=false:=by simp
   go_quiet (fail)
   go_wp2_with fail
   go_roundw
   case rel=>exact ⟨k+1,by omega,by go_num,bdrewN HBr.out _⟩
   case measure=>simp [intOf];omega
  ·have hki:¬ (k:Int)<n:=by omega
   go_wp2_with fail
   go_ret
   exact ⟨rfl,hbr⟩
theorem wParts_any (a a':Option Addr)(c c':Nat)(xs:List MPart)(w:World)(hx:Hid (PartsAt w a xs))(hy:Hid (PartsAt w a' xs)):
  Calls Tryz.prog 44 #[.slice a xs.length c,.slice a' xs.length c'] w fun e w'=>e = .returned (.bool true)/\Below w.heap.size w w':=by
 have hl1:=hx.out.1;unfold maxLen at hl1;obtain ⟨n,hn⟩:∃ n,xs.length=n:=⟨_,rfl⟩;rw [hn] at hl1 ⊢;have HN:=hidP hn;clear hn;have f0:((n:Int) != (n:Int))=false:=by simp
 go_enter Tryz.func44,Tryz.ntmps44
 go_wp2_with fail
 go_loopw [13] (fun i wr => ∃ k:Nat,k<=n/\i = .int .i64 k/\Below w.heap.size w wr) (fun i _=>n-(intOf i).toNat)
 case atStart=>exact ⟨0,Nat.zero_le _,rfl,Below.refl _ _⟩
 case round =>
  obtain ⟨k,hk,rfl,hbr⟩:=hrel
  by_cases hk':k<n
  ·have hki:(k:Int)<n:=by omega
   have hkx:k<xs.length:=by rw [HN.out];exact hk'
   obtain ⟨b,o,ha,hc⟩:=(hx.out.below hbr).2.resolve_left (nz hkx);obtain ⟨b',o',ha',hc'⟩:=(hy.out.below hbr).2.resolve_left (nz hkx);subst ha ha';have cx:=hc k hkx;have cy:=hc' k hkx;generalize xs[k]=x at cx cy;obtain ⟨x0,x1,x2⟩:=x;obtain ⟨cx0,cx1,cx2⟩:=cx;obtain ⟨cy0,cy1,cy2⟩:=cy;dsimp only at cx0 cy0 cx1 cy1 cx2 cy2;have HBr:=hidP hbr;clear hc hc' hbr hkx
   go_upto_region 6 with fail
   have b0:(x0 != x0)=false:=by simp
   have b1:(x1 != x1)=false:=by simp
   have b2:(x2 != x2)=false:=by simp
   go_quiet (fail)
   go_wp2_with fail
   go_roundw
   case rel=>exact ⟨k+1,by omega,by go_num,bdrewN HBr.out _⟩
   case measure=>simp [intOf];omega
  ·have hki:¬ (k:Int)<n:=by omega
   go_wp2_with fail
   go_ret
   exact ⟨rfl,hbr⟩
theorem wRoute_any (d d':RAddr)(r:MRoute)(w:World)(hx:Hid (RListsAt w d r))(hy:Hid (RListsAt w d' r)):
  Calls Tryz.prog 14 #[routeV d r,routeV d' r] w fun e w'=>e = .returned (.bool true)/\Below w.heap.size w w':=by
 obtain ⟨a0,g0,a1,g1,a2,g2,a3,g3,a4,g4,a5,g5⟩:=d;obtain ⟨a0',g0',a1',g1',a2',g2',a3',g3',a4',g4',a5',g5'⟩:=d';unfold routeV;dsimp only;have hl1:=hx.out.lies.1;have hl2:=hx.out.crosses.1;have hl3:=hx.out.flanks.1;unfold maxLen at hl1 hl2 hl3
 go_enter Tryz.func14,Tryz.ntmps14
 go_upto_region 1 with fail
 generalize hW:World.alloc (World.alloc w _) _=W;have hbW:Below w.heap.size w W:=by rw [<-hW];exact blo
 have x0:W.cell? ⟨w.heap.size,0,none⟩=some (.int .i64 r.start):=by rw [<-hW];simp [go_sem]
 have y0:W.cell? ⟨w.heap.size+1,0,none⟩=some (.int .i64 r.start):=by rw [<-hW];simp [go_sem]
 have x1:W.cell? ⟨w.heap.size,1,none⟩=some (.int .i64 r.stop):=by rw [<-hW];simp [go_sem]
 have y1:W.cell? ⟨w.heap.size+1,1,none⟩=some (.int .i64 r.stop):=by rw [<-hW];simp [go_sem]
 have x2:W.cell? ⟨w.heap.size,2,none⟩=some (.slice a0 r.steps.length g0):=by rw [<-hW];simp [go_sem]
 have y2:W.cell? ⟨w.heap.size+1,2,none⟩=some (.slice a0' r.steps.length g0'):=by rw [<-hW];simp [go_sem]
 have x3:W.cell? ⟨w.heap.size,3,none⟩=some (.slice a1 r.lies.length g1):=by rw [<-hW];simp [go_sem]
 have y3:W.cell? ⟨w.heap.size+1,3,none⟩=some (.slice a1' r.lies.length g1'):=by rw [<-hW];simp [go_sem]
 have x4:W.cell? ⟨w.heap.size,4,none⟩=some (.slice a2 r.crosses.length g2):=by rw [<-hW];simp [go_sem]
 have y4:W.cell? ⟨w.heap.size+1,4,none⟩=some (.slice a2' r.crosses.length g2'):=by rw [<-hW];simp [go_sem]
 have x5:W.cell? ⟨w.heap.size,5,none⟩=some (.slice a3 r.parts.length g3):=by rw [<-hW];simp [go_sem]
 have y5:W.cell? ⟨w.heap.size+1,5,none⟩=some (.slice a3' r.parts.length g3'):=by rw [<-hW];simp [go_sem]
 have x6:W.cell? ⟨w.heap.size,6,none⟩=some (.slice a4 r.over.length g4):=by rw [<-hW];simp [go_sem]
 have y6:W.cell? ⟨w.heap.size+1,6,none⟩=some (.slice a4' r.over.length g4'):=by rw [<-hW];simp [go_sem]
 have x7:W.cell? ⟨w.heap.size,7,none⟩=some (.slice a5 r.flanks.length g5):=by rw [<-hW];simp [go_sem]
 have y7:W.cell? ⟨w.heap.size+1,7,none⟩=some (.slice a5' r.flanks.length g5'):=by rw [<-hW];simp [go_sem]
 have HX:=hidP (hx.out.below hbW);have HY:=hidP (hy.out.below hbW);have HB:=hidP hbW;clear hW hbW hx hy;generalize w.heap.size=X at x0 x1 x2 x3 x4 x5 x6 x7 y0 y1 y2 y3 y4 y5 y6 y7 ⊢;have X2:=hidP x2;have Y2:=hidP y2;have X3:=hidP x3;have Y3:=hidP y3;have X4:=hidP x4;have Y4:=hidP y4;have X5:=hidP x5;have Y5:=hidP y5;have X6:=hidP x6;have Y6:=hidP y6;have X7:=hidP x7;have Y7:=hidP y7;have f0:(r.start != r.start)=false:=by simp
 have f1:(r.stop != r.stop)=false:=by simp
 have HS:=hidP (fun u (hu:Below W.heap.size W u)=>wSteps_any a0 a0' g0 g0' r.steps u (hidQ (HX.out.below hu).steps) (hidQ (HY.out.below hu).steps))
 have HPA:=hidP (fun u (hu:Below W.heap.size W u)=>wParts_any a3 a3' g3 g3' r.parts u (hidQ (HX.out.below hu).parts) (hidQ (HY.out.below hu).parts))
 have HOV:=hidP (fun u (hu:Below W.heap.size W u)=>wParts_any a4 a4' g4 g4' r.over u (hidQ (HX.out.below hu).over) (hidQ (HY.out.below hu).over))
 go_wp2_with fail
 refine (HS.out W (Below.refl _ _)).mono ?_;rintro e u1 ⟨rfl,hu1⟩;have x5:=cell_later hu1 X5.out;have y5:=cell_later hu1 Y5.out;have HU1:=hidP hu1;clear hu1 x0 x1 x2 x3 x4 x6 x7 y0 y1 y2 y3 y4 y6 y7 f0 f1 HS
 go_wp2_with fail
 refine (HPA.out u1 HU1.out).mono ?_;rintro e u2 ⟨rfl,hu2⟩;have HU2:Hid (Below W.heap.size W u2):=HU1.out.trans (hu2.mono HU1.out.size);have x6:=cell_later HU2.out X6.out;have y6:=cell_later HU2.out Y6.out;clear hu2 x5 y5 HU1 HPA
 go_wp2_with fail
 refine (HOV.out u2 HU2.out).mono ?_;rintro e u3 ⟨rfl,hu3⟩;have HU3:Hid (Below W.heap.size W u3):=HU2.out.trans (hu3.mono HU2.out.size);have x3:=cell_later HU3.out X3.out;have y3:=cell_later HU3.out Y3.out;have x4:=cell_later HU3.out X4.out;have y4:=cell_later HU3.out Y4.out;have x7:=cell_later HU3.out X7.out;have y7:=cell_later HU3.out Y7.out;clear hu3 x6 y6 HU2 HOV;obtain ⟨n1,hn1⟩:∃ n,r.lies.length=n:=⟨_,rfl⟩;obtain ⟨n2,hn2⟩:∃ n,r.crosses.length=n:=⟨_,rfl⟩;obtain ⟨n3,hn3⟩:∃ n,r.flanks.length=n:=⟨_,rfl⟩;rw [hn1] at x3 y3 X3 Y3 hl1;rw [hn2] at x4 y4 X4 Y4 hl2;rw [hn3] at x7 y7 X7 Y7 hl3;have HN1:=hidP hn1;have HN2:=hidP hn2;have HN3:=hidP hn3;clear hn1 hn2 hn3;have f1:((n1:Int) != (n1:Int))=false:=by simp
 have f2:((n2:Int) != (n2:Int))=false:=by simp
 have f3:((n3:Int) != (n3:Int))=false:=by simp
 go_wp2_with fail
 clear x3 y3 x4 y4 x7 y7 f1 f2 f3
 go_loopw [72] (fun i wr => ∃ k:Nat,k<=n1/\i = .int .i64 k/\Below W.heap.size W wr) (fun i _=>n1-(intOf i).toNat)
 case atStart=>exact ⟨0,Nat.zero_le _,rfl,HU3.out⟩
 case round =>
  obtain ⟨k,hk,rfl,hbr⟩:=hrel
  by_cases hk':k<n1
  ·have hki:(k:Int)<n1:=by omega
   have hkx:k<r.lies.length:=by rw [HN1.out];exact hk'
   obtain ⟨b,o,ha,hc⟩:=(HX.out.below hbr).lies.2.resolve_left (nz hkx);obtain ⟨b',o',ha',hc'⟩:=(HY.out.below hbr).lies.2.resolve_left (nz hkx);simp only at ha ha';subst ha ha';have cx:=hc k hkx;have cy:=hc' k hkx;generalize r.lies[k]=x at cx cy;obtain ⟨p0,p1⟩:=x;obtain ⟨cx0,cx1⟩:=cx;obtain ⟨cy0,cy1⟩:=cy;dsimp only at cx0 cy0 cx1 cy1;have b0:(p0 != p0)=false:=by simp
   have b1:(p1 != p1)=false:=by simp
   have HBr:=hidP hbr;have x3:=cell_later hbr X3.out;have y3:=cell_later hbr Y3.out;clear hc hc' hbr hkx
   go_upto_region 8 with fail
   go_quiet (fail)
   go_wp2_with fail
   go_roundw
   case rel=>exact ⟨k+1,by omega,by go_num,bdrewN HBr.out _⟩
   case measure=>simp [intOf];omega
  ·have hki:¬ (k:Int)<n1:=by omega
   have HBr:=hidP hbr;have x4:=cell_later hbr X4.out;have y4:=cell_later hbr Y4.out;clear hbr
   go_wp2_with fail
   clear x4 y4 hk hki
   go_loopw [90] (fun i wr => ∃ k:Nat,k<=n2/\i = .int .i64 k/\Below W.heap.size W wr) (fun i _=>n2-(intOf i).toNat)
   case atStart=>exact ⟨0,Nat.zero_le _,rfl,HBr.out⟩
   case round =>
    obtain ⟨k,hk,rfl,hbr⟩:=hrel
    by_cases hk':k<n2
    ·have hki:(k:Int)<n2:=by omega
     have hkx:k<r.crosses.length:=by rw [HN2.out];exact hk'
     obtain ⟨b,o,ha,hc⟩:=(HX.out.below hbr).crosses.2.resolve_left (nz hkx);obtain ⟨b',o',ha',hc'⟩:=(HY.out.below hbr).crosses.2.resolve_left (nz hkx);simp only at ha ha';subst ha ha';have cx:=hc k hkx;have cy:=hc' k hkx;generalize r.crosses[k]=x at cx cy;have b0:(x != x)=false:=by simp
     have HBr:=hidP hbr;have x4:=cell_later hbr X4.out;have y4:=cell_later hbr Y4.out;clear hc hc' hbr hkx
     go_upto_region 14 with fail
     go_quiet (fail)
     go_wp2_with fail
     go_roundw
     case rel=>exact ⟨k+1,by omega,by go_num,bdrewN HBr.out _⟩
     case measure=>simp [intOf];omega
    ·have hki:¬ (k:Int)<n2:=by omega
     have HBr:=hidP hbr;have x7:=cell_later hbr X7.out;have y7:=cell_later hbr Y7.out;clear hbr
     go_wp2_with fail
     clear x7 y7 hk hki
     go_loopw [108] (fun i wr => ∃ k:Nat,k<=n3/\i = .int .i64 k/\Below W.heap.size W wr) (fun i _=>n3-(intOf i).toNat)
     case atStart=>exact ⟨0,Nat.zero_le _,rfl,HBr.out⟩
     case round =>
      obtain ⟨k,hk,rfl,hbr⟩:=hrel
      by_cases hk':k<n3
      ·have hki:(k:Int)<n3:=by omega
       have hkx:k<r.flanks.length:=by rw [HN3.out];exact hk'
       obtain ⟨b,o,ha,hc⟩:=(HX.out.below hbr).flanks.2.resolve_left (nz hkx);obtain ⟨b',o',ha',hc'⟩:=(HY.out.below hbr).flanks.2.resolve_left (nz hkx);simp only at ha ha';subst ha ha';have cx:=hc k hkx;have cy:=hc' k hkx;generalize r.flanks[k]=x at cx cy;obtain ⟨p0,p1,p2,p3⟩:=x;obtain ⟨cx0,cx1,cx2,cx3⟩:=cx;obtain ⟨cy0,cy1,cy2,cy3⟩:=cy;dsimp only at cx0 cy0 cx1 cy1 cx2 cy2 cx3 cy3;have b0:(p0 != p0)=false:=by simp
       have b1:(p1 != p1)=false:=by simp
       have b2:(p2 != p2)=false:=by simp
       have b3:(p3 != p3)=false:=by simp
       have HBr:=hidP hbr;have x7:=cell_later hbr X7.out;have y7:=cell_later hbr Y7.out;clear hc hc' hbr hkx
       go_upto_region 20 with fail
       go_quiet (fail)
       go_wp2_with fail
       go_roundw
       case rel=>exact ⟨k+1,by omega,by go_num,bdrewN HBr.out _⟩
       case measure=>simp [intOf];omega
      ·have hki:¬ (k:Int)<n3:=by omega
       have HBr:=hidP hbr;clear hbr
       go_wp2_with fail
       go_ret
       exact ⟨rfl,HB.out.trans (HBr.out.mono HB.out.size)⟩
theorem wRoutes_any (a a':Option Addr)(c c':Nat)(rs:List MRoute)(w:World)(hx:Hid (RoutesAt w a rs))(hy:Hid (RoutesAt w a' rs)):
  Calls Tryz.prog 11 #[.slice a rs.length c,.slice a' rs.length c'] w fun e w'=>e = .returned (.bool true)/\Below w.heap.size w w':=by
 have hl1:=hx.out.1;unfold maxLen at hl1;obtain ⟨n,hn⟩:∃ n,rs.length=n:=⟨_,rfl⟩;rw [hn] at hl1 ⊢;have HN:=hidP hn;clear hn;have f0:((n:Int) != (n:Int))=false:=by simp
 go_enter Tryz.func11,Tryz.ntmps11
 go_wp2_with fail
 go_loopw [13] (fun i wr => ∃ k:Nat,k<=n/\i = .int .i64 k/\Hid (Below w.heap.size w wr)) (fun i _=>n-(intOf i).toNat)
 case atStart=>exact ⟨0,Nat.zero_le _,rfl,Below.refl _ _⟩
 case round =>
  obtain ⟨k,hk,rfl,HBr⟩:=hrel
  by_cases hk':k<n
  ·have hki:(k:Int)<n:=by omega
   have hkx:k<rs.length:=by rw [HN.out];exact hk'
   obtain ⟨b,o,ha,hc⟩:=(hx.out.below HBr.out).2.resolve_left (nz hkx);obtain ⟨b',o',ha',hc'⟩:=(hy.out.below HBr.out).2.resolve_left (nz hkx);subst ha ha';obtain ⟨d,dc,ql⟩:=hc k hkx;obtain ⟨d',dc',ql'⟩:=hc' k hkx;generalize rs[k]=r at dc ql dc' ql';have HWR:=hidP (fun u (hu:Below wr.heap.size wr u)=>wRoute_any d d' r u (hidQ (ql.below hu)) (hidQ (ql'.below hu)))
   clear hc hc' hkx ql ql'
   go_upto_region 6 with fail
   obtain ⟨S,hS⟩:∃ S:World->Prop,∀ u,S u↔Below wr.heap.size wr u:=⟨_,fun _=>Iff.rfl⟩
   have HS0:=hidP hS;have yr:∀ u:Held S,RouteCell u.val b (o+k*8) d r:=fun u=>dc.below ((hS u.val).1 u.2)
   have zr:∀ u:Held S,RouteCell u.val b' (o'+k*8) d' r:=fun u=>dc'.below ((hS u.val).1 u.2)
   have v0:=fun u=>(yr u).k0
   have v1:=fun u=>(yr u).k1
   have v2:=fun u=>(yr u).k2
   have v3:=fun u=>(yr u).k3
   have v4:=fun u=>(yr u).k4
   have v5:=fun u=>(yr u).k5
   have v6:=fun u=>(yr u).k6
   have v7:=fun u=>(yr u).k7
   have z0:=fun u=>(zr u).k0
   have z1:=fun u=>(zr u).k1
   have z2:=fun u=>(zr u).k2
   have z3:=fun u=>(zr u).k3
   have z4:=fun u=>(zr u).k4
   have z5:=fun u=>(zr u).k5
   have z6:=fun u=>(zr u).k6
   have z7:=fun u=>(zr u).k7
   have hS1:S wr.drew:=(hS _).2 ((Below.refl _ _).drew);have hne:=held_ne hS1;clear hS yr zr dc dc';refine wp_region_tree (fun w' => ∃ u:Held S,w'=u.val) 9 (by kernel_rfl) (by kernel_rfl) (held_some hS1) ?_
   (refine wpT_sea 0 ?_;intro K hK;go_big_quiet_op;go_big_quiet_on);(refine wpT_sea 1 ?_;intro K hK;go_big_quiet_op;go_big_quiet_on);(refine wpT_sea 2 ?_;intro K hK;go_big_quiet_op;go_big_quiet_on);(refine wpT_sea 3 ?_;intro K hK;go_big_quiet_op;go_big_quiet_on);(refine wpT_sea 4 ?_;intro K hK;go_big_quiet_op;go_big_quiet_on);(refine wpT_sea 5 ?_;intro K hK;go_big_quiet_op;go_big_quiet_on);(refine wpT_sea 6 ?_;intro K hK;go_big_quiet_op;go_big_quiet_on);(refine wpT_sea 7 ?_;intro K hK;go_big_quiet_op;go_big_quiet_on)
   refine wpT_loud 8 (by rfl) (by kernel_rfl) (by kernel_rfl) ?_
   intro KK hK
   go_wp2_with (go_at_call 14;refine (HWR.out _ ((Below.refl _ _).drew)).mono ?_;rintro e w5 ⟨rfl,hb5'⟩)
   have hb5:Below wr.heap.size wr w5:=(Below.refl _ _).drew.trans hb5';refine hK _ _ (held_some ((HS0.out _).2 hb5)) ?_;have HB5:Hid (Below w.heap.size w w5):=HBr.out.trans (hb5.mono HBr.out.size);clear hK KK hb5' hb5 v0 v1 v2 v3 v4 v5 v6 v7 z0 z1 z2 z3 z4 z5 z6 z7 hS1 hne HWR;refine wpT_done (by kernel_rfl) ?_
   go_wp2_with fail
   go_roundw
   case rel=>exact ⟨k+1,by omega,by go_num,HB5⟩
   case measure=>simp [intOf];omega
  ·have hki:¬ (k:Int)<n:=by omega
   go_wp2_with fail
   go_ret
   exact ⟨rfl,HBr.out⟩
end Go.Proofs.YtmkdgnmmebldgaaGreatDoor
