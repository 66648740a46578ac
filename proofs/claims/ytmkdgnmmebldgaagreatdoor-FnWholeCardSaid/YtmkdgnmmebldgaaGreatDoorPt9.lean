import Derived.Test.YtmkdgnmmebldgaaGreatDoorPt5
import Derived.Test.YtmkdgnmmebldgaaGreatDoorPt8
set_option maxRecDepth 100000
set_option maxHeartbeats 8000000
namespace Go.Proofs.YtmkdgnmmebldgaaGreatDoor
open Go.RowKit
theorem l1ok_any (pa ja:Option Addr)(pc jc:Nat)(ps:List MPiece)(js:List MJoint)(w:World)(hp:Hid (PiecesAt w pa ps))(hj:Hid (JointsAt w ja js)):
  Calls Tryz.prog 61 #[.agg #[.slice pa ps.length pc,.slice ja js.length jc]] w fun e w'=>e = .returned (.bool ((netF ps js).1==0))∧Below w.heap.size w w':=by
 go_enter Tryz.func61,Tryz.ntmps61
 go_wp2_with fail
 refine (specNetOk_any _ _ _ _ _ _ _ (hp.out.below blo) (hj.out.below blo)).mono ?_
 rintro e w1 ⟨rfl,hb1⟩
 obtain ⟨fc,fa,hf⟩:∃ fc fa,netF ps js=(fc,fa):=⟨_,_,rfl⟩
 have HF:=hidQ hf
 rw [hf]
 clear hf
 unfold faultV
 have hb2:Below w.heap.size w w1:=Below.trans blo (hb1.mono (by simp))
 have hbs:=hb2.size
 clear hb1
 go_wp2_with fail
 go_ret
 exact ⟨ret_bool (by rw [HF.out]),blo⟩
theorem l1before_any (a:Option Addr)(cap:Nat)(ss:List MPiece)(i:Nat)(hi:i<ss.length)(w:World)(hp:Hid (PiecesAt w a ss)):
  Calls Tryz.prog 63 #[.slice a ss.length cap,.int .i64 i] w fun e w'=>e = .returned (.bool (beforeB ss i ss[i]))∧Below w.heap.size w w':=by
 have hl:=hp.out.1
 unfold maxLen at hl
 obtain ⟨b1,off1,rfl,hpc⟩:=hp.out.2.2.resolve_left (nz hi)
 have HPC:=hidQ hpc
 clear hpc
 go_enter Tryz.func63,Tryz.ntmps63
 go_wp2_with fail
 go_loopw [5] (fun c wr => ∃ (k:Nat),k≤i∧c = .int .i64 k∧Hid (∀ q (hq:q<ss.length),q<k→same4 ss[q] ss[i]=false)∧Below w.heap.size w wr) (fun c _=>i-(intOf c).toNat)
 case atStart=>exact ⟨0,Nat.zero_le _,rfl,(fun q _ h=>absurd h (Nat.not_lt_zero q)),blo⟩
 case round =>
  obtain ⟨k,hk,rfl,HQ,hb⟩:=hrel
  have hbs:=hb.size
  by_cases hk':k<i
  ·have hks:k<ss.length:=by omega
   obtain ⟨c1,c2,c3,c4⟩:=(HPC.out.below hb) k hks
   obtain ⟨d1,d2,d3,d4⟩:=(HPC.out.below hb) i hi
   have hz1:b1<wr.heap.size:=cellLt c1
   cases hS:same4 ss[k] ss[i]
   ·have HQ2:Hid (∀ q (hq:q<ss.length),q<k+1→same4 ss[q] ss[i]=false):=by
     intro q hq hqk
     by_cases e:q<k
     ·exact HQ.out q hq e
     ·have:q=k:=by omega
      subst this;exact hS
    have hcs:(ss[k].name.toList==ss[i].name.toList)=false∧((ss[k].len==ss[i].len)=false∨(ss[k].len==ss[i].len)=true∧((ss[k].speed==ss[i].speed)=false∨(ss[k].speed==ss[i].speed)=true∧(ss[k].brake==ss[i].brake)=false)):=by
     unfold same4 at hS
     rw [Bool.or_eq_false_iff] at hS
     refine ⟨beqS_ne (by simpa using hS.1),?_⟩
     have h2:=hS.2
     revert h2
     cases (ss[k].len==ss[i].len) <;> cases (ss[k].speed==ss[i].speed) <;> cases (ss[k].brake==ss[i].brake) <;> simp
    clear hS HQ
    obtain ⟨g1,g2 | ⟨g2,g3 | ⟨g3,g4⟩⟩⟩:=hcs
    all_goals
     go_wp2_with fail
     go_roundw
     case rel=>exact ⟨k+1,by omega,by go_num,HQ2,blo⟩
     case measure=>simp [intOf];omega
   ·have HX:=hidQ (beforeB_hit hk' hks hS)
    have hcs:ss[k].name=ss[i].name∨(ss[k].name.toList==ss[i].name.toList)=false∧(ss[k].len==ss[i].len)=true∧(ss[k].speed==ss[i].speed)=true∧(ss[k].brake==ss[i].brake)=true:=by
     by_cases e:ss[k].name=ss[i].name
     ·exact Or.inl e
     ·right
      unfold same4 at hS
      rw [decide_eq_false e,Bool.false_or] at hS
      simp only [Bool.and_eq_true] at hS
      exact ⟨beqS_ne e,hS.1.1,hS.1.2,hS.2⟩
    clear hS HQ
    rcases hcs with g1 | ⟨g1,g2,g3,g4⟩
    ·rw [g1] at c1
     clear g1
     go_wp2_with fail
     go_ret
     exact ⟨ret_bool HX.out.symm,blo⟩
    ·go_wp2_with fail
     go_ret
     exact ⟨ret_bool HX.out.symm,blo⟩
  ·have HX:=hidQ (beforeB_none (ss:=ss) (i:=i) (s:=ss[i]) (fun q hq hqi=>HQ.out q hq (by omega)))
   clear HQ
   go_wp2_with fail
   go_ret
   exact ⟨ret_bool HX.out.symm,hb⟩
theorem wayB_cases (x:Int):wayB x=true∧((x != 1)=false∨(x != 1)=true∧(x != -1)=false)∨wayB x=false∧(x != 1)=true∧(x != -1)=true:=by
 unfold wayB bne
 cases (x==1) <;> cases (x == -1) <;> simp
theorem specSignalsOk_any (pa ja sa:Option Addr)(pc jc sc:Nat)(ps:List MPiece)(js:List MJoint)(ss:List MPiece)(w:World)(hp:Hid (PiecesAt w pa ps))(hj:Hid (JointsAt w ja js))(hs:Hid (PiecesAt w sa ss)):
  Calls Tryz.prog 26 #[.agg #[.slice pa ps.length pc,.slice ja js.length jc],.slice sa ss.length sc] w fun e w'=>e = .returned (faultV (sigF ps js ss))∧Below w.heap.size w w':=by
 have hsl:=hs.out.1
 unfold maxLen at hsl
 go_enter Tryz.func26,Tryz.ntmps26
 go_wp2_with fail
 refine (l1ok_any _ _ _ _ _ _ _ (hp.out.below blo) (hj.out.below blo)).mono ?_
 rintro e w1 ⟨rfl,hb1⟩
 generalize hW:(w.alloc (Obj.cells #[Value.slice pa ps.length pc,Value.slice ja js.length jc] 26)).alloc (Obj.cells #[Value.int IntKind.i64 0,Value.int IntKind.i64 0] 70)=W at hb1
 have e0:W.cell? ⟨w.heap.size,0,none⟩=some (.slice pa ps.length pc):=by rw [← hW];simp [go_sem]
 have r0:W.cell? ⟨w.heap.size+1,0,none⟩=some (.int .i64 0):=by rw [← hW];simp [go_sem]
 have r1:W.cell? ⟨w.heap.size+1,1,none⟩=some (.int .i64 0):=by rw [← hW];simp [go_sem]
 have f0:W.frozen? ⟨w.heap.size+1,0,none⟩=false:=by rw [← hW];simp [go_sem]
 have f1:W.frozen? ⟨w.heap.size+1,1,none⟩=false:=by rw [← hW];simp [go_sem]
 have hz:w.heap.size+2≤W.heap.size:=by rw [← hW];simp
 have hbW:Below w.heap.size w W:=by rw [← hW];exact blo
 clear hW
 have r0a:=cell_later hb1 r0
 have r1a:=cell_later hb1 r1
 have f0a:=(hb1.frozen (p:=⟨w.heap.size+1,0,none⟩) (by simp;omega)).trans f0
 have f1a:=(hb1.frozen (p:=⟨w.heap.size+1,1,none⟩) (by simp;omega)).trans f1
 have hbF1:=hbW.trans (hb1.mono hbW.size)
 by_cases hN:netF ps js=(0,0)
 rotate_left
 ·have HX:=hidQ (sigF_1 (ss:=ss) hN)
  have hc:((netF ps js).1==0)=false:=(netF_code ps js).resolve_left hN
  rw [hc]
  clear hc hN
  go_wp2_with fail
  exact bodyPost_ret (v:=.agg #[.int .i64 1,.int .i64 0]) (by simp [results,Tryz.results26,go_sem,r0a,r1a]) rfl ⟨ret_fault HX.out,blo⟩
 have HN:=hidQ hN
 have hc:((netF ps js).1==0)=true:=by rw [hN];rfl
 rw [hc]
 obtain ⟨hp100,hplen⟩:=net_ok_pieces hN
 have HPL:=hidQ hplen
 clear hc hN hplen
 by_cases h60:60<ss.length
 ·have HX:=hidQ (sigF_2 HN.out h60)
  go_wp2_with fail
  exact bodyPost_ret (v:=.agg #[.int .i64 2,.int .i64 0]) (by simp [results,Tryz.results26,go_sem,r0a,r1a]) rfl ⟨ret_fault HX.out,blo⟩
 have H60:=hidQ h60
 have h60':(ss.length:Int)≤60:=by omega
 clear h60
 go_wp2_with fail
 have HB1:=hidQ hb1
 clear r0a r1a f0a f1a hbF1 hb1
 go_loopw [18] (fun c wr => ∃ (i:Nat),i≤ss.length∧c = .int .i64 i∧Hid (∀ q,q<i→badS3 ps ss q=false)∧Below W.heap.size W wr) (fun c _=>ss.length-(intOf c).toNat)
 case atStart=>exact ⟨0,Nat.zero_le _,rfl,(fun q h=>absurd h (Nat.not_lt_zero q)),HB1.out⟩
 case round =>
  clear HB1
  obtain ⟨i,hi,rfl,HQ,hb⟩:=hrel
  have hbs:=hb.size
  have hz2:w.heap.size+1<wr.heap.size:=by omega
  have hz3:w.heap.size<wr.heap.size:=by omega
  have e0':=cell_later hb e0
  have r0':=cell_later hb r0
  have r1':=cell_later hb r1
  have f0':=(hb.frozen (p:=⟨w.heap.size+1,0,none⟩) (by simp;omega)).trans f0
  have f1':=(hb.frozen (p:=⟨w.heap.size+1,1,none⟩) (by simp;omega)).trans f1
  have hbF:=hbW.trans (hb.mono hbW.size)
  by_cases hi':i<ss.length
  ·obtain ⟨b1,off1,rfl,hpc⟩:=hs.out.2.2.resolve_left (nz hi')
   obtain ⟨c1,c2,c3,c4⟩:=((hpc.below hbW).below hb) i hi'
   have hsz:ss[i].name.size≤maxLen:=hs.out.2.1 _ (List.getElem_mem hi')
   have hzb:b1<wr.heap.size:=cellLt c1
   have HX3:Hid (okSig ps ss[i]=false→sigF ps js ss=(3,(i:Int))):=fun ho=>sigF_3 HN.out H60.out hi' (by rw [badS3_at hi',ho];rfl) HQ.out
   have HQ2:Hid (okSig ps ss[i]=true→∀ q,q<i+1→badS3 ps ss q=false):=by
    intro ho q hq
    by_cases e:q<i
    ·exact HQ.out q e
    ·have:q=i:=by omega
     subst this
     rw [badS3_at hi',ho];rfl
   clear hpc HQ
   cases q1:nameB ss[i].name
   ·have HX:=hidQ (HX3.out (okSigC_1 q1))
    go_wp2_with (first | (go_at_call 62;refine (l1name_any _ _ hsz).mono ?_;rintro e w' ⟨rfl,rfl⟩) | (go_at_call 34;refine (l1in_any _ _ _ _).mono ?_;rintro e w' ⟨rfl,rfl⟩))
    refine bodyPost_ret (v:=.agg #[.int .i64 3,.int .i64 i]) (by simp [results,Tryz.results26,go_sem,r0',r1',hz2]) rfl ⟨ret_fault HX.out,?_⟩
    exact blo
   cases q2:inB ss[i].len 0 ((ps.length:Int)-1)
   ·have HX:=hidQ (HX3.out (okSigC_2 q2))
    go_wp2_with (first | (go_at_call 62;refine (l1name_any _ _ hsz).mono ?_;rintro e w' ⟨rfl,rfl⟩) | (go_at_call 34;refine (l1in_any _ _ _ _).mono ?_;rintro e w' ⟨rfl,rfl⟩))
    refine bodyPost_ret (v:=.agg #[.int .i64 3,.int .i64 i]) (by simp [results,Tryz.results26,go_sem,r0',r1',hz2]) rfl ⟨ret_fault HX.out,?_⟩
    exact blo
   rcases wayB_cases ss[i].brake with ⟨q3,hw⟩ | ⟨q3,hw1,hw2⟩
   rotate_left
   ·have HX:=hidQ (HX3.out (okSigC_3 q3))
    clear q3
    go_wp2_with (first | (go_at_call 62;refine (l1name_any _ _ hsz).mono ?_;rintro e w' ⟨rfl,rfl⟩) | (go_at_call 34;refine (l1in_any _ _ _ _).mono ?_;rintro e w' ⟨rfl,rfl⟩))
    refine bodyPost_ret (v:=.agg #[.int .i64 3,.int .i64 i]) (by simp [results,Tryz.results26,go_sem,r0',r1',hz2]) rfl ⟨ret_fault HX.out,?_⟩
    exact blo
   have HO:=hidQ (okSigC_4 (ps:=ps) (pl:=ss[i].speed) q1 q2 q3)
   have hin:0≤ss[i].len∧ss[i].len<ps.length:=by
    unfold inB at q2
    simp at q2
    omega
   obtain ⟨k,hk⟩:=Int.eq_ofNat_of_zero_le hin.1
   have hkl:k<ps.length:=by omega
   have hk0:(0:Int)≤(k:Int):=by omega
   have hk1:(k:Int)<(ps.length:Int):=by omega
   have hpk:=HPL.out k hkl
   obtain ⟨hpk1,hpk2⟩:=hpk
   have HLA:=hidQ (lenAt_at hkl)
   obtain ⟨b2,off2,rfl,hpp⟩:=hp.out.2.2.resolve_left (nz hkl)
   obtain ⟨d1,d2,d3,d4⟩:=((hpp.below hbW).below hb) k hkl
   have hzb2:b2<wr.heap.size:=cellLt d1
   clear hpp d1 d3 d4 hin q3
   have HK:=hidQ hk
   rw [hk] at c2 q2
   clear hk
   cases q4:inB ss[i].speed 1 (ps[k].len-1)
   ·have HX:=hidQ (HX3.out (by
     show okSigC ps ss[i].name ss[i].len ss[i].speed ss[i].brake=false
     rw [HO.out,HK.out]
     erw [HLA.out]
     exact q4))
    rcases hw with hw1 | ⟨hw1,hw2⟩
    all_goals
     go_wp2_with (first | (go_at_call 62;refine (l1name_any _ _ hsz).mono ?_;rintro e w' ⟨rfl,rfl⟩) | (go_at_call 34;refine (l1in_any _ _ _ _).mono ?_;rintro e w' ⟨rfl,rfl⟩))
     go_quiet ((go_at_call 34;exact Calls.quiet_of_same (l1in_any _ _ _ _)))
     go_wp2_with fail
     refine bodyPost_ret (v:=.agg #[.int .i64 3,.int .i64 i]) (by simp [results,Tryz.results26,go_sem,r0',r1',hz2]) rfl ⟨ret_fault HX.out,?_⟩
     exact blo
   ·have HQ3:=hidQ (HQ2.out (by
     show okSigC ps ss[i].name ss[i].len ss[i].speed ss[i].brake=true
     rw [HO.out,HK.out]
     erw [HLA.out]
     exact q4))
    clear HQ2 HX3
    rcases hw with hw1 | ⟨hw1,hw2⟩
    all_goals
     go_wp2_with (first | (go_at_call 62;refine (l1name_any _ _ hsz).mono ?_;rintro e w' ⟨rfl,rfl⟩) | (go_at_call 34;refine (l1in_any _ _ _ _).mono ?_;rintro e w' ⟨rfl,rfl⟩))
     go_quiet ((go_at_call 34;exact Calls.quiet_of_same (l1in_any _ _ _ _)))
     go_wp2_with fail
     go_roundw
     case rel=>exact ⟨i+1,by omega,by go_num,HQ3,blo⟩
     case measure=>simp [intOf];omega
  ·have H3:Hid (∀ q,q<ss.length→badS3 ps ss q=false):=fun q h=>HQ.out q (by omega)
   have HB:=hidQ hb
   clear HQ
   go_wp2_with fail
   clear e0' r0' r1' f0' f1' hbF hbs hz2 hz3 hb hi hi'
   go_loopw [66] (fun c wr => ∃ (i:Nat),i≤ss.length∧c = .int .i64 i∧Hid (∀ q,q<i→badS4 ss q=false)∧Below W.heap.size W wr) (fun c _=>ss.length-(intOf c).toNat)
   case atStart=>exact ⟨0,Nat.zero_le _,rfl,(fun q h=>absurd h (Nat.not_lt_zero q)),HB.out⟩
   case round =>
    clear HB
    obtain ⟨i,hi,rfl,HQ,hb⟩:=hrel
    have hbs:=hb.size
    have hz2:w.heap.size+1<wr.heap.size:=by omega
    have hz3:w.heap.size<wr.heap.size:=by omega
    have e0':=cell_later hb e0
    have r0':=cell_later hb r0
    have r1':=cell_later hb r1
    have f0':=(hb.frozen (p:=⟨w.heap.size+1,0,none⟩) (by simp;omega)).trans f0
    have f1':=(hb.frozen (p:=⟨w.heap.size+1,1,none⟩) (by simp;omega)).trans f1
    have hbF:=hbW.trans (hb.mono hbW.size)
    by_cases hi':i<ss.length
    ·have HS:=hidQ (hs.out.below hbF)
     go_wp2_with fail
     refine (l1before_any _ _ _ i hi' _ HS).mono ?_
     rintro e w2 ⟨rfl,hb2⟩
     have hb3:=hb.trans (hb2.mono hb.size)
     have hb4:=hbF.trans (hb2.mono hbF.size)
     have r0'':=cell_later hb2 r0'
     have r1'':=cell_later hb2 r1'
     have f0'':=(hb2.frozen (p:=⟨w.heap.size+1,0,none⟩) (by simp;omega)).trans f0'
     have f1'':=(hb2.frozen (p:=⟨w.heap.size+1,1,none⟩) (by simp;omega)).trans f1'
     clear e0' r0' r1' f0' f1' hb hb2 hbF HS
     cases ho:beforeB ss i ss[i]
     ·have HQ2:Hid (∀ q,q<i+1→badS4 ss q=false):=by
       intro q hq
       by_cases e:q<i
       ·exact HQ.out q e
       ·have:q=i:=by omega
        subst this
        rw [badS4_at hi',ho]
      clear ho HQ
      go_wp2_with fail
      go_roundw
      case rel=>exact ⟨i+1,by omega,by go_num,HQ2,hb3⟩
      case measure=>simp [intOf];omega
     ·have HX:=hidQ (sigF_4 HN.out H60.out H3.out hi' (by rw [badS4_at hi',ho]) HQ.out)
      clear ho HQ
      go_wp2_with fail
      refine bodyPost_ret (v:=.agg #[.int .i64 4,.int .i64 i]) (by simp [results,Tryz.results26,go_sem,r0'',r1'']) rfl ⟨ret_fault HX.out,?_⟩
      exact blo
    ·have HX:=hidQ (sigF_0 HN.out H60.out H3.out (fun q h=>HQ.out q (by omega)))
     clear HQ
     go_wp2_with fail
     refine bodyPost_ret (v:=.agg #[.int .i64 0,.int .i64 0]) (by simp [results,Tryz.results26,go_sem,r0',r1']) rfl ⟨ret_fault HX.out,?_⟩
     exact blo
end Go.Proofs.YtmkdgnmmebldgaaGreatDoor
