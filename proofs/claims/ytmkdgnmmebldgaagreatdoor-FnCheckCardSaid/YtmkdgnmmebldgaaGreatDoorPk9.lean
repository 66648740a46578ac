import Derived.Test.YtmkdgnmmebldgaaGreatDoorPk5
import Derived.Test.YtmkdgnmmebldgaaGreatDoorPk8
set_option maxRecDepth 100000
set_option maxHeartbeats 8000000
open Go.Proofs.Tryz
namespace Go.Proofs.YtmkdgnmmebldgaaGreatDoor
open Go.RowKit
theorem Ak (pa ja:Option Addr)(pc jc:Nat)(ps:List af)(js:List aj)(w:World)(hp:Hid (ar w pa ps))(hj:Hid (aP w ja js)):
  Calls prog 61 #[.agg #[.slice pa ps.length pc,.slice ja js.length jc]] w fun e w'=>e = .returned (.bool ((dt ps js).1==0))/\Cx w w':=by
 go_enter func61,ntmps61
 go_wp2_with fail
 refine (rY _ _ _ _ _ _ _ (hp.out.below blo) (hj.out.below blo)).mono ?_;rintro e w1 ⟨rfl,a⟩;obtain ⟨fc,fa,hf⟩:∃ fc fa,dt ps js=(fc,fa):=⟨_,_,rfl⟩;have HF:=aC hf;rw [hf];clear hf;unfold gK;have b:Cx w w1:=Below.trans blo (a.mono CI)
 have c:=b.size;clear a
 go_wp2_with fail
 go_ret
 exact ⟨aK (by rw [HF.out]),blo⟩
theorem mZ (a:Option Addr)(cap:Nat)(ss:List af)(i:Nat)(hi:i<ss.length)(w:World)(hp:Hid (ar w a ss)):
  Calls prog 63 #[.slice a ss.length cap,.int .i64 i] w fun e w'=>e = .returned (.bool (fe ss i ss[i]))/\Cx w w':=by
 have hl:=hp.out.1;unfold maxLen at hl;obtain ⟨b1,j,rfl,d⟩:=hp.out.2.2.resolve_left (nz hi);have f:=aC d;clear d
 go_enter func63,ntmps63
 go_wp2_with fail
 go_loopw [5] (fun c wr => ∃ (k:Nat),k<=i/\c = .int .i64 k/\Hid (∀ q (hq:q<ss.length),q<k->jI ss[q] ss[i]=false)/\Cx w wr) (fun c _=>i-(intOf c).toNat)
 case atStart=>exact ⟨0,Nat.zero_le _,rfl,(fun q _ h=>absurd h (Nat.not_lt_zero q)),blo⟩
 case round =>
  obtain ⟨k,hk,rfl,HQ,hb⟩:=hrel;have n:=hb.size
  by_cases l:k<i
  ·have g:k<ss.length:=CG
   obtain ⟨c1,c2,c3,c4⟩:=(f.out.below hb) k g;obtain ⟨d1,d2,d3,d4⟩:=(f.out.below hb) i hi;have o:b1<wr.heap.size:=ai c1;cases hS:jI ss[k] ss[i]
   ·have m:Hid (∀ q (hq:q<ss.length),q<k+1->jI ss[q] ss[i]=false):=by
     intro q hq p
     by_cases e:q<k
     ·exact HQ.out q hq e
     ·have:q=k:=CG
      subst this;exact hS
    have b:(ss[k].name.toList==ss[i].name.toList)=false/\((ss[k].len==ss[i].len)=false\/(ss[k].len==ss[i].len)=true/\((ss[k].CD==ss[i].CD)=false\/(ss[k].CD==ss[i].CD)=true/\(ss[k].CC==ss[i].CC)=false)):=by
     unfold jI at hS;rw [Bool.or_eq_false_iff] at hS;refine ⟨nX (by simpa using hS.1),?_⟩
     have h2:=hS.2
     revert h2
     cases (ss[k].len==ss[i].len) <;> cases (ss[k].CD==ss[i].CD) <;> cases (ss[k].CC==ss[i].CC) <;> simp
    clear hS HQ;obtain ⟨g1,g2 | ⟨g2,g3 | ⟨g3,g4⟩⟩⟩:=b
    all_goals
     go_wp2_with fail
     go_roundw
     case rel=>exact ⟨k+1,CG,by go_num,m,blo⟩
     case measure=>simp [intOf];omega
   ·have HX:=aC (uK l g hS);have b:ss[k].name=ss[i].name\/(ss[k].name.toList==ss[i].name.toList)=false/\(ss[k].len==ss[i].len)=true/\(ss[k].CD==ss[i].CD)=true/\(ss[k].CC==ss[i].CC)=true:=by
     by_cases e:ss[k].name=ss[i].name
     ·exact Or.inl e
     ·right;unfold jI at hS;rw [decide_eq_false e,Bool.false_or] at hS;simp only [Bool.and_eq_true] at hS;exact ⟨nX e,hS.1.1,hS.1.2,hS.2⟩
    clear hS HQ;rcases b with g1 | ⟨g1,g2,g3,g4⟩
    ·rw [g1] at c1;clear g1
     go_wp2_with fail
     go_ret
     exact ⟨aK HX.out.symm,blo⟩
    ·go_wp2_with fail
     go_ret
     exact ⟨aK HX.out.symm,blo⟩
  ·have HX:=aC (uk (ss:=ss) (i:=i) (s:=ss[i]) (fun q hq r=>HQ.out q hq CG))
   clear HQ
   go_wp2_with fail
   go_ret
   exact ⟨aK HX.out.symm,hb⟩
theorem xK (x:Int):jU x=true/\((x != 1)=false\/(x != 1)=true/\(x != -1)=false)\/jU x=false/\(x != 1)=true/\(x != -1)=true:=by
 unfold jU bne;cases (x==1) <;> cases (x == -1) <;> simp
theorem oh (pa ja sa:Option Addr)(pc jc sc:Nat)(ps:List af)(js:List aj)(ss:List af)(w:World)(hp:Hid (ar w pa ps))(hj:Hid (aP w ja js))(hs:Hid (ar w sa ss)):
  Calls prog 26 #[.agg #[.slice pa ps.length pc,.slice ja js.length jc],.slice sa ss.length sc] w fun e w'=>e = .returned (gK (cE ps js ss))/\Cx w w':=by
 have U:=hs.out.1;unfold maxLen at U
 go_enter func26,ntmps26
 go_wp2_with fail
 refine (Ak _ _ _ _ _ _ _ (hp.out.below blo) (hj.out.below blo)).mono ?_;rintro e w1 ⟨rfl,f⟩;generalize hW:(w.alloc (Obj.cells #[Value.slice pa ps.length pc,Value.slice ja js.length jc] 26)).alloc (Obj.cells #[Value.int IntKind.i64 0,Value.int IntKind.i64 0] 70)=W at f;have e0:W.cell? ⟨w.heap.size,0,none⟩=some (.slice pa ps.length pc):=by rw [<-hW];simp [go_sem]
 have r0:W.cell? ⟨w.heap.size+1,0,none⟩=some (.int .i64 0):=by rw [<-hW];simp [go_sem]
 have r1:W.cell? ⟨w.heap.size+1,1,none⟩=some (.int .i64 0):=by rw [<-hW];simp [go_sem]
 have f0:W.frozen? ⟨w.heap.size+1,0,none⟩=false:=by rw [<-hW];simp [go_sem]
 have f1:W.frozen? ⟨w.heap.size+1,1,none⟩=false:=by rw [<-hW];simp [go_sem]
 have hz:w.heap.size+2<=W.heap.size:=by rw [<-hW];simp
 have g:Cx w W:=by rw [<-hW];exact blo
 clear hW;have z:=cell_later f r0;have A:=cell_later f r1;have V:=(f.frozen (p:=⟨w.heap.size+1,0,none⟩) CN).trans f0
 have X:=(f.frozen (p:=⟨w.heap.size+1,1,none⟩) CN).trans f1
 have B:=g.trans (f.mono g.size)
 by_cases hN:dt ps js=(0,0)
 rotate_left
 ·have HX:=aC (uf (ss:=ss) hN);have hc:((dt ps js).1==0)=false:=(rz ps js).resolve_left hN;rw [hc];clear hc hN
  go_wp2_with fail
  exact bodyPost_ret (v:=.agg #[.int .i64 1,.int .i64 0]) (by simp [results,results26,go_sem,z,A]) rfl ⟨bL HX.out,blo⟩
 have HN:=aC hN;have hc:((dt ps js).1==0)=true:=by rw [hN];rfl
 rw [hc];obtain ⟨H,j⟩:=mu hN;have Y:=aC j;clear hc hN j
 by_cases C:60<ss.length
 ·have HX:=aC (zo HN.out C)
  go_wp2_with fail
  exact bodyPost_ret (v:=.agg #[.int .i64 2,.int .i64 0]) (by simp [results,results26,go_sem,z,A]) rfl ⟨bL HX.out,blo⟩
 have D:=aC C;have Z:(ss.length:Int)<=60:=CG
 clear C
 go_wp2_with fail
 have I:=aC f;clear z A V X B f
 go_loopw [18] (fun c wr => ∃ (i:Nat),i<=ss.length/\c = .int .i64 i/\Hid (∀ q,q<i->fx ps ss q=false)/\Cx W wr) (fun c _=>ss.length-(intOf c).toNat)
 case atStart=>exact ⟨0,Nat.zero_le _,rfl,(fun q h=>absurd h (Nat.not_lt_zero q)),I.out⟩
 case round =>
  clear I;obtain ⟨i,hi,rfl,HQ,hb⟩:=hrel;have J:=hb.size;have m:w.heap.size+1<wr.heap.size:=CG
  have L:w.heap.size<wr.heap.size:=CG
  have E:=cell_later hb e0;have b:=cell_later hb r0;have d:=cell_later hb r1;have s:=(hb.frozen (p:=⟨w.heap.size+1,0,none⟩) CN).trans f0
  have t:=(hb.frozen (p:=⟨w.heap.size+1,1,none⟩) CN).trans f1
  have n:=g.trans (hb.mono g.size)
  by_cases a:i<ss.length
  ·obtain ⟨b1,aa,rfl,M⟩:=hs.out.2.2.resolve_left (nz a);obtain ⟨c1,c2,c3,c4⟩:=((M.below g).below hb) i a;have o:ss[i].name.size<=maxLen:=hs.out.2.1 _ (List.getElem_mem a);have an:b1<wr.heap.size:=ai c1;have r:Hid (jM ps ss[i]=false->cE ps js ss=(3,(i:Int))):=fun ho=>yV HN.out D.out a (by rw [i4 a,ho];rfl) HQ.out
   have u:Hid (jM ps ss[i]=true->∀ q,q<i+1->fx ps ss q=false):=by
    intro ho q hq
    by_cases e:q<i
    ·exact HQ.out q e
    ·have:q=i:=CG
     subst this;rw [i4 a,ho];rfl
   clear M HQ;cases q1:cr ss[i].name
   ·have HX:=aC (r.out (uq q1))
    go_wp2_with (first | (go_at_call 62;refine (eG _ _ o).mono ?_;rintro e w' ⟨rfl,rfl⟩) | (go_at_call 34;refine (dq _ _ _ _).mono ?_;rintro e w' ⟨rfl,rfl⟩))
    refine bodyPost_ret (v:=.agg #[.int .i64 3,.int .i64 i]) (by simp [results,results26,go_sem,b,d,m]) rfl ⟨bL HX.out,?_⟩
    exact blo
   cases q2:inB ss[i].len 0 ((ps.length:Int)-1)
   ·have HX:=aC (r.out (tC q2))
    go_wp2_with (first | (go_at_call 62;refine (eG _ _ o).mono ?_;rintro e w' ⟨rfl,rfl⟩) | (go_at_call 34;refine (dq _ _ _ _).mono ?_;rintro e w' ⟨rfl,rfl⟩))
    refine bodyPost_ret (v:=.agg #[.int .i64 3,.int .i64 i]) (by simp [results,results26,go_sem,b,d,m]) rfl ⟨bL HX.out,?_⟩
    exact blo
   rcases xK ss[i].CC with ⟨q3,hw⟩ | ⟨q3,x,N⟩
   rotate_left
   ·have HX:=aC (r.out (tX q3));clear q3
    go_wp2_with (first | (go_at_call 62;refine (eG _ _ o).mono ?_;rintro e w' ⟨rfl,rfl⟩) | (go_at_call 34;refine (dq _ _ _ _).mono ?_;rintro e w' ⟨rfl,rfl⟩))
    refine bodyPost_ret (v:=.agg #[.int .i64 3,.int .i64 i]) (by simp [results,results26,go_sem,b,d,m]) rfl ⟨bL HX.out,?_⟩
    exact blo
   have HO:=aC (uh (ps:=ps) (pl:=ss[i].CD) q1 q2 q3);have O:0<=ss[i].len/\ss[i].len<ps.length:=by
    unfold inB at q2;simp at q2;omega
   obtain ⟨k,hk⟩:=Int.eq_ofNat_of_zero_le O.1;have y:k<ps.length:=CG
   have ao:(0:Int)<=(k:Int):=CG
   have ap:(k:Int)<(ps.length:Int):=CG
   have ab:=Y.out k y;obtain ⟨ac,ad⟩:=ab;have R:=aC (lK y);obtain ⟨b2,ae,rfl,T⟩:=hp.out.2.2.resolve_left (nz y);obtain ⟨d1,d2,d3,d4⟩:=((T.below g).below hb) k y;have ag:b2<wr.heap.size:=ai d1;clear T d1 d3 d4 O q3;have HK:=aC hk;rw [hk] at c2 q2;clear hk;cases q4:inB ss[i].CD 1 (ps[k].len-1)
   ·have HX:=aC (r.out (by
     show eD ps ss[i].name ss[i].len ss[i].CD ss[i].CC=false
     rw [HO.out,HK.out]
     erw [R.out]
     exact q4))
    rcases hw with x | ⟨x,N⟩
    all_goals
     go_wp2_with (first | (go_at_call 62;refine (eG _ _ o).mono ?_;rintro e w' ⟨rfl,rfl⟩) | (go_at_call 34;refine (dq _ _ _ _).mono ?_;rintro e w' ⟨rfl,rfl⟩))
     go_quiet ((go_at_call 34;exact Calls.quiet_of_same (dq _ _ _ _)))
     go_wp2_with fail
     refine bodyPost_ret (v:=.agg #[.int .i64 3,.int .i64 i]) (by simp [results,results26,go_sem,b,d,m]) rfl ⟨bL HX.out,?_⟩
     exact blo
   ·have ah:=aC (u.out (by
     show eD ps ss[i].name ss[i].len ss[i].CD ss[i].CC=true
     rw [HO.out,HK.out]
     erw [R.out]
     exact q4))
    clear u r;rcases hw with x | ⟨x,N⟩
    all_goals
     go_wp2_with (first | (go_at_call 62;refine (eG _ _ o).mono ?_;rintro e w' ⟨rfl,rfl⟩) | (go_at_call 34;refine (dq _ _ _ _).mono ?_;rintro e w' ⟨rfl,rfl⟩))
     go_quiet ((go_at_call 34;exact Calls.quiet_of_same (dq _ _ _ _)))
     go_wp2_with fail
     go_roundw
     case rel=>exact ⟨i+1,CG,by go_num,ah,blo⟩
     case measure=>simp [intOf];omega
  ·have H3:Hid (∀ q,q<ss.length->fx ps ss q=false):=fun q h=>HQ.out q CG
   have HB:=aC hb;clear HQ
   go_wp2_with fail
   clear E b d s t n J m L hb hi a
   go_loopw [66] (fun c wr => ∃ (i:Nat),i<=ss.length/\c = .int .i64 i/\Hid (∀ q,q<i->gq ss q=false)/\Cx W wr) (fun c _=>ss.length-(intOf c).toNat)
   case atStart=>exact ⟨0,Nat.zero_le _,rfl,(fun q h=>absurd h (Nat.not_lt_zero q)),HB.out⟩
   case round =>
    clear HB;obtain ⟨i,hi,rfl,HQ,hb⟩:=hrel;have J:=hb.size;have m:w.heap.size+1<wr.heap.size:=CG
    have L:w.heap.size<wr.heap.size:=CG
    have E:=cell_later hb e0;have b:=cell_later hb r0;have d:=cell_later hb r1;have s:=(hb.frozen (p:=⟨w.heap.size+1,0,none⟩) CN).trans f0
    have t:=(hb.frozen (p:=⟨w.heap.size+1,1,none⟩) CN).trans f1
    have n:=g.trans (hb.mono g.size)
    by_cases a:i<ss.length
    ·have HS:=aC (hs.out.below n)
     go_wp2_with fail
     refine (mZ _ _ _ i a _ HS).mono ?_;rintro e w2 ⟨rfl,l⟩;have ak:=hb.trans (l.mono hb.size);have aq:=n.trans (l.mono n.size);have F:=cell_later l b;have G:=cell_later l d;have al:=(l.frozen (p:=⟨w.heap.size+1,0,none⟩) CN).trans s
     have am:=(l.frozen (p:=⟨w.heap.size+1,1,none⟩) CN).trans t
     clear E b d s t hb l n HS;cases ho:fe ss i ss[i]
     ·have u:Hid (∀ q,q<i+1->gq ss q=false):=by
       intro q hq
       by_cases e:q<i
       ·exact HQ.out q e
       ·have:q=i:=CG
        subst this;rw [lW a,ho]
      clear ho HQ
      go_wp2_with fail
      go_roundw
      case rel=>exact ⟨i+1,CG,by go_num,u,ak⟩
      case measure=>simp [intOf];omega
     ·have HX:=aC (yT HN.out D.out H3.out a (by rw [lW a,ho]) HQ.out)
      clear ho HQ
      go_wp2_with fail
      refine bodyPost_ret (v:=.agg #[.int .i64 4,.int .i64 i]) (by simp [results,results26,go_sem,F,G]) rfl ⟨bL HX.out,?_⟩
      exact blo
    ·have HX:=aC (zH HN.out D.out H3.out (fun q h=>HQ.out q CG))
     clear HQ
     go_wp2_with fail
     refine bodyPost_ret (v:=.agg #[.int .i64 0,.int .i64 0]) (by simp [results,results26,go_sem,b,d]) rfl ⟨bL HX.out,?_⟩
     exact blo
end Go.Proofs.YtmkdgnmmebldgaaGreatDoor
