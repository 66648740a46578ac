import Derived.Test.YtmkdgnmmebldgaaGreatDoorPk7
set_option maxRecDepth 100000
set_option maxHeartbeats 8000000
open Go.Proofs.Tryz
namespace Go.Proofs.YtmkdgnmmebldgaaGreatDoor
open Go.RowKit
def gK (f:Int × Int):Value:=.agg #[.int .i64 f.1,.int .i64 f.2]
theorem bL {f:Int × Int}{a b:Int}(h:f=(a,b)):Ending.returned (.agg #[.int .i64 a,.int .i64 b]) = .returned (gK f):=by rw [h];rfl
theorem qG {ps:List af}{i:Nat}(h:i<ps.length)(hp:cM ps[i].name ps[i].len ps[i].CD ps[i].CC=false):dX ps i=true:=by
 rw [gP h];simp [okP,hp]
theorem rY (pa ja:Option Addr)(pc jc:Nat)(ps:List af)(js:List aj)(w:World)(hp:Hid (ar w pa ps))(hj:Hid (aP w ja js)):
  Calls prog 28 #[.agg #[.slice pa ps.length pc,.slice ja js.length jc]] w fun e w'=>e = .returned (gK (dt ps js))/\Cx w w':=by
 have L:=hp.out.1;have U:=hj.out.1;unfold maxLen at L U;cases hS:dR ps.length js.length
 ·have HX:=aC (tF hS);have G:((ps.length:Int)==0)=true\/((ps.length:Int)==0)=false/\(100<(ps.length:Int)\/¬ 100<(ps.length:Int)/\decide (100<(ps.length:Int))=false/\120<(js.length:Int)):=by
   unfold dR at hS;simp only [decide_eq_false_iff_not,beq_iff_eq,beq_eq_false_iff_ne] at hS ⊢;omega
  clear hS;rcases G with h1 | ⟨h1,h2 | ⟨h2,h3,h4⟩⟩
  all_goals
   go_enter func28,ntmps28
   go_wp2_with fail
   exact bodyPost_ret (v:=.agg #[.int .i64 1,.int .i64 0]) (by simp [results,results28,go_sem]) rfl ⟨bL HX.out,blo⟩
 ·have G:((ps.length:Int)==0)=false/\¬ 100<(ps.length:Int)/\¬ 120<(js.length:Int):=by
   unfold dR at hS;simp only [decide_eq_true_eq,beq_eq_false_iff_ne] at hS ⊢;omega
  have HS:=aC hS;clear hS;obtain ⟨h1,h2,h3⟩:=G
  go_enter func28,ntmps28
  go_wp2_with fail
  generalize hW:(w.alloc (Obj.cells #[Value.slice pa ps.length pc,Value.slice ja js.length jc] 26)).alloc (Obj.cells #[Value.int IntKind.i64 0,Value.int IntKind.i64 0] 70)=W;have e0:W.cell? ⟨w.heap.size,0,none⟩=some (.slice pa ps.length pc):=by rw [<-hW];simp [go_sem]
  have e1:W.cell? ⟨w.heap.size,1,none⟩=some (.slice ja js.length jc):=by rw [<-hW];simp [go_sem]
  have r0:W.cell? ⟨w.heap.size+1,0,none⟩=some (.int .i64 0):=by rw [<-hW];simp [go_sem]
  have r1:W.cell? ⟨w.heap.size+1,1,none⟩=some (.int .i64 0):=by rw [<-hW];simp [go_sem]
  have f0:W.frozen? ⟨w.heap.size+1,0,none⟩=false:=by rw [<-hW];simp [go_sem]
  have f1:W.frozen? ⟨w.heap.size+1,1,none⟩=false:=by rw [<-hW];simp [go_sem]
  have hz:w.heap.size+2=W.heap.size:=by rw [<-hW];simp
  have r:Cx w W:=by rw [<-hW];exact blo
  clear hW
  go_loopw [30] (fun c wr => ∃ (i:Nat),i<=ps.length/\c = .int .i64 i/\Hid (∀ q,q<i->dX ps q=false)/\Cx W wr) (fun c _=>ps.length-(intOf c).toNat)
  case atStart=>exact ⟨0,Nat.zero_le _,rfl,(fun q h=>absurd h (Nat.not_lt_zero q)),blo⟩
  case round =>
   obtain ⟨i,hi,rfl,HQ,hb⟩:=hrel;have z:=hb.size;have y:w.heap.size+1<wr.heap.size:=CG
   have A:w.heap.size<wr.heap.size:=CG
   have s:=cell_later hb e0;have t:=cell_later hb e1;have d:=cell_later hb r0;have f:=cell_later hb r1;have l:=(hb.frozen (p:=⟨w.heap.size+1,0,none⟩) CN).trans f0
   have n:=(hb.frozen (p:=⟨w.heap.size+1,1,none⟩) CN).trans f1
   by_cases b:i<ps.length
   ·obtain ⟨b1,V,rfl,M⟩:=hp.out.2.2.resolve_left (nz b);obtain ⟨c1,c2,c3,c4⟩:=((M.below r).below hb) i b;have O:ps[i].name.size<=maxLen:=hp.out.2.1 _ (List.getElem_mem b);have X:=aC M;clear M;cases hP:cM ps[i].name ps[i].len ps[i].CD ps[i].CC
    ·have HX:=aC (qr HS.out b (qG b hP) HQ.out);have G:cr ps[i].name=false\/cr ps[i].name=true/\(inB ps[i].len 1 10000000=false\/inB ps[i].len 1 10000000=true/\(inB ps[i].CD 1 10000=false\/inB ps[i].CD 1 10000=true/\inB ps[i].CC 1 1000=false)):=by
      unfold cM at hP
      revert hP
      cases cr ps[i].name <;> cases inB ps[i].len 1 10000000 <;> cases inB ps[i].CD 1 10000 <;> cases inB ps[i].CC 1 1000 <;> simp
     clear hP HQ;rcases G with q1 | ⟨q1,q2 | ⟨q2,q3 | ⟨q3,q4⟩⟩⟩
     all_goals
      go_wp2_with (first | (go_at_call 62;refine (eG _ _ O).mono ?_;rintro e w' ⟨rfl,rfl⟩) | (go_at_call 34;refine (dq _ _ _ _).mono ?_;rintro e w' ⟨rfl,rfl⟩))
      refine bodyPost_ret (v:=.agg #[.int .i64 2,.int .i64 i]) (by simp [results,results28,go_sem,d,f,y]) rfl ⟨bL HX.out,?_⟩
      have g:=r.trans (hb.mono r.size);exact blo
    ·have q1:cr ps[i].name=true:=by
      unfold cM at hP;revert hP;cases cr ps[i].name <;> simp
     have q2:inB ps[i].len 1 10000000=true:=by
      unfold cM at hP;revert hP;cases inB ps[i].len 1 10000000 <;> simp
     have q3:inB ps[i].CD 1 10000=true:=by
      unfold cM at hP;revert hP;cases inB ps[i].CD 1 10000 <;> simp
     have q4:inB ps[i].CC 1 1000=true:=by
      unfold cM at hP;revert hP;cases inB ps[i].CC 1 1000 <;> simp
     have HP:=aC hP;clear hP
     go_wp2_with (first | (go_at_call 62;refine (eG _ _ O).mono ?_;rintro e w' ⟨rfl,rfl⟩) | (go_at_call 34;refine (dq _ _ _ _).mono ?_;rintro e w' ⟨rfl,rfl⟩))
     generalize H:wr.alloc (Obj.cells #[Value.string ps[i].name,Value.int IntKind.i64 ps[i].len,Value.int IntKind.i64 ps[i].CD,Value.int IntKind.i64 ps[i].CC] 133)=W1;have p0:W1.cell? ⟨wr.heap.size,0,none⟩=some (.string ps[i].name):=by rw [<-H];simp [go_sem]
     have Y:wr.heap.size+1=W1.heap.size:=by rw [<-H];simp
     have R:Cx W W1:=by rw [<-H];exact blo
     clear H q1 q2 q3 q4 c1 c2 c3 c4 s t d f l n hb
     go_loopw [5] (fun c Z => ∃ (k:Nat),k<=i/\c = .int .i64 k/\Hid (∀ q (hq:q<ps.length),q<k->ps[q].name≠ps[i].name)/\Cx W1 Z) (fun c _=>i-(intOf c).toNat)
     case atStart=>exact ⟨0,Nat.zero_le _,rfl,(fun q _ h=>absurd h (Nat.not_lt_zero q)),Below.refl _ _⟩
     case round =>
      obtain ⟨k,hk,rfl,B,a⟩:=hrel;have ag:=Nat.lt_of_lt_of_le (Nat.lt_of_succ_le (Nat.le_of_eq Y)) a.size;have hb:=R.trans (a.mono R.size);have ah:=cell_later a p0;have aa:=hb.size;have ai:w.heap.size+1<wr.heap.size:=CG
      have s:=cell_later hb e0;have d:=cell_later hb r0;have f:=cell_later hb r1;have l:=(hb.frozen (p:=⟨w.heap.size+1,0,none⟩) CN).trans f0
      have n:=(hb.frozen (p:=⟨w.heap.size+1,1,none⟩) CN).trans f1
      by_cases ab:k<i
      ·have T:k<ps.length:=CG
       obtain ⟨c1,c2,c3,c4⟩:=((X.out.below r).below hb) k T;clear c2 c3 c4
       by_cases hne:ps[k].name=ps[i].name
       ·have HX:=aC (qr HS.out b (by rw [gP b];simp [okP,wH ab T hne]) HQ.out)
        rw [hne] at c1;clear hne HQ
        go_wp2_with fail
        go_quiet (fail)
        go_wp2_with fail
        refine bodyPost_ret (v:=.agg #[.int .i64 2,.int .i64 i]) (by simp [results,results28,go_sem,d,f]) rfl ⟨bL HX.out,?_⟩
        have g:=r.trans (hb.mono r.size);exact blo
       ·have ac:Hid (∀ q (hq:q<ps.length),q<k+1->ps[q].name≠ps[i].name):=by
         intro m hm ak
         by_cases e:m<k
         ·exact B.out m hm e
         ·have:m=k:=CG
          subst this;exact hne
        have ad:=nX hne;clear hne B
        go_wp2_with fail
        go_quiet (fail)
        go_wp2_with fail
        go_roundw
        case rel=>exact ⟨k+1,CG,by go_num,ac,blo⟩
        case measure=>simp [intOf];omega
      ·have ae:Hid (∀ q,q<i+1->dX ps q=false):=by
        intro q hq
        by_cases e:q<i
        ·exact HQ.out q e
        ·have:q=i:=CG
         subst this;rw [gP b,okP,HP.out,uY (fun m hm al=>B.out m hm CG)]
         rfl
       clear HQ B
       go_wp2_with fail
       go_roundw
       case rel=>exact ⟨i+1,CG,by go_num,ae,hb⟩
       case measure=>simp [intOf];omega
   ·have H2:Hid (∀ q,q<ps.length->dX ps q=false):=fun q h=>HQ.out q CG
    clear HQ
    go_wp2_with fail
    have HB:=aC hb;clear s t d f l n z y A hb hi b
    go_loopw [6] (fun c wr=>(c = .int .i64 3\/c = .int .i64 4/\Hid (∀ q,q<js.length->eA ps.length js q=false)\/c = .int .i64 5/\Hid (∀ q,q<js.length->eA ps.length js q=false)/\Hid (∀ q,q<js.length->eI js q=false))/\Cx W wr) (fun c _=>(5-intOf c).toNat)
    case atStart=>exact ⟨Or.inl rfl,HB.out⟩
    case round =>
     clear HB;obtain ⟨hrel,hb⟩:=hrel;have z:=hb.size;have y:w.heap.size+1<wr.heap.size:=CG
     have A:w.heap.size<wr.heap.size:=CG
     have s:=cell_later hb e0;have t:=cell_later hb e1;have d:=cell_later hb r0;have f:=cell_later hb r1;have l:=(hb.frozen (p:=⟨w.heap.size+1,0,none⟩) CN).trans f0
     have n:=(hb.frozen (p:=⟨w.heap.size+1,1,none⟩) CN).trans f1
     have g:=r.trans (hb.mono r.size);have o:=aC g;have HB:=aC hb;rcases hrel with rfl | ⟨rfl,H3⟩ | ⟨rfl,H3,H4⟩
     ·clear g
      go_wp2_with fail
      clear s t d f l n z y A hb o
      go_loopw [83] (fun c wr => ∃ (i:Nat),i<=js.length/\c = .int .i64 i/\Hid (∀ q,q<i->eA ps.length js q=false)/\Cx W wr) (fun c _=>js.length-(intOf c).toNat)
      case atStart=>exact ⟨0,Nat.zero_le _,rfl,(fun q h=>absurd h (Nat.not_lt_zero q)),HB.out⟩
      case round =>
       clear HB;obtain ⟨i,hi,rfl,HQ,hb⟩:=hrel;have z:=hb.size;have y:w.heap.size+1<wr.heap.size:=CG
       have A:w.heap.size<wr.heap.size:=CG
       have s:=cell_later hb e0;have t:=cell_later hb e1;have d:=cell_later hb r0;have f:=cell_later hb r1;have l:=(hb.frozen (p:=⟨w.heap.size+1,0,none⟩) CN).trans f0
       have n:=(hb.frozen (p:=⟨w.heap.size+1,1,none⟩) CN).trans f1
       have g:=r.trans (hb.mono r.size)
       by_cases b:i<js.length
       ·have HJ:=aC (hj.out.below g);have o:=aC g;clear g
        go_wp2_with fail
        refine (ow _ _ _ _ _ _ i b _ HJ L).mono ?_;rintro e w2 ⟨rfl,a⟩;have C:=hb.trans (a.mono hb.size);have N:=o.out.trans (a.mono o.out.size);have u:=cell_later a d;have x:=cell_later a f;have D:=(a.frozen (p:=⟨w.heap.size+1,0,none⟩) CN).trans l
        have E:=(a.frozen (p:=⟨w.heap.size+1,1,none⟩) CN).trans n
        clear s t d f l n hb a o HJ;cases ho:ok3 ps.length js[i]
        ·have HX:=aC (zz HS.out H2.out b (by rw [gx b,ho];rfl) HQ.out)
         have hc:cX js ps.length i js[i]=3:=by unfold cX;rw [if_pos ho]
         rw [hc];clear hc ho
         go_wp2_with fail
         refine bodyPost_ret (v:=.agg #[.int .i64 3,.int .i64 i]) (by simp [results,results28,go_sem,u,x]) rfl ⟨bL HX.out,?_⟩
         exact blo
        ·have hc:(cX js ps.length i js[i]==3)=false:=by
          unfold cX;rw [if_neg (by simp [ho])];split <;> rfl
         have B:Hid (∀ q,q<i+1->eA ps.length js q=false):=by
          intro q hq
          by_cases e:q<i
          ·exact HQ.out q e
          ·have:q=i:=CG
           subst this;rw [gx b,ho];rfl
         generalize cX js ps.length i js[i]=c0 at hc ⊢;clear ho HQ
         go_wp2_with fail
         go_roundw
         case rel=>exact ⟨i+1,CG,by go_num,B,C⟩
         case measure=>simp [intOf];omega
       ·have H3:Hid (∀ q,q<js.length->eA ps.length js q=false):=fun q h=>HQ.out q CG
        clear HQ
        go_wp2_with fail
        go_roundw
        case rel=>exact ⟨Or.inr (Or.inl ⟨rfl,H3⟩),hb⟩
        case measure=>simp [intOf]
     ·clear g
      go_wp2_with fail
      clear s t d f l n z y A hb o
      go_loopw [83] (fun c wr => ∃ (i:Nat),i<=js.length/\c = .int .i64 i/\Hid (∀ q,q<i->eI js q=false)/\Cx W wr) (fun c _=>js.length-(intOf c).toNat)
      case atStart=>exact ⟨0,Nat.zero_le _,rfl,(fun q h=>absurd h (Nat.not_lt_zero q)),HB.out⟩
      case round =>
       clear HB;obtain ⟨i,hi,rfl,HQ,hb⟩:=hrel;have z:=hb.size;have y:w.heap.size+1<wr.heap.size:=CG
       have A:w.heap.size<wr.heap.size:=CG
       have s:=cell_later hb e0;have t:=cell_later hb e1;have d:=cell_later hb r0;have f:=cell_later hb r1;have l:=(hb.frozen (p:=⟨w.heap.size+1,0,none⟩) CN).trans f0
       have n:=(hb.frozen (p:=⟨w.heap.size+1,1,none⟩) CN).trans f1
       have g:=r.trans (hb.mono r.size)
       by_cases b:i<js.length
       ·have HJ:=aC (hj.out.below g);have o:=aC g;clear g
        go_wp2_with fail
        refine (ow _ _ _ _ _ _ i b _ HJ L).mono ?_;rintro e w2 ⟨rfl,a⟩;have C:=hb.trans (a.mono hb.size);have N:=o.out.trans (a.mono o.out.size);have u:=cell_later a d;have x:=cell_later a f;have D:=(a.frozen (p:=⟨w.heap.size+1,0,none⟩) CN).trans l
        have E:=(a.frozen (p:=⟨w.heap.size+1,1,none⟩) CN).trans n
        clear s t d f l n hb a o HJ;have I:ok3 ps.length js[i]=true:=by
         have:=H3.out i b;rw [gx b] at this;simpa using this
        cases ho:ok4 js i js[i]
        ·have HX:=aC (yB HS.out H2.out H3.out b (by rw [lY b,ho];rfl) HQ.out)
         have hc:cX js ps.length i js[i]=4:=by unfold cX;rw [if_neg (by simp [I]),if_pos ho]
         rw [hc];clear hc ho I
         go_wp2_with fail
         refine bodyPost_ret (v:=.agg #[.int .i64 4,.int .i64 i]) (by simp [results,results28,go_sem,u,x]) rfl ⟨bL HX.out,?_⟩
         exact blo
        ·have hc:cX js ps.length i js[i]=0:=by
          unfold cX;rw [if_neg (by simp [I]),if_neg (by simp [ho])]
         have B:Hid (∀ q,q<i+1->eI js q=false):=by
          intro q hq
          by_cases e:q<i
          ·exact HQ.out q e
          ·have:q=i:=CG
           subst this;rw [lY b,ho];rfl
         rw [hc];clear hc ho HQ I
         go_wp2_with fail
         go_roundw
         case rel=>exact ⟨i+1,CG,by go_num,B,C⟩
         case measure=>simp [intOf];omega
       ·have H4:Hid (∀ q,q<js.length->eI js q=false):=fun q h=>HQ.out q CG
        clear HQ
        go_wp2_with fail
        go_roundw
        case rel=>exact ⟨Or.inr (Or.inr ⟨rfl,H3,H4⟩),hb⟩
        case measure=>simp [intOf]
     ·go_wp2_with fail
      have HE:Hid (gN js<=1000000):=by
       have:=ny ps.length js (fun j hj=>by
        obtain ⟨q,hq,rfl⟩:=List.getElem_of_mem hj;have:=H3.out q hq;rw [gx hq] at this;simpa using this)
       unfold Hid;omega
      clear s t d f l n z y A hb o g
      go_loopw [98] (fun c wr => ∃ (i:Nat),i<=ps.length/\c = .int .i64 i/\Hid (∀ q,q<i->ew js q=false)/\Cx W wr) (fun c _=>ps.length-(intOf c).toNat)
      case atStart=>exact ⟨0,Nat.zero_le _,rfl,(fun q h=>absurd h (Nat.not_lt_zero q)),HB.out⟩
      case round =>
       clear HB;obtain ⟨i,hi,rfl,HQ,hb⟩:=hrel;have HB:=aC hb;have z:=hb.size;have y:w.heap.size+1<wr.heap.size:=CG
       have A:w.heap.size<wr.heap.size:=CG
       have s:=cell_later hb e0;have t:=cell_later hb e1;have d:=cell_later hb r0;have f:=cell_later hb r1;have l:=(hb.frozen (p:=⟨w.heap.size+1,0,none⟩) CN).trans f0
       have n:=(hb.frozen (p:=⟨w.heap.size+1,1,none⟩) CN).trans f1
       have g:=r.trans (hb.mono r.size)
       by_cases b:i<ps.length
       ·clear g
        go_wp2_with fail
        clear s t d f l n z y A hb
        go_loopw [9] (fun c wr=>(c = .int .i64 0\/c = .int .i64 1/\Hid (uses js (i:Int) 0=1)\/c = .int .i64 2/\Hid (uses js (i:Int) 0=1)/\Hid (uses js (i:Int) 1=1))/\Cx W wr) (fun c _=>(2-intOf c).toNat)
        case atStart=>exact ⟨Or.inl rfl,HB.out⟩
        case round =>
        clear HB;obtain ⟨hrel,hb⟩:=hrel;have z:=hb.size;have y:w.heap.size+1<wr.heap.size:=CG
        have A:w.heap.size<wr.heap.size:=CG
        have s:=cell_later hb e0;have t:=cell_later hb e1;have d:=cell_later hb r0;have f:=cell_later hb r1;have l:=(hb.frozen (p:=⟨w.heap.size+1,0,none⟩) CN).trans f0
        have n:=(hb.frozen (p:=⟨w.heap.size+1,1,none⟩) CN).trans f1
        have g:=r.trans (hb.mono r.size);rcases hrel with rfl | ⟨rfl,J⟩ | ⟨rfl,J,F⟩
        ·have HJ:=aC (hj.out.below g);have o:=aC g;clear g
         go_wp2_with fail
         refine (pL _ _ _ _ _ _ (i:Int) 0 _ HJ HE.out).mono ?_;rintro e w2 ⟨rfl,a⟩;have C:=hb.trans (a.mono hb.size);have N:=o.out.trans (a.mono o.out.size);have u:=cell_later a d;have x:=cell_later a f;have D:=(a.frozen (p:=⟨w.heap.size+1,0,none⟩) CN).trans l
         have E:=(a.frozen (p:=⟨w.heap.size+1,1,none⟩) CN).trans n
         clear s t d f l n hb a o HJ
         by_cases hu:uses js (i:Int) 0=1
         ·have F:=aC hu;rw [hu];clear hu
          go_wp2_with fail
          go_roundw
          case rel=>exact ⟨Or.inr (Or.inl ⟨rfl,F⟩),C⟩
          case measure=>simp [intOf]
         ·have HX:=aC (up HS.out H2.out H3.out H4.out b (by unfold ew;simp [hu]) HQ.out)
          have hc:(((uses js (i:Int) 0:Nat):Int)==1)=false:=by rw [beq_eq_false_iff_ne];omega
          generalize ((uses js (i:Int) 0:Nat):Int)=c0 at hc ⊢;clear hu
          go_wp2_with fail
          refine bodyPost_ret (v:=.agg #[.int .i64 5,.int .i64 i]) (by simp [results,results28,go_sem,u,x]) rfl ⟨bL HX.out,?_⟩
          exact blo
        ·have HJ:=aC (hj.out.below g);have o:=aC g;clear g
         go_wp2_with fail
         refine (pL _ _ _ _ _ _ (i:Int) 1 _ HJ HE.out).mono ?_;rintro e w2 ⟨rfl,a⟩;have C:=hb.trans (a.mono hb.size);have N:=o.out.trans (a.mono o.out.size);have u:=cell_later a d;have x:=cell_later a f;have D:=(a.frozen (p:=⟨w.heap.size+1,0,none⟩) CN).trans l
         have E:=(a.frozen (p:=⟨w.heap.size+1,1,none⟩) CN).trans n
         clear s t d f l n hb a o HJ
         by_cases hu:uses js (i:Int) 1=1
         ·have F:=aC hu;rw [hu];clear hu
          go_wp2_with fail
          go_roundw
          case rel=>exact ⟨Or.inr (Or.inr ⟨rfl,J,F⟩),C⟩
          case measure=>simp [intOf]
         ·have HX:=aC (up HS.out H2.out H3.out H4.out b (by unfold ew;simp [hu]) HQ.out)
          have hc:(((uses js (i:Int) 1:Nat):Int)==1)=false:=by rw [beq_eq_false_iff_ne];omega
          generalize ((uses js (i:Int) 1:Nat):Int)=c0 at hc ⊢;clear hu
          go_wp2_with fail
          refine bodyPost_ret (v:=.agg #[.int .i64 5,.int .i64 i]) (by simp [results,results28,go_sem,u,x]) rfl ⟨bL HX.out,?_⟩
          exact blo
        ·have B:Hid (∀ q,q<i+1->ew js q=false):=by
          intro q hq
          by_cases e:q<i
          ·exact HQ.out q e
          ·have:q=i:=CG
           subst this;unfold ew;rw [J.out,F.out];rfl
         clear HQ J F
         go_wp2_with fail
         go_roundw
         case rel=>exact ⟨i+1,CG,by go_num,B,hb⟩
         case measure=>simp [intOf];omega
       ·have HX:=aC (yJ HS.out H2.out H3.out H4.out (fun q h=>HQ.out q CG))
        clear HQ
        go_wp2_with fail
        refine bodyPost_ret (v:=.agg #[.int .i64 0,.int .i64 0]) (by simp [results,results28,go_sem,d,f]) rfl ⟨bL HX.out,?_⟩
        exact blo
end Go.Proofs.YtmkdgnmmebldgaaGreatDoor
