import Derived.Test.YtmkdgnmmebldgaaGreatDoorPt7
set_option maxRecDepth 100000
set_option maxHeartbeats 8000000
namespace Go.Proofs.YtmkdgnmmebldgaaGreatDoor
open Go.RowKit
def faultV (f:Int × Int):Value:=.agg #[.int .i64 f.1,.int .i64 f.2]
theorem ret_fault {f:Int × Int}{a b:Int}(h:f=(a,b)):Ending.returned (.agg #[.int .i64 a,.int .i64 b]) = .returned (faultV f):=by rw [h];rfl
theorem badPi_of_piece {ps:List MPiece}{i:Nat}(h:i<ps.length)(hp:pieceB ps[i].name ps[i].len ps[i].speed ps[i].brake=false):badPi ps i=true:=by
 rw [badPi_at h];simp [okP,hp]
theorem specNetOk_any (pa ja:Option Addr)(pc jc:Nat)(ps:List MPiece)(js:List MJoint)(w:World)(hp:Hid (PiecesAt w pa ps))(hj:Hid (JointsAt w ja js)):
  Calls Tryz.prog 28 #[.agg #[.slice pa ps.length pc,.slice ja js.length jc]] w fun e w'=>e = .returned (faultV (netF ps js))∧Below w.heap.size w w':=by
 have hpl:=hp.out.1
 have hjl:=hj.out.1
 unfold maxLen at hpl hjl
 cases hS:sizeB ps.length js.length
 ·have HX:=hidQ (netF_1 hS)
  have hcs:((ps.length:Int)==0)=true∨((ps.length:Int)==0)=false∧(100<(ps.length:Int)∨¬ 100<(ps.length:Int)∧decide (100<(ps.length:Int))=false∧120<(js.length:Int)):=by
   unfold sizeB at hS
   simp only [decide_eq_false_iff_not,beq_iff_eq,beq_eq_false_iff_ne] at hS ⊢
   omega
  clear hS
  rcases hcs with h1 | ⟨h1,h2 | ⟨h2,h3,h4⟩⟩
  all_goals
   go_enter Tryz.func28,Tryz.ntmps28
   go_wp2_with fail
   exact bodyPost_ret (v:=.agg #[.int .i64 1,.int .i64 0]) (by simp [results,Tryz.results28,go_sem]) rfl ⟨ret_fault HX.out,blo⟩
 ·have hcs:((ps.length:Int)==0)=false∧¬ 100<(ps.length:Int)∧¬ 120<(js.length:Int):=by
   unfold sizeB at hS
   simp only [decide_eq_true_eq,beq_eq_false_iff_ne] at hS ⊢
   omega
  have HS:=hidQ hS
  clear hS
  obtain ⟨h1,h2,h3⟩:=hcs
  go_enter Tryz.func28,Tryz.ntmps28
  go_wp2_with fail
  generalize hW:(w.alloc (Obj.cells #[Value.slice pa ps.length pc,Value.slice ja js.length jc] 26)).alloc (Obj.cells #[Value.int IntKind.i64 0,Value.int IntKind.i64 0] 70)=W
  have e0:W.cell? ⟨w.heap.size,0,none⟩=some (.slice pa ps.length pc):=by rw [← hW];simp [go_sem]
  have e1:W.cell? ⟨w.heap.size,1,none⟩=some (.slice ja js.length jc):=by rw [← hW];simp [go_sem]
  have r0:W.cell? ⟨w.heap.size+1,0,none⟩=some (.int .i64 0):=by rw [← hW];simp [go_sem]
  have r1:W.cell? ⟨w.heap.size+1,1,none⟩=some (.int .i64 0):=by rw [← hW];simp [go_sem]
  have f0:W.frozen? ⟨w.heap.size+1,0,none⟩=false:=by rw [← hW];simp [go_sem]
  have f1:W.frozen? ⟨w.heap.size+1,1,none⟩=false:=by rw [← hW];simp [go_sem]
  have hz:w.heap.size+2=W.heap.size:=by rw [← hW];simp
  have hbW:Below w.heap.size w W:=by rw [← hW];exact blo
  clear hW
  go_loopw [30] (fun c wr => ∃ (i:Nat),i≤ps.length∧c = .int .i64 i∧Hid (∀ q,q<i→badPi ps q=false)∧Below W.heap.size W wr) (fun c _=>ps.length-(intOf c).toNat)
  case atStart=>exact ⟨0,Nat.zero_le _,rfl,(fun q h=>absurd h (Nat.not_lt_zero q)),blo⟩
  case round =>
   obtain ⟨i,hi,rfl,HQ,hb⟩:=hrel
   have hbs:=hb.size
   have hz2:w.heap.size+1<wr.heap.size:=by omega
   have hz3:w.heap.size<wr.heap.size:=by omega
   have e0':=cell_later hb e0
   have e1':=cell_later hb e1
   have r0':=cell_later hb r0
   have r1':=cell_later hb r1
   have f0':=(hb.frozen (p:=⟨w.heap.size+1,0,none⟩) (by simp;omega)).trans f0
   have f1':=(hb.frozen (p:=⟨w.heap.size+1,1,none⟩) (by simp;omega)).trans f1
   by_cases hi':i<ps.length
   ·obtain ⟨b1,off1,rfl,hpc⟩:=hp.out.2.2.resolve_left (nz hi')
    obtain ⟨c1,c2,c3,c4⟩:=((hpc.below hbW).below hb) i hi'
    have hsz:ps[i].name.size≤maxLen:=hp.out.2.1 _ (List.getElem_mem hi')
    have HPC:=hidQ hpc
    clear hpc
    cases hP:pieceB ps[i].name ps[i].len ps[i].speed ps[i].brake
    ·have HX:=hidQ (netF_2 HS.out hi' (badPi_of_piece hi' hP) HQ.out)
     have hcs:nameB ps[i].name=false∨nameB ps[i].name=true∧(inB ps[i].len 1 10000000=false∨inB ps[i].len 1 10000000=true∧(inB ps[i].speed 1 10000=false∨inB ps[i].speed 1 10000=true∧inB ps[i].brake 1 1000=false)):=by
      unfold pieceB at hP
      revert hP
      cases nameB ps[i].name <;> cases inB ps[i].len 1 10000000 <;> cases inB ps[i].speed 1 10000 <;> cases inB ps[i].brake 1 1000 <;> simp
     clear hP HQ
     rcases hcs with q1 | ⟨q1,q2 | ⟨q2,q3 | ⟨q3,q4⟩⟩⟩
     all_goals
      go_wp2_with (first | (go_at_call 62;refine (l1name_any _ _ hsz).mono ?_;rintro e w' ⟨rfl,rfl⟩) | (go_at_call 34;refine (l1in_any _ _ _ _).mono ?_;rintro e w' ⟨rfl,rfl⟩))
      refine bodyPost_ret (v:=.agg #[.int .i64 2,.int .i64 i]) (by simp [results,Tryz.results28,go_sem,r0',r1',hz2]) rfl ⟨ret_fault HX.out,?_⟩
      have hbF:=hbW.trans (hb.mono hbW.size)
      exact blo
    ·have q1:nameB ps[i].name=true:=by
      unfold pieceB at hP;revert hP;cases nameB ps[i].name <;> simp
     have q2:inB ps[i].len 1 10000000=true:=by
      unfold pieceB at hP;revert hP;cases inB ps[i].len 1 10000000 <;> simp
     have q3:inB ps[i].speed 1 10000=true:=by
      unfold pieceB at hP;revert hP;cases inB ps[i].speed 1 10000 <;> simp
     have q4:inB ps[i].brake 1 1000=true:=by
      unfold pieceB at hP;revert hP;cases inB ps[i].brake 1 1000 <;> simp
     have HP:=hidQ hP
     clear hP
     go_wp2_with (first | (go_at_call 62;refine (l1name_any _ _ hsz).mono ?_;rintro e w' ⟨rfl,rfl⟩) | (go_at_call 34;refine (l1in_any _ _ _ _).mono ?_;rintro e w' ⟨rfl,rfl⟩))
     generalize hW1:wr.alloc (Obj.cells #[Value.string ps[i].name,Value.int IntKind.i64 ps[i].len,Value.int IntKind.i64 ps[i].speed,Value.int IntKind.i64 ps[i].brake] 133)=W1
     have p0:W1.cell? ⟨wr.heap.size,0,none⟩=some (.string ps[i].name):=by rw [← hW1];simp [go_sem]
     have hz4:wr.heap.size+1=W1.heap.size:=by rw [← hW1];simp
     have hb1:Below W.heap.size W W1:=by rw [← hW1];exact blo
     clear hW1 q1 q2 q3 q4 c1 c2 c3 c4 e0' e1' r0' r1' f0' f1' hb
     go_loopw [5] (fun c wr2 => ∃ (k:Nat),k≤i∧c = .int .i64 k∧Hid (∀ q (hq:q<ps.length),q<k→ps[q].name≠ps[i].name)∧Below W1.heap.size W1 wr2) (fun c _=>i-(intOf c).toNat)
     case atStart=>exact ⟨0,Nat.zero_le _,rfl,(fun q _ h=>absurd h (Nat.not_lt_zero q)),Below.refl _ _⟩
     case round =>
      obtain ⟨k,hk,rfl,HQ2,hb2⟩:=hrel
      have hz5:=Nat.lt_of_lt_of_le (Nat.lt_of_succ_le (Nat.le_of_eq hz4)) hb2.size
      have hb:=hb1.trans (hb2.mono hb1.size)
      have p0':=cell_later hb2 p0
      have hbs2:=hb.size
      have hz6:w.heap.size+1<wr.heap.size:=by omega
      have e0':=cell_later hb e0
      have r0':=cell_later hb r0
      have r1':=cell_later hb r1
      have f0':=(hb.frozen (p:=⟨w.heap.size+1,0,none⟩) (by simp;omega)).trans f0
      have f1':=(hb.frozen (p:=⟨w.heap.size+1,1,none⟩) (by simp;omega)).trans f1
      by_cases hk':k<i
      ·have hkp:k<ps.length:=by omega
       obtain ⟨c1,c2,c3,c4⟩:=((HPC.out.below hbW).below hb) k hkp
       clear c2 c3 c4
       by_cases hne:ps[k].name=ps[i].name
       ·have HX:=hidQ (netF_2 HS.out hi' (by rw [badPi_at hi'];simp [okP,aheadP_hit hk' hkp hne]) HQ.out)
        rw [hne] at c1
        clear hne HQ
        go_wp2_with fail
        go_quiet (fail)
        go_wp2_with fail
        refine bodyPost_ret (v:=.agg #[.int .i64 2,.int .i64 i]) (by simp [results,Tryz.results28,go_sem,r0',r1']) rfl ⟨ret_fault HX.out,?_⟩
        have hbF:=hbW.trans (hb.mono hbW.size)
        exact blo
       ·have HQ3:Hid (∀ q (hq:q<ps.length),q<k+1→ps[q].name≠ps[i].name):=by
         intro m hm hmq
         by_cases e:m<k
         ·exact HQ2.out m hm e
         ·have:m=k:=by omega
          subst this;exact hne
        have hne':=beqS_ne hne
        clear hne HQ2
        go_wp2_with fail
        go_quiet (fail)
        go_wp2_with fail
        go_roundw
        case rel=>exact ⟨k+1,by omega,by go_num,HQ3,blo⟩
        case measure=>simp [intOf];omega
      ·have HQ4:Hid (∀ q,q<i+1→badPi ps q=false):=by
        intro q hq
        by_cases e:q<i
        ·exact HQ.out q e
        ·have:q=i:=by omega
         subst this
         rw [badPi_at hi',okP,HP.out,aheadP_none (fun m hm hmi=>HQ2.out m hm (by omega))]
         rfl
       clear HQ HQ2
       go_wp2_with fail
       go_roundw
       case rel=>exact ⟨i+1,by omega,by go_num,HQ4,hb⟩
       case measure=>simp [intOf];omega
   ·have H2:Hid (∀ q,q<ps.length→badPi ps q=false):=fun q h=>HQ.out q (by omega)
    clear HQ
    go_wp2_with fail
    have HB:=hidQ hb
    clear e0' e1' r0' r1' f0' f1' hbs hz2 hz3 hb hi hi'
    go_loopw [6] (fun c wr=>(c = .int .i64 3∨c = .int .i64 4∧Hid (∀ q,q<js.length→bad3i ps.length js q=false)∨c = .int .i64 5∧Hid (∀ q,q<js.length→bad3i ps.length js q=false)∧Hid (∀ q,q<js.length→bad4i js q=false))∧Below W.heap.size W wr) (fun c _=>(5-intOf c).toNat)
    case atStart=>exact ⟨Or.inl rfl,HB.out⟩
    case round =>
     clear HB
     obtain ⟨hrel,hb⟩:=hrel
     have hbs:=hb.size
     have hz2:w.heap.size+1<wr.heap.size:=by omega
     have hz3:w.heap.size<wr.heap.size:=by omega
     have e0':=cell_later hb e0
     have e1':=cell_later hb e1
     have r0':=cell_later hb r0
     have r1':=cell_later hb r1
     have f0':=(hb.frozen (p:=⟨w.heap.size+1,0,none⟩) (by simp;omega)).trans f0
     have f1':=(hb.frozen (p:=⟨w.heap.size+1,1,none⟩) (by simp;omega)).trans f1
     have hbF:=hbW.trans (hb.mono hbW.size)
     have HBF:=hidQ hbF
     have HB:=hidQ hb
     rcases hrel with rfl | ⟨rfl,H3⟩ | ⟨rfl,H3,H4⟩
     ·clear hbF
      go_wp2_with fail
      clear e0' e1' r0' r1' f0' f1' hbs hz2 hz3 hb HBF
      go_loopw [83] (fun c wr => ∃ (i:Nat),i≤js.length∧c = .int .i64 i∧Hid (∀ q,q<i→bad3i ps.length js q=false)∧Below W.heap.size W wr) (fun c _=>js.length-(intOf c).toNat)
      case atStart=>exact ⟨0,Nat.zero_le _,rfl,(fun q h=>absurd h (Nat.not_lt_zero q)),HB.out⟩
      case round =>
       clear HB
       obtain ⟨i,hi,rfl,HQ,hb⟩:=hrel
       have hbs:=hb.size
       have hz2:w.heap.size+1<wr.heap.size:=by omega
       have hz3:w.heap.size<wr.heap.size:=by omega
       have e0':=cell_later hb e0
       have e1':=cell_later hb e1
       have r0':=cell_later hb r0
       have r1':=cell_later hb r1
       have f0':=(hb.frozen (p:=⟨w.heap.size+1,0,none⟩) (by simp;omega)).trans f0
       have f1':=(hb.frozen (p:=⟨w.heap.size+1,1,none⟩) (by simp;omega)).trans f1
       have hbF:=hbW.trans (hb.mono hbW.size)
       by_cases hi':i<js.length
       ·have HJ:=hidQ (hj.out.below hbF)
        have HBF:=hidQ hbF
        clear hbF
        go_wp2_with fail
        refine (l1joint_any _ _ _ _ _ _ i hi' _ HJ hpl).mono ?_
        rintro e w2 ⟨rfl,hb2⟩
        have hb3:=hb.trans (hb2.mono hb.size)
        have hb4:=HBF.out.trans (hb2.mono HBF.out.size)
        have r0'':=cell_later hb2 r0'
        have r1'':=cell_later hb2 r1'
        have f0'':=(hb2.frozen (p:=⟨w.heap.size+1,0,none⟩) (by simp;omega)).trans f0'
        have f1'':=(hb2.frozen (p:=⟨w.heap.size+1,1,none⟩) (by simp;omega)).trans f1'
        clear e0' e1' r0' r1' f0' f1' hb hb2 HBF HJ
        cases ho:ok3 ps.length js[i]
        ·have HX:=hidQ (netF_3 HS.out H2.out hi' (by rw [bad3i_at hi',ho];rfl) HQ.out)
         have hc:jointC js ps.length i js[i]=3:=by unfold jointC;rw [if_pos ho]
         rw [hc]
         clear hc ho
         go_wp2_with fail
         refine bodyPost_ret (v:=.agg #[.int .i64 3,.int .i64 i]) (by simp [results,Tryz.results28,go_sem,r0'',r1'']) rfl ⟨ret_fault HX.out,?_⟩
         exact blo
        ·have hc:(jointC js ps.length i js[i]==3)=false:=by
          unfold jointC;rw [if_neg (by simp [ho])];split <;> rfl
         have HQ2:Hid (∀ q,q<i+1→bad3i ps.length js q=false):=by
          intro q hq
          by_cases e:q<i
          ·exact HQ.out q e
          ·have:q=i:=by omega
           subst this
           rw [bad3i_at hi',ho];rfl
         generalize jointC js ps.length i js[i]=c0 at hc ⊢
         clear ho HQ
         go_wp2_with fail
         go_roundw
         case rel=>exact ⟨i+1,by omega,by go_num,HQ2,hb3⟩
         case measure=>simp [intOf];omega
       ·have H3:Hid (∀ q,q<js.length→bad3i ps.length js q=false):=fun q h=>HQ.out q (by omega)
        clear HQ
        go_wp2_with fail
        go_roundw
        case rel=>exact ⟨Or.inr (Or.inl ⟨rfl,H3⟩),hb⟩
        case measure=>simp [intOf]
     ·clear hbF
      go_wp2_with fail
      clear e0' e1' r0' r1' f0' f1' hbs hz2 hz3 hb HBF
      go_loopw [83] (fun c wr => ∃ (i:Nat),i≤js.length∧c = .int .i64 i∧Hid (∀ q,q<i→bad4i js q=false)∧Below W.heap.size W wr) (fun c _=>js.length-(intOf c).toNat)
      case atStart=>exact ⟨0,Nat.zero_le _,rfl,(fun q h=>absurd h (Nat.not_lt_zero q)),HB.out⟩
      case round =>
       clear HB
       obtain ⟨i,hi,rfl,HQ,hb⟩:=hrel
       have hbs:=hb.size
       have hz2:w.heap.size+1<wr.heap.size:=by omega
       have hz3:w.heap.size<wr.heap.size:=by omega
       have e0':=cell_later hb e0
       have e1':=cell_later hb e1
       have r0':=cell_later hb r0
       have r1':=cell_later hb r1
       have f0':=(hb.frozen (p:=⟨w.heap.size+1,0,none⟩) (by simp;omega)).trans f0
       have f1':=(hb.frozen (p:=⟨w.heap.size+1,1,none⟩) (by simp;omega)).trans f1
       have hbF:=hbW.trans (hb.mono hbW.size)
       by_cases hi':i<js.length
       ·have HJ:=hidQ (hj.out.below hbF)
        have HBF:=hidQ hbF
        clear hbF
        go_wp2_with fail
        refine (l1joint_any _ _ _ _ _ _ i hi' _ HJ hpl).mono ?_
        rintro e w2 ⟨rfl,hb2⟩
        have hb3:=hb.trans (hb2.mono hb.size)
        have hb4:=HBF.out.trans (hb2.mono HBF.out.size)
        have r0'':=cell_later hb2 r0'
        have r1'':=cell_later hb2 r1'
        have f0'':=(hb2.frozen (p:=⟨w.heap.size+1,0,none⟩) (by simp;omega)).trans f0'
        have f1'':=(hb2.frozen (p:=⟨w.heap.size+1,1,none⟩) (by simp;omega)).trans f1'
        clear e0' e1' r0' r1' f0' f1' hb hb2 HBF HJ
        have h3i:ok3 ps.length js[i]=true:=by
         have:=H3.out i hi'
         rw [bad3i_at hi'] at this
         simpa using this
        cases ho:ok4 js i js[i]
        ·have HX:=hidQ (netF_4 HS.out H2.out H3.out hi' (by rw [bad4i_at hi',ho];rfl) HQ.out)
         have hc:jointC js ps.length i js[i]=4:=by unfold jointC;rw [if_neg (by simp [h3i]),if_pos ho]
         rw [hc]
         clear hc ho h3i
         go_wp2_with fail
         refine bodyPost_ret (v:=.agg #[.int .i64 4,.int .i64 i]) (by simp [results,Tryz.results28,go_sem,r0'',r1'']) rfl ⟨ret_fault HX.out,?_⟩
         exact blo
        ·have hc:jointC js ps.length i js[i]=0:=by
          unfold jointC;rw [if_neg (by simp [h3i]),if_neg (by simp [ho])]
         have HQ2:Hid (∀ q,q<i+1→bad4i js q=false):=by
          intro q hq
          by_cases e:q<i
          ·exact HQ.out q e
          ·have:q=i:=by omega
           subst this
           rw [bad4i_at hi',ho];rfl
         rw [hc]
         clear hc ho HQ h3i
         go_wp2_with fail
         go_roundw
         case rel=>exact ⟨i+1,by omega,by go_num,HQ2,hb3⟩
         case measure=>simp [intOf];omega
       ·have H4:Hid (∀ q,q<js.length→bad4i js q=false):=fun q h=>HQ.out q (by omega)
        clear HQ
        go_wp2_with fail
        go_roundw
        case rel=>exact ⟨Or.inr (Or.inr ⟨rfl,H3,H4⟩),hb⟩
        case measure=>simp [intOf]
     ·go_wp2_with fail
      have HE:Hid (endsNo js≤1000000):=by
       have:=endsNo_le ps.length js (fun j hj=>by
        obtain ⟨q,hq,rfl⟩:=List.getElem_of_mem hj
        have:=H3.out q hq
        rw [bad3i_at hq] at this
        simpa using this)
       unfold Hid
       omega
      clear e0' e1' r0' r1' f0' f1' hbs hz2 hz3 hb HBF hbF
      go_loopw [98] (fun c wr => ∃ (i:Nat),i≤ps.length∧c = .int .i64 i∧Hid (∀ q,q<i→bad5i js q=false)∧Below W.heap.size W wr) (fun c _=>ps.length-(intOf c).toNat)
      case atStart=>exact ⟨0,Nat.zero_le _,rfl,(fun q h=>absurd h (Nat.not_lt_zero q)),HB.out⟩
      case round =>
       clear HB
       obtain ⟨i,hi,rfl,HQ,hb⟩:=hrel
       have HB:=hidQ hb
       have hbs:=hb.size
       have hz2:w.heap.size+1<wr.heap.size:=by omega
       have hz3:w.heap.size<wr.heap.size:=by omega
       have e0':=cell_later hb e0
       have e1':=cell_later hb e1
       have r0':=cell_later hb r0
       have r1':=cell_later hb r1
       have f0':=(hb.frozen (p:=⟨w.heap.size+1,0,none⟩) (by simp;omega)).trans f0
       have f1':=(hb.frozen (p:=⟨w.heap.size+1,1,none⟩) (by simp;omega)).trans f1
       have hbF:=hbW.trans (hb.mono hbW.size)
       by_cases hi':i<ps.length
       ·clear hbF
        go_wp2_with fail
        clear e0' e1' r0' r1' f0' f1' hbs hz2 hz3 hb
        go_loopw [9] (fun c wr=>(c = .int .i64 0∨c = .int .i64 1∧Hid (uses js (i:Int) 0=1)∨c = .int .i64 2∧Hid (uses js (i:Int) 0=1)∧Hid (uses js (i:Int) 1=1))∧Below W.heap.size W wr) (fun c _=>(2-intOf c).toNat)
        case atStart=>exact ⟨Or.inl rfl,HB.out⟩
        case round =>
        clear HB
        obtain ⟨hrel,hb⟩:=hrel
        have hbs:=hb.size
        have hz2:w.heap.size+1<wr.heap.size:=by omega
        have hz3:w.heap.size<wr.heap.size:=by omega
        have e0':=cell_later hb e0
        have e1':=cell_later hb e1
        have r0':=cell_later hb r0
        have r1':=cell_later hb r1
        have f0':=(hb.frozen (p:=⟨w.heap.size+1,0,none⟩) (by simp;omega)).trans f0
        have f1':=(hb.frozen (p:=⟨w.heap.size+1,1,none⟩) (by simp;omega)).trans f1
        have hbF:=hbW.trans (hb.mono hbW.size)
        rcases hrel with rfl | ⟨rfl,HU0⟩ | ⟨rfl,HU0,HU1⟩
        ·have HJ:=hidQ (hj.out.below hbF)
         have HBF:=hidQ hbF
         clear hbF
         go_wp2_with fail
         refine (l1uses_any _ _ _ _ _ _ (i:Int) 0 _ HJ HE.out).mono ?_
         rintro e w2 ⟨rfl,hb2⟩
         have hb3:=hb.trans (hb2.mono hb.size)
         have hb4:=HBF.out.trans (hb2.mono HBF.out.size)
         have r0'':=cell_later hb2 r0'
         have r1'':=cell_later hb2 r1'
         have f0'':=(hb2.frozen (p:=⟨w.heap.size+1,0,none⟩) (by simp;omega)).trans f0'
         have f1'':=(hb2.frozen (p:=⟨w.heap.size+1,1,none⟩) (by simp;omega)).trans f1'
         clear e0' e1' r0' r1' f0' f1' hb hb2 HBF HJ
         by_cases hu:uses js (i:Int) 0=1
         ·have HU1:=hidQ hu
          rw [hu]
          clear hu
          go_wp2_with fail
          go_roundw
          case rel=>exact ⟨Or.inr (Or.inl ⟨rfl,HU1⟩),hb3⟩
          case measure=>simp [intOf]
         ·have HX:=hidQ (netF_5 HS.out H2.out H3.out H4.out hi' (by unfold bad5i;simp [hu]) HQ.out)
          have hc:(((uses js (i:Int) 0:Nat):Int)==1)=false:=by rw [beq_eq_false_iff_ne];omega
          generalize ((uses js (i:Int) 0:Nat):Int)=c0 at hc ⊢
          clear hu
          go_wp2_with fail
          refine bodyPost_ret (v:=.agg #[.int .i64 5,.int .i64 i]) (by simp [results,Tryz.results28,go_sem,r0'',r1'']) rfl ⟨ret_fault HX.out,?_⟩
          exact blo
        ·have HJ:=hidQ (hj.out.below hbF)
         have HBF:=hidQ hbF
         clear hbF
         go_wp2_with fail
         refine (l1uses_any _ _ _ _ _ _ (i:Int) 1 _ HJ HE.out).mono ?_
         rintro e w2 ⟨rfl,hb2⟩
         have hb3:=hb.trans (hb2.mono hb.size)
         have hb4:=HBF.out.trans (hb2.mono HBF.out.size)
         have r0'':=cell_later hb2 r0'
         have r1'':=cell_later hb2 r1'
         have f0'':=(hb2.frozen (p:=⟨w.heap.size+1,0,none⟩) (by simp;omega)).trans f0'
         have f1'':=(hb2.frozen (p:=⟨w.heap.size+1,1,none⟩) (by simp;omega)).trans f1'
         clear e0' e1' r0' r1' f0' f1' hb hb2 HBF HJ
         by_cases hu:uses js (i:Int) 1=1
         ·have HU1:=hidQ hu
          rw [hu]
          clear hu
          go_wp2_with fail
          go_roundw
          case rel=>exact ⟨Or.inr (Or.inr ⟨rfl,HU0,HU1⟩),hb3⟩
          case measure=>simp [intOf]
         ·have HX:=hidQ (netF_5 HS.out H2.out H3.out H4.out hi' (by unfold bad5i;simp [hu]) HQ.out)
          have hc:(((uses js (i:Int) 1:Nat):Int)==1)=false:=by rw [beq_eq_false_iff_ne];omega
          generalize ((uses js (i:Int) 1:Nat):Int)=c0 at hc ⊢
          clear hu
          go_wp2_with fail
          refine bodyPost_ret (v:=.agg #[.int .i64 5,.int .i64 i]) (by simp [results,Tryz.results28,go_sem,r0'',r1'']) rfl ⟨ret_fault HX.out,?_⟩
          exact blo
        ·have HQ2:Hid (∀ q,q<i+1→bad5i js q=false):=by
          intro q hq
          by_cases e:q<i
          ·exact HQ.out q e
          ·have:q=i:=by omega
           subst this
           unfold bad5i
           rw [HU0.out,HU1.out]
           rfl
         clear HQ HU0 HU1
         go_wp2_with fail
         go_roundw
         case rel=>exact ⟨i+1,by omega,by go_num,HQ2,hb⟩
         case measure=>simp [intOf];omega
       ·have HX:=hidQ (netF_0 HS.out H2.out H3.out H4.out (fun q h=>HQ.out q (by omega)))
        clear HQ
        go_wp2_with fail
        refine bodyPost_ret (v:=.agg #[.int .i64 0,.int .i64 0]) (by simp [results,Tryz.results28,go_sem,r0',r1']) rfl ⟨ret_fault HX.out,?_⟩
        exact blo
end Go.Proofs.YtmkdgnmmebldgaaGreatDoor
