import Derived.Test.YtmkdgnmmebldgaaGreatDoorPt5
import Derived.RegionTactic
import Derived.Deep.RegionWith
import Derived.Deep.QuietTactic
import Derived.BigQuiet
set_option maxRecDepth 100000
set_option maxHeartbeats 8000000
namespace Go.Proofs.YtmkdgnmmebldgaaGreatDoor
open Go.RowKit
theorem l1uses_any (pa ja:Option Addr)(pl pc jc:Nat)(js:List MJoint)(p s:Int)(w:World)(hj:Hid (JointsAt w ja js))(hn:endsNo js≤1000000):
  Calls Tryz.prog 70 #[.agg #[.slice pa pl pc,.slice ja js.length jc],.agg #[.int .i64 p,.int .i64 s]] w fun e w'=>e = .returned (.int .i64 (uses js p s))∧Below w.heap.size w w':=by
 have hl:=hj.out.1
 unfold maxLen at hl
 have HU:Hid (∀ k,uses (js.take k) p s≤1000000):=fun k=>Nat.le_trans (uses_le js p s k) hn
 clear hn
 go_enter Tryz.func70,Tryz.ntmps70
 go_wp2_with fail
 generalize hW:(w.alloc (Obj.cells #[Value.slice pa pl pc,Value.slice ja js.length jc] 26)).alloc (Obj.cells #[Value.int IntKind.i64 p,Value.int IntKind.i64 s] 114)=W
 have e0:W.cell? ⟨w.heap.size+1,0,none⟩=some (.int .i64 p):=by rw [← hW];simp [go_sem]
 have e1:W.cell? ⟨w.heap.size+1,1,none⟩=some (.int .i64 s):=by rw [← hW];simp [go_sem]
 have hz:w.heap.size+2=W.heap.size:=by rw [← hW];simp
 have hbW:Below w.heap.size w W:=by rw [← hW];exact blo
 clear hW
 go_loopw [5,13] (fun c i wr => ∃ (k:Nat),k≤js.length∧i = .int .i64 k∧c = .int .i64 (uses (js.take k) p s)∧Below W.heap.size W wr) (fun _ i _=>js.length-(intOf i).toNat)
 case atStart=>exact ⟨0,Nat.zero_le _,rfl,rfl,blo⟩
 case round =>
  obtain ⟨k,hk,rfl,rfl,hb⟩:=hrel
  by_cases hk':k<js.length
  ·obtain ⟨b1,off1,rfl,hpc1⟩:=hj.out.2.2.resolve_left (nz hk')
   obtain ⟨c1,c2,ea,ec,c3,c4⟩:=(hpc1.below hbW) k hk'
   have C4:=hidQ c4
   replace c1:=cell_later hb c1
   replace c2:=cell_later hb c2
   replace c3:=cell_later hb c3
   have hel:=c4.1
   unfold maxLen at hel
   clear hpc1 c4
   have hbs:=hb.size
   have hu1:=HU.out k
   have hu2:=HU.out (k+1)
   have HU2:Hid (uses (js.take (k+1)) p s=uses (js.take k) p s+usesIn js[k].ends p s):=uses_succ js p s k hk'
   have hu3:usesIn js[k].ends p s≤1000000:=by have:=HU2.out;omega
   have HM:Hid (∀ m,usesIn (js[k].ends.take m) p s≤usesIn js[k].ends p s):=fun m=>(List.take_sublist m js[k].ends).countP_le
   go_wp2_with fail
   go_loopw [5,20] (fun c i wr2 => ∃ (m:Nat),m≤js[k].ends.length∧i = .int .i64 m∧c = .int .i64 ((uses (js.take k) p s:Int)+(usesIn (js[k].ends.take m) p s:Int))∧Below W.heap.size W wr2) (fun _ i _=>js[k].ends.length-(intOf i).toNat)
   case atStart=>exact ⟨0,Nat.zero_le _,rfl,(congrArg (Value.int IntKind.i64) (Int.add_zero _)).symm,blo⟩
   case round =>
    clear c1 c2 c3 hb hbs
    obtain ⟨m,hm,rfl,rfl,hb⟩:=hrel
    have hbs:=hb.size
    have hu4:=HM.out m
    by_cases hm':m<js[k].ends.length
    ·obtain ⟨b2,off2,rfl,hpc2⟩:=C4.out.2.resolve_left (nz hm')
     obtain ⟨d1,d2⟩:=(hpc2.below hb) m hm'
     have hz2:w.heap.size+1<_:=Nat.lt_of_lt_of_le (by omega:w.heap.size+1<W.heap.size) hb.size
     have f0:=cell_later hb e0
     have f1:=cell_later hb e1
     clear hpc2
     have HS:Hid (usesIn (js[k].ends.take (m+1)) p s=usesIn (js[k].ends.take m) p s+if (js[k].ends[m].piece==p&&js[k].ends[m].side==s)=true then 1 else 0):=usesIn_succ _ p s m hm'
     cases h1:(js[k].ends[m].piece==p) <;> cases h2:(js[k].ends[m].side==s)
     all_goals
      have HS2:=HS.out
      rw [h1,h2] at HS2
      simp at HS2
      have HS3:=hidQ HS2
      clear HS HS2
      go_wp2_with fail
      go_roundw
      case rel=>exact ⟨m+1,by omega,by go_num,by rw [HS3.out] <;> go_num,blo⟩
      case measure=>simp [intOf];omega
    ·have HX:Hid ((uses (js.take k) p s:Int)+(usesIn (js[k].ends.take m) p s:Int)=(uses (js.take (k+1)) p s:Int)):=by
      have:=HU2.out
      rw [List.take_of_length_le (l:=js[k].ends) (by omega)]
      unfold Hid
      omega
     go_wp2_with fail
     go_roundw
     case rel=>exact ⟨k+1,by omega,by go_num,by rw [HX.out],hb⟩
     case measure=>simp [intOf];omega
  ·have HX:Hid (js.take k=js):=List.take_of_length_le (by omega)
   go_wp2_with fail
   go_ret
   exact ⟨ret_int (by rw [HX.out]),hbW.trans (hb.mono hbW.size)⟩
theorem l1joint_any (pa ja:Option Addr)(pl pc jc:Nat)(js:List MJoint)(i:Nat)(hi:i<js.length)(w:World)(hj:Hid (JointsAt w ja js))(hpl:pl≤maxLen):
  Calls Tryz.prog 69 #[.agg #[.slice pa pl pc,.slice ja js.length jc],.int .i64 i] w fun e w'=>e = .returned (.int .i64 (jointC js pl i js[i]))∧Below w.heap.size w w':=by
 have hl:=hj.out.1
 unfold maxLen at hl
 obtain ⟨b1,off1,rfl,hpc1⟩:=hj.out.2.2.resolve_left (nz hi)
 have HPC:=hidQ hpc1
 have HN:=hidQ hj.out.2.1
 clear hj
 obtain ⟨c1,c2,ea,ec,c3,c4⟩:=hpc1 i hi
 have C4:=hidQ c4
 have hel:=c4.1
 unfold maxLen at hel
 have hz1:b1<w.heap.size:=cellLt c1
 clear hpc1 c4
 cases hk:inB js[i].kind 1 4
 ·have HX:=hidQ (jointC_3a (js:=js) (np:=pl) (i:=i) hk)
  go_enter Tryz.func69,Tryz.ntmps69
  go_wp2_with (go_at_call 34;refine (l1in_any _ _ _ _).mono ?_;rintro e w' ⟨rfl,rfl⟩)
  go_ret
  exact ⟨ret_int HX.out.symm,blo⟩
 ·cases hk2:((js[i].ends.length:Int)==js[i].kind)
  ·have HX:=hidQ (jointC_3b (js:=js) (np:=pl) (i:=i) hk2)
   go_enter Tryz.func69,Tryz.ntmps69
   go_wp2_with (go_at_call 34;refine (l1in_any _ _ _ _).mono ?_;rintro e w' ⟨rfl,rfl⟩)
   go_ret
   exact ⟨ret_int HX.out.symm,blo⟩
  ·go_enter Tryz.func69,Tryz.ntmps69
   go_wp2_with (go_at_call 34;refine (l1in_any _ _ _ _).mono ?_;rintro e w' ⟨rfl,rfl⟩)
   have HK:=hidQ hk
   have HK2:=hidQ hk2
   have hbn:((js[i].ends.length:Int) != js[i].kind)=false:=by rw [bne,hk2];rfl
   simp only [hbn]
   clear hk hk2 hbn
   generalize hW:(w.alloc (Obj.cells #[Value.slice pa pl pc,Value.slice (some ⟨b1,off1,none⟩) js.length jc] 26)).alloc (Obj.cells #[Value.int IntKind.i64 js[i].kind,Value.string js[i].name,Value.slice ea js[i].ends.length ec] 109)=W
   have e0:W.cell? ⟨w.heap.size,0,none⟩=some (.slice pa pl pc):=by rw [← hW];simp [go_sem]
   have e1:W.cell? ⟨w.heap.size,1,none⟩=some (.slice (some ⟨b1,off1,none⟩) js.length jc):=by rw [← hW];simp [go_sem]
   have g0:W.cell? ⟨w.heap.size+1,0,none⟩=some (.int .i64 js[i].kind):=by rw [← hW];simp [go_sem]
   have g1:W.cell? ⟨w.heap.size+1,1,none⟩=some (.string js[i].name):=by rw [← hW];simp [go_sem]
   have g2:W.cell? ⟨w.heap.size+1,2,none⟩=some (.slice ea js[i].ends.length ec):=by rw [← hW];simp [go_sem]
   have hz:w.heap.size+2=W.heap.size:=by rw [← hW];simp
   have hbW:Below w.heap.size w W:=by rw [← hW];exact blo
   clear hW c1 c2 c3
   go_loopw [29] (fun c wr => ∃ (m:Nat),m≤js[i].ends.length∧c = .int .i64 m∧Hid (∀ q (hq:q<js[i].ends.length),q<m→endB pl js[i].ends[q].piece js[i].ends[q].side=true)∧Below W.heap.size W wr) (fun c _=>js[i].ends.length-(intOf c).toNat)
   case atStart=>exact ⟨0,Nat.zero_le _,rfl,(fun q _ h=>absurd h (Nat.not_lt_zero q)),blo⟩
   case round =>
    obtain ⟨m,hm,rfl,HQ,hb⟩:=hrel
    have hbs:=hb.size
    have hz2:w.heap.size+1<wr.heap.size:=by omega
    have hz3:w.heap.size<wr.heap.size:=by omega
    have e0':=cell_later hb e0
    have e1':=cell_later hb e1
    have g0':=cell_later hb g0
    have g1':=cell_later hb g1
    by_cases hm':m<js[i].ends.length
    ·obtain ⟨b2,off2,rfl,hpc2⟩:=C4.out.2.resolve_left (nz hm')
     obtain ⟨d1,d2⟩:=((hpc2.below hbW).below hb) m hm'
     clear hpc2
     go_wp2_with fail
     refine (l1end_any _ _ _ _ _ _ _ _ _ hpl).mono ?_
     rintro e w2 ⟨rfl,hb2⟩
     have hb3:Below W.heap.size W w2:=Below.trans blo (hb2.mono (by simp;omega))
     clear hb2 d1 d2 e0' e1' g0' g1' hb
     cases hE:endB pl js[i].ends[m].piece js[i].ends[m].side
     ·have HX:=hidQ (jointC_3c (js:=js) (np:=pl) (i:=i) m hm' hE)
      clear hE
      go_wp2_with fail
      go_ret
      exact ⟨ret_int HX.out.symm,hbW.trans (hb3.mono hbW.size)⟩
     ·have HQ2:Hid (∀ q (hq:q<js[i].ends.length),q<m+1→endB pl js[i].ends[q].piece js[i].ends[q].side=true):=by
       intro q hq hqm
       by_cases e:q<m
       ·exact HQ.out q hq e
       ·have:q=m:=by omega
        subst this;exact hE
      clear hE HQ
      go_wp2_with fail
      go_roundw
      case rel=>exact ⟨m+1,by omega,by go_num,HQ2,hb3⟩
      case measure=>simp [intOf];omega
    ·have H3:Hid (ok3 pl js[i]=true):=ok3_of HK.out HK2.out (fun q hq=>HQ.out q hq (by omega))
     clear HQ
     have hbF:=hidQ (hbW.trans (hb.mono hbW.size))
     have HB:=hidQ hb
     by_cases hk3:js[i].kind<3
     ·by_cases hne:js[i].name=⟨#[]⟩
      ·have HX:=hidQ (jointC_0a (js:=js) (i:=i) H3.out hk3 hne)
       rw [hne] at g1'
       clear hne
       go_wp2_with fail
       go_ret
       exact ⟨ret_int HX.out.symm,hbF.out⟩
      ·have HX:=hidQ (jointC_4a (js:=js) (i:=i) H3.out hk3 hne)
       have hne':=emptyS_ne hne
       go_wp2_with fail
       go_ret
       exact ⟨ret_int HX.out.symm,hbF.out⟩
     ·have HK3:=hidQ hk3
      cases hnb:nameB js[i].name
      ·have HX:=hidQ (jointC_4b (js:=js) (i:=i) H3.out hk3 hnb)
       go_wp2_with (go_at_call 62;refine (l1name_any _ _ (HN.out _ (List.getElem_mem hi))).mono ?_;rintro e w' ⟨rfl,rfl⟩)
       go_ret
       exact ⟨ret_int HX.out.symm,hbF.out⟩
      ·go_wp2_with (go_at_call 62;refine (l1name_any _ _ (HN.out _ (List.getElem_mem hi))).mono ?_;rintro e w' ⟨rfl,rfl⟩)
       have HNB:=hidQ hnb
       clear hnb
       clear hb
       go_loopw [8] (fun c wr => ∃ (q:Nat),q≤i∧c = .int .i64 q∧Hid (∀ m (hm:m<js.length),m<q→js[m].name≠js[i].name)∧Below W.heap.size W wr) (fun c _=>i-(intOf c).toNat)
       case atStart=>exact ⟨0,Nat.zero_le _,rfl,(fun q _ h=>absurd h (Nat.not_lt_zero q)),HB.out⟩
       case round =>
        clear e0' e1' g0' g1' hbF hbs hz2 hz3
        obtain ⟨q,hq,rfl,HQ,hb⟩:=hrel
        have hbs:=hb.size
        have hz2:w.heap.size+1<wr.heap.size:=by omega
        have hz3:w.heap.size<wr.heap.size:=by omega
        have e1':=cell_later hb e1
        have g1':=cell_later hb g1
        have hbF:=hidQ (hbW.trans (hb.mono hbW.size))
        by_cases hq':q<i
        ·have hqj:q<js.length:=by omega
         obtain ⟨x1,c2,x2⟩:=((HPC.out.below hbW).below hb) q hqj
         clear x1 x2
         by_cases hne:js[q].name=js[i].name
         ·have HX:=hidQ (jointC_4c (js:=js) (i:=i) H3.out (by have:=HK3.out;omega) (aheadB_hit hq' hqj hne))
          rw [hne] at c2
          clear hne
          go_wp2_with fail
          go_quiet (fail)
          go_wp2_with fail
          go_ret
          exact ⟨ret_int HX.out.symm,(by have:=hbF.out;exact blo)⟩
         ·have HQ2:Hid (∀ m (hm:m<js.length),m<q+1→js[m].name≠js[i].name):=by
           intro m hm hmq
           by_cases e:m<q
           ·exact HQ.out m hm e
           ·have:m=q:=by omega
            subst this;exact hne
          have hne':=beqS_ne hne
          clear hne HQ
          go_wp2_with fail
          go_quiet (fail)
          go_wp2_with fail
          go_roundw
          case rel=>exact ⟨q+1,by omega,by go_num,HQ2,blo⟩
          case measure=>simp [intOf];omega
        ·have HX:=hidQ (jointC_0b (js:=js) (i:=i) H3.out (by have:=HK3.out;omega) HNB.out (aheadB_none (fun m hm hmi=>HQ.out m hm (by omega))))
         go_wp2_with fail
         go_ret
         exact ⟨ret_int HX.out.symm,hbF.out⟩
end Go.Proofs.YtmkdgnmmebldgaaGreatDoor
