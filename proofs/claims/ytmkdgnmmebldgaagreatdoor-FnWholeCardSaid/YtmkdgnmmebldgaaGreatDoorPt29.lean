import Derived.Test.YtmkdgnmmebldgaaGreatDoorPt21
import Derived.Test.YtmkdgnmmebldgaaGreatDoorPt9
set_option maxRecDepth 100000
set_option maxHeartbeats 8000000
namespace Go.Proofs.YtmkdgnmmebldgaaGreatDoor
open Go.RowKit
def fE (es:List MEnd):Value→Int
 | .agg ⟨[.int .i64 p,.int .i64 s]⟩=>usesIn es p s
 | _=>0
theorem fE_at (es:List MEnd)(p s:Int):fE es (.agg #[.int .i64 p,.int .i64 s])=usesIn es p s:=rfl
theorem fE_nil:fE []=fun _=>0:=by
 funext v
 unfold fE
 split <;> rfl
theorem usesIn_snoc (es:List MEnd)(e:MEnd)(p s:Int):usesIn (es++[e]) p s=usesIn es p s+if (e.piece==p&&e.side==s)=true then 1 else 0:=by
 unfold usesIn
 rw [List.countP_append,List.countP_singleton]
theorem fE_same (es:List MEnd)(e:MEnd):fE (es++[e]) (.agg #[.int .i64 e.piece,.int .i64 e.side])=fE es (.agg #[.int .i64 e.piece,.int .i64 e.side])+1:=by
 rw [fE_at,fE_at,usesIn_snoc,if_pos (by simp)]
 simp
theorem fE_other (es:List MEnd)(e:MEnd):∀ k,k≠.agg #[.int .i64 e.piece,.int .i64 e.side]→fE (es++[e]) k=fE es k:=by
 intro k hk
 unfold fE
 split
 ·rename_i p s
  rw [usesIn_snoc,if_neg]
  ·simp
  ·intro h
   simp at h
   apply hk
   rw [h.1,h.2]
 ·rfl
theorem ends_succ {js:List MJoint}{k m:Nat}(hk:k<js.length)(hm:m<js[k].ends.length):
  (js.take k).flatMap (·.ends)++js[k].ends.take (m+1)=((js.take k).flatMap (·.ends)++js[k].ends.take m)++[js[k].ends[m]]:=by
 rw [List.take_succ_eq_append_getElem hm,List.append_assoc]
theorem ends_next {js:List MJoint}{k:Nat}(hk:k<js.length):(js.take k).flatMap (·.ends)++js[k].ends=(js.take (k+1)).flatMap (·.ends):=by
 rw [List.take_succ_eq_append_getElem hk,List.flatMap_append]
 simp
theorem ends_len {js:List MJoint}{k m:Nat}(hk:k<js.length):((js.take k).flatMap (·.ends)++js[k].ends.take m).length≤endsNo js:=by
 have h1:js.flatMap (·.ends)=((js.take k).flatMap (·.ends)++js[k].ends)++(js.drop (k+1)).flatMap (·.ends):=by
  rw [ends_next hk,← List.flatMap_append,List.take_append_drop]
 unfold endsNo
 rw [h1]
 simp only [List.length_append,List.length_take]
 omega
theorem fE_bd (L:List MEnd)(k:Value):0≤fE L k∧fE L k≤L.length:=by
 unfold fE
 split
 ·have:=usesIn_le L
  rename_i p s
  have:=this p s
  omega
 ·omega
def upTo (js:List MJoint)(k m:Nat):List MEnd:=(js.take k).flatMap (·.ends)++(match js[k]? with | some j=>j.ends.take m | none=>[])
def EMap (w:World)(b:Nat)(L:List MEnd):Prop:=CMap 114 w b L.length (fE L)
theorem upTo_zero (js:List MJoint)(k:Nat):upTo js k 0=(js.take k).flatMap (·.ends):=by
 unfold upTo
 split <;> simp
theorem upTo_nil (js:List MJoint):upTo js 0 0=[]:=by rw [upTo_zero];rfl
theorem upTo_all (js:List MJoint)(k:Nat)(h:js.length≤k):upTo js k 0=js.flatMap (·.ends):=by
 rw [upTo_zero,List.take_of_length_le h]
theorem upTo_succ {js:List MJoint}{k m:Nat}(hk:k<js.length)(hm:m<js[k].ends.length):upTo js k (m+1)=upTo js k m++[js[k].ends[m]]:=by
 unfold upTo
 simp only [List.getElem?_eq_getElem hk]
 exact ends_succ hk hm
theorem upTo_next {js:List MJoint}{k m:Nat}(hk:k<js.length)(hm:js[k].ends.length≤m):upTo js k m=upTo js (k+1) 0:=by
 rw [upTo_zero,← ends_next hk]
 unfold upTo
 simp only [List.getElem?_eq_getElem hk]
 rw [List.take_of_length_le hm]
theorem upTo_len {js:List MJoint}{k m:Nat}(hk:k<js.length):(upTo js k m).length≤endsNo js:=by
 unfold upTo
 simp only [List.getElem?_eq_getElem hk]
 exact ends_len hk
theorem firstLoosePiece_any (pa ja:Option Addr)(pl pc jc:Nat)(js:List MJoint)(w:World)(hj:Hid (JointsAt w ja js))(hpl:pl≤1000)(hjl:js.length≤1000)(hok:Hid (∀ q (h:q<js.length),ok3 pl js[q]=true)):
  Calls Tryz.prog 68 #[.agg #[.slice pa pl pc,.slice ja js.length jc]] w fun e w'=>e = .returned (.int .i64 (firstBad (bad5i js) pl))∧Below w.heap.size w w':=by
 have hmm := @run_makeMap Tryz.prog
 have HE:Hid (endsNo js≤4000):=by
  have:=endsNo_le pl js (fun j hj=>by
   obtain ⟨q,hq,rfl⟩:=List.getElem_of_mem hj
   exact hok.out q hq)
  unfold Hid
  omega
 have HR:Hid (∀ q (h:q<js.length) m (hm:m<js[q].ends.length),(Lit.int .i64 js[q].ends[m].piece).wf=true∧(Lit.int .i64 js[q].ends[m].side).wf=true):=by
  intro q h m hm
  have h1:=hok.out q h
  unfold ok3 at h1
  simp only [Bool.and_eq_true,List.all_eq_true] at h1
  have h2:=h1.2 _ (List.getElem_mem hm)
  unfold endB inB at h2
  simp at h2
  exact ⟨wf64 (by omega) (by omega),wf64 (by omega) (by omega)⟩
 go_enter Tryz.func68,Tryz.ntmps68
 go_wp2_with fail
 generalize hW:w.alloc (Obj.cells #[Value.slice pa pl pc,Value.slice ja js.length jc] 26)=W
 have e0:W.cell? ⟨w.heap.size,0,none⟩=some (.slice pa pl pc):=by rw [← hW];simp [go_sem]
 have hz:w.heap.size+1=W.heap.size:=by rw [← hW];simp
 have hbW:Below w.heap.size w W:=by rw [← hW];exact blo
 have HM:Hid (EMap (W.alloc (.map #[] 0)) (w.heap.size+1) (upTo js 0 0)):=by
  have h:=CMap.made 114 W
  rw [← fE_nil,← hz] at h
  rw [upTo_nil]
  exact h
 have hzA:w.heap.size+1≤W.heap.size:=Nat.le_of_eq hz
 have hzB:W.heap.size≤w.heap.size+1:=Nat.le_of_eq hz.symm
 clear hW hz
 go_loopw [13] (fun c wr => ∃ (k:Nat),k≤js.length∧c = .int .i64 k∧Hid (EMap wr (w.heap.size+1) (upTo js k 0))∧Below W.heap.size W wr) (fun c _=>js.length-(intOf c).toNat)
 case atStart=>exact ⟨0,Nat.zero_le _,rfl,HM.out,blo⟩
 case round =>
  clear HM hmm
  obtain ⟨k,hk,rfl,HM,hb⟩:=hrel
  have hbs:=hb.size
  have hz2:w.heap.size<wr.heap.size:=by omega
  have e0':=cell_later hb e0
  by_cases hk':k<js.length
  ·obtain ⟨b1,off1,rfl,hpc⟩:=hj.out.2.2.resolve_left (nz hk')
   obtain ⟨c1,c2,ea,ec,c3,c4⟩:=(hpc.below hbW) k hk'
   have C4:=hidQ c4
   replace c1:=cell_later hb c1
   replace c2:=cell_later hb c2
   replace c3:=cell_later hb c3
   have hel:=c4.1
   unfold maxLen at hel
   clear hpc c4
   have HM1:Hid (∀ o,EMap (wr.alloc o) (w.heap.size+1) (upTo js k 0)):=fun o=>CMap.below HM.out (show Below wr.heap.size wr (wr.alloc o) from blo)
   have HBA:Hid (∀ o,Below W.heap.size W (wr.alloc o)):=fun o=>blo
   go_wp2_with fail
   go_loopw [20] (fun c wr => ∃ (m:Nat),m≤js[k].ends.length∧c = .int .i64 m∧Hid (EMap wr (w.heap.size+1) (upTo js k m))∧Below W.heap.size W wr) (fun c _=>js[k].ends.length-(intOf c).toNat)
   case atStart=>exact ⟨0,Nat.zero_le _,rfl,HM1.out _,HBA.out _⟩
   case round =>
    clear HM1 HBA HM c1 c2 c3 e0' hz2 hbs hb
    obtain ⟨m,hm,rfl,HM,hb⟩:=hrel
    have hbs:=hb.size
    by_cases hm':m<js[k].ends.length
    ·obtain ⟨b2,off2,rfl,hpc2⟩:=C4.out.2.resolve_left (nz hm')
     obtain ⟨d1,d2⟩:=(hpc2.below hb) m hm'
     clear hpc2
     have hLen:=upTo_len (m:=m) hk'
     have hE4:=HE.out
     have hbd:=fE_bd (upTo js k m) (.agg #[.int .i64 js[k].ends[m].piece,.int .i64 js[k].ends[m].side])
     obtain ⟨kl,hkey⟩:=keyE (HR.out k hk' m hm').1 (HR.out k hk' m hm').2
     have hM2:CMap 114 (wr.alloc (Obj.cells #[Value.int IntKind.i64 js[k].ends[m].piece,Value.int IntKind.i64 js[k].ends[m].side] 114)).drew (w.heap.size+1) _ _:=CMap.below HM.out (show Below wr.heap.size wr (wr.alloc _).drew from blo)
     have hlk:=hM2.lookup lawE Tryz.underlying196 hkey
     obtain ⟨v0,st,w1,w2,hme,hl1,hes,hM3,hg⟩:=hM2.entry lawKE Tryz.underlying196 (by unfold maxLen;omega) hkey (fE (upTo js k m) (.agg #[.int .i64 js[k].ends[m].piece,.int .i64 js[k].ends[m].side])+1) (wf64 (by omega) (by omega)) (fE (upTo js k (m+1))) (by rw [upTo_succ hk' hm'];exact fE_same _ _) (by rw [upTo_succ hk' hm'];exact fE_other _ _)
     have HM3:Hid (EMap w2 (w.heap.size+1) (upTo js k (m+1))):=by
      refine hM3.mono ?_
      rw [upTo_succ hk' hm',List.length_append]
      simp
     have hb4:Below W.heap.size W w2:=Below.grown (show Below W.heap.size W (wr.alloc _).drew from blo) hg (by simp;omega) (fun j hj=>by cases hj;omega)
     generalize fE (upTo js k m) (.agg #[.int .i64 js[k].ends[m].piece,.int .i64 js[k].ends[m].side])=c0 at hlk hl1 hes hbd
     have hbd1:=hbd.1
     have hbd2:c0≤4000:=by omega
     clear hM2 hM3 hg hkey hLen hE4 HM hbd
     go_wp2_with fail
     go_region
     all_goals
      go_wp2_with fail
      go_roundw
      case rel=>exact ⟨m+1,by omega,by go_num,HM3,hb4⟩
      case measure=>simp [intOf];omega
    ·have HM4:Hid (EMap wr (w.heap.size+1) (upTo js (k+1) 0)):=by
      have h:=HM.out
      rw [upTo_next hk' (by omega)] at h
      exact h
     clear HM
     go_wp2_with fail
     go_roundw
     case rel=>exact ⟨k+1,by omega,by go_num,HM4,hb⟩
     case measure=>simp [intOf];omega
  ·have HM5:Hid (EMap wr (w.heap.size+1) (js.flatMap (·.ends))):=by
    have h:=HM.out
    rw [upTo_all js k (by omega)] at h
    exact h
   have HB:=hidQ hb
   clear HM
   go_wp2_with fail
   clear hb hbs e0' hz2
   go_loopw [35] (fun c wr => ∃ (i:Nat),i≤pl∧c = .int .i64 i∧Hid (∀ q,q<i→bad5i js q=false)∧Hid (EMap wr (w.heap.size+1) (js.flatMap (·.ends)))∧Below W.heap.size W wr) (fun c _=>pl-(intOf c).toNat)
   case atStart=>exact ⟨0,Nat.zero_le _,rfl,(fun q h=>absurd h (Nat.not_lt_zero q)),HM5.out,HB.out⟩
   case round =>
    clear HM5 HB
    obtain ⟨i,hi,rfl,HQ,HM,hb⟩:=hrel
    by_cases hi':i<pl
    ·obtain ⟨kl0,hkey0⟩:=keyE (p:=(i:Int)) (s:=0) (wf64 (by omega) (by omega)) (by decide)
     obtain ⟨kl1,hkey1⟩:=keyE (p:=(i:Int)) (s:=1) (wf64 (by omega) (by omega)) (by decide)
     have hl0:=CMap.lookup HM.out lawE Tryz.underlying196 hkey0
     have hl1:=CMap.lookup HM.out lawE Tryz.underlying196 hkey1
     rw [fE_at] at hl0 hl1
     clear hkey0 hkey1
     by_cases hu0:usesIn (js.flatMap (·.ends)) (i:Int) 0=1
     ·rw [hu0] at hl0
      by_cases hu1:usesIn (js.flatMap (·.ends)) (i:Int) 1=1
      ·rw [hu1] at hl1
       have HQ2:Hid (∀ q,q<i+1→bad5i js q=false):=by
        intro q hq
        by_cases e:q<i
        ·exact HQ.out q e
        ·have:q=i:=by omega
         subst this
         unfold bad5i uses
         rw [hu0,hu1]
         rfl
       clear hu0 hu1 HQ
       go_wp2_with fail
       go_roundw
       case rel=>exact ⟨i+1,by omega,by go_num,HQ2,HM,hb⟩
       case measure=>simp [intOf];omega
      ·have HX:=hidQ (firstBad_hit hi' (by unfold bad5i uses;simp [hu1]) HQ.out)
       have hc:(((usesIn (js.flatMap (·.ends)) (i:Int) 1:Nat):Int)==1)=false:=by rw [beq_eq_false_iff_ne];omega
       generalize ((usesIn (js.flatMap (·.ends)) (i:Int) 1:Nat):Int)=c0 at hc hl1
       clear hu0 hu1 HQ
       go_wp2_with fail
       go_ret
       exact ⟨ret_int HX.out.symm,hbW.trans (hb.mono hbW.size)⟩
     ·have HX:=hidQ (firstBad_hit hi' (by unfold bad5i uses;simp [hu0]) HQ.out)
      have hc:(((usesIn (js.flatMap (·.ends)) (i:Int) 0:Nat):Int)==1)=false:=by rw [beq_eq_false_iff_ne];omega
      generalize ((usesIn (js.flatMap (·.ends)) (i:Int) 0:Nat):Int)=c0 at hc hl0
      have hc2:(c0 != 1)=true:=by rw [bne,hc];rfl
      clear hu0 HQ
      go_wp2_with fail
      go_ret
      exact ⟨ret_int HX.out.symm,hbW.trans (hb.mono hbW.size)⟩
    ·have HX:=hidQ (firstBad_none (bad:=bad5i js) (n:=pl) (fun q h=>HQ.out q (by omega)))
     clear HQ HM
     go_wp2_with fail
     go_ret
     exact ⟨ret_int HX.out.symm,hbW.trans (hb.mono hbW.size)⟩
end Go.Proofs.YtmkdgnmmebldgaaGreatDoor
namespace Go.Proofs.YtmkdgnmmebldgaaGreatDoor
open Go.RowKit Go.Maps
open Go.WideMaps (KeyLaw)
theorem wayE_cases (x:Int):wayB x=true∧((x==1)=true∨(x==1)=false∧(x == -1)=true)∨wayB x=false∧(x==1)=false∧(x == -1)=false:=by
 unfold wayB
 cases (x==1) <;> cases (x == -1) <;> simp
theorem signalOk_any (pa:Option Addr)(pc:Nat)(ps:List MPiece)(s:ByteArray)(pi pl wy:Int)(w:World)(hp:Hid (PiecesAt w pa ps))(hs:s.size≤maxLen)(hp100:ps.length≤100)(hpl:Hid (∀ k (hk:k<ps.length),1≤ps[k].len∧ps[k].len≤10000000)):
  Calls Tryz.prog 103 #[.slice pa ps.length pc,.agg #[.string s,.int .i64 pi,.int .i64 pl,.int .i64 wy]] w fun e w'=>e = .returned (.bool (okSigC ps s pi pl wy))∧Below w.heap.size w w':=by
 cases q1:nameB s
 ·have HX:=hidQ (okSigC_1 (ps:=ps) (pi:=pi) (pl:=pl) (wy:=wy) q1)
  go_enter Tryz.func103,Tryz.ntmps103
  go_wp2_with (first | (go_at_call 129;refine (nameOk_any _ _ hs).mono ?_;rintro e w' ⟨rfl,rfl⟩) | (go_at_call 80;refine (within_any _ _ _ _).mono ?_;rintro e w' ⟨rfl,rfl⟩))
  go_ret
  exact ⟨ret_bool HX.out.symm,blo⟩
 cases q2:inB pi 0 ((ps.length:Int)-1)
 ·have HX:=hidQ (okSigC_2 (s:=s) (pl:=pl) (wy:=wy) q2)
  go_enter Tryz.func103,Tryz.ntmps103
  go_wp2_with (first | (go_at_call 129;refine (nameOk_any _ _ hs).mono ?_;rintro e w' ⟨rfl,rfl⟩) | (go_at_call 80;refine (within_any _ _ _ _).mono ?_;rintro e w' ⟨rfl,rfl⟩))
  go_ret
  exact ⟨ret_bool HX.out.symm,blo⟩
 rcases wayE_cases wy with ⟨q3,hw⟩ | ⟨q3,hw1,hw2⟩
 rotate_left
 ·have HX:=hidQ (okSigC_3 (ps:=ps) (s:=s) (pi:=pi) (pl:=pl) q3)
  clear q3
  go_enter Tryz.func103,Tryz.ntmps103
  go_wp2_with (first | (go_at_call 129;refine (nameOk_any _ _ hs).mono ?_;rintro e w' ⟨rfl,rfl⟩) | (go_at_call 80;refine (within_any _ _ _ _).mono ?_;rintro e w' ⟨rfl,rfl⟩))
  go_quiet ((go_at_call 80;exact Calls.quiet_of_same (within_any _ _ _ _)))
  go_wp2_with fail
  go_ret
  exact ⟨ret_bool HX.out.symm,blo⟩
 have HO:=hidQ (okSigC_4 (ps:=ps) (pl:=pl) q1 q2 q3)
 have hin:0≤pi∧pi<ps.length:=by
  unfold inB at q2
  simp at q2
  omega
 obtain ⟨k,rfl⟩:=Int.eq_ofNat_of_zero_le hin.1
 have hkl:k<ps.length:=by omega
 have hk0:(0:Int)≤(k:Int):=by omega
 have hk1:(k:Int)<(ps.length:Int):=by omega
 obtain ⟨hpk1,hpk2⟩:=hpl.out k hkl
 have HLA:Hid (okSigC ps s (k:Int) pl wy=inB pl 1 (ps[k].len-1)):=by
  have h:=HO.out
  erw [lenAt_at hkl] at h
  exact h
 obtain ⟨b2,off2,rfl,hpp⟩:=hp.out.2.2.resolve_left (nz hkl)
 obtain ⟨d1,d2,d3,d4⟩:=hpp k hkl
 have hzb2:b2<w.heap.size:=cellLt d1
 clear hpp d1 d3 d4 hin q3 HO
 rcases hw with hw1 | ⟨hw1,hw2⟩
 all_goals
  go_enter Tryz.func103,Tryz.ntmps103
  go_wp2_with (first | (go_at_call 129;refine (nameOk_any _ _ hs).mono ?_;rintro e w' ⟨rfl,rfl⟩) | (go_at_call 80;refine (within_any _ _ _ _).mono ?_;rintro e w' ⟨rfl,rfl⟩))
  go_quiet ((go_at_call 80;exact Calls.quiet_of_same (within_any _ _ _ _)))
  go_wp2_with fail
  go_ret
  exact ⟨ret_bool HLA.out.symm,blo⟩
theorem firstWrongSignal_any (pa sa:Option Addr)(pc sc:Nat)(ps ss:List MPiece)(w:World)(hp:Hid (PiecesAt w pa ps))(hs:Hid (PiecesAt w sa ss))(hp100:ps.length≤100)(hpl:Hid (∀ k (hk:k<ps.length),1≤ps[k].len∧ps[k].len≤10000000)):
  Calls Tryz.prog 59 #[.slice pa ps.length pc,.slice sa ss.length sc] w fun e w'=>e = .returned (.int .i64 (firstBad (badS3 ps ss) ss.length))∧Below w.heap.size w w':=by
 have hl:=hs.out.1
 unfold maxLen at hl
 go_enter Tryz.func59,Tryz.ntmps59
 go_wp2_with fail
 go_loopw [9] (fun c wr => ∃ (i:Nat),i≤ss.length∧c = .int .i64 i∧Hid (∀ q,q<i→badS3 ps ss q=false)∧Below w.heap.size w wr) (fun c _=>ss.length-(intOf c).toNat)
 case atStart=>exact ⟨0,Nat.zero_le _,rfl,(fun q h=>absurd h (Nat.not_lt_zero q)),blo⟩
 case round =>
  obtain ⟨i,hi,rfl,HQ,hb⟩:=hrel
  have hbs:=hb.size
  by_cases hi':i<ss.length
  ·obtain ⟨b1,off1,rfl,hpc⟩:=hs.out.2.2.resolve_left (nz hi')
   obtain ⟨c1,c2,c3,c4⟩:=(hpc.below hb) i hi'
   have hsz:ss[i].name.size≤maxLen:=hs.out.2.1 _ (List.getElem_mem hi')
   have HP:=hidQ (hp.out.below hb)
   clear hpc
   go_wp2_with fail
   refine (signalOk_any _ _ _ _ _ _ _ _ (HP.out.below blo) hsz hp100 hpl).mono ?_
   rintro e w2 ⟨rfl,hb2⟩
   have hb3:Below w.heap.size w w2:=Below.trans blo (hb2.mono (by simp;omega))
   clear hb hb2 c1 c2 c3 c4 HP
   cases ho:okSigC ps ss[i].name ss[i].len ss[i].speed ss[i].brake
   ·have HX:=hidQ (firstBad_hit hi' (by rw [badS3_at hi',okSig,ho];rfl) HQ.out)
    clear ho
    go_wp2_with fail
    go_ret
    exact ⟨ret_int HX.out.symm,hb3⟩
   ·have HQ2:Hid (∀ q,q<i+1→badS3 ps ss q=false):=by
     intro q hq
     by_cases e:q<i
     ·exact HQ.out q e
     ·have:q=i:=by omega
      subst this
      rw [badS3_at hi',okSig,ho];rfl
    clear ho HQ
    go_wp2_with fail
    go_roundw
    case rel=>exact ⟨i+1,by omega,by go_num,HQ2,hb3⟩
    case measure=>simp [intOf];omega
  ·have HX:=hidQ (firstBad_none (bad:=badS3 ps ss) (n:=ss.length) (fun q h=>HQ.out q (by omega)))
   clear HQ
   go_wp2_with fail
   go_ret
   exact ⟨ret_int HX.out.symm,hb⟩
theorem Tryz.rowPost:(192:TypeId)<Tryz.prog.types.size:=of_decide_eq_true (by kernel_rfl)
theorem lawKP:KeyLaw Tryz.prog 192:=deep_law_laid Tryz.laidOutB (m:=2) (by omega) Tryz.rowPost (by kernel_rfl) (by rw [Tryz.underlying192])
theorem lawP:Keyed Tryz.prog 192:=Keyed.of_law lawKP
theorem Tryz.cellsPost:Tryz.prog.cellsOf 192=3:=by kernel_rfl
theorem Tryz.keyTypePost:Tryz.prog.keyType 192=true:=by kernel_rfl
theorem keyP {p a v:Int}(hp:(Lit.int .i64 p).wf=true)(ha:(Lit.int .i64 a).wf=true)(hv:(Lit.int .i64 v).wf=true):∃ kl,keyOf Tryz.prog 192 (.agg #[.int .i64 p,.int .i64 a,.int .i64 v])=some kl:=by
 have hn:∃ m,Tryz.prog.types.size=m+1:=by
  have h:=Tryz.rowPost
  revert h
  generalize Tryz.prog.types.size=n
  intro h
  cases n with
  | zero=>exact absurd h (Nat.not_lt_zero _)
  | succ m=>exact ⟨m,rfl⟩
 obtain ⟨m,hm⟩:=hn
 unfold keyOf
 simp only [Tryz.underlying192]
 rw [if_pos (by simp [Tryz.keyTypePost,Value.formed,Tryz.underlying192,Tryz.cellsPost]),hm]
 unfold Program.keyLits
 simp only [Tryz.underlying192,Value.cells]
 rw [if_pos (by rw [Tryz.cellsPost];exact ⟨rfl,by simp⟩)]
 simp [Tryz.cellsInt,Program.keyLits,Tryz.underlying3,hp,ha,hv]
def cntP (L:List MPiece)(p a v:Int):Nat:=L.countP fun s=>s.len==p&&s.speed==a&&s.brake==v
def fP (L:List MPiece):Value→Int
 | .agg ⟨[.int .i64 p,.int .i64 a,.int .i64 v]⟩=>cntP L p a v
 | _=>0
theorem fP_at (L:List MPiece)(p a v:Int):fP L (.agg #[.int .i64 p,.int .i64 a,.int .i64 v])=cntP L p a v:=rfl
theorem fP_nil:fP []=fun _=>0:=by
 funext v
 unfold fP
 split <;> rfl
theorem cntP_snoc (L:List MPiece)(s:MPiece)(p a v:Int):cntP (L++[s]) p a v=cntP L p a v+if (s.len==p&&s.speed==a&&s.brake==v)=true then 1 else 0:=by
 unfold cntP
 rw [List.countP_append,List.countP_singleton]
theorem fP_same (L:List MPiece)(s:MPiece):fP (L++[s]) (.agg #[.int .i64 s.len,.int .i64 s.speed,.int .i64 s.brake])=fP L (.agg #[.int .i64 s.len,.int .i64 s.speed,.int .i64 s.brake])+1:=by
 rw [fP_at,fP_at,cntP_snoc,if_pos (by simp)]
 simp
theorem fP_other (L:List MPiece)(s:MPiece):∀ k,k≠.agg #[.int .i64 s.len,.int .i64 s.speed,.int .i64 s.brake]→fP (L++[s]) k=fP L k:=by
 intro k hk
 unfold fP
 split
 ·rename_i p a v
  rw [cntP_snoc,if_neg]
  ·simp
  ·intro h
   simp at h
   apply hk
   rw [h.1.1,h.1.2,h.2]
 ·rfl
def NaMap (w:World)(b:Nat)(L:List MPiece):Prop:=CMap 9 w b L.length (fS (namesP L))
def PMap (w:World)(b:Nat)(L:List MPiece):Prop:=CMap 192 w b L.length (fP L)
theorem take_next {ss:List MPiece}{i:Nat}(h:i<ss.length):ss.take (i+1)=ss.take i++[ss[i]]:=List.take_succ_eq_append_getElem h
theorem namesP_snoc (L:List MPiece)(s:MPiece):namesP (L++[s])=namesP L++[s.name]:=by simp [namesP]
theorem beforeB_eq (ss:List MPiece)(i:Nat)(s:MPiece):beforeB ss i s=(decide (cntS (namesP (ss.take i)) s.name≠0) || decide (cntP (ss.take i) s.len s.speed s.brake≠0)):=by
 unfold beforeB cntS cntP namesP
 generalize ss.take i=L
 rw [Bool.eq_iff_iff]
 simp only [List.any_eq_true,same4,Bool.or_eq_true,decide_eq_true_eq,ne_eq,List.countP_eq_zero,List.mem_map,Bool.and_eq_true,beq_iff_eq]
 constructor
 ·rintro ⟨x,hx,h | h⟩
  ·left
   intro h2
   exact h2 x.name ⟨x,hx,rfl⟩ h
  ·right
   intro h2
   exact h2 x hx h
 ·rintro (h | h)
  ·have:∃ t,(∃ a,a ∈ L∧a.name=t)∧t=s.name:=by
    apply Classical.byContradiction
    intro hn
    exact h (fun t ht e=>hn ⟨t,ht,e⟩)
   obtain ⟨t,⟨x,hx,rfl⟩,e⟩:=this
   exact ⟨x,hx,Or.inl e⟩
  ·have:∃ x,x ∈ L∧((x.len=s.len∧x.speed=s.speed)∧x.brake=s.brake):=by
    apply Classical.byContradiction
    intro hn
    exact h (fun x hx e=>hn ⟨x,hx,e⟩)
   obtain ⟨x,hx,e⟩:=this
   exact ⟨x,hx,Or.inr e⟩
theorem grown_cell {w w':World}{b:Nat}(hg:w.grownBy w' (some b)){a:Addr}{v:Value}(h:w.cell? a=some v)(hne:a.block≠b):w'.cell? a=some v:=
 (World.cell?_of_block (w:=w) (hg.block a.block (cellLt h) (fun e=>hne (by injection e)))).trans h
theorem firstDoubleSignal_any (sa:Option Addr)(sc:Nat)(ss:List MPiece)(w:World)(hs:Hid (PiecesAt w sa ss))(hl:ss.length≤1000)
  (hr:Hid (∀ q (h:q<ss.length),0≤ss[q].len∧ss[q].len≤100∧0≤ss[q].speed∧ss[q].speed≤10000000 ∧ -1≤ss[q].brake∧ss[q].brake≤1)) :
  Calls Tryz.prog 60 #[.slice sa ss.length sc] w fun e w'=>e = .returned (.int .i64 (firstBad (badS4 ss) ss.length))∧Below w.heap.size w w':=by
 have hmm := @run_makeMap Tryz.prog
 go_enter Tryz.func60,Tryz.ntmps60
 go_wp2_with fail
 have HS:Hid (NaMap ((w.alloc (.map #[] 0)).alloc (.map #[] 0)) w.heap.size (ss.take 0)):=by
  have h:=CMap.made 9 w
  rw [← fS_nil] at h
  exact h.below (show Below _ _ ((w.alloc (.map #[] 0)).alloc (.map #[] 0)) from (Below.refl _ _).alloc (Nat.le_refl _) _)
 have HP:Hid (PMap ((w.alloc (.map #[] 0)).alloc (.map #[] 0)) (w.heap.size+1) (ss.take 0)):=by
  have h:=CMap.made 192 (w.alloc (.map #[] 0))
  have h2:(w.alloc (.map #[] 0)).heap.size=w.heap.size+1:=by simp
  rw [← fP_nil,h2] at h
  exact h
 go_loopw [12] (fun c wr => ∃ (i:Nat),i≤ss.length∧c = .int .i64 i∧Hid (∀ q,q<i→badS4 ss q=false)∧Hid (NaMap wr w.heap.size (ss.take i))∧Hid (PMap wr (w.heap.size+1) (ss.take i))∧Below w.heap.size w wr) (fun c _=>ss.length-(intOf c).toNat)
 case atStart=>exact ⟨0,Nat.zero_le _,rfl,(fun q h=>absurd h (Nat.not_lt_zero q)),HS.out,HP.out,blo⟩
 case round =>
  clear HS HP hmm
  obtain ⟨i,hi,rfl,HQ,HS,HP,hb⟩:=hrel
  have hbs:=hb.size
  have hz1:w.heap.size+1<wr.heap.size:=CMap.lt HP.out
  by_cases hi':i<ss.length
  ·obtain ⟨b1,off1,rfl,hpc⟩:=hs.out.2.2.resolve_left (nz hi')
   obtain ⟨c1,c2,c3,c4⟩:=(hpc.below hb) i hi'
   have hsz:ss[i].name.size≤maxLen:=hs.out.2.1 _ (List.getElem_mem hi')
   obtain ⟨y1,y2,y3,y4,y5,y6⟩:=hr.out i hi'
   obtain ⟨kl,hkey⟩:=keyP (wf64 y1 (by omega)) (wf64 y3 (by omega)) (show (Lit.int .i64 ss[i].brake).wf=true from WalkArith.wf_i64 (by omega))
   clear hpc y1 y2 y3 y4 y5 y6
   have HXB:Hid (beforeB ss i ss[i]=true→firstBad (badS4 ss) ss.length=i):=fun ho=>firstBad_hit hi' (by rw [badS4_at hi',ho]) HQ.out
   have HQ2:Hid (beforeB ss i ss[i]=false→∀ q,q<i+1→badS4 ss q=false):=by
    intro ho q hq
    by_cases e:q<i
    ·exact HQ.out q e
    ·have:q=i:=by omega
     subst this
     rw [badS4_at hi',ho]
   clear HQ
   generalize hX:(wr.alloc (Obj.cells #[Value.string ss[i].name,Value.int IntKind.i64 ss[i].len,Value.int IntKind.i64 ss[i].speed,Value.int IntKind.i64 ss[i].brake] 62)).alloc (Obj.cells #[Value.int IntKind.i64 ss[i].len,Value.int IntKind.i64 ss[i].speed,Value.int IntKind.i64 ss[i].brake] 192)=X
   have hbX:Below wr.heap.size wr X:=by rw [← hX];exact blo
   have n0:X.cell? ⟨wr.heap.size,0,none⟩=some (.string ss[i].name):=by rw [← hX];simp [go_sem]
   have p0:X.cell? ⟨wr.heap.size+1,0,none⟩=some (.int .i64 ss[i].len):=by rw [← hX];simp [go_sem]
   have p1:X.cell? ⟨wr.heap.size+1,1,none⟩=some (.int .i64 ss[i].speed):=by rw [← hX];simp [go_sem]
   have p2:X.cell? ⟨wr.heap.size+1,2,none⟩=some (.int .i64 ss[i].brake):=by rw [← hX];simp [go_sem]
   have hS2:CMap 9 X w.heap.size (ss.take i).length (fS (namesP (ss.take i))):=CMap.below HS.out hbX
   have hP2:CMap 192 X (w.heap.size+1) (ss.take i).length (fP (ss.take i)):=CMap.below HP.out hbX
   have hlS:=hS2.lookup lawS Tryz.underlying189 (keyS hsz)
   have hlP:=hP2.lookup lawP Tryz.underlying190 hkey
   have hbX':Below w.heap.size w X:=hb.trans (hbX.mono hb.size)
   have hlen:(ss.take i).length≤1000:=by rw [List.length_take];omega
   have hXs:wr.heap.size+1<X.heap.size:=by rw [← hX];simp
   by_cases kS:cntS (namesP (ss.take i)) ss[i].name=0
   ·have eS:fS (namesP (ss.take i)) (.string ss[i].name)=0:=by show ((cntS _ _:Nat):Int)=0;rw [kS];rfl
    rw [eS] at hlS
    by_cases kP:cntP (ss.take i) ss[i].len ss[i].speed ss[i].brake=0
    ·have eP:fP (ss.take i) (.agg #[.int .i64 ss[i].len,.int .i64 ss[i].speed,.int .i64 ss[i].brake])=0:=by rw [fP_at,kP];rfl
     rw [eP] at hlP
     have HQ3:=hidQ (HQ2.out (by rw [beforeB_eq,kS,kP];rfl))
     obtain ⟨w2,hup,hS3,hg2⟩:=hS2.update lawS Tryz.underlying189 (by unfold maxLen;omega) (keyS hsz) 1 (wf64 (by omega) (by omega)) (fS (namesP (ss.take (i+1)))) (by rw [take_next hi',namesP_snoc,fS_same,kS];rfl) (by rw [take_next hi',namesP_snoc];exact fS_other _ _)
     have m0:=grown_cell hg2 p0 (by show wr.heap.size+1≠w.heap.size;omega)
     have m1:=grown_cell hg2 p1 (by show wr.heap.size+1≠w.heap.size;omega)
     have m2:=grown_cell hg2 p2 (by show wr.heap.size+1≠w.heap.size;omega)
     have hP3:CMap 192 w2.drew (w.heap.size+1) (ss.take i).length (fP (ss.take i)):=hP2.of_block (hg2.block _ (CMap.lt hP2) (by simp))
     have hlP3:=hP3.lookup lawP Tryz.underlying190 hkey
     rw [eP] at hlP3
     obtain ⟨v0,st,w3,w4,hme,hl3,hes,hP4,hg4⟩:=hP3.entry lawKP Tryz.underlying190 (by unfold maxLen;omega) hkey 1 (wf64 (by omega) (by omega)) (fP (ss.take (i+1))) (by rw [take_next hi',fP_same,eP];rfl) (by rw [take_next hi'];exact fP_other _ _)
     rw [eP] at hl3
     have hlen1:(ss.take (i+1)).length=(ss.take i).length+1:=by rw [take_next hi',List.length_append];rfl
     have HP4:Hid (PMap w4 (w.heap.size+1) (ss.take (i+1))):=by
      unfold Hid PMap
      rw [hlen1]
      exact hP4
     have HS4:Hid (NaMap w4 w.heap.size (ss.take (i+1))):=by
      unfold Hid NaMap
      rw [hlen1]
      refine hS3.of_block ?_
      exact hg4.block _ (CMap.lt hS3) (by simp)
     have hb2:Below w.heap.size w w2:=hbX'.grown hg2 hbX'.size (fun j hj=>by cases hj;exact Nat.le_refl _)
     have hb4:Below w.heap.size w w4:=hb2.drew.grown hg4 hb2.size (fun j hj=>by cases hj;omega)
     clear hS2 hP2 hS3 hP3 hP4 hg2 hg4 hkey eS eP kS kP HXB HQ2 HS HP hlen hlen1 hb2 hbX' p0 p1 p2 hbX
     subst hX
     go_wp2_with fail
     go_region
     all_goals
      go_wp2_with fail
      go_roundw
      case rel=>exact ⟨i+1,by omega,by go_num,HQ3,HS4,HP4,hb4⟩
      case measure=>simp [intOf];omega
    ·have HX:=hidQ (HXB.out (by rw [beforeB_eq,kS,decide_eq_true kP];rfl))
     have hpos:0<fP (ss.take i) (.agg #[.int .i64 ss[i].len,.int .i64 ss[i].speed,.int .i64 ss[i].brake]):=by
      rw [fP_at]
      omega
     generalize fP (ss.take i) (.agg #[.int .i64 ss[i].len,.int .i64 ss[i].speed,.int .i64 ss[i].brake])=c0 at hlP hpos
     clear hS2 hP2 hkey eS kS kP HXB HQ2 HS HP hlen hbX p0 p1 p2 n0
     subst hX
     go_wp2_with fail
     go_ret
     exact ⟨ret_int HX.out.symm,hbX'⟩
   ·have HX:=hidQ (HXB.out (by rw [beforeB_eq,decide_eq_true kS];rfl))
    have hpos:0<fS (namesP (ss.take i)) (.string ss[i].name):=by
     show (0:Int)<((cntS _ _:Nat):Int)
     omega
    generalize fS (namesP (ss.take i)) (.string ss[i].name)=c0 at hlS hpos
    clear hS2 hP2 hkey kS HXB HQ2 HS HP hlen hbX p0 p1 p2 n0
    subst hX
    go_wp2_with fail
    go_ret
    exact ⟨ret_int HX.out.symm,hbX'⟩
  ·have HX:=hidQ (firstBad_none (bad:=badS4 ss) (n:=ss.length) (fun q h=>HQ.out q (by omega)))
   clear HQ HS HP
   go_wp2_with fail
   go_ret
   exact ⟨ret_int HX.out.symm,hb⟩
end Go.Proofs.YtmkdgnmmebldgaaGreatDoor
namespace Go.Proofs.YtmkdgnmmebldgaaGreatDoor
open Go.RowKit
theorem bcellM {W w1:World}(hb:Below W.heap.size W w1):(∀ b o,b<W.heap.size→w1.cell? ⟨b,o,none⟩=W.cell? ⟨b,o,none⟩):=
 fun b o h=>hb.cell (p:=⟨b,o,none⟩) h
theorem badPi_of_bad {ps:List MPiece}{i:Nat}(h:i<ps.length)(hp:pieceB ps[i].name ps[i].len ps[i].speed ps[i].brake=false):badPi ps i=true:=by
 rw [badPi_at h];simp [okP,hp]
theorem namesP_succ {ps:List MPiece}{i:Nat}(h:i<ps.length):namesP (ps.take (i+1))=namesP (ps.take i)++[ps[i].name]:=by
 unfold namesP
 rw [List.take_succ_eq_append_getElem h,List.map_append]
 rfl
theorem firstWrongPiece_any (pa:Option Addr)(pc:Nat)(ps:List MPiece)(w:World)(hp:Hid (PiecesAt w pa ps))(hl:ps.length≤1000000):
  Calls Tryz.prog 65 #[.slice pa ps.length pc] w fun e w'=>e = .returned (.int .i64 (firstBad (badPi ps) ps.length))∧Below w.heap.size w w':=by
 have hmm := @run_makeMap Tryz.prog
 go_enter Tryz.func65,Tryz.ntmps65
 go_wp2_with fail
 have HM:=hidQ (CMap.made 9 w)
 rw [← fS_nil] at HM
 go_loopw [9] (fun c wr => ∃ (i:Nat),i≤ps.length∧c = .int .i64 i∧Hid (∀ q,q<i→badPi ps q=false)∧Hid (CMap 9 wr w.heap.size i (fS (namesP (ps.take i))))∧Below w.heap.size w wr) (fun c _=>ps.length-(intOf c).toNat)
 case atStart=>exact ⟨0,Nat.zero_le _,rfl,(fun q h=>absurd h (Nat.not_lt_zero q)),HM.out,blo⟩
 case round =>
  clear HM hmm
  obtain ⟨i,hi,rfl,HQ,HM,hb⟩:=hrel
  have hbs:=hb.size
  by_cases hi':i<ps.length
  ·obtain ⟨b1,off1,rfl,hpc⟩:=hp.out.2.2.resolve_left (nz hi')
   obtain ⟨c1,c2,c3,c4⟩:=(hpc.below hb) i hi'
   have hsz:ps[i].name.size≤maxLen:=hp.out.2.1 _ (List.getElem_mem hi')
   clear hpc
   go_wp2_with fail
   refine (pieceOk_any _ _ _ _ _ hsz).mono ?_
   rintro e w2 ⟨rfl,hb2⟩
   have hc2:=bcellM hb2
   have hb3:Below w.heap.size w w2:=Below.trans blo (hb2.mono (by simp;omega))
   have hM2:CMap 9 w2 w.heap.size i (fS (namesP (ps.take i))):=(HM.out.below (show Below wr.heap.size wr (wr.alloc _) from blo)).below hb2
   clear hb hb2 c1 c2 c3 c4 HM
   cases hP:pieceB ps[i].name ps[i].len ps[i].speed ps[i].brake
   ·have HX:=hidQ (firstBad_hit hi' (badPi_of_bad hi' hP) HQ.out)
    clear hP hM2
    go_wp2_with fail
    go_ret
    exact ⟨ret_int HX.out.symm,hb3⟩
   ·have hlk:=hM2.lookup lawS Tryz.underlying189 (keyS hsz)
    cases hA:aheadB (namesP (ps.take i)) ps[i].name
    ·have h0:fS (namesP (ps.take i)) (.string ps[i].name)=0:=by
      show ((cntS _ _:Nat):Int)=0
      rw [(cntS_zero _ _).2 hA];rfl
     rw [h0] at hlk
     obtain ⟨w3,hup,hM3,hg⟩:=hM2.update lawS Tryz.underlying189 (by unfold maxLen;omega) (keyS hsz) 1 (wf64 (by omega) (by omega)) (fS (namesP (ps.take (i+1)))) (by rw [namesP_succ hi',fS_same,(cntS_zero _ _).2 hA];rfl) (by rw [namesP_succ hi'];exact fS_other _ _)
     have HM3:=hidQ hM3
     have hb4:Below w.heap.size w w3:=hb3.grown hg hb3.size (fun j hj=>by cases hj;exact Nat.le_refl _)
     have HQ2:Hid (∀ q,q<i+1→badPi ps q=false):=by
      intro q hq
      by_cases e:q<i
      ·exact HQ.out q e
      ·have:q=i:=by omega
       subst this
       rw [badPi_at hi',okP,hP,hA]
       rfl
     clear hP hA h0 hM2 hM3 hg hb3 HQ
     go_wp2_with fail
     go_roundw
     case rel=>exact ⟨i+1,by omega,by go_num,HQ2,HM3,hb4⟩
     case measure=>simp [intOf];omega
    ·have HX:=hidQ (firstBad_hit hi' (by rw [badPi_at hi'];simp [okP,hA]) HQ.out)
     have hpos:0<fS (namesP (ps.take i)) (.string ps[i].name):=by
      show (0:Int)<((cntS _ _:Nat):Int)
      have:cntS (namesP (ps.take i)) ps[i].name≠0:=fun h=>by rw [cntS_zero,hA] at h;cases h
      omega
     generalize fS (namesP (ps.take i)) (.string ps[i].name)=c0 at hlk hpos
     clear hP hA hM2
     go_wp2_with fail
     go_ret
     exact ⟨ret_int HX.out.symm,hb3⟩
  ·have HX:=hidQ (firstBad_none (bad:=badPi ps) (n:=ps.length) (fun q h=>HQ.out q (by omega)))
   clear HQ HM
   go_wp2_with fail
   go_ret
   exact ⟨ret_int HX.out.symm,hb⟩
end Go.Proofs.YtmkdgnmmebldgaaGreatDoor
