import Derived.Test.YtmkdgnmmebldgaaGreatDoorPt2
import Derived.Test.YtmkdgnmmebldgaaGreatDoorPt5
import Derived.Test.YtmkdgnmmebldgaaGreatDoorPt3
import Derived.Test.YtmkdgnmmebldgaaGreatDoorPt35
import Derived.Test.YtmkdgnmmebldgaaGreatDoorPt28
set_option maxRecDepth 100000
set_option maxHeartbeats 8000000
namespace Go.Proofs.YtmkdgnmmebldgaaGreatDoor
open Go.RowKit
def touchP (x y:MPart):Bool:=x.piece==y.piece&&decide (x.lo≤y.hi)&&decide (y.lo≤x.hi)
def touchL (a b:List MPart):Bool:=a.any fun x=>b.any fun y=>touchP x y
def crossL (a b:List Int):Bool:=a.any fun x=>b.any fun y=>x==y
def wantL (a b:List MEnd):Bool:=a.any fun x=>b.any fun y=>x.piece==y.piece&&x.side != y.side
def metL (out:List MEnd)(f:MFlank):Bool:=out.any fun x=>x.piece==f.of&&x.side==f.lie
def needStep (out:List MEnd)(f:MFlank):List MEnd:=if f.kind=3∧metL out f=false then out++[⟨f.of,f.lie⟩] else out
def needsF (lies:List MEnd)(flanks:List MFlank):List MEnd:=flanks.foldl needStep lies
def exclF (a b:MRoute):Int:=
 if touchL a.parts b.parts=true then 1
 else if crossL a.crosses b.crosses=true then 2
 else if wantL (needsF a.lies a.flanks) (needsF b.lies b.flanks)=true then 3
 else if touchL a.over b.parts=true∨touchL a.parts b.over=true then 4
 else 0
def tableF (rs:List MRoute):List (List Int):=if 300<rs.length then [] else rs.map fun a=>rs.map (exclF a)
theorem any_hit {α:Type}{p:α→Bool}{l:List α}{i:Nat}(hi:i<l.length)(h:p l[i]=true):l.any p=true:=List.any_eq_true.2 ⟨_,List.getElem_mem hi,h⟩
theorem any_none {α:Type}{p:α→Bool}{l:List α}(h:∀ i (hi:i<l.length),p l[i]=false):l.any p=false:=by
 rw [List.any_eq_false]
 intro x hx
 obtain ⟨i,hi,rfl⟩:=List.getElem_of_mem hx
 rw [h i hi]
 simp
theorem any_take_succ {α:Type}(p:α→Bool)(l:List α)(k:Nat)(hk:k<l.length):(l.take (k+1)).any p=((l.take k).any p || p l[k]):=by
 rw [List.take_succ_eq_append_getElem hk,List.any_append]
 simp
theorem fold_take_succ {α β:Type}(f:β→α→β)(b:β)(l:List α)(k:Nat)(hk:k<l.length):(l.take (k+1)).foldl f b=f ((l.take k).foldl f b) l[k]:=by
 rw [List.take_succ_eq_append_getElem hk,List.foldl_append]
 rfl
theorem needStep_len (out:List MEnd)(f:MFlank):(needStep out f).length≤out.length+1:=by
 unfold needStep
 split <;> simp
theorem needs_len:∀ (fs:List MFlank)(out:List MEnd),(fs.foldl needStep out).length≤out.length+fs.length
 | [],out=>by simp
 | f::r,out=>by
  have h1:=needs_len r (needStep out f)
  have h2:=needStep_len out f
  simp only [List.foldl_cons,List.length_cons]
  omega
end Go.Proofs.YtmkdgnmmebldgaaGreatDoor
namespace Go.Proofs.YtmkdgnmmebldgaaGreatDoor
open Go.RowKit Go.Deep
theorem l3touch_any (a b:Option Addr)(ac bc:Nat)(xs ys:List MPart)(w:World)(ha:Hid (PartsAt w a xs))(hb:Hid (PartsAt w b ys)):
  Calls Tryz.prog 93 #[.slice a xs.length ac,.slice b ys.length bc] w fun e w'=>e = .returned (.bool (touchL xs ys))∧Below w.heap.size w w':=by
 have hl:=ha.out.1
 have hl2:=hb.out.1
 unfold maxLen at hl hl2
 go_enter Tryz.func93,Tryz.ntmps93
 go_wp2_with fail
 go_loopw [11] (fun i wr => ∃ (k:Nat),k≤xs.length∧i = .int .i64 k∧Hid (∀ q (hq:q<xs.length),q<k→(ys.any fun y=>touchP xs[q] y)=false)∧Below w.heap.size w wr) (fun i _=>xs.length-(intOf i).toNat)
 case atStart=>exact ⟨0,Nat.zero_le _,rfl,(fun q _ h=>absurd h (Nat.not_lt_zero q)),Below.refl _ _⟩
 case round =>
  obtain ⟨k,hk,rfl,HQ,hbw⟩:=hrel
  have hbs:=hbw.size
  by_cases hk':k<xs.length
  ·obtain ⟨b1,off1,rfl,hpc1⟩:=ha.out.2.resolve_left (nz hk')
   obtain ⟨c0,c1,c2⟩:=(hpc1.below hbw) k hk'
   clear hpc1
   go_wp2_with fail
   generalize hW:wr.alloc (Obj.cells #[Value.int IntKind.i64 xs[k].piece,Value.int IntKind.i64 xs[k].lo,Value.int IntKind.i64 xs[k].hi] 48)=W
   have p0:W.cell? ⟨wr.heap.size,0,none⟩=some (.int .i64 xs[k].piece):=by rw [← hW];simp [go_sem]
   have p1:W.cell? ⟨wr.heap.size,1,none⟩=some (.int .i64 xs[k].lo):=by rw [← hW];simp [go_sem]
   have p2:W.cell? ⟨wr.heap.size,2,none⟩=some (.int .i64 xs[k].hi):=by rw [← hW];simp [go_sem]
   have hbW:Below w.heap.size w W:=by rw [← hW];exact blo
   have hzW:wr.heap.size<W.heap.size:=by rw [← hW];simp
   clear hW c0 c1 c2 hbw
   go_loopw [17] (fun i wr2 => ∃ (m:Nat),m≤ys.length∧i = .int .i64 m∧Hid (∀ q (hq:q<ys.length),q<m→touchP xs[k] ys[q]=false)∧Below W.heap.size W wr2) (fun i _=>ys.length-(intOf i).toNat)
   case atStart=>exact ⟨0,Nat.zero_le _,rfl,(fun q _ h=>absurd h (Nat.not_lt_zero q)),Below.refl _ _⟩
   case round =>
    obtain ⟨m,hm,rfl,HM,hb2⟩:=hrel
    have hbs2:=hb2.size
    have hbF:=hbW.trans (hb2.mono hbW.size)
    have hbsF:=hbF.size
    by_cases hm':m<ys.length
    ·obtain ⟨b3,off3,rfl,hpc3⟩:=hb.out.2.resolve_left (nz hm')
     obtain ⟨d0,d1,d2⟩:=(hpc3.below hbF) m hm'
     have q0:=cell_later hb2 p0
     have q1:=cell_later hb2 p1
     have q2:=cell_later hb2 p2
     have hz2:=Nat.lt_of_lt_of_le hzW hb2.size
     clear hpc3
     cases hT:touchP xs[k] ys[m]
     ·have HM2:Hid (∀ q (hq:q<ys.length),q<m+1→touchP xs[k] ys[q]=false):=by
       intro q hq hqm
       by_cases e:q<m
       ·exact HM.out q hq e
       ·have:q=m:=by omega
        subst this;exact hT
      have hcs:(xs[k].piece==ys[m].piece)=false∨(xs[k].piece==ys[m].piece)=true∧(decide (xs[k].lo≤ys[m].hi)=false∨decide (xs[k].lo≤ys[m].hi)=true∧decide (ys[m].lo≤xs[k].hi)=false):=by
       unfold touchP at hT
       revert hT
       cases (xs[k].piece==ys[m].piece) <;> cases decide (xs[k].lo≤ys[m].hi) <;> cases decide (ys[m].lo≤xs[k].hi) <;> simp
      clear hT HM
      rcases hcs with t1 | ⟨t1,t2 | ⟨t2,t3⟩⟩
      all_goals
       go_wp2_with fail
       go_roundw
       case rel=>exact ⟨m+1,by omega,by go_num,HM2,blo⟩
       case measure=>simp [intOf];omega
     ·have HX:Hid (touchL xs ys=true):=any_hit hk' (any_hit hm' hT)
      obtain ⟨t1,t2,t3⟩:(xs[k].piece==ys[m].piece)=true∧decide (xs[k].lo≤ys[m].hi)=true∧decide (ys[m].lo≤xs[k].hi)=true:=by
       unfold touchP at hT
       simp only [Bool.and_eq_true] at hT
       exact ⟨hT.1.1,hT.1.2,hT.2⟩
      clear hT HM
      go_wp2_with fail
      go_ret
      exact ⟨ret_bool HX.out.symm,blo⟩
    ·have HQ2:Hid (∀ q (hq:q<xs.length),q<k+1→(ys.any fun y=>touchP xs[q] y)=false):=by
      intro q hq hqk
      by_cases e:q<k
      ·exact HQ.out q hq e
      ·have:q=k:=by omega
       subst this
       exact any_none (fun i hi=>HM.out i hi (by omega))
     clear HM HQ
     go_wp2_with fail
     go_roundw
     case rel=>exact ⟨k+1,by omega,by go_num,HQ2,hbF⟩
     case measure=>simp [intOf];omega
  ·have HX:Hid (touchL xs ys=false):=any_none (fun i hi=>HQ.out i hi (by omega))
   clear HQ
   go_wp2_with fail
   go_ret
   exact ⟨ret_bool HX.out.symm,hbw⟩
theorem flatE_take (es:List MEnd)(k:Nat)(hk:k<es.length):flatE (es.take k)++[.int .i64 es[k].piece,.int .i64 es[k].side]=flatE (es.take (k+1)):=by
 rw [List.take_succ_eq_append_getElem hk,flatE_snoc]
 rfl
theorem needs_succ (lies:List MEnd)(fs:List MFlank)(m:Nat)(hm:m<fs.length):needsF lies (fs.take (m+1))=needStep (needsF lies (fs.take m)) fs[m]:=fold_take_succ needStep lies fs m hm
theorem needs_take_len (lies:List MEnd)(fs:List MFlank)(m:Nat):(needsF lies (fs.take m)).length≤lies.length+fs.length:=by
 have h1:=needs_len (fs.take m) lies
 have h2:(fs.take m).length≤fs.length:=by rw [List.length_take];omega
 unfold needsF
 omega
theorem specNeeds_any (d:RAddr)(r:MRoute)(w:World)(h1:Hid (EndsAt w d.a1 r.lies))(h5:Hid (FlanksAt w d.a5 r.flanks))(hl1:r.lies.length≤1048576)(hl5:r.flanks.length≤1048576):
  Calls Tryz.prog 94 #[routeV d r] w fun e w' => ∃ x y,e = .returned (.slice x (needsF r.lies r.flanks).length y)∧w'.ownsRow w.heap.size 52 2 (.slice x (needsF r.lies r.flanks).length y) (needsF r.lies r.flanks).length (flatE (needsF r.lies r.flanks))∧Below w.heap.size w w':=by
 unfold routeV
 obtain ⟨a0,c0,a1,c1,a2,c2,a3,c3,a4,c4,a5,c5⟩:=d
 dsimp only at h1 h5 ⊢
 go_enter Tryz.func94,Tryz.ntmps94
 go_wp2_with fail
 generalize hW:w.alloc _=W
 have e3:W.cell? ⟨w.heap.size,3,none⟩=some (.slice a1 r.lies.length c1):=by rw [← hW];simp [go_sem]
 have e7:W.cell? ⟨w.heap.size,7,none⟩=some (.slice a5 r.flanks.length c5):=by rw [← hW];simp [go_sem]
 have hz:w.heap.size+1=W.heap.size:=by rw [← hW];simp
 have hbW:Below w.heap.size w W:=by rw [← hW];exact blo
 have H1:=hidP (h1.out.below hbW)
 have H5:=hidP (h5.out.below hbW)
 clear hW h1 h5
 go_loopw [3,14] (fun v i wr => ∃ (k:Nat) (x:Option Addr) (y:Nat),k≤r.lies.length∧i = .int .i64 k∧v = .slice x k y∧Hid (wr.ownsRow W.heap.size 52 2 (.slice x k y) k (flatE (r.lies.take k)))∧Below W.heap.size W wr) (fun _ i _=>r.lies.length-(intOf i).toNat)
 case atStart=>exact ⟨0,none,0,Nat.zero_le _,rfl,rfl,World.ownsRow_nil _ _ _ _,Below.refl _ _⟩
 case round =>
  obtain ⟨k,x,y,hk,rfl,rfl,ho,hb⟩:=hrel
  have hbs:=hb.size
  by_cases hk':k<r.lies.length
  ·obtain ⟨b1,off1,rfl,hpc⟩:=H1.out.2.resolve_left (nz hk')
   obtain ⟨d0,d1⟩:=(hpc.below hb) k hk'
   have hz1:=cellLt d0
   clear hpc
   go_wp2_with (at_builtin;refine wpList_push rfl (.tmp 18) (.tmp 20) 39 rfl W.heap.size 52 _ 2 16 Tryz.underlying39 Tryz.infoLie rfl (by decide) (.slice x k y) k (flatE (r.lies.take k)) rfl (ho.out.alloc _) (wr.heap.size+1) (by simp) [.int .i64 r.lies[k].piece,.int .i64 r.lies[k].side] rfl rfl (by simp [Value.oneCell']) (by unfold maxLen;omega) (by omega) (by simp;omega) ?_;intro x' y' w2 ho2 hg2;have hb2:=push_below (show Below W.heap.size W _ from blo) (ho.out.alloc _) hg2 (by simp;omega);rw [flatE_take _ _ hk'] at ho2;have HO2:=hidP ho2;clear ho2 hg2)
   go_roundw
   case rel=>exact ⟨k+1,x',y',by omega,by go_num,rfl,HO2,hb2⟩
   case measure=>simp [intOf];omega
  ·have HT:Hid (r.lies.take k=r.lies):=List.take_of_length_le (by omega)
   have hkk:k=r.lies.length:=by omega
   have HO:Hid (wr.ownsRow W.heap.size 52 2 (.slice x k y) (needsF r.lies (r.flanks.take 0)).length (flatE (needsF r.lies (r.flanks.take 0)))):=by have:=ho.out;rw [HT.out] at this;rw [hkk] at this ⊢;exact this
   have e7':=cell_later hb e7
   have hz2:w.heap.size<wr.heap.size:=by omega
   have HB:=hidP hb
   clear ho HT
   go_wp2_with fail
   clear e7' hz2 hb hbs
   go_loopw [3,26] (fun v i wr => ∃ (m:Nat) (x:Option Addr) (y:Nat),m≤r.flanks.length∧i = .int .i64 m∧v = .slice x (needsF r.lies (r.flanks.take m)).length y∧Hid (wr.ownsRow W.heap.size 52 2 (.slice x (needsF r.lies (r.flanks.take m)).length y) (needsF r.lies (r.flanks.take m)).length (flatE (needsF r.lies (r.flanks.take m))))∧Below W.heap.size W wr) (fun _ i _=>r.flanks.length-(intOf i).toNat)
   case atStart=>exact ⟨0,x,y,Nat.zero_le _,rfl,by rw [hkk];rfl,by rw [hkk] at HO;exact HO,HB.out⟩
   case round =>
    clear HO HB hkk hk hk'
    obtain ⟨m,x,y,hm,rfl,rfl,ho,hb⟩:=hrel
    have hbs:=hb.size
    by_cases hm':m<r.flanks.length
    ·have HNL:=hidP (needs_take_len r.lies r.flanks m)
     have HNS:=hidP (needs_succ r.lies r.flanks m hm')
     generalize hN:needsF r.lies (r.flanks.take m)=out at *
     clear hN
     have hol:out.length≤2097152:=by have:=HNL.out;omega
     obtain ⟨b1,off1,rfl,hpc⟩:=H5.out.2.resolve_left (nz hm')
     obtain ⟨d0,d1,d2,d3⟩:=(hpc.below hb) m hm'
     have hz1:=cellLt d0
     clear hpc
     cases hK:(r.flanks[m].kind != 3)
     rotate_left
     ·have HE:Hid (needsF r.lies (r.flanks.take (m+1))=out):=by
       unfold Hid
       rw [HNS.out,needStep,if_neg (by rintro ⟨h,_⟩;rw [h] at hK;simp at hK)]
      go_wp2_with fail
      go_roundw
      case rel=>exact ⟨m+1,x,y,by omega,by go_num,by rw [HE.out],by rw [HE.out];exact (ho.out.alloc _),blo⟩
      case measure=>simp [intOf];omega
     ·have hK3:r.flanks[m].kind=3:=by simpa using hK
      have HK3:=hidP hK3
      clear hK3
      go_wp2_with fail
      generalize hW2:wr.alloc _=W2
      have f2:W2.cell? ⟨wr.heap.size,2,none⟩=some (.int .i64 r.flanks[m].of):=by rw [← hW2];simp [go_sem]
      have f3:W2.cell? ⟨wr.heap.size,3,none⟩=some (.int .i64 r.flanks[m].lie):=by rw [← hW2];simp [go_sem]
      have HO2:Hid (W2.ownsRow W.heap.size 52 2 (.slice x out.length y) out.length (flatE out)):=by rw [← hW2];exact ho.out.alloc _
      have hb2:Below W.heap.size W W2:=by rw [← hW2];exact blo
      have hz3:wr.heap.size<W2.heap.size:=by rw [← hW2];simp
      clear hW2 ho hb hbs d0 d1 d2 d3 hK hz1
      obtain ⟨xa,ya,hxy,HEA,_,_⟩:=ownE HO2.out (by unfold maxLen;omega)
      cases hxy
      have HEA':=hidP HEA
      clear HEA
      have hbs2:=hb2.size
      go_loopw [8,35] (fun mt i wr3 => ∃ (q:Nat),q≤out.length∧i = .int .i64 q∧mt = .bool (metL (out.take q) r.flanks[m])∧Below W2.heap.size W2 wr3) (fun _ i _=>out.length-(intOf i).toNat)
      case atStart=>exact ⟨0,Nat.zero_le _,rfl,rfl,Below.refl _ _⟩
      case round =>
       obtain ⟨q,hq,rfl,rfl,hb3⟩:=hrel
       have hbs3:=hb3.size
       have g2:=cell_later hb3 f2
       have g3:=cell_later hb3 f3
       have hz4:=Nat.lt_of_lt_of_le hz3 hb3.size
       by_cases hq':q<out.length
       ·obtain ⟨b4,off4,rfl,hpc4⟩:=HEA'.out.2.resolve_left (nz hq')
        obtain ⟨k0,k1⟩:=(hpc4.below hb3) q hq'
        clear hpc4
        have HS:Hid (metL (out.take (q+1)) r.flanks[m]=(metL (out.take q) r.flanks[m] || (out[q].piece==r.flanks[m].of&&out[q].side==r.flanks[m].lie))):=any_take_succ _ out q hq'
        cases t0:metL (out.take q) r.flanks[m] <;> cases t1:(out[q].piece==r.flanks[m].of) <;> cases t2:(out[q].side==r.flanks[m].lie)
        all_goals
         have HS2:=HS.out
         rw [t0,t1,t2] at HS2
         simp only [Bool.or_true,Bool.or_false,Bool.and_true,Bool.and_false,Bool.and_self] at HS2
         have HS3:=hidP HS2
         clear HS HS2 t0
         go_wp2_with fail
         go_roundw
         case rel=>exact ⟨q+1,by omega,by go_num,by rw [HS3.out],blo⟩
         case measure=>simp [intOf];omega
       ·have HTk:Hid (out.take q=out):=List.take_of_length_le (by omega)
        rw [HTk.out]
        have HO3:=hidP (owns_below HO2.out hb3)
        have hb4:=hb2.trans (hb3.mono hb2.size)
        have hbs4:=hb4.size
        clear HTk HO2
        cases hM:metL out r.flanks[m]
        ·have HE:Hid (needsF r.lies (r.flanks.take (m+1))=out++[⟨r.flanks[m].of,r.flanks[m].lie⟩]):=by
          unfold Hid
          rw [HNS.out,needStep,if_pos ⟨HK3.out,hM⟩]
         have HL:Hid ((out++[(⟨r.flanks[m].of,r.flanks[m].lie⟩:MEnd)]).length=out.length+1):=by unfold Hid;simp
         have HF:Hid (flatE out++[.int .i64 r.flanks[m].of,.int .i64 r.flanks[m].lie]=flatE (out++[⟨r.flanks[m].of,r.flanks[m].lie⟩])):=by unfold Hid;rw [flatE_snoc];rfl
         clear hM
         go_wp2_with (at_builtin;refine wpList_push rfl (.tmp 57) (.tmp 63) 39 rfl W.heap.size 52 _ 2 16 Tryz.underlying39 Tryz.infoLie rfl (by decide) (.slice x out.length y) out.length (flatE out) rfl HO3.out wr.heap.size rfl [.int .i64 r.flanks[m].of,.int .i64 r.flanks[m].lie] rfl rfl (by simp [Value.oneCell']) (by unfold maxLen;omega) (by omega) (by omega) ?_;intro x' y' w2 ho2 hg2;have hb5:=push_below hb4 HO3.out hg2 (by omega);rw [HF.out] at ho2;have HO4:=hidP ho2;clear ho2 hg2)
         go_roundw
         case rel=>exact ⟨m+1,x',y',by omega,by go_num,by rw [HE.out,HL.out],by rw [HE.out,HL.out];exact HO4,hb5⟩
         case measure=>simp [intOf];omega
        ·have HE:Hid (needsF r.lies (r.flanks.take (m+1))=out):=by
          unfold Hid
          rw [HNS.out,needStep,if_neg (by rintro ⟨_,h⟩;rw [hM] at h;simp at h)]
         clear hM
         go_wp2_with fail
         go_roundw
         case rel=>exact ⟨m+1,x,y,by omega,by go_num,by rw [HE.out],by rw [HE.out];exact HO3,hb4⟩
         case measure=>simp [intOf];omega
    ·have HT:Hid (r.flanks.take m=r.flanks):=List.take_of_length_le (by omega)
     rw [HT.out] at ho ⊢
     clear HT
     go_wp2_with fail
     go_ret
     exact ⟨x,y,rfl,owns_base ho.out (by omega),hbW.trans (hb.mono hbW.size)⟩
theorem exclF_1 {a b:MRoute}(h:touchL a.parts b.parts=true):exclF a b=1:=by unfold exclF;rw [if_pos h]
theorem exclF_2 {a b:MRoute}(h:touchL a.parts b.parts=false)(h2:crossL a.crosses b.crosses=true):exclF a b=2:=by unfold exclF;rw [if_neg (by simp [h]),if_pos h2]
theorem exclF_3 {a b:MRoute}(h:touchL a.parts b.parts=false)(h2:crossL a.crosses b.crosses=false)(h3:wantL (needsF a.lies a.flanks) (needsF b.lies b.flanks)=true):exclF a b=3:=by unfold exclF;rw [if_neg (by simp [h]),if_neg (by simp [h2]),if_pos h3]
theorem exclF_4 {a b:MRoute}(h:touchL a.parts b.parts=false)(h2:crossL a.crosses b.crosses=false)(h3:wantL (needsF a.lies a.flanks) (needsF b.lies b.flanks)=false)(h4:touchL a.over b.parts=true∨touchL a.parts b.over=true):exclF a b=4:=by unfold exclF;rw [if_neg (by simp [h]),if_neg (by simp [h2]),if_neg (by simp [h3]),if_pos h4]
theorem exclF_0 {a b:MRoute}(h:touchL a.parts b.parts=false)(h2:crossL a.crosses b.crosses=false)(h3:wantL (needsF a.lies a.flanks) (needsF b.lies b.flanks)=false)(h4:touchL a.over b.parts=false)(h5:touchL a.parts b.over=false):exclF a b=0:=by unfold exclF;rw [if_neg (by simp [h]),if_neg (by simp [h2]),if_neg (by simp [h3]),if_neg (by simp [h4,h5])]
theorem routeCell_box2 (w:World)(o:Obj)(d:RAddr)(r:MRoute)(T:Nat):RouteCell ((w.alloc o).alloc (.cells #[.int .i64 r.start,.int .i64 r.stop,.slice d.a0 r.steps.length d.c0,.slice d.a1 r.lies.length d.c1,.slice d.a2 r.crosses.length d.c2,.slice d.a3 r.parts.length d.c3,.slice d.a4 r.over.length d.c4,.slice d.a5 r.flanks.length d.c5] T)) (w.heap.size+1) 0 d r:=by
 have:=routeCell_box (w.alloc o) d r T
 rwa [World.size_alloc] at this
theorem specExclude_any (d d':RAddr)(a b:MRoute)(w:World)(ha:Hid (RListsAt w d a))(hb:Hid (RListsAt w d' b))(hsa:Hid (ShortN a))(hsb:Hid (ShortN b)):
  Calls Tryz.prog 43 #[routeV d a,routeV d' b] w fun e w'=>e = .returned (.int .i64 (exclF a b))∧Below w.heap.size w w':=by
 unfold routeV
 go_enter Tryz.func43,Tryz.ntmps43
 go_wp2_with fail
 generalize hW:(w.alloc _).alloc _=W
 have HA:Hid (RouteCell W w.heap.size 0 d a):=by rw [← hW];exact (routeCell_box w d a _).below blo
 have HB:Hid (RouteCell W (w.heap.size+1) 0 d' b):=by rw [← hW];exact routeCell_box2 _ _ _ _ _
 have hz:w.heap.size+2=W.heap.size:=by rw [← hW];simp
 have hbW:Below w.heap.size w W:=by rw [← hW];exact blo
 have LA:=hidP (ha.out.below hbW)
 have LB:=hidP (hb.out.below hbW)
 clear hW ha hb
 refine (l3touch_any _ _ _ _ _ _ _ LA.out.parts LB.out.parts).mono ?_
 rintro e w1 ⟨rfl,hb1⟩
 cases hT:touchL a.parts b.parts
 rotate_left
 ·have HX:=hidP (exclF_1 hT)
  clear hT
  go_wp2_with fail
  go_ret
  exact ⟨ret_int HX.out.symm,hbW.trans (hb1.mono hbW.size)⟩
 have HT:=hidP hT
 clear hT
 have x4:w1.cell? ⟨w.heap.size,4,none⟩=some (.slice d.a2 a.crosses.length d.c2):=(HA.out.below hb1).k4
 have hz1:w.heap.size+2≤w1.heap.size:=by have:=hb1.size;omega
 have hl4:=LA.out.crosses.1
 have hl4':=LB.out.crosses.1
 unfold maxLen at hl4 hl4'
 have HB1:=hidP hb1
 go_wp2_with fail
 clear x4 hz1 hb1
 go_loopw [21] (fun i wr => ∃ (k:Nat),k≤a.crosses.length∧i = .int .i64 k∧Hid (∀ q (hq:q<a.crosses.length),q<k→(b.crosses.any fun y=>a.crosses[q]==y)=false)∧Below W.heap.size W wr) (fun i _=>a.crosses.length-(intOf i).toNat)
 case atStart=>exact ⟨0,Nat.zero_le _,rfl,(fun q _ h=>absurd h (Nat.not_lt_zero q)),HB1.out⟩
 case round =>
  clear HB1
  obtain ⟨k,hk,rfl,HQ,hbw⟩:=hrel
  have hbs:=hbw.size
  have hz2:w.heap.size+1<wr.heap.size:=by omega
  have hz3:w.heap.size<wr.heap.size:=by omega
  by_cases hk':k<a.crosses.length
  ·have c0:∃ b1 off1,d.a2=some ⟨b1,off1,none⟩∧wr.cell? ⟨b1,off1+k,none⟩=some (.int .i64 a.crosses[k]):=by
    obtain ⟨b1,off1,h1,hpc⟩:=LA.out.crosses.2.resolve_left (nz hk')
    exact ⟨b1,off1,h1,(hpc.below hbw) k hk'⟩
   obtain ⟨b1,off1,hd2,c0⟩:=c0
   rw [hd2]
   have y4:wr.cell? ⟨(w.heap.size+1),4,none⟩=some (.slice d'.a2 b.crosses.length d'.c2):=(HB.out.below hbw).k4
   clear hd2
   go_wp2_with fail
   have HBW:=hidP hbw
   clear y4 c0 hz2 hz3
   go_loopw [28] (fun i wr2 => ∃ (m:Nat),m≤b.crosses.length∧i = .int .i64 m∧Hid (∀ q (hq:q<b.crosses.length),q<m→(a.crosses[k]==b.crosses[q])=false)∧Below W.heap.size W wr2) (fun i _=>b.crosses.length-(intOf i).toNat)
   case atStart=>exact ⟨0,Nat.zero_le _,rfl,(fun q _ h=>absurd h (Nat.not_lt_zero q)),HBW.out⟩
   case round =>
    clear HBW hbw hbs
    obtain ⟨m,hm,rfl,HM,hbw⟩:=hrel
    have hbs:=hbw.size
    by_cases hm':m<b.crosses.length
    ·have c0:∃ b2 off2,d'.a2=some ⟨b2,off2,none⟩∧wr.cell? ⟨b2,off2+m,none⟩=some (.int .i64 b.crosses[m]):=by
      obtain ⟨b2,off2,h1,hpc⟩:=LB.out.crosses.2.resolve_left (nz hm')
      exact ⟨b2,off2,h1,(hpc.below hbw) m hm'⟩
     obtain ⟨b2,off2,hd3,c0⟩:=c0
     rw [hd3]
     clear hd3
     cases t:(a.crosses[k]==b.crosses[m])
     ·have HM2:Hid (∀ q (hq:q<b.crosses.length),q<m+1→(a.crosses[k]==b.crosses[q])=false):=by
       intro q hq hqm
       by_cases e:q<m
       ·exact HM.out q hq e
       ·have:q=m:=by omega
        subst this;exact t
      clear HM
      go_wp2_with fail
      go_roundw
      case rel=>exact ⟨m+1,by omega,by go_num,HM2,hbw⟩
      case measure=>simp [intOf];omega
     ·have HX:=hidP (exclF_2 HT.out (any_hit hk' (any_hit hm' t)))
      clear HM HQ
      go_wp2_with fail
      go_ret
      exact ⟨ret_int HX.out.symm,hbW.trans (hbw.mono hbW.size)⟩
    ·have HQ2:Hid (∀ q (hq:q<a.crosses.length),q<k+1→(b.crosses.any fun y=>a.crosses[q]==y)=false):=by
      intro q hq hqk
      by_cases e:q<k
      ·exact HQ.out q hq e
      ·have:q=k:=by omega
       subst this
       exact any_none (fun i hi=>HM.out i hi (by omega))
     clear HM HQ
     go_wp2_with fail
     go_roundw
     case rel=>exact ⟨k+1,by omega,by go_num,HQ2,hbw⟩
     case measure=>simp [intOf];omega
  ·have HC:Hid (crossL a.crosses b.crosses=false):=any_none (fun i hi=>HQ.out i hi (by omega))
   clear HQ
   have x0:wr.cell? ⟨w.heap.size,0,none⟩=some (.int .i64 a.start):=(HA.out.below hbw).k0
   have x1:wr.cell? ⟨w.heap.size,1,none⟩=some (.int .i64 a.stop):=(HA.out.below hbw).k1
   have x2:wr.cell? ⟨w.heap.size,2,none⟩=some (.slice d.a0 a.steps.length d.c0):=(HA.out.below hbw).k2
   have x3:wr.cell? ⟨w.heap.size,3,none⟩=some (.slice d.a1 a.lies.length d.c1):=(HA.out.below hbw).k3
   have x4:wr.cell? ⟨w.heap.size,4,none⟩=some (.slice d.a2 a.crosses.length d.c2):=(HA.out.below hbw).k4
   have x5:wr.cell? ⟨w.heap.size,5,none⟩=some (.slice d.a3 a.parts.length d.c3):=(HA.out.below hbw).k5
   have x6:wr.cell? ⟨w.heap.size,6,none⟩=some (.slice d.a4 a.over.length d.c4):=(HA.out.below hbw).k6
   have x7:wr.cell? ⟨w.heap.size,7,none⟩=some (.slice d.a5 a.flanks.length d.c5):=(HA.out.below hbw).k7
   go_wp2_with (go_at_call 94;refine (specNeeds_any d a _ (LA.out.below hbw).lies (LA.out.below hbw).flanks hsa.out.lies hsa.out.flanks).mono ?_;rintro e w2 ⟨xn,yn,rfl,ho2,hb2⟩)
   obtain ⟨xa,ya,hxy,hea,_,_⟩:=ownE ho2 (by have h1:=needs_len a.flanks a.lies;have h2:=hsa.out.lies;have h3:=hsa.out.flanks;unfold needsF maxLen;omega)
   cases hxy
   have HEA:=hidP hea
   have HNA:Hid ((needsF a.lies a.flanks).length≤2097152):=by have h1:=needs_len a.flanks a.lies;have h2:=hsa.out.lies;have h3:=hsa.out.flanks;unfold Hid needsF;omega
   have hna:=HNA.out
   have hb3:=hbw.trans (hb2.mono hbw.size)
   have HB2:Hid (Below w2.heap.size w2 w2):=Below.refl _ _
   clear ho2 hea hb2 x0 x1 x2 x3 x4 x5 x6 x7 hz2 hz3 hbw hbs hk hk'
   generalize hNA:needsF a.lies a.flanks=na at *
   have HNAe:=hidP hNA
   clear hNA
   go_loopw [40] (fun i wr => ∃ (k:Nat),k≤na.length∧i = .int .i64 k∧Hid (∀ q (hq:q<na.length),q<k→((needsF b.lies b.flanks).any fun y=>na[q].piece==y.piece&&na[q].side != y.side)=false)∧Below w2.heap.size w2 wr) (fun i _=>na.length-(intOf i).toNat)
   case atStart=>exact ⟨0,Nat.zero_le _,rfl,(fun q _ h=>absurd h (Nat.not_lt_zero q)),HB2.out⟩
   case round =>
    clear HB2
    obtain ⟨k,hk,rfl,HQ,hbw⟩:=hrel
    have hbF:=hb3.trans (hbw.mono hb3.size)
    have hbs:=hbF.size
    have hz2:w.heap.size+1<wr.heap.size:=by omega
    have hz3:w.heap.size<wr.heap.size:=by omega
    by_cases hk':k<na.length
    ·obtain ⟨b1,off1,rfl,hpc⟩:=HEA.out.2.resolve_left (nz hk')
     obtain ⟨c0,c1⟩:=(hpc.below hbw) k hk'
     clear hpc
     have y0:wr.cell? ⟨(w.heap.size+1),0,none⟩=some (.int .i64 b.start):=(HB.out.below hbF).k0
     have y1:wr.cell? ⟨(w.heap.size+1),1,none⟩=some (.int .i64 b.stop):=(HB.out.below hbF).k1
     have y2:wr.cell? ⟨(w.heap.size+1),2,none⟩=some (.slice d'.a0 b.steps.length d'.c0):=(HB.out.below hbF).k2
     have y3:wr.cell? ⟨(w.heap.size+1),3,none⟩=some (.slice d'.a1 b.lies.length d'.c1):=(HB.out.below hbF).k3
     have y4:wr.cell? ⟨(w.heap.size+1),4,none⟩=some (.slice d'.a2 b.crosses.length d'.c2):=(HB.out.below hbF).k4
     have y5:wr.cell? ⟨(w.heap.size+1),5,none⟩=some (.slice d'.a3 b.parts.length d'.c3):=(HB.out.below hbF).k5
     have y6:wr.cell? ⟨(w.heap.size+1),6,none⟩=some (.slice d'.a4 b.over.length d'.c4):=(HB.out.below hbF).k6
     have y7:wr.cell? ⟨(w.heap.size+1),7,none⟩=some (.slice d'.a5 b.flanks.length d'.c5):=(HB.out.below hbF).k7
     go_wp2_with (go_at_call 94;refine (specNeeds_any d' b _ (LB.out.below (hbF.trans (Below.mono (show Below wr.heap.size wr _ from blo) hbF.size))).lies (LB.out.below (hbF.trans (Below.mono (show Below wr.heap.size wr _ from blo) hbF.size))).flanks hsb.out.lies hsb.out.flanks).mono ?_;rintro e w4 ⟨xm,ym,rfl,ho4,hb4⟩)
     have p0:=cell_later hb4 (show (wr.alloc (Obj.cells #[Value.int IntKind.i64 na[k].piece,Value.int IntKind.i64 na[k].side] 52)).cell? ⟨wr.heap.size,0,none⟩=some (.int .i64 na[k].piece) by simp [go_sem])
     have p1:=cell_later hb4 (show (wr.alloc (Obj.cells #[Value.int IntKind.i64 na[k].piece,Value.int IntKind.i64 na[k].side] 52)).cell? ⟨wr.heap.size,1,none⟩=some (.int .i64 na[k].side) by simp [go_sem])
     obtain ⟨xb,yb,hxy,heb,_,_⟩:=ownE ho4 (by have h1:=needs_len b.flanks b.lies;have h2:=hsb.out.lies;have h3:=hsb.out.flanks;unfold needsF maxLen;omega)
     cases hxy
     have HEB:=hidP heb
     have hnb:(needsF b.lies b.flanks).length≤2097152:=by have h1:=needs_len b.flanks b.lies;have h2:=hsb.out.lies;have h3:=hsb.out.flanks;unfold needsF;omega
     have hb5:Below w2.heap.size w2 w4:=hbw.trans (Below.mono (Below.trans (show Below wr.heap.size wr _ from blo) (hb4.mono (by simp))) hbw.size)
     have hzz:=cellLt p0
     clear ho4 heb hb4 y0 y1 y2 y3 y4 y5 y6 y7 hz2 hz3 hbw hbs c0 c1 hbF
     generalize hNB:needsF b.lies b.flanks=nb at *
     have HNBe:=hidP hNB
     clear hNB
     go_loopw [47] (fun i wr2 => ∃ (m:Nat),m≤nb.length∧i = .int .i64 m∧Hid (∀ q (hq:q<nb.length),q<m→(na[k].piece==nb[q].piece&&na[k].side != nb[q].side)=false)∧Below w4.heap.size w4 wr2) (fun i _=>nb.length-(intOf i).toNat)
     case atStart=>exact ⟨0,Nat.zero_le _,rfl,(fun q _ h=>absurd h (Nat.not_lt_zero q)),Below.refl _ _⟩
     case round =>
      obtain ⟨m,hm,rfl,HM,hb6⟩:=hrel
      have hbs6:=hb6.size
      have hb7:=hb5.trans (hb6.mono hb5.size)
      have hbs7:=hb7.size
      by_cases hm':m<nb.length
      ·obtain ⟨b2,off2,rfl,hpc2⟩:=HEB.out.2.resolve_left (nz hm')
       obtain ⟨e0,e1⟩:=(hpc2.below hb6) m hm'
       have p0':=cell_later hb6 p0
       have p1':=cell_later hb6 p1
       have hzz':=Nat.lt_of_lt_of_le hzz hb6.size
       clear hpc2
       cases t:(na[k].piece==nb[m].piece&&na[k].side != nb[m].side)
       ·have HM2:Hid (∀ q (hq:q<nb.length),q<m+1→(na[k].piece==nb[q].piece&&na[k].side != nb[q].side)=false):=by
         intro q hq hqm
         by_cases e:q<m
         ·exact HM.out q hq e
         ·have:q=m:=by omega
          subst this;exact t
        have hcs:(na[k].piece==nb[m].piece)=false∨(na[k].piece==nb[m].piece)=true∧(na[k].side != nb[m].side)=false:=by
         revert t
         cases (na[k].piece==nb[m].piece) <;> cases (na[k].side != nb[m].side) <;> simp
        clear HM t
        rcases hcs with t1 | ⟨t1,t2⟩
        all_goals
         go_wp2_with fail
         go_roundw
         case rel=>exact ⟨m+1,by omega,by go_num,HM2,blo⟩
         case measure=>simp [intOf];omega
       ·have HX:Hid (exclF a b=3):=exclF_3 HT.out HC.out (by rw [HNAe.out,HNBe.out];exact any_hit hk' (any_hit hm' t))
        obtain ⟨t1,t2⟩:(na[k].piece==nb[m].piece)=true∧(na[k].side != nb[m].side)=true:=by simpa only [Bool.and_eq_true] using t
        clear HM HQ t
        go_wp2_with fail
        go_ret
        exact ⟨ret_int HX.out.symm,hbW.trans ((hb3.trans (Below.mono (show Below w2.heap.size w2 _ from blo) hb3.size)).mono hbW.size)⟩
      ·have HQ2:Hid (∀ q (hq:q<na.length),q<k+1→(nb.any fun y=>na[q].piece==y.piece&&na[q].side != y.side)=false):=by
        intro q hq hqk
        by_cases e:q<k
        ·exact HQ.out q hq e
        ·have:q=k:=by omega
         subst this
         exact any_none (fun i hi=>HM.out i hi (by omega))
       clear HM HQ
       go_wp2_with fail
       go_roundw
       case rel=>exact ⟨k+1,by omega,by go_num,(by rw [HNBe.out];exact HQ2),hb7⟩
       case measure=>simp [intOf];omega
    ·have HD:Hid (wantL (needsF a.lies a.flanks) (needsF b.lies b.flanks)=false):=by
      unfold Hid
      rw [HNAe.out]
      exact any_none (fun i hi=>HQ.out i hi (by omega))
     clear HQ
     have x5:wr.cell? ⟨w.heap.size,5,none⟩=some (.slice d.a3 a.parts.length d.c3):=(HA.out.below hbF).k5
     have x6:wr.cell? ⟨w.heap.size,6,none⟩=some (.slice d.a4 a.over.length d.c4):=(HA.out.below hbF).k6
     have y5:wr.cell? ⟨(w.heap.size+1),5,none⟩=some (.slice d'.a3 b.parts.length d'.c3):=(HB.out.below hbF).k5
     have y6:wr.cell? ⟨(w.heap.size+1),6,none⟩=some (.slice d'.a4 b.over.length d'.c4):=(HB.out.below hbF).k6
     go_wp2_with fail
     refine (l3touch_any _ _ _ _ _ _ _ (LA.out.below hbF).over (LB.out.below hbF).parts).mono ?_
     rintro e w5 ⟨rfl,hb5⟩
     have hb6:=hbF.trans (hb5.mono hbF.size)
     replace x5:=cell_later hb5 x5
     replace y6:=cell_later hb5 y6
     have hbs6:=hb6.size
     have hz4:w.heap.size+1<w5.heap.size:=by omega
     have hz5:w.heap.size<w5.heap.size:=by omega
     clear hb5 x6 y5 hz2 hz3
     cases t4:touchL a.over b.parts
     rotate_left
     ·have HX:=hidP (exclF_4 HT.out HC.out HD.out (Or.inl t4))
      clear t4
      go_wp2_with fail
      go_ret
      exact ⟨ret_int HX.out.symm,hbW.trans (hb6.mono hbW.size)⟩
     cases t5:touchL a.parts b.over
     ·have HX:=hidP (exclF_0 HT.out HC.out HD.out t4 t5)
      have T5:=hidP t5
      clear t4 t5
      go_wp2_with (go_at_call 93;refine (l3touch_any _ _ _ _ _ _ _ (LA.out.below hb6).parts (LB.out.below hb6).over).mono ?_;rintro e w6 ⟨rfl,hb7⟩;rw [T5.out])
      go_ret
      exact ⟨ret_int HX.out.symm,hbW.trans ((hb6.trans (hb7.mono hb6.size)).mono hbW.size)⟩
     ·have HX:=hidP (exclF_4 HT.out HC.out HD.out (Or.inr t5))
      have T5:=hidP t5
      clear t4 t5
      go_wp2_with (go_at_call 93;refine (l3touch_any _ _ _ _ _ _ _ (LA.out.below hb6).parts (LB.out.below hb6).over).mono ?_;rintro e w6 ⟨rfl,hb7⟩;rw [T5.out])
      go_ret
      exact ⟨ret_int HX.out.symm,hbW.trans ((hb6.trans (hb7.mono hb6.size)).mono hbW.size)⟩
theorem row_of_alloc (w:World)(c:Array Value)(T:Nat):(w.alloc (.cells c T)).rowIs w.heap.size T c.size (fun j=>c.getD j (.bool false)):=
 World.rowIs_alloc w c T _ (by intro k hk;simp [Array.getD,hk])
end Go.Proofs.YtmkdgnmmebldgaaGreatDoor
