import Derived.Test.YtmkdgnmmebldgaaGreatDoorPt50
import Derived.Laws.IdiomStrings
set_option maxRecDepth 100000
set_option maxHeartbeats 8000000
namespace Go.Proofs.YtmkdgnmmebldgaaGreatDoor
open Go.RowKit Go.Deep
def sgnB (n:Int):ByteArray:=ByteArray.empty.push (UInt8.ofNat n.toNat)
theorem sgnB_size (n:Int):(sgnB n).size=1:=rfl
theorem conv_sgnB (w:World)(n:Int):
  (convert 22 9 (.slice (some ⟨w.heap.size,0,none⟩) 1 1)).run Tryz.prog (w.alloc (.cells #[.int .u8 n] 5)) = .ok (.string (sgnB n)) (w.alloc (.cells #[.int .u8 n] 5)):=by
 rw [run_convert_bytes_string _ _ _ 5 _ _ _ Tryz.underlying22 Tryz.underlying5 Tryz.underlying9]
 have hl:=run_loadCells_list (P:=Tryz.prog) (w.alloc (.cells #[.int .u8 n] 5)) ⟨w.heap.size,0,none⟩ ([n].map (Value.int .u8)) (fun j v hj=>by
  match j,hj with
  | 0,hj=>simp at hj;subst hj;simp [Addr.add,go_sem])
 exact run_bytesToString _ _ 1 1 [n] hl
theorem cat0 (x:UInt8)(s:ByteArray):((⟨#[x]⟩:ByteArray)++s).data.toList=[x]++s.data.toList:=by simp
def digs (m:Nat):List UInt8:=if m=0 then [] else Lib.decDigits m
theorem digs_step {m:Nat}(h:0<m):digs m=digs (m / 10)++[UInt8.ofNat (48+m % 10)]:=by
 unfold digs
 rw [if_neg (by omega)]
 rw [Lib.decDigits]
 by_cases h1:m<10
 ·rw [dif_pos h1,if_pos (by omega),Nat.mod_eq_of_lt h1]
  rfl
 ·rw [dif_neg h1,if_neg (by omega)]
theorem decimalT_any (k:Nat)(w:World)(h1:k≤1000):
  Calls Tryz.prog 55 #[.int .i64 k] w fun e w'=>(∃ s:ByteArray,e = .returned (.string s)∧s.data.toList=Lib.itoa k)∧Below w.heap.size w w':=by
 have HI:Hid (Lib.itoa (k:Int)=Lib.decDigits k):=by
  unfold Hid Lib.itoa
  rw [if_neg (by omega)]
  simp
 by_cases hk:k=0
 ·subst hk
  go_enter Tryz.func55,Tryz.ntmps55
  go_wp2_with fail
  go_ret
  exact ⟨⟨_,rfl,by rw [HI.out];decide +kernel⟩,Below.refl _ _⟩
 ·have hk1:((k:Int)==0)=false:=by simp;omega
  have hk2:¬ (k:Int)<0:=by omega
  have HD:Hid (digs k++(⟨#[]⟩:ByteArray).data.toList=Lib.decDigits k):=by unfold Hid digs;rw [if_neg hk];simp
  go_enter Tryz.func55,Tryz.ntmps55
  go_wp2_with fail
  go_loopw [0,4] (fun kk o wr => ∃ (m:Nat) (s:ByteArray),kk = .int .i64 m∧o = .string s∧m≤1000∧s.size+m≤1000∧Hid (digs m++s.data.toList=Lib.decDigits k)∧Below w.heap.size w wr) (fun kk _ _=>(intOf kk).toNat)
  case atStart=>exact ⟨k,_,rfl,rfl,h1,by show 0+k≤1000;omega,HD,Below.refl _ _⟩
  case round =>
   obtain ⟨m,s,rfl,rfl,hm0,hm1,HM,hb⟩:=hrel
   by_cases hm:0<m
   ·have hmI:(0:Int)<m:=by omega
    have hcv:=conv_sgnB
    have hsz:=sgnB_size
    have e1:(m:Int).tmod 10=((m % 10:Nat):Int):=by rw [Int.tmod_eq_emod_of_nonneg (by omega)];omega
    have e2:(m:Int).tdiv 10=((m / 10:Nat):Int):=by rw [Int.tdiv_eq_ediv_of_nonneg (by omega)];omega
    have HS:=hidP (digs_step hm)
    clear e1 e2
    go_wp2_with fail
    go_roundw
    case rel =>
     have hbs:=hb.size
     refine ⟨m / 10,_,congrArg (Value.int .i64) (by omega),rfl,by omega,?_,?_,blo⟩
     ·have h2:=sgnB_size (48+(m:Int) % 10)
      simp only [ByteArray.size_append,h2]
      omega
     ·have h3:(sgnB (48+(m:Int) % 10)++s).data.toList=[UInt8.ofNat (48+m % 10)]++s.data.toList:=by
       have h4:(48+(m:Int) % 10).toNat=48+m % 10:=by omega
       have h5:sgnB (48+(m:Int) % 10)=⟨#[UInt8.ofNat (48+m % 10)]⟩:=by unfold sgnB;rw [h4];rfl
       rw [h5]
       exact cat0 _ s
      unfold Hid
      rw [h3,← List.append_assoc,← HS.out]
      exact HM.out
    case measure=>simp [intOf];omega
   ·have hm0':m=0:=by omega
    subst hm0'
    go_wp2_with fail
    go_ret
    exact ⟨⟨_,rfl,by rw [HI.out];exact HM.out⟩,hb⟩
section
variable {ps:List MPiece} {js:List MJoint} {ss:List MPiece}
theorem cat3 (nm:ByteArray)(x:UInt8):((⟨#[32]⟩:ByteArray)++nm++⟨#[x]⟩).data.toList=32::(nm.data.toList++[x]):=by simp
theorem l4lie_any (pa ja:Option Addr)(pn pc jc:Nat)(s:MLie)(w:World)(hj:Hid (JointsAt w ja js))(N:Hid (Short20 ps js ss))(hs:∃ j:Nat,j<js.length∧s.piece=j∧(s.side=1∨s.side=2)):
  Calls Tryz.prog 101 #[.agg #[.slice pa pn pc,.slice ja js.length jc],.agg #[.int .i64 s.piece,.int .i64 s.side]] w fun e w'=>(∃ t:ByteArray,e = .returned (.string t)∧t.data.toList=32::lieT js s)∧Below w.heap.size w w':=by
 obtain ⟨p,sd⟩:=s
 obtain ⟨i,hi,e1,e2⟩:=hs
 simp only at e1 e2
 subst e1
 have hsz:=N.out.j i hi
 have HE:Hid (lieT js ⟨i,sd⟩=js[i].name.data.toList++[if sd=1 then 60 else 62]):=by unfold Hid lieT;rw [nmJ_at hi]
 have hl:=hj.out.1
 unfold maxLen at hl
 obtain ⟨b,off,ha,hc⟩:=JointCells.name hj.out hi
 subst ha
 generalize js[i].name=nm at hsz HE hc
 generalize js.length=n at hi hl
 have hiI:(i:Int)<n:=by omega
 clear hj
 go_enter Tryz.func101,Tryz.ntmps101
 go_upto_region 1 with fail
 generalize hW:World.alloc (World.alloc w _) _=W
 have hbW:Below w.heap.size w W:=by rw [← hW];exact blo
 have e0:W.cell? ⟨w.heap.size,1,none⟩=some (.slice (some ⟨b,off,none⟩) n jc):=by rw [← hW];simp [go_sem]
 have x0:W.cell? ⟨w.heap.size+1,0,none⟩=some (.int .i64 i):=by rw [← hW];simp [go_sem]
 have x1:W.cell? ⟨w.heap.size+1,1,none⟩=some (.int .i64 sd):=by rw [← hW];simp [go_sem]
 replace hc:=cell_later hbW hc
 have HB:=hidP hbW
 clear hW hbW
 generalize w.heap.size=X at e0 x0 x1 ⊢
 obtain ⟨S,hS⟩:∃ S:World→Prop,∀ u,S u↔Below W.heap.size W u:=⟨_,fun _=>Iff.rfl⟩
 have HS0:=hidP hS
 have q0:∀ u:Held S,World.cell? u.val ⟨X,1,none⟩=some (.slice (some ⟨b,off,none⟩) n jc):=fun u=>cell_later ((hS u.val).1 u.2) e0
 have q1:∀ u:Held S,World.cell? u.val ⟨X+1,0,none⟩=some (.int .i64 i):=fun u=>cell_later ((hS u.val).1 u.2) x0
 have q2:∀ u:Held S,World.cell? u.val ⟨X+1,1,none⟩=some (.int .i64 sd):=fun u=>cell_later ((hS u.val).1 u.2) x1
 have q3:∀ u:Held S,World.cell? u.val ⟨b,off+i*3+1,none⟩=some (.string nm):=fun u=>cell_later ((hS u.val).1 u.2) hc
 have hS1:S W.drew:=(hS _).2 ((Below.refl _ _).drew)
 have hne:=held_ne hS1
 clear hS e0 x0 x1 hc
 have hz32:(ByteArray.mk #[32]).size=1:=rfl
 have hz60:(ByteArray.mk #[60]).size=1:=rfl
 have hz62:(ByteArray.mk #[62]).size=1:=rfl
 rcases e2 with rfl | rfl
 ·refine wp_region_treeV 17 (fun w' => ∃ u:Held S,w'=u.val) 13 (by kernel_rfl) (by kernel_rfl) (held_some hS1) ?_
  (refine wpV_see 0 (by rfl) (by kernel_rfl) (by kernel_rfl) ?_;intro K hK;go_big_quiet_op;go_big_quiet_on);(refine wpV_see 1 (by rfl) (by kernel_rfl) (by kernel_rfl) ?_;intro K hK;go_big_quiet_op;go_big_quiet_on);(refine wpV_see 2 (by rfl) (by kernel_rfl) (by kernel_rfl) ?_;intro K hK;go_big_quiet_op;go_big_quiet_on);(refine wpV_see 3 (by rfl) (by kernel_rfl) (by kernel_rfl) ?_;intro K hK;go_big_quiet_op;go_big_quiet_on);(refine wpV_see 4 (by rfl) (by kernel_rfl) (by kernel_rfl) ?_;intro K hK;go_big_quiet_op;go_big_quiet_on);(refine wpV_see 5 (by rfl) (by kernel_rfl) (by kernel_rfl) ?_;intro K hK;go_big_quiet_op;go_big_quiet_on);(refine wpV_see 6 (by rfl) (by kernel_rfl) (by kernel_rfl) ?_;intro K hK;go_big_quiet_op;go_big_quiet_on);(refine wpV_see 7 (by rfl) (by kernel_rfl) (by kernel_rfl) ?_;intro K hK;go_big_quiet_op;go_big_quiet_on)
  (refine wpV_see 9 (by rfl) (by kernel_rfl) (by kernel_rfl) ?_;intro K hK;go_big_quiet_op;go_big_quiet_on);(refine wpV_see 10 (by rfl) (by kernel_rfl) (by kernel_rfl) ?_;intro K hK;go_big_quiet_op;go_big_quiet_on)
  refine wpV_loud 8 (by rfl) (by kernel_rfl) (by kernel_rfl) ?_
  intro K hK
  go_wp2_with fail
  generalize hV:World.drew (World.alloc _ _)=V
  have hbV:Below W.heap.size W V:=by rw [← hV];exact ((Below.refl _ _).alloc (Nat.le_refl _) _).drew
  have v0:V.cell? ⟨W.heap.size,1,none⟩=some (.string ⟨#[60]⟩):=by rw [← hV];simp [go_sem]
  refine hK _ _ (held_some ((HS0.out _).2 hbV)) ?_
  clear hK K hV
  (refine wpV_see 11 (by rfl) (by kernel_rfl) (by kernel_rfl) ?_;intro K hK;go_big_quiet_op;go_big_quiet_on)
  refine wpV_loud 12 (by rfl) (by kernel_rfl) (by kernel_rfl) ?_
  intro K hK
  go_wp2_with fail
  refine hK _ _ (held_some ((HS0.out _).2 hbV)) ?_
  clear hK K
  refine wpV_done (by kernel_rfl) ?_
  clear q0 q1 q2 q3 hS1 hne v0
  go_wp2_with fail
  go_ret
  exact ⟨⟨_,rfl,by rw [HE.out];exact cat3 nm 60⟩,HB.out.trans (hbV.mono HB.out.size)⟩
 ·refine wp_region_treeV 17 (fun w' => ∃ u:Held S,w'=u.val) 13 (by kernel_rfl) (by kernel_rfl) (held_some hS1) ?_
  (refine wpV_see 0 (by rfl) (by kernel_rfl) (by kernel_rfl) ?_;intro K hK;go_big_quiet_op;go_big_quiet_on);(refine wpV_see 1 (by rfl) (by kernel_rfl) (by kernel_rfl) ?_;intro K hK;go_big_quiet_op;go_big_quiet_on);(refine wpV_see 2 (by rfl) (by kernel_rfl) (by kernel_rfl) ?_;intro K hK;go_big_quiet_op;go_big_quiet_on);(refine wpV_see 3 (by rfl) (by kernel_rfl) (by kernel_rfl) ?_;intro K hK;go_big_quiet_op;go_big_quiet_on);(refine wpV_see 4 (by rfl) (by kernel_rfl) (by kernel_rfl) ?_;intro K hK;go_big_quiet_op;go_big_quiet_on);(refine wpV_see 5 (by rfl) (by kernel_rfl) (by kernel_rfl) ?_;intro K hK;go_big_quiet_op;go_big_quiet_on);(refine wpV_see 6 (by rfl) (by kernel_rfl) (by kernel_rfl) ?_;intro K hK;go_big_quiet_op;go_big_quiet_on);(refine wpV_see 7 (by rfl) (by kernel_rfl) (by kernel_rfl) ?_;intro K hK;go_big_quiet_op;go_big_quiet_on)
  (refine wpV_see 9 (by rfl) (by kernel_rfl) (by kernel_rfl) ?_;intro K hK;go_big_quiet_op;go_big_quiet_on);(refine wpV_see 10 (by rfl) (by kernel_rfl) (by kernel_rfl) ?_;intro K hK;go_big_quiet_op;go_big_quiet_on)
  refine wpV_loud 8 (by rfl) (by kernel_rfl) (by kernel_rfl) ?_
  intro K hK
  go_wp2_with fail
  generalize hV:World.drew (World.alloc _ _)=V
  have hbV:Below W.heap.size W V:=by rw [← hV];exact ((Below.refl _ _).alloc (Nat.le_refl _) _).drew
  have v0:V.cell? ⟨W.heap.size,2,none⟩=some (.string ⟨#[62]⟩):=by rw [← hV];simp [go_sem]
  refine hK _ _ (held_some ((HS0.out _).2 hbV)) ?_
  clear hK K hV
  (refine wpV_see 11 (by rfl) (by kernel_rfl) (by kernel_rfl) ?_;intro K hK;go_big_quiet_op;go_big_quiet_on)
  refine wpV_loud 12 (by rfl) (by kernel_rfl) (by kernel_rfl) ?_
  intro K hK
  go_wp2_with fail
  refine hK _ _ (held_some ((HS0.out _).2 hbV)) ?_
  clear hK K
  refine wpV_done (by kernel_rfl) ?_
  clear q0 q1 q2 q3 hS1 hne v0
  go_wp2_with fail
  go_ret
  exact ⟨⟨_,rfl,by rw [HE.out];exact cat3 nm 62⟩,HB.out.trans (hbV.mono HB.out.size)⟩
end
section
variable {ps:List MPiece} {js:List MJoint} {ss:List MPiece}
theorem catL (s t:ByteArray):(s++t).data.toList=s.data.toList++t.data.toList:=by simp
def beginT (ss:List MPiece)(r:MRoute):List UInt8:=nmP ss r.start++([32,45,62,32]++(goalT ss r.stop++[32,58]))
def lineS (ps:List MPiece)(js:List MJoint)(ss:List MPiece)(r:MRoute):List UInt8:=
 beginT ss r++stepsT ps r.steps++wLies r.lies++liesT js r.lies++wFlanks r.flanks++flanksT js ss r.flanks++[10]
theorem lineS_line (i:Int)(r:MRoute):lineT ps js ss i r=Lib.itoa i++([32]++lineS ps js ss r):=by
 simp only [lineT,lineS,headT,beginT,List.append_assoc]
theorem size_of {s:ByteArray}{l:List UInt8}(h:s.data.toList=l):s.size=l.length:=by rw [← h];rfl
theorem l4line_any (pa ja sa:Option Addr)(pc jc sc:Nat)(d:RAddr)(r:MRoute)(w:World)(hp:Hid (PiecesAt w pa ps))(hj:Hid (JointsAt w ja js))(hs:Hid (PiecesAt w sa ss))(hr:Hid (RListsAt w d r))(N:Hid (Short20 ps js ss))(hok:Hid (LnOk ps js ss r)):
  Calls Tryz.prog 56 #[.agg #[.slice pa ps.length pc,.slice ja js.length jc],.slice sa ss.length sc,routeV d r] w fun e w'=>(∃ t:ByteArray,e = .returned (.string t)∧t.data.toList=lineS ps js ss r)∧Below w.heap.size w w':=by
 obtain ⟨a0,g0,a1,g1,a2,g2,a3,g3,a4,g4,a5,g5⟩:=d
 unfold routeV
 dsimp only
 have hsl:=hs.out.1
 have hpl:=hp.out.1
 unfold maxLen at hsl hpl
 obtain ⟨st,hst,est⟩:=hok.out.start
 go_enter Tryz.func56,Tryz.ntmps56
 go_upto_region 1 with fail
 generalize hW:World.alloc (World.alloc w _) _=W
 have hbW:Below w.heap.size w W:=by rw [← hW];exact blo
 have e0:W.cell? ⟨w.heap.size,0,none⟩=some (.slice pa ps.length pc):=by rw [← hW];simp [go_sem]
 have e1:W.cell? ⟨w.heap.size,1,none⟩=some (.slice ja js.length jc):=by rw [← hW];simp [go_sem]
 have r0:W.cell? ⟨w.heap.size+1,0,none⟩=some (.int .i64 st):=by rw [← hW,← est];simp [go_sem]
 have r1:W.cell? ⟨w.heap.size+1,1,none⟩=some (.int .i64 r.stop):=by rw [← hW];simp [go_sem]
 have r2:W.cell? ⟨w.heap.size+1,2,none⟩=some (.slice a0 r.steps.length g0):=by rw [← hW];simp [go_sem]
 have r3:W.cell? ⟨w.heap.size+1,3,none⟩=some (.slice a1 r.lies.length g1):=by rw [← hW];simp [go_sem]
 have r7:W.cell? ⟨w.heap.size+1,7,none⟩=some (.slice a5 r.flanks.length g5):=by rw [← hW];simp [go_sem]
 clear hW
 have HB:=hidP hbW
 have HP:=hidQ (hp.out.below hbW)
 have HJ:=hidQ (hj.out.below hbW)
 have HS:=hidQ (hs.out.below hbW)
 have HR:=hidQ (hr.out.below hbW)
 have R2:=hidP r2
 have R3:=hidP r3
 have R7:=hidP r7
 have E0:=hidP e0
 have E1:=hidP e1
 clear hp hj hs hr hbW r2 r3 r7 e0 e1
 obtain ⟨sb,so,hsa,hsc⟩:=PieceCells.name HS.out hst
 have HNM:Hid (nmP ss r.start=ss[st].name.data.toList):=by unfold Hid;rw [est];exact nmP_at hst
 have hnz:=N.out.s st hst
 subst hsa
 generalize ss[st].name=nm at hsc HNM hnz
 generalize w.heap.size=X at r0 r1 R2 R3 R7 E0 E1 ⊢
 obtain ⟨q,hq⟩:∃ q,ss.length=q:=⟨_,rfl⟩
 have HQ:=hidP hq
 rw [hq] at hst hsl ⊢
 clear hq est
 have hstI:(st:Int)<q:=by omega
 have hz4:(ByteArray.mk #[32,45,62,32]).size=4:=rfl
 have hz6:(ByteArray.mk #[98,117,102,102,101,114]).size=6:=rfl
 go_upto_if 23 with fail
 go_cut [7] (fun v wx => ∃ s:ByteArray,v = .string s∧Hid (s.data.toList=nmP ss r.start++([32,45,62,32]++goalT ss r.stop))∧s.size≤100∧wx=W)
 case first =>
  rcases hok.out.stop with hsp | ⟨i,hi,hsp⟩
  ·have f0:r.stop<0:=by omega
   have f1:decide (r.stop<0)=true:=by simp;omega
   go_wp2_with fail
   go_meet
   refine ⟨_,rfl,?_,?_,rfl⟩
   ·unfold Hid
    rw [catL,catL,HNM.out,hsp]
    simp [goalT,bufT]
   ·simp only [ByteArray.size_append]
    omega
  ·have f0:¬ r.stop<0:=by omega
   have f1:decide (r.stop<0)=false:=by simp;omega
   rw [hsp] at r1
   obtain ⟨sb2,so2,hsa2,hsc2⟩:=PieceCells.name HS.out hi
   cases hsa2
   have HNM2:Hid (goalT ss r.stop=ss[i].name.data.toList):=by unfold Hid;rw [hsp];unfold goalT;rw [if_neg (by omega)];exact nmP_at hi
   have hnz2:=N.out.s i hi
   generalize ss[i].name=nm2 at hsc2 HNM2 hnz2
   rw [HQ.out] at hi
   have hiI:(i:Int)<q:=by omega
   clear hsp
   go_wp2_with fail
   go_meet
   refine ⟨_,rfl,?_,?_,rfl⟩
   ·unfold Hid
    rw [catL,catL,HNM.out,HNM2.out]
    simp
   ·simp only [ByteArray.size_append]
    omega
 case rest =>
  obtain ⟨s1,rfl,HS1,hs1,hwc⟩:=hcut
  subst hwc
  obtain ⟨W,hwA⟩:∃ u,u=wc:=⟨_,rfl⟩
  subst hwA
  have hz2:(ByteArray.mk #[32,58]).size=2:=rfl
  obtain ⟨n1,hn1⟩:∃ n,r.steps.length=n:=⟨_,rfl⟩
  obtain ⟨n2,hn2⟩:∃ n,r.lies.length=n:=⟨_,rfl⟩
  obtain ⟨n3,hn3⟩:∃ n,r.flanks.length=n:=⟨_,rfl⟩
  rw [hn1] at R2
  rw [hn2] at R3
  rw [hn3] at R7
  have HN1:=hidP hn1
  have HN2:=hidP hn2
  have HN3:=hidP hn3
  have hm1:n1≤202:=by rw [← hn1];exact hok.out.n1
  have hm2:n2≤120:=by rw [← hn2];exact hok.out.n2
  have hm3:n3≤24000:=by rw [← hn3];exact hok.out.n3
  have r2:=R2.out
  have HT0:Hid ((s1++⟨#[32,58]⟩).data.toList=beginT ss r++stepsT ps (r.steps.take 0)):=by
   unfold Hid
   rw [catL,HS1.out]
   simp [beginT,stepsT]
  have HLB:Hid ((beginT ss r).length≤102):=by
   have h:=size_of HT0.out
   simp only [List.take_zero,stepsT,List.flatMap_nil,List.append_nil] at h
   rw [ByteArray.size_append] at h
   unfold Hid
   omega
  clear hn1 hn2 hn3 r0 r1 hsc
  go_wp2_with fail
  clear r2
  go_loopw [7,39] (fun o c wr => ∃ (k:Nat) (s:ByteArray),k≤n1∧o = .string s∧c = .int .i64 k∧Hid (s.data.toList=beginT ss r++stepsT ps (r.steps.take k))∧Hid (Below W.heap.size W wr)) (fun _ c _=>n1-(intOf c).toNat)
  case atStart=>exact ⟨0,_,Nat.zero_le _,rfl,rfl,HT0,Below.refl _ _⟩
  case round =>
   obtain ⟨k,s,hk,rfl,rfl,HTk,HBr⟩:=hrel
   clear HT0
   by_cases hk':k<n1
   ·have hki:(k:Int)<n1:=by omega
    have hkl:k<r.steps.length:=by rw [HN1.out];exact hk'
    have hss:s.size≤10000:=by
     have h:=size_of HTk.out
     have h2:=stepsT_le N.out (r.steps.take k)
     have h3:=HLB.out
     rw [List.length_take] at h2
     rw [List.length_append] at h
     omega
    obtain ⟨b,o,ha,hc⟩:=(HR.out.below HBr.out).steps.2.resolve_left (fun e=>by rw [e] at hkl;exact absurd hkl (Nat.not_lt_zero _))
    simp only at ha
    subst ha
    obtain ⟨cx0,cx1⟩:=hc k hkl
    have HON:=hidP (stepsT_on (ps:=ps) hkl)
    obtain ⟨i,hi,ei,esd⟩:=hok.out.steps _ (List.getElem_mem hkl)
    obtain ⟨pb,po,hpa,hpc⟩:=PieceCells.name (HP.out.below HBr.out) hi
    subst hpa
    have HST:Hid (stepT ps r.steps[k]=ps[i].name.data.toList++[if r.steps[k].side=1 then 43 else 45]):=by unfold Hid stepT;rw [ei,nmP_at hi]
    rw [HST.out] at HON
    have hpz:=N.out.p i hi
    rw [ei] at cx0
    generalize ps[i].name=pn at hpc HON hpz
    generalize r.steps[k].side=sd at cx1 HON esd
    have e0:=cell_later HBr.out E0.out
    clear hc hkl HST ei
    go_upto_region 9 with fail
    generalize hW3:World.alloc wr _=W3
    have hb3:Below wr.heap.size wr W3:=by rw [← hW3];exact blo
    have z0:W3.cell? ⟨wr.heap.size,0,none⟩=some (.int .i64 i):=by rw [← hW3];simp [go_sem]
    have z1:W3.cell? ⟨wr.heap.size,1,none⟩=some (.int .i64 sd):=by rw [← hW3];simp [go_sem]
    replace e0:=cell_later hb3 e0
    replace hpc:=cell_later hb3 hpc
    have HB3:Hid (Below W.heap.size W W3):=HBr.out.trans (hb3.mono HBr.out.size)
    generalize wr.heap.size=Z at z0 z1 ⊢
    clear hW3 hb3 cx0 cx1 HBr
    obtain ⟨m,hm⟩:∃ m,ps.length=m:=⟨_,rfl⟩
    rw [hm] at e0 hi hpl
    clear hm
    have hiI:(i:Int)<m:=by omega
    obtain ⟨S,hS⟩:∃ S:World→Prop,∀ u,S u↔Below W3.heap.size W3 u:=⟨_,fun _=>Iff.rfl⟩
    have HS0:=hidP hS
    have q0:∀ u:Held S,World.cell? u.val ⟨X,0,none⟩=some (.slice (some ⟨pb,po,none⟩) m pc):=fun u=>cell_later ((hS u.val).1 u.2) e0
    have q1:∀ u:Held S,World.cell? u.val ⟨Z,0,none⟩=some (.int .i64 i):=fun u=>cell_later ((hS u.val).1 u.2) z0
    have q2:∀ u:Held S,World.cell? u.val ⟨Z,1,none⟩=some (.int .i64 sd):=fun u=>cell_later ((hS u.val).1 u.2) z1
    have q3:∀ u:Held S,World.cell? u.val ⟨pb,po+i*4,none⟩=some (.string pn):=fun u=>cell_later ((hS u.val).1 u.2) hpc
    have hS1:S W3.drew:=(hS _).2 ((Below.refl _ _).drew)
    have hne:=held_ne hS1
    clear hS e0 z0 z1 hpc
    have hz32:(ByteArray.mk #[32]).size=1:=rfl
    have hz43:(ByteArray.mk #[43]).size=1:=rfl
    have hz45:(ByteArray.mk #[45]).size=1:=rfl
    rcases esd with rfl | rfl
    ·rw [if_pos rfl] at HON
     refine wp_region_treeV 57 (fun w' => ∃ u:Held S,w'=u.val) 16 (by kernel_rfl) (by kernel_rfl) (held_some hS1) ?_
     (refine wpV_see 0 (by rfl) (by kernel_rfl) (by kernel_rfl) ?_;intro K hK;go_big_quiet_op;go_big_quiet_on);(refine wpV_see 1 (by rfl) (by kernel_rfl) (by kernel_rfl) ?_;intro K hK;go_big_quiet_op;go_big_quiet_on);(refine wpV_see 2 (by rfl) (by kernel_rfl) (by kernel_rfl) ?_;intro K hK;go_big_quiet_op;go_big_quiet_on);(refine wpV_see 3 (by rfl) (by kernel_rfl) (by kernel_rfl) ?_;intro K hK;go_big_quiet_op;go_big_quiet_on);(refine wpV_see 4 (by rfl) (by kernel_rfl) (by kernel_rfl) ?_;intro K hK;go_big_quiet_op;go_big_quiet_on);(refine wpV_see 5 (by rfl) (by kernel_rfl) (by kernel_rfl) ?_;intro K hK;go_big_quiet_op;go_big_quiet_on);(refine wpV_see 6 (by rfl) (by kernel_rfl) (by kernel_rfl) ?_;intro K hK;go_big_quiet_op;go_big_quiet_on);(refine wpV_see 7 (by rfl) (by kernel_rfl) (by kernel_rfl) ?_;intro K hK;go_big_quiet_op;go_big_quiet_on);(refine wpV_see 8 (by rfl) (by kernel_rfl) (by kernel_rfl) ?_;intro K hK;go_big_quiet_op;go_big_quiet_on)
     (refine wpV_see 10 (by rfl) (by kernel_rfl) (by kernel_rfl) ?_;intro K hK;go_big_quiet_op;go_big_quiet_on);(refine wpV_see 11 (by rfl) (by kernel_rfl) (by kernel_rfl) ?_;intro K hK;go_big_quiet_op;go_big_quiet_on);(refine wpV_see 12 (by rfl) (by kernel_rfl) (by kernel_rfl) ?_;intro K hK;go_big_quiet_op;go_big_quiet_on)
     refine wpV_loud 9 (by rfl) (by kernel_rfl) (by kernel_rfl) ?_
     intro K hK
     go_wp2_with fail
     generalize hV:World.drew (World.alloc _ _)=V
     have hbV:Below W3.heap.size W3 V:=by rw [← hV];exact ((Below.refl _ _).alloc (Nat.le_refl _) _).drew
     have v0:V.cell? ⟨W3.heap.size,2,none⟩=some (.string ⟨#[43]⟩):=by rw [← hV];simp [go_sem]
     refine hK _ _ (held_some ((HS0.out _).2 hbV)) ?_
     clear hK K hV
     (refine wpV_see 13 (by rfl) (by kernel_rfl) (by kernel_rfl) ?_;intro K hK;go_big_quiet_op;go_big_quiet_on)
     refine wpV_loud 14 (by rfl) (by kernel_rfl) (by kernel_rfl) ?_
     intro K hK
     go_wp2_with fail
     refine hK _ _ (held_some ((HS0.out _).2 hbV)) ?_
     clear hK K
     (refine wpV_see 15 (by rfl) (by kernel_rfl) (by kernel_rfl) ?_;intro K hK;go_big_quiet_op;go_big_quiet_on)
     refine wpV_done (by kernel_rfl) ?_
     have HB4:Hid (Below W.heap.size W V):=HB3.out.trans (hbV.mono HB3.out.size)
     clear q0 q1 q2 q3 hS1 hne v0 hbV
     go_wp2_with fail
     go_roundw
     case rel=>exact ⟨k+1,_,by omega,rfl,by go_num,by unfold Hid;rw [HON.out,catL,HTk.out,cat3,List.append_assoc],HB4⟩
     case measure=>simp [intOf];omega
    ·rw [if_neg (by decide)] at HON
     refine wp_region_treeV 57 (fun w' => ∃ u:Held S,w'=u.val) 16 (by kernel_rfl) (by kernel_rfl) (held_some hS1) ?_
     (refine wpV_see 0 (by rfl) (by kernel_rfl) (by kernel_rfl) ?_;intro K hK;go_big_quiet_op;go_big_quiet_on);(refine wpV_see 1 (by rfl) (by kernel_rfl) (by kernel_rfl) ?_;intro K hK;go_big_quiet_op;go_big_quiet_on);(refine wpV_see 2 (by rfl) (by kernel_rfl) (by kernel_rfl) ?_;intro K hK;go_big_quiet_op;go_big_quiet_on);(refine wpV_see 3 (by rfl) (by kernel_rfl) (by kernel_rfl) ?_;intro K hK;go_big_quiet_op;go_big_quiet_on);(refine wpV_see 4 (by rfl) (by kernel_rfl) (by kernel_rfl) ?_;intro K hK;go_big_quiet_op;go_big_quiet_on);(refine wpV_see 5 (by rfl) (by kernel_rfl) (by kernel_rfl) ?_;intro K hK;go_big_quiet_op;go_big_quiet_on);(refine wpV_see 6 (by rfl) (by kernel_rfl) (by kernel_rfl) ?_;intro K hK;go_big_quiet_op;go_big_quiet_on);(refine wpV_see 7 (by rfl) (by kernel_rfl) (by kernel_rfl) ?_;intro K hK;go_big_quiet_op;go_big_quiet_on);(refine wpV_see 8 (by rfl) (by kernel_rfl) (by kernel_rfl) ?_;intro K hK;go_big_quiet_op;go_big_quiet_on)
     (refine wpV_see 10 (by rfl) (by kernel_rfl) (by kernel_rfl) ?_;intro K hK;go_big_quiet_op;go_big_quiet_on);(refine wpV_see 11 (by rfl) (by kernel_rfl) (by kernel_rfl) ?_;intro K hK;go_big_quiet_op;go_big_quiet_on);(refine wpV_see 12 (by rfl) (by kernel_rfl) (by kernel_rfl) ?_;intro K hK;go_big_quiet_op;go_big_quiet_on)
     refine wpV_loud 9 (by rfl) (by kernel_rfl) (by kernel_rfl) ?_
     intro K hK
     go_wp2_with fail
     generalize hV:World.drew (World.alloc _ _)=V
     have hbV:Below W3.heap.size W3 V:=by rw [← hV];exact ((Below.refl _ _).alloc (Nat.le_refl _) _).drew
     have v0:V.cell? ⟨W3.heap.size,0,none⟩=some (.string ⟨#[45]⟩):=by rw [← hV];simp [go_sem]
     refine hK _ _ (held_some ((HS0.out _).2 hbV)) ?_
     clear hK K hV
     (refine wpV_see 13 (by rfl) (by kernel_rfl) (by kernel_rfl) ?_;intro K hK;go_big_quiet_op;go_big_quiet_on)
     refine wpV_loud 14 (by rfl) (by kernel_rfl) (by kernel_rfl) ?_
     intro K hK
     go_wp2_with fail
     refine hK _ _ (held_some ((HS0.out _).2 hbV)) ?_
     clear hK K
     (refine wpV_see 15 (by rfl) (by kernel_rfl) (by kernel_rfl) ?_;intro K hK;go_big_quiet_op;go_big_quiet_on)
     refine wpV_done (by kernel_rfl) ?_
     have HB4:Hid (Below W.heap.size W V):=HB3.out.trans (hbV.mono HB3.out.size)
     clear q0 q1 q2 q3 hS1 hne v0 hbV
     go_wp2_with fail
     go_roundw
     case rel=>exact ⟨k+1,_,by omega,rfl,by go_num,by unfold Hid;rw [HON.out,catL,HTk.out,cat3,List.append_assoc],HB4⟩
     case measure=>simp [intOf];omega
   ·have hki:¬ (k:Int)<n1:=by omega
    have HT1:Hid (s.data.toList=beginT ss r++stepsT ps r.steps):=by
     unfold Hid;rw [HTk.out,List.take_of_length_le (by rw [HN1.out];omega)]
    have HL1:Hid ((beginT ss r++stepsT ps r.steps).length≤10000):=by
     have h2:=stepsT_le N.out r.steps
     have h3:=HLB.out
     have h4:=HN1.out
     unfold Hid
     rw [List.length_append]
     omega
    obtain ⟨P1,hP1⟩:∃ P,beginT ss r++stepsT ps r.steps=P:=⟨_,rfl⟩
    have HP1:=hidP hP1
    rw [hP1] at HT1 HL1
    clear hP1
    have hss:s.size≤10000:=by rw [size_of HT1.out];exact HL1.out
    obtain ⟨w1,hw1⟩:∃ u,u=wr:=⟨_,rfl⟩
    subst hw1
    have r3:=cell_later HBr.out R3.out
    have hz5:(ByteArray.mk #[32,108,105,101,115]).size=5:=rfl
    clear HTk HS1 HLB
    go_upto_if 64 with fail
    go_cut [7] (fun v wx => ∃ s:ByteArray,v = .string s∧Hid (s.data.toList=P1++wLies r.lies)∧wx=w1)
    case first =>
     by_cases hz:n2=0
     ·have f0:¬ (0:Int)<n2:=by omega
      have f1:decide ((0:Int)<n2)=false:=by simp;omega
      have HZ:Hid (wLies r.lies=[]):=by unfold Hid wLies;rw [if_pos (by rw [HN2.out];exact hz)]
      clear hz
      go_wp2_with fail
      go_meet
      exact ⟨_,rfl,by unfold Hid;rw [HT1.out,HZ.out,List.append_nil],rfl⟩
     ·have f0:(0:Int)<n2:=by omega
      have f1:decide ((0:Int)<n2)=true:=by simp;omega
      have HZ:Hid (wLies r.lies=[32,108,105,101,115]):=by unfold Hid wLies;rw [if_neg (by rw [HN2.out];exact hz)]
      clear hz
      go_wp2_with fail
      go_meet
      exact ⟨_,rfl,by unfold Hid;rw [catL,HT1.out,HZ.out],rfl⟩
    case rest =>
     obtain ⟨s2,rfl,HS2,hwc⟩:=hcut
     subst hwc
     obtain ⟨w1,hwA⟩:∃ u,u=wc:=⟨_,rfl⟩
     subst hwA
     have HL2:Hid ((P1++wLies r.lies).length≤10005):=by
      have h1:=HL1.out
      have e1:(wLies r.lies).length≤5:=by unfold wLies;split <;> simp
      unfold Hid
      rw [List.length_append]
      omega
     obtain ⟨P2,hP2⟩:∃ P,P1++wLies r.lies=P:=⟨_,rfl⟩
     have HP2:=hidP hP2
     rw [hP2] at HS2 HL2
     clear hP2 HT1 hss hz5
     have HT2:Hid (s2.data.toList=P2++liesT js (r.lies.take 0)):=by unfold Hid;rw [HS2.out];simp [liesT]
     have r3:=cell_later HBr.out R3.out
     go_wp2_with fail
     clear r3
     go_loopw [7,70] (fun o c wr => ∃ (k:Nat) (s:ByteArray),k≤n2∧o = .string s∧c = .int .i64 k∧Hid (s.data.toList=P2++liesT js (r.lies.take k))∧Hid (Below W.heap.size W wr)) (fun _ c _=>n2-(intOf c).toNat)
     case atStart=>exact ⟨0,_,Nat.zero_le _,rfl,rfl,HT2,HBr⟩
     case round =>
      clear HBr HT2 HS2 hk hki
      obtain ⟨k,s,hk,rfl,rfl,HTk,HBr⟩:=hrel
      by_cases hk':k<n2
      ·have hki:(k:Int)<n2:=by omega
       have hkl:k<r.lies.length:=by rw [HN2.out];exact hk'
       have hss:s.size≤13000:=by
        have h:=size_of HTk.out
        have h2:=liesT_le N.out (r.lies.take k)
        have h3:=HL2.out
        rw [List.length_take] at h2
        rw [List.length_append] at h
        omega
       obtain ⟨b,o,ha,hc⟩:=(HR.out.below HBr.out).lies.2.resolve_left (fun e=>by rw [e] at hkl;exact absurd hkl (Nat.not_lt_zero _))
       simp only at ha
       subst ha
       obtain ⟨cx0,cx1⟩:=hc k hkl
       have HON:=hidP (liesT_on (js:=js) hkl)
       have HLI:=hidP (hok.out.lies _ (List.getElem_mem hkl))
       generalize r.lies[k]=lk at cx0 cx1 HON HLI
       have e0:=cell_later HBr.out E0.out
       have e1:=cell_later HBr.out E1.out
       clear hc hkl
       go_upto_region 16 with fail
       generalize hW3:World.alloc wr _=W3
       have hb3:Below wr.heap.size wr W3:=by rw [← hW3];exact blo
       have z0:W3.cell? ⟨wr.heap.size,0,none⟩=some (.int .i64 lk.piece):=by rw [← hW3];simp [go_sem]
       have z1:W3.cell? ⟨wr.heap.size,1,none⟩=some (.int .i64 lk.side):=by rw [← hW3];simp [go_sem]
       replace e0:=cell_later hb3 e0
       replace e1:=cell_later hb3 e1
       have HB3:Hid (Below W.heap.size W W3):=HBr.out.trans (hb3.mono HBr.out.size)
       generalize wr.heap.size=Z at z0 z1 ⊢
       clear hW3 hb3 cx0 cx1 HBr
       have HLT:=hidP (l4lie_any pa ja ps.length pc jc lk W3 (hidQ (HJ.out.below HB3.out)) N HLI.out)
       have HLZ:=hidP (lieT_le N.out lk)
       go_wp2_with fail
       refine HLT.out.mono ?_
       rintro e w2 ⟨⟨t,rfl,ht⟩,hb2⟩
       have HT:=hidP ht
       have hts:t.size≤22:=by
        have h:=size_of ht
        have h2:=HLZ.out
        rw [List.length_cons] at h
        omega
       have HB4:Hid (Below W.heap.size W w2):=HB3.out.trans (hb2.mono HB3.out.size)
       clear HLT ht hb2 e0 e1 z0 z1
       go_wp2_with fail
       go_roundw
       case rel=>exact ⟨k+1,_,by omega,rfl,by go_num,by unfold Hid;rw [HON.out,catL,HTk.out,HT.out,List.append_assoc],HB4⟩
       case measure=>simp [intOf];omega
      ·have hki:¬ (k:Int)<n2:=by omega
       have HT3:Hid (s.data.toList=P2++liesT js r.lies):=by
        unfold Hid;rw [HTk.out,List.take_of_length_le (by rw [HN2.out];omega)]
       have HL3:Hid ((P2++liesT js r.lies).length≤13000):=by
        have h2:=liesT_le N.out r.lies
        have h3:=HL2.out
        have h4:=HN2.out
        unfold Hid
        rw [List.length_append]
        omega
       obtain ⟨P3,hP3⟩:∃ P,P2++liesT js r.lies=P:=⟨_,rfl⟩
       have HP3:=hidP hP3
       rw [hP3] at HT3 HL3
       clear hP3
       have hss:s.size≤13000:=by rw [size_of HT3.out];exact HL3.out
       obtain ⟨w1,hw1⟩:∃ u,u=wr:=⟨_,rfl⟩
       subst hw1
       have r7:=cell_later HBr.out R7.out
       have hz7:(ByteArray.mk #[32,102,108,97,110,107,115]).size=7:=rfl
       clear HTk
       go_upto_if 83 with fail
       go_cut [7] (fun v wx => ∃ s:ByteArray,v = .string s∧Hid (s.data.toList=P3++wFlanks r.flanks)∧wx=w1)
       case first =>
        by_cases hz:n3=0
        ·have f0:¬ (0:Int)<n3:=by omega
         have f1:decide ((0:Int)<n3)=false:=by simp;omega
         have HZ:Hid (wFlanks r.flanks=[]):=by unfold Hid wFlanks;rw [if_pos (by rw [HN3.out];exact hz)]
         clear hz
         go_wp2_with fail
         go_meet
         exact ⟨_,rfl,by unfold Hid;rw [HT3.out,HZ.out,List.append_nil],rfl⟩
        ·have f0:(0:Int)<n3:=by omega
         have f1:decide ((0:Int)<n3)=true:=by simp;omega
         have HZ:Hid (wFlanks r.flanks=[32,102,108,97,110,107,115]):=by unfold Hid wFlanks;rw [if_neg (by rw [HN3.out];exact hz)]
         clear hz
         go_wp2_with fail
         go_meet
         exact ⟨_,rfl,by unfold Hid;rw [catL,HT3.out,HZ.out],rfl⟩
       case rest =>
        obtain ⟨s3,rfl,HS3,hwc⟩:=hcut
        subst hwc
        obtain ⟨w1,hwA⟩:∃ u,u=wc:=⟨_,rfl⟩
        subst hwA
        have HL4:Hid ((P3++wFlanks r.flanks).length≤13007):=by
         have h1:=HL3.out
         have e1:(wFlanks r.flanks).length≤7:=by unfold wFlanks;split <;> simp
         unfold Hid
         rw [List.length_append]
         omega
        obtain ⟨P4,hP4⟩:∃ P,P3++wFlanks r.flanks=P:=⟨_,rfl⟩
        have HP4:=hidP hP4
        rw [hP4] at HS3 HL4
        clear hP4 HT3 hss hz7
        have HT4:Hid (s3.data.toList=P4++flanksT js ss (r.flanks.take 0)):=by unfold Hid;rw [HS3.out];simp [flanksT]
        have r7:=cell_later HBr.out R7.out
        go_wp2_with fail
        clear r7
        go_loopw [7,89] (fun o c wr => ∃ (k:Nat) (s:ByteArray),k≤n3∧o = .string s∧c = .int .i64 k∧Hid (s.data.toList=P4++flanksT js ss (r.flanks.take k))∧Hid (Below W.heap.size W wr)) (fun _ c _=>n3-(intOf c).toNat)
        case atStart=>exact ⟨0,_,Nat.zero_le _,rfl,rfl,HT4,HBr⟩
        case round =>
         clear HBr HT4 HS3 hk hki
         obtain ⟨k,s,hk,rfl,rfl,HTk,HBr⟩:=hrel
         by_cases hk':k<n3
         ·have hki:(k:Int)<n3:=by omega
          have hkl:k<r.flanks.length:=by rw [HN3.out];exact hk'
          have hss:s.size≤600000:=by
           have h:=size_of HTk.out
           have h2:=flanksT_le N.out (r.flanks.take k)
           have h3:=HL4.out
           rw [List.length_take] at h2
           rw [List.length_append] at h
           omega
          obtain ⟨b,o,ha,hc⟩:=(HR.out.below HBr.out).flanks.2.resolve_left (fun e=>by rw [e] at hkl;exact absurd hkl (Nat.not_lt_zero _))
          simp only at ha
          subst ha
          obtain ⟨cx0,cx1,cx2,cx3⟩:=hc k hkl
          have HON:=hidP (flanksT_on (js:=js) (ss:=ss) hkl)
          have HFT:=hidP (hok.out.flanks _ (List.getElem_mem hkl))
          generalize r.flanks[k]=fk at cx0 cx1 cx2 cx3 HON HFT
          obtain ⟨pl,kd,of,li⟩:=fk
          simp only at cx0 cx1 cx2 cx3
          have e0:=cell_later HBr.out E0.out
          have e1:=cell_later HBr.out E1.out
          clear hc hkl
          go_upto_region 23 with fail
          generalize hW3:World.alloc wr _=W3
          have hb3:Below wr.heap.size wr W3:=by rw [← hW3];exact blo
          have z1:W3.cell? ⟨wr.heap.size,1,none⟩=some (.int .i64 kd):=by rw [← hW3];simp [go_sem]
          have z2:W3.cell? ⟨wr.heap.size,2,none⟩=some (.int .i64 of):=by rw [← hW3];simp [go_sem]
          have z3:W3.cell? ⟨wr.heap.size,3,none⟩=some (.int .i64 li):=by rw [← hW3];simp [go_sem]
          replace e0:=cell_later hb3 e0
          replace e1:=cell_later hb3 e1
          have HB3:Hid (Below W.heap.size W W3):=HBr.out.trans (hb3.mono HBr.out.size)
          generalize wr.heap.size=Z at z1 z2 z3 ⊢
          clear hW3 hb3 cx0 cx1 cx2 cx3 HBr
          by_cases k1:kd=1
          ·subst k1
           have hz:(ByteArray.mk #[32,98,117,102,102,101,114]).size=7:=rfl
           go_wp2_with fail
           go_roundw
           case rel=>exact ⟨k+1,_,by omega,rfl,by go_num,by unfold Hid;rw [HON.out,catL,HTk.out,← List.append_assoc];rfl,HB3⟩
           case measure=>simp [intOf];omega
          have f1:(kd==1)=false:=by simpa using k1
          by_cases k2:kd=2
          ·subst k2
           obtain ⟨i,hi,ei⟩:=HFT.out.1 rfl
           simp only at ei
           subst ei
           obtain ⟨sb2,so2,hsa2,hsc2⟩:=PieceCells.name (HS.out.below HB3.out) hi
           cases hsa2
           have HE:Hid (flankT js ss ⟨pl,2,i,li⟩=ss[i].name.data.toList):=by unfold Hid flankT;rw [if_neg (show ¬ (2:Int)=1 by decide),if_pos rfl,nmP_at hi]
           rw [HE.out] at HON
           have hnz2:=N.out.s i hi
           generalize ss[i].name=nm2 at hsc2 HON hnz2
           rw [HQ.out] at hi
           have hiI:(i:Int)<q:=by omega
           have hz32:(ByteArray.mk #[32]).size=1:=rfl
           clear k1 f1 HE
           go_wp2_with fail
           go_roundw
           case rel=>exact ⟨k+1,_,by omega,rfl,by go_num,by unfold Hid;rw [HON.out,catL,catL,HTk.out,List.append_assoc];rfl,HB3⟩
           case measure=>simp [intOf];omega
          have f2:(kd==2)=false:=by simpa using k2
          by_cases k3:kd=3
          ·subst k3
           have HLT:=hidP (l4lie_any pa ja ps.length pc jc ⟨of,li⟩ W3 (hidQ (HJ.out.below HB3.out)) N (HFT.out.2 rfl))
           have HLZ:=hidP (lieT_le N.out ⟨of,li⟩)
           have HE:Hid (flankT js ss ⟨pl,3,of,li⟩=lieT js ⟨of,li⟩):=by unfold Hid flankT;rw [if_neg (show ¬ (3:Int)=1 by decide),if_neg (show ¬ (3:Int)=2 by decide),if_pos rfl]
           rw [HE.out] at HON
           clear k1 k2 f1 f2 HE
           go_wp2_with fail
           refine HLT.out.mono ?_
           rintro e w2 ⟨⟨t,rfl,ht⟩,hb2⟩
           have HT:=hidP ht
           have hts:t.size≤22:=by
            have h:=size_of ht
            have h2:=HLZ.out
            rw [List.length_cons] at h
            omega
           have HB4:Hid (Below W.heap.size W w2):=HB3.out.trans (hb2.mono HB3.out.size)
           clear HLT ht hb2 e0 e1 z1 z2 z3
           go_wp2_with fail
           go_roundw
           case rel=>exact ⟨k+1,_,by omega,rfl,by go_num,by unfold Hid;rw [HON.out,catL,HTk.out,HT.out,List.append_assoc],HB4⟩
           case measure=>simp [intOf];omega
          have f3:(kd==3)=false:=by simpa using k3
          have HE:Hid (flankT js ss ⟨pl,kd,of,li⟩=[111,112,101,110]):=by unfold Hid flankT;rw [if_neg k1,if_neg k2,if_neg k3]
          rw [HE.out] at HON
          have hz:(ByteArray.mk #[32,111,112,101,110]).size=5:=rfl
          clear k1 k2 k3 HE
          go_wp2_with fail
          go_roundw
          case rel=>exact ⟨k+1,_,by omega,rfl,by go_num,by unfold Hid;rw [HON.out,catL,HTk.out,← List.append_assoc],HB3⟩
          case measure=>simp [intOf];omega
         ·have hki:¬ (k:Int)<n3:=by omega
          have HT5:Hid (s.data.toList=P4++flanksT js ss r.flanks):=by
           unfold Hid;rw [HTk.out,List.take_of_length_le (by rw [HN3.out];omega)]
          have hss:s.size≤600000:=by
           have h2:=flanksT_le N.out r.flanks
           have h3:=HL4.out
           have h4:=HN3.out
           rw [size_of HT5.out,List.length_append]
           omega
          have hz10:(ByteArray.mk #[10]).size=1:=rfl
          go_wp2_with fail
          go_ret
          refine ⟨⟨_,rfl,?_⟩,HB.out.trans (HBr.out.mono HB.out.size)⟩
          rw [catL,HT5.out,← HP4.out,← HP3.out,← HP2.out,← HP1.out]
          rfl
end
end Go.Proofs.YtmkdgnmmebldgaaGreatDoor
