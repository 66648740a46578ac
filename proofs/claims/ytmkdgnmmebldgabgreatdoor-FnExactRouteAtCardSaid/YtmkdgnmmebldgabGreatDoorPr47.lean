import Derived.Test.YtmkdgnmmebldgabGreatDoorPr4
import Derived.Lib.Builder
import Derived.Lib.OthersKept
import Derived.Lib.AppendStr
import Derived.Lib.UnsafeStr
import Derived.Shelf.RegionOpenPlain
import Derived.Test.YtmkdgnmmebldgabGreatDoorPr2
import Derived.Shelf.Strconv.Itoa3
import Derived.Ground.NamesProg
set_option maxRecDepth 100000
set_option maxHeartbeats 8000000
namespace Go.Proofs.YtmkdgnmmebldgabGreatDoor
open Go.RowKit Go.Deep
structure LAd where
 pa:Option Addr
 pn:Nat
 pc:Nat
 ja:Option Addr
 jn:Nat
 jc:Nat
 sa:Option Addr
 sn:Nat
 sc:Nat
 ra:Option Addr
 rn:Nat
 rc:Nat
def lCells (A:LAd)(p o:Value):Array Value:=#[.slice A.pa A.pn A.pc,.slice A.ja A.jn A.jc,.slice A.sa A.sn A.sc,.slice A.ra A.rn A.rc,p,o]
structure LSt (A:LAd)(L:Nat)(w:World)(p:Value)(bs:List UInt8)(o:Value):Prop where
 blk:w.heap[L]? = some (.cells (lCells A p o) 176 (0,0))
 use:p = .pointer none∨p = .pointer (some ⟨L,4,none⟩)
 own:w.ownsRow L 5 1 o bs.length (Lib.byteCells bs)
 nil:bs=[]→o = .slice none 0 0
def LS (A:LAd)(L:Nat)(w:World)(bs:List UInt8):Prop := ∃ p o,LSt A L w p bs o
structure Kp (L:Nat)(w w':World):Prop where
 bel:Below L w w'
 oth:Lib.OthersKept 5 (some L) w w'
theorem Kp.refl (L:Nat)(w:World):Kp L w w:=⟨Below.refl _ _,Lib.OthersKept.refl _ _ _⟩
theorem Kp.trans {L:Nat}{a b c:World}(h:Kp L a b)(k:Kp L b c):Kp L a c:=⟨h.bel.trans k.bel,h.oth.trans k.oth⟩
theorem Kp.of_below {L:Nat}{w w':World}(h:Below w.heap.size w w')(hL:L≤w.heap.size):Kp L w w':=
 ⟨h.mono hL,fun k _ hk _ _=>(h.block k (Array.getElem?_eq_some_iff.1 hk).1).trans hk⟩
theorem LSt.lt {A:LAd}{L:Nat}{w:World}{p:Value}{bs:List UInt8}{o:Value}(h:LSt A L w p bs o):L<w.heap.size:=(Array.getElem?_eq_some_iff.1 h.blk).1
theorem LS.lt {A:LAd}{L:Nat}{w:World}{bs:List UInt8}(h:LS A L w bs):L<w.heap.size:=by
 obtain ⟨p,o,h⟩:=h
 exact h.lt
theorem LSt.below {A:LAd}{L:Nat}{w w':World}{p:Value}{bs:List UInt8}{o:Value}(h:LSt A L w p bs o)(hb:Below w.heap.size w w'):LSt A L w' p bs o:=
 ⟨(hb.block L h.lt).trans h.blk,h.use,owns_below h.own hb,h.nil⟩
theorem LS.below {A:LAd}{L:Nat}{w w':World}{bs:List UInt8}(h:LS A L w bs)(hb:Below w.heap.size w w'):LS A L w' bs:=by
 obtain ⟨p,o,h⟩:=h
 exact ⟨p,o,h.below hb⟩
theorem LS.cell {A:LAd}{L:Nat}{w:World}{bs:List UInt8}(h:LS A L w bs):
  w.cell? ⟨L,0,none⟩=some (.slice A.pa A.pn A.pc)∧w.cell? ⟨L,1,none⟩=some (.slice A.ja A.jn A.jc)∧w.cell? ⟨L,2,none⟩=some (.slice A.sa A.sn A.sc)∧w.cell? ⟨L,3,none⟩=some (.slice A.ra A.rn A.rc):=by
 obtain ⟨p,o,h⟩:=h
 refine ⟨?_,?_,?_,?_⟩ <;> (rw [Lib.cell_of_heap h.blk];rfl)
theorem LSt.shape {A:LAd}{L:Nat}{w:World}{p:Value}{bs:List UInt8}{o:Value}(h:LSt A L w p bs o):w.shape? L=some (176,6):=by
 simp [World.shape?,h.blk,lCells]
theorem blk_set5 {A:LAd}{L T:Nat}{w:World}{p o:Value}(h:w.heap[L]? = some (.cells (lCells A p o) T (0,0)))(v:Value):(w.setCell ⟨L,5,none⟩ v).heap[L]? = some (.cells (lCells A p v) T (0,0)):=by
 simp [World.setCell,Array.getElem?_modify,h,lCells]
theorem LSt.kept4 {A:LAd}{L:Nat}{w:World}{p:Value}{bs:List UInt8}{o:Value}(h:LSt A L w p bs o):LSt A L (w.setCell ⟨L,4,none⟩ (.pointer (some ⟨L,4,none⟩))) (.pointer (some ⟨L,4,none⟩)) bs o:=by
 have hne:=Lib.ownBlock_ne h.own h.blk (by decide)
 refine ⟨by simp [World.setCell,Array.getElem?_modify,h.blk,lCells],Or.inr rfl,?_,h.nil⟩
 exact h.own.kept (row:=some L) ⟨rfl,rfl,rfl,by simp [World.setCell],fun k _ hk=>Below.heap_setCell _ _ _ _ (fun e=>hk (by simp [e]))⟩ (Or.inr hne)
theorem Kp.set {L:Nat}{a w:World}(h:Kp L a w)(i:Nat)(v:Value):Kp L a (w.setCell ⟨L,i,none⟩ v):=⟨h.bel.setCell (p:=⟨L,i,none⟩) (Nat.le_refl _) _,h.oth.setCell ⟨L,i,none⟩ rfl _⟩
theorem Tryz.sizeBuilder:(Tryz.prog.info? 174).map (·.size)=some 2:=by kernel_rfl
theorem Tryz.liesBuilder:liesAt Tryz.prog Tryz.prog.depth 176 (6 / Tryz.prog.cellsOf 176) 4 174 1=true:=by kernel_rfl
theorem Tryz.infoByteW:(Tryz.prog.info? 5).map (fun i=>(i.zero,i.size,i.bytes))=some (some (.int .u8 0),1,1):=by kernel_rfl
theorem copyCheck_any (A:LAd)(L:Nat)(p o:Value)(bs:List UInt8)(w:World)(h:Hid (LSt A L w p bs o)):
  Calls Tryz.prog 199 #[.pointer (some ⟨L,4,none⟩)] w fun e w'=>e = .returned (.tuple #[])∧LSt A L w' (.pointer (some ⟨L,4,none⟩)) bs o∧Kp L w w':=by
 obtain ⟨j,hj,hjs⟩:=Option.map_eq_some_iff.1 Tryz.sizeBuilder
 have c4:w.cell? ⟨L,4,none⟩=some p:=by rw [Lib.cell_of_heap h.out.blk];rfl
 have z4:w.frozen? ⟨L,4,none⟩=false:=Lib.frozen_of_heap h.out.blk 4
 rcases h.out.use with rfl | rfl
 ·have k1:=Lib.run_to_unsafe (P:=Tryz.prog) w ⟨L,4,none⟩ Tryz.underlying172 Tryz.underlying148 hj (by rw [hjs];decide) h.out.shape (by show 4<6;omega)
  have k2 := @run_callFunc_extern Tryz.prog 209 _ Extern.AbiNoEscape.same Tryz.func209 (by kernel_rfl) (by kernel_rfl) (by kernel_rfl) (by kernel_rfl)
  have k3:=Lib.run_noEscape (P:=Tryz.prog) w
  have k4:=Lib.run_from_unsafe (P:=Tryz.prog) w ⟨L,4,none⟩ Tryz.underlying148 Tryz.underlying172 hj h.out.shape Tryz.liesBuilder
  clear hj hjs
  go_enter Tryz.func199,Tryz.ntmps199
  go_wp2_with fail
  go_end0
  exact ⟨rfl,h.out.kept4,(Kp.refl L w).set 4 _⟩
 ·have k5:=Lib.run_neq_ptr_same (P:=Tryz.prog) w ⟨L,4,none⟩ Tryz.underlying172 hj
  clear hj hjs
  go_enter Tryz.func199,Tryz.ntmps199
  go_wp2_with fail
  go_end0
  exact ⟨rfl,h.out,Kp.refl L w⟩
theorem writeString_any (A:LAd)(L:Nat)(bs:List UInt8)(s:ByteArray)(w:World)(h:Hid (LS A L w bs))(hlen:bs.length+s.size≤140737488355328):
  Calls Tryz.prog 182 #[.pointer (some ⟨L,4,none⟩),.string s] w fun e w'=>e = .returned (.tuple #[.int .i64 s.size,.nilIface])∧LS A L w' (bs++s.data.toList)∧Kp L w w':=by
 obtain ⟨p,o,h⟩:=h.out
 obtain ⟨i0,hi,hz0,hz1,hz2⟩:=info_parts Tryz.infoByteW
 go_enter Tryz.func182,Tryz.ntmps182
 go_wp2_with fail
 refine (copyCheck_any A L p o bs w h).mono ?_
 rintro e w1 ⟨rfl,h1,k1⟩
 have hlt:=h1.lt
 have c5:w1.cell? ⟨L,5,none⟩=some o:=by rw [Lib.cell_of_heap h1.blk];rfl
 have hne:=Lib.ownBlock_ne h1.own h1.blk (by decide)
 have H1:=hidP h1
 have K1:=hidP k1
 clear h1 k1 h
 go_wp2_with (at_builtin;refine Lib.wpList_append_own_string _ rfl (.tmp 12) (.tmp 13) 102 9 rfl L 5 i0 Tryz.underlying102 Tryz.underlying9 hi hz0 hz1 hz2 _ _ _ rfl H1.out.own s rfl (by unfold maxLen;omega) hlen (Nat.le_of_lt hlt) ?_)
 intro v' w2 hown hg hnil
 have hb2:w2.heap[L]? = some (.cells (lCells A (.pointer (some ⟨L,4,none⟩)) o) 176 (0,0)):=by
  rw [hg.block L hlt (fun e=>hne e.symm)]
  exact H1.out.blk
 have d5:w2.cell? ⟨L,5,none⟩=some o:=by rw [Lib.cell_of_heap hb2];rfl
 have z5:w2.frozen? ⟨L,5,none⟩=false:=Lib.frozen_of_heap hb2 5
 have hne2:=Lib.ownBlock_ne hown hb2 (by decide)
 obtain ⟨x',y',hv,_⟩:=owns_shape hown
 subst hv
 have HLS:Hid (LS A L (w2.setCell ⟨L,5,none⟩ (.slice x' (bs.length+s.size) y')) (bs++s.data.toList)):=by
  refine ⟨.pointer (some ⟨L,4,none⟩),.slice x' (bs.length+s.size) y',blk_set5 hb2 _,Or.inr rfl,?_,fun e=>?_⟩
  ·have hl:(bs++s.data.toList).length=bs.length+s.size:=by rw [List.length_append];rfl
   rw [hl,Lib.byteCells_append]
   exact hown.kept (row:=some L) ⟨rfl,rfl,rfl,by simp [World.setCell],fun k _ hk=>Below.heap_setCell _ _ _ _ (fun e=>hk (by simp [e]))⟩ (Or.inr hne2)
  ·have e1:bs=[]:=(List.append_eq_nil_iff.1 e).1
   have e2:s.data.toList=[]:=(List.append_eq_nil_iff.1 e).2
   refine hnil.2 ⟨H1.out.nil e1,?_⟩
   obtain ⟨d⟩:=s
   have e3:d = #[]:=Array.toList_eq_nil_iff.1 e2
   subst e3
   rfl
 have HKP:Hid (Kp L w (w2.setCell ⟨L,5,none⟩ (.slice x' (bs.length+s.size) y'))):=by
  refine Kp.set (K1.out.trans ⟨?_,?_⟩) 5 _
  ·exact (Below.refl L w1).grown hg (Nat.le_of_lt hlt) (fun k hk=>(H1.out.own.lt k hk).1)
  ·refine (Lib.OthersKept.refl _ _ w1).grown hg (fun g hgk=>?_)
   rcases H1.out.own.2 with ⟨e1,_⟩ | ⟨g',cap,cur,e1,_,hgg,_⟩
   ·rw [e1] at hgk;cases hgk
   ·rw [e1] at hgk
    cases hgk
    exact ⟨cur,_,hgg⟩
 clear hown hg hnil hne2 hne
 go_wp2_with fail
 go_ret2
 exact ⟨rfl,HLS.out,HKP.out⟩
theorem builderString_any (A:LAd)(L:Nat)(bs:List UInt8)(w:World)(h:Hid (LS A L w bs))(hlen:bs.length≤140737488355328):
  Calls Tryz.prog 89 #[.pointer (some ⟨L,4,none⟩)] w fun e w'=>e = .returned (.string ⟨bs.toArray⟩)∧Below L w w':=by
 obtain ⟨p,o,h⟩:=h.out
 by_cases h0:bs=[]
 ·have ho:=h.nil h0
  subst ho
  subst h0
  have c5:w.drew.cell? ⟨L,5,none⟩=some (.slice none 0 0):=by
   have hb:w.drew.heap[L]? = some (.cells (lCells A p (.slice none 0 0)) 176 (0,0)):=h.blk
   rw [Lib.cell_of_heap hb];rfl
  have hSD:∀ u:World,(Builtin.unsafeSliceData_ #[102] 250 #[.slice none 0 0]).run Tryz.prog u = .ok (.pointer none) u:=fun u=>rfl
  have hUS:∀ u:World,(Builtin.unsafeString_ #[250,3] 9 #[.pointer none,.int .i64 0]).run Tryz.prog u = .ok (.string .empty) u:=fun u=>Lib.run_unsafeString_none (P:=Tryz.prog) u 250 3 9 none
  clear h
  go_enter Tryz.func89,Tryz.ntmps89
  go_wp2_with fail
  go_region
  all_goals (go_wp2_with fail;go_ret;exact ⟨rfl,(Below.refl L w).drew⟩)
 ·have hl0:bs.length≠0:=fun e=>h0 (List.eq_nil_of_length_eq_zero e)
  obtain ⟨g,cap,cur,rfl,hbg,hg,hnc,hcm,hcs,htake⟩:∃ g cap cur,o = .slice (some ⟨g,0,none⟩) bs.length cap∧L≤g∧w.heap[g]? = some (.cells cur 5 (0,0))∧bs.length≤cap∧cap≤maxLen∧cur.size=cap*1∧cur.toList.take (bs.length*1)=Lib.byteCells bs:=by
   rcases h.own.2 with ⟨_,hz⟩ | ⟨g,cap,cur,hv,r⟩
   ·exact absurd hz hl0
   ·exact ⟨g,cap,cur,hv,r⟩
  have c5:w.drew.cell? ⟨L,5,none⟩=some (.slice (some ⟨g,0,none⟩) bs.length cap):=by
   have hb:w.drew.heap[L]? = some (.cells (lCells A p (.slice (some ⟨g,0,none⟩) bs.length cap)) 176 (0,0)):=h.blk
   rw [Lib.cell_of_heap hb];rfl
  have hSD:(Builtin.unsafeSliceData_ #[102] 250 #[.slice (some ⟨g,0,none⟩) bs.length cap]).run Tryz.prog w.drew = .ok (.pointer (some ⟨g,0,none⟩)) w.drew:=
   Lib.run_unsafeSliceData_row _ _ _ _ _ _ (by omega)
  have hUS:(Builtin.unsafeString_ #[250,3] 9 #[.pointer (some ⟨g,0,none⟩),.int .i64 bs.length]).run Tryz.prog w.drew = .ok (.string ⟨bs.toArray⟩) (w.drew.freeze ⟨g,0,none⟩ bs.length):=by
   refine Lib.run_unsafeString_row w.drew 250 3 9 5 Tryz.underlying250 (by kernel_rfl) g cur.size (by have hg':w.drew.heap[g]? = some (.cells cur 5 (0,0)):=hg;simp [World.shape?,hg']) bs h0 (by omega) (by unfold maxLen at hcm;omega) ?_
   intro j x hx
   have:=h.own.cells (g:=g) rfl j (.int .u8 x.toNat) (by simp [Lib.byteCells,hx])
   exact this
  have HB:Hid (Below L w (w.drew.freeze ⟨g,0,none⟩ bs.length)):=Lib.below_freeze (Below.drew (Below.refl L w)) (p:=⟨g,0,none⟩) hbg _
  clear h hbg hg hnc hcm hcs htake
  go_enter Tryz.func89,Tryz.ntmps89
  go_wp2_with fail
  go_region
  all_goals (go_wp2_with fail;go_ret;exact ⟨rfl,HB.out⟩)
end Go.Proofs.YtmkdgnmmebldgabGreatDoor
namespace Go.Proofs.YtmkdgnmmebldgabGreatDoor
open Go.RowKit Go.Deep Go.Shelf
def Tryz.lays171_ren : Go.Shelf.Ren := ⟨fun | 171 => 159 | 243 => 183 | 246 => 200 | 283 => 210 | 284 => 211 | 285 => 212 | 286 => 213 | 129 => 217 | 317 => 216 | 318 => 218 | 319 => 219 | 320 => 220 | 337 => 221 | 338 => 222 | n => n, fun | 3 => 3 | 9 => 9 | 2 => 2 | 4 => 4 | 171 => 353 | 0 => 0 | 53 => 215 | 37 => 102 | 5 => 5 | 173 => 356 | 212 => 361 | 51 => 362 | 20 => 20 | 213 => 363 | 46 => 337 | 232 => 366 | 233 => 367 | n => n, fun | 17 => 1 | 18 => 2 | 19 => 3 | n => n⟩
theorem Tryz.lays171 : Go.Proofs.LaysM.n171 Tryz.prog Tryz.lays171_ren := {
  mixed := by kernel_rfl
  f129 := Tryz.func217.trans (congrArg some (by kernel_rfl))
  f171 := Tryz.func159.trans (congrArg some (by kernel_rfl))
  f243 := Tryz.func183.trans (congrArg some (by kernel_rfl))
  f246 := Tryz.func200.trans (congrArg some (by kernel_rfl))
  f283 := Tryz.func210.trans (congrArg some (by kernel_rfl))
  f284 := Tryz.func211.trans (congrArg some (by kernel_rfl))
  f285 := Tryz.func212.trans (congrArg some (by kernel_rfl))
  f286 := Tryz.func213.trans (congrArg some (by kernel_rfl))
  f317 := Tryz.func216.trans (congrArg some (by kernel_rfl))
  f318 := Tryz.func218.trans (congrArg some (by kernel_rfl))
  f319 := Tryz.func219.trans (congrArg some (by kernel_rfl))
  f320 := Tryz.func220.trans (congrArg some (by kernel_rfl))
  f337 := Tryz.func221.trans (congrArg some (by kernel_rfl))
  f338 := Tryz.func222.trans (congrArg some (by kernel_rfl))
  t0 := Tryz.underlying0
  a0 := Tryz.isAgg0
  z0 := Tryz.sizeOf0
  v0 := Tryz.zeroValue0
  t2 := Tryz.underlying2
  a2 := Tryz.isAgg2
  z2 := Tryz.sizeOf2
  v2 := Tryz.zeroValue2
  t3 := Tryz.underlying3
  a3 := Tryz.isAgg3
  z3 := Tryz.sizeOf3
  v3 := Tryz.zeroValue3
  t4 := Tryz.underlying4
  a4 := Tryz.isAgg4
  z4 := Tryz.sizeOf4
  v4 := Tryz.zeroValue4
  t5 := Tryz.underlying5
  a5 := Tryz.isAgg5
  z5 := Tryz.sizeOf5
  v5 := Tryz.zeroValue5
  t9 := Tryz.underlying9
  a9 := Tryz.isAgg9
  z9 := Tryz.sizeOf9
  v9 := Tryz.zeroValue9
  t20 := Tryz.underlying20
  a20 := Tryz.isAgg20
  z20 := Tryz.sizeOf20
  v20 := Tryz.zeroValue20
  t37 := Tryz.underlying102
  a37 := Tryz.isAgg102
  z37 := Tryz.sizeOf102
  v37 := Tryz.zeroValue102
  t46 := Tryz.underlying337
  a46 := Tryz.isAgg337
  z46 := Tryz.sizeOf337
  v46 := Tryz.zeroValue337
  t51 := Tryz.underlying362
  a51 := Tryz.isAgg362
  z51 := Tryz.sizeOf362
  v51 := Tryz.zeroValue362
  t53 := Tryz.underlying215
  a53 := Tryz.isAgg215
  z53 := Tryz.sizeOf215
  v53 := Tryz.zeroValue215
  t171 := Tryz.underlying353
  a171 := Tryz.isAgg353
  z171 := Tryz.sizeOf353
  v171 := Tryz.zeroValue353
  t173 := Tryz.underlying356
  a173 := Tryz.isAgg356
  z173 := Tryz.sizeOf356
  v173 := Tryz.zeroValue356
  t212 := Tryz.underlying361
  a212 := Tryz.isAgg361
  z212 := Tryz.sizeOf361
  v212 := Tryz.zeroValue361
  t213 := Tryz.underlying363
  a213 := Tryz.isAgg363
  z213 := Tryz.sizeOf363
  t232 := Tryz.underlying366
  a232 := Tryz.isAgg366
  z232 := Tryz.sizeOf366
  v232 := Tryz.zeroValue366
  t233 := Tryz.underlying367
  a233 := Tryz.isAgg367
  z233 := Tryz.sizeOf367
  v233 := Tryz.zeroValue367
  g17 := by kernel_rfl
  g18 := by kernel_rfl
  g19 := by kernel_rfl
  i0 := by kernel_rfl
  i2 := by kernel_rfl
  i3 := by kernel_rfl
  i4 := by kernel_rfl
  i5 := by kernel_rfl
  i9 := by kernel_rfl
  i20 := by kernel_rfl
  i37 := by kernel_rfl
  i46 := by kernel_rfl
  i51 := by kernel_rfl
  i53 := by kernel_rfl
  i171 := by kernel_rfl
  i173 := by kernel_rfl
  i212 := by kernel_rfl
  i232 := by kernel_rfl
  i233 := by kernel_rfl
  m17 := by kernel_rfl
  m18 := by kernel_rfl
  m19 := by kernel_rfl }
theorem itoa_laid (n : Int) (h0 : -9223372036854775808 ≤ n) (h1 : n ≤ 9223372036854775807) (w : World) (htab : Lib.TabIs Tryz.prog w "internal/strconv.uint64pow10" .u64 Lib.pow10Tab) :
  Calls Tryz.prog 159 #[.int .i64 n] w fun e w'=>e = .returned (.string ⟨(Lib.itoa n).toArray⟩)∧∃ k os,w'=Sort.grow (w.drewN k) os:=Any.strconv_Itoa Tryz.lays171 n h0 h1 w htab
#print axioms itoa_laid
end Go.Proofs.YtmkdgnmmebldgabGreatDoor
