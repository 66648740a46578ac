import Derived.Test.YtmkdgnmmebldgabGreatDoorPl28
import Derived.Test.YtmkdgnmmebldgabGreatDoorPl37
set_option maxRecDepth 100000
set_option maxHeartbeats 8000000
namespace Go.Proofs.YtmkdgnmmebldgabGreatDoor
open Go.RowKit Go.Deep
def PieceRowAt (w:World)(t g:Nat)(ps:List MPiece):Prop := ∃ f,w.rowIs g t (ps.length*4) f∧PieceRow ps ps.length f
def EndRowAt (w:World)(g:Nat)(es:List MEnd):Prop := ∃ f,w.rowIs g 192 (es.length*2) f∧EndRow es es.length f
theorem PieceRowAt.kept {w w':World}{t g:Nat}{ps:List MPiece}(h:PieceRowAt w t g ps)(e:w'.heap[g]? = w.heap[g]?):PieceRowAt w' t g ps:=by
 obtain ⟨f,h1,h2⟩:=h
 exact ⟨f,h1.of_block e,h2⟩
theorem PieceRowAt.lt {w:World}{t g:Nat}{ps:List MPiece}(h:PieceRowAt w t g ps):g<w.heap.size:=by
 obtain ⟨f,h1,_⟩:=h
 exact h1.lt
theorem PieceRowAt.cells {w:World}{t g:Nat}{ps:List MPiece}(h:PieceRowAt w t g ps):PieceCells w g 0 ps:=by
 obtain ⟨f,h1,h2⟩:=h
 exact pieceCells_of_row h1 h2
theorem EndRowAt.kept {w w':World}{g:Nat}{es:List MEnd}(h:EndRowAt w g es)(e:w'.heap[g]? = w.heap[g]?):EndRowAt w' g es:=by
 obtain ⟨f,h1,h2⟩:=h
 exact ⟨f,h1.of_block e,h2⟩
theorem EndRowAt.lt {w:World}{g:Nat}{es:List MEnd}(h:EndRowAt w g es):g<w.heap.size:=by
 obtain ⟨f,h1,_⟩:=h
 exact h1.lt
theorem EndRowAt.below {w w':World}{g:Nat}{es:List MEnd}(h:EndRowAt w g es)(hb:Below w.heap.size w w'):EndRowAt w' g es:=h.kept (hb.block g h.lt)
theorem EndRowAt.setOther {w:World}{g:Nat}{es:List MEnd}(h:EndRowAt w g es){b:Nat}(hb:b≠g)(o:Nat)(v:Value):EndRowAt (w.setCell ⟨b,o,none⟩ v) g es:=h.kept (Below.heap_setCell _ _ _ _ (fun e=>hb e.symm))
theorem EndRowAt.cells {w:World}{g:Nat}{es:List MEnd}(h:EndRowAt w g es):EndCells w g 0 es:=by
 obtain ⟨f,h1,h2⟩:=h
 exact endCells_of_row h1 h2
theorem toPieceS_row (a:Option Addr)(cap:Nat)(ps:List MPiece)(w:World)(hp:Hid (PiecesAt w a ps))(hl:ps.length≤1048576):
  Calls Tryz.prog 37 #[.slice a ps.length cap] w fun e w' => ∃ g,e = .returned (.slice (some ⟨g,0,none⟩) ps.length ps.length)∧Hid (PieceRowAt w' 135 g ps)∧Below w.heap.size w w'∧w.heap.size≤g:=by
 obtain ⟨w1,hm,hrow,hb1,hz1⟩:=make_structs (P:=Tryz.prog) w 36 135 _ _ _ Tryz.underlying36 Tryz.infoP (by omega) ps.length hl
 have HROW:Hid (∃ f,w1.rowIs w.heap.size 135 (ps.length*4) f):=hrow
 clear hrow
 go_enter Tryz.func37,Tryz.ntmps37
 go_wp2_with fail
 go_loopw [4] (fun i wr => ∃ (k:Nat) (f:Nat→Value),k≤ps.length∧i = .int .i64 k∧Hid (wr.rowIs w.heap.size 135 (ps.length*4) f)∧Hid (PieceRow ps k f)∧Below w.heap.size w wr∧w.heap.size<wr.heap.size) (fun i _=>ps.length-(intOf i).toNat)
 case atStart =>
  obtain ⟨f,hf⟩:=HROW.out
  exact ⟨0,f,Nat.zero_le _,rfl,hf,(fun i _ h=>absurd h (Nat.not_lt_zero i)),hb1,by omega⟩
 case round =>
  obtain ⟨k,f,hk,rfl,hrow,hpr,hb,hz⟩:=hrel
  clear hm HROW hb1 hz1
  by_cases hk':k<ps.length
  ·obtain ⟨b,off,rfl,hpc⟩:=hp.out.2.2.resolve_left (nz hk')
   obtain ⟨c1,c2,c3,c4⟩:=(hpc.below hb) k hk'
   clear hpc
   have HNX:=hpr.out.next hk'
   have HNX':Hid (PieceRow ps (k+1) _):=HNX
   clear HNX hpr
   go_wp2_with fail
   refine (toPiece_any _ _ _ _ _).mono ?_
   rintro e w2 ⟨rfl,hb2⟩
   have hr2:w2.rowIs w.heap.size 135 (ps.length*4) f:=hrow.out.of_block (hb2.block _ hz)
   have d0:=hr2.cell (i:=k*4) (by omega)
   have d1:=hr2.cell (i:=k*4+1) (by omega)
   have d2:=hr2.cell (i:=k*4+2) (by omega)
   have d3:=hr2.cell (i:=k*4+3) (by omega)
   have e0:=hr2.frozen (k*4)
   have e1:=hr2.frozen (k*4+1)
   have e2:=hr2.frozen (k*4+2)
   have e3:=hr2.frozen (k*4+3)
   have HR2:Hid (w2.rowIs w.heap.size 135 (ps.length*4) f):=hr2
   clear hr2 hrow
   have hb3:Below w.heap.size w w2:=hb.trans (hb2.mono hb.size)
   have hz2:w.heap.size<w2.heap.size:=Nat.lt_of_lt_of_le hz hb2.size
   clear hb hb2 hz c1 c2 c3 c4
   go_wp2_with fail
   go_roundw
   case rel =>
    refine ⟨k+1,_,by omega,by go_num,((((HR2.out.set (k*4) _).set (k*4+1) _).set (k*4+2) _).set (k*4+3) _),HNX',blo,by simpa using hz2⟩
   case measure=>simp [intOf];omega
  ·have hkk:k=ps.length:=by omega
   have HC:Hid (PieceRowAt wr 135 w.heap.size ps):=⟨f,hrow.out,hkk ▸ hpr.out⟩
   clear hrow hpr hkk
   go_wp2
   go_ret
   exact ⟨_,rfl,HC,hb,Nat.le_refl _⟩
theorem toEndS_row (a:Option Addr)(cap:Nat)(ps:List MEnd)(w:World)(hp:Hid (EndsAt w a ps))(hl:ps.length≤1048576):
  Calls Tryz.prog 103 #[.slice a ps.length cap] w fun e w' => ∃ g,e = .returned (.slice (some ⟨g,0,none⟩) ps.length ps.length)∧Hid (EndRowAt w' g ps)∧Below w.heap.size w w'∧w.heap.size≤g:=by
 obtain ⟨w1,hm,hrow,hb1,hz1⟩:=make_structs (P:=Tryz.prog) w 125 192 _ _ _ Tryz.underlying125 Tryz.infoE (by omega) ps.length hl
 have HROW:Hid (∃ f,w1.rowIs w.heap.size 192 (ps.length*2) f):=hrow
 clear hrow
 go_enter Tryz.func103,Tryz.ntmps103
 go_wp2_with fail
 go_loopw [4] (fun i wr => ∃ (k:Nat) (f:Nat→Value),k≤ps.length∧i = .int .i64 k∧Hid (wr.rowIs w.heap.size 192 (ps.length*2) f)∧Hid (EndRow ps k f)∧Below w.heap.size w wr∧w.heap.size<wr.heap.size) (fun i _=>ps.length-(intOf i).toNat)
 case atStart =>
  obtain ⟨f,hf⟩:=HROW.out
  exact ⟨0,f,Nat.zero_le _,rfl,hf,(fun i _ h=>absurd h (Nat.not_lt_zero i)),hb1,by omega⟩
 case round =>
  obtain ⟨k,f,hk,rfl,hrow,hpr,hb,hz⟩:=hrel
  clear hm HROW hb1 hz1
  by_cases hk':k<ps.length
  ·obtain ⟨b,off,rfl,hpc⟩:=hp.out.2.resolve_left (nz hk')
   obtain ⟨c1,c2⟩:=(hpc.below hb) k hk'
   clear hpc
   have HNX:=hpr.out.next hk'
   have HNX':Hid (EndRow ps (k+1) _):=HNX
   clear HNX hpr
   go_wp2_with fail
   refine (toEnd_any _ _ _).mono ?_
   rintro e w2 ⟨rfl,hb2⟩
   have hr2:w2.rowIs w.heap.size 192 (ps.length*2) f:=hrow.out.of_block (hb2.block _ hz)
   have d0:=hr2.cell (i:=k*2) (by omega)
   have d1:=hr2.cell (i:=k*2+1) (by omega)
   have e0:=hr2.frozen (k*2)
   have e1:=hr2.frozen (k*2+1)
   have HR2:Hid (w2.rowIs w.heap.size 192 (ps.length*2) f):=hr2
   clear hr2 hrow
   have hb3:Below w.heap.size w w2:=hb.trans (hb2.mono hb.size)
   have hz2:w.heap.size<w2.heap.size:=Nat.lt_of_lt_of_le hz hb2.size
   clear hb hb2 hz c1 c2
   go_wp2_with fail
   go_roundw
   case rel =>
    refine ⟨k+1,_,by omega,by go_num,((HR2.out.set (k*2) _).set (k*2+1) _),HNX',blo,by simpa using hz2⟩
   case measure=>simp [intOf];omega
  ·have hkk:k=ps.length:=by omega
   have HC:Hid (EndRowAt wr w.heap.size ps):=⟨f,hrow.out,hkk ▸ hpr.out⟩
   clear hrow hpr hkk
   go_wp2
   go_ret
   exact ⟨_,rfl,HC,hb,Nat.le_refl _⟩
theorem toJoint_row (kd:Int)(s:ByteArray)(ea:Option Addr)(ec:Nat)(es:List MEnd)(w:World)(hp:Hid (EndsAt w ea es))(hl:es.length≤1048576):
  Calls Tryz.prog 65 #[.agg #[.int .i64 kd,.string s,.slice ea es.length ec]] w fun e w' => ∃ g,e = .returned (.agg #[.int .i64 kd,.string s,.slice (some ⟨g,0,none⟩) es.length es.length])∧Hid (EndRowAt w' g es)∧Below w.heap.size w w'∧w.heap.size≤g:=by
 go_enter Tryz.func65,Tryz.ntmps65
 go_wp2_with fail
 refine (toEndS_row _ _ _ _ (hp.out.below blo) hl).mono ?_
 rintro e w1 ⟨g,rfl,hq,hb,hg⟩
 obtain ⟨hc,hf⟩:=bcell hb
 have hbw:Below w.heap.size w w1:=Below.trans blo (hb.mono (by simp;omega))
 have hgw:w.heap.size+3≤g:=by simpa using hg
 have hz:w.heap.size+3≤w1.heap.size:=by have:=hb.size;simpa using this
 clear hb hg
 go_wp2_with fail
 refine bodyPost_ret (v:=.agg #[.int .i64 kd,.string s,.slice (some ⟨g,0,none⟩) es.length es.length]) (by simp [results,Tryz.results65,go_sem,hc]) rfl ⟨g,rfl,?_,?_,by omega⟩
 ·exact (((hq.out.setOther (by omega) _ _).setOther (by omega) _ _).setOther (by omega) _ _).setOther (by omega) _ _
 ·exact blo
def JointRow2 (w:World)(B:Nat)(js:List MJoint)(k:Nat)(f:Nat→Value):Prop:=
 ∀ i (h:i<js.length),i<k→f (i*3) = .int .i64 js[i].kind∧f (i*3+1) = .string js[i].name ∧
  ∃ g,f (i*3+2) = .slice (some ⟨g,0,none⟩) js[i].ends.length js[i].ends.length∧B<g∧EndRowAt w g js[i].ends
theorem JointRow2.below {w w':World}{B:Nat}{js:List MJoint}{k:Nat}{f:Nat→Value}(h:JointRow2 w B js k f)(hb:Below w.heap.size w w'):JointRow2 w' B js k f:=by
 intro i hi hk
 obtain ⟨h1,h2,g,h3,h4,h5⟩:=h i hi hk
 exact ⟨h1,h2,g,h3,h4,h5.below hb⟩
theorem JointRow2.setCell {w:World}{B:Nat}{js:List MJoint}{k:Nat}{f:Nat→Value}(h:JointRow2 w B js k f)(o:Nat)(v:Value):JointRow2 (w.setCell ⟨B,o,none⟩ v) B js k f:=by
 intro i hi hk
 obtain ⟨h1,h2,g,h3,h4,h5⟩:=h i hi hk
 exact ⟨h1,h2,g,h3,h4,h5.setOther (by omega) o v⟩
theorem JointRow2.next {w:World}{B:Nat}{js:List MJoint}{k:Nat}{f:Nat→Value}(h:JointRow2 w B js k f)(hk:k<js.length)(g:Nat)(hg:B<g)(he:EndRowAt w g js[k].ends):
  JointRow2 w B js (k+1) (fun j=>if j=k*3+2 then .slice (some ⟨g,0,none⟩) js[k].ends.length js[k].ends.length else if j=k*3+1 then .string js[k].name else if j=k*3 then .int .i64 js[k].kind else f j):=by
 intro i hi hik
 by_cases e:i=k
 ·subst e
  refine ⟨by simp,by simp,g,by simp,hg,he⟩
 ·obtain ⟨h1,h2,g',h3,h4,h5⟩:=h i hi (by omega)
  refine ⟨?_,?_,g',?_,h4,h5⟩
  ·dsimp only;rw [if_neg (by omega),if_neg (by omega),if_neg (by omega)];exact h1
  ·dsimp only;rw [if_neg (by omega),if_neg (by omega),if_neg (by omega)];exact h2
  ·dsimp only;rw [if_neg (by omega),if_neg (by omega),if_neg (by omega)];exact h3
def JointRowAt (w:World)(g:Nat)(js:List MJoint):Prop := ∃ f,w.rowIs g 138 (js.length*3) f∧JointRow2 w g js js.length f
theorem JointRowAt.kept {w w':World}{g:Nat}{js:List MJoint}(h:JointRowAt w g js)(e:∀ b,g≤b→b<w.heap.size→w'.heap[b]? = w.heap[b]?):JointRowAt w' g js:=by
 obtain ⟨f,h1,h2⟩:=h
 refine ⟨f,h1.of_block (e g (Nat.le_refl _) h1.lt),fun i hi hk=>?_⟩
 obtain ⟨k1,k2,q,k3,k4,k5⟩:=h2 i hi hk
 exact ⟨k1,k2,q,k3,k4,k5.kept (e q (Nat.le_of_lt k4) k5.lt)⟩
theorem JointRowAt.setBefore {w:World}{g:Nat}{js:List MJoint}(h:JointRowAt w g js){b:Nat}(hb:b<g)(o:Nat)(v:Value):JointRowAt (w.setCell ⟨b,o,none⟩ v) g js:=h.kept (fun c hc _=>Below.heap_setCell _ _ _ _ (by show c≠b;omega))
theorem JointRowAt.cells {w:World}{g:Nat}{js:List MJoint}(h:JointRowAt w g js)(hl:∀ j,j ∈ js→j.ends.length≤1048576):JointCells w g 0 js:=by
 obtain ⟨f,h1,h2⟩:=h
 intro i hi
 obtain ⟨k1,k2,q,k3,_,k5⟩:=h2 i hi hi
 simp only [Nat.zero_add]
 refine ⟨by rw [h1.cell (by omega),k1],by rw [h1.cell (by omega),k2],_,_,by rw [h1.cell (by omega),k3],?_,Or.inr ⟨q,0,rfl,k5.cells⟩⟩
 have:=hl _ (List.getElem_mem hi)
 unfold maxLen
 omega
theorem toJointS_row (a:Option Addr)(cap:Nat)(ps:List MJoint)(w:World)(hp:Hid (JointsAt w a ps))(hl:ps.length≤1048576)(hel:Hid (∀ j,j ∈ ps→j.ends.length≤1048576)):
  Calls Tryz.prog 38 #[.slice a ps.length cap] w fun e w' => ∃ g,e = .returned (.slice (some ⟨g,0,none⟩) ps.length ps.length)∧Hid (JointRowAt w' g ps)∧Below w.heap.size w w'∧w.heap.size≤g:=by
 obtain ⟨w1,hm,hrow,hb1,hz1⟩:=make_structs (P:=Tryz.prog) w 37 138 _ _ _ Tryz.underlying37 Tryz.infoJ (by omega) ps.length hl
 have HROW:Hid (∃ f,w1.rowIs w.heap.size 138 (ps.length*3) f):=hrow
 clear hrow
 go_enter Tryz.func38,Tryz.ntmps38
 go_wp2_with fail
 go_loopw [4] (fun i wr => ∃ (k:Nat) (f:Nat→Value),k≤ps.length∧i = .int .i64 k∧Hid (wr.rowIs w.heap.size 138 (ps.length*3) f)∧Hid (JointRow2 wr w.heap.size ps k f)∧Below w.heap.size w wr∧w.heap.size<wr.heap.size) (fun i _=>ps.length-(intOf i).toNat)
 case atStart =>
  obtain ⟨f,hf⟩:=HROW.out
  exact ⟨0,f,Nat.zero_le _,rfl,hf,(fun i _ h=>absurd h (Nat.not_lt_zero i)),hb1,by omega⟩
 case round =>
  obtain ⟨k,f,hk,rfl,hrow,hpr,hb,hz⟩:=hrel
  clear hm HROW hb1 hz1
  by_cases hk':k<ps.length
  ·obtain ⟨b,off,rfl,hpc⟩:=hp.out.2.2.resolve_left (nz hk')
   obtain ⟨c1,c2,ea,ec,c3,c4⟩:=(hpc.below hb) k hk'
   clear hpc
   have C4:Hid (EndsAt wr ea ps[k].ends):=c4
   have hke:ps[k].ends.length≤1048576:=hel.out _ (List.getElem_mem hk')
   clear c4
   go_wp2_with fail
   refine (toJoint_row _ _ _ _ _ _ C4 hke).mono ?_
   rintro e w2 ⟨g,rfl,hge,hb2,hgg⟩
   have hr2:w2.rowIs w.heap.size 138 (ps.length*3) f:=hrow.out.of_block (hb2.block _ hz)
   have HNX:=(hpr.out.below hb2).next hk' g (by omega) hge.out
   have HNX':Hid (JointRow2 w2 w.heap.size ps (k+1) _):=HNX
   have d0:=hr2.cell (i:=k*3) (by omega)
   have d1:=hr2.cell (i:=k*3+1) (by omega)
   have d2:=hr2.cell (i:=k*3+2) (by omega)
   have e0:=hr2.frozen (k*3)
   have e1:=hr2.frozen (k*3+1)
   have e2:=hr2.frozen (k*3+2)
   have HR2:Hid (w2.rowIs w.heap.size 138 (ps.length*3) f):=hr2
   clear HNX hpr hr2 hrow
   have hb3:Below w.heap.size w w2:=hb.trans (hb2.mono hb.size)
   have hz2:w.heap.size<w2.heap.size:=Nat.lt_of_lt_of_le hz hb2.size
   clear hb hb2 hz hge hgg C4 c1 c2 c3
   go_wp2_with fail
   go_roundw
   case rel =>
    refine ⟨k+1,_,by omega,by go_num,(((HR2.out.set (k*3) _).set (k*3+1) _).set (k*3+2) _),((HNX'.out.setCell _ _).setCell _ _).setCell _ _,blo,by simpa using hz2⟩
   case measure=>simp [intOf];omega
  ·have hkk:k=ps.length:=by omega
   have HC:Hid (JointRowAt wr w.heap.size ps):=⟨f,hrow.out,hkk ▸ hpr.out⟩
   clear hrow hpr hkk
   go_wp2
   go_ret
   exact ⟨_,rfl,HC,hb,Nat.le_refl _⟩
theorem toNet_row (pa ja:Option Addr)(pc jc:Nat)(ps:List MPiece)(js:List MJoint)(w:World)(hp:Hid (PiecesAt w pa ps))(hj:Hid (JointsAt w ja js))(hpl:ps.length≤1048576)(hjl:js.length≤1048576)(hel:Hid (∀ j,j ∈ js→j.ends.length≤1048576)):
  Calls Tryz.prog 11 #[.agg #[.slice pa ps.length pc,.slice ja js.length jc]] w fun e w' => ∃ g h,e = .returned (.agg #[.slice (some ⟨g,0,none⟩) ps.length ps.length,.slice (some ⟨h,0,none⟩) js.length js.length])∧Hid (PieceRowAt w' 135 g ps)∧Hid (JointRowAt w' h js)∧Below w.heap.size w w'∧w.heap.size≤g∧g<h:=by
 go_enter Tryz.func11,Tryz.ntmps11
 go_wp2_with fail
 refine (toPieceS_row _ _ _ _ (hp.out.below blo) hpl).mono ?_
 rintro e w1 ⟨g,rfl,hq,hb,hg⟩
 obtain ⟨hc,hf⟩:=bcell hb
 have hbw:Below w.heap.size w w1:=Below.trans blo (hb.mono (by simp;omega))
 have hz:w.heap.size+3≤w1.heap.size:=by have:=hb.size;simpa using this
 have hgw:w.heap.size+3≤g:=by simpa using hg
 clear hb hg
 go_wp2_with fail
 refine (toJointS_row _ _ _ _ (hj.out.below blo) hjl hel).mono ?_
 rintro e w2 ⟨gj,rfl,hq2,hb,hg⟩
 have hz0:w.heap.size+1+1<w1.heap.size:=by omega
 have hz1:w.heap.size+1<w1.heap.size:=by omega
 obtain ⟨hc2,hf2⟩:=bcell hb
 have hbw2:Below w.heap.size w w2:=Below.trans blo (hb.mono (by simp;omega))
 have hz2:w.heap.size+3≤w2.heap.size:=by have:=hb.size;simp at this;omega
 have hhw:w.heap.size+3≤gj:=by simp at hg;omega
 have hgj:g<gj:=Nat.lt_of_lt_of_le hq.out.lt (by have:=hg;simp at this;omega)
 have HP2:Hid (PieceRowAt w2 135 g ps):=(hq.out.kept (Below.heap_setCell _ _ _ _ (by simp only [ne_eq];omega))).kept (hb.block g (by have:=hq.out.lt;simpa using this))
 clear hb hg hq
 go_wp2_with fail
 refine bodyPost_ret (v:=.agg #[.slice (some ⟨g,0,none⟩) ps.length ps.length,.slice (some ⟨gj,0,none⟩) js.length js.length]) (by simp [results,Tryz.results11,go_sem,hc,hc2,hz1]) rfl ⟨g,gj,rfl,?_,?_,blo,by omega,hgj⟩
 ·exact ((HP2.out.kept (Below.heap_setCell _ _ _ _ (by simp only [ne_eq];omega))).kept (Below.heap_setCell _ _ _ _ (by simp only [ne_eq];omega))).kept (Below.heap_setCell _ _ _ _ (by simp only [ne_eq];omega))
 ·exact ((hq2.out.setBefore (by omega) _ _).setBefore (by omega) _ _).setBefore (by omega) _ _
theorem toSignalS_row (a:Option Addr)(cap:Nat)(ps:List MPiece)(w:World)(hp:Hid (PiecesAt w a ps))(hl:ps.length≤1048576):
  Calls Tryz.prog 12 #[.slice a ps.length cap] w fun e w' => ∃ g,e = .returned (.slice (some ⟨g,0,none⟩) ps.length ps.length)∧Hid (PieceRowAt w' 84 g ps)∧Below w.heap.size w w'∧w.heap.size≤g:=by
 obtain ⟨w1,hm,hrow,hb1,hz1⟩:=make_structs (P:=Tryz.prog) w 41 84 _ _ _ Tryz.underlying41 Tryz.infoS (by omega) ps.length hl
 have HROW:Hid (∃ f,w1.rowIs w.heap.size 84 (ps.length*4) f):=hrow
 clear hrow
 go_enter Tryz.func12,Tryz.ntmps12
 go_wp2_with fail
 go_loopw [4] (fun i wr => ∃ (k:Nat) (f:Nat→Value),k≤ps.length∧i = .int .i64 k∧Hid (wr.rowIs w.heap.size 84 (ps.length*4) f)∧Hid (PieceRow ps k f)∧Below w.heap.size w wr∧w.heap.size<wr.heap.size) (fun i _=>ps.length-(intOf i).toNat)
 case atStart =>
  obtain ⟨f,hf⟩:=HROW.out
  exact ⟨0,f,Nat.zero_le _,rfl,hf,(fun i _ h=>absurd h (Nat.not_lt_zero i)),hb1,by omega⟩
 case round =>
  obtain ⟨k,f,hk,rfl,hrow,hpr,hb,hz⟩:=hrel
  clear hm HROW hb1 hz1
  by_cases hk':k<ps.length
  ·obtain ⟨b,off,rfl,hpc⟩:=hp.out.2.2.resolve_left (nz hk')
   obtain ⟨c1,c2,c3,c4⟩:=(hpc.below hb) k hk'
   clear hpc
   have HNX:=hpr.out.next hk'
   have HNX':Hid (PieceRow ps (k+1) _):=HNX
   clear HNX hpr
   go_wp2_with fail
   refine (toSignal_any _ _ _ _ _).mono ?_
   rintro e w2 ⟨rfl,hb2⟩
   have hr2:w2.rowIs w.heap.size 84 (ps.length*4) f:=hrow.out.of_block (hb2.block _ hz)
   have d0:=hr2.cell (i:=k*4) (by omega)
   have d1:=hr2.cell (i:=k*4+1) (by omega)
   have d2:=hr2.cell (i:=k*4+2) (by omega)
   have d3:=hr2.cell (i:=k*4+3) (by omega)
   have e0:=hr2.frozen (k*4)
   have e1:=hr2.frozen (k*4+1)
   have e2:=hr2.frozen (k*4+2)
   have e3:=hr2.frozen (k*4+3)
   have HR2:Hid (w2.rowIs w.heap.size 84 (ps.length*4) f):=hr2
   clear hr2 hrow
   have hb3:Below w.heap.size w w2:=hb.trans (hb2.mono hb.size)
   have hz2:w.heap.size<w2.heap.size:=Nat.lt_of_lt_of_le hz hb2.size
   clear hb hb2 hz c1 c2 c3 c4
   go_wp2_with fail
   go_roundw
   case rel =>
    refine ⟨k+1,_,by omega,by go_num,((((HR2.out.set (k*4) _).set (k*4+1) _).set (k*4+2) _).set (k*4+3) _),HNX',blo,by simpa using hz2⟩
   case measure=>simp [intOf];omega
  ·have hkk:k=ps.length:=by omega
   have HC:Hid (PieceRowAt wr 84 w.heap.size ps):=⟨f,hrow.out,hkk ▸ hpr.out⟩
   clear hrow hpr hkk
   go_wp2
   go_ret
   exact ⟨_,rfl,HC,hb,Nat.le_refl _⟩
end Go.Proofs.YtmkdgnmmebldgabGreatDoor
