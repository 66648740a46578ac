import Derived.Test.YtmkdgnmmebldgabGreatDoorPl39
import Derived.Test.YtmkdgnmmebldgabGreatDoorPl35
import Derived.Test.YtmkdgnmmebldgabGreatDoorPl2
import Derived.Test.YtmkdgnmmebldgabGreatDoorPl5
import Derived.Laws.ShiftsVarLaws
import Derived.Deep.RegionHeld3
import Derived.Test.YtmkdgnmmebldgabGreatDoorPl21
import Derived.Test.YtmkdgnmmebldgabGreatDoorPl3
import Derived.Laws.OwnMore
import Derived.OneCell
set_option maxRecDepth 100000
set_option maxHeartbeats 8000000
namespace Go.Proofs.YtmkdgnmmebldgabGreatDoor
open Go.RowKit Go.Deep
theorem Tryz.infoRouteL:(Tryz.prog.info? 81).map (fun i=>(i.zero,i.size,i.bytes))=some (some (.agg #[.int .i64 0,.int .i64 0,.slice none 0 0,.slice none 0 0,.slice none 0 0,.slice none 0 0,.slice none 0 0,.slice none 0 0]),8,160):=by kernel_rfl
theorem make_structs2 {P:Program}(w:World)(t e:TypeId)(z:Value)(size bytes:Nat)(ht:P.underlying t=some (.slice e))(hinfo:(P.info? e).map (fun i=>(i.zero,i.size,i.bytes))=some (some z,size,bytes))
  (hb:bytes≤200) (n:Nat) (hn:n≤1048576) :
  ∃ w',(Instr.makeSlice t (.int .i64 (n:Int)) (.int .i64 (n:Int))).run P w = .ok (.slice (some ⟨w.heap.size,0,none⟩) n n) w' ∧
   (∃ f,w'.rowIs w.heap.size e (n*size) f)∧Below w.heap.size w w'∧w'.heap.size=w.heap.size+1:=by
 obtain ⟨i,hi,hi2⟩:=Option.map_eq_some_iff.1 hinfo
 simp only [Prod.mk.injEq] at hi2
 obtain ⟨hz,hs,hby⟩:=hi2
 have hlt:i.bytes*n≤200*1048576:=Nat.mul_le_mul (by omega) hn
 have h2:(i.bytes:Int)*(n:Int)=((i.bytes*n:Nat):Int):=by simp
 have h3:(i.bytes:Int)*(n:Int)≤281474976710656:=by rw [h2];exact Int.le_trans (Int.ofNat_le.2 hlt) (by decide)
 have h:=run_make (P:=P) w t e i z ht hi hz .i64 .i64 (n:Int) (n:Int) (by omega) (by omega) h3 (by omega)
 refine ⟨_,h,⟨fun j=>(madeCells z.cells (n*size)).getD j (.bool false),?_⟩,(Below.refl _ _).alloc (Nat.le_refl _) _,by simp⟩
 have hr:=World.rowIs_alloc w (madeCells z.cells (n*size)) e (fun j=>(madeCells z.cells (n*size)).getD j (.bool false)) (by intro j hj;simp only [Array.getD,hj,dite_true];exact Array.getElem?_eq_getElem hj)
 rw [size_madeCells] at hr
 simp only [Int.toNat_natCast,hs]
 exact hr
def LensRs (rs:List MRoute):Prop:=rs.length≤1048576∧∀ i (h:i<rs.length),LensR rs[i]
theorem szRouteS_any (a:Option Addr)(cap:Nat)(rs:List MRoute)(left:Int)(w:World)(hr:Hid (RoutesAt w a rs))(h0:0≤left)(h1:left≤1048576):
  Calls Tryz.prog 8 #[.slice a rs.length cap,.int .i64 left] w fun e w' => ∃ x:Int,e = .returned (.int .i64 x)∧x≤left∧(0≤x→LensRs rs)∧Below w.heap.size w w':=by
 have hl:=hr.out.1
 unfold maxLen at hl
 by_cases hlt:left<rs.length
 ·go_enter Tryz.func8,Tryz.ntmps8
  go_wp2_with fail
  go_ret
  exact ⟨-1,rfl,by omega,fun h=>absurd h (by omega),Below.refl _ _⟩
 ·go_enter Tryz.func8,Tryz.ntmps8
  go_wp2_with fail
  go_loopw [1,5] (fun l i wr => ∃ (k:Nat) (lf:Int),k≤rs.length∧i = .int .i64 k∧l = .int .i64 lf∧0≤lf∧lf≤left∧Hid (∀ q (hq:q<rs.length),q<k→LensR rs[q])∧Below w.heap.size w wr) (fun _ i _=>rs.length-(intOf i).toNat)
  case atStart=>exact ⟨0,left-rs.length,Nat.zero_le _,rfl,rfl,by omega,by omega,(fun q _ h=>absurd h (Nat.not_lt_zero q)),Below.refl _ _⟩
  case round =>
   obtain ⟨k,lf,hk,rfl,rfl,hf0,hf1,HQ,hb⟩:=hrel
   by_cases hk':k<rs.length
   ·obtain ⟨b1,off1,rfl,hpc⟩:=hr.out.2.resolve_left (nz hk')
    obtain ⟨d,⟨c0,c1,c2,c3,c4,c5,c6,c7⟩,l1⟩:=(hpc.below hb) k hk'
    have L1:=hidP l1
    clear hpc l1
    go_wp2_with fail
    refine (szRoute_any d rs[k] lf _ L1 hf0 (by omega)).mono ?_
    rintro e w1 ⟨x,rfl,hx1,_,hx2,hb1⟩
    have HX:=hidP hx2
    have HB:=hidP (hb.trans (hb1.mono hb.size))
    clear hx2 hb1 hb c0 c1 c2 c3 c4 c5 c6 c7
    by_cases hx:x<0
    ·go_wp2_with fail
     go_ret
     exact ⟨-1,rfl,by omega,fun h=>absurd h (by omega),HB.out⟩
    ·have HQ2:Hid (∀ q (hq:q<rs.length),q<k+1→LensR rs[q]):=by
      intro q hq hqk
      by_cases e:q<k
      ·exact HQ.out q hq e
      ·have:q=k:=by omega
       subst this
       exact HX.out (by omega)
     clear HQ HX
     go_wp2_with fail
     go_roundw
     case rel=>exact ⟨k+1,x,by omega,by go_num,rfl,by omega,by omega,HQ2,HB.out⟩
     case measure=>simp [intOf];omega
   ·go_wp2_with fail
    go_ret
    exact ⟨lf,rfl,hf1,fun _=>⟨by omega,fun i h=>HQ.out i h (by omega)⟩,hb⟩
def loR (G:Nat)(gg:Nat→Nat→Nat):Nat→Nat
 | 0=>G+1
 | p+1=>gg p 5+1
structure RsRow (w:World)(G:Nat)(gg:Nat→Nat→Nat)(rs:List MRoute)(k:Nat)(f:Nat→Value):Prop where
 cells:∀ p (hp:p<rs.length),p<k→f (p*8) = .int .i64 rs[p].start∧f (p*8+1) = .int .i64 rs[p].stop∧f (p*8+2) = .slice (some ⟨gg p 0,0,none⟩) rs[p].steps.length rs[p].steps.length∧f (p*8+3) = .slice (some ⟨gg p 1,0,none⟩) rs[p].lies.length rs[p].lies.length ∧
  f (p*8+4) = .slice (some ⟨gg p 2,0,none⟩) rs[p].crosses.length rs[p].crosses.length∧f (p*8+5) = .slice (some ⟨gg p 3,0,none⟩) rs[p].parts.length rs[p].parts.length∧f (p*8+6) = .slice (some ⟨gg p 4,0,none⟩) rs[p].over.length rs[p].over.length∧f (p*8+7) = .slice (some ⟨gg p 5,0,none⟩) rs[p].flanks.length rs[p].flanks.length
 rows:∀ p (hp:p<rs.length),p<k→RRow w (loR G gg p) (gg p) rs[p]
theorem loR_ge {w:World}{G:Nat}{gg:Nat→Nat→Nat}{rs:List MRoute}{k:Nat}{f:Nat→Value}(h:RsRow w G gg rs k f):∀ p,p≤k→p≤rs.length→G<loR G gg p
 | 0,_,_=>Nat.lt_succ_self _
 | p+1,hk,hl=>by
  have ih:=loR_ge h p (by omega) (by omega)
  have hr:=h.rows p (by omega) (by omega)
  have h0:=hr.l0
  have h1:=hr.l1
  have h2:=hr.l2
  have h3:=hr.l3
  have h4:=hr.l4
  have h5:=hr.l5
  simp only [loR]
  omega
theorem RsRow.kept {w w':World}{G:Nat}{gg:Nat→Nat→Nat}{rs:List MRoute}{k:Nat}{f:Nat→Value}(h:RsRow w G gg rs k f)(e:∀ b,G<b→b<w.heap.size→w'.heap[b]? = w.heap[b]?):RsRow w' G gg rs k f:=
 ⟨h.cells,fun p hp hk=>(h.rows p hp hk).kept (fun b h1 h2=>e b (by have:=(h.rows p hp hk).l0;have:=loR_ge h p (by omega) (by omega);omega) (Nat.lt_of_le_of_lt h2 (h.rows p hp hk).lt))⟩
theorem RsRow.set {w:World}{G:Nat}{gg:Nat→Nat→Nat}{rs:List MRoute}{k:Nat}{f:Nat→Value}(h:RsRow w G gg rs k f)(o:Nat)(v:Value):RsRow (w.setCell ⟨G,o,none⟩ v) G gg rs k f:=
 h.kept (fun b h1 _=>Below.heap_setCell _ _ _ _ (by simp only [ne_eq];omega))
theorem RsRow.next {w:World}{G:Nat}{gg:Nat→Nat→Nat}{rs:List MRoute}{k:Nat}{f:Nat→Value}(h:RsRow w G gg rs k f)(hk:k<rs.length)(g:Nat→Nat)(hg:RRow w (loR G gg k) g rs[k]):
  RsRow w G (fun p=>if p=k then g else gg p) rs (k+1) (fun j=>if j=k*8+7 then .slice (some ⟨g 5,0,none⟩) rs[k].flanks.length rs[k].flanks.length else if j=k*8+6 then .slice (some ⟨g 4,0,none⟩) rs[k].over.length rs[k].over.length else if j=k*8+5 then .slice (some ⟨g 3,0,none⟩) rs[k].parts.length rs[k].parts.length
   else if j=k*8+4 then .slice (some ⟨g 2,0,none⟩) rs[k].crosses.length rs[k].crosses.length else if j=k*8+3 then .slice (some ⟨g 1,0,none⟩) rs[k].lies.length rs[k].lies.length else if j=k*8+2 then .slice (some ⟨g 0,0,none⟩) rs[k].steps.length rs[k].steps.length
   else if j=k*8+1 then .int .i64 rs[k].stop else if j=k*8 then .int .i64 rs[k].start else f j):=by
 have hlo:∀ p,p≤k→loR G (fun p=>if p=k then g else gg p) p=loR G gg p:=by
  intro p hp
  cases p with
  | zero=>rfl
  | succ p=>simp only [loR];rw [if_neg (by omega)]
 refine ⟨fun p hp hpk=>?_,fun p hp hpk=>?_⟩
 ·by_cases e:p=k
  ·subst e
   simp
  ·have h1:=h.cells p hp (by omega)
   have n:∀ i j:Nat,i<8→j<8→p*8+i≠k*8+j:=by intro i j hi hj;omega
   have n0:∀ j:Nat,j<8→p*8≠k*8+j:=by intro j hj;omega
   have n1:∀ i:Nat,i<8→p*8+i≠k*8:=by intro i hi;omega
   have n2:p*8≠k*8:=by omega
   simp only [if_neg e]
   refine ⟨?_,?_,?_,?_,?_,?_,?_,?_⟩
   ·rw [if_neg (n0 7 (by omega)),if_neg (n0 6 (by omega)),if_neg (n0 5 (by omega)),if_neg (n0 4 (by omega)),if_neg (n0 3 (by omega)),if_neg (n0 2 (by omega)),if_neg (n0 1 (by omega)),if_neg n2];exact h1.1
   ·rw [if_neg (n 1 7 (by omega) (by omega)),if_neg (n 1 6 (by omega) (by omega)),if_neg (n 1 5 (by omega) (by omega)),if_neg (n 1 4 (by omega) (by omega)),if_neg (n 1 3 (by omega) (by omega)),if_neg (n 1 2 (by omega) (by omega)),if_neg (n 1 1 (by omega) (by omega)),if_neg (n1 1 (by omega))];exact h1.2.1
   ·rw [if_neg (n 2 7 (by omega) (by omega)),if_neg (n 2 6 (by omega) (by omega)),if_neg (n 2 5 (by omega) (by omega)),if_neg (n 2 4 (by omega) (by omega)),if_neg (n 2 3 (by omega) (by omega)),if_neg (n 2 2 (by omega) (by omega)),if_neg (n 2 1 (by omega) (by omega)),if_neg (n1 2 (by omega))];exact h1.2.2.1
   ·rw [if_neg (n 3 7 (by omega) (by omega)),if_neg (n 3 6 (by omega) (by omega)),if_neg (n 3 5 (by omega) (by omega)),if_neg (n 3 4 (by omega) (by omega)),if_neg (n 3 3 (by omega) (by omega)),if_neg (n 3 2 (by omega) (by omega)),if_neg (n 3 1 (by omega) (by omega)),if_neg (n1 3 (by omega))];exact h1.2.2.2.1
   ·rw [if_neg (n 4 7 (by omega) (by omega)),if_neg (n 4 6 (by omega) (by omega)),if_neg (n 4 5 (by omega) (by omega)),if_neg (n 4 4 (by omega) (by omega)),if_neg (n 4 3 (by omega) (by omega)),if_neg (n 4 2 (by omega) (by omega)),if_neg (n 4 1 (by omega) (by omega)),if_neg (n1 4 (by omega))];exact h1.2.2.2.2.1
   ·rw [if_neg (n 5 7 (by omega) (by omega)),if_neg (n 5 6 (by omega) (by omega)),if_neg (n 5 5 (by omega) (by omega)),if_neg (n 5 4 (by omega) (by omega)),if_neg (n 5 3 (by omega) (by omega)),if_neg (n 5 2 (by omega) (by omega)),if_neg (n 5 1 (by omega) (by omega)),if_neg (n1 5 (by omega))];exact h1.2.2.2.2.2.1
   ·rw [if_neg (n 6 7 (by omega) (by omega)),if_neg (n 6 6 (by omega) (by omega)),if_neg (n 6 5 (by omega) (by omega)),if_neg (n 6 4 (by omega) (by omega)),if_neg (n 6 3 (by omega) (by omega)),if_neg (n 6 2 (by omega) (by omega)),if_neg (n 6 1 (by omega) (by omega)),if_neg (n1 6 (by omega))];exact h1.2.2.2.2.2.2.1
   ·rw [if_neg (n 7 7 (by omega) (by omega)),if_neg (n 7 6 (by omega) (by omega)),if_neg (n 7 5 (by omega) (by omega)),if_neg (n 7 4 (by omega) (by omega)),if_neg (n 7 3 (by omega) (by omega)),if_neg (n 7 2 (by omega) (by omega)),if_neg (n 7 1 (by omega) (by omega)),if_neg (n1 7 (by omega))];exact h1.2.2.2.2.2.2.2
 ·by_cases e:p=k
  ·subst e
   rw [hlo p (Nat.le_refl _)]
   simp only [if_true]
   exact hg
  ·rw [hlo p (by omega)]
   simp only [if_neg e]
   exact h.rows p hp (by omega)
theorem toRouteS_row (a:Option Addr)(cap:Nat)(rs:List MRoute)(w:World)(hr:Hid (RoutesAt w a rs))(hl:Hid (LensRs rs)):
  Calls Tryz.prog 13 #[.slice a rs.length cap] w fun e w' => ∃ G gg f,e = .returned (.slice (some ⟨G,0,none⟩) rs.length rs.length)∧Hid (w'.rowIs G 81 (rs.length*8) f)∧Hid (RsRow w' G gg rs rs.length f)∧Below w.heap.size w w'∧w.heap.size≤G:=by
 have hlen:=hl.out.1
 obtain ⟨w1,hm,hrow,hb1,hz1⟩:=make_structs2 (P:=Tryz.prog) w 43 81 _ _ _ Tryz.underlying43 Tryz.infoRouteL (by omega) rs.length hlen
 have HROW:Hid (∃ f,w1.rowIs w.heap.size 81 (rs.length*8) f):=hrow
 clear hrow
 go_enter Tryz.func13,Tryz.ntmps13
 go_wp2_with fail
 go_loopw [4] (fun i wr => ∃ (k:Nat) (f:Nat→Value) (gg:Nat→Nat→Nat),k≤rs.length∧i = .int .i64 k∧Hid (wr.rowIs w.heap.size 81 (rs.length*8) f)∧Hid (RsRow wr w.heap.size gg rs k f)∧Below w.heap.size w wr∧loR w.heap.size gg k≤wr.heap.size) (fun i _=>rs.length-(intOf i).toNat)
 case atStart =>
  obtain ⟨f,hf⟩:=HROW.out
  exact ⟨0,f,fun _ _=>0,Nat.zero_le _,rfl,hf,⟨(fun p _ h=>absurd h (Nat.not_lt_zero p)),(fun p _ h=>absurd h (Nat.not_lt_zero p))⟩,hb1,by simp only [loR];omega⟩
 case round =>
  obtain ⟨k,f,gg,hk,rfl,hrow,hpr,hb,hz⟩:=hrel
  clear hm HROW hb1 hz1
  have hG:=hrow.out.lt
  have hlo:=loR_ge hpr.out k (Nat.le_refl _) hk
  by_cases hk':k<rs.length
  ·obtain ⟨b,off,rfl,hpc⟩:=hr.out.2.resolve_left (nz hk')
   obtain ⟨d,⟨c0,c1,c2,c3,c4,c5,c6,c7⟩,l1⟩:=(hpc.below hb) k hk'
   have L1:=hidP l1
   clear hpc l1
   go_wp2_with fail
   refine (toRoute_row d rs[k] _ L1 (hl.out.2 k hk')).mono ?_
   rintro e w2 ⟨g,rfl,hg,hb2⟩
   have hr2:w2.rowIs w.heap.size 81 (rs.length*8) f:=hrow.out.of_block (hb2.block _ hG)
   have hg':RRow w2 (loR w.heap.size gg k) g rs[k]:=⟨hg.out.r0,hg.out.r1,hg.out.r2,hg.out.r3,hg.out.r4,hg.out.r5,by have:=hg.out.l0;omega,hg.out.l1,hg.out.l2,hg.out.l3,hg.out.l4,hg.out.l5⟩
   have HNX:=hidP ((hpr.out.kept (w':=w2) (fun b _ h2=>hb2.block b h2)).next hk' g hg')
   have hg5:=hg.out.lt
   have HR2:=hidP hr2
   have hb3:Below w.heap.size w w2:=hb.trans (hb2.mono hb.size)
   have hz2:w.heap.size<w2.heap.size:=Nat.lt_of_lt_of_le hG hb2.size
   have d0:=hr2.cell (i:=k*8) (by omega)
   have e0:=hr2.frozen (k*8)
   have d1:=hr2.cell (i:=k*8+1) (by omega)
   have e1:=hr2.frozen (k*8+1)
   have d2:=hr2.cell (i:=k*8+2) (by omega)
   have e2:=hr2.frozen (k*8+2)
   have d3:=hr2.cell (i:=k*8+3) (by omega)
   have e3:=hr2.frozen (k*8+3)
   have d4:=hr2.cell (i:=k*8+4) (by omega)
   have e4:=hr2.frozen (k*8+4)
   have d5:=hr2.cell (i:=k*8+5) (by omega)
   have e5:=hr2.frozen (k*8+5)
   have d6:=hr2.cell (i:=k*8+6) (by omega)
   have e6:=hr2.frozen (k*8+6)
   have d7:=hr2.cell (i:=k*8+7) (by omega)
   have e7:=hr2.frozen (k*8+7)
   clear hr2 hrow hpr hg hb hb2 hG hlo hg' L1 c0 c1 c2 c3 c4 c5 c6 c7
   unfold routeV dOf
   go_wp2_with fail
   go_roundw
   case rel =>
    refine ⟨k+1,_,(fun p=>if p=k then g else gg p),by omega,by go_num,((((((((HR2.out.set (k*8) _).set (k*8+1) _).set (k*8+2) _).set (k*8+3) _).set (k*8+4) _).set (k*8+5) _).set (k*8+6) _).set (k*8+7) _),?_,((((((((hb3.setCell (Nat.le_refl _) _).setCell (Nat.le_refl _) _).setCell (Nat.le_refl _) _).setCell (Nat.le_refl _) _).setCell (Nat.le_refl _) _).setCell (Nat.le_refl _) _).setCell (Nat.le_refl _) _).setCell (Nat.le_refl _) _),?_⟩
    ·exact ((((((((HNX.out.set _ _).set _ _).set _ _).set _ _).set _ _).set _ _).set _ _).set _ _)
    ·simp only [loR,if_true]
     have hg6:g 5+1≤w2.heap.size:=hg5
     simpa using hg6
   case measure=>simp [intOf];omega
  ·have hkk:k=rs.length:=by omega
   subst hkk
   go_wp2
   go_ret
   exact ⟨_,gg,f,rfl,hrow,hpr,hb,Nat.le_refl _⟩
theorem routes_of_row {w:World}{G:Nat}{gg:Nat→Nat→Nat}{rs:List MRoute}{f:Nat→Value}(h1:w.rowIs G 81 (rs.length*8) f)(h2:RsRow w G gg rs rs.length f)(hl:LensRs rs):RoutesAt w (some ⟨G,0,none⟩) rs:=by
 refine ⟨by have:=hl.1;unfold maxLen;omega,Or.inr ⟨G,0,rfl,fun i hi=>?_⟩⟩
 refine ⟨dOf (gg i) rs[i],?_,(h2.rows i hi hi).lists (hl.2 i hi)⟩
 obtain ⟨c0,c1,c2,c3,c4,c5,c6,c7⟩:=h2.cells i hi hi
 constructor
 ·simp only [Nat.zero_add];rw [h1.cell (by omega),c0]
 ·simp only [Nat.zero_add];rw [h1.cell (by omega),c1]
 ·simp only [Nat.zero_add];rw [h1.cell (by omega),c2];rfl
 ·simp only [Nat.zero_add];rw [h1.cell (by omega),c3];rfl
 ·simp only [Nat.zero_add];rw [h1.cell (by omega),c4];rfl
 ·simp only [Nat.zero_add];rw [h1.cell (by omega),c5];rfl
 ·simp only [Nat.zero_add];rw [h1.cell (by omega),c6];rfl
 ·simp only [Nat.zero_add];rw [h1.cell (by omega),c7];rfl
end Go.Proofs.YtmkdgnmmebldgabGreatDoor
