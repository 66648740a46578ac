import Derived.Test.YtmkdgnmmebldgabGreatDoorPl28
import Derived.Test.YtmkdgnmmebldgabGreatDoorPl3
import Derived.Test.YtmkdgnmmebldgabGreatDoorPl35
set_option maxRecDepth 100000
set_option maxHeartbeats 8000000
namespace Go.Proofs.YtmkdgnmmebldgabGreatDoor
open Go.RowKit Go.Deep
def LRow (w:World)(T g:Nat)(vals:List Value):Prop := ∃ f,w.rowIs g T vals.length f∧∀ j (h:j<vals.length),f j=vals[j]
theorem LRow.kept {w w':World}{T g:Nat}{vals:List Value}(h:LRow w T g vals)(e:w'.heap[g]? = w.heap[g]?):LRow w' T g vals:=by
 obtain ⟨f,h1,h2⟩:=h
 exact ⟨f,h1.of_block e,h2⟩
theorem LRow.lt {w:World}{T g:Nat}{vals:List Value}(h:LRow w T g vals):g<w.heap.size:=by
 obtain ⟨f,h1,_⟩:=h
 exact h1.lt
theorem LRow.below {w w':World}{T g:Nat}{vals:List Value}(h:LRow w T g vals)(hb:Below w.heap.size w w'):LRow w' T g vals:=h.kept (hb.block g h.lt)
theorem LRow.set {w:World}{T g:Nat}{vals:List Value}(h:LRow w T g vals){b:Nat}(hb:g≠b)(o:Nat)(v:Value):LRow (w.setCell ⟨b,o,none⟩ v) T g vals:=h.kept (Below.heap_setCell _ _ _ _ hb)
theorem LRow.cell {w:World}{T g:Nat}{vals:List Value}(h:LRow w T g vals):∀ j u,vals[j]? = some u→w.cell? ((⟨g,0,none⟩:Addr).add j)=some u:=by
 obtain ⟨f,h1,h2⟩:=h
 intro j u hu
 obtain ⟨hj,hu⟩:=List.getElem?_eq_some_iff.1 hu
 rw [addr_at,Nat.zero_add,h1.cell hj,h2 j hj,hu]
theorem szStepS_any (a:Option Addr)(len cap:Nat)(left:Int)(w:World)(hs:len≤maxLen)(h0:0≤left)(h1:left≤1048576):
  Calls Tryz.prog 53 #[.slice a len cap,.int .i64 left] w fun e w'=>e = .returned (.int .i64 (if left<len then -1 else left-len))∧Below w.heap.size w w':=by
 unfold maxLen at hs
 by_cases hl:left<len
 ·rw [if_pos hl]
  go_enter Tryz.func53,Tryz.ntmps53
  go_wp2
  go_ret
  exact ⟨rfl,blo⟩
 ·rw [if_neg hl]
  go_enter Tryz.func53,Tryz.ntmps53
  go_wp2
  go_ret
  exact ⟨rfl,blo⟩
theorem toStep_any (x0 x1:Int)(w:World):
  Calls Tryz.prog 104 #[.agg #[.int .i64 x0,.int .i64 x1]] w fun e w'=>e = .returned (.agg #[.int .i64 x0,.int .i64 x1])∧Below w.heap.size w w':=by
 go_enter Tryz.func104,Tryz.ntmps104
 go_wp2
 exact bodyPost_ret (v:=.agg #[.int .i64 x0,.int .i64 x1]) (by simp [results,Tryz.results104,go_sem]) rfl ⟨rfl,blo⟩
theorem rowE_next {es:List MEnd}{k:Nat}{f:Nat→Value}(hk:k<es.length)(h:∀ j (hj:j<(flatE es).length),j<k*2→f j=(flatE es)[j]):
  ∀ j (hj:j<(flatE es).length),j<(k+1)*2→(fun j:Nat=>if j=k*2+1 then .int .i64 es[k].side else if j=k*2 then .int .i64 es[k].piece else f j) j=(flatE es)[j]:=by
 intro j hj hjk
 by_cases e1:j=k*2+1
 ·subst e1
  have hh:(flatE es)[k*2+1]? = some (.int .i64 es[k].side):=(flat_get encE 2 (fun _=>rfl) es k 1 hk (by omega)).trans rfl
  have:=(List.getElem?_eq_some_iff.1 hh).2
  rw [this]
  simp
 by_cases e0:j=k*2
 ·subst e0
  have hh:(flatE es)[k*2]? = some (.int .i64 es[k].piece):=(flat_get encE 2 (fun _=>rfl) es k 0 hk (by omega)).trans rfl
  have:=(List.getElem?_eq_some_iff.1 hh).2
  rw [this]
  simp
 have hj2:j<k*2:=by omega
 have:=h j hj hj2
 rw [← this]
 simp only []
 rw [if_neg e1];rw [if_neg e0]
theorem toStepS_row (a:Option Addr)(cap:Nat)(es:List MEnd)(w:World)(hp:Hid (EndsAt w a es))(hl:es.length≤1048576):
  Calls Tryz.prog 66 #[.slice a es.length cap] w fun e w' => ∃ g,e = .returned (.slice (some ⟨g,0,none⟩) es.length es.length)∧Hid (LRow w' 166 g (flatE es))∧Below w.heap.size w w'∧w.heap.size≤g:=by
 obtain ⟨w1,hm,hrow,hb1,hz1⟩:=make_structs (P:=Tryz.prog) w 76 166 _ _ _ Tryz.underlying76 Tryz.infoStep (by omega) es.length hl
 rw [← flatE_len] at hrow
 have HROW:Hid (∃ f,w1.rowIs w.heap.size 166 (flatE es).length f):=hrow
 have HLN:=hidP (flatE_len es)
 clear hrow
 go_enter Tryz.func66,Tryz.ntmps66
 go_wp2_with fail
 go_loopw [4] (fun i wr => ∃ (k:Nat) (f:Nat→Value),k≤es.length∧i = .int .i64 k∧Hid (wr.rowIs w.heap.size 166 (flatE es).length f)∧Hid (∀ j (hj:j<(flatE es).length),j<k*2→f j=(flatE es)[j])∧Below w.heap.size w wr∧w.heap.size<wr.heap.size) (fun i _=>es.length-(intOf i).toNat)
 case atStart =>
  obtain ⟨f,hf⟩:=HROW.out
  exact ⟨0,f,Nat.zero_le _,rfl,hf,(fun j _ h=>absurd h (by omega)),hb1,by omega⟩
 case round =>
  obtain ⟨k,f,hk,rfl,hrow,hpr,hb,hz⟩:=hrel
  clear hm HROW hb1 hz1
  by_cases hk':k<es.length
  ·obtain ⟨b,off,rfl,hpc⟩:=hp.out.2.resolve_left (nz hk')
   obtain ⟨c0,c1⟩:=(hpc.below hb) k hk'
   clear hpc
   have HNX:=hidP (rowE_next hk' hpr.out)
   clear hpr
   go_wp2_with fail
   refine (toStep_any _ _ _).mono ?_
   rintro e w2 ⟨rfl,hb2⟩
   have hr2:w2.rowIs w.heap.size 166 (flatE es).length f:=hrow.out.of_block (hb2.block _ hz)
   have d0:=hr2.cell (i:=k*2) (by have:=flatE_len es;omega)
   have e0:=hr2.frozen (k*2)
   have d1:=hr2.cell (i:=k*2+1) (by have:=flatE_len es;omega)
   have e1:=hr2.frozen (k*2+1)
   have HR2:=hidP hr2
   clear hr2 hrow
   have hb3:Below w.heap.size w w2:=hb.trans (hb2.mono hb.size)
   have hz2:w.heap.size<w2.heap.size:=Nat.lt_of_lt_of_le hz hb2.size
   clear hb hb2 hz c0 c1
   go_wp2_with fail
   go_roundw
   case rel =>
    refine ⟨k+1,_,by omega,by go_num,((HR2.out.set (k*2) _).set (k*2+1) _),HNX,blo,by simpa using hz2⟩
   case measure=>simp [intOf];omega
  ·have HC:Hid (LRow wr 166 w.heap.size (flatE es)):=⟨f,hrow.out,fun j hj=>hpr.out j hj (by have:=HLN.out;omega)⟩
   clear hrow hpr HLN
   go_wp2
   go_ret
   exact ⟨_,rfl,HC,hb,Nat.le_refl _⟩
theorem szLieS_any (a:Option Addr)(len cap:Nat)(left:Int)(w:World)(hs:len≤maxLen)(h0:0≤left)(h1:left≤1048576):
  Calls Tryz.prog 54 #[.slice a len cap,.int .i64 left] w fun e w'=>e = .returned (.int .i64 (if left<len then -1 else left-len))∧Below w.heap.size w w':=by
 unfold maxLen at hs
 by_cases hl:left<len
 ·rw [if_pos hl]
  go_enter Tryz.func54,Tryz.ntmps54
  go_wp2
  go_ret
  exact ⟨rfl,blo⟩
 ·rw [if_neg hl]
  go_enter Tryz.func54,Tryz.ntmps54
  go_wp2
  go_ret
  exact ⟨rfl,blo⟩
theorem toLie_any (x0 x1:Int)(w:World):
  Calls Tryz.prog 105 #[.agg #[.int .i64 x0,.int .i64 x1]] w fun e w'=>e = .returned (.agg #[.int .i64 x0,.int .i64 x1])∧Below w.heap.size w w':=by
 go_enter Tryz.func105,Tryz.ntmps105
 go_wp2
 exact bodyPost_ret (v:=.agg #[.int .i64 x0,.int .i64 x1]) (by simp [results,Tryz.results105,go_sem]) rfl ⟨rfl,blo⟩
theorem toLieS_row (a:Option Addr)(cap:Nat)(es:List MEnd)(w:World)(hp:Hid (EndsAt w a es))(hl:es.length≤1048576):
  Calls Tryz.prog 67 #[.slice a es.length cap] w fun e w' => ∃ g,e = .returned (.slice (some ⟨g,0,none⟩) es.length es.length)∧Hid (LRow w' 109 g (flatE es))∧Below w.heap.size w w'∧w.heap.size≤g:=by
 obtain ⟨w1,hm,hrow,hb1,hz1⟩:=make_structs (P:=Tryz.prog) w 77 109 _ _ _ Tryz.underlying77 Tryz.infoLie (by omega) es.length hl
 rw [← flatE_len] at hrow
 have HROW:Hid (∃ f,w1.rowIs w.heap.size 109 (flatE es).length f):=hrow
 have HLN:=hidP (flatE_len es)
 clear hrow
 go_enter Tryz.func67,Tryz.ntmps67
 go_wp2_with fail
 go_loopw [4] (fun i wr => ∃ (k:Nat) (f:Nat→Value),k≤es.length∧i = .int .i64 k∧Hid (wr.rowIs w.heap.size 109 (flatE es).length f)∧Hid (∀ j (hj:j<(flatE es).length),j<k*2→f j=(flatE es)[j])∧Below w.heap.size w wr∧w.heap.size<wr.heap.size) (fun i _=>es.length-(intOf i).toNat)
 case atStart =>
  obtain ⟨f,hf⟩:=HROW.out
  exact ⟨0,f,Nat.zero_le _,rfl,hf,(fun j _ h=>absurd h (by omega)),hb1,by omega⟩
 case round =>
  obtain ⟨k,f,hk,rfl,hrow,hpr,hb,hz⟩:=hrel
  clear hm HROW hb1 hz1
  by_cases hk':k<es.length
  ·obtain ⟨b,off,rfl,hpc⟩:=hp.out.2.resolve_left (nz hk')
   obtain ⟨c0,c1⟩:=(hpc.below hb) k hk'
   clear hpc
   have HNX:=hidP (rowE_next hk' hpr.out)
   clear hpr
   go_wp2_with fail
   refine (toLie_any _ _ _).mono ?_
   rintro e w2 ⟨rfl,hb2⟩
   have hr2:w2.rowIs w.heap.size 109 (flatE es).length f:=hrow.out.of_block (hb2.block _ hz)
   have d0:=hr2.cell (i:=k*2) (by have:=flatE_len es;omega)
   have e0:=hr2.frozen (k*2)
   have d1:=hr2.cell (i:=k*2+1) (by have:=flatE_len es;omega)
   have e1:=hr2.frozen (k*2+1)
   have HR2:=hidP hr2
   clear hr2 hrow
   have hb3:Below w.heap.size w w2:=hb.trans (hb2.mono hb.size)
   have hz2:w.heap.size<w2.heap.size:=Nat.lt_of_lt_of_le hz hb2.size
   clear hb hb2 hz c0 c1
   go_wp2_with fail
   go_roundw
   case rel =>
    refine ⟨k+1,_,by omega,by go_num,((HR2.out.set (k*2) _).set (k*2+1) _),HNX,blo,by simpa using hz2⟩
   case measure=>simp [intOf];omega
  ·have HC:Hid (LRow wr 109 w.heap.size (flatE es)):=⟨f,hrow.out,fun j hj=>hpr.out j hj (by have:=HLN.out;omega)⟩
   clear hrow hpr HLN
   go_wp2
   go_ret
   exact ⟨_,rfl,HC,hb,Nat.le_refl _⟩
theorem szIntS_any (a:Option Addr)(len cap:Nat)(left:Int)(w:World)(hs:len≤maxLen)(h0:0≤left)(h1:left≤1048576):
  Calls Tryz.prog 31 #[.slice a len cap,.int .i64 left] w fun e w'=>e = .returned (.int .i64 (if left<len then -1 else left-len))∧Below w.heap.size w w':=by
 unfold maxLen at hs
 by_cases hl:left<len
 ·rw [if_pos hl]
  go_enter Tryz.func31,Tryz.ntmps31
  go_wp2
  go_ret
  exact ⟨rfl,blo⟩
 ·rw [if_neg hl]
  go_enter Tryz.func31,Tryz.ntmps31
  go_wp2
  go_ret
  exact ⟨rfl,blo⟩
theorem rowN_next {es:List Int}{k:Nat}{f:Nat→Value}(hk:k<es.length)(h:∀ j (hj:j<(flatN es).length),j<k*1→f j=(flatN es)[j]):
  ∀ j (hj:j<(flatN es).length),j<(k+1)*1→(fun j:Nat=>if j=k then .int .i64 es[k] else f j) j=(flatN es)[j]:=by
 intro j hj hjk
 by_cases e0:j=k
 ·subst e0
  have hh:(flatN es)[j*1+0]? = some (.int .i64 es[j]):=(flat_get encN 1 (fun _=>rfl) es j 0 hk (by omega)).trans rfl
  simp only [Nat.mul_one,Nat.add_zero] at hh
  have:=(List.getElem?_eq_some_iff.1 hh).2
  rw [this]
  simp
 have hj2:j<k*1:=by omega
 have:=h j hj hj2
 rw [← this]
 simp only []
 rw [if_neg e0]
theorem toIntS_row (a:Option Addr)(cap:Nat)(es:List Int)(w:World)(hp:Hid (NumsAt w a es))(hl:es.length≤1048576):
  Calls Tryz.prog 24 #[.slice a es.length cap] w fun e w' => ∃ g,e = .returned (.slice (some ⟨g,0,none⟩) es.length es.length)∧Hid (LRow w' 3 g (flatN es))∧Below w.heap.size w w'∧w.heap.size≤g:=by
 obtain ⟨w1,hm,hrow,hb1,hz1⟩:=make_structs (P:=Tryz.prog) w 54 3 _ _ _ Tryz.underlying54 Tryz.infoInt (by omega) es.length hl
 rw [← flatN_len] at hrow
 have HROW:Hid (∃ f,w1.rowIs w.heap.size 3 (flatN es).length f):=hrow
 have HLN:=hidP (flatN_len es)
 clear hrow
 go_enter Tryz.func24,Tryz.ntmps24
 go_wp2_with fail
 go_loopw [4] (fun i wr => ∃ (k:Nat) (f:Nat→Value),k≤es.length∧i = .int .i64 k∧Hid (wr.rowIs w.heap.size 3 (flatN es).length f)∧Hid (∀ j (hj:j<(flatN es).length),j<k*1→f j=(flatN es)[j])∧Below w.heap.size w wr∧w.heap.size<wr.heap.size) (fun i _=>es.length-(intOf i).toNat)
 case atStart =>
  obtain ⟨f,hf⟩:=HROW.out
  exact ⟨0,f,Nat.zero_le _,rfl,hf,(fun j _ h=>absurd h (by omega)),hb1,by omega⟩
 case round =>
  obtain ⟨k,f,hk,rfl,hrow,hpr,hb,hz⟩:=hrel
  clear hm HROW hb1 hz1
  by_cases hk':k<es.length
  ·obtain ⟨b,off,rfl,hpc⟩:=hp.out.2.resolve_left (nz hk')
   have c0:=(hpc.below hb) k hk'
   clear hpc
   have HNX:=hidP (rowN_next hk' hpr.out)
   clear hpr
   have hr2:wr.rowIs w.heap.size 3 (flatN es).length f:=hrow.out
   have d0:=hr2.cell (i:=k) (by have:=flatN_len es;omega)
   have e0:=hr2.frozen (k)
   have HR2:=hidP hr2
   clear hr2 hrow
   have hb3:=hb
   have hz2:=hz
   clear hb hz
   go_wp2_with fail
   go_roundw
   case rel =>
    refine ⟨k+1,_,by omega,by go_num,(HR2.out.set (k) _),HNX,blo,by simpa using hz2⟩
   case measure=>simp [intOf];omega
  ·have HC:Hid (LRow wr 3 w.heap.size (flatN es)):=⟨f,hrow.out,fun j hj=>hpr.out j hj (by have:=HLN.out;omega)⟩
   clear hrow hpr HLN
   go_wp2
   go_ret
   exact ⟨_,rfl,HC,hb,Nat.le_refl _⟩
theorem szPartS_any (a:Option Addr)(len cap:Nat)(left:Int)(w:World)(hs:len≤maxLen)(h0:0≤left)(h1:left≤1048576):
  Calls Tryz.prog 55 #[.slice a len cap,.int .i64 left] w fun e w'=>e = .returned (.int .i64 (if left<len then -1 else left-len))∧Below w.heap.size w w':=by
 unfold maxLen at hs
 by_cases hl:left<len
 ·rw [if_pos hl]
  go_enter Tryz.func55,Tryz.ntmps55
  go_wp2
  go_ret
  exact ⟨rfl,blo⟩
 ·rw [if_neg hl]
  go_enter Tryz.func55,Tryz.ntmps55
  go_wp2
  go_ret
  exact ⟨rfl,blo⟩
theorem toPart_any (x0 x1 x2:Int)(w:World):
  Calls Tryz.prog 106 #[.agg #[.int .i64 x0,.int .i64 x1,.int .i64 x2]] w fun e w'=>e = .returned (.agg #[.int .i64 x0,.int .i64 x1,.int .i64 x2])∧Below w.heap.size w w':=by
 go_enter Tryz.func106,Tryz.ntmps106
 go_wp2
 exact bodyPost_ret (v:=.agg #[.int .i64 x0,.int .i64 x1,.int .i64 x2]) (by simp [results,Tryz.results106,go_sem]) rfl ⟨rfl,blo⟩
theorem rowP_next {es:List MPart}{k:Nat}{f:Nat→Value}(hk:k<es.length)(h:∀ j (hj:j<(flatP es).length),j<k*3→f j=(flatP es)[j]):
  ∀ j (hj:j<(flatP es).length),j<(k+1)*3→(fun j:Nat=>if j=k*3+2 then .int .i64 es[k].hi else if j=k*3+1 then .int .i64 es[k].lo else if j=k*3 then .int .i64 es[k].piece else f j) j=(flatP es)[j]:=by
 intro j hj hjk
 by_cases e2:j=k*3+2
 ·subst e2
  have hh:(flatP es)[k*3+2]? = some (.int .i64 es[k].hi):=(flat_get encP 3 (fun _=>rfl) es k 2 hk (by omega)).trans rfl
  have:=(List.getElem?_eq_some_iff.1 hh).2
  rw [this]
  simp
 by_cases e1:j=k*3+1
 ·subst e1
  have hh:(flatP es)[k*3+1]? = some (.int .i64 es[k].lo):=(flat_get encP 3 (fun _=>rfl) es k 1 hk (by omega)).trans rfl
  have:=(List.getElem?_eq_some_iff.1 hh).2
  rw [this]
  simp
 by_cases e0:j=k*3
 ·subst e0
  have hh:(flatP es)[k*3]? = some (.int .i64 es[k].piece):=(flat_get encP 3 (fun _=>rfl) es k 0 hk (by omega)).trans rfl
  have:=(List.getElem?_eq_some_iff.1 hh).2
  rw [this]
  simp
 have hj2:j<k*3:=by omega
 have:=h j hj hj2
 rw [← this]
 simp only []
 rw [if_neg e2];rw [if_neg e1];rw [if_neg e0]
theorem toPartS_row (a:Option Addr)(cap:Nat)(es:List MPart)(w:World)(hp:Hid (PartsAt w a es))(hl:es.length≤1048576):
  Calls Tryz.prog 68 #[.slice a es.length cap] w fun e w' => ∃ g,e = .returned (.slice (some ⟨g,0,none⟩) es.length es.length)∧Hid (LRow w' 185 g (flatP es))∧Below w.heap.size w w'∧w.heap.size≤g:=by
 obtain ⟨w1,hm,hrow,hb1,hz1⟩:=make_structs (P:=Tryz.prog) w 78 185 _ _ _ Tryz.underlying78 Tryz.infoPart (by omega) es.length hl
 rw [← flatP_len] at hrow
 have HROW:Hid (∃ f,w1.rowIs w.heap.size 185 (flatP es).length f):=hrow
 have HLN:=hidP (flatP_len es)
 clear hrow
 go_enter Tryz.func68,Tryz.ntmps68
 go_wp2_with fail
 go_loopw [4] (fun i wr => ∃ (k:Nat) (f:Nat→Value),k≤es.length∧i = .int .i64 k∧Hid (wr.rowIs w.heap.size 185 (flatP es).length f)∧Hid (∀ j (hj:j<(flatP es).length),j<k*3→f j=(flatP es)[j])∧Below w.heap.size w wr∧w.heap.size<wr.heap.size) (fun i _=>es.length-(intOf i).toNat)
 case atStart =>
  obtain ⟨f,hf⟩:=HROW.out
  exact ⟨0,f,Nat.zero_le _,rfl,hf,(fun j _ h=>absurd h (by omega)),hb1,by omega⟩
 case round =>
  obtain ⟨k,f,hk,rfl,hrow,hpr,hb,hz⟩:=hrel
  clear hm HROW hb1 hz1
  by_cases hk':k<es.length
  ·obtain ⟨b,off,rfl,hpc⟩:=hp.out.2.resolve_left (nz hk')
   obtain ⟨c0,c1,c2⟩:=(hpc.below hb) k hk'
   clear hpc
   have HNX:=hidP (rowP_next hk' hpr.out)
   clear hpr
   go_wp2_with fail
   refine (toPart_any _ _ _ _).mono ?_
   rintro e w2 ⟨rfl,hb2⟩
   have hr2:w2.rowIs w.heap.size 185 (flatP es).length f:=hrow.out.of_block (hb2.block _ hz)
   have d0:=hr2.cell (i:=k*3) (by have:=flatP_len es;omega)
   have e0:=hr2.frozen (k*3)
   have d1:=hr2.cell (i:=k*3+1) (by have:=flatP_len es;omega)
   have e1:=hr2.frozen (k*3+1)
   have d2:=hr2.cell (i:=k*3+2) (by have:=flatP_len es;omega)
   have e2:=hr2.frozen (k*3+2)
   have HR2:=hidP hr2
   clear hr2 hrow
   have hb3:Below w.heap.size w w2:=hb.trans (hb2.mono hb.size)
   have hz2:w.heap.size<w2.heap.size:=Nat.lt_of_lt_of_le hz hb2.size
   clear hb hb2 hz c0 c1 c2
   go_wp2_with fail
   go_roundw
   case rel =>
    refine ⟨k+1,_,by omega,by go_num,(((HR2.out.set (k*3) _).set (k*3+1) _).set (k*3+2) _),HNX,blo,by simpa using hz2⟩
   case measure=>simp [intOf];omega
  ·have HC:Hid (LRow wr 185 w.heap.size (flatP es)):=⟨f,hrow.out,fun j hj=>hpr.out j hj (by have:=HLN.out;omega)⟩
   clear hrow hpr HLN
   go_wp2
   go_ret
   exact ⟨_,rfl,HC,hb,Nat.le_refl _⟩
theorem szFlankS_any (a:Option Addr)(len cap:Nat)(left:Int)(w:World)(hs:len≤maxLen)(h0:0≤left)(h1:left≤1048576):
  Calls Tryz.prog 56 #[.slice a len cap,.int .i64 left] w fun e w'=>e = .returned (.int .i64 (if left<len then -1 else left-len))∧Below w.heap.size w w':=by
 unfold maxLen at hs
 by_cases hl:left<len
 ·rw [if_pos hl]
  go_enter Tryz.func56,Tryz.ntmps56
  go_wp2
  go_ret
  exact ⟨rfl,blo⟩
 ·rw [if_neg hl]
  go_enter Tryz.func56,Tryz.ntmps56
  go_wp2
  go_ret
  exact ⟨rfl,blo⟩
theorem toFlank_any (x0 x1 x2 x3:Int)(w:World):
  Calls Tryz.prog 107 #[.agg #[.int .i64 x0,.int .i64 x1,.int .i64 x2,.int .i64 x3]] w fun e w'=>e = .returned (.agg #[.int .i64 x0,.int .i64 x1,.int .i64 x2,.int .i64 x3])∧Below w.heap.size w w':=by
 go_enter Tryz.func107,Tryz.ntmps107
 go_wp2
 exact bodyPost_ret (v:=.agg #[.int .i64 x0,.int .i64 x1,.int .i64 x2,.int .i64 x3]) (by simp [results,Tryz.results107,go_sem]) rfl ⟨rfl,blo⟩
theorem rowF_next {es:List MFlank}{k:Nat}{f:Nat→Value}(hk:k<es.length)(h:∀ j (hj:j<(flatF es).length),j<k*4→f j=(flatF es)[j]):
  ∀ j (hj:j<(flatF es).length),j<(k+1)*4→(fun j:Nat=>if j=k*4+3 then .int .i64 es[k].lie else if j=k*4+2 then .int .i64 es[k].of else if j=k*4+1 then .int .i64 es[k].kind else if j=k*4 then .int .i64 es[k].place else f j) j=(flatF es)[j]:=by
 intro j hj hjk
 by_cases e3:j=k*4+3
 ·subst e3
  have hh:(flatF es)[k*4+3]? = some (.int .i64 es[k].lie):=(flat_get encF 4 (fun _=>rfl) es k 3 hk (by omega)).trans rfl
  have:=(List.getElem?_eq_some_iff.1 hh).2
  rw [this]
  simp
 by_cases e2:j=k*4+2
 ·subst e2
  have hh:(flatF es)[k*4+2]? = some (.int .i64 es[k].of):=(flat_get encF 4 (fun _=>rfl) es k 2 hk (by omega)).trans rfl
  have:=(List.getElem?_eq_some_iff.1 hh).2
  rw [this]
  simp
 by_cases e1:j=k*4+1
 ·subst e1
  have hh:(flatF es)[k*4+1]? = some (.int .i64 es[k].kind):=(flat_get encF 4 (fun _=>rfl) es k 1 hk (by omega)).trans rfl
  have:=(List.getElem?_eq_some_iff.1 hh).2
  rw [this]
  simp
 by_cases e0:j=k*4
 ·subst e0
  have hh:(flatF es)[k*4]? = some (.int .i64 es[k].place):=(flat_get encF 4 (fun _=>rfl) es k 0 hk (by omega)).trans rfl
  have:=(List.getElem?_eq_some_iff.1 hh).2
  rw [this]
  simp
 have hj2:j<k*4:=by omega
 have:=h j hj hj2
 rw [← this]
 simp only []
 rw [if_neg e3];rw [if_neg e2];rw [if_neg e1];rw [if_neg e0]
theorem toFlankS_row (a:Option Addr)(cap:Nat)(es:List MFlank)(w:World)(hp:Hid (FlanksAt w a es))(hl:es.length≤1048576):
  Calls Tryz.prog 69 #[.slice a es.length cap] w fun e w' => ∃ g,e = .returned (.slice (some ⟨g,0,none⟩) es.length es.length)∧Hid (LRow w' 133 g (flatF es))∧Below w.heap.size w w'∧w.heap.size≤g:=by
 obtain ⟨w1,hm,hrow,hb1,hz1⟩:=make_structs (P:=Tryz.prog) w 79 133 _ _ _ Tryz.underlying79 Tryz.infoFlank (by omega) es.length hl
 rw [← flatF_len] at hrow
 have HROW:Hid (∃ f,w1.rowIs w.heap.size 133 (flatF es).length f):=hrow
 have HLN:=hidP (flatF_len es)
 clear hrow
 go_enter Tryz.func69,Tryz.ntmps69
 go_wp2_with fail
 go_loopw [4] (fun i wr => ∃ (k:Nat) (f:Nat→Value),k≤es.length∧i = .int .i64 k∧Hid (wr.rowIs w.heap.size 133 (flatF es).length f)∧Hid (∀ j (hj:j<(flatF es).length),j<k*4→f j=(flatF es)[j])∧Below w.heap.size w wr∧w.heap.size<wr.heap.size) (fun i _=>es.length-(intOf i).toNat)
 case atStart =>
  obtain ⟨f,hf⟩:=HROW.out
  exact ⟨0,f,Nat.zero_le _,rfl,hf,(fun j _ h=>absurd h (by omega)),hb1,by omega⟩
 case round =>
  obtain ⟨k,f,hk,rfl,hrow,hpr,hb,hz⟩:=hrel
  clear hm HROW hb1 hz1
  by_cases hk':k<es.length
  ·obtain ⟨b,off,rfl,hpc⟩:=hp.out.2.resolve_left (nz hk')
   obtain ⟨c0,c1,c2,c3⟩:=(hpc.below hb) k hk'
   clear hpc
   have HNX:=hidP (rowF_next hk' hpr.out)
   clear hpr
   go_wp2_with fail
   refine (toFlank_any _ _ _ _ _).mono ?_
   rintro e w2 ⟨rfl,hb2⟩
   have hr2:w2.rowIs w.heap.size 133 (flatF es).length f:=hrow.out.of_block (hb2.block _ hz)
   have d0:=hr2.cell (i:=k*4) (by have:=flatF_len es;omega)
   have e0:=hr2.frozen (k*4)
   have d1:=hr2.cell (i:=k*4+1) (by have:=flatF_len es;omega)
   have e1:=hr2.frozen (k*4+1)
   have d2:=hr2.cell (i:=k*4+2) (by have:=flatF_len es;omega)
   have e2:=hr2.frozen (k*4+2)
   have d3:=hr2.cell (i:=k*4+3) (by have:=flatF_len es;omega)
   have e3:=hr2.frozen (k*4+3)
   have HR2:=hidP hr2
   clear hr2 hrow
   have hb3:Below w.heap.size w w2:=hb.trans (hb2.mono hb.size)
   have hz2:w.heap.size<w2.heap.size:=Nat.lt_of_lt_of_le hz hb2.size
   clear hb hb2 hz c0 c1 c2 c3
   go_wp2_with fail
   go_roundw
   case rel =>
    refine ⟨k+1,_,by omega,by go_num,((((HR2.out.set (k*4) _).set (k*4+1) _).set (k*4+2) _).set (k*4+3) _),HNX,blo,by simpa using hz2⟩
   case measure=>simp [intOf];omega
  ·have HC:Hid (LRow wr 133 w.heap.size (flatF es)):=⟨f,hrow.out,fun j hj=>hpr.out j hj (by have:=HLN.out;omega)⟩
   clear hrow hpr HLN
   go_wp2
   go_ret
   exact ⟨_,rfl,HC,hb,Nat.le_refl _⟩
structure LensR (r:MRoute):Prop where
 steps:r.steps.length≤1048576
 lies:r.lies.length≤1048576
 crosses:r.crosses.length≤1048576
 parts:r.parts.length≤1048576
 over:r.over.length≤1048576
 flanks:r.flanks.length≤1048576
structure RRow (w:World)(lo:Nat)(g:Nat→Nat)(r:MRoute):Prop where
 r0:LRow w 166 (g 0) (flatE r.steps)
 r1:LRow w 109 (g 1) (flatE r.lies)
 r2:LRow w 3 (g 2) (flatN r.crosses)
 r3:LRow w 185 (g 3) (flatP r.parts)
 r4:LRow w 185 (g 4) (flatP r.over)
 r5:LRow w 133 (g 5) (flatF r.flanks)
 l0:lo≤g 0
 l1:g 0<g 1
 l2:g 1<g 2
 l3:g 2<g 3
 l4:g 3<g 4
 l5:g 4<g 5
def dOf (g:Nat→Nat)(r:MRoute):RAddr:=⟨some ⟨g 0,0,none⟩,r.steps.length,some ⟨g 1,0,none⟩,r.lies.length,some ⟨g 2,0,none⟩,r.crosses.length,some ⟨g 3,0,none⟩,r.parts.length,some ⟨g 4,0,none⟩,r.over.length,some ⟨g 5,0,none⟩,r.flanks.length⟩
theorem RRow.kept {w w':World}{lo:Nat}{g:Nat→Nat}{r:MRoute}(h:RRow w lo g r)(e:∀ b,g 0≤b→b≤g 5→w'.heap[b]? = w.heap[b]?):RRow w' lo g r:=by
 have h1:=h.l1
 have h2:=h.l2
 have h3:=h.l3
 have h4:=h.l4
 have h5:=h.l5
 exact ⟨h.r0.kept (e _ (by omega) (by omega)),h.r1.kept (e _ (by omega) (by omega)),h.r2.kept (e _ (by omega) (by omega)),h.r3.kept (e _ (by omega) (by omega)),h.r4.kept (e _ (by omega) (by omega)),h.r5.kept (e _ (by omega) (by omega)),h.l0,h1,h2,h3,h4,h5⟩
theorem RRow.lt {w:World}{lo:Nat}{g:Nat→Nat}{r:MRoute}(h:RRow w lo g r):g 5<w.heap.size:=h.r5.lt
theorem RRow.lists {w:World}{lo:Nat}{g:Nat→Nat}{r:MRoute}(h:RRow w lo g r)(hl:LensR r):RListsAt w (dOf g r) r:=by
 have hm:∀ n:Nat,n≤1048576→n≤maxLen:=by intro n hn;unfold maxLen;omega
 exact ⟨⟨hm _ hl.steps,Or.inr ⟨g 0,0,rfl,endCells_of h.r0.cell⟩⟩,⟨hm _ hl.lies,Or.inr ⟨g 1,0,rfl,endCells_of h.r1.cell⟩⟩,⟨hm _ hl.crosses,Or.inr ⟨g 2,0,rfl,numCells_of h.r2.cell⟩⟩,⟨hm _ hl.parts,Or.inr ⟨g 3,0,rfl,partCells_of h.r3.cell⟩⟩,⟨hm _ hl.over,Or.inr ⟨g 4,0,rfl,partCells_of h.r4.cell⟩⟩,⟨hm _ hl.flanks,Or.inr ⟨g 5,0,rfl,flankCells_of h.r5.cell⟩⟩,(fun e=>by cases e)⟩
theorem row_of_alloc (w:World)(c:Array Value)(T:Nat):(w.alloc (.cells c T)).rowIs w.heap.size T c.size (fun j=>c.getD j (.bool false)):=
 World.rowIs_alloc w c T _ (by intro k hk;simp [Array.getD,hk])
theorem toRoute_row (d:RAddr)(r:MRoute)(w:World)(hl:Hid (RListsAt w d r))(hn:Hid (LensR r)):
  Calls Tryz.prog 40 #[routeV d r] w fun e w' => ∃ g,e = .returned (routeV (dOf g r) r)∧Hid (RRow w' w.heap.size g r)∧Below w.heap.size w w':=by
 unfold routeV
 go_enter Tryz.func40,Tryz.ntmps40
 go_wp2_with fail
 generalize hW:((w.alloc _).alloc _).alloc _=W
 have HA:Hid (RouteCell W w.heap.size 0 d r):=by rw [← hW];exact ((routeCell_box w d r _).below ((Below.refl _ _).alloc (Nat.le_refl _) _)).below ((Below.refl _ _).alloc (Nat.le_refl _) _)
 have HY:Hid (∃ f,W.rowIs (w.heap.size+1+1) 81 8 f∧f 0 = .int .i64 r.start∧f 1 = .int .i64 r.stop):=by
  rw [← hW]
  have h:=row_of_alloc ((w.alloc (.cells #[.int .i64 r.start,.int .i64 r.stop,.slice d.a0 r.steps.length d.c0,.slice d.a1 r.lies.length d.c1,.slice d.a2 r.crosses.length d.c2,.slice d.a3 r.parts.length d.c3,.slice d.a4 r.over.length d.c4,.slice d.a5 r.flanks.length d.c5] 70)).alloc (.cells #[.int .i64 0,.int .i64 0,.slice none 0 0,.slice none 0 0,.slice none 0 0,.slice none 0 0,.slice none 0 0,.slice none 0 0] 81)) #[.int .i64 r.start,.int .i64 r.stop,.slice none 0 0,.slice none 0 0,.slice none 0 0,.slice none 0 0,.slice none 0 0,.slice none 0 0] 81
  simp only [World.size_alloc] at h
  exact ⟨_,h,rfl,rfl⟩
 have HZ:Hid (∃ f,W.rowIs (w.heap.size+1) 81 8 f):=by
  rw [← hW]
  have h:=(row_of_alloc (w.alloc (.cells #[.int .i64 r.start,.int .i64 r.stop,.slice d.a0 r.steps.length d.c0,.slice d.a1 r.lies.length d.c1,.slice d.a2 r.crosses.length d.c2,.slice d.a3 r.parts.length d.c3,.slice d.a4 r.over.length d.c4,.slice d.a5 r.flanks.length d.c5] 70)) #[.int .i64 0,.int .i64 0,.slice none 0 0,.slice none 0 0,.slice none 0 0,.slice none 0 0,.slice none 0 0,.slice none 0 0] 81).alloc (.cells #[.int .i64 r.start,.int .i64 r.stop,.slice none 0 0,.slice none 0 0,.slice none 0 0,.slice none 0 0,.slice none 0 0,.slice none 0 0] 81)
  simp only [World.size_alloc] at h
  exact ⟨_,h⟩
 have hz:w.heap.size+3≤W.heap.size:=by rw [← hW];simp
 have hbW:Below w.heap.size w W:=by rw [← hW];exact blo
 have HB:Hid (Below w.heap.size w W):=hbW
 clear hW hbW
 obtain ⟨fy,hy0,hy1,hy2⟩:=HY.out
 have HY0:=hidP hy0
 have HF:=hidP (And.intro hy1 hy2)
 clear HY hy0 hy1 hy2
 refine (toStepS_row _ _ _ _ (hl.out.below HB.out).steps hn.out.steps).mono ?_
 rintro e w1 ⟨g0,rfl,hq0,hb0,hg0⟩
 have hs0:=hb0.size
 have hl0:=hq0.out.lt
 replace HA:=hidP (HA.out.below hb0)
 replace HY0:=hidP (HY0.out.of_block (hb0.block _ HY0.out.lt))
 replace HZ:Hid (∃ f,w1.rowIs (w.heap.size+1) 81 8 f):=by obtain ⟨f,h⟩:=HZ.out;exact ⟨f,h.of_block (hb0.block _ h.lt)⟩
 replace HB:=hidP (HB.out.trans (hb0.mono HB.out.size))
 have y:=HY0.out.cell (i:=2) (by omega)
 have fz:=HY0.out.frozen 2
 have z2:w.heap.size+1+1<w1.heap.size:=by omega
 have z0:w.heap.size<w1.heap.size:=by omega
 have x:w1.cell? ⟨w.heap.size,3,none⟩=some (.slice d.a1 r.lies.length d.c1):=HA.out.k3
 clear hb0
 go_wp2_with fail
 clear x y fz
 generalize hW0:w1.setCell _ _=W0
 have hv0:W0.heap.size=w1.heap.size:=by rw [← hW0];simp
 replace HA:Hid (RouteCell W0 w.heap.size 0 d r):=by rw [← hW0];exact HA.out.kept (Below.heap_setCell _ _ _ _ (by simp only [ne_eq];omega))
 replace HY0:=HY0.out.set 2 (.slice (some ⟨g0,0,none⟩) r.steps.length r.steps.length)
 rw [hW0] at HY0
 replace HY0:=hidP HY0
 replace HZ:Hid (∃ f,W0.rowIs (w.heap.size+1) 81 8 f):=by obtain ⟨f,h⟩:=HZ.out;rw [← hW0];exact ⟨f,h.setOther (by simp only [ne_eq];omega) _⟩
 replace HB:Hid (Below w.heap.size w W0):=by rw [← hW0];exact HB.out.setCell (by simp;omega) _
 replace hq0:Hid (LRow W0 166 g0 (flatE r.steps)):=by rw [← hW0];exact hq0.out.set (by omega) _ _
 clear hW0 z2 z0
 refine (toLieS_row _ _ _ _ (hl.out.below HB.out).lies hn.out.lies).mono ?_
 rintro e w2 ⟨g1,rfl,hq1,hb1,hg1⟩
 have hs1:=hb1.size
 have hl1:=hq1.out.lt
 replace HA:=hidP (HA.out.below hb1)
 replace HY0:=hidP (HY0.out.of_block (hb1.block _ HY0.out.lt))
 replace HZ:Hid (∃ f,w2.rowIs (w.heap.size+1) 81 8 f):=by obtain ⟨f,h⟩:=HZ.out;exact ⟨f,h.of_block (hb1.block _ h.lt)⟩
 replace HB:=hidP (HB.out.trans (hb1.mono HB.out.size))
 replace hq0:=hidP (hq0.out.below hb1)
 have y:=HY0.out.cell (i:=3) (by omega)
 have fz:=HY0.out.frozen 3
 have z2:w.heap.size+1+1<w2.heap.size:=by omega
 have z0:w.heap.size<w2.heap.size:=by omega
 have x:w2.cell? ⟨w.heap.size,4,none⟩=some (.slice d.a2 r.crosses.length d.c2):=HA.out.k4
 clear hb1
 go_wp2_with fail
 clear x y fz
 generalize hW1:w2.setCell _ _=W1
 have hv1:W1.heap.size=w2.heap.size:=by rw [← hW1];simp
 replace HA:Hid (RouteCell W1 w.heap.size 0 d r):=by rw [← hW1];exact HA.out.kept (Below.heap_setCell _ _ _ _ (by simp only [ne_eq];omega))
 replace HY0:=HY0.out.set 3 (.slice (some ⟨g1,0,none⟩) r.lies.length r.lies.length)
 rw [hW1] at HY0
 replace HY0:=hidP HY0
 replace HZ:Hid (∃ f,W1.rowIs (w.heap.size+1) 81 8 f):=by obtain ⟨f,h⟩:=HZ.out;rw [← hW1];exact ⟨f,h.setOther (by simp only [ne_eq];omega) _⟩
 replace HB:Hid (Below w.heap.size w W1):=by rw [← hW1];exact HB.out.setCell (by simp;omega) _
 replace hq0:Hid (LRow W1 166 g0 (flatE r.steps)):=by rw [← hW1];exact hq0.out.set (by omega) _ _
 replace hq1:Hid (LRow W1 109 g1 (flatE r.lies)):=by rw [← hW1];exact hq1.out.set (by omega) _ _
 clear hW1 z2 z0
 refine (toIntS_row _ _ _ _ (hl.out.below HB.out).crosses hn.out.crosses).mono ?_
 rintro e w3 ⟨g2,rfl,hq2,hb2,hg2⟩
 have hs2:=hb2.size
 have hl2:=hq2.out.lt
 replace HA:=hidP (HA.out.below hb2)
 replace HY0:=hidP (HY0.out.of_block (hb2.block _ HY0.out.lt))
 replace HZ:Hid (∃ f,w3.rowIs (w.heap.size+1) 81 8 f):=by obtain ⟨f,h⟩:=HZ.out;exact ⟨f,h.of_block (hb2.block _ h.lt)⟩
 replace HB:=hidP (HB.out.trans (hb2.mono HB.out.size))
 replace hq0:=hidP (hq0.out.below hb2)
 replace hq1:=hidP (hq1.out.below hb2)
 have y:=HY0.out.cell (i:=4) (by omega)
 have fz:=HY0.out.frozen 4
 have z2:w.heap.size+1+1<w3.heap.size:=by omega
 have z0:w.heap.size<w3.heap.size:=by omega
 have x:w3.cell? ⟨w.heap.size,5,none⟩=some (.slice d.a3 r.parts.length d.c3):=HA.out.k5
 clear hb2
 go_wp2_with fail
 clear x y fz
 generalize hW2:w3.setCell _ _=W2
 have hv2:W2.heap.size=w3.heap.size:=by rw [← hW2];simp
 replace HA:Hid (RouteCell W2 w.heap.size 0 d r):=by rw [← hW2];exact HA.out.kept (Below.heap_setCell _ _ _ _ (by simp only [ne_eq];omega))
 replace HY0:=HY0.out.set 4 (.slice (some ⟨g2,0,none⟩) r.crosses.length r.crosses.length)
 rw [hW2] at HY0
 replace HY0:=hidP HY0
 replace HZ:Hid (∃ f,W2.rowIs (w.heap.size+1) 81 8 f):=by obtain ⟨f,h⟩:=HZ.out;rw [← hW2];exact ⟨f,h.setOther (by simp only [ne_eq];omega) _⟩
 replace HB:Hid (Below w.heap.size w W2):=by rw [← hW2];exact HB.out.setCell (by simp;omega) _
 replace hq0:Hid (LRow W2 166 g0 (flatE r.steps)):=by rw [← hW2];exact hq0.out.set (by omega) _ _
 replace hq1:Hid (LRow W2 109 g1 (flatE r.lies)):=by rw [← hW2];exact hq1.out.set (by omega) _ _
 replace hq2:Hid (LRow W2 3 g2 (flatN r.crosses)):=by rw [← hW2];exact hq2.out.set (by omega) _ _
 clear hW2 z2 z0
 refine (toPartS_row _ _ _ _ (hl.out.below HB.out).parts hn.out.parts).mono ?_
 rintro e w4 ⟨g3,rfl,hq3,hb3,hg3⟩
 have hs3:=hb3.size
 have hl3:=hq3.out.lt
 replace HA:=hidP (HA.out.below hb3)
 replace HY0:=hidP (HY0.out.of_block (hb3.block _ HY0.out.lt))
 replace HZ:Hid (∃ f,w4.rowIs (w.heap.size+1) 81 8 f):=by obtain ⟨f,h⟩:=HZ.out;exact ⟨f,h.of_block (hb3.block _ h.lt)⟩
 replace HB:=hidP (HB.out.trans (hb3.mono HB.out.size))
 replace hq0:=hidP (hq0.out.below hb3)
 replace hq1:=hidP (hq1.out.below hb3)
 replace hq2:=hidP (hq2.out.below hb3)
 have y:=HY0.out.cell (i:=5) (by omega)
 have fz:=HY0.out.frozen 5
 have z2:w.heap.size+1+1<w4.heap.size:=by omega
 have z0:w.heap.size<w4.heap.size:=by omega
 have x:w4.cell? ⟨w.heap.size,6,none⟩=some (.slice d.a4 r.over.length d.c4):=HA.out.k6
 clear hb3
 go_wp2_with fail
 clear x y fz
 generalize hW3:w4.setCell _ _=W3
 have hv3:W3.heap.size=w4.heap.size:=by rw [← hW3];simp
 replace HA:Hid (RouteCell W3 w.heap.size 0 d r):=by rw [← hW3];exact HA.out.kept (Below.heap_setCell _ _ _ _ (by simp only [ne_eq];omega))
 replace HY0:=HY0.out.set 5 (.slice (some ⟨g3,0,none⟩) r.parts.length r.parts.length)
 rw [hW3] at HY0
 replace HY0:=hidP HY0
 replace HZ:Hid (∃ f,W3.rowIs (w.heap.size+1) 81 8 f):=by obtain ⟨f,h⟩:=HZ.out;rw [← hW3];exact ⟨f,h.setOther (by simp only [ne_eq];omega) _⟩
 replace HB:Hid (Below w.heap.size w W3):=by rw [← hW3];exact HB.out.setCell (by simp;omega) _
 replace hq0:Hid (LRow W3 166 g0 (flatE r.steps)):=by rw [← hW3];exact hq0.out.set (by omega) _ _
 replace hq1:Hid (LRow W3 109 g1 (flatE r.lies)):=by rw [← hW3];exact hq1.out.set (by omega) _ _
 replace hq2:Hid (LRow W3 3 g2 (flatN r.crosses)):=by rw [← hW3];exact hq2.out.set (by omega) _ _
 replace hq3:Hid (LRow W3 185 g3 (flatP r.parts)):=by rw [← hW3];exact hq3.out.set (by omega) _ _
 clear hW3 z2 z0
 refine (toPartS_row _ _ _ _ (hl.out.below HB.out).over hn.out.over).mono ?_
 rintro e w5 ⟨g4,rfl,hq4,hb4,hg4⟩
 have hs4:=hb4.size
 have hl4:=hq4.out.lt
 replace HA:=hidP (HA.out.below hb4)
 replace HY0:=hidP (HY0.out.of_block (hb4.block _ HY0.out.lt))
 replace HZ:Hid (∃ f,w5.rowIs (w.heap.size+1) 81 8 f):=by obtain ⟨f,h⟩:=HZ.out;exact ⟨f,h.of_block (hb4.block _ h.lt)⟩
 replace HB:=hidP (HB.out.trans (hb4.mono HB.out.size))
 replace hq0:=hidP (hq0.out.below hb4)
 replace hq1:=hidP (hq1.out.below hb4)
 replace hq2:=hidP (hq2.out.below hb4)
 replace hq3:=hidP (hq3.out.below hb4)
 have y:=HY0.out.cell (i:=6) (by omega)
 have fz:=HY0.out.frozen 6
 have z2:w.heap.size+1+1<w5.heap.size:=by omega
 have z0:w.heap.size<w5.heap.size:=by omega
 have x:w5.cell? ⟨w.heap.size,7,none⟩=some (.slice d.a5 r.flanks.length d.c5):=HA.out.k7
 clear hb4
 go_wp2_with fail
 clear x y fz
 generalize hW4:w5.setCell _ _=W4
 have hv4:W4.heap.size=w5.heap.size:=by rw [← hW4];simp
 replace HA:Hid (RouteCell W4 w.heap.size 0 d r):=by rw [← hW4];exact HA.out.kept (Below.heap_setCell _ _ _ _ (by simp only [ne_eq];omega))
 replace HY0:=HY0.out.set 6 (.slice (some ⟨g4,0,none⟩) r.over.length r.over.length)
 rw [hW4] at HY0
 replace HY0:=hidP HY0
 replace HZ:Hid (∃ f,W4.rowIs (w.heap.size+1) 81 8 f):=by obtain ⟨f,h⟩:=HZ.out;rw [← hW4];exact ⟨f,h.setOther (by simp only [ne_eq];omega) _⟩
 replace HB:Hid (Below w.heap.size w W4):=by rw [← hW4];exact HB.out.setCell (by simp;omega) _
 replace hq0:Hid (LRow W4 166 g0 (flatE r.steps)):=by rw [← hW4];exact hq0.out.set (by omega) _ _
 replace hq1:Hid (LRow W4 109 g1 (flatE r.lies)):=by rw [← hW4];exact hq1.out.set (by omega) _ _
 replace hq2:Hid (LRow W4 3 g2 (flatN r.crosses)):=by rw [← hW4];exact hq2.out.set (by omega) _ _
 replace hq3:Hid (LRow W4 185 g3 (flatP r.parts)):=by rw [← hW4];exact hq3.out.set (by omega) _ _
 replace hq4:Hid (LRow W4 185 g4 (flatP r.over)):=by rw [← hW4];exact hq4.out.set (by omega) _ _
 clear hW4 z2 z0
 refine (toFlankS_row _ _ _ _ (hl.out.below HB.out).flanks hn.out.flanks).mono ?_
 rintro e w6 ⟨g5,rfl,hq5,hb5,hg5⟩
 have hs5:=hb5.size
 have hl5:=hq5.out.lt
 replace HA:=hidP (HA.out.below hb5)
 replace HY0:=hidP (HY0.out.of_block (hb5.block _ HY0.out.lt))
 replace HZ:Hid (∃ f,w6.rowIs (w.heap.size+1) 81 8 f):=by obtain ⟨f,h⟩:=HZ.out;exact ⟨f,h.of_block (hb5.block _ h.lt)⟩
 replace HB:=hidP (HB.out.trans (hb5.mono HB.out.size))
 replace hq0:=hidP (hq0.out.below hb5)
 replace hq1:=hidP (hq1.out.below hb5)
 replace hq2:=hidP (hq2.out.below hb5)
 replace hq3:=hidP (hq3.out.below hb5)
 replace hq4:=hidP (hq4.out.below hb5)
 have y:=HY0.out.cell (i:=7) (by omega)
 have fz:=HY0.out.frozen 7
 have z2:w.heap.size+1+1<w6.heap.size:=by omega
 have z0:w.heap.size<w6.heap.size:=by omega
 obtain ⟨fz8,HZ8⟩:=HZ.out
 have y0:w6.cell? ⟨w.heap.size+1+1,0,none⟩=some (.int .i64 r.start):=(HY0.out.cell (i:=0) (by omega)).trans (by simp [HF.out.1])
 have y1:w6.cell? ⟨w.heap.size+1+1,1,none⟩=some (.int .i64 r.stop):=(HY0.out.cell (i:=1) (by omega)).trans (by simp [HF.out.2])
 have y2:w6.cell? ⟨w.heap.size+1+1,2,none⟩=some (.slice (some ⟨g0,0,none⟩) r.steps.length r.steps.length):=(HY0.out.cell (i:=2) (by omega)).trans (by simp)
 have y3:w6.cell? ⟨w.heap.size+1+1,3,none⟩=some (.slice (some ⟨g1,0,none⟩) r.lies.length r.lies.length):=(HY0.out.cell (i:=3) (by omega)).trans (by simp)
 have y4:w6.cell? ⟨w.heap.size+1+1,4,none⟩=some (.slice (some ⟨g2,0,none⟩) r.crosses.length r.crosses.length):=(HY0.out.cell (i:=4) (by omega)).trans (by simp)
 have y5:w6.cell? ⟨w.heap.size+1+1,5,none⟩=some (.slice (some ⟨g3,0,none⟩) r.parts.length r.parts.length):=(HY0.out.cell (i:=5) (by omega)).trans (by simp)
 have y6:w6.cell? ⟨w.heap.size+1+1,6,none⟩=some (.slice (some ⟨g4,0,none⟩) r.over.length r.over.length):=(HY0.out.cell (i:=6) (by omega)).trans (by simp)
 have q0:=HZ8.cell (i:=0) (by omega)
 have r0:=HZ8.frozen 0
 have q1:=HZ8.cell (i:=1) (by omega)
 have r1:=HZ8.frozen 1
 have q2:=HZ8.cell (i:=2) (by omega)
 have r2:=HZ8.frozen 2
 have q3:=HZ8.cell (i:=3) (by omega)
 have r3:=HZ8.frozen 3
 have q4:=HZ8.cell (i:=4) (by omega)
 have r4:=HZ8.frozen 4
 have q5:=HZ8.cell (i:=5) (by omega)
 have r5:=HZ8.frozen 5
 have q6:=HZ8.cell (i:=6) (by omega)
 have r6:=HZ8.frozen 6
 have q7:=HZ8.cell (i:=7) (by omega)
 have r7:=HZ8.frozen 7
 have z1:w.heap.size+1<w6.heap.size:=by omega
 clear hb5 HZ8
 go_wp2_with fail
 refine bodyPost_ret (v:=.agg #[.int .i64 r.start,.int .i64 r.stop,.slice (some ⟨g0,0,none⟩) r.steps.length r.steps.length,.slice (some ⟨g1,0,none⟩) r.lies.length r.lies.length,.slice (some ⟨g2,0,none⟩) r.crosses.length r.crosses.length,.slice (some ⟨g3,0,none⟩) r.parts.length r.parts.length,.slice (some ⟨g4,0,none⟩) r.over.length r.over.length,.slice (some ⟨g5,0,none⟩) r.flanks.length r.flanks.length]) (by simp [results,Tryz.results40,go_sem,q0,q1,q2,q3,q4,q5,q6,q7]) rfl ⟨fun q=>if q=0 then g0 else if q=1 then g1 else if q=2 then g2 else if q=3 then g3 else if q=4 then g4 else g5,rfl,?_,?_⟩
 ·refine ⟨?_,?_,?_,?_,?_,?_,?_,?_,?_,?_,?_,?_⟩
  ·show LRow _ _ g0 _
   exact (((((((((hq0.out.set (by omega) _ _).set (by omega) _ _).set (by omega) _ _).set (by omega) _ _).set (by omega) _ _).set (by omega) _ _).set (by omega) _ _).set (by omega) _ _).set (by omega) _ _)
  ·show LRow _ _ g1 _
   exact (((((((((hq1.out.set (by omega) _ _).set (by omega) _ _).set (by omega) _ _).set (by omega) _ _).set (by omega) _ _).set (by omega) _ _).set (by omega) _ _).set (by omega) _ _).set (by omega) _ _)
  ·show LRow _ _ g2 _
   exact (((((((((hq2.out.set (by omega) _ _).set (by omega) _ _).set (by omega) _ _).set (by omega) _ _).set (by omega) _ _).set (by omega) _ _).set (by omega) _ _).set (by omega) _ _).set (by omega) _ _)
  ·show LRow _ _ g3 _
   exact (((((((((hq3.out.set (by omega) _ _).set (by omega) _ _).set (by omega) _ _).set (by omega) _ _).set (by omega) _ _).set (by omega) _ _).set (by omega) _ _).set (by omega) _ _).set (by omega) _ _)
  ·show LRow _ _ g4 _
   exact (((((((((hq4.out.set (by omega) _ _).set (by omega) _ _).set (by omega) _ _).set (by omega) _ _).set (by omega) _ _).set (by omega) _ _).set (by omega) _ _).set (by omega) _ _).set (by omega) _ _)
  ·show LRow _ _ g5 _
   exact (((((((((hq5.out.set (by omega) _ _).set (by omega) _ _).set (by omega) _ _).set (by omega) _ _).set (by omega) _ _).set (by omega) _ _).set (by omega) _ _).set (by omega) _ _).set (by omega) _ _)
  ·show w.heap.size≤g0;omega
  ·show g0<g1;omega
  ·show g1<g2;omega
  ·show g2<g3;omega
  ·show g3<g4;omega
  ·show g4<g5;omega
 ·exact (((((((((HB.out.setCell (by simp only [];omega) _).setCell (by simp only [];omega) _).setCell (by simp only [];omega) _).setCell (by simp only [];omega) _).setCell (by simp only [];omega) _).setCell (by simp only [];omega) _).setCell (by simp only [];omega) _).setCell (by simp only [];omega) _).setCell (by simp only [];omega) _)
theorem szRoute_any (d:RAddr)(r:MRoute)(left:Int)(w:World)(hl:Hid (RListsAt w d r))(h0:0≤left)(h1:left≤1048576):
  Calls Tryz.prog 30 #[routeV d r,.int .i64 left] w fun e w' => ∃ x:Int,e = .returned (.int .i64 x)∧x≤left ∧ -1≤x∧(0≤x→LensR r)∧Below w.heap.size w w':=by
 unfold routeV
 have m0:=hl.out.steps.1
 have m1:=hl.out.lies.1
 have m2:=hl.out.crosses.1
 have m3:=hl.out.parts.1
 have m4:=hl.out.over.1
 have m5:=hl.out.flanks.1
 go_enter Tryz.func30,Tryz.ntmps30
 go_wp2_with fail
 generalize hW:w.alloc _=W
 have HA:Hid (RouteCell W w.heap.size 0 d r):=by rw [← hW];exact routeCell_box _ _ _ _
 have hz:w.heap.size<W.heap.size:=by rw [← hW];simp
 have HB:Hid (Below w.heap.size w W):=by rw [← hW];exact blo
 clear hW
 refine (szStepS_any _ _ _ _ _ m0 (by omega) (by omega)).mono ?_
 rintro e w1 ⟨rfl,hb0⟩
 replace HA:=hidP (HA.out.below hb0)
 replace HB:=hidP (HB.out.trans (hb0.mono HB.out.size))
 have hz0:w.heap.size<w1.heap.size:=Nat.lt_of_lt_of_le hz hb0.size
 clear hb0 hz
 by_cases c0:left<(r.steps.length:Int)
 ·rw [if_pos c0]
  go_wp2_with fail
  go_ret
  exact ⟨-1,rfl,by omega,by omega,fun h=>absurd h (by omega),HB.out⟩
 rw [if_neg c0]
 obtain ⟨x0,hx0⟩:∃ x,left-(r.steps.length:Int)=x:=⟨_,rfl⟩
 rw [hx0]
 have k0:0≤x0∧x0≤left∧r.steps.length≤1048576:=by omega
 have HX0:=hidP k0.2.2
 have j0:=k0.1
 have i0:=k0.2.1
 clear hx0 k0 c0 m0
 have t0:w1.cell? ⟨w.heap.size,3,none⟩=some (.slice d.a1 r.lies.length d.c1):=HA.out.k3
 go_wp2_with fail
 clear t0
 refine (szLieS_any _ _ _ _ _ m1 (by omega) (by omega)).mono ?_
 rintro e w2 ⟨rfl,hb1⟩
 replace HA:=hidP (HA.out.below hb1)
 replace HB:=hidP (HB.out.trans (hb1.mono HB.out.size))
 have hz1:w.heap.size<w2.heap.size:=Nat.lt_of_lt_of_le hz0 hb1.size
 clear hb1 hz0
 by_cases c1:x0<(r.lies.length:Int)
 ·rw [if_pos c1]
  go_wp2_with fail
  go_ret
  exact ⟨-1,rfl,by omega,by omega,fun h=>absurd h (by omega),HB.out⟩
 rw [if_neg c1]
 obtain ⟨x1,hx1⟩:∃ x,x0-(r.lies.length:Int)=x:=⟨_,rfl⟩
 rw [hx1]
 have k1:0≤x1∧x1≤left∧r.lies.length≤1048576:=by omega
 have HX1:=hidP k1.2.2
 have j1:=k1.1
 have i1:=k1.2.1
 clear hx1 k1 c1 m1
 have t1:w2.cell? ⟨w.heap.size,4,none⟩=some (.slice d.a2 r.crosses.length d.c2):=HA.out.k4
 go_wp2_with fail
 clear t1
 refine (szIntS_any _ _ _ _ _ m2 (by omega) (by omega)).mono ?_
 rintro e w3 ⟨rfl,hb2⟩
 replace HA:=hidP (HA.out.below hb2)
 replace HB:=hidP (HB.out.trans (hb2.mono HB.out.size))
 have hz2:w.heap.size<w3.heap.size:=Nat.lt_of_lt_of_le hz1 hb2.size
 clear hb2 hz1
 by_cases c2:x1<(r.crosses.length:Int)
 ·rw [if_pos c2]
  go_wp2_with fail
  go_ret
  exact ⟨-1,rfl,by omega,by omega,fun h=>absurd h (by omega),HB.out⟩
 rw [if_neg c2]
 obtain ⟨x2,hx2⟩:∃ x,x1-(r.crosses.length:Int)=x:=⟨_,rfl⟩
 rw [hx2]
 have k2:0≤x2∧x2≤left∧r.crosses.length≤1048576:=by omega
 have HX2:=hidP k2.2.2
 have j2:=k2.1
 have i2:=k2.2.1
 clear hx2 k2 c2 m2
 have t2:w3.cell? ⟨w.heap.size,5,none⟩=some (.slice d.a3 r.parts.length d.c3):=HA.out.k5
 go_wp2_with fail
 clear t2
 refine (szPartS_any _ _ _ _ _ m3 (by omega) (by omega)).mono ?_
 rintro e w4 ⟨rfl,hb3⟩
 replace HA:=hidP (HA.out.below hb3)
 replace HB:=hidP (HB.out.trans (hb3.mono HB.out.size))
 have hz3:w.heap.size<w4.heap.size:=Nat.lt_of_lt_of_le hz2 hb3.size
 clear hb3 hz2
 by_cases c3:x2<(r.parts.length:Int)
 ·rw [if_pos c3]
  go_wp2_with fail
  go_ret
  exact ⟨-1,rfl,by omega,by omega,fun h=>absurd h (by omega),HB.out⟩
 rw [if_neg c3]
 obtain ⟨x3,hx3⟩:∃ x,x2-(r.parts.length:Int)=x:=⟨_,rfl⟩
 rw [hx3]
 have k3:0≤x3∧x3≤left∧r.parts.length≤1048576:=by omega
 have HX3:=hidP k3.2.2
 have j3:=k3.1
 have i3:=k3.2.1
 clear hx3 k3 c3 m3
 have t3:w4.cell? ⟨w.heap.size,6,none⟩=some (.slice d.a4 r.over.length d.c4):=HA.out.k6
 go_wp2_with fail
 clear t3
 refine (szPartS_any _ _ _ _ _ m4 (by omega) (by omega)).mono ?_
 rintro e w5 ⟨rfl,hb4⟩
 replace HA:=hidP (HA.out.below hb4)
 replace HB:=hidP (HB.out.trans (hb4.mono HB.out.size))
 have hz4:w.heap.size<w5.heap.size:=Nat.lt_of_lt_of_le hz3 hb4.size
 clear hb4 hz3
 by_cases c4:x3<(r.over.length:Int)
 ·rw [if_pos c4]
  go_wp2_with fail
  go_ret
  exact ⟨-1,rfl,by omega,by omega,fun h=>absurd h (by omega),HB.out⟩
 rw [if_neg c4]
 obtain ⟨x4,hx4⟩:∃ x,x3-(r.over.length:Int)=x:=⟨_,rfl⟩
 rw [hx4]
 have k4:0≤x4∧x4≤left∧r.over.length≤1048576:=by omega
 have HX4:=hidP k4.2.2
 have j4:=k4.1
 have i4:=k4.2.1
 clear hx4 k4 c4 m4
 have t4:w5.cell? ⟨w.heap.size,7,none⟩=some (.slice d.a5 r.flanks.length d.c5):=HA.out.k7
 go_wp2_with fail
 clear t4
 refine (szFlankS_any _ _ _ _ _ m5 (by omega) (by omega)).mono ?_
 rintro e w6 ⟨rfl,hb5⟩
 replace HA:=hidP (HA.out.below hb5)
 replace HB:=hidP (HB.out.trans (hb5.mono HB.out.size))
 have hz5:w.heap.size<w6.heap.size:=Nat.lt_of_lt_of_le hz4 hb5.size
 clear hb5 hz4
 by_cases c5:x4<(r.flanks.length:Int)
 ·rw [if_pos c5]
  go_wp2_with fail
  go_ret
  exact ⟨-1,rfl,by omega,by omega,fun h=>absurd h (by omega),HB.out⟩
 rw [if_neg c5]
 obtain ⟨x5,hx5⟩:∃ x,x4-(r.flanks.length:Int)=x:=⟨_,rfl⟩
 rw [hx5]
 have k5:0≤x5∧x5≤left∧r.flanks.length≤1048576:=by omega
 have HX5:=hidP k5.2.2
 have j5:=k5.1
 have i5:=k5.2.1
 clear hx5 k5 c5 m5
 go_wp2_with fail
 go_ret
 exact ⟨_,rfl,i5,by omega,fun _=>⟨HX0.out,HX1.out,HX2.out,HX3.out,HX4.out,HX5.out⟩,HB.out⟩
end Go.Proofs.YtmkdgnmmebldgabGreatDoor
