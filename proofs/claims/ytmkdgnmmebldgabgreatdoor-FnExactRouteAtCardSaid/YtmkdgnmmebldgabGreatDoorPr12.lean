import Derived.Test.YtmkdgnmmebldgabGreatDoorPr11
set_option maxRecDepth 100000
set_option maxHeartbeats 8000000
namespace Go.Proofs.YtmkdgnmmebldgabGreatDoor
open Go.RowKit Go.Deep
theorem l1at_any (pa ja:Option Addr)(pl pc jc:Nat)(js:List MJoint)(e:MEnd)(i k:Nat)(w:World)(hj:Hid (JointsAt w ja js))(hs:Hid (spotF js e 0=some (i,k))):
  Calls Tryz.prog 99 #[.agg #[.slice pa pl pc,.slice ja js.length jc],endV e] w fun r w'=>r = .returned (.tuple #[.int .i64 i,.int .i64 k])∧Below w.heap.size w w':=by
 have hl:=hj.out.1
 unfold maxLen at hl
 obtain ⟨_,hi,hk,h1,h2,h3⟩:=spotF_some hs.out
 simp only [Nat.sub_zero] at hi hk h1 h2 h3
 have H1:=hidP h1
 have H2:=hidP h2
 have H3:=hidP h3
 clear h1 h2 h3 hs
 obtain ⟨p,s⟩:=e
 unfold endV
 dsimp only
 go_enter Tryz.func99,Tryz.ntmps99
 go_wp2_with fail
 generalize hW:(w.alloc (Obj.cells #[Value.slice pa pl pc,Value.slice ja js.length jc] 39)).alloc (Obj.cells #[Value.int IntKind.i64 p,Value.int IntKind.i64 s] 192)=W
 have e0:W.cell? ⟨w.heap.size+1,0,none⟩=some (.int .i64 p):=by rw [← hW];simp [go_sem]
 have e1:W.cell? ⟨w.heap.size+1,1,none⟩=some (.int .i64 s):=by rw [← hW];simp [go_sem]
 have hz:w.heap.size+2=W.heap.size:=by rw [← hW];simp
 have hbW:Below w.heap.size w W:=by rw [← hW];exact blo
 clear hW
 go_loopw [13] (fun c wr => ∃ (n:Nat),n≤i∧c = .int .i64 n∧Below W.heap.size W wr) (fun c _=>js.length-(intOf c).toNat)
 case atStart=>exact ⟨0,Nat.zero_le _,rfl,Below.refl _ _⟩
 case round =>
  obtain ⟨n,hn,rfl,hb⟩:=hrel
  have hn':n<js.length:=by omega
  obtain ⟨b1,off1,rfl,hpc1⟩:=hj.out.2.2.resolve_left (nz hn')
  obtain ⟨c1,c2,ea,ec,c3,c4⟩:=(hpc1.below hbW) n hn'
  have C4:=hidQ c4
  replace c1:=cell_later hb c1
  replace c2:=cell_later hb c2
  replace c3:=cell_later hb c3
  have hel:=c4.1
  unfold maxLen at hel
  clear hpc1 c4
  have hbs:=hb.size
  go_wp2_with fail
  go_loopw [21] (fun c wr2 => ∃ (m:Nat),m≤js[n].ends.length∧(n=i→m≤k)∧c = .int .i64 m∧Below W.heap.size W wr2) (fun c _=>js[n].ends.length-(intOf c).toNat)
  case atStart=>exact ⟨0,Nat.zero_le _,fun _=>Nat.zero_le _,rfl,blo⟩
  case round =>
   clear c1 c2 c3 hb hbs
   obtain ⟨m,hm,hmk,rfl,hb⟩:=hrel
   have hbs:=hb.size
   by_cases hm':m<js[n].ends.length
   ·obtain ⟨b2,off2,rfl,hpc2⟩:=C4.out.2.resolve_left (nz hm')
    obtain ⟨d1,d2⟩:=(hpc2.below hb) m hm'
    have hz2:w.heap.size+1<_:=Nat.lt_of_lt_of_le (by omega:w.heap.size+1<W.heap.size) hb.size
    have f0:=cell_later hb e0
    have f1:=cell_later hb e1
    clear hpc2
    by_cases hit:n=i∧m=k
    ·obtain ⟨rfl,rfl⟩:=hit
     have h1:js[n].ends[m].piece=p∧js[n].ends[m].side=s:=by rw [H1.out];exact ⟨rfl,rfl⟩
     rw [h1.1] at d1
     rw [h1.2] at d2
     clear h1 hmk
     go_wp2_with fail
     go_ret2
     exact ⟨rfl,hbW.trans (Below.mono (show Below W.heap.size W _ from blo) hbW.size)⟩
    ·have hne:sameE js[n].ends[m] ⟨p,s⟩=false:=by
      by_cases hni:n=i
      ·subst hni
       exact H2.out m hm' (by have:=hmk rfl;omega)
      ·exact H3.out n hn' (by omega) m hm'
     have HMK:Hid (n=i→m+1≤k):=by
      intro hni
      have:=hmk hni
      omega
     have hcs:(js[n].ends[m].piece==p)=false∨(js[n].ends[m].piece==p)=true∧(js[n].ends[m].side==s)=false:=by
      unfold sameE at hne
      revert hne
      cases (js[n].ends[m].piece==p) <;> cases (js[n].ends[m].side==s) <;> simp
     clear hne hit hmk
     rcases hcs with h1 | ⟨h1,h2⟩
     all_goals
      go_wp2_with fail
      go_roundw
      case rel=>exact ⟨m+1,by omega,HMK,by go_num,blo⟩
      case measure=>simp [intOf];omega
   ·have hni:n<i:=by
     by_cases e:n=i
     ·subst e;have:=hmk rfl;omega
     ·omega
    clear hmk
    go_wp2_with fail
    go_roundw
    case rel=>exact ⟨n+1,by omega,by go_num,hb⟩
    case measure=>simp [intOf];omega
def AcrossPost (w:World)(L:List MEnd)(e:Ending)(w':World):Prop := ∃ g,e = .returned (.slice (some ⟨g,0,none⟩) L.length L.length)∧EndCells w' g 0 L∧Below w.heap.size w w'
theorem across_post {w w':World}{L:List MEnd}{g n:Nat}(hn:n=L.length)(hc:EndCells w' g 0 L)(hb:Below w.heap.size w w'):AcrossPost w L (.returned (.slice (some ⟨g,0,none⟩) n n)) w':=by
 subst hn
 exact ⟨g,rfl,hc,hb⟩
theorem endCells_1 {w:World}{g:Nat}{a:MEnd}(h0:w.cell? ⟨g,0,none⟩=some (.int .i64 a.piece))(h1:w.cell? ⟨g,1,none⟩=some (.int .i64 a.side)):EndCells w g 0 [a]:=by
 intro i hi
 have:i=0:=by simpa using hi
 subst this
 exact ⟨h0,h1⟩
theorem endCells_2 {w:World}{g:Nat}{a b:MEnd}(h0:w.cell? ⟨g,0,none⟩=some (.int .i64 a.piece))(h1:w.cell? ⟨g,1,none⟩=some (.int .i64 a.side))(h2:w.cell? ⟨g,2,none⟩=some (.int .i64 b.piece))(h3:w.cell? ⟨g,3,none⟩=some (.int .i64 b.side)):EndCells w g 0 [a,b]:=by
 intro i hi
 have:i=0∨i=1:=by simp at hi;omega
 rcases this with rfl | rfl
 ·exact ⟨h0,h1⟩
 ·exact ⟨h2,h3⟩
theorem l1across_2_0 (s:ByteArray)(x0 x1:MEnd)(ea:Option Addr)(ec:Nat)(w:World)(he:Hid (EndsAt w ea [x0,x1])):
  Calls Tryz.prog 101 #[.agg #[.int .i64 2,.string s,.slice ea 2 ec],.int .i64 0] w (AcrossPost w [x1]):=by
 obtain ⟨b,off,rfl,hpc⟩:=he.out.2.resolve_left (fun h=>by simp at h)
 obtain ⟨c0,d0⟩:=hpc 0 (by simp)
 obtain ⟨c1,d1⟩:=hpc 1 (by simp)
 simp only [Nat.zero_mul,Nat.one_mul,Nat.add_zero,List.getElem_cons_zero,List.getElem_cons_succ] at c0 d0 c1 d1
 have hz:=cellLt c0
 clear hpc
 go_enter Tryz.func101,Tryz.ntmps101
 go_wp2_with fail
 go_ret
 exact across_post rfl (endCells_1 (by simp [go_sem]) (by simp [go_sem])) blo
theorem l1across_2_1 (s:ByteArray)(x0 x1:MEnd)(ea:Option Addr)(ec:Nat)(w:World)(he:Hid (EndsAt w ea [x0,x1])):
  Calls Tryz.prog 101 #[.agg #[.int .i64 2,.string s,.slice ea 2 ec],.int .i64 1] w (AcrossPost w [x0]):=by
 obtain ⟨b,off,rfl,hpc⟩:=he.out.2.resolve_left (fun h=>by simp at h)
 obtain ⟨c0,d0⟩:=hpc 0 (by simp)
 obtain ⟨c1,d1⟩:=hpc 1 (by simp)
 simp only [Nat.zero_mul,Nat.one_mul,Nat.add_zero,List.getElem_cons_zero,List.getElem_cons_succ] at c0 d0 c1 d1
 have hz:=cellLt c0
 clear hpc
 go_enter Tryz.func101,Tryz.ntmps101
 go_wp2_with fail
 go_ret
 exact across_post rfl (endCells_1 (by simp [go_sem]) (by simp [go_sem])) blo
theorem l1across_4_0 (s:ByteArray)(x0 x1 x2 x3:MEnd)(ea:Option Addr)(ec:Nat)(w:World)(he:Hid (EndsAt w ea [x0,x1,x2,x3])):
  Calls Tryz.prog 101 #[.agg #[.int .i64 4,.string s,.slice ea 4 ec],.int .i64 0] w (AcrossPost w [x1]):=by
 obtain ⟨b,off,rfl,hpc⟩:=he.out.2.resolve_left (fun h=>by simp at h)
 obtain ⟨c0,d0⟩:=hpc 0 (by simp)
 obtain ⟨c1,d1⟩:=hpc 1 (by simp)
 obtain ⟨c2,d2⟩:=hpc 2 (by simp)
 obtain ⟨c3,d3⟩:=hpc 3 (by simp)
 simp only [Nat.zero_mul,Nat.one_mul,Nat.reduceMul,Nat.add_zero,List.getElem_cons_zero,List.getElem_cons_succ] at c0 d0 c1 d1 c2 d2 c3 d3
 have hz:=cellLt c0
 clear hpc
 go_enter Tryz.func101,Tryz.ntmps101
 go_wp2_with fail
 go_region
 all_goals
  go_wp2_with fail
  go_ret
  exact across_post rfl (endCells_1 (by simp [go_sem]) (by simp [go_sem])) blo
theorem l1across_4_1 (s:ByteArray)(x0 x1 x2 x3:MEnd)(ea:Option Addr)(ec:Nat)(w:World)(he:Hid (EndsAt w ea [x0,x1,x2,x3])):
  Calls Tryz.prog 101 #[.agg #[.int .i64 4,.string s,.slice ea 4 ec],.int .i64 1] w (AcrossPost w [x0]):=by
 obtain ⟨b,off,rfl,hpc⟩:=he.out.2.resolve_left (fun h=>by simp at h)
 obtain ⟨c0,d0⟩:=hpc 0 (by simp)
 obtain ⟨c1,d1⟩:=hpc 1 (by simp)
 obtain ⟨c2,d2⟩:=hpc 2 (by simp)
 obtain ⟨c3,d3⟩:=hpc 3 (by simp)
 simp only [Nat.zero_mul,Nat.one_mul,Nat.reduceMul,Nat.add_zero,List.getElem_cons_zero,List.getElem_cons_succ] at c0 d0 c1 d1 c2 d2 c3 d3
 have hz:=cellLt c0
 clear hpc
 go_enter Tryz.func101,Tryz.ntmps101
 go_wp2_with fail
 go_region
 all_goals
  go_wp2_with fail
  go_ret
  exact across_post rfl (endCells_1 (by simp [go_sem]) (by simp [go_sem])) blo
theorem l1across_4_2 (s:ByteArray)(x0 x1 x2 x3:MEnd)(ea:Option Addr)(ec:Nat)(w:World)(he:Hid (EndsAt w ea [x0,x1,x2,x3])):
  Calls Tryz.prog 101 #[.agg #[.int .i64 4,.string s,.slice ea 4 ec],.int .i64 2] w (AcrossPost w [x3]):=by
 obtain ⟨b,off,rfl,hpc⟩:=he.out.2.resolve_left (fun h=>by simp at h)
 obtain ⟨c0,d0⟩:=hpc 0 (by simp)
 obtain ⟨c1,d1⟩:=hpc 1 (by simp)
 obtain ⟨c2,d2⟩:=hpc 2 (by simp)
 obtain ⟨c3,d3⟩:=hpc 3 (by simp)
 simp only [Nat.zero_mul,Nat.one_mul,Nat.reduceMul,Nat.add_zero,List.getElem_cons_zero,List.getElem_cons_succ] at c0 d0 c1 d1 c2 d2 c3 d3
 have hz:=cellLt c0
 clear hpc
 go_enter Tryz.func101,Tryz.ntmps101
 go_wp2_with fail
 go_region
 all_goals
  go_wp2_with fail
  go_ret
  exact across_post rfl (endCells_1 (by simp [go_sem]) (by simp [go_sem])) blo
theorem l1across_4_3 (s:ByteArray)(x0 x1 x2 x3:MEnd)(ea:Option Addr)(ec:Nat)(w:World)(he:Hid (EndsAt w ea [x0,x1,x2,x3])):
  Calls Tryz.prog 101 #[.agg #[.int .i64 4,.string s,.slice ea 4 ec],.int .i64 3] w (AcrossPost w [x2]):=by
 obtain ⟨b,off,rfl,hpc⟩:=he.out.2.resolve_left (fun h=>by simp at h)
 obtain ⟨c0,d0⟩:=hpc 0 (by simp)
 obtain ⟨c1,d1⟩:=hpc 1 (by simp)
 obtain ⟨c2,d2⟩:=hpc 2 (by simp)
 obtain ⟨c3,d3⟩:=hpc 3 (by simp)
 simp only [Nat.zero_mul,Nat.one_mul,Nat.reduceMul,Nat.add_zero,List.getElem_cons_zero,List.getElem_cons_succ] at c0 d0 c1 d1 c2 d2 c3 d3
 have hz:=cellLt c0
 clear hpc
 go_enter Tryz.func101,Tryz.ntmps101
 go_wp2_with fail
 go_region
 all_goals
  go_wp2_with fail
  go_ret
  exact across_post rfl (endCells_1 (by simp [go_sem]) (by simp [go_sem])) blo
end Go.Proofs.YtmkdgnmmebldgabGreatDoor
