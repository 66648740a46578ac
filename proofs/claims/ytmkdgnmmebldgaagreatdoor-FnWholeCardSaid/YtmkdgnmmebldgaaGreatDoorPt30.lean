import Derived.Test.YtmkdgnmmebldgaaGreatDoorPt21
import Derived.Test.YtmkdgnmmebldgaaGreatDoorPt29
import Derived.Test.YtmkdgnmmebldgaaGreatDoorPt8
set_option maxRecDepth 100000
set_option maxHeartbeats 8000000
namespace Go.Proofs.YtmkdgnmmebldgaaGreatDoor
open Go.RowKit
theorem bcellK {W w1:World}(hb:Below W.heap.size W w1):(∀ b o,b<W.heap.size→w1.cell? ⟨b,o,none⟩=W.cell? ⟨b,o,none⟩):=
 fun b o h=>hb.cell (p:=⟨b,o,none⟩) h
theorem ok3_kind {np:Nat}{j:MJoint}(h:inB j.kind 1 4=false):ok3 np j=false:=by simp [ok3,h]
theorem ok3_len {np:Nat}{j:MJoint}(h:((j.ends.length:Int)==j.kind)=false):ok3 np j=false:=by simp only [ok3,h];simp
theorem ok3_end {np:Nat}{j:MJoint}(m:Nat)(hm:m<j.ends.length)(h:endB np j.ends[m].piece j.ends[m].side=false):ok3 np j=false:=by
 have:(j.ends.all fun e=>endB np e.piece e.side)=false:=List.all_eq_false.2 ⟨_,List.getElem_mem hm,by simp [h]⟩
 simp only [ok3,this];simp
theorem jointOk_no (j:MJoint)(ea:Option Addr)(ec np:Nat)(w:World)(hk:inB j.kind 1 4=false):
  Calls Tryz.prog 105 #[.agg #[.int .i64 j.kind,.string j.name,.slice ea j.ends.length ec],.int .i64 np] w fun e w'=>e = .returned (.bool (ok3 np j))∧Below w.heap.size w w':=by
 rw [ok3_kind hk]
 go_enter Tryz.func105,Tryz.ntmps105
 go_wp2_with (go_at_call 81;refine (kindOf_no _ hk _).mono ?_;rintro e w' ⟨rfl,rfl⟩)
 go_quiet (fail)
 go_wp2_with fail
 go_ret
 exact ⟨rfl,blo⟩
theorem meth_1 (w : World) : (method 448 205 (.agg #[]) "loop.example/lockbar/impl.endCount").run Tryz.prog w = .ok (217, .agg #[]) w := by kernel_rfl
theorem jointOk_1 (s:ByteArray)(es:List MEnd)(ea:Option Addr)(ec np:Nat)(w:World)(he:Hid (EndsAt w ea es))(hnp:np≤maxLen):
  Calls Tryz.prog 105 #[.agg #[.int .i64 1,.string s,.slice ea es.length ec],.int .i64 np] w fun e w'=>e = .returned (.bool (ok3 np ⟨1,s,es⟩))∧Below w.heap.size w w':=by
 have hel:=he.out.1
 unfold maxLen at hel hnp
 have hm:=meth_1
 cases hk2:((es.length:Int)==1)
 ·have HX:=hidQ (ok3_len (np:=np) (j:=⟨1,s,es⟩) hk2)
  go_enter Tryz.func105,Tryz.ntmps105
  go_wp2_with (go_at_call 81;refine (kindOf_1 _).mono ?_;rintro e w' ⟨rfl,rfl⟩)
  go_region_with (go_at_call 217;refine (endCount_1 _).mono ?_;rintro e w2 ⟨rfl,hb2⟩;have hc2:=bcellK hb2)
  all_goals
   go_wp2_with fail
   go_ret
   exact ⟨ret_bool HX.out.symm,Below.trans blo (hb2.mono (by simp))⟩
 ·have HK2:=hidQ hk2
  go_enter Tryz.func105,Tryz.ntmps105
  go_wp2_with (go_at_call 81;refine (kindOf_1 _).mono ?_;rintro e w' ⟨rfl,rfl⟩)
  go_region_with (go_at_call 217;refine (endCount_1 _).mono ?_;rintro e w2 ⟨rfl,hb2⟩;have hc2:=bcellK hb2)
  all_goals
   have hbn:((es.length:Int) != 1)=false:=by rw [bne,HK2.out];rfl
   simp only [hbn]
   have hb3:Below w.heap.size w w2:=Below.trans blo (hb2.mono (by simp))
   clear hbn hm hk2
   go_wp2_with fail
   clear hb2 hc2
   go_loopw [28] (fun c wr => ∃ (m:Nat),m≤es.length∧c = .int .i64 m∧Hid (∀ q (hq:q<es.length),q<m→endB np es[q].piece es[q].side=true)∧Below w.heap.size w wr) (fun c _=>es.length-(intOf c).toNat)
   case atStart=>exact ⟨0,Nat.zero_le _,rfl,(fun q _ h=>absurd h (Nat.not_lt_zero q)),hb3⟩
   case round =>
    clear hb3
    obtain ⟨m,hm,rfl,HQ,hb⟩:=hrel
    have hbs:=hb.size
    by_cases hm':m<es.length
    ·obtain ⟨b2,off2,rfl,hpc2⟩:=he.out.2.resolve_left (nz hm')
     obtain ⟨d1,d2⟩:=(hpc2.below hb) m hm'
     clear hpc2
     cases hE:endB np es[m].piece es[m].side
     ·have HX:=hidQ (ok3_end (j:=⟨1,s,es⟩) m hm' hE)
      have hcs:inB es[m].piece 0 ((np:Int)-1)=false∨inB es[m].piece 0 ((np:Int)-1)=true∧inB es[m].side 0 1=false:=by
       unfold endB at hE
       revert hE
       cases inB es[m].piece 0 ((np:Int)-1) <;> simp
      clear hE
      rcases hcs with q1 | ⟨q1,q2⟩
      all_goals
       go_wp2_with (go_at_call 80;refine (within_any _ _ _ _).mono ?_;rintro e w' ⟨rfl,rfl⟩)
       go_ret
       exact ⟨ret_bool HX.out.symm,blo⟩
     ·have HQ2:Hid (∀ q (hq:q<es.length),q<m+1→endB np es[q].piece es[q].side=true):=by
       intro q hq hqm
       by_cases e:q<m
       ·exact HQ.out q hq e
       ·have:q=m:=by omega
        subst this;exact hE
      have q1:inB es[m].piece 0 ((np:Int)-1)=true:=by
       unfold endB at hE;revert hE;cases inB es[m].piece 0 ((np:Int)-1) <;> simp
      have q2:inB es[m].side 0 1=true:=by
       unfold endB at hE;revert hE;cases inB es[m].side 0 1 <;> simp
      clear hE HQ
      go_wp2_with (go_at_call 80;refine (within_any _ _ _ _).mono ?_;rintro e w' ⟨rfl,rfl⟩)
      go_roundw
      case rel=>exact ⟨m+1,by omega,by go_num,HQ2,blo⟩
      case measure=>simp [intOf];omega
    ·have HX:Hid (ok3 np ⟨1,s,es⟩=true):=ok3_of (by rfl) HK2.out (fun q hq=>HQ.out q hq (by have hq2:q<es.length:=hq;omega))
     clear HQ
     go_wp2_with fail
     go_ret
     exact ⟨ret_bool HX.out.symm,hb⟩
theorem meth_2 (w : World) : (method 448 206 (.agg #[]) "loop.example/lockbar/impl.endCount").run Tryz.prog w = .ok (219, .agg #[]) w := by kernel_rfl
theorem jointOk_2 (s:ByteArray)(es:List MEnd)(ea:Option Addr)(ec np:Nat)(w:World)(he:Hid (EndsAt w ea es))(hnp:np≤maxLen):
  Calls Tryz.prog 105 #[.agg #[.int .i64 2,.string s,.slice ea es.length ec],.int .i64 np] w fun e w'=>e = .returned (.bool (ok3 np ⟨2,s,es⟩))∧Below w.heap.size w w':=by
 have hel:=he.out.1
 unfold maxLen at hel hnp
 have hm:=meth_2
 cases hk2:((es.length:Int)==2)
 ·have HX:=hidQ (ok3_len (np:=np) (j:=⟨2,s,es⟩) hk2)
  go_enter Tryz.func105,Tryz.ntmps105
  go_wp2_with (go_at_call 81;refine (kindOf_2 _).mono ?_;rintro e w' ⟨rfl,rfl⟩)
  go_region_with (go_at_call 219;refine (endCount_2 _).mono ?_;rintro e w2 ⟨rfl,hb2⟩;have hc2:=bcellK hb2)
  all_goals
   go_wp2_with fail
   go_ret
   exact ⟨ret_bool HX.out.symm,Below.trans blo (hb2.mono (by simp))⟩
 ·have HK2:=hidQ hk2
  go_enter Tryz.func105,Tryz.ntmps105
  go_wp2_with (go_at_call 81;refine (kindOf_2 _).mono ?_;rintro e w' ⟨rfl,rfl⟩)
  go_region_with (go_at_call 219;refine (endCount_2 _).mono ?_;rintro e w2 ⟨rfl,hb2⟩;have hc2:=bcellK hb2)
  all_goals
   have hbn:((es.length:Int) != 2)=false:=by rw [bne,HK2.out];rfl
   simp only [hbn]
   have hb3:Below w.heap.size w w2:=Below.trans blo (hb2.mono (by simp))
   clear hbn hm hk2
   go_wp2_with fail
   clear hb2 hc2
   go_loopw [28] (fun c wr => ∃ (m:Nat),m≤es.length∧c = .int .i64 m∧Hid (∀ q (hq:q<es.length),q<m→endB np es[q].piece es[q].side=true)∧Below w.heap.size w wr) (fun c _=>es.length-(intOf c).toNat)
   case atStart=>exact ⟨0,Nat.zero_le _,rfl,(fun q _ h=>absurd h (Nat.not_lt_zero q)),hb3⟩
   case round =>
    clear hb3
    obtain ⟨m,hm,rfl,HQ,hb⟩:=hrel
    have hbs:=hb.size
    by_cases hm':m<es.length
    ·obtain ⟨b2,off2,rfl,hpc2⟩:=he.out.2.resolve_left (nz hm')
     obtain ⟨d1,d2⟩:=(hpc2.below hb) m hm'
     clear hpc2
     cases hE:endB np es[m].piece es[m].side
     ·have HX:=hidQ (ok3_end (j:=⟨2,s,es⟩) m hm' hE)
      have hcs:inB es[m].piece 0 ((np:Int)-1)=false∨inB es[m].piece 0 ((np:Int)-1)=true∧inB es[m].side 0 1=false:=by
       unfold endB at hE
       revert hE
       cases inB es[m].piece 0 ((np:Int)-1) <;> simp
      clear hE
      rcases hcs with q1 | ⟨q1,q2⟩
      all_goals
       go_wp2_with (go_at_call 80;refine (within_any _ _ _ _).mono ?_;rintro e w' ⟨rfl,rfl⟩)
       go_ret
       exact ⟨ret_bool HX.out.symm,blo⟩
     ·have HQ2:Hid (∀ q (hq:q<es.length),q<m+1→endB np es[q].piece es[q].side=true):=by
       intro q hq hqm
       by_cases e:q<m
       ·exact HQ.out q hq e
       ·have:q=m:=by omega
        subst this;exact hE
      have q1:inB es[m].piece 0 ((np:Int)-1)=true:=by
       unfold endB at hE;revert hE;cases inB es[m].piece 0 ((np:Int)-1) <;> simp
      have q2:inB es[m].side 0 1=true:=by
       unfold endB at hE;revert hE;cases inB es[m].side 0 1 <;> simp
      clear hE HQ
      go_wp2_with (go_at_call 80;refine (within_any _ _ _ _).mono ?_;rintro e w' ⟨rfl,rfl⟩)
      go_roundw
      case rel=>exact ⟨m+1,by omega,by go_num,HQ2,blo⟩
      case measure=>simp [intOf];omega
    ·have HX:Hid (ok3 np ⟨2,s,es⟩=true):=ok3_of (by rfl) HK2.out (fun q hq=>HQ.out q hq (by have hq2:q<es.length:=hq;omega))
     clear HQ
     go_wp2_with fail
     go_ret
     exact ⟨ret_bool HX.out.symm,hb⟩
theorem meth_3 (w : World) : (method 448 207 (.agg #[]) "loop.example/lockbar/impl.endCount").run Tryz.prog w = .ok (221, .agg #[]) w := by kernel_rfl
theorem jointOk_3 (s:ByteArray)(es:List MEnd)(ea:Option Addr)(ec np:Nat)(w:World)(he:Hid (EndsAt w ea es))(hnp:np≤maxLen):
  Calls Tryz.prog 105 #[.agg #[.int .i64 3,.string s,.slice ea es.length ec],.int .i64 np] w fun e w'=>e = .returned (.bool (ok3 np ⟨3,s,es⟩))∧Below w.heap.size w w':=by
 have hel:=he.out.1
 unfold maxLen at hel hnp
 have hm:=meth_3
 cases hk2:((es.length:Int)==3)
 ·have HX:=hidQ (ok3_len (np:=np) (j:=⟨3,s,es⟩) hk2)
  go_enter Tryz.func105,Tryz.ntmps105
  go_wp2_with (go_at_call 81;refine (kindOf_3 _).mono ?_;rintro e w' ⟨rfl,rfl⟩)
  go_region_with (go_at_call 221;refine (endCount_3 _).mono ?_;rintro e w2 ⟨rfl,hb2⟩;have hc2:=bcellK hb2)
  all_goals
   go_wp2_with fail
   go_ret
   exact ⟨ret_bool HX.out.symm,Below.trans blo (hb2.mono (by simp))⟩
 ·have HK2:=hidQ hk2
  go_enter Tryz.func105,Tryz.ntmps105
  go_wp2_with (go_at_call 81;refine (kindOf_3 _).mono ?_;rintro e w' ⟨rfl,rfl⟩)
  go_region_with (go_at_call 221;refine (endCount_3 _).mono ?_;rintro e w2 ⟨rfl,hb2⟩;have hc2:=bcellK hb2)
  all_goals
   have hbn:((es.length:Int) != 3)=false:=by rw [bne,HK2.out];rfl
   simp only [hbn]
   have hb3:Below w.heap.size w w2:=Below.trans blo (hb2.mono (by simp))
   clear hbn hm hk2
   go_wp2_with fail
   clear hb2 hc2
   go_loopw [28] (fun c wr => ∃ (m:Nat),m≤es.length∧c = .int .i64 m∧Hid (∀ q (hq:q<es.length),q<m→endB np es[q].piece es[q].side=true)∧Below w.heap.size w wr) (fun c _=>es.length-(intOf c).toNat)
   case atStart=>exact ⟨0,Nat.zero_le _,rfl,(fun q _ h=>absurd h (Nat.not_lt_zero q)),hb3⟩
   case round =>
    clear hb3
    obtain ⟨m,hm,rfl,HQ,hb⟩:=hrel
    have hbs:=hb.size
    by_cases hm':m<es.length
    ·obtain ⟨b2,off2,rfl,hpc2⟩:=he.out.2.resolve_left (nz hm')
     obtain ⟨d1,d2⟩:=(hpc2.below hb) m hm'
     clear hpc2
     cases hE:endB np es[m].piece es[m].side
     ·have HX:=hidQ (ok3_end (j:=⟨3,s,es⟩) m hm' hE)
      have hcs:inB es[m].piece 0 ((np:Int)-1)=false∨inB es[m].piece 0 ((np:Int)-1)=true∧inB es[m].side 0 1=false:=by
       unfold endB at hE
       revert hE
       cases inB es[m].piece 0 ((np:Int)-1) <;> simp
      clear hE
      rcases hcs with q1 | ⟨q1,q2⟩
      all_goals
       go_wp2_with (go_at_call 80;refine (within_any _ _ _ _).mono ?_;rintro e w' ⟨rfl,rfl⟩)
       go_ret
       exact ⟨ret_bool HX.out.symm,blo⟩
     ·have HQ2:Hid (∀ q (hq:q<es.length),q<m+1→endB np es[q].piece es[q].side=true):=by
       intro q hq hqm
       by_cases e:q<m
       ·exact HQ.out q hq e
       ·have:q=m:=by omega
        subst this;exact hE
      have q1:inB es[m].piece 0 ((np:Int)-1)=true:=by
       unfold endB at hE;revert hE;cases inB es[m].piece 0 ((np:Int)-1) <;> simp
      have q2:inB es[m].side 0 1=true:=by
       unfold endB at hE;revert hE;cases inB es[m].side 0 1 <;> simp
      clear hE HQ
      go_wp2_with (go_at_call 80;refine (within_any _ _ _ _).mono ?_;rintro e w' ⟨rfl,rfl⟩)
      go_roundw
      case rel=>exact ⟨m+1,by omega,by go_num,HQ2,blo⟩
      case measure=>simp [intOf];omega
    ·have HX:Hid (ok3 np ⟨3,s,es⟩=true):=ok3_of (by rfl) HK2.out (fun q hq=>HQ.out q hq (by have hq2:q<es.length:=hq;omega))
     clear HQ
     go_wp2_with fail
     go_ret
     exact ⟨ret_bool HX.out.symm,hb⟩
theorem meth_4 (w : World) : (method 448 208 (.agg #[]) "loop.example/lockbar/impl.endCount").run Tryz.prog w = .ok (223, .agg #[]) w := by kernel_rfl
theorem jointOk_4 (s:ByteArray)(es:List MEnd)(ea:Option Addr)(ec np:Nat)(w:World)(he:Hid (EndsAt w ea es))(hnp:np≤maxLen):
  Calls Tryz.prog 105 #[.agg #[.int .i64 4,.string s,.slice ea es.length ec],.int .i64 np] w fun e w'=>e = .returned (.bool (ok3 np ⟨4,s,es⟩))∧Below w.heap.size w w':=by
 have hel:=he.out.1
 unfold maxLen at hel hnp
 have hm:=meth_4
 cases hk2:((es.length:Int)==4)
 ·have HX:=hidQ (ok3_len (np:=np) (j:=⟨4,s,es⟩) hk2)
  go_enter Tryz.func105,Tryz.ntmps105
  go_wp2_with (go_at_call 81;refine (kindOf_4 _).mono ?_;rintro e w' ⟨rfl,rfl⟩)
  go_region_with (go_at_call 223;refine (endCount_4 _).mono ?_;rintro e w2 ⟨rfl,hb2⟩;have hc2:=bcellK hb2)
  all_goals
   go_wp2_with fail
   go_ret
   exact ⟨ret_bool HX.out.symm,Below.trans blo (hb2.mono (by simp))⟩
 ·have HK2:=hidQ hk2
  go_enter Tryz.func105,Tryz.ntmps105
  go_wp2_with (go_at_call 81;refine (kindOf_4 _).mono ?_;rintro e w' ⟨rfl,rfl⟩)
  go_region_with (go_at_call 223;refine (endCount_4 _).mono ?_;rintro e w2 ⟨rfl,hb2⟩;have hc2:=bcellK hb2)
  all_goals
   have hbn:((es.length:Int) != 4)=false:=by rw [bne,HK2.out];rfl
   simp only [hbn]
   have hb3:Below w.heap.size w w2:=Below.trans blo (hb2.mono (by simp))
   clear hbn hm hk2
   go_wp2_with fail
   clear hb2 hc2
   go_loopw [28] (fun c wr => ∃ (m:Nat),m≤es.length∧c = .int .i64 m∧Hid (∀ q (hq:q<es.length),q<m→endB np es[q].piece es[q].side=true)∧Below w.heap.size w wr) (fun c _=>es.length-(intOf c).toNat)
   case atStart=>exact ⟨0,Nat.zero_le _,rfl,(fun q _ h=>absurd h (Nat.not_lt_zero q)),hb3⟩
   case round =>
    clear hb3
    obtain ⟨m,hm,rfl,HQ,hb⟩:=hrel
    have hbs:=hb.size
    by_cases hm':m<es.length
    ·obtain ⟨b2,off2,rfl,hpc2⟩:=he.out.2.resolve_left (nz hm')
     obtain ⟨d1,d2⟩:=(hpc2.below hb) m hm'
     clear hpc2
     cases hE:endB np es[m].piece es[m].side
     ·have HX:=hidQ (ok3_end (j:=⟨4,s,es⟩) m hm' hE)
      have hcs:inB es[m].piece 0 ((np:Int)-1)=false∨inB es[m].piece 0 ((np:Int)-1)=true∧inB es[m].side 0 1=false:=by
       unfold endB at hE
       revert hE
       cases inB es[m].piece 0 ((np:Int)-1) <;> simp
      clear hE
      rcases hcs with q1 | ⟨q1,q2⟩
      all_goals
       go_wp2_with (go_at_call 80;refine (within_any _ _ _ _).mono ?_;rintro e w' ⟨rfl,rfl⟩)
       go_ret
       exact ⟨ret_bool HX.out.symm,blo⟩
     ·have HQ2:Hid (∀ q (hq:q<es.length),q<m+1→endB np es[q].piece es[q].side=true):=by
       intro q hq hqm
       by_cases e:q<m
       ·exact HQ.out q hq e
       ·have:q=m:=by omega
        subst this;exact hE
      have q1:inB es[m].piece 0 ((np:Int)-1)=true:=by
       unfold endB at hE;revert hE;cases inB es[m].piece 0 ((np:Int)-1) <;> simp
      have q2:inB es[m].side 0 1=true:=by
       unfold endB at hE;revert hE;cases inB es[m].side 0 1 <;> simp
      clear hE HQ
      go_wp2_with (go_at_call 80;refine (within_any _ _ _ _).mono ?_;rintro e w' ⟨rfl,rfl⟩)
      go_roundw
      case rel=>exact ⟨m+1,by omega,by go_num,HQ2,blo⟩
      case measure=>simp [intOf];omega
    ·have HX:Hid (ok3 np ⟨4,s,es⟩=true):=ok3_of (by rfl) HK2.out (fun q hq=>HQ.out q hq (by have hq2:q<es.length:=hq;omega))
     clear HQ
     go_wp2_with fail
     go_ret
     exact ⟨ret_bool HX.out.symm,hb⟩
theorem kind_cases {k:Int}(h:inB k 1 4=true):k=1∨k=2∨k=3∨k=4:=by
 unfold inB at h
 simp at h
 omega
theorem jointOk_any (j:MJoint)(ea:Option Addr)(ec np:Nat)(w:World)(he:Hid (EndsAt w ea j.ends))(hnp:np≤maxLen):
  Calls Tryz.prog 105 #[.agg #[.int .i64 j.kind,.string j.name,.slice ea j.ends.length ec],.int .i64 np] w fun e w'=>e = .returned (.bool (ok3 np j))∧Below w.heap.size w w':=by
 cases hk:inB j.kind 1 4
 ·exact jointOk_no j ea ec np w hk
 ·obtain ⟨kd,s,es⟩:=j
  rcases kind_cases hk with h | h | h | h
  ·obtain rfl:kd=1:=h
   exact jointOk_1 s es ea ec np w he hnp
  ·obtain rfl:kd=2:=h
   exact jointOk_2 s es ea ec np w he hnp
  ·obtain rfl:kd=3:=h
   exact jointOk_3 s es ea ec np w he hnp
  ·obtain rfl:kd=4:=h
   exact jointOk_4 s es ea ec np w he hnp
theorem firstWrongJoint_any (pa ja:Option Addr)(pl pc jc:Nat)(js:List MJoint)(w:World)(hj:Hid (JointsAt w ja js))(hpl:pl≤maxLen):
  Calls Tryz.prog 66 #[.agg #[.slice pa pl pc,.slice ja js.length jc]] w fun e w'=>e = .returned (.int .i64 (firstBad (bad3i pl js) js.length))∧Below w.heap.size w w':=by
 have hl:=hj.out.1
 unfold maxLen at hl
 go_enter Tryz.func66,Tryz.ntmps66
 go_wp2_with fail
 generalize hW:w.alloc (Obj.cells #[Value.slice pa pl pc,Value.slice ja js.length jc] 26)=W
 have e0:W.cell? ⟨w.heap.size,0,none⟩=some (.slice pa pl pc):=by rw [← hW];simp [go_sem]
 have hz:w.heap.size+1=W.heap.size:=by rw [← hW];simp
 have hbW:Below w.heap.size w W:=by rw [← hW];exact blo
 clear hW
 go_loopw [8] (fun c wr => ∃ (i:Nat),i≤js.length∧c = .int .i64 i∧Hid (∀ q,q<i→bad3i pl js q=false)∧Below W.heap.size W wr) (fun c _=>js.length-(intOf c).toNat)
 case atStart=>exact ⟨0,Nat.zero_le _,rfl,(fun q h=>absurd h (Nat.not_lt_zero q)),blo⟩
 case round =>
  obtain ⟨i,hi,rfl,HQ,hb⟩:=hrel
  have hbs:=hb.size
  have hz2:w.heap.size<wr.heap.size:=by omega
  have e0':=cell_later hb e0
  by_cases hi':i<js.length
  ·obtain ⟨b1,off1,rfl,hpc⟩:=hj.out.2.2.resolve_left (nz hi')
   obtain ⟨c1,c2,ea,ec,c3,c4⟩:=((hpc.below hbW).below hb) i hi'
   have C4:=hidQ c4
   clear hpc c4
   go_wp2_with fail
   refine (jointOk_any js[i] _ _ _ _ (C4.out.below blo) hpl).mono ?_
   rintro e w2 ⟨rfl,hb2⟩
   have hb3:Below W.heap.size W w2:=Below.trans blo (hb2.mono (by simp;omega))
   clear hb hb2 c1 c2 c3 e0'
   cases ho:ok3 pl js[i]
   ·have HX:=hidQ (firstBad_hit hi' (by rw [bad3i_at hi',ho];rfl) HQ.out)
    clear ho
    go_wp2_with fail
    go_ret
    exact ⟨ret_int HX.out.symm,hbW.trans (hb3.mono hbW.size)⟩
   ·have HQ2:Hid (∀ q,q<i+1→bad3i pl js q=false):=by
     intro q hq
     by_cases e:q<i
     ·exact HQ.out q e
     ·have:q=i:=by omega
      subst this
      rw [bad3i_at hi',ho];rfl
    clear ho HQ
    go_wp2_with fail
    go_roundw
    case rel=>exact ⟨i+1,by omega,by go_num,HQ2,hb3⟩
    case measure=>simp [intOf];omega
  ·have HX:=hidQ (firstBad_none (bad:=bad3i pl js) (n:=js.length) (fun q h=>HQ.out q (by omega)))
   clear HQ
   go_wp2_with fail
   go_ret
   exact ⟨ret_int HX.out.symm,hbW.trans (hb.mono hbW.size)⟩
theorem jointNameOk_1 (s:ByteArray)(m:Option Nat)(w:World):
  Calls Tryz.prog 106 #[.iface 205 (.agg #[]),.string s,.map m] w fun e w'=>e = .returned (.bool (decide (s=⟨#[]⟩)))∧w'=w:=by
 by_cases h:s=⟨#[]⟩
 ·subst h
  go_enter Tryz.func106,Tryz.ntmps106
  go_wp2_with (go_at_call 130;refine (hasName_1 _).mono ?_;rintro e w' ⟨rfl,rfl⟩)
  go_ret
  exact ⟨rfl,rfl⟩
 ·have HX:Hid (decide (s=(⟨#[]⟩:ByteArray))=false):=by unfold Hid;simp [h]
  have h':=emptyS_ne h
  clear h
  go_enter Tryz.func106,Tryz.ntmps106
  go_wp2_with (go_at_call 130;refine (hasName_1 _).mono ?_;rintro e w' ⟨rfl,rfl⟩)
  go_ret
  exact ⟨ret_bool HX.out.symm,rfl⟩
theorem jointNameOk_2 (s:ByteArray)(m:Option Nat)(w:World):
  Calls Tryz.prog 106 #[.iface 206 (.agg #[]),.string s,.map m] w fun e w'=>e = .returned (.bool (decide (s=⟨#[]⟩)))∧w'=w:=by
 by_cases h:s=⟨#[]⟩
 ·subst h
  go_enter Tryz.func106,Tryz.ntmps106
  go_wp2_with (go_at_call 130;refine (hasName_2 _).mono ?_;rintro e w' ⟨rfl,rfl⟩)
  go_ret
  exact ⟨rfl,rfl⟩
 ·have HX:Hid (decide (s=(⟨#[]⟩:ByteArray))=false):=by unfold Hid;simp [h]
  have h':=emptyS_ne h
  clear h
  go_enter Tryz.func106,Tryz.ntmps106
  go_wp2_with (go_at_call 130;refine (hasName_2 _).mono ?_;rintro e w' ⟨rfl,rfl⟩)
  go_ret
  exact ⟨ret_bool HX.out.symm,rfl⟩
theorem jointNameOk_3 (s:ByteArray)(b:Nat)(c:Int)(w:World)(hs:s.size≤maxLen)(hl:(Instr.lookup 189 (.map (some b)) (.string s) false).run Tryz.prog w = .ok (.int .i64 c) w):
  Calls Tryz.prog 106 #[.iface 207 (.agg #[]),.string s,.map (some b)] w fun e w'=>e = .returned (.bool (nameB s&&(c==0)))∧w'=w:=by
 cases h:nameB s
 ·go_enter Tryz.func106,Tryz.ntmps106
  go_wp2_with (first | (go_at_call 130;refine (hasName_3 _).mono ?_;rintro e w' ⟨rfl,rfl⟩) | (go_at_call 129;refine (nameOk_any _ _ hs).mono ?_;rintro e w' ⟨rfl,rfl⟩))
  go_ret
  exact ⟨rfl,rfl⟩
 ·go_enter Tryz.func106,Tryz.ntmps106
  go_wp2_with (first | (go_at_call 130;refine (hasName_3 _).mono ?_;rintro e w' ⟨rfl,rfl⟩) | (go_at_call 129;refine (nameOk_any _ _ hs).mono ?_;rintro e w' ⟨rfl,rfl⟩))
  go_ret
  exact ⟨ret_bool (by simp),rfl⟩
theorem jointNameOk_4 (s:ByteArray)(b:Nat)(c:Int)(w:World)(hs:s.size≤maxLen)(hl:(Instr.lookup 189 (.map (some b)) (.string s) false).run Tryz.prog w = .ok (.int .i64 c) w):
  Calls Tryz.prog 106 #[.iface 208 (.agg #[]),.string s,.map (some b)] w fun e w'=>e = .returned (.bool (nameB s&&(c==0)))∧w'=w:=by
 cases h:nameB s
 ·go_enter Tryz.func106,Tryz.ntmps106
  go_wp2_with (first | (go_at_call 130;refine (hasName_4 _).mono ?_;rintro e w' ⟨rfl,rfl⟩) | (go_at_call 129;refine (nameOk_any _ _ hs).mono ?_;rintro e w' ⟨rfl,rfl⟩))
  go_ret
  exact ⟨rfl,rfl⟩
 ·go_enter Tryz.func106,Tryz.ntmps106
  go_wp2_with (first | (go_at_call 130;refine (hasName_4 _).mono ?_;rintro e w' ⟨rfl,rfl⟩) | (go_at_call 129;refine (nameOk_any _ _ hs).mono ?_;rintro e w' ⟨rfl,rfl⟩))
  go_ret
  exact ⟨ret_bool (by simp),rfl⟩
theorem names_succ {ps:List MJoint}{i:Nat}(h:i<ps.length):names (ps.take (i+1))=names (ps.take i)++[ps[i].name]:=by
 unfold names
 rw [List.take_succ_eq_append_getElem h,List.map_append]
 rfl
theorem names_len (ps:List MJoint)(i:Nat):(names (ps.take i)).length≤i:=by
 unfold names
 rw [List.length_map]
 exact List.length_take_le _ _
theorem ok4_low {js:List MJoint}{i:Nat}{j:MJoint}{k:Int}(hk:j.kind=k)(h3:k<3):ok4 js i j=decide (j.name=⟨#[]⟩):=by
 unfold ok4
 rw [hk,if_pos h3]
theorem ok4_high {js:List MJoint}{i:Nat}{j:MJoint}{k:Int}(hk:j.kind=k)(h3:¬ k<3):ok4 js i j=(nameB j.name&&(fS (names (js.take i)) (.string j.name)==0)):=by
 unfold ok4
 rw [hk,if_neg h3]
 congr 1
 show (!aheadB (names (js.take i)) j.name)=(((cntS (names (js.take i)) j.name:Nat):Int)==0)
 cases hA:aheadB (names (js.take i)) j.name
 ·rw [(cntS_zero _ _).2 hA];rfl
 ·have:cntS (names (js.take i)) j.name≠0:=fun h=>by rw [cntS_zero,hA] at h;cases h
  symm
  rw [Bool.not_true,beq_eq_false_iff_ne]
  omega
theorem firstWrongJointName_any (ja:Option Addr)(jc:Nat)(js:List MJoint)(w:World)(hj:Hid (JointsAt w ja js))(hl:js.length≤1000000)(hkk:Hid (∀ q (h:q<js.length),inB js[q].kind 1 4=true)):
  Calls Tryz.prog 67 #[.slice ja js.length jc] w fun e w'=>e = .returned (.int .i64 (firstBad (bad4i js) js.length))∧Below w.heap.size w w':=by
 have hmm := @run_makeMap Tryz.prog
 go_enter Tryz.func67,Tryz.ntmps67
 go_wp2_with fail
 have HM:=hidQ (CMap.made 9 w)
 rw [← fS_nil] at HM
 go_loopw [11] (fun c wr => ∃ (i:Nat),i≤js.length∧c = .int .i64 i∧Hid (∀ q,q<i→bad4i js q=false)∧Hid (CMap 9 wr w.heap.size i (fS (names (js.take i))))∧Below w.heap.size w wr) (fun c _=>js.length-(intOf c).toNat)
 case atStart=>exact ⟨0,Nat.zero_le _,rfl,(fun q h=>absurd h (Nat.not_lt_zero q)),HM.out,blo⟩
 case round =>
  clear HM hmm
  obtain ⟨i,hi,rfl,HQ,HM,hb⟩:=hrel
  have hbs:=hb.size
  by_cases hi':i<js.length
  ·obtain ⟨b1,off1,rfl,hpc⟩:=hj.out.2.2.resolve_left (nz hi')
   obtain ⟨c1,c2,ea,ec,c3,c4⟩:=(hpc.below hb) i hi'
   have hsz:js[i].name.size≤maxLen:=hj.out.2.1 _ (List.getElem_mem hi')
   clear hpc c4
   have HQ2:Hid (ok4 js i js[i]=true→∀ q,q<i+1→bad4i js q=false):=by
    intro ho q hq
    by_cases e:q<i
    ·exact HQ.out q e
    ·have:q=i:=by omega
     subst this
     rw [bad4i_at hi',ho];rfl
   have HX:Hid (ok4 js i js[i]=false→firstBad (bad4i js) js.length=i):=fun ho=>firstBad_hit hi' (by rw [bad4i_at hi',ho];rfl) HQ.out
   have hM2:∀ o,CMap 9 (wr.alloc o) w.heap.size i (fS (names (js.take i))):=fun o=>HM.out.below (show Below wr.heap.size wr (wr.alloc o) from blo)
   have hlk:=fun o=>(hM2 o).lookup lawS Tryz.underlying189 (keyS hsz)
   have hcn:0≤fS (names (js.take i)) (.string js[i].name)∧fS (names (js.take i)) (.string js[i].name)≤1000000:=by
    show (0:Int)≤((cntS _ _:Nat):Int)∧((cntS _ _:Nat):Int)≤1000000
    have h1:=cntS_le (names (js.take i)) js[i].name
    have h2:=names_len js i
    omega
   have hup:=fun o=>(hM2 o).update lawS Tryz.underlying189 (by unfold maxLen;omega) (keyS hsz) (fS (names (js.take i)) (.string js[i].name)+1) (wf64 (by omega) (by omega)) (fS (names (js.take (i+1)))) (by rw [names_succ hi',fS_same];rfl) (by rw [names_succ hi'];exact fS_other _ _)
   have HUP:=hidQ hup
   clear hM2 hup HQ HM
   rcases kind_cases (hkk.out i hi') with hk | hk | hk | hk
   ·have hok:=ok4_low (js:=js) (i:=i) hk (by omega)
    rw [hk] at c1
    clear hk
    obtain ⟨w3,hup,hM3,hg⟩:=HUP.out (Obj.cells #[Value.int IntKind.i64 1,Value.string js[i].name,Value.slice ea js[i].ends.length ec] 109)
    have HM3:=hidQ hM3
    have hb4:Below w.heap.size w w3:=Below.grown (show Below w.heap.size w (wr.alloc _) from blo) hg (by simp;omega) (fun j hj=>by cases hj;exact Nat.le_refl _)
    clear hM3 hg HUP
    cases ho:ok4 js i js[i]
    ·have HX2:=hidQ (HX.out ho)
     rw [ho] at hok
     replace hok:=hok.symm
     clear HX HQ2 ho hup HM3 hb4
     go_wp2_with (first | (go_at_call 81;refine (kindOf_1 _).mono ?_;rintro e w' ⟨rfl,rfl⟩) | (go_at_call 106;refine (jointNameOk_1 _ _ _).mono ?_;rintro e w' ⟨rfl,rfl⟩))
     go_ret
     exact ⟨ret_int HX2.out.symm,blo⟩
    ·have HQ3:=hidQ (HQ2.out ho)
     rw [ho] at hok
     replace hok:=hok.symm
     clear HX HQ2 ho
     go_wp2_with (first | (go_at_call 81;refine (kindOf_1 _).mono ?_;rintro e w' ⟨rfl,rfl⟩) | (go_at_call 106;refine (jointNameOk_1 _ _ _).mono ?_;rintro e w' ⟨rfl,rfl⟩))
     go_roundw
     case rel=>exact ⟨i+1,by omega,by go_num,HQ3,HM3,hb4⟩
     case measure=>simp [intOf];omega
   ·have hok:=ok4_low (js:=js) (i:=i) hk (by omega)
    rw [hk] at c1
    clear hk
    obtain ⟨w3,hup,hM3,hg⟩:=HUP.out (Obj.cells #[Value.int IntKind.i64 2,Value.string js[i].name,Value.slice ea js[i].ends.length ec] 109)
    have HM3:=hidQ hM3
    have hb4:Below w.heap.size w w3:=Below.grown (show Below w.heap.size w (wr.alloc _) from blo) hg (by simp;omega) (fun j hj=>by cases hj;exact Nat.le_refl _)
    clear hM3 hg HUP
    cases ho:ok4 js i js[i]
    ·have HX2:=hidQ (HX.out ho)
     rw [ho] at hok
     replace hok:=hok.symm
     clear HX HQ2 ho hup HM3 hb4
     go_wp2_with (first | (go_at_call 81;refine (kindOf_2 _).mono ?_;rintro e w' ⟨rfl,rfl⟩) | (go_at_call 106;refine (jointNameOk_2 _ _ _).mono ?_;rintro e w' ⟨rfl,rfl⟩))
     go_ret
     exact ⟨ret_int HX2.out.symm,blo⟩
    ·have HQ3:=hidQ (HQ2.out ho)
     rw [ho] at hok
     replace hok:=hok.symm
     clear HX HQ2 ho
     go_wp2_with (first | (go_at_call 81;refine (kindOf_2 _).mono ?_;rintro e w' ⟨rfl,rfl⟩) | (go_at_call 106;refine (jointNameOk_2 _ _ _).mono ?_;rintro e w' ⟨rfl,rfl⟩))
     go_roundw
     case rel=>exact ⟨i+1,by omega,by go_num,HQ3,HM3,hb4⟩
     case measure=>simp [intOf];omega
   ·have hok:=ok4_high (js:=js) (i:=i) hk (by omega)
    rw [hk] at c1
    clear hk
    obtain ⟨w3,hup,hM3,hg⟩:=HUP.out (Obj.cells #[Value.int IntKind.i64 3,Value.string js[i].name,Value.slice ea js[i].ends.length ec] 109)
    have HM3:=hidQ hM3
    have hb4:Below w.heap.size w w3:=Below.grown (show Below w.heap.size w (wr.alloc _) from blo) hg (by simp;omega) (fun j hj=>by cases hj;exact Nat.le_refl _)
    clear hM3 hg HUP
    cases ho:ok4 js i js[i]
    ·have HX2:=hidQ (HX.out ho)
     rw [ho] at hok
     replace hok:=hok.symm
     clear HX HQ2 ho hup HM3 hb4
     go_wp2_with (first | (go_at_call 81;refine (kindOf_3 _).mono ?_;rintro e w' ⟨rfl,rfl⟩) | (go_at_call 106;refine (jointNameOk_3 _ _ _ _ hsz (hlk _)).mono ?_;rintro e w' ⟨rfl,rfl⟩))
     go_ret
     exact ⟨ret_int HX2.out.symm,blo⟩
    ·have HQ3:=hidQ (HQ2.out ho)
     rw [ho] at hok
     replace hok:=hok.symm
     clear HX HQ2 ho
     go_wp2_with (first | (go_at_call 81;refine (kindOf_3 _).mono ?_;rintro e w' ⟨rfl,rfl⟩) | (go_at_call 106;refine (jointNameOk_3 _ _ _ _ hsz (hlk _)).mono ?_;rintro e w' ⟨rfl,rfl⟩))
     go_roundw
     case rel=>exact ⟨i+1,by omega,by go_num,HQ3,HM3,hb4⟩
     case measure=>simp [intOf];omega
   ·have hok:=ok4_high (js:=js) (i:=i) hk (by omega)
    rw [hk] at c1
    clear hk
    obtain ⟨w3,hup,hM3,hg⟩:=HUP.out (Obj.cells #[Value.int IntKind.i64 4,Value.string js[i].name,Value.slice ea js[i].ends.length ec] 109)
    have HM3:=hidQ hM3
    have hb4:Below w.heap.size w w3:=Below.grown (show Below w.heap.size w (wr.alloc _) from blo) hg (by simp;omega) (fun j hj=>by cases hj;exact Nat.le_refl _)
    clear hM3 hg HUP
    cases ho:ok4 js i js[i]
    ·have HX2:=hidQ (HX.out ho)
     rw [ho] at hok
     replace hok:=hok.symm
     clear HX HQ2 ho hup HM3 hb4
     go_wp2_with (first | (go_at_call 81;refine (kindOf_4 _).mono ?_;rintro e w' ⟨rfl,rfl⟩) | (go_at_call 106;refine (jointNameOk_4 _ _ _ _ hsz (hlk _)).mono ?_;rintro e w' ⟨rfl,rfl⟩))
     go_ret
     exact ⟨ret_int HX2.out.symm,blo⟩
    ·have HQ3:=hidQ (HQ2.out ho)
     rw [ho] at hok
     replace hok:=hok.symm
     clear HX HQ2 ho
     go_wp2_with (first | (go_at_call 81;refine (kindOf_4 _).mono ?_;rintro e w' ⟨rfl,rfl⟩) | (go_at_call 106;refine (jointNameOk_4 _ _ _ _ hsz (hlk _)).mono ?_;rintro e w' ⟨rfl,rfl⟩))
     go_roundw
     case rel=>exact ⟨i+1,by omega,by go_num,HQ3,HM3,hb4⟩
     case measure=>simp [intOf];omega
  ·have HX:=hidQ (firstBad_none (bad:=bad4i js) (n:=js.length) (fun q h=>HQ.out q (by omega)))
   clear HQ HM
   go_wp2_with fail
   go_ret
   exact ⟨ret_int HX.out.symm,hb⟩
theorem firstBad_neg {bad:Nat→Bool}{n:Nat}(h:¬ 0≤firstBad bad n):∀ i,i<n→bad i=false:=by
 rcases firstBad_cases bad n with ⟨_,h2⟩ | ⟨i,_,h2,_⟩
 ·exact h2
 ·exact absurd (by rw [h2];omega) h
theorem firstBad_pos {bad:Nat→Bool}{n:Nat}(h:0≤firstBad bad n):∃ i:Nat,firstBad bad n=(i:Int)∧i<n∧bad i=true∧∀ k,k<i→bad k=false:=by
 rcases firstBad_cases bad n with ⟨h1,_⟩ | ⟨i,hi,h2,h3⟩
 ·rw [h1] at h;omega
 ·exact ⟨i,h2,hi,h3⟩
theorem implNetOk_any (pa ja:Option Addr)(pc jc:Nat)(ps:List MPiece)(js:List MJoint)(w:World)(hp:Hid (PiecesAt w pa ps))(hj:Hid (JointsAt w ja js)):
  Calls Tryz.prog 27 #[.agg #[.slice pa ps.length pc,.slice ja js.length jc]] w fun e w'=>e = .returned (faultV (netF ps js))∧Below w.heap.size w w':=by
 have hpl:=hp.out.1
 have hjl:=hj.out.1
 go_enter Tryz.func27,Tryz.ntmps27
 go_wp2_with fail
 refine (netSizeOk_any _ _ _ _ _ _ _ hpl hjl).mono ?_
 rintro e w1 ⟨rfl,hb1⟩
 generalize hW:(w.alloc (Obj.cells #[Value.slice pa ps.length pc,Value.slice ja js.length jc] 26)).alloc (Obj.cells #[Value.int IntKind.i64 0,Value.int IntKind.i64 0] 70)=W at hb1
 have e0:W.cell? ⟨w.heap.size,0,none⟩=some (.slice pa ps.length pc):=by rw [← hW];simp [go_sem]
 have e1:W.cell? ⟨w.heap.size,1,none⟩=some (.slice ja js.length jc):=by rw [← hW];simp [go_sem]
 have r0:W.cell? ⟨w.heap.size+1,0,none⟩=some (.int .i64 0):=by rw [← hW];simp [go_sem]
 have r1:W.cell? ⟨w.heap.size+1,1,none⟩=some (.int .i64 0):=by rw [← hW];simp [go_sem]
 have f0:W.frozen? ⟨w.heap.size+1,0,none⟩=false:=by rw [← hW];simp [go_sem]
 have f1:W.frozen? ⟨w.heap.size+1,1,none⟩=false:=by rw [← hW];simp [go_sem]
 have hz:w.heap.size+2=W.heap.size:=by rw [← hW];simp
 have hzA:w.heap.size+1<W.heap.size:=by omega
 have hbW:Below w.heap.size w W:=by rw [← hW];exact blo
 clear hW hz
 have e0':=cell_later hb1 e0
 have e1':=cell_later hb1 e1
 have r0':=cell_later hb1 r0
 have r1':=cell_later hb1 r1
 have f0':=(hb1.frozen (p:=⟨w.heap.size+1,0,none⟩) (by exact hzA)).trans f0
 have f1':=(hb1.frozen (p:=⟨w.heap.size+1,1,none⟩) (by exact hzA)).trans f1
 have hbF:=hbW.trans (hb1.mono hbW.size)
 cases hS:sizeB ps.length js.length
 ·have HX:=hidQ (netF_1 hS)
  clear hS
  go_wp2_with fail
  exact bodyPost_ret (v:=.agg #[.int .i64 1,.int .i64 0]) (by simp [results,Tryz.results27,go_sem,r0',r1']) rfl ⟨ret_fault HX.out,blo⟩
 have HS:=hidQ hS
 have hsz:ps.length≤100∧js.length≤120:=by
  unfold sizeB at hS
  simp at hS
  omega
 clear hS
 have HPL:=hidQ hpl
 have HJL:=hidQ hjl
 clear hpl hjl
 go_wp2_with fail
 refine (firstWrongPiece_any _ _ _ _ (hp.out.below hbF) (by omega)).mono ?_
 rintro e w2 ⟨rfl,hb2⟩
 have hb2':=hb1.trans (hb2.mono hb1.size)
 replace e0':=cell_later hb2 e0'
 replace e1':=cell_later hb2 e1'
 replace r0':=cell_later hb2 r0'
 replace r1':=cell_later hb2 r1'
 replace f0':=(hb2'.frozen (p:=⟨w.heap.size+1,0,none⟩) (by exact hzA)).trans f0
 replace f1':=(hb2'.frozen (p:=⟨w.heap.size+1,1,none⟩) (by exact hzA)).trans f1
 replace hbF:=hbW.trans (hb2'.mono hbW.size)
 clear hb1 hb2
 by_cases h2:0≤firstBad (badPi ps) ps.length
 ·obtain ⟨i,hi1,hi2,hi3,hi4⟩:=firstBad_pos h2
  have HX:=hidQ (netF_2 (js:=js) HS.out hi2 hi3 hi4)
  rw [hi1]
  clear hi1 hi3 hi4 h2
  go_wp2_with fail
  exact bodyPost_ret (v:=.agg #[.int .i64 2,.int .i64 i]) (by simp [results,Tryz.results27,go_sem,r0',r1']) rfl ⟨ret_fault HX.out,blo⟩
 have H2:=hidQ (firstBad_neg h2)
 rw [firstBad_none H2.out]
 clear h2
 go_wp2_with fail
 refine (firstWrongJoint_any _ _ _ _ _ _ _ (hj.out.below hbF) HPL.out).mono ?_
 rintro e w3 ⟨rfl,hb3⟩
 have hb3':=hb2'.trans (hb3.mono hb2'.size)
 replace e0':=cell_later hb3 e0'
 replace e1':=cell_later hb3 e1'
 replace r0':=cell_later hb3 r0'
 replace r1':=cell_later hb3 r1'
 replace f0':=(hb3'.frozen (p:=⟨w.heap.size+1,0,none⟩) (by exact hzA)).trans f0
 replace f1':=(hb3'.frozen (p:=⟨w.heap.size+1,1,none⟩) (by exact hzA)).trans f1
 replace hbF:=hbW.trans (hb3'.mono hbW.size)
 clear hb2' hb3
 by_cases h3:0≤firstBad (bad3i ps.length js) js.length
 ·obtain ⟨i,hi1,hi2,hi3,hi4⟩:=firstBad_pos h3
  have HX:=hidQ (netF_3 HS.out H2.out hi2 hi3 hi4)
  rw [hi1]
  clear hi1 hi3 hi4 h3
  go_wp2_with fail
  exact bodyPost_ret (v:=.agg #[.int .i64 3,.int .i64 i]) (by simp [results,Tryz.results27,go_sem,r0',r1']) rfl ⟨ret_fault HX.out,blo⟩
 have H3:=hidQ (firstBad_neg h3)
 rw [firstBad_none H3.out]
 clear h3
 have HO:Hid (∀ q (h:q<js.length),ok3 ps.length js[q]=true):=by
  intro q h
  have:=H3.out q h
  rw [bad3i_at h] at this
  simpa using this
 have HK:Hid (∀ q (h:q<js.length),inB js[q].kind 1 4=true):=by
  intro q h
  have:=HO.out q h
  unfold ok3 at this
  simp only [Bool.and_eq_true] at this
  exact this.1.1
 go_wp2_with fail
 refine (firstWrongJointName_any _ _ _ _ (hj.out.below hbF) (by omega) HK).mono ?_
 rintro e w4 ⟨rfl,hb4⟩
 have hb4':=hb3'.trans (hb4.mono hb3'.size)
 replace e0':=cell_later hb4 e0'
 replace e1':=cell_later hb4 e1'
 replace r0':=cell_later hb4 r0'
 replace r1':=cell_later hb4 r1'
 replace f0':=(hb4'.frozen (p:=⟨w.heap.size+1,0,none⟩) (by exact hzA)).trans f0
 replace f1':=(hb4'.frozen (p:=⟨w.heap.size+1,1,none⟩) (by exact hzA)).trans f1
 replace hbF:=hbW.trans (hb4'.mono hbW.size)
 clear hb3' hb4
 by_cases h4:0≤firstBad (bad4i js) js.length
 ·obtain ⟨i,hi1,hi2,hi3,hi4⟩:=firstBad_pos h4
  have HX:=hidQ (netF_4 HS.out H2.out H3.out hi2 hi3 hi4)
  rw [hi1]
  clear hi1 hi3 hi4 h4
  go_wp2_with fail
  exact bodyPost_ret (v:=.agg #[.int .i64 4,.int .i64 i]) (by simp [results,Tryz.results27,go_sem,r0',r1']) rfl ⟨ret_fault HX.out,blo⟩
 have H4:=hidQ (firstBad_neg h4)
 rw [firstBad_none H4.out]
 clear h4
 go_wp2_with fail
 refine (firstLoosePiece_any _ _ _ _ _ _ _ (hj.out.below hbF) (by omega) (by omega) HO).mono ?_
 rintro e w5 ⟨rfl,hb5⟩
 have hb5':=hb4'.trans (hb5.mono hb4'.size)
 replace e0':=cell_later hb5 e0'
 replace e1':=cell_later hb5 e1'
 replace r0':=cell_later hb5 r0'
 replace r1':=cell_later hb5 r1'
 replace f0':=(hb5'.frozen (p:=⟨w.heap.size+1,0,none⟩) (by exact hzA)).trans f0
 replace f1':=(hb5'.frozen (p:=⟨w.heap.size+1,1,none⟩) (by exact hzA)).trans f1
 replace hbF:=hbW.trans (hb5'.mono hbW.size)
 clear hb4' hb5
 by_cases h5:0≤firstBad (bad5i js) ps.length
 ·obtain ⟨i,hi1,hi2,hi3,hi4⟩:=firstBad_pos h5
  have HX:=hidQ (netF_5 HS.out H2.out H3.out H4.out hi2 hi3 hi4)
  rw [hi1]
  clear hi1 hi3 hi4 h5
  go_wp2_with fail
  exact bodyPost_ret (v:=.agg #[.int .i64 5,.int .i64 i]) (by simp [results,Tryz.results27,go_sem,r0',r1']) rfl ⟨ret_fault HX.out,blo⟩
 have HX:=hidQ (netF_0 HS.out H2.out H3.out H4.out (firstBad_neg h5))
 rw [firstBad_none (firstBad_neg h5)]
 clear h5
 go_wp2_with fail
 exact bodyPost_ret (v:=.agg #[.int .i64 0,.int .i64 0]) (by simp [results,Tryz.results27,go_sem,r0',r1']) rfl ⟨ret_fault HX.out,blo⟩
theorem implSignalsOk_any (pa ja sa:Option Addr)(pc jc sc:Nat)(ps:List MPiece)(js:List MJoint)(ss:List MPiece)(w:World)(hp:Hid (PiecesAt w pa ps))(hj:Hid (JointsAt w ja js))(hs:Hid (PiecesAt w sa ss)):
  Calls Tryz.prog 25 #[.agg #[.slice pa ps.length pc,.slice ja js.length jc],.slice sa ss.length sc] w fun e w'=>e = .returned (faultV (sigF ps js ss))∧Below w.heap.size w w':=by
 have hsl:=hs.out.1
 unfold maxLen at hsl
 go_enter Tryz.func25,Tryz.ntmps25
 go_wp2_with fail
 refine (implNetOk_any _ _ _ _ _ _ _ (hp.out.below blo) (hj.out.below blo)).mono ?_
 rintro e w1 ⟨rfl,hb1'⟩
 generalize hW:(w.alloc (Obj.cells #[Value.slice pa ps.length pc,Value.slice ja js.length jc] 26)).alloc (Obj.cells #[Value.int IntKind.i64 0,Value.int IntKind.i64 0] 70)=W at hb1'
 have e0:W.cell? ⟨w.heap.size,0,none⟩=some (.slice pa ps.length pc):=by rw [← hW];simp [go_sem]
 have r0:W.cell? ⟨w.heap.size+1,0,none⟩=some (.int .i64 0):=by rw [← hW];simp [go_sem]
 have r1:W.cell? ⟨w.heap.size+1,1,none⟩=some (.int .i64 0):=by rw [← hW];simp [go_sem]
 have f0:W.frozen? ⟨w.heap.size+1,0,none⟩=false:=by rw [← hW];simp [go_sem]
 have f1:W.frozen? ⟨w.heap.size+1,1,none⟩=false:=by rw [← hW];simp [go_sem]
 have hz:w.heap.size+2=W.heap.size:=by rw [← hW];simp
 have hzA:w.heap.size+1<W.heap.size:=by omega
 have hbW:Below w.heap.size w W:=by rw [← hW];exact blo
 clear hW hz
 have e0':=cell_later hb1' e0
 have r0':=cell_later hb1' r0
 have r1':=cell_later hb1' r1
 have f0':=(hb1'.frozen (p:=⟨w.heap.size+1,0,none⟩) (by exact hzA)).trans f0
 have f1':=(hb1'.frozen (p:=⟨w.heap.size+1,1,none⟩) (by exact hzA)).trans f1
 have hbF:=hbW.trans (hb1'.mono hbW.size)
 by_cases hN:netF ps js=(0,0)
 rotate_left
 ·have HX:=hidQ (sigF_1 (ss:=ss) hN)
  have hc:=(netF_code ps js).resolve_left hN
  obtain ⟨fc,fa,hf⟩:∃ fc fa,netF ps js=(fc,fa):=⟨_,_,rfl⟩
  rw [hf] at hc ⊢
  simp only at hc
  unfold faultV
  clear hf hN
  go_wp2_with fail
  exact bodyPost_ret (v:=.agg #[.int .i64 1,.int .i64 0]) (by simp [results,Tryz.results25,go_sem,r0',r1']) rfl ⟨ret_fault HX.out,blo⟩
 have HN:=hidQ hN
 rw [hN]
 unfold faultV
 obtain ⟨hp100,hplen⟩:=net_ok_pieces hN
 have HPL:=hidQ hplen
 clear hN hplen
 by_cases h60:60<ss.length
 ·have HX:=hidQ (sigF_2 HN.out h60)
  go_wp2_with fail
  exact bodyPost_ret (v:=.agg #[.int .i64 2,.int .i64 0]) (by simp [results,Tryz.results25,go_sem,r0',r1']) rfl ⟨ret_fault HX.out,blo⟩
 have H60:=hidQ h60
 have h60':(ss.length:Int)≤60:=by omega
 clear h60
 go_wp2_with fail
 refine (firstWrongSignal_any _ _ _ _ _ _ _ (hp.out.below hbF) (hs.out.below hbF) hp100 HPL).mono ?_
 rintro e w2 ⟨rfl,hb2⟩
 have hb2':=hb1'.trans (hb2.mono hb1'.size)
 replace e0':=cell_later hb2 e0'
 replace r0':=cell_later hb2 r0'
 replace r1':=cell_later hb2 r1'
 replace f0':=(hb2'.frozen (p:=⟨w.heap.size+1,0,none⟩) (by exact hzA)).trans f0
 replace f1':=(hb2'.frozen (p:=⟨w.heap.size+1,1,none⟩) (by exact hzA)).trans f1
 replace hbF:=hbW.trans (hb2'.mono hbW.size)
 clear hb1' hb2
 by_cases h3:0≤firstBad (badS3 ps ss) ss.length
 ·obtain ⟨i,hi1,hi2,hi3,hi4⟩:=firstBad_pos h3
  have HX:=hidQ (sigF_3 HN.out H60.out hi2 hi3 hi4)
  rw [hi1]
  clear hi1 hi3 hi4 h3
  go_wp2_with fail
  exact bodyPost_ret (v:=.agg #[.int .i64 3,.int .i64 i]) (by simp [results,Tryz.results25,go_sem,r0',r1']) rfl ⟨ret_fault HX.out,blo⟩
 have H3:=hidQ (firstBad_neg h3)
 rw [firstBad_none H3.out]
 clear h3
 have HR:Hid (∀ q (h:q<ss.length),0≤ss[q].len∧ss[q].len≤100∧0≤ss[q].speed∧ss[q].speed≤10000000 ∧ -1≤ss[q].brake∧ss[q].brake≤1):=by
  intro q h
  have:=H3.out q h
  rw [badS3_at h] at this
  exact okSig_range hp100 HPL.out (by simpa using this)
 go_wp2_with fail
 refine (firstDoubleSignal_any _ _ _ _ (hs.out.below hbF) (by omega) HR).mono ?_
 rintro e w3 ⟨rfl,hb3⟩
 have hb3':=hb2'.trans (hb3.mono hb2'.size)
 replace e0':=cell_later hb3 e0'
 replace r0':=cell_later hb3 r0'
 replace r1':=cell_later hb3 r1'
 replace f0':=(hb3'.frozen (p:=⟨w.heap.size+1,0,none⟩) (by exact hzA)).trans f0
 replace f1':=(hb3'.frozen (p:=⟨w.heap.size+1,1,none⟩) (by exact hzA)).trans f1
 replace hbF:=hbW.trans (hb3'.mono hbW.size)
 clear hb2' hb3
 by_cases h4:0≤firstBad (badS4 ss) ss.length
 ·obtain ⟨i,hi1,hi2,hi3,hi4⟩:=firstBad_pos h4
  have HX:=hidQ (sigF_4 HN.out H60.out H3.out hi2 hi3 hi4)
  rw [hi1]
  clear hi1 hi3 hi4 h4
  go_wp2_with fail
  exact bodyPost_ret (v:=.agg #[.int .i64 4,.int .i64 i]) (by simp [results,Tryz.results25,go_sem,r0',r1']) rfl ⟨ret_fault HX.out,blo⟩
 have HX:=hidQ (sigF_0 HN.out H60.out H3.out (firstBad_neg h4))
 rw [firstBad_none (firstBad_neg h4)]
 clear h4
 go_wp2_with fail
 exact bodyPost_ret (v:=.agg #[.int .i64 0,.int .i64 0]) (by simp [results,Tryz.results25,go_sem,r0',r1']) rfl ⟨ret_fault HX.out,blo⟩
end Go.Proofs.YtmkdgnmmebldgaaGreatDoor
