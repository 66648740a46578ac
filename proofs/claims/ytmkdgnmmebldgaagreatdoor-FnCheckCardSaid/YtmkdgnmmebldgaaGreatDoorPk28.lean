import Derived.Test.YtmkdgnmmebldgaaGreatDoorPk19
import Derived.Test.YtmkdgnmmebldgaaGreatDoorPk27
import Derived.Test.YtmkdgnmmebldgaaGreatDoorPk8
set_option maxRecDepth 100000
set_option maxHeartbeats 8000000
open Go.Proofs.Tryz
namespace Go.Proofs.YtmkdgnmmebldgaaGreatDoor
open Go.RowKit
variable {i np:Nat}{j:aj}{k:Int}
theorem jg {W w1:World}(hb:Cx W w1):(∀ b o,b<W.heap.size->w1.cell? ⟨b,o,none⟩=W.cell? ⟨b,o,none⟩):=
 fun b o h=>hb.cell (p:=⟨b,o,none⟩) h
theorem zY (h:inB j.kind 1 4=false):ok3 np j=false:=by simp [ok3,h]
theorem nU (h:((j.ends.length:Int)==j.kind)=false):ok3 np j=false:=by simp only [ok3,h];simp
theorem nV (m:Nat)(hm:m<j.ends.length)(h:cV np j.ends[m].CB j.ends[m].side=false):ok3 np j=false:=by
 have:(j.ends.all fun e=>cV np e.CB e.side)=false:=List.all_eq_false.2 ⟨_,List.getElem_mem hm,by simp [h]⟩
 simp only [ok3,this];simp
theorem xO (j:aj)(ea:Option Addr)(ec np:Nat)(w:World)(hk:inB j.kind 1 4=false):
  Calls prog 105 #[.agg #[.int .i64 j.kind,.string j.name,.slice ea j.ends.length ec],.int .i64 np] w fun e w'=>e = .returned (.bool (ok3 np j))/\Cx w w':=by
 rw [zY hk]
 go_enter func105,ntmps105
 go_wp2_with (go_at_call 81;refine (zs _ hk _).mono ?_;rintro e w' ⟨rfl,rfl⟩)
 go_quiet (fail)
 go_wp2_with fail
 go_ret
 exact ⟨rfl,blo⟩
theorem Cd (w : World) : (method 448 205 (.agg #[]) "loop.example/lockbar/impl.endCount").run prog w = .ok (217, .agg #[]) w := by kernel_rfl
theorem yE (s:ByteArray)(es:List am)(ea:Option Addr)(ec np:Nat)(w:World)(he:Hid (aT w ea es))(hnp:np<=maxLen):
  Calls prog 105 #[.agg #[.int .i64 1,.string s,.slice ea es.length ec],.int .i64 np] w fun e w'=>e = .returned (.bool (ok3 np ⟨1,s,es⟩))/\Cx w w':=by
 have n:=he.out.1;unfold maxLen at n hnp;have hm:=Cd;cases d:((es.length:Int)==1)
 ·have HX:=aC (nU (np:=np) (j:=⟨1,s,es⟩) d)
  go_enter func105,ntmps105
  go_wp2_with (go_at_call 81;refine (jV _).mono ?_;rintro e w' ⟨rfl,rfl⟩)
  go_region_with (go_at_call 217;refine (qh _).mono ?_;rintro e w2 ⟨rfl,a⟩;have g:=jg a)
  all_goals
   go_wp2_with fail
   go_ret
   exact ⟨aK HX.out.symm,Below.trans blo (a.mono CI)⟩
 ·have i:=aC d
  go_enter func105,ntmps105
  go_wp2_with (go_at_call 81;refine (jV _).mono ?_;rintro e w' ⟨rfl,rfl⟩)
  go_region_with (go_at_call 217;refine (qh _).mono ?_;rintro e w2 ⟨rfl,a⟩;have g:=jg a)
  all_goals
   have k:((es.length:Int) != 1)=false:=by rw [bne,i.out];rfl
   simp only [k];have l:Cx w w2:=Below.trans blo (a.mono CI)
   clear k hm d
   go_wp2_with fail
   clear a g
   go_loopw [28] (fun c wr => ∃ (m:Nat),m<=es.length/\c = .int .i64 m/\Hid (∀ q (hq:q<es.length),q<m->cV np es[q].CB es[q].side=true)/\Cx w wr) (fun c _=>es.length-(intOf c).toNat)
   case atStart=>exact ⟨0,Nat.zero_le _,rfl,(fun q _ h=>absurd h (Nat.not_lt_zero q)),l⟩
   case round =>
    clear l;obtain ⟨m,hm,rfl,HQ,hb⟩:=hrel;have t:=hb.size
    by_cases f:m<es.length
    ·obtain ⟨b2,o,rfl,b⟩:=he.out.2.resolve_left (nz f);obtain ⟨d1,d2⟩:=(b.below hb) m f;clear b;cases hE:cV np es[m].CB es[m].side
     ·have HX:=aC (nV (j:=⟨1,s,es⟩) m f hE);have p:inB es[m].CB 0 ((np:Int)-1)=false\/inB es[m].CB 0 ((np:Int)-1)=true/\inB es[m].side 0 1=false:=by
       unfold cV at hE
       revert hE
       cases inB es[m].CB 0 ((np:Int)-1) <;> simp
      clear hE;rcases p with q1 | ⟨q1,q2⟩
      all_goals
       go_wp2_with (go_at_call 80;refine (bU _ _ _ _).mono ?_;rintro e w' ⟨rfl,rfl⟩)
       go_ret
       exact ⟨aK HX.out.symm,blo⟩
     ·have r:Hid (∀ q (hq:q<es.length),q<m+1->cV np es[q].CB es[q].side=true):=by
       intro q hq u
       by_cases e:q<m
       ·exact HQ.out q hq e
       ·have:q=m:=CG
        subst this;exact hE
      have q1:inB es[m].CB 0 ((np:Int)-1)=true:=by
       unfold cV at hE;revert hE;cases inB es[m].CB 0 ((np:Int)-1) <;> simp
      have q2:inB es[m].side 0 1=true:=by
       unfold cV at hE;revert hE;cases inB es[m].side 0 1 <;> simp
      clear hE HQ
      go_wp2_with (go_at_call 80;refine (bU _ _ _ _).mono ?_;rintro e w' ⟨rfl,rfl⟩)
      go_roundw
      case rel=>exact ⟨m+1,CG,by go_num,r,blo⟩
      case measure=>simp [intOf];omega
    ·have HX:Hid (ok3 np ⟨1,s,es⟩=true):=ng (by rfl) i.out (fun q hq=>HQ.out q hq (by have v:q<es.length:=hq;omega))
     clear HQ
     go_wp2_with fail
     go_ret
     exact ⟨aK HX.out.symm,hb⟩
theorem BQ (w : World) : (method 448 206 (.agg #[]) "loop.example/lockbar/impl.endCount").run prog w = .ok (219, .agg #[]) w := by kernel_rfl
theorem zQ (s:ByteArray)(es:List am)(ea:Option Addr)(ec np:Nat)(w:World)(he:Hid (aT w ea es))(hnp:np<=maxLen):
  Calls prog 105 #[.agg #[.int .i64 2,.string s,.slice ea es.length ec],.int .i64 np] w fun e w'=>e = .returned (.bool (ok3 np ⟨2,s,es⟩))/\Cx w w':=by
 have n:=he.out.1;unfold maxLen at n hnp;have hm:=BQ;cases d:((es.length:Int)==2)
 ·have HX:=aC (nU (np:=np) (j:=⟨2,s,es⟩) d)
  go_enter func105,ntmps105
  go_wp2_with (go_at_call 81;refine (ka _).mono ?_;rintro e w' ⟨rfl,rfl⟩)
  go_region_with (go_at_call 219;refine (pQ _).mono ?_;rintro e w2 ⟨rfl,a⟩;have g:=jg a)
  all_goals
   go_wp2_with fail
   go_ret
   exact ⟨aK HX.out.symm,Below.trans blo (a.mono CI)⟩
 ·have i:=aC d
  go_enter func105,ntmps105
  go_wp2_with (go_at_call 81;refine (ka _).mono ?_;rintro e w' ⟨rfl,rfl⟩)
  go_region_with (go_at_call 219;refine (pQ _).mono ?_;rintro e w2 ⟨rfl,a⟩;have g:=jg a)
  all_goals
   have k:((es.length:Int) != 2)=false:=by rw [bne,i.out];rfl
   simp only [k];have l:Cx w w2:=Below.trans blo (a.mono CI)
   clear k hm d
   go_wp2_with fail
   clear a g
   go_loopw [28] (fun c wr => ∃ (m:Nat),m<=es.length/\c = .int .i64 m/\Hid (∀ q (hq:q<es.length),q<m->cV np es[q].CB es[q].side=true)/\Cx w wr) (fun c _=>es.length-(intOf c).toNat)
   case atStart=>exact ⟨0,Nat.zero_le _,rfl,(fun q _ h=>absurd h (Nat.not_lt_zero q)),l⟩
   case round =>
    clear l;obtain ⟨m,hm,rfl,HQ,hb⟩:=hrel;have t:=hb.size
    by_cases f:m<es.length
    ·obtain ⟨b2,o,rfl,b⟩:=he.out.2.resolve_left (nz f);obtain ⟨d1,d2⟩:=(b.below hb) m f;clear b;cases hE:cV np es[m].CB es[m].side
     ·have HX:=aC (nV (j:=⟨2,s,es⟩) m f hE);have p:inB es[m].CB 0 ((np:Int)-1)=false\/inB es[m].CB 0 ((np:Int)-1)=true/\inB es[m].side 0 1=false:=by
       unfold cV at hE
       revert hE
       cases inB es[m].CB 0 ((np:Int)-1) <;> simp
      clear hE;rcases p with q1 | ⟨q1,q2⟩
      all_goals
       go_wp2_with (go_at_call 80;refine (bU _ _ _ _).mono ?_;rintro e w' ⟨rfl,rfl⟩)
       go_ret
       exact ⟨aK HX.out.symm,blo⟩
     ·have r:Hid (∀ q (hq:q<es.length),q<m+1->cV np es[q].CB es[q].side=true):=by
       intro q hq u
       by_cases e:q<m
       ·exact HQ.out q hq e
       ·have:q=m:=CG
        subst this;exact hE
      have q1:inB es[m].CB 0 ((np:Int)-1)=true:=by
       unfold cV at hE;revert hE;cases inB es[m].CB 0 ((np:Int)-1) <;> simp
      have q2:inB es[m].side 0 1=true:=by
       unfold cV at hE;revert hE;cases inB es[m].side 0 1 <;> simp
      clear hE HQ
      go_wp2_with (go_at_call 80;refine (bU _ _ _ _).mono ?_;rintro e w' ⟨rfl,rfl⟩)
      go_roundw
      case rel=>exact ⟨m+1,CG,by go_num,r,blo⟩
      case measure=>simp [intOf];omega
    ·have HX:Hid (ok3 np ⟨2,s,es⟩=true):=ng (by rfl) i.out (fun q hq=>HQ.out q hq (by have v:q<es.length:=hq;omega))
     clear HQ
     go_wp2_with fail
     go_ret
     exact ⟨aK HX.out.symm,hb⟩
theorem B9 (w : World) : (method 448 207 (.agg #[]) "loop.example/lockbar/impl.endCount").run prog w = .ok (221, .agg #[]) w := by kernel_rfl
theorem zq (s:ByteArray)(es:List am)(ea:Option Addr)(ec np:Nat)(w:World)(he:Hid (aT w ea es))(hnp:np<=maxLen):
  Calls prog 105 #[.agg #[.int .i64 3,.string s,.slice ea es.length ec],.int .i64 np] w fun e w'=>e = .returned (.bool (ok3 np ⟨3,s,es⟩))/\Cx w w':=by
 have n:=he.out.1;unfold maxLen at n hnp;have hm:=B9;cases d:((es.length:Int)==3)
 ·have HX:=aC (nU (np:=np) (j:=⟨3,s,es⟩) d)
  go_enter func105,ntmps105
  go_wp2_with (go_at_call 81;refine (jZ _).mono ?_;rintro e w' ⟨rfl,rfl⟩)
  go_region_with (go_at_call 221;refine (pW _).mono ?_;rintro e w2 ⟨rfl,a⟩;have g:=jg a)
  all_goals
   go_wp2_with fail
   go_ret
   exact ⟨aK HX.out.symm,Below.trans blo (a.mono CI)⟩
 ·have i:=aC d
  go_enter func105,ntmps105
  go_wp2_with (go_at_call 81;refine (jZ _).mono ?_;rintro e w' ⟨rfl,rfl⟩)
  go_region_with (go_at_call 221;refine (pW _).mono ?_;rintro e w2 ⟨rfl,a⟩;have g:=jg a)
  all_goals
   have k:((es.length:Int) != 3)=false:=by rw [bne,i.out];rfl
   simp only [k];have l:Cx w w2:=Below.trans blo (a.mono CI)
   clear k hm d
   go_wp2_with fail
   clear a g
   go_loopw [28] (fun c wr => ∃ (m:Nat),m<=es.length/\c = .int .i64 m/\Hid (∀ q (hq:q<es.length),q<m->cV np es[q].CB es[q].side=true)/\Cx w wr) (fun c _=>es.length-(intOf c).toNat)
   case atStart=>exact ⟨0,Nat.zero_le _,rfl,(fun q _ h=>absurd h (Nat.not_lt_zero q)),l⟩
   case round =>
    clear l;obtain ⟨m,hm,rfl,HQ,hb⟩:=hrel;have t:=hb.size
    by_cases f:m<es.length
    ·obtain ⟨b2,o,rfl,b⟩:=he.out.2.resolve_left (nz f);obtain ⟨d1,d2⟩:=(b.below hb) m f;clear b;cases hE:cV np es[m].CB es[m].side
     ·have HX:=aC (nV (j:=⟨3,s,es⟩) m f hE);have p:inB es[m].CB 0 ((np:Int)-1)=false\/inB es[m].CB 0 ((np:Int)-1)=true/\inB es[m].side 0 1=false:=by
       unfold cV at hE
       revert hE
       cases inB es[m].CB 0 ((np:Int)-1) <;> simp
      clear hE;rcases p with q1 | ⟨q1,q2⟩
      all_goals
       go_wp2_with (go_at_call 80;refine (bU _ _ _ _).mono ?_;rintro e w' ⟨rfl,rfl⟩)
       go_ret
       exact ⟨aK HX.out.symm,blo⟩
     ·have r:Hid (∀ q (hq:q<es.length),q<m+1->cV np es[q].CB es[q].side=true):=by
       intro q hq u
       by_cases e:q<m
       ·exact HQ.out q hq e
       ·have:q=m:=CG
        subst this;exact hE
      have q1:inB es[m].CB 0 ((np:Int)-1)=true:=by
       unfold cV at hE;revert hE;cases inB es[m].CB 0 ((np:Int)-1) <;> simp
      have q2:inB es[m].side 0 1=true:=by
       unfold cV at hE;revert hE;cases inB es[m].side 0 1 <;> simp
      clear hE HQ
      go_wp2_with (go_at_call 80;refine (bU _ _ _ _).mono ?_;rintro e w' ⟨rfl,rfl⟩)
      go_roundw
      case rel=>exact ⟨m+1,CG,by go_num,r,blo⟩
      case measure=>simp [intOf];omega
    ·have HX:Hid (ok3 np ⟨3,s,es⟩=true):=ng (by rfl) i.out (fun q hq=>HQ.out q hq (by have v:q<es.length:=hq;omega))
     clear HQ
     go_wp2_with fail
     go_ret
     exact ⟨aK HX.out.symm,hb⟩
theorem BR (w : World) : (method 448 208 (.agg #[]) "loop.example/lockbar/impl.endCount").run prog w = .ok (223, .agg #[]) w := by kernel_rfl
theorem zS (s:ByteArray)(es:List am)(ea:Option Addr)(ec np:Nat)(w:World)(he:Hid (aT w ea es))(hnp:np<=maxLen):
  Calls prog 105 #[.agg #[.int .i64 4,.string s,.slice ea es.length ec],.int .i64 np] w fun e w'=>e = .returned (.bool (ok3 np ⟨4,s,es⟩))/\Cx w w':=by
 have n:=he.out.1;unfold maxLen at n hnp;have hm:=BR;cases d:((es.length:Int)==4)
 ·have HX:=aC (nU (np:=np) (j:=⟨4,s,es⟩) d)
  go_enter func105,ntmps105
  go_wp2_with (go_at_call 81;refine (j8 _).mono ?_;rintro e w' ⟨rfl,rfl⟩)
  go_region_with (go_at_call 223;refine (p8 _).mono ?_;rintro e w2 ⟨rfl,a⟩;have g:=jg a)
  all_goals
   go_wp2_with fail
   go_ret
   exact ⟨aK HX.out.symm,Below.trans blo (a.mono CI)⟩
 ·have i:=aC d
  go_enter func105,ntmps105
  go_wp2_with (go_at_call 81;refine (j8 _).mono ?_;rintro e w' ⟨rfl,rfl⟩)
  go_region_with (go_at_call 223;refine (p8 _).mono ?_;rintro e w2 ⟨rfl,a⟩;have g:=jg a)
  all_goals
   have k:((es.length:Int) != 4)=false:=by rw [bne,i.out];rfl
   simp only [k];have l:Cx w w2:=Below.trans blo (a.mono CI)
   clear k hm d
   go_wp2_with fail
   clear a g
   go_loopw [28] (fun c wr => ∃ (m:Nat),m<=es.length/\c = .int .i64 m/\Hid (∀ q (hq:q<es.length),q<m->cV np es[q].CB es[q].side=true)/\Cx w wr) (fun c _=>es.length-(intOf c).toNat)
   case atStart=>exact ⟨0,Nat.zero_le _,rfl,(fun q _ h=>absurd h (Nat.not_lt_zero q)),l⟩
   case round =>
    clear l;obtain ⟨m,hm,rfl,HQ,hb⟩:=hrel;have t:=hb.size
    by_cases f:m<es.length
    ·obtain ⟨b2,o,rfl,b⟩:=he.out.2.resolve_left (nz f);obtain ⟨d1,d2⟩:=(b.below hb) m f;clear b;cases hE:cV np es[m].CB es[m].side
     ·have HX:=aC (nV (j:=⟨4,s,es⟩) m f hE);have p:inB es[m].CB 0 ((np:Int)-1)=false\/inB es[m].CB 0 ((np:Int)-1)=true/\inB es[m].side 0 1=false:=by
       unfold cV at hE
       revert hE
       cases inB es[m].CB 0 ((np:Int)-1) <;> simp
      clear hE;rcases p with q1 | ⟨q1,q2⟩
      all_goals
       go_wp2_with (go_at_call 80;refine (bU _ _ _ _).mono ?_;rintro e w' ⟨rfl,rfl⟩)
       go_ret
       exact ⟨aK HX.out.symm,blo⟩
     ·have r:Hid (∀ q (hq:q<es.length),q<m+1->cV np es[q].CB es[q].side=true):=by
       intro q hq u
       by_cases e:q<m
       ·exact HQ.out q hq e
       ·have:q=m:=CG
        subst this;exact hE
      have q1:inB es[m].CB 0 ((np:Int)-1)=true:=by
       unfold cV at hE;revert hE;cases inB es[m].CB 0 ((np:Int)-1) <;> simp
      have q2:inB es[m].side 0 1=true:=by
       unfold cV at hE;revert hE;cases inB es[m].side 0 1 <;> simp
      clear hE HQ
      go_wp2_with (go_at_call 80;refine (bU _ _ _ _).mono ?_;rintro e w' ⟨rfl,rfl⟩)
      go_roundw
      case rel=>exact ⟨m+1,CG,by go_num,r,blo⟩
      case measure=>simp [intOf];omega
    ·have HX:Hid (ok3 np ⟨4,s,es⟩=true):=ng (by rfl) i.out (fun q hq=>HQ.out q hq (by have v:q<es.length:=hq;omega))
     clear HQ
     go_wp2_with fail
     go_ret
     exact ⟨aK HX.out.symm,hb⟩
theorem pZ (h:inB k 1 4=true):k=1\/k=2\/k=3\/k=4:=by
 unfold inB at h;simp at h;omega
theorem ut (j:aj)(ea:Option Addr)(ec np:Nat)(w:World)(he:Hid (aT w ea j.ends))(hnp:np<=maxLen):
  Calls prog 105 #[.agg #[.int .i64 j.kind,.string j.name,.slice ea j.ends.length ec],.int .i64 np] w fun e w'=>e = .returned (.bool (ok3 np j))/\Cx w w':=by
 cases hk:inB j.kind 1 4
 ·exact xO j ea ec np w hk
 ·obtain ⟨kd,s,es⟩:=j;rcases pZ hk with h | h | h | h
  ·obtain rfl:kd=1:=h;exact yE s es ea ec np w he hnp
  ·obtain rfl:kd=2:=h;exact zQ s es ea ec np w he hnp
  ·obtain rfl:kd=3:=h;exact zq s es ea ec np w he hnp
  ·obtain rfl:kd=4:=h;exact zS s es ea ec np w he hnp
theorem mD (pa ja:Option Addr)(pl pc jc:Nat)(js:List aj)(w:World)(hj:Hid (aP w ja js))(hpl:pl<=maxLen):
  Calls prog 66 #[.agg #[.slice pa pl pc,.slice ja js.length jc]] w fun e w'=>e = .returned (.int .i64 (bh (eA pl js) js.length))/\Cx w w':=by
 have hl:=hj.out.1;unfold maxLen at hl
 go_enter func66,ntmps66
 go_wp2_with fail
 generalize hW:w.alloc (Obj.cells #[Value.slice pa pl pc,Value.slice ja js.length jc] 26)=W;have e0:W.cell? ⟨w.heap.size,0,none⟩=some (.slice pa pl pc):=by rw [<-hW];simp [go_sem]
 have hz:w.heap.size+1=W.heap.size:=by rw [<-hW];simp
 have a:Cx w W:=by rw [<-hW];exact blo
 clear hW
 go_loopw [8] (fun c wr => ∃ (i:Nat),i<=js.length/\c = .int .i64 i/\Hid (∀ q,q<i->eA pl js q=false)/\Cx W wr) (fun c _=>js.length-(intOf c).toNat)
 case atStart=>exact ⟨0,Nat.zero_le _,rfl,(fun q h=>absurd h (Nat.not_lt_zero q)),blo⟩
 case round =>
  obtain ⟨i,hi,rfl,HQ,hb⟩:=hrel;have m:=hb.size;have o:w.heap.size<wr.heap.size:=CG
  have j:=cell_later hb e0
  by_cases b:i<js.length
  ·obtain ⟨b1,k,rfl,d⟩:=hj.out.2.2.resolve_left (nz b);obtain ⟨c1,c2,ea,ec,c3,c4⟩:=((d.below a).below hb) i b;have C4:=aC c4;clear d c4
   go_wp2_with fail
   refine (ut js[i] _ _ _ _ (C4.out.below blo) hpl).mono ?_;rintro e w2 ⟨rfl,f⟩;have g:Cx W w2:=Below.trans blo (f.mono CN)
   clear hb f c1 c2 c3 j;cases ho:ok3 pl js[i]
   ·have HX:=aC (co b (by rw [gx b,ho];rfl) HQ.out)
    clear ho
    go_wp2_with fail
    go_ret
    exact ⟨bB HX.out.symm,a.trans (g.mono a.size)⟩
   ·have l:Hid (∀ q,q<i+1->eA pl js q=false):=by
     intro q hq
     by_cases e:q<i
     ·exact HQ.out q e
     ·have:q=i:=CG
      subst this;rw [gx b,ho];rfl
    clear ho HQ
    go_wp2_with fail
    go_roundw
    case rel=>exact ⟨i+1,CG,by go_num,l,g⟩
    case measure=>simp [intOf];omega
  ·have HX:=aC (a8 (bad:=eA pl js) (n:=js.length) (fun q h=>HQ.out q CG))
   clear HQ
   go_wp2_with fail
   go_ret
   exact ⟨bB HX.out.symm,a.trans (hb.mono a.size)⟩
theorem mr (s:ByteArray)(m:Option Nat)(w:World):
  Calls prog 106 #[.iface 205 (.agg #[]),.string s,.map m] w fun e w'=>e = .returned (.bool (decide (s=⟨#[]⟩)))/\w'=w:=by
 by_cases h:s=⟨#[]⟩
 ·subst h
  go_enter func106,ntmps106
  go_wp2_with (go_at_call 130;refine (rJ _).mono ?_;rintro e w' ⟨rfl,rfl⟩)
  go_ret
  exact ⟨rfl,rfl⟩
 ·have HX:Hid (decide (s=(⟨#[]⟩:ByteArray))=false):=by unfold Hid;simp [h]
  have h':=nE h;clear h
  go_enter func106,ntmps106
  go_wp2_with (go_at_call 130;refine (rJ _).mono ?_;rintro e w' ⟨rfl,rfl⟩)
  go_ret
  exact ⟨aK HX.out.symm,rfl⟩
theorem ml (s:ByteArray)(m:Option Nat)(w:World):
  Calls prog 106 #[.iface 206 (.agg #[]),.string s,.map m] w fun e w'=>e = .returned (.bool (decide (s=⟨#[]⟩)))/\w'=w:=by
 by_cases h:s=⟨#[]⟩
 ·subst h
  go_enter func106,ntmps106
  go_wp2_with (go_at_call 130;refine (ry _).mono ?_;rintro e w' ⟨rfl,rfl⟩)
  go_ret
  exact ⟨rfl,rfl⟩
 ·have HX:Hid (decide (s=(⟨#[]⟩:ByteArray))=false):=by unfold Hid;simp [h]
  have h':=nE h;clear h
  go_enter func106,ntmps106
  go_wp2_with (go_at_call 130;refine (ry _).mono ?_;rintro e w' ⟨rfl,rfl⟩)
  go_ret
  exact ⟨aK HX.out.symm,rfl⟩
theorem mq (s:ByteArray)(b:Nat)(c:Int)(w:World)(hs:s.size<=maxLen)(hl:(Instr.lookup 189 (.map (some b)) (.string s) false).run prog w = .ok (.int .i64 c) w):
  Calls prog 106 #[.iface 207 (.agg #[]),.string s,.map (some b)] w fun e w'=>e = .returned (.bool (cr s&&(c==0)))/\w'=w:=by
 cases h:cr s
 ·go_enter func106,ntmps106
  go_wp2_with (first | (go_at_call 130;refine (rB _).mono ?_;rintro e w' ⟨rfl,rfl⟩) | (go_at_call 129;refine (dx _ _ hs).mono ?_;rintro e w' ⟨rfl,rfl⟩))
  go_ret
  exact ⟨rfl,rfl⟩
 ·go_enter func106,ntmps106
  go_wp2_with (first | (go_at_call 130;refine (rB _).mono ?_;rintro e w' ⟨rfl,rfl⟩) | (go_at_call 129;refine (dx _ _ hs).mono ?_;rintro e w' ⟨rfl,rfl⟩))
  go_ret
  exact ⟨aK CI,rfl⟩
theorem mv (s:ByteArray)(b:Nat)(c:Int)(w:World)(hs:s.size<=maxLen)(hl:(Instr.lookup 189 (.map (some b)) (.string s) false).run prog w = .ok (.int .i64 c) w):
  Calls prog 106 #[.iface 208 (.agg #[]),.string s,.map (some b)] w fun e w'=>e = .returned (.bool (cr s&&(c==0)))/\w'=w:=by
 cases h:cr s
 ·go_enter func106,ntmps106
  go_wp2_with (first | (go_at_call 130;refine (qX _).mono ?_;rintro e w' ⟨rfl,rfl⟩) | (go_at_call 129;refine (dx _ _ hs).mono ?_;rintro e w' ⟨rfl,rfl⟩))
  go_ret
  exact ⟨rfl,rfl⟩
 ·go_enter func106,ntmps106
  go_wp2_with (first | (go_at_call 130;refine (qX _).mono ?_;rintro e w' ⟨rfl,rfl⟩) | (go_at_call 129;refine (dx _ _ hs).mono ?_;rintro e w' ⟨rfl,rfl⟩))
  go_ret
  exact ⟨aK CI,rfl⟩
theorem pC {ps:List aj}(h:i<ps.length):dA (ps.take (i+1))=dA (ps.take i)++[ps[i].name]:=by
 unfold dA;rw [List.take_succ_eq_append_getElem h,List.map_append];rfl
theorem yG (ps:List aj)(i:Nat):(dA (ps.take i)).length<=i:=by
 unfold dA;rw [List.length_map];exact List.length_take_le _ _
theorem vw {js:List aj}(hk:j.kind=k)(h3:k<3):ok4 js i j=decide (j.name=⟨#[]⟩):=by
 unfold ok4;rw [hk,if_pos h3]
theorem tw {js:List aj}(hk:j.kind=k)(h3:¬ k<3):ok4 js i j=(cr j.name&&(fS (dA (js.take i)) (.string j.name)==0)):=by
 unfold ok4;rw [hk,if_neg h3];congr 1
 show (!er (dA (js.take i)) j.name)=(((eX (dA (js.take i)) j.name:Nat):Int)==0)
 cases hA:er (dA (js.take i)) j.name
 ·rw [(jq _ _).2 hA];rfl
 ·have:eX (dA (js.take i)) j.name≠0:=fun h=>by rw [jq,hA] at h;cases h
  symm
  rw [Bool.not_true,beq_eq_false_iff_ne];omega
theorem kq (ja:Option Addr)(jc:Nat)(js:List aj)(w:World)(hj:Hid (aP w ja js))(hl:js.length<=1000000)(hkk:Hid (∀ q (h:q<js.length),inB js[q].kind 1 4=true)):
  Calls prog 67 #[.slice ja js.length jc] w fun e w'=>e = .returned (.int .i64 (bh (eI js) js.length))/\Cx w w':=by
 have x := @run_makeMap prog
 go_enter func67,ntmps67
 go_wp2_with fail
 have HM:=aC (bT.made 9 w);rw [<-t8] at HM
 go_loopw [11] (fun c wr => ∃ (i:Nat),i<=js.length/\c = .int .i64 i/\Hid (∀ q,q<i->eI js q=false)/\Hid (bT 9 wr w.heap.size i (fS (dA (js.take i))))/\Cx w wr) (fun c _=>js.length-(intOf c).toNat)
 case atStart=>exact ⟨0,Nat.zero_le _,rfl,(fun q h=>absurd h (Nat.not_lt_zero q)),HM.out,blo⟩
 case round =>
  clear HM x;obtain ⟨i,hi,rfl,HQ,HM,hb⟩:=hrel;have z:=hb.size
  by_cases l:i<js.length
  ·obtain ⟨b1,y,rfl,v⟩:=hj.out.2.2.resolve_left (nz l);obtain ⟨c1,c2,ea,ec,c3,c4⟩:=(v.below hb) i l;have s:js[i].name.size<=maxLen:=hj.out.2.1 _ (List.getElem_mem l);clear v c4;have b:Hid (ok4 js i js[i]=true->∀ q,q<i+1->eI js q=false):=by
    intro ho q hq
    by_cases e:q<i
    ·exact HQ.out q e
    ·have:q=i:=CG
     subst this;rw [lY l,ho];rfl
   have HX:Hid (ok4 js i js[i]=false->bh (eI js) js.length=i):=fun ho=>co l (by rw [lY l,ho];rfl) HQ.out
   have u:∀ o,bT 9 (wr.alloc o) w.heap.size i (fS (dA (js.take i))):=fun o=>HM.out.below (show Cx wr (wr.alloc o) from blo)
   have t:=fun o=>(u o).lookup qT underlying189 (qu s)
   have A:0<=fS (dA (js.take i)) (.string js[i].name)/\fS (dA (js.take i)) (.string js[i].name)<=1000000:=by
    show (0:Int)<=((eX _ _:Nat):Int)/\((eX _ _:Nat):Int)<=1000000
    have h1:=BC (dA (js.take i)) js[i].name;have h2:=yG js i;omega
   have k:=fun o=>(u o).update qT underlying189 CK (qu s) (fS (dA (js.take i)) (.string js[i].name)+1) (iW CG CG) (fS (dA (js.take (i+1)))) (by rw [pC l,qO];rfl) (by rw [pC l];exact pj _ _)
   have m:=aC k;clear u k HQ HM;rcases pZ (hkk.out i l) with hk | hk | hk | hk
   ·have a:=vw (js:=js) (i:=i) hk CG
    rw [hk] at c1;clear hk;obtain ⟨w3,k,d,hg⟩:=m.out (Obj.cells #[Value.int IntKind.i64 1,Value.string js[i].name,Value.slice ea js[i].ends.length ec] 109);have f:=aC d;have g:Cx w w3:=Below.grown (show Cx w (wr.alloc _) from blo) hg CN (fun j hj=>by cases hj;exact Nat.le_refl _)
    clear d hg m;cases ho:ok4 js i js[i]
    ·have p:=aC (HX.out ho);rw [ho] at a;replace a:=a.symm;clear HX b ho k f g
     go_wp2_with (first | (go_at_call 81;refine (jV _).mono ?_;rintro e w' ⟨rfl,rfl⟩) | (go_at_call 106;refine (mr _ _ _).mono ?_;rintro e w' ⟨rfl,rfl⟩))
     go_ret
     exact ⟨bB p.out.symm,blo⟩
    ·have r:=aC (b.out ho);rw [ho] at a;replace a:=a.symm;clear HX b ho
     go_wp2_with (first | (go_at_call 81;refine (jV _).mono ?_;rintro e w' ⟨rfl,rfl⟩) | (go_at_call 106;refine (mr _ _ _).mono ?_;rintro e w' ⟨rfl,rfl⟩))
     go_roundw
     case rel=>exact ⟨i+1,CG,by go_num,r,f,g⟩
     case measure=>simp [intOf];omega
   ·have a:=vw (js:=js) (i:=i) hk CG
    rw [hk] at c1;clear hk;obtain ⟨w3,k,d,hg⟩:=m.out (Obj.cells #[Value.int IntKind.i64 2,Value.string js[i].name,Value.slice ea js[i].ends.length ec] 109);have f:=aC d;have g:Cx w w3:=Below.grown (show Cx w (wr.alloc _) from blo) hg CN (fun j hj=>by cases hj;exact Nat.le_refl _)
    clear d hg m;cases ho:ok4 js i js[i]
    ·have p:=aC (HX.out ho);rw [ho] at a;replace a:=a.symm;clear HX b ho k f g
     go_wp2_with (first | (go_at_call 81;refine (ka _).mono ?_;rintro e w' ⟨rfl,rfl⟩) | (go_at_call 106;refine (ml _ _ _).mono ?_;rintro e w' ⟨rfl,rfl⟩))
     go_ret
     exact ⟨bB p.out.symm,blo⟩
    ·have r:=aC (b.out ho);rw [ho] at a;replace a:=a.symm;clear HX b ho
     go_wp2_with (first | (go_at_call 81;refine (ka _).mono ?_;rintro e w' ⟨rfl,rfl⟩) | (go_at_call 106;refine (ml _ _ _).mono ?_;rintro e w' ⟨rfl,rfl⟩))
     go_roundw
     case rel=>exact ⟨i+1,CG,by go_num,r,f,g⟩
     case measure=>simp [intOf];omega
   ·have a:=tw (js:=js) (i:=i) hk CG
    rw [hk] at c1;clear hk;obtain ⟨w3,k,d,hg⟩:=m.out (Obj.cells #[Value.int IntKind.i64 3,Value.string js[i].name,Value.slice ea js[i].ends.length ec] 109);have f:=aC d;have g:Cx w w3:=Below.grown (show Cx w (wr.alloc _) from blo) hg CN (fun j hj=>by cases hj;exact Nat.le_refl _)
    clear d hg m;cases ho:ok4 js i js[i]
    ·have p:=aC (HX.out ho);rw [ho] at a;replace a:=a.symm;clear HX b ho k f g
     go_wp2_with (first | (go_at_call 81;refine (jZ _).mono ?_;rintro e w' ⟨rfl,rfl⟩) | (go_at_call 106;refine (mq _ _ _ _ s (t _)).mono ?_;rintro e w' ⟨rfl,rfl⟩))
     go_ret
     exact ⟨bB p.out.symm,blo⟩
    ·have r:=aC (b.out ho);rw [ho] at a;replace a:=a.symm;clear HX b ho
     go_wp2_with (first | (go_at_call 81;refine (jZ _).mono ?_;rintro e w' ⟨rfl,rfl⟩) | (go_at_call 106;refine (mq _ _ _ _ s (t _)).mono ?_;rintro e w' ⟨rfl,rfl⟩))
     go_roundw
     case rel=>exact ⟨i+1,CG,by go_num,r,f,g⟩
     case measure=>simp [intOf];omega
   ·have a:=tw (js:=js) (i:=i) hk CG
    rw [hk] at c1;clear hk;obtain ⟨w3,k,d,hg⟩:=m.out (Obj.cells #[Value.int IntKind.i64 4,Value.string js[i].name,Value.slice ea js[i].ends.length ec] 109);have f:=aC d;have g:Cx w w3:=Below.grown (show Cx w (wr.alloc _) from blo) hg CN (fun j hj=>by cases hj;exact Nat.le_refl _)
    clear d hg m;cases ho:ok4 js i js[i]
    ·have p:=aC (HX.out ho);rw [ho] at a;replace a:=a.symm;clear HX b ho k f g
     go_wp2_with (first | (go_at_call 81;refine (j8 _).mono ?_;rintro e w' ⟨rfl,rfl⟩) | (go_at_call 106;refine (mv _ _ _ _ s (t _)).mono ?_;rintro e w' ⟨rfl,rfl⟩))
     go_ret
     exact ⟨bB p.out.symm,blo⟩
    ·have r:=aC (b.out ho);rw [ho] at a;replace a:=a.symm;clear HX b ho
     go_wp2_with (first | (go_at_call 81;refine (j8 _).mono ?_;rintro e w' ⟨rfl,rfl⟩) | (go_at_call 106;refine (mv _ _ _ _ s (t _)).mono ?_;rintro e w' ⟨rfl,rfl⟩))
     go_roundw
     case rel=>exact ⟨i+1,CG,by go_num,r,f,g⟩
     case measure=>simp [intOf];omega
  ·have HX:=aC (a8 (bad:=eI js) (n:=js.length) (fun q h=>HQ.out q CG))
   clear HQ HM
   go_wp2_with fail
   go_ret
   exact ⟨bB HX.out.symm,hb⟩
theorem em {bad:Nat->Bool}{n:Nat}(h:¬ 0<=bh bad n):∀ i,i<n->bad i=false:=by
 rcases hH bad n with ⟨_,h2⟩ | ⟨i,_,h2,_⟩
 ·exact h2
 ·exact absurd (by rw [h2];omega) h
theorem fR {bad:Nat->Bool}{n:Nat}(h:0<=bh bad n):∃ i:Nat,bh bad n=(i:Int)/\i<n/\bad i=true/\∀ k,k<i->bad k=false:=by
 rcases hH bad n with ⟨h1,_⟩ | ⟨i,hi,h2,h3⟩
 ·rw [h1] at h;omega
 ·exact ⟨i,h2,hi,h3⟩
theorem sy (pa ja:Option Addr)(pc jc:Nat)(ps:List af)(js:List aj)(w:World)(hp:Hid (ar w pa ps))(hj:Hid (aP w ja js)):
  Calls prog 27 #[.agg #[.slice pa ps.length pc,.slice ja js.length jc]] w fun e w'=>e = .returned (gK (dt ps js))/\Cx w w':=by
 have D:=hp.out.1;have E:=hj.out.1
 go_enter func27,ntmps27
 go_wp2_with fail
 refine (sh _ _ _ _ _ _ _ D E).mono ?_;rintro e w1 ⟨rfl,g⟩;generalize hW:(w.alloc (Obj.cells #[Value.slice pa ps.length pc,Value.slice ja js.length jc] 26)).alloc (Obj.cells #[Value.int IntKind.i64 0,Value.int IntKind.i64 0] 70)=W at g;have e0:W.cell? ⟨w.heap.size,0,none⟩=some (.slice pa ps.length pc):=by rw [<-hW];simp [go_sem]
 have e1:W.cell? ⟨w.heap.size,1,none⟩=some (.slice ja js.length jc):=by rw [<-hW];simp [go_sem]
 have r0:W.cell? ⟨w.heap.size+1,0,none⟩=some (.int .i64 0):=by rw [<-hW];simp [go_sem]
 have r1:W.cell? ⟨w.heap.size+1,1,none⟩=some (.int .i64 0):=by rw [<-hW];simp [go_sem]
 have f0:W.frozen? ⟨w.heap.size+1,0,none⟩=false:=by rw [<-hW];simp [go_sem]
 have f1:W.frozen? ⟨w.heap.size+1,1,none⟩=false:=by rw [<-hW];simp [go_sem]
 have hz:w.heap.size+2=W.heap.size:=by rw [<-hW];simp
 have m:w.heap.size+1<W.heap.size:=CG
 have n:Cx w W:=by rw [<-hW];exact blo
 clear hW hz;have o:=cell_later g e0;have r:=cell_later g e1;have a:=cell_later g r0;have b:=cell_later g r1;have B:=(g.frozen (p:=⟨w.heap.size+1,0,none⟩) (by exact m)).trans f0
 have C:=(g.frozen (p:=⟨w.heap.size+1,1,none⟩) (by exact m)).trans f1
 have s:=n.trans (g.mono n.size);cases hS:dR ps.length js.length
 ·have HX:=aC (tF hS);clear hS
  go_wp2_with fail
  exact bodyPost_ret (v:=.agg #[.int .i64 1,.int .i64 0]) (by simp [results,results27,go_sem,a,b]) rfl ⟨bL HX.out,blo⟩
 have HS:=aC hS;have G:ps.length<=100/\js.length<=120:=by
  unfold dR at hS;simp at hS;omega
 clear hS;have F:=aC D;have H:=aC E;clear D E
 go_wp2_with fail
 refine (mB _ _ _ _ (hp.out.below s) CG).mono ?_
 rintro e w2 ⟨rfl,x⟩;have c:=g.trans (x.mono g.size);replace o:=cell_later x o;replace r:=cell_later x r;replace a:=cell_later x a;replace b:=cell_later x b;replace B:=(c.frozen (p:=⟨w.heap.size+1,0,none⟩) (by exact m)).trans f0
 replace C:=(c.frozen (p:=⟨w.heap.size+1,1,none⟩) (by exact m)).trans f1
 replace s:=n.trans (c.mono n.size);clear g x
 by_cases h2:0<=bh (dX ps) ps.length
 ·obtain ⟨i,j,t,k,l⟩:=fR h2;have HX:=aC (qr (js:=js) HS.out t k l);rw [j];clear j k l h2
  go_wp2_with fail
  exact bodyPost_ret (v:=.agg #[.int .i64 2,.int .i64 i]) (by simp [results,results27,go_sem,a,b]) rfl ⟨bL HX.out,blo⟩
 have H2:=aC (em h2);rw [a8 H2.out];clear h2
 go_wp2_with fail
 refine (mD _ _ _ _ _ _ _ (hj.out.below s) F.out).mono ?_;rintro e w3 ⟨rfl,y⟩;have d:=c.trans (y.mono c.size);replace o:=cell_later y o;replace r:=cell_later y r;replace a:=cell_later y a;replace b:=cell_later y b;replace B:=(d.frozen (p:=⟨w.heap.size+1,0,none⟩) (by exact m)).trans f0
 replace C:=(d.frozen (p:=⟨w.heap.size+1,1,none⟩) (by exact m)).trans f1
 replace s:=n.trans (d.mono n.size);clear c y
 by_cases h3:0<=bh (eA ps.length js) js.length
 ·obtain ⟨i,j,t,k,l⟩:=fR h3;have HX:=aC (zz HS.out H2.out t k l);rw [j];clear j k l h3
  go_wp2_with fail
  exact bodyPost_ret (v:=.agg #[.int .i64 3,.int .i64 i]) (by simp [results,results27,go_sem,a,b]) rfl ⟨bL HX.out,blo⟩
 have H3:=aC (em h3);rw [a8 H3.out];clear h3;have HO:Hid (∀ q (h:q<js.length),ok3 ps.length js[q]=true):=by
  intro q h;have:=H3.out q h;rw [gx h] at this;simpa using this
 have HK:Hid (∀ q (h:q<js.length),inB js[q].kind 1 4=true):=by
  intro q h;have:=HO.out q h;unfold ok3 at this;simp only [Bool.and_eq_true] at this;exact this.1.1
 go_wp2_with fail
 refine (kq _ _ _ _ (hj.out.below s) CG HK).mono ?_
 rintro e w4 ⟨rfl,z⟩;have f:=d.trans (z.mono d.size);replace o:=cell_later z o;replace r:=cell_later z r;replace a:=cell_later z a;replace b:=cell_later z b;replace B:=(f.frozen (p:=⟨w.heap.size+1,0,none⟩) (by exact m)).trans f0
 replace C:=(f.frozen (p:=⟨w.heap.size+1,1,none⟩) (by exact m)).trans f1
 replace s:=n.trans (f.mono n.size);clear d z
 by_cases h4:0<=bh (eI js) js.length
 ·obtain ⟨i,j,t,k,l⟩:=fR h4;have HX:=aC (yB HS.out H2.out H3.out t k l);rw [j];clear j k l h4
  go_wp2_with fail
  exact bodyPost_ret (v:=.agg #[.int .i64 4,.int .i64 i]) (by simp [results,results27,go_sem,a,b]) rfl ⟨bL HX.out,blo⟩
 have H4:=aC (em h4);rw [a8 H4.out];clear h4
 go_wp2_with fail
 refine (mF _ _ _ _ _ _ _ (hj.out.below s) CG CG HO).mono ?_
 rintro e w5 ⟨rfl,A⟩;have u:=f.trans (A.mono f.size);replace o:=cell_later A o;replace r:=cell_later A r;replace a:=cell_later A a;replace b:=cell_later A b;replace B:=(u.frozen (p:=⟨w.heap.size+1,0,none⟩) (by exact m)).trans f0
 replace C:=(u.frozen (p:=⟨w.heap.size+1,1,none⟩) (by exact m)).trans f1
 replace s:=n.trans (u.mono n.size);clear f A
 by_cases h5:0<=bh (ew js) ps.length
 ·obtain ⟨i,j,t,k,l⟩:=fR h5;have HX:=aC (up HS.out H2.out H3.out H4.out t k l);rw [j];clear j k l h5
  go_wp2_with fail
  exact bodyPost_ret (v:=.agg #[.int .i64 5,.int .i64 i]) (by simp [results,results27,go_sem,a,b]) rfl ⟨bL HX.out,blo⟩
 have HX:=aC (yJ HS.out H2.out H3.out H4.out (em h5));rw [a8 (em h5)];clear h5
 go_wp2_with fail
 exact bodyPost_ret (v:=.agg #[.int .i64 0,.int .i64 0]) (by simp [results,results27,go_sem,a,b]) rfl ⟨bL HX.out,blo⟩
theorem om (pa ja sa:Option Addr)(pc jc sc:Nat)(ps:List af)(js:List aj)(ss:List af)(w:World)(hp:Hid (ar w pa ps))(hj:Hid (aP w ja js))(hs:Hid (ar w sa ss)):
  Calls prog 25 #[.agg #[.slice pa ps.length pc,.slice ja js.length jc],.slice sa ss.length sc] w fun e w'=>e = .returned (gK (cE ps js ss))/\Cx w w':=by
 have D:=hs.out.1;unfold maxLen at D
 go_enter func25,ntmps25
 go_wp2_with fail
 refine (sy _ _ _ _ _ _ _ (hp.out.below blo) (hj.out.below blo)).mono ?_;rintro e w1 ⟨rfl,a⟩;generalize hW:(w.alloc (Obj.cells #[Value.slice pa ps.length pc,Value.slice ja js.length jc] 26)).alloc (Obj.cells #[Value.int IntKind.i64 0,Value.int IntKind.i64 0] 70)=W at a;have e0:W.cell? ⟨w.heap.size,0,none⟩=some (.slice pa ps.length pc):=by rw [<-hW];simp [go_sem]
 have r0:W.cell? ⟨w.heap.size+1,0,none⟩=some (.int .i64 0):=by rw [<-hW];simp [go_sem]
 have r1:W.cell? ⟨w.heap.size+1,1,none⟩=some (.int .i64 0):=by rw [<-hW];simp [go_sem]
 have f0:W.frozen? ⟨w.heap.size+1,0,none⟩=false:=by rw [<-hW];simp [go_sem]
 have f1:W.frozen? ⟨w.heap.size+1,1,none⟩=false:=by rw [<-hW];simp [go_sem]
 have hz:w.heap.size+2=W.heap.size:=by rw [<-hW];simp
 have k:w.heap.size+1<W.heap.size:=CG
 have l:Cx w W:=by rw [<-hW];exact blo
 clear hW hz;have u:=cell_later a e0;have c:=cell_later a r0;have d:=cell_later a r1;have A:=(a.frozen (p:=⟨w.heap.size+1,0,none⟩) (by exact k)).trans f0
 have B:=(a.frozen (p:=⟨w.heap.size+1,1,none⟩) (by exact k)).trans f1
 have m:=l.trans (a.mono l.size)
 by_cases hN:dt ps js=(0,0)
 rotate_left
 ·have HX:=aC (uf (ss:=ss) hN);have hc:=(rz ps js).resolve_left hN;obtain ⟨fc,fa,hf⟩:∃ fc fa,dt ps js=(fc,fa):=⟨_,_,rfl⟩;rw [hf] at hc ⊢;simp only at hc;unfold gK;clear hf hN
  go_wp2_with fail
  exact bodyPost_ret (v:=.agg #[.int .i64 1,.int .i64 0]) (by simp [results,results25,go_sem,c,d]) rfl ⟨bL HX.out,blo⟩
 have HN:=aC hN;rw [hN];unfold gK;obtain ⟨f,g⟩:=mu hN;have C:=aC g;clear hN g
 by_cases x:60<ss.length
 ·have HX:=aC (zo HN.out x)
  go_wp2_with fail
  exact bodyPost_ret (v:=.agg #[.int .i64 2,.int .i64 0]) (by simp [results,results25,go_sem,c,d]) rfl ⟨bL HX.out,blo⟩
 have y:=aC x;have E:(ss.length:Int)<=60:=CG
 clear x
 go_wp2_with fail
 refine (lH _ _ _ _ _ _ _ (hp.out.below m) (hs.out.below m) f C).mono ?_;rintro e w2 ⟨rfl,n⟩;have b:=a.trans (n.mono a.size);replace u:=cell_later n u;replace c:=cell_later n c;replace d:=cell_later n d;replace A:=(b.frozen (p:=⟨w.heap.size+1,0,none⟩) (by exact k)).trans f0
 replace B:=(b.frozen (p:=⟨w.heap.size+1,1,none⟩) (by exact k)).trans f1
 replace m:=l.trans (b.mono l.size);clear a n
 by_cases h3:0<=bh (fx ps ss) ss.length
 ·obtain ⟨i,o,z,r,s⟩:=fR h3;have HX:=aC (yV HN.out y.out z r s);rw [o];clear o r s h3
  go_wp2_with fail
  exact bodyPost_ret (v:=.agg #[.int .i64 3,.int .i64 i]) (by simp [results,results25,go_sem,c,d]) rfl ⟨bL HX.out,blo⟩
 have H3:=aC (em h3);rw [a8 H3.out];clear h3;have HR:Hid (∀ q (h:q<ss.length),0<=ss[q].len/\ss[q].len<=100/\0<=ss[q].CD/\ss[q].CD<=10000000 /\ -1<=ss[q].CC/\ss[q].CC<=1):=by
  intro q h;have:=H3.out q h;rw [i4 h] at this;exact uO f C.out (by simpa using this)
 go_wp2_with fail
 refine (kX _ _ _ _ (hs.out.below m) CG HR).mono ?_
 rintro e w3 ⟨rfl,t⟩;have j:=b.trans (t.mono b.size);replace u:=cell_later t u;replace c:=cell_later t c;replace d:=cell_later t d;replace A:=(j.frozen (p:=⟨w.heap.size+1,0,none⟩) (by exact k)).trans f0
 replace B:=(j.frozen (p:=⟨w.heap.size+1,1,none⟩) (by exact k)).trans f1
 replace m:=l.trans (j.mono l.size);clear b t
 by_cases h4:0<=bh (gq ss) ss.length
 ·obtain ⟨i,o,z,r,s⟩:=fR h4;have HX:=aC (yT HN.out y.out H3.out z r s);rw [o];clear o r s h4
  go_wp2_with fail
  exact bodyPost_ret (v:=.agg #[.int .i64 4,.int .i64 i]) (by simp [results,results25,go_sem,c,d]) rfl ⟨bL HX.out,blo⟩
 have HX:=aC (zH HN.out y.out H3.out (em h4));rw [a8 (em h4)];clear h4
 go_wp2_with fail
 exact bodyPost_ret (v:=.agg #[.int .i64 0,.int .i64 0]) (by simp [results,results25,go_sem,c,d]) rfl ⟨bL HX.out,blo⟩
end Go.Proofs.YtmkdgnmmebldgaaGreatDoor
