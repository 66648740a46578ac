import Derived.Test.YtmkdgnmmebldgaaGreatDoorPk1
import Derived.Test.YtmkdgnmmebldgaaGreatDoorPk2
import Derived.BigQuiet
import Derived.Deep.DeepCutAuto
import Derived.Test.YtmkdgnmmebldgaaGreatDoorPk16
import Derived.Test.YtmkdgnmmebldgaaGreatDoorPk34
import Derived.Test.YtmkdgnmmebldgaaGreatDoorPk6
import Derived.Test.YtmkdgnmmebldgaaGreatDoorPk5
import Derived.Test.YtmkdgnmmebldgaaGreatDoorPk33
set_option maxRecDepth 100000
set_option maxHeartbeats 8000000
open Go.Proofs.Tryz
namespace Go.Proofs.YtmkdgnmmebldgaaGreatDoor
open Go.RowKit
def j0 (code row col:Int):Value:=.iface 100 (.agg #[.int .i64 code,.iface 104 (.agg #[.int .i64 row,.int .i64 col])])
def pR:Option (Int × Option (Int × Int))->Value
 | none=>.nilIface
 | some (c,none)=>.iface 100 (.agg #[.int .i64 c,.nilIface])
 | some (c,some (a,b))=>j0 c a b
def eM:Option (Int × Option (Int × Int))->Value
 | none=>.agg #[.int .i64 0,.int .i64 0,.int .i64 0]
 | some (c,none)=>.agg #[.int .i64 c,.int .i64 0,.int .i64 0]
 | some (c,some (a,b))=>.agg #[.int .i64 c,.int .i64 a,.int .i64 b]
end Go.Proofs.YtmkdgnmmebldgaaGreatDoor
namespace Go.Proofs.YtmkdgnmmebldgaaGreatDoor
open Go.RowKit Go.Deep
variable {i k:Nat}{js:List aj}{over:Int}{ps ss:List af}{qs rs:List al}
def eqL {α:Type}(xs ys:List α)(D:Prop->Bool:=fun p => @decide p (Classical.propDecidable p)):Bool:=D (xs=ys)
theorem fJ {α:Type}{xs ys:List α}(h:xs=ys):eqL xs ys=true:=by unfold eqL;simp [h]
theorem AV {α:Type}{xs ys:List α}(h:¬ xs=ys):eqL xs ys=false:=by unfold eqL;simp [h]
theorem gB {α:Type}{xs ys:List α}(h:¬ xs.length=ys.length):eqL xs ys=false:=AV (fun e=>h (by rw [e]))
theorem im {α:Type}{xs ys:List α}(h1:k<xs.length)(h2:k<ys.length)(h:xs[k]≠ys[k]):eqL xs ys=false:=AV (fun e=>by subst e;exact h rfl)
theorem uZ (a a':Option Addr)(c c':Nat)(xs ys:List am)(w:World)(hx:Hid (aT w a xs))(hy:Hid (aT w a' ys)):
  Calls prog 141 #[.slice a xs.length c,.slice a' ys.length c'] w fun e w'=>e = .returned (.bool (eqL xs ys))/\Cx w w':=by
 have r:=hx.out.1;have s:=hy.out.1;unfold maxLen at r s;obtain ⟨n,hn⟩:∃ n,xs.length=n:=⟨_,rfl⟩;obtain ⟨m,hm⟩:∃ m,ys.length=m:=⟨_,rfl⟩;rw [hn] at r ⊢;rw [hm] at s ⊢;have HN:=aa hn;have HM:=aa hm;clear hn hm
 go_enter func141,ntmps141
 by_cases l:n=m
 rotate_left
 ·have hb:((n:Int) != (m:Int))=true:=by rw [bne_iff_ne];omega
  have HF:Hid (eqL xs ys=false):=gB (by rw [HN.out,HM.out];exact l)
  clear l
  go_wp2_with fail
  go_ret
  exact ⟨by rw [HF.out];rfl,Below.refl _ _⟩
 subst l
 go_wp2_with fail
 go_loopw [13] (fun i wr => ∃ k:Nat,k<=n/\i = .int .i64 k/\Hid (xs.take k=ys.take k)/\Cx w wr) (fun i _=>n-(intOf i).toNat)
 case atStart=>exact ⟨0,Nat.zero_le _,rfl,by unfold Hid;rw [List.take_zero,List.take_zero],Below.refl _ _⟩
 case round =>
  obtain ⟨k,hk,rfl,HT,d⟩:=hrel
  by_cases t:k<n
  ·have z:(k:Int)<n:=CG
   have f:k<xs.length:=by rw [HN.out];exact t
   have g:k<ys.length:=by rw [HM.out];exact t
   obtain ⟨b,o,ha,hc⟩:=(hx.out.below d).2.resolve_left (nz f);obtain ⟨b',o',A,u⟩:=(hy.out.below d).2.resolve_left (nz g);subst ha A;have p:Hid (xs[k]=ys[k]->xs.take (k+1)=ys.take (k+1)):=fun e=>by rw [List.take_succ_eq_append_getElem f,List.take_succ_eq_append_getElem g,HT.out,e]
   have j:Hid (xs[k]≠ys[k]->eqL xs ys=false):=im f g;have cx:=hc k f;have cy:=u k g;generalize xs[k]=x at cx p j;generalize ys[k]=y at cy p j;obtain ⟨x0,x1⟩:=x;obtain ⟨y0,y1⟩:=y;obtain ⟨B,C⟩:=cx;obtain ⟨D,E⟩:=cy;dsimp only at B C D E;have q:=aa d;clear hc u d HT f g
   go_upto_region 6 with fail
   by_cases h0:x0=y0
   rotate_left
   ·have HF:=aa (j.out (fun e=>h0 (by injection e)))
    have f0:(x0==y0)=false:=by simpa using h0
    have f1:(x0 != y0)=true:=by simpa using h0
    clear h0
    go_quiet (fail)
    go_wp2_with fail
    go_ret
    exact ⟨by rw [HF.out];rfl,bZ q.out _⟩
   subst h0
   by_cases h1:x1=y1
   rotate_left
   ·have HF:=aa (j.out (fun e=>h1 (by injection e)))
    have f0:(x1==y1)=false:=by simpa using h1
    have f1:(x1 != y1)=true:=by simpa using h1
    have b0:(x0==x0)=true:=CI
    clear h1
    go_quiet (fail)
    go_wp2_with fail
    go_ret
    exact ⟨by rw [HF.out];rfl,bZ q.out _⟩
   subst h1;have v:Hid (xs.take (k+1)=ys.take (k+1)):=p.out rfl;have b0:(x0 != x0)=false:=CI
   have b1:(x1 != x1)=false:=CI
   go_quiet (fail)
   go_wp2_with fail
   go_roundw
   case rel=>exact ⟨k+1,CG,by go_num,v,bZ q.out _⟩
   case measure=>simp [intOf];omega
  ·have z:¬ (k:Int)<n:=CG
   have HE:Hid (eqL xs ys=true):=fJ (by have h:=HT.out;rw [List.take_of_length_le (by rw [HN.out];omega),List.take_of_length_le (by rw [HM.out];omega)] at h;exact h)
   go_wp2_with fail
   go_ret
   exact ⟨by rw [HE.out];rfl,d⟩
theorem xX (a a':Option Addr)(c c':Nat)(xs ys:List am)(w:World)(hx:Hid (aT w a xs))(hy:Hid (aT w a' ys)):
  Calls prog 142 #[.slice a xs.length c,.slice a' ys.length c'] w fun e w'=>e = .returned (.bool (eqL xs ys))/\Cx w w':=by
 have r:=hx.out.1;have s:=hy.out.1;unfold maxLen at r s;obtain ⟨n,hn⟩:∃ n,xs.length=n:=⟨_,rfl⟩;obtain ⟨m,hm⟩:∃ m,ys.length=m:=⟨_,rfl⟩;rw [hn] at r ⊢;rw [hm] at s ⊢;have HN:=aa hn;have HM:=aa hm;clear hn hm
 go_enter func142,ntmps142
 by_cases l:n=m
 rotate_left
 ·have hb:((n:Int) != (m:Int))=true:=by rw [bne_iff_ne];omega
  have HF:Hid (eqL xs ys=false):=gB (by rw [HN.out,HM.out];exact l)
  clear l
  go_wp2_with fail
  go_ret
  exact ⟨by rw [HF.out];rfl,Below.refl _ _⟩
 subst l
 go_wp2_with fail
 go_loopw [13] (fun i wr => ∃ k:Nat,k<=n/\i = .int .i64 k/\Hid (xs.take k=ys.take k)/\Cx w wr) (fun i _=>n-(intOf i).toNat)
 case atStart=>exact ⟨0,Nat.zero_le _,rfl,by unfold Hid;rw [List.take_zero,List.take_zero],Below.refl _ _⟩
 case round =>
  obtain ⟨k,hk,rfl,HT,d⟩:=hrel
  by_cases t:k<n
  ·have z:(k:Int)<n:=CG
   have f:k<xs.length:=by rw [HN.out];exact t
   have g:k<ys.length:=by rw [HM.out];exact t
   obtain ⟨b,o,ha,hc⟩:=(hx.out.below d).2.resolve_left (nz f);obtain ⟨b',o',A,u⟩:=(hy.out.below d).2.resolve_left (nz g);subst ha A;have p:Hid (xs[k]=ys[k]->xs.take (k+1)=ys.take (k+1)):=fun e=>by rw [List.take_succ_eq_append_getElem f,List.take_succ_eq_append_getElem g,HT.out,e]
   have j:Hid (xs[k]≠ys[k]->eqL xs ys=false):=im f g;have cx:=hc k f;have cy:=u k g;generalize xs[k]=x at cx p j;generalize ys[k]=y at cy p j;obtain ⟨x0,x1⟩:=x;obtain ⟨y0,y1⟩:=y;obtain ⟨B,C⟩:=cx;obtain ⟨D,E⟩:=cy;dsimp only at B C D E;have q:=aa d;clear hc u d HT f g
   go_upto_region 6 with fail
   by_cases h0:x0=y0
   rotate_left
   ·have HF:=aa (j.out (fun e=>h0 (by injection e)))
    have f0:(x0==y0)=false:=by simpa using h0
    have f1:(x0 != y0)=true:=by simpa using h0
    clear h0
    go_quiet (fail)
    go_wp2_with fail
    go_ret
    exact ⟨by rw [HF.out];rfl,bZ q.out _⟩
   subst h0
   by_cases h1:x1=y1
   rotate_left
   ·have HF:=aa (j.out (fun e=>h1 (by injection e)))
    have f0:(x1==y1)=false:=by simpa using h1
    have f1:(x1 != y1)=true:=by simpa using h1
    have b0:(x0==x0)=true:=CI
    clear h1
    go_quiet (fail)
    go_wp2_with fail
    go_ret
    exact ⟨by rw [HF.out];rfl,bZ q.out _⟩
   subst h1;have v:Hid (xs.take (k+1)=ys.take (k+1)):=p.out rfl;have b0:(x0 != x0)=false:=CI
   have b1:(x1 != x1)=false:=CI
   go_quiet (fail)
   go_wp2_with fail
   go_roundw
   case rel=>exact ⟨k+1,CG,by go_num,v,bZ q.out _⟩
   case measure=>simp [intOf];omega
  ·have z:¬ (k:Int)<n:=CG
   have HE:Hid (eqL xs ys=true):=fJ (by have h:=HT.out;rw [List.take_of_length_le (by rw [HN.out];omega),List.take_of_length_le (by rw [HM.out];omega)] at h;exact h)
   go_wp2_with fail
   go_ret
   exact ⟨by rw [HE.out];rfl,d⟩
theorem xl (a a':Option Addr)(c c':Nat)(xs ys:List Int)(w:World)(hx:Hid (bV w a xs))(hy:Hid (bV w a' ys)):
  Calls prog 143 #[.slice a xs.length c,.slice a' ys.length c'] w fun e w'=>e = .returned (.bool (eqL xs ys))/\Cx w w':=by
 have q:=hx.out.1;have r:=hy.out.1;unfold maxLen at q r;obtain ⟨n,hn⟩:∃ n,xs.length=n:=⟨_,rfl⟩;obtain ⟨m,hm⟩:∃ m,ys.length=m:=⟨_,rfl⟩;rw [hn] at q ⊢;rw [hm] at r ⊢;have HN:=aa hn;have HM:=aa hm;clear hn hm
 go_enter func143,ntmps143
 by_cases j:n=m
 rotate_left
 ·have hb:((n:Int) != (m:Int))=true:=by rw [bne_iff_ne];omega
  have HF:Hid (eqL xs ys=false):=gB (by rw [HN.out,HM.out];exact j)
  clear j
  go_wp2_with fail
  go_ret
  exact ⟨by rw [HF.out];rfl,Below.refl _ _⟩
 subst j
 go_wp2_with fail
 go_loopw [13] (fun i wr => ∃ k:Nat,k<=n/\i = .int .i64 k/\Hid (xs.take k=ys.take k)/\Cx w wr) (fun i _=>n-(intOf i).toNat)
 case atStart=>exact ⟨0,Nat.zero_le _,rfl,by unfold Hid;rw [List.take_zero,List.take_zero],Below.refl _ _⟩
 case round =>
  obtain ⟨k,hk,rfl,HT,d⟩:=hrel
  by_cases s:k<n
  ·have z:(k:Int)<n:=CG
   have f:k<xs.length:=by rw [HN.out];exact s
   have g:k<ys.length:=by rw [HM.out];exact s
   obtain ⟨b,o,ha,hc⟩:=(hx.out.below d).2.resolve_left (nz f);obtain ⟨b',o',A,t⟩:=(hy.out.below d).2.resolve_left (nz g);subst ha A;have l:Hid (xs[k]=ys[k]->xs.take (k+1)=ys.take (k+1)):=fun e=>by rw [List.take_succ_eq_append_getElem f,List.take_succ_eq_append_getElem g,HT.out,e]
   have p:Hid (xs[k]≠ys[k]->eqL xs ys=false):=im f g;have cx:=hc k f;have cy:=t k g;generalize xs[k]=x at cx l p;generalize ys[k]=y at cy l p;have u:=aa d;clear hc t d HT f g
   go_upto_region 6 with fail
   by_cases h0:x=y
   rotate_left
   ·have HF:=aa (p.out (fun e=>h0 (by exact e)))
    have f0:(x==y)=false:=by simpa using h0
    have f1:(x != y)=true:=by simpa using h0
    clear h0
    go_quiet (fail)
    go_wp2_with fail
    go_ret
    exact ⟨by rw [HF.out];rfl,bZ u.out _⟩
   subst h0;have v:Hid (xs.take (k+1)=ys.take (k+1)):=l.out rfl;have b0:(x != x)=false:=CI
   go_quiet (fail)
   go_wp2_with fail
   go_roundw
   case rel=>exact ⟨k+1,CG,by go_num,v,bZ u.out _⟩
   case measure=>simp [intOf];omega
  ·have z:¬ (k:Int)<n:=CG
   have HE:Hid (eqL xs ys=true):=fJ (by have h:=HT.out;rw [List.take_of_length_le (by rw [HN.out];omega),List.take_of_length_le (by rw [HM.out];omega)] at h;exact h)
   go_wp2_with fail
   go_ret
   exact ⟨by rw [HE.out];rfl,d⟩
theorem oZ (a a':Option Addr)(c c':Nat)(xs ys:List aI)(w:World)(hx:Hid (bw w a xs))(hy:Hid (bw w a' ys)):
  Calls prog 144 #[.slice a xs.length c,.slice a' ys.length c'] w fun e w'=>e = .returned (.bool (eqL xs ys))/\Cx w w':=by
 have r:=hx.out.1;have s:=hy.out.1;unfold maxLen at r s;obtain ⟨n,hn⟩:∃ n,xs.length=n:=⟨_,rfl⟩;obtain ⟨m,hm⟩:∃ m,ys.length=m:=⟨_,rfl⟩;rw [hn] at r ⊢;rw [hm] at s ⊢;have HN:=aa hn;have HM:=aa hm;clear hn hm
 go_enter func144,ntmps144
 by_cases p:n=m
 rotate_left
 ·have hb:((n:Int) != (m:Int))=true:=by rw [bne_iff_ne];omega
  have HF:Hid (eqL xs ys=false):=gB (by rw [HN.out,HM.out];exact p)
  clear p
  go_wp2_with fail
  go_ret
  exact ⟨by rw [HF.out];rfl,Below.refl _ _⟩
 subst p
 go_wp2_with fail
 go_loopw [13] (fun i wr => ∃ k:Nat,k<=n/\i = .int .i64 k/\Hid (xs.take k=ys.take k)/\Cx w wr) (fun i _=>n-(intOf i).toNat)
 case atStart=>exact ⟨0,Nat.zero_le _,rfl,by unfold Hid;rw [List.take_zero,List.take_zero],Below.refl _ _⟩
 case round =>
  obtain ⟨k,hk,rfl,HT,d⟩:=hrel
  by_cases t:k<n
  ·have z:(k:Int)<n:=CG
   have f:k<xs.length:=by rw [HN.out];exact t
   have g:k<ys.length:=by rw [HM.out];exact t
   obtain ⟨b,o,ha,hc⟩:=(hx.out.below d).2.resolve_left (nz f);obtain ⟨b',o',A,u⟩:=(hy.out.below d).2.resolve_left (nz g);subst ha A;have q:Hid (xs[k]=ys[k]->xs.take (k+1)=ys.take (k+1)):=fun e=>by rw [List.take_succ_eq_append_getElem f,List.take_succ_eq_append_getElem g,HT.out,e]
   have j:Hid (xs[k]≠ys[k]->eqL xs ys=false):=im f g;have cx:=hc k f;have cy:=u k g;generalize xs[k]=x at cx q j;generalize ys[k]=y at cy q j;obtain ⟨x0,x1,x2⟩:=x;obtain ⟨y0,y1,y2⟩:=y;obtain ⟨B,C,D⟩:=cx;obtain ⟨E,F,G⟩:=cy;dsimp only at B C D E F G;have l:=aa d;clear hc u d HT f g
   go_upto_region 6 with fail
   by_cases h0:x0=y0
   rotate_left
   ·have HF:=aa (j.out (fun e=>h0 (by injection e)))
    have f0:(x0==y0)=false:=by simpa using h0
    have f1:(x0 != y0)=true:=by simpa using h0
    clear h0
    go_quiet (fail)
    go_wp2_with fail
    go_ret
    exact ⟨by rw [HF.out];rfl,bZ l.out _⟩
   subst h0
   by_cases h1:x1=y1
   rotate_left
   ·have HF:=aa (j.out (fun e=>h1 (by injection e)))
    have f0:(x1==y1)=false:=by simpa using h1
    have f1:(x1 != y1)=true:=by simpa using h1
    have b0:(x0==x0)=true:=CI
    clear h1
    go_quiet (fail)
    go_wp2_with fail
    go_ret
    exact ⟨by rw [HF.out];rfl,bZ l.out _⟩
   subst h1
   by_cases h2:x2=y2
   rotate_left
   ·have HF:=aa (j.out (fun e=>h2 (by injection e)))
    have f0:(x2==y2)=false:=by simpa using h2
    have f1:(x2 != y2)=true:=by simpa using h2
    have b0:(x0==x0)=true:=CI
    have b1:(x1==x1)=true:=CI
    clear h2
    go_quiet (fail)
    go_wp2_with fail
    go_ret
    exact ⟨by rw [HF.out];rfl,bZ l.out _⟩
   subst h2;have v:Hid (xs.take (k+1)=ys.take (k+1)):=q.out rfl;have b0:(x0 != x0)=false:=CI
   have b1:(x1 != x1)=false:=CI
   have b2:(x2 != x2)=false:=CI
   go_quiet (fail)
   go_wp2_with fail
   go_roundw
   case rel=>exact ⟨k+1,CG,by go_num,v,bZ l.out _⟩
   case measure=>simp [intOf];omega
  ·have z:¬ (k:Int)<n:=CG
   have HE:Hid (eqL xs ys=true):=fJ (by have h:=HT.out;rw [List.take_of_length_le (by rw [HN.out];omega),List.take_of_length_le (by rw [HM.out];omega)] at h;exact h)
   go_wp2_with fail
   go_ret
   exact ⟨by rw [HE.out];rfl,d⟩
theorem sZ (a a':Option Addr)(c c':Nat)(xs ys:List aN)(w:World)(hx:Hid (cw w a xs))(hy:Hid (cw w a' ys)):
  Calls prog 145 #[.slice a xs.length c,.slice a' ys.length c'] w fun e w'=>e = .returned (.bool (eqL xs ys))/\Cx w w':=by
 have r:=hx.out.1;have s:=hy.out.1;unfold maxLen at r s;obtain ⟨n,hn⟩:∃ n,xs.length=n:=⟨_,rfl⟩;obtain ⟨m,hm⟩:∃ m,ys.length=m:=⟨_,rfl⟩;rw [hn] at r ⊢;rw [hm] at s ⊢;have HN:=aa hn;have HM:=aa hm;clear hn hm
 go_enter func145,ntmps145
 by_cases p:n=m
 rotate_left
 ·have hb:((n:Int) != (m:Int))=true:=by rw [bne_iff_ne];omega
  have HF:Hid (eqL xs ys=false):=gB (by rw [HN.out,HM.out];exact p)
  clear p
  go_wp2_with fail
  go_ret
  exact ⟨by rw [HF.out];rfl,Below.refl _ _⟩
 subst p
 go_wp2_with fail
 go_loopw [13] (fun i wr => ∃ k:Nat,k<=n/\i = .int .i64 k/\Hid (xs.take k=ys.take k)/\Cx w wr) (fun i _=>n-(intOf i).toNat)
 case atStart=>exact ⟨0,Nat.zero_le _,rfl,by unfold Hid;rw [List.take_zero,List.take_zero],Below.refl _ _⟩
 case round =>
  obtain ⟨k,hk,rfl,HT,f⟩:=hrel
  by_cases t:k<n
  ·have z:(k:Int)<n:=CG
   have g:k<xs.length:=by rw [HN.out];exact t
   have j:k<ys.length:=by rw [HM.out];exact t
   obtain ⟨b,o,ha,hc⟩:=(hx.out.below f).2.resolve_left (nz g);obtain ⟨b',o',A,u⟩:=(hy.out.below f).2.resolve_left (nz j);subst ha A;have q:Hid (xs[k]=ys[k]->xs.take (k+1)=ys.take (k+1)):=fun e=>by rw [List.take_succ_eq_append_getElem g,List.take_succ_eq_append_getElem j,HT.out,e]
   have d:Hid (xs[k]≠ys[k]->eqL xs ys=false):=im g j;have cx:=hc k g;have cy:=u k j;generalize xs[k]=x at cx q d;generalize ys[k]=y at cy q d;obtain ⟨x0,x1,x2,x3⟩:=x;obtain ⟨y0,y1,y2,y3⟩:=y;obtain ⟨B,C,D,E⟩:=cx;obtain ⟨F,G,H,I⟩:=cy;dsimp only at B C D E F G H I;have l:=aa f;clear hc u f HT g j
   go_upto_region 6 with fail
   by_cases h0:x0=y0
   rotate_left
   ·have HF:=aa (d.out (fun e=>h0 (by injection e)))
    have f0:(x0==y0)=false:=by simpa using h0
    have f1:(x0 != y0)=true:=by simpa using h0
    clear h0
    go_quiet (fail)
    go_wp2_with fail
    go_ret
    exact ⟨by rw [HF.out];rfl,bZ l.out _⟩
   subst h0
   by_cases h1:x1=y1
   rotate_left
   ·have HF:=aa (d.out (fun e=>h1 (by injection e)))
    have f0:(x1==y1)=false:=by simpa using h1
    have f1:(x1 != y1)=true:=by simpa using h1
    have b0:(x0==x0)=true:=CI
    clear h1
    go_quiet (fail)
    go_wp2_with fail
    go_ret
    exact ⟨by rw [HF.out];rfl,bZ l.out _⟩
   subst h1
   by_cases h2:x2=y2
   rotate_left
   ·have HF:=aa (d.out (fun e=>h2 (by injection e)))
    have f0:(x2==y2)=false:=by simpa using h2
    have f1:(x2 != y2)=true:=by simpa using h2
    have b0:(x0==x0)=true:=CI
    have b1:(x1==x1)=true:=CI
    clear h2
    go_quiet (fail)
    go_wp2_with fail
    go_ret
    exact ⟨by rw [HF.out];rfl,bZ l.out _⟩
   subst h2
   by_cases h3:x3=y3
   rotate_left
   ·have HF:=aa (d.out (fun e=>h3 (by injection e)))
    have f0:(x3==y3)=false:=by simpa using h3
    have f1:(x3 != y3)=true:=by simpa using h3
    have b0:(x0==x0)=true:=CI
    have b1:(x1==x1)=true:=CI
    have b2:(x2==x2)=true:=CI
    clear h3
    go_quiet (fail)
    go_wp2_with fail
    go_ret
    exact ⟨by rw [HF.out];rfl,bZ l.out _⟩
   subst h3;have v:Hid (xs.take (k+1)=ys.take (k+1)):=q.out rfl;have b0:(x0 != x0)=false:=CI
   have b1:(x1 != x1)=false:=CI
   have b2:(x2 != x2)=false:=CI
   have b3:(x3 != x3)=false:=CI
   go_quiet (fail)
   go_wp2_with fail
   go_roundw
   case rel=>exact ⟨k+1,CG,by go_num,v,bZ l.out _⟩
   case measure=>simp [intOf];omega
  ·have z:¬ (k:Int)<n:=CG
   have HE:Hid (eqL xs ys=true):=fJ (by have h:=HT.out;rw [List.take_of_length_le (by rw [HN.out];omega),List.take_of_length_le (by rw [HM.out];omega)] at h;exact h)
   go_wp2_with fail
   go_ret
   exact ⟨by rw [HE.out];rfl,f⟩
def dg (r q:al)(D:Prop->Bool:=fun p => @decide p (Classical.propDecidable p)):Int:=
 if r.start=q.start/\r.stop=q.stop/\eqL r.CE q.CE D=true then
  if eqL r.CA q.CA D=true/\eqL r.Cy q.Cy D=true then
   if eqL r.CF q.CF D=true/\eqL r.over q.over D=true then
    if eqL r.Cz q.Cz D=true then 0 else 6
   else 5
  else 4
 else 3
theorem gD (code row col:Int)(w:World):Calls prog 119 #[.int .i64 code,.int .i64 row,.int .i64 col] w fun e w'=>e = .returned (j0 code row col)/\w'=w:=by
 go_enter func119,ntmps119
 go_wp2_with fail
 go_ret
 exact ⟨rfl,rfl⟩
theorem qS (d d':aL)(r q:al)(w:World)(hr:Hid (bq w d r))(hq:Hid (bq w d' q)):
  Calls prog 120 #[cC d r,cC d' q] w fun e w'=>e = .returned (.int .i64 (dg r q))/\Cx w w':=by
 unfold cC
 go_enter func120,ntmps120
 have HW:Hid (dg r q=if r.start=q.start/\r.stop=q.stop/\eqL r.CE q.CE=true then
  if eqL r.CA q.CA=true/\eqL r.Cy q.Cy=true then
   if eqL r.CF q.CF=true/\eqL r.over q.over=true then
    if eqL r.Cz q.Cz=true then 0 else 6
   else 5
  else 4
 else 3):=rfl
 obtain ⟨v,hv⟩:∃ v,dg r q=v:=⟨_,rfl⟩;rw [hv];rw [hv] at HW;clear hv
 go_upto_region 1 with fail
 generalize hW:World.alloc (World.alloc w _) _=W;have i:Cx w W:=by rw [<-hW];exact blo
 have HX:Hid (aA W w.heap.size 0 d r):=by rw [<-hW];exact ⟨CO,CO,CO,CO,CO,CO,CO,CO⟩
 have HY:Hid (aA W (w.heap.size+1) 0 d' q):=by rw [<-hW];exact ⟨CO,CO,CO,CO,CO,CO,CO,CO⟩
 have j:=aa i;have HR:=aa (hr.out.below i);have HQ:=aa (hq.out.below i);obtain ⟨X,hX⟩:∃ X,w.heap.size=X:=⟨_,rfl⟩;obtain ⟨Y,hY⟩:∃ Y,X+1=Y:=⟨_,rfl⟩;have ab:Hid (w.heap.size=X):=hX;rw [hX] at HX HY ⊢;rw [hY] at HY ⊢;clear hW i hX hY hr hq;have x0:=HX.out.k0;have x1:=HX.out.k1;have x2:=HX.out.k2;have y0:=HY.out.k0;have y1:=HY.out.k1;have y2:=HY.out.k2;simp only [Nat.zero_add] at x0 x1 x2 y0 y1 y2
 by_cases h0:r.start=q.start
 rotate_left
 ·have f0:(r.start != q.start)=true:=by simpa using h0
  have HV:Hid (v=3):=by unfold Hid;rw [HW.out,if_neg (fun h=>h0 h.1)]
  clear h0
  go_wp2_with fail
  go_ret
  exact ⟨by rw [HV.out];rfl,j.out⟩
 have f0:(r.start != q.start)=false:=by simpa using h0
 have H0:=aa h0;clear h0
 by_cases h1:r.stop=q.stop
 rotate_left
 ·have f1:(r.stop != q.stop)=true:=by simpa using h1
  have HV:Hid (v=3):=by unfold Hid;rw [HW.out,if_neg (fun h=>h1 h.2.1)]
  clear h1
  go_wp2_with fail
  go_ret
  exact ⟨by rw [HV.out];rfl,j.out⟩
 have f1:(r.stop != q.stop)=false:=by simpa using h1
 have H1:=aa h1;clear h1
 go_wp2_with fail
 refine (uZ d.a0 d'.a0 d.c0 d'.c0 r.CE q.CE W HR.out.CE HQ.out.CE).mono ?_;rintro e w1 ⟨rfl,c⟩;have s:=aa (j.out.trans (c.mono j.out.size));have k:=aa (HX.out.below c);have l:=aa (HY.out.below c);have t:=aa (HR.out.below c);have u:=aa (HQ.out.below c);have x3:=k.out.k3;have x4:=k.out.k4;have y3:=l.out.k3;have y4:=l.out.k4;simp only [Nat.zero_add] at x3 x4 y3 y4;clear c x0 x1 x2 y0 y1 y2 f0 f1 HX HY HR HQ;cases hs:eqL r.CE q.CE
 ·have HV:Hid (v=3):=by unfold Hid;rw [HW.out,if_neg (fun h=>by rw [hs] at h;simp at h)]
  go_wp2_with fail
  go_ret
  exact ⟨by rw [HV.out];rfl,s.out⟩
 have HS:=aa hs;clear hs
 go_wp2_with fail
 refine (xX d.a1 d'.a1 d.c1 d'.c1 r.CA q.CA w1 t.out.CA u.out.CA).mono ?_;rintro e w2 ⟨rfl,a⟩;have x:=aa (s.out.trans (a.mono s.out.size));have H:=aa (k.out.below a);have I:=aa (l.out.below a);have y:=aa (t.out.below a);have z:=aa (u.out.below a);replace x4:=cell_later a x4;replace y4:=cell_later a y4;clear a x3 y3 k l t u;cases hs:eqL r.CA q.CA
 ·have HV:Hid (v=4):=by unfold Hid;rw [HW.out,if_pos ⟨H0.out,H1.out,HS.out⟩,if_neg (fun h=>by rw [hs] at h;simp at h)]
  go_wp2_with fail
  go_ret
  exact ⟨by rw [HV.out];rfl,x.out⟩
 have m:=aa hs;clear hs
 go_wp2_with fail
 refine (xl d.a2 d'.a2 d.c2 d'.c2 r.Cy q.Cy w2 y.out.Cy z.out.Cy).mono ?_;rintro e w3 ⟨rfl,f⟩;have A:=aa (x.out.trans (f.mono x.out.size));have n:=aa (H.out.below f);have o:=aa (I.out.below f);have B:=aa (y.out.below f);have C:=aa (z.out.below f);have x5:=n.out.k5;have x6:=n.out.k6;have y5:=o.out.k5;have y6:=o.out.k6;simp only [Nat.zero_add] at x5 x6 y5 y6;clear f x4 y4 H I y z;cases hs:eqL r.Cy q.Cy
 ·have HV:Hid (v=4):=by unfold Hid;rw [HW.out,if_pos ⟨H0.out,H1.out,HS.out⟩,if_neg (fun h=>by rw [hs] at h;simp at h)]
  go_wp2_with fail
  go_ret
  exact ⟨by rw [HV.out];rfl,A.out⟩
 have p:=aa hs;clear hs
 go_wp2_with fail
 refine (oZ d.a3 d'.a3 d.c3 d'.c3 r.CF q.CF w3 B.out.CF C.out.CF).mono ?_;rintro e w4 ⟨rfl,b⟩;have D:=aa (A.out.trans (b.mono A.out.size));have J:=aa (n.out.below b);have L:=aa (o.out.below b);have E:=aa (B.out.below b);have F:=aa (C.out.below b);replace x6:=cell_later b x6;replace y6:=cell_later b y6;clear b x5 y5 n o B C;cases hs:eqL r.CF q.CF
 ·have HV:Hid (v=5):=by unfold Hid;rw [HW.out,if_pos ⟨H0.out,H1.out,HS.out⟩,if_pos ⟨m.out,p.out⟩,if_neg (fun h=>by rw [hs] at h;simp at h)]
  go_wp2_with fail
  go_ret
  exact ⟨by rw [HV.out];rfl,D.out⟩
 have M:=aa hs;clear hs
 go_wp2_with fail
 refine (oZ d.a4 d'.a4 d.c4 d'.c4 r.over q.over w4 E.out.over F.out.over).mono ?_;rintro e w5 ⟨rfl,g⟩;have G:=aa (D.out.trans (g.mono D.out.size));have N:=aa (J.out.below g);have O:=aa (L.out.below g);have R:=aa (E.out.below g);have T:=aa (F.out.below g);have x7:=N.out.k7;have y7:=O.out.k7;simp only [Nat.zero_add] at x7 y7;clear g x6 y6 J L E F;cases hs:eqL r.over q.over
 ·have HV:Hid (v=5):=by unfold Hid;rw [HW.out,if_pos ⟨H0.out,H1.out,HS.out⟩,if_pos ⟨m.out,p.out⟩,if_neg (fun h=>by rw [hs] at h;simp at h)]
  go_wp2_with fail
  go_ret
  exact ⟨by rw [HV.out];rfl,G.out⟩
 have U:=aa hs;clear hs
 go_wp2_with fail
 refine (sZ d.a5 d'.a5 d.c5 d'.c5 r.Cz q.Cz w5 R.out.Cz T.out.Cz).mono ?_;rintro e w6 ⟨rfl,V⟩;have Z:=aa (G.out.trans (V.mono G.out.size));clear V x7 y7 N O R T;cases hs:eqL r.Cz q.Cz
 ·have HV:Hid (v=6):=by unfold Hid;rw [HW.out,if_pos ⟨H0.out,H1.out,HS.out⟩,if_pos ⟨m.out,p.out⟩,if_pos ⟨M.out,U.out⟩,if_neg (fun h=>by rw [hs] at h;simp at h)]
  go_wp2_with fail
  go_ret
  exact ⟨by rw [HV.out];rfl,Z.out⟩
 ·have HV:Hid (v=0):=by unfold Hid;rw [HW.out,if_pos ⟨H0.out,H1.out,HS.out⟩,if_pos ⟨m.out,p.out⟩,if_pos ⟨M.out,U.out⟩,if_pos hs]
  go_wp2_with fail
  go_ret
  exact ⟨by rw [HV.out];rfl,Z.out⟩
def dF:List al->List al->Nat->(D:Prop->Bool:=fun p => @decide p (Classical.propDecidable p))->Option (Int × Nat)
 | [],[],_,_=>none
 | [],_::_,i,_=>some (2,i)
 | _::_,[],i,_=>some (2,i)
 | r::rs,q::qs,i,D=>if dg r q D=0 then dF rs qs (i+1) D else some (dg r q D,i)
def o8 (o:Option (Int × Nat)):Value:=match o with
 | none=>.nilIface
 | some (c,i)=>j0 c i 0
theorem vz (h1:k<rs.length)(h2:k<qs.length):dF (rs.drop k) (qs.drop k) k=if dg rs[k] qs[k]=0 then dF (rs.drop (k+1)) (qs.drop (k+1)) (k+1) else some (dg rs[k] qs[k],k):=by
 rw [List.drop_eq_getElem_cons h1,List.drop_eq_getElem_cons h2];rfl
theorem tU (h1:rs.length<=k)(h2:qs.length<=k):dF (rs.drop k) (qs.drop k) k=none:=by
 rw [List.drop_eq_nil_of_le h1,List.drop_eq_nil_of_le h2];rfl
theorem mc (h:(rs.length<=k/\k<qs.length)\/(qs.length<=k/\k<rs.length)):dF (rs.drop k) (qs.drop k) k=some (2,k):=by
 rcases h with ⟨h1,h2⟩ | ⟨h1,h2⟩
 ·rw [List.drop_eq_nil_of_le h1,List.drop_eq_getElem_cons h2];rfl
 ·rw [List.drop_eq_nil_of_le h1,List.drop_eq_getElem_cons h2];rfl
theorem pM (a a':Option Addr)(c c':Nat)(rs qs:List al)(w:World)(hr:Hid (dG w a rs))(hq:Hid (dG w a' qs)):
  Calls prog 86 #[.slice a rs.length c,.slice a' qs.length c'] w fun e w'=>e = .returned (o8 (dF rs qs 0))/\Cx w w':=by
 have A:=hr.out.1;have B:=hq.out.1;unfold maxLen at A B;obtain ⟨n,hn⟩:∃ n,rs.length=n:=⟨_,rfl⟩;obtain ⟨m,hm⟩:∃ m,qs.length=m:=⟨_,rfl⟩;obtain ⟨O,hO⟩:∃ O,dF rs qs 0=O:=⟨_,rfl⟩;rw [hO];rw [hn] at A ⊢;rw [hm] at B ⊢;have HN:=aa hn;have HM:=aa hm;have HO:Hid (dF (rs.drop 0) (qs.drop 0) 0=O):=hO;clear hn hm hO;obtain ⟨z,hz⟩:∃ z:Nat,max (n:Int) (m:Int)=(z:Int):=⟨max n m,CG⟩
 have l:z=max n m:=CG
 go_enter func86,ntmps86
 go_upto_region 1 with fail
 go_cut [11,12] (fun v i wx=>v = .int .i64 z/\i = .int .i64 0/\wx=w)
 case first =>
  by_cases Z:n<=m
  ·have t:z=m:=CG
   subst t;have x:(n:Int)<=z:=CG
   clear hz l
   go_wp2_with fail
   all_goals
    go_meet
    exact ⟨congrArg (Value.int .i64) CG,rfl,rfl⟩
  ·have t:z=n:=CG
   subst t;have x:¬ (z:Int)<=m:=CG
   clear hz l
   go_wp2_with fail
   all_goals
    go_meet
    exact ⟨congrArg (Value.int .i64) CG,rfl,rfl⟩
 case rest =>
  obtain ⟨rfl,rfl,H⟩:=hcut;subst H;have HZ:=aa l;clear hz l
  go_wp2_with fail
  go_loopw [12] (fun i wr => ∃ k:Nat,k<=z/\(k<=n/\k<=m)/\i = .int .i64 k/\Hid (dF (rs.drop k) (qs.drop k) k=O)/\Cx wc wr) (fun i _=>z-(intOf i).toNat)
  case atStart=>exact ⟨0,Nat.zero_le _,⟨Nat.zero_le _,Nat.zero_le _⟩,rfl,HO,Below.refl _ _⟩
  case round =>
   obtain ⟨k,hk,ab,rfl,HK,f⟩:=hrel
   by_cases ac:k<z
   ·have I:(k:Int)<z:=CG
    by_cases J:k<n
    rotate_left
    ·have f0:decide ((n:Int)<=k)=true:=CN
     have ad:(n:Int)<=k:=CG
     have HE:Hid (o8 O=j0 2 k 0):=by
      unfold Hid;rw [<-HK.out,mc (Or.inl ⟨by rw [HN.out];omega,by rw [HM.out];have:=HZ.out;omega⟩)]
      rfl
     go_wp2_with fail
     refine (gD 2 k 0 _).mono ?_;rintro e w1 ⟨rfl,rfl⟩
     go_wp2_with fail
     go_ret
     exact ⟨by rw [HE.out];rfl,f⟩
    have f0:¬ (n:Int)<=k:=CG
    by_cases L:k<m
    rotate_left
    ·have f1:(m:Int)<=k:=CG
     have HE:Hid (o8 O=j0 2 k 0):=by
      unfold Hid;rw [<-HK.out,mc (Or.inr ⟨by rw [HM.out];omega,by rw [HN.out];have:=HZ.out;omega⟩)]
      rfl
     go_wp2_with fail
     refine (gD 2 k 0 _).mono ?_;rintro e w1 ⟨rfl,rfl⟩
     go_wp2_with fail
     go_ret
     exact ⟨by rw [HE.out];rfl,f⟩
    have f1:¬ (m:Int)<=k:=CG
    have M:(k:Int)<n:=CG
    have N:(k:Int)<m:=CG
    have p:k<rs.length:=by rw [HN.out];exact J
    have s:k<qs.length:=by rw [HM.out];exact L
    obtain ⟨b,o,ha,hc⟩:=(hr.out.below f).2.resolve_left (nz p);obtain ⟨b',o',R,C⟩:=(hq.out.below f).2.resolve_left (nz s);subst ha R;obtain ⟨d,rc,rl⟩:=hc k p;obtain ⟨d',qc,ql⟩:=C k s;have j:Hid (O=if dg rs[k] qs[k]=0 then dF (rs.drop (k+1)) (qs.drop (k+1)) (k+1) else some (dg rs[k] qs[k],k)):=by unfold Hid;rw [<-HK.out,vz p s]
    generalize rs[k]=r at rc rl j;generalize qs[k]=q at qc ql j;have T:=aa rl;have U:=aa ql;have D:=aa f;have V:=aa rc;have W:=aa qc;clear hc C rl ql f HK rc qc p s
    go_upto_region 6 with fail
    go_cut [6] (fun v wx=>v = .int .i64 (dg r q)/\Cx wr wx)
    case first =>
     obtain ⟨S,hS⟩:∃ S:World->Prop,∀ u,S u↔(aA u b (o+k*8) d r/\aA u b' (o'+k*8) d' q):=⟨_,fun _=>Iff.rfl⟩
     have x0:∀ u:an S,World.cell? u.val ⟨b,o+k*8,none⟩=some (.int .i64 r.start):=fun u=>((hS u.val).1 u.2).1.k0
     have x1:∀ u:an S,World.cell? u.val ⟨b,o+k*8+1,none⟩=some (.int .i64 r.stop):=fun u=>((hS u.val).1 u.2).1.k1
     have x2:∀ u:an S,World.cell? u.val ⟨b,o+k*8+2,none⟩=some (.slice d.a0 r.CE.length d.c0):=fun u=>((hS u.val).1 u.2).1.k2
     have x3:∀ u:an S,World.cell? u.val ⟨b,o+k*8+3,none⟩=some (.slice d.a1 r.CA.length d.c1):=fun u=>((hS u.val).1 u.2).1.k3
     have x4:∀ u:an S,World.cell? u.val ⟨b,o+k*8+4,none⟩=some (.slice d.a2 r.Cy.length d.c2):=fun u=>((hS u.val).1 u.2).1.k4
     have x5:∀ u:an S,World.cell? u.val ⟨b,o+k*8+5,none⟩=some (.slice d.a3 r.CF.length d.c3):=fun u=>((hS u.val).1 u.2).1.k5
     have x6:∀ u:an S,World.cell? u.val ⟨b,o+k*8+6,none⟩=some (.slice d.a4 r.over.length d.c4):=fun u=>((hS u.val).1 u.2).1.k6
     have x7:∀ u:an S,World.cell? u.val ⟨b,o+k*8+7,none⟩=some (.slice d.a5 r.Cz.length d.c5):=fun u=>((hS u.val).1 u.2).1.k7
     have y0:∀ u:an S,World.cell? u.val ⟨b',o'+k*8,none⟩=some (.int .i64 q.start):=fun u=>((hS u.val).1 u.2).2.k0
     have y1:∀ u:an S,World.cell? u.val ⟨b',o'+k*8+1,none⟩=some (.int .i64 q.stop):=fun u=>((hS u.val).1 u.2).2.k1
     have y2:∀ u:an S,World.cell? u.val ⟨b',o'+k*8+2,none⟩=some (.slice d'.a0 q.CE.length d'.c0):=fun u=>((hS u.val).1 u.2).2.k2
     have y3:∀ u:an S,World.cell? u.val ⟨b',o'+k*8+3,none⟩=some (.slice d'.a1 q.CA.length d'.c1):=fun u=>((hS u.val).1 u.2).2.k3
     have y4:∀ u:an S,World.cell? u.val ⟨b',o'+k*8+4,none⟩=some (.slice d'.a2 q.Cy.length d'.c2):=fun u=>((hS u.val).1 u.2).2.k4
     have y5:∀ u:an S,World.cell? u.val ⟨b',o'+k*8+5,none⟩=some (.slice d'.a3 q.CF.length d'.c3):=fun u=>((hS u.val).1 u.2).2.k5
     have y6:∀ u:an S,World.cell? u.val ⟨b',o'+k*8+6,none⟩=some (.slice d'.a4 q.over.length d'.c4):=fun u=>((hS u.val).1 u.2).2.k6
     have y7:∀ u:an S,World.cell? u.val ⟨b',o'+k*8+7,none⟩=some (.slice d'.a5 q.Cz.length d'.c5):=fun u=>((hS u.val).1 u.2).2.k7
     have y:S wr.drew:=(hS _).2 ⟨V.out.kept rfl,W.out.kept rfl⟩;have hne:=aQ y;clear hS;refine bW 8 y ?_
     (refine ae 0 ?_;intro K hK;go_big_quiet_op;go_big_quiet_on);(refine ae 1 ?_;intro K hK;go_big_quiet_op;go_big_quiet_on);(refine ae 2 ?_;intro K hK;go_big_quiet_op;go_big_quiet_on);(refine ae 3 ?_;intro K hK;go_big_quiet_op;go_big_quiet_on);(refine ae 4 ?_;intro K hK;go_big_quiet_op;go_big_quiet_on);(refine ae 5 ?_;intro K hK;go_big_quiet_op;go_big_quiet_on);(refine ae 6 ?_;intro K hK;go_big_quiet_op;go_big_quiet_on);(refine ae 7 ?_;intro K hK;go_big_quiet_op;go_big_quiet_on)
     refine a9 ?_;simp only [List.drop_succ_cons,List.drop_zero];clear hne y x0 x1 x2 x3 x4 x5 x6 x7 y0 y1 y2 y3 y4 y5 y6 y7
     go_wp2_with fail
     refine (qS d d' r q _ (T.out.below (CV.drew)) (U.out.below (CV.drew))).mono ?_;rintro e w1 ⟨rfl,E⟩;have X:Hid (Cx wr w1):=CV.drew.trans E;clear E
     go_wp2_with fail
     go_meet
     exact ⟨rfl,X.out⟩
    case rest =>
     obtain ⟨rfl,F⟩:=hcut;have G:=aa (D.out.trans (F.mono D.out.size));obtain ⟨v,hv⟩:∃ v,dg r q=v:=⟨_,rfl⟩;rw [hv] at j ⊢;clear hv F
     by_cases g:v=0
     ·have g0:(v != 0)=false:=by simpa using g
      have Y:Hid (dF (rs.drop (k+1)) (qs.drop (k+1)) (k+1)=O):=by have h:=j.out;rw [if_pos g] at h;exact h.symm
      clear g
      go_wp2_with fail
      go_roundw
      case rel=>exact ⟨k+1,CG,⟨CG,CG⟩,by go_num,Y,G.out⟩
      case measure=>simp [intOf];omega
     ·have g0:(v != 0)=true:=by simpa using g
      have HE:Hid (o8 O=j0 v k 0):=by
       unfold Hid;rw [j.out,if_neg g];rfl
      clear g
      go_wp2_with fail
      refine (gD v k 0 _).mono ?_;rintro e w1 ⟨rfl,rfl⟩
      go_wp2_with fail
      go_ret
      exact ⟨by rw [HE.out];rfl,G.out⟩
   ·have I:¬ (k:Int)<z:=CG
    have HE:Hid (o8 O = .nilIface):=by
     unfold Hid;rw [<-HK.out,tU (by rw [HN.out];have:=HZ.out;omega) (by rw [HM.out];have:=HZ.out;omega)]
     rfl
    go_wp2_with fail
    go_ret
    exact ⟨by rw [HE.out];rfl,f⟩
def eF:List Int->List Int->Nat->Option Nat
 | x::xs,y::ys,k=>if x=y then eF xs ys (k+1) else some k
 | _,_,_=>none
def gV:List (List Int)->List (List Int)->Nat->Option (Nat × Nat)
 | a::ta,b::tb,i=>if a.length=b.length then (match eF a b 0 with
  | none=>gV ta tb (i+1)
  | some k=>some (i,k)) else some (i,a.length)
 | _,_,_=>none
def iI (tt uu:List (List Int)):Option (Nat × Nat):=if tt.length=uu.length then gV tt uu 0 else some (tt.length,0)
def qJ (o:Option (Nat × Nat)):Value:=match o with
 | none=>.nilIface
 | some (i,k)=>j0 7 i k
theorem vC {xs ys:List Int}(h1:k<xs.length)(h2:k<ys.length):eF (xs.drop k) (ys.drop k) k=if xs[k]=ys[k] then eF (xs.drop (k+1)) (ys.drop (k+1)) (k+1) else some k:=by
 rw [List.drop_eq_getElem_cons h1,List.drop_eq_getElem_cons h2];rfl
theorem ui {xs ys:List Int}(h1:xs.length<=k):eF (xs.drop k) (ys.drop k) k=none:=by
 rw [List.drop_eq_nil_of_le h1];unfold eF;rfl
theorem vJ {tt uu:List (List Int)}(h1:i<tt.length)(h2:i<uu.length):gV (tt.drop i) (uu.drop i) i=if tt[i].length=uu[i].length then (match eF tt[i] uu[i] 0 with
  | none=>gV (tt.drop (i+1)) (uu.drop (i+1)) (i+1)
  | some k=>some (i,k)) else some (i,tt[i].length):=by
 rw [List.drop_eq_getElem_cons h1,List.drop_eq_getElem_cons h2];rfl
theorem ug {tt uu:List (List Int)}(h1:tt.length<=i):gV (tt.drop i) (uu.drop i) i=none:=by
 rw [List.drop_eq_nil_of_le h1];unfold gV;rfl
theorem qM (a a':Option Addr)(c c':Nat)(tt uu:List (List Int))(w:World)(ht:Hid (gH w a tt))(hu:Hid (gH w a' uu)):
  Calls prog 87 #[.slice a tt.length c,.slice a' uu.length c'] w fun e w'=>e = .returned (qJ (iI tt uu))/\Cx w w':=by
 have z:=ht.out.1;have A:=hu.out.1;unfold maxLen at z A;obtain ⟨n,hn⟩:∃ n,tt.length=n:=⟨_,rfl⟩;obtain ⟨m,hm⟩:∃ m,uu.length=m:=⟨_,rfl⟩;obtain ⟨O,hO⟩:∃ O,iI tt uu=O:=⟨_,rfl⟩;rw [hO];rw [hn] at z ⊢;rw [hm] at A ⊢;have HN:=aa hn;have HM:=aa hm;have HO:=aa hO;clear hn hm hO
 go_enter func87,ntmps87
 by_cases v:n=m
 rotate_left
 ·have hb:((n:Int) != (m:Int))=true:=by rw [bne_iff_ne];omega
  have HE:Hid (qJ O=j0 7 n ((0:Nat):Int)):=by
   unfold Hid;rw [<-HO.out];unfold iI;rw [if_neg (by rw [HN.out,HM.out];exact v),HN.out]
   rfl
  clear v
  go_wp2_with fail
  refine (gD 7 n 0 _).mono ?_;rintro e w1 ⟨rfl,rfl⟩
  go_wp2_with fail
  go_ret
  exact ⟨by rw [HE.out];rfl,Below.refl _ _⟩
 subst v;have H:Hid (gV (tt.drop 0) (uu.drop 0) 0=O):=by
  have h:=HO.out;unfold iI at h;rw [if_pos (by rw [HN.out,HM.out])] at h
  exact h
 have I:((n:Int) != (n:Int))=false:=CI
 clear HO
 go_wp2_with fail
 clear I
 go_loopw [19] (fun c wr => ∃ i:Nat,i<=n/\c = .int .i64 i/\Hid (gV (tt.drop i) (uu.drop i) i=O)/\Cx w wr) (fun c _=>n-(intOf c).toNat)
 case atStart=>exact ⟨0,Nat.zero_le _,rfl,H,Below.refl _ _⟩
 case round =>
  obtain ⟨i,hi,rfl,HI,j⟩:=hrel
  by_cases B:i<n
  ·have J:(i:Int)<n:=CG
   have r:i<tt.length:=by rw [HN.out];exact B
   have s:i<uu.length:=by rw [HM.out];exact B
   obtain ⟨b,o,ha,hc⟩:=(ht.out.below j).2.resolve_left (nz r);obtain ⟨b',o',L,C⟩:=(hu.out.below j).2.resolve_left (nz s);subst ha L;obtain ⟨ra,rc,r0,rn⟩:=hc i r;obtain ⟨sa,sc,s0,sn⟩:=C i s;have f:=aa (HI.out.symm.trans (vJ r s));generalize tt[i]=X at r0 rn f;generalize uu[i]=Y at s0 sn f;obtain ⟨p,hp⟩:∃ p,X.length=p:=⟨_,rfl⟩;obtain ⟨q,hq⟩:∃ q,Y.length=q:=⟨_,rfl⟩;rw [hp] at r0 f;rw [hq] at s0 f;have D:=rn.1;unfold maxLen at D;rw [hp] at D;have HP:=aa hp;have HQ:=aa hq;have M:=aa rn;have N:=aa sn;have x:=aa j;have R:=aa s0;clear hc C rn sn HI hp hq r s j
   by_cases y:p=q
   rotate_left
   ·have f0:((p:Int) != (q:Int))=true:=by rw [bne_iff_ne];omega
    have HE:Hid (qJ O=j0 7 i p):=by unfold Hid;rw [f.out,if_neg y];rfl
    clear y
    go_wp2_with fail
    refine (gD 7 i p _).mono ?_;rintro e w1 ⟨rfl,rfl⟩
    go_wp2_with fail
    go_ret
    exact ⟨by rw [HE.out];rfl,x.out⟩
   subst y;have l:Hid (O=(match eF (X.drop 0) (Y.drop 0) 0 with
    | none=>gV (tt.drop (i+1)) (uu.drop (i+1)) (i+1)
    | some k=>some (i,k))):=by have h:=f.out;rw [if_pos rfl] at h;exact h
   have f0:((p:Int) != (p:Int))=false:=CI
   clear f
   go_wp2_with fail
   clear f0 r0 s0
   go_loopw [38] (fun c wq => ∃ k:Nat,k<=p/\c = .int .i64 k/\Hid (eF (X.drop k) (Y.drop k) k=eF (X.drop 0) (Y.drop 0) 0)/\wq=wr) (fun c _=>p-(intOf c).toNat)
   case atStart=>exact ⟨0,Nat.zero_le _,rfl,rfl,rfl⟩
   case round =>
    obtain ⟨k,hk,rfl,HK,T⟩:=hrel;subst T
    by_cases E:k<p
    ·have U:(k:Int)<p:=CG
     have t:k<X.length:=by rw [HP.out];exact E
     have u:k<Y.length:=by rw [HQ.out];exact E
     obtain ⟨rb,ro,V,F⟩:=M.out.2.resolve_left (nz t);obtain ⟨sb,so,W,G⟩:=N.out.2.resolve_left (nz u);subst V W;have x0:=F k t;have y0:=G k u;have d:=aa (HK.out.symm.trans (vC t u));generalize X[k]=xv at x0 d;generalize Y[k]=yv at y0 d;have s0:=R.out;clear F G HK t u
     by_cases g:xv=yv
     ·have f0:(xv != yv)=false:=by simpa using g
      have Z:Hid (eF (X.drop (k+1)) (Y.drop (k+1)) (k+1)=eF (X.drop 0) (Y.drop 0) 0):=by have h:=d.out;rw [if_pos g] at h;exact h.symm
      clear g
      go_wp2_with fail
      go_roundw
      case rel=>exact ⟨k+1,CG,by go_num,Z,by first | rfl | trivial⟩
      case measure=>simp [intOf];omega
     ·have f0:(xv != yv)=true:=by simpa using g
      have HE:Hid (qJ O=j0 7 i k):=by
       unfold Hid;rw [l.out,d.out,if_neg g];rfl
      clear g
      go_wp2_with fail
      refine (gD 7 i k _).mono ?_;rintro e w1 ⟨rfl,rfl⟩
      go_wp2_with fail
      go_ret
      exact ⟨by rw [HE.out];rfl,x.out⟩
    ·have U:¬ (k:Int)<p:=CG
     have ab:Hid (gV (tt.drop (i+1)) (uu.drop (i+1)) (i+1)=O):=by
      unfold Hid;rw [l.out,<-HK.out,ui (by rw [HP.out];omega)]
     go_wp2_with fail
     go_roundw
     case rel=>exact ⟨i+1,CG,by go_num,ab,x.out⟩
     case measure=>simp [intOf];omega
  ·have J:¬ (i:Int)<n:=CG
   have HE:Hid (qJ O = .nilIface):=by
    unfold Hid;rw [<-HI.out,ug (by rw [HN.out];omega)]
    rfl
   go_wp2_with fail
   go_ret
   exact ⟨by rw [HE.out];rfl,j⟩
theorem lh {α:Type}{xs ys:List α}(h:eqL xs ys=true):xs=ys:=by
 simpa [eqL] using h
theorem uF {r q:al}(h:dg r q=0):r=q:=by
 unfold dg at h
 by_cases h1:r.start=q.start/\r.stop=q.stop/\eqL r.CE q.CE=true
 ·rw [if_pos h1] at h
  by_cases h2:eqL r.CA q.CA=true/\eqL r.Cy q.Cy=true
  ·rw [if_pos h2] at h
   by_cases h3:eqL r.CF q.CF=true/\eqL r.over q.over=true
   ·rw [if_pos h3] at h
    by_cases h4:eqL r.Cz q.Cz=true
    ·obtain ⟨a0,a1,a2⟩:=h1;obtain ⟨a3,a4⟩:=h2;obtain ⟨a5,a6⟩:=h3;replace a2:=lh a2;replace a3:=lh a3;replace a4:=lh a4;replace a5:=lh a5;replace a6:=lh a6;have a7:=lh h4;cases r;cases q;simp only at a0 a1 a2 a3 a4 a5 a6 a7;subst a0 a1 a2 a3 a4 a5 a6 a7;rfl
    ·rw [if_neg h4] at h;omega
   ·rw [if_neg h3] at h;omega
  ·rw [if_neg h2] at h;omega
 ·rw [if_neg h1] at h;omega
theorem nD:∀ (rs qs:List al)(i:Nat),dF rs qs i=none->rs=qs
 | [],[],_,_=>rfl
 | [],_::_,_,h=>by simp [dF] at h
 | _::_,[],_,h=>by simp [dF] at h
 | r::rs,q::qs,i,h=>by
  unfold dF at h
  by_cases h0:dg r q=0
  ·rw [if_pos h0] at h;rw [uF h0,nD rs qs (i+1) h]
  ·rw [if_neg h0] at h;cases h
def gp (ps:List af)(js:List aj)(ss:List af)(over:Int)(rs:List al)(tt:List (List Int))(D:Prop->Bool:=fun p => @decide p (Classical.propDecidable p)):Option (Int × Option (Int × Int)):=
 if cE ps js ss=(0,0)/\0<=over/\over<=100000 then
  match dF rs (aX ps js ss over) 0 D with
  | some (c,i)=>some (c,some ((i:Int),0))
  | none=>(match iI tt (bD rs) with
   | some (i,k)=>some (7,some ((i:Int),(k:Int)))
   | none=>none)
 else some (1,none)
theorem qF {tt:List (List Int)}(h:¬ (cE ps js ss=(0,0)/\0<=over/\over<=100000)):gp ps js ss over rs tt=some (1,none):=by
 unfold gp;rw [if_neg h]
theorem yR {tt:List (List Int)}(h:cE ps js ss=(0,0)/\0<=over/\over<=100000){c:Int}(hc:dF rs (aX ps js ss over) 0=some (c,i)):gp ps js ss over rs tt=some (c,some ((i:Int),0)):=by
 unfold gp;rw [if_pos h,hc]
theorem sY {tt:List (List Int)}(h:cE ps js ss=(0,0)/\0<=over/\over<=100000)(hc:dF rs (aX ps js ss over) 0=none)(ht:iI tt (bD rs)=some (i,k)):gp ps js ss over rs tt=some (7,some ((i:Int),(k:Int))):=by
 unfold gp;rw [if_pos h,hc];dsimp only;rw [ht]
theorem vH {tt:List (List Int)}(h:cE ps js ss=(0,0)/\0<=over/\over<=100000)(hc:dF rs (aX ps js ss over) 0=none)(ht:iI tt (bD rs)=none):gp ps js ss over rs tt=none:=by
 unfold gp;rw [if_pos h,hc];dsimp only;rw [ht]
end Go.Proofs.YtmkdgnmmebldgaaGreatDoor
