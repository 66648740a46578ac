import Derived.Test.YtmkdgnmmebldgaaGreatDoorPt1
import Derived.Test.YtmkdgnmmebldgaaGreatDoorPt2
import Derived.BigQuiet
import Derived.Deep.DeepCutAuto
import Derived.Test.YtmkdgnmmebldgaaGreatDoorPt18
set_option maxRecDepth 100000
set_option maxHeartbeats 8000000
namespace Go.Proofs.YtmkdgnmmebldgaaGreatDoor
open Go.RowKit
def errV (code row col:Int):Value:=.iface 100 (.agg #[.int .i64 code,.iface 104 (.agg #[.int .i64 row,.int .i64 col])])
def errsV:Option (Int × Option (Int × Int))→Value
 | none=>.nilIface
 | some (c,none)=>.iface 100 (.agg #[.int .i64 c,.nilIface])
 | some (c,some (a,b))=>errV c a b
end Go.Proofs.YtmkdgnmmebldgaaGreatDoor
namespace Go.Proofs.YtmkdgnmmebldgaaGreatDoor
open Go.RowKit Go.Deep
def eqL {α : Type} (xs ys : List α) (D : Prop → Bool := fun p => @decide p (Classical.propDecidable p)) : Bool := D (xs = ys)
theorem eqL_t {α:Type}{xs ys:List α}(h:xs=ys):eqL xs ys=true:=by unfold eqL;simp [h]
theorem eqL_f {α:Type}{xs ys:List α}(h:¬ xs=ys):eqL xs ys=false:=by unfold eqL;simp [h]
theorem eqL_len {α:Type}{xs ys:List α}(h:¬ xs.length=ys.length):eqL xs ys=false:=eqL_f (fun e=>h (by rw [e]))
theorem eqL_at {α:Type}{xs ys:List α}{k:Nat}(h1:k<xs.length)(h2:k<ys.length)(h:xs[k]≠ys[k]):eqL xs ys=false:=eqL_f (fun e=>by subst e;exact h rfl)
theorem eqSteps_any (a a':Option Addr)(c c':Nat)(xs ys:List MEnd)(w:World)(hx:Hid (EndsAt w a xs))(hy:Hid (EndsAt w a' ys)):
  Calls Tryz.prog 141 #[.slice a xs.length c,.slice a' ys.length c'] w fun e w'=>e = .returned (.bool (eqL xs ys))∧Below w.heap.size w w':=by
 have hl1:=hx.out.1
 have hl2:=hy.out.1
 unfold maxLen at hl1 hl2
 obtain ⟨n,hn⟩:∃ n,xs.length=n:=⟨_,rfl⟩
 obtain ⟨m,hm⟩:∃ m,ys.length=m:=⟨_,rfl⟩
 rw [hn] at hl1 ⊢
 rw [hm] at hl2 ⊢
 have HN:=hidP hn
 have HM:=hidP hm
 clear hn hm
 go_enter Tryz.func141,Tryz.ntmps141
 by_cases hnm:n=m
 rotate_left
 ·have hb:((n:Int) != (m:Int))=true:=by rw [bne_iff_ne];omega
  have HF:Hid (eqL xs ys=false):=eqL_len (by rw [HN.out,HM.out];exact hnm)
  clear hnm
  go_wp2_with fail
  go_ret
  exact ⟨by rw [HF.out];rfl,Below.refl _ _⟩
 subst hnm
 go_wp2_with fail
 go_loopw [13] (fun i wr => ∃ k:Nat,k≤n∧i = .int .i64 k∧Hid (xs.take k=ys.take k)∧Below w.heap.size w wr) (fun i _=>n-(intOf i).toNat)
 case atStart=>exact ⟨0,Nat.zero_le _,rfl,by unfold Hid;rw [List.take_zero,List.take_zero],Below.refl _ _⟩
 case round =>
  obtain ⟨k,hk,rfl,HT,hbr⟩:=hrel
  by_cases hk':k<n
  ·have hki:(k:Int)<n:=by omega
   have hkx:k<xs.length:=by rw [HN.out];exact hk'
   have hky:k<ys.length:=by rw [HM.out];exact hk'
   obtain ⟨b,o,ha,hc⟩:=(hx.out.below hbr).2.resolve_left (nz hkx)
   obtain ⟨b',o',ha',hc'⟩:=(hy.out.below hbr).2.resolve_left (nz hky)
   subst ha ha'
   have HTS:Hid (xs[k]=ys[k]→xs.take (k+1)=ys.take (k+1)):=fun e=>by rw [List.take_succ_eq_append_getElem hkx,List.take_succ_eq_append_getElem hky,HT.out,e]
   have HNE:Hid (xs[k]≠ys[k]→eqL xs ys=false):=eqL_at hkx hky
   have cx:=hc k hkx
   have cy:=hc' k hky
   generalize xs[k]=x at cx HTS HNE
   generalize ys[k]=y at cy HTS HNE
   obtain ⟨x0,x1⟩:=x
   obtain ⟨y0,y1⟩:=y
   obtain ⟨cx0,cx1⟩:=cx
   obtain ⟨cy0,cy1⟩:=cy
   dsimp only at cx0 cx1 cy0 cy1
   have HBr:=hidP hbr
   clear hc hc' hbr HT hkx hky
   go_upto_region 6 with fail
   by_cases h0:x0=y0
   rotate_left
   ·have HF:=hidP (HNE.out (fun e=>h0 (by injection e)))
    have f0:(x0==y0)=false:=by simpa using h0
    have f1:(x0 != y0)=true:=by simpa using h0
    clear h0
    go_quiet (fail)
    go_wp2_with fail
    go_ret
    exact ⟨by rw [HF.out];rfl,bdrewN HBr.out _⟩
   subst h0
   by_cases h1:x1=y1
   rotate_left
   ·have HF:=hidP (HNE.out (fun e=>h1 (by injection e)))
    have f0:(x1==y1)=false:=by simpa using h1
    have f1:(x1 != y1)=true:=by simpa using h1
    have b0:(x0==x0)=true:=by simp
    clear h1
    go_quiet (fail)
    go_wp2_with fail
    go_ret
    exact ⟨by rw [HF.out];rfl,bdrewN HBr.out _⟩
   subst h1
   have v:Hid (xs.take (k+1)=ys.take (k+1)):=HTS.out rfl
   have b0:(x0 != x0)=false:=by simp
   have b1:(x1 != x1)=false:=by simp
   go_quiet (fail)
   go_wp2_with fail
   go_roundw
   case rel=>exact ⟨k+1,by omega,by go_num,v,bdrewN HBr.out _⟩
   case measure=>simp [intOf];omega
  ·have hki:¬ (k:Int)<n:=by omega
   have HE:Hid (eqL xs ys=true):=eqL_t (by have h:=HT.out;rw [List.take_of_length_le (by rw [HN.out];omega),List.take_of_length_le (by rw [HM.out];omega)] at h;exact h)
   go_wp2_with fail
   go_ret
   exact ⟨by rw [HE.out];rfl,hbr⟩
theorem eqLies_any (a a':Option Addr)(c c':Nat)(xs ys:List MEnd)(w:World)(hx:Hid (EndsAt w a xs))(hy:Hid (EndsAt w a' ys)):
  Calls Tryz.prog 142 #[.slice a xs.length c,.slice a' ys.length c'] w fun e w'=>e = .returned (.bool (eqL xs ys))∧Below w.heap.size w w':=by
 have hl1:=hx.out.1
 have hl2:=hy.out.1
 unfold maxLen at hl1 hl2
 obtain ⟨n,hn⟩:∃ n,xs.length=n:=⟨_,rfl⟩
 obtain ⟨m,hm⟩:∃ m,ys.length=m:=⟨_,rfl⟩
 rw [hn] at hl1 ⊢
 rw [hm] at hl2 ⊢
 have HN:=hidP hn
 have HM:=hidP hm
 clear hn hm
 go_enter Tryz.func142,Tryz.ntmps142
 by_cases hnm:n=m
 rotate_left
 ·have hb:((n:Int) != (m:Int))=true:=by rw [bne_iff_ne];omega
  have HF:Hid (eqL xs ys=false):=eqL_len (by rw [HN.out,HM.out];exact hnm)
  clear hnm
  go_wp2_with fail
  go_ret
  exact ⟨by rw [HF.out];rfl,Below.refl _ _⟩
 subst hnm
 go_wp2_with fail
 go_loopw [13] (fun i wr => ∃ k:Nat,k≤n∧i = .int .i64 k∧Hid (xs.take k=ys.take k)∧Below w.heap.size w wr) (fun i _=>n-(intOf i).toNat)
 case atStart=>exact ⟨0,Nat.zero_le _,rfl,by unfold Hid;rw [List.take_zero,List.take_zero],Below.refl _ _⟩
 case round =>
  obtain ⟨k,hk,rfl,HT,hbr⟩:=hrel
  by_cases hk':k<n
  ·have hki:(k:Int)<n:=by omega
   have hkx:k<xs.length:=by rw [HN.out];exact hk'
   have hky:k<ys.length:=by rw [HM.out];exact hk'
   obtain ⟨b,o,ha,hc⟩:=(hx.out.below hbr).2.resolve_left (nz hkx)
   obtain ⟨b',o',ha',hc'⟩:=(hy.out.below hbr).2.resolve_left (nz hky)
   subst ha ha'
   have HTS:Hid (xs[k]=ys[k]→xs.take (k+1)=ys.take (k+1)):=fun e=>by rw [List.take_succ_eq_append_getElem hkx,List.take_succ_eq_append_getElem hky,HT.out,e]
   have HNE:Hid (xs[k]≠ys[k]→eqL xs ys=false):=eqL_at hkx hky
   have cx:=hc k hkx
   have cy:=hc' k hky
   generalize xs[k]=x at cx HTS HNE
   generalize ys[k]=y at cy HTS HNE
   obtain ⟨x0,x1⟩:=x
   obtain ⟨y0,y1⟩:=y
   obtain ⟨cx0,cx1⟩:=cx
   obtain ⟨cy0,cy1⟩:=cy
   dsimp only at cx0 cx1 cy0 cy1
   have HBr:=hidP hbr
   clear hc hc' hbr HT hkx hky
   go_upto_region 6 with fail
   by_cases h0:x0=y0
   rotate_left
   ·have HF:=hidP (HNE.out (fun e=>h0 (by injection e)))
    have f0:(x0==y0)=false:=by simpa using h0
    have f1:(x0 != y0)=true:=by simpa using h0
    clear h0
    go_quiet (fail)
    go_wp2_with fail
    go_ret
    exact ⟨by rw [HF.out];rfl,bdrewN HBr.out _⟩
   subst h0
   by_cases h1:x1=y1
   rotate_left
   ·have HF:=hidP (HNE.out (fun e=>h1 (by injection e)))
    have f0:(x1==y1)=false:=by simpa using h1
    have f1:(x1 != y1)=true:=by simpa using h1
    have b0:(x0==x0)=true:=by simp
    clear h1
    go_quiet (fail)
    go_wp2_with fail
    go_ret
    exact ⟨by rw [HF.out];rfl,bdrewN HBr.out _⟩
   subst h1
   have v:Hid (xs.take (k+1)=ys.take (k+1)):=HTS.out rfl
   have b0:(x0 != x0)=false:=by simp
   have b1:(x1 != x1)=false:=by simp
   go_quiet (fail)
   go_wp2_with fail
   go_roundw
   case rel=>exact ⟨k+1,by omega,by go_num,v,bdrewN HBr.out _⟩
   case measure=>simp [intOf];omega
  ·have hki:¬ (k:Int)<n:=by omega
   have HE:Hid (eqL xs ys=true):=eqL_t (by have h:=HT.out;rw [List.take_of_length_le (by rw [HN.out];omega),List.take_of_length_le (by rw [HM.out];omega)] at h;exact h)
   go_wp2_with fail
   go_ret
   exact ⟨by rw [HE.out];rfl,hbr⟩
theorem eqNums_any (a a':Option Addr)(c c':Nat)(xs ys:List Int)(w:World)(hx:Hid (NumsAt w a xs))(hy:Hid (NumsAt w a' ys)):
  Calls Tryz.prog 143 #[.slice a xs.length c,.slice a' ys.length c'] w fun e w'=>e = .returned (.bool (eqL xs ys))∧Below w.heap.size w w':=by
 have hl1:=hx.out.1
 have hl2:=hy.out.1
 unfold maxLen at hl1 hl2
 obtain ⟨n,hn⟩:∃ n,xs.length=n:=⟨_,rfl⟩
 obtain ⟨m,hm⟩:∃ m,ys.length=m:=⟨_,rfl⟩
 rw [hn] at hl1 ⊢
 rw [hm] at hl2 ⊢
 have HN:=hidP hn
 have HM:=hidP hm
 clear hn hm
 go_enter Tryz.func143,Tryz.ntmps143
 by_cases hnm:n=m
 rotate_left
 ·have hb:((n:Int) != (m:Int))=true:=by rw [bne_iff_ne];omega
  have HF:Hid (eqL xs ys=false):=eqL_len (by rw [HN.out,HM.out];exact hnm)
  clear hnm
  go_wp2_with fail
  go_ret
  exact ⟨by rw [HF.out];rfl,Below.refl _ _⟩
 subst hnm
 go_wp2_with fail
 go_loopw [13] (fun i wr => ∃ k:Nat,k≤n∧i = .int .i64 k∧Hid (xs.take k=ys.take k)∧Below w.heap.size w wr) (fun i _=>n-(intOf i).toNat)
 case atStart=>exact ⟨0,Nat.zero_le _,rfl,by unfold Hid;rw [List.take_zero,List.take_zero],Below.refl _ _⟩
 case round =>
  obtain ⟨k,hk,rfl,HT,hbr⟩:=hrel
  by_cases hk':k<n
  ·have hki:(k:Int)<n:=by omega
   have hkx:k<xs.length:=by rw [HN.out];exact hk'
   have hky:k<ys.length:=by rw [HM.out];exact hk'
   obtain ⟨b,o,ha,hc⟩:=(hx.out.below hbr).2.resolve_left (nz hkx)
   obtain ⟨b',o',ha',hc'⟩:=(hy.out.below hbr).2.resolve_left (nz hky)
   subst ha ha'
   have HTS:Hid (xs[k]=ys[k]→xs.take (k+1)=ys.take (k+1)):=fun e=>by rw [List.take_succ_eq_append_getElem hkx,List.take_succ_eq_append_getElem hky,HT.out,e]
   have HNE:Hid (xs[k]≠ys[k]→eqL xs ys=false):=eqL_at hkx hky
   have cx:=hc k hkx
   have cy:=hc' k hky
   generalize xs[k]=x at cx HTS HNE
   generalize ys[k]=y at cy HTS HNE
   have HBr:=hidP hbr
   clear hc hc' hbr HT hkx hky
   go_upto_region 6 with fail
   by_cases h0:x=y
   rotate_left
   ·have HF:=hidP (HNE.out (fun e=>h0 (by exact e)))
    have f0:(x==y)=false:=by simpa using h0
    have f1:(x != y)=true:=by simpa using h0
    clear h0
    go_quiet (fail)
    go_wp2_with fail
    go_ret
    exact ⟨by rw [HF.out];rfl,bdrewN HBr.out _⟩
   subst h0
   have v:Hid (xs.take (k+1)=ys.take (k+1)):=HTS.out rfl
   have b0:(x != x)=false:=by simp
   go_quiet (fail)
   go_wp2_with fail
   go_roundw
   case rel=>exact ⟨k+1,by omega,by go_num,v,bdrewN HBr.out _⟩
   case measure=>simp [intOf];omega
  ·have hki:¬ (k:Int)<n:=by omega
   have HE:Hid (eqL xs ys=true):=eqL_t (by have h:=HT.out;rw [List.take_of_length_le (by rw [HN.out];omega),List.take_of_length_le (by rw [HM.out];omega)] at h;exact h)
   go_wp2_with fail
   go_ret
   exact ⟨by rw [HE.out];rfl,hbr⟩
theorem eqParts_any (a a':Option Addr)(c c':Nat)(xs ys:List MPart)(w:World)(hx:Hid (PartsAt w a xs))(hy:Hid (PartsAt w a' ys)):
  Calls Tryz.prog 144 #[.slice a xs.length c,.slice a' ys.length c'] w fun e w'=>e = .returned (.bool (eqL xs ys))∧Below w.heap.size w w':=by
 have hl1:=hx.out.1
 have hl2:=hy.out.1
 unfold maxLen at hl1 hl2
 obtain ⟨n,hn⟩:∃ n,xs.length=n:=⟨_,rfl⟩
 obtain ⟨m,hm⟩:∃ m,ys.length=m:=⟨_,rfl⟩
 rw [hn] at hl1 ⊢
 rw [hm] at hl2 ⊢
 have HN:=hidP hn
 have HM:=hidP hm
 clear hn hm
 go_enter Tryz.func144,Tryz.ntmps144
 by_cases hnm:n=m
 rotate_left
 ·have hb:((n:Int) != (m:Int))=true:=by rw [bne_iff_ne];omega
  have HF:Hid (eqL xs ys=false):=eqL_len (by rw [HN.out,HM.out];exact hnm)
  clear hnm
  go_wp2_with fail
  go_ret
  exact ⟨by rw [HF.out];rfl,Below.refl _ _⟩
 subst hnm
 go_wp2_with fail
 go_loopw [13] (fun i wr => ∃ k:Nat,k≤n∧i = .int .i64 k∧Hid (xs.take k=ys.take k)∧Below w.heap.size w wr) (fun i _=>n-(intOf i).toNat)
 case atStart=>exact ⟨0,Nat.zero_le _,rfl,by unfold Hid;rw [List.take_zero,List.take_zero],Below.refl _ _⟩
 case round =>
  obtain ⟨k,hk,rfl,HT,hbr⟩:=hrel
  by_cases hk':k<n
  ·have hki:(k:Int)<n:=by omega
   have hkx:k<xs.length:=by rw [HN.out];exact hk'
   have hky:k<ys.length:=by rw [HM.out];exact hk'
   obtain ⟨b,o,ha,hc⟩:=(hx.out.below hbr).2.resolve_left (nz hkx)
   obtain ⟨b',o',ha',hc'⟩:=(hy.out.below hbr).2.resolve_left (nz hky)
   subst ha ha'
   have HTS:Hid (xs[k]=ys[k]→xs.take (k+1)=ys.take (k+1)):=fun e=>by rw [List.take_succ_eq_append_getElem hkx,List.take_succ_eq_append_getElem hky,HT.out,e]
   have HNE:Hid (xs[k]≠ys[k]→eqL xs ys=false):=eqL_at hkx hky
   have cx:=hc k hkx
   have cy:=hc' k hky
   generalize xs[k]=x at cx HTS HNE
   generalize ys[k]=y at cy HTS HNE
   obtain ⟨x0,x1,x2⟩:=x
   obtain ⟨y0,y1,y2⟩:=y
   obtain ⟨cx0,cx1,cx2⟩:=cx
   obtain ⟨cy0,cy1,cy2⟩:=cy
   dsimp only at cx0 cx1 cx2 cy0 cy1 cy2
   have HBr:=hidP hbr
   clear hc hc' hbr HT hkx hky
   go_upto_region 6 with fail
   by_cases h0:x0=y0
   rotate_left
   ·have HF:=hidP (HNE.out (fun e=>h0 (by injection e)))
    have f0:(x0==y0)=false:=by simpa using h0
    have f1:(x0 != y0)=true:=by simpa using h0
    clear h0
    go_quiet (fail)
    go_wp2_with fail
    go_ret
    exact ⟨by rw [HF.out];rfl,bdrewN HBr.out _⟩
   subst h0
   by_cases h1:x1=y1
   rotate_left
   ·have HF:=hidP (HNE.out (fun e=>h1 (by injection e)))
    have f0:(x1==y1)=false:=by simpa using h1
    have f1:(x1 != y1)=true:=by simpa using h1
    have b0:(x0==x0)=true:=by simp
    clear h1
    go_quiet (fail)
    go_wp2_with fail
    go_ret
    exact ⟨by rw [HF.out];rfl,bdrewN HBr.out _⟩
   subst h1
   by_cases h2:x2=y2
   rotate_left
   ·have HF:=hidP (HNE.out (fun e=>h2 (by injection e)))
    have f0:(x2==y2)=false:=by simpa using h2
    have f1:(x2 != y2)=true:=by simpa using h2
    have b0:(x0==x0)=true:=by simp
    have b1:(x1==x1)=true:=by simp
    clear h2
    go_quiet (fail)
    go_wp2_with fail
    go_ret
    exact ⟨by rw [HF.out];rfl,bdrewN HBr.out _⟩
   subst h2
   have v:Hid (xs.take (k+1)=ys.take (k+1)):=HTS.out rfl
   have b0:(x0 != x0)=false:=by simp
   have b1:(x1 != x1)=false:=by simp
   have b2:(x2 != x2)=false:=by simp
   go_quiet (fail)
   go_wp2_with fail
   go_roundw
   case rel=>exact ⟨k+1,by omega,by go_num,v,bdrewN HBr.out _⟩
   case measure=>simp [intOf];omega
  ·have hki:¬ (k:Int)<n:=by omega
   have HE:Hid (eqL xs ys=true):=eqL_t (by have h:=HT.out;rw [List.take_of_length_le (by rw [HN.out];omega),List.take_of_length_le (by rw [HM.out];omega)] at h;exact h)
   go_wp2_with fail
   go_ret
   exact ⟨by rw [HE.out];rfl,hbr⟩
theorem eqFlanks_any (a a':Option Addr)(c c':Nat)(xs ys:List MFlank)(w:World)(hx:Hid (FlanksAt w a xs))(hy:Hid (FlanksAt w a' ys)):
  Calls Tryz.prog 145 #[.slice a xs.length c,.slice a' ys.length c'] w fun e w'=>e = .returned (.bool (eqL xs ys))∧Below w.heap.size w w':=by
 have hl1:=hx.out.1
 have hl2:=hy.out.1
 unfold maxLen at hl1 hl2
 obtain ⟨n,hn⟩:∃ n,xs.length=n:=⟨_,rfl⟩
 obtain ⟨m,hm⟩:∃ m,ys.length=m:=⟨_,rfl⟩
 rw [hn] at hl1 ⊢
 rw [hm] at hl2 ⊢
 have HN:=hidP hn
 have HM:=hidP hm
 clear hn hm
 go_enter Tryz.func145,Tryz.ntmps145
 by_cases hnm:n=m
 rotate_left
 ·have hb:((n:Int) != (m:Int))=true:=by rw [bne_iff_ne];omega
  have HF:Hid (eqL xs ys=false):=eqL_len (by rw [HN.out,HM.out];exact hnm)
  clear hnm
  go_wp2_with fail
  go_ret
  exact ⟨by rw [HF.out];rfl,Below.refl _ _⟩
 subst hnm
 go_wp2_with fail
 go_loopw [13] (fun i wr => ∃ k:Nat,k≤n∧i = .int .i64 k∧Hid (xs.take k=ys.take k)∧Below w.heap.size w wr) (fun i _=>n-(intOf i).toNat)
 case atStart=>exact ⟨0,Nat.zero_le _,rfl,by unfold Hid;rw [List.take_zero,List.take_zero],Below.refl _ _⟩
 case round =>
  obtain ⟨k,hk,rfl,HT,hbr⟩:=hrel
  by_cases hk':k<n
  ·have hki:(k:Int)<n:=by omega
   have hkx:k<xs.length:=by rw [HN.out];exact hk'
   have hky:k<ys.length:=by rw [HM.out];exact hk'
   obtain ⟨b,o,ha,hc⟩:=(hx.out.below hbr).2.resolve_left (nz hkx)
   obtain ⟨b',o',ha',hc'⟩:=(hy.out.below hbr).2.resolve_left (nz hky)
   subst ha ha'
   have HTS:Hid (xs[k]=ys[k]→xs.take (k+1)=ys.take (k+1)):=fun e=>by rw [List.take_succ_eq_append_getElem hkx,List.take_succ_eq_append_getElem hky,HT.out,e]
   have HNE:Hid (xs[k]≠ys[k]→eqL xs ys=false):=eqL_at hkx hky
   have cx:=hc k hkx
   have cy:=hc' k hky
   generalize xs[k]=x at cx HTS HNE
   generalize ys[k]=y at cy HTS HNE
   obtain ⟨x0,x1,x2,x3⟩:=x
   obtain ⟨y0,y1,y2,y3⟩:=y
   obtain ⟨cx0,cx1,cx2,cx3⟩:=cx
   obtain ⟨cy0,cy1,cy2,cy3⟩:=cy
   dsimp only at cx0 cx1 cx2 cx3 cy0 cy1 cy2 cy3
   have HBr:=hidP hbr
   clear hc hc' hbr HT hkx hky
   go_upto_region 6 with fail
   by_cases h0:x0=y0
   rotate_left
   ·have HF:=hidP (HNE.out (fun e=>h0 (by injection e)))
    have f0:(x0==y0)=false:=by simpa using h0
    have f1:(x0 != y0)=true:=by simpa using h0
    clear h0
    go_quiet (fail)
    go_wp2_with fail
    go_ret
    exact ⟨by rw [HF.out];rfl,bdrewN HBr.out _⟩
   subst h0
   by_cases h1:x1=y1
   rotate_left
   ·have HF:=hidP (HNE.out (fun e=>h1 (by injection e)))
    have f0:(x1==y1)=false:=by simpa using h1
    have f1:(x1 != y1)=true:=by simpa using h1
    have b0:(x0==x0)=true:=by simp
    clear h1
    go_quiet (fail)
    go_wp2_with fail
    go_ret
    exact ⟨by rw [HF.out];rfl,bdrewN HBr.out _⟩
   subst h1
   by_cases h2:x2=y2
   rotate_left
   ·have HF:=hidP (HNE.out (fun e=>h2 (by injection e)))
    have f0:(x2==y2)=false:=by simpa using h2
    have f1:(x2 != y2)=true:=by simpa using h2
    have b0:(x0==x0)=true:=by simp
    have b1:(x1==x1)=true:=by simp
    clear h2
    go_quiet (fail)
    go_wp2_with fail
    go_ret
    exact ⟨by rw [HF.out];rfl,bdrewN HBr.out _⟩
   subst h2
   by_cases h3:x3=y3
   rotate_left
   ·have HF:=hidP (HNE.out (fun e=>h3 (by injection e)))
    have f0:(x3==y3)=false:=by simpa using h3
    have f1:(x3 != y3)=true:=by simpa using h3
    have b0:(x0==x0)=true:=by simp
    have b1:(x1==x1)=true:=by simp
    have b2:(x2==x2)=true:=by simp
    clear h3
    go_quiet (fail)
    go_wp2_with fail
    go_ret
    exact ⟨by rw [HF.out];rfl,bdrewN HBr.out _⟩
   subst h3
   have v:Hid (xs.take (k+1)=ys.take (k+1)):=HTS.out rfl
   have b0:(x0 != x0)=false:=by simp
   have b1:(x1 != x1)=false:=by simp
   have b2:(x2 != x2)=false:=by simp
   have b3:(x3 != x3)=false:=by simp
   go_quiet (fail)
   go_wp2_with fail
   go_roundw
   case rel=>exact ⟨k+1,by omega,by go_num,v,bdrewN HBr.out _⟩
   case measure=>simp [intOf];omega
  ·have hki:¬ (k:Int)<n:=by omega
   have HE:Hid (eqL xs ys=true):=eqL_t (by have h:=HT.out;rw [List.take_of_length_le (by rw [HN.out];omega),List.take_of_length_le (by rw [HM.out];omega)] at h;exact h)
   go_wp2_with fail
   go_ret
   exact ⟨by rw [HE.out];rfl,hbr⟩
def wrongF (r q : MRoute) (D : Prop → Bool := fun p => @decide p (Classical.propDecidable p)) : Int :=
 if r.start=q.start∧r.stop=q.stop∧eqL r.steps q.steps D = true then
  if eqL r.lies q.lies D = true∧eqL r.crosses q.crosses D = true then
   if eqL r.parts q.parts D = true∧eqL r.over q.over D = true then
    if eqL r.flanks q.flanks D = true then 0 else 6
   else 5
  else 4
 else 3
theorem partsAt_any (code row col:Int)(w:World):Calls Tryz.prog 119 #[.int .i64 code,.int .i64 row,.int .i64 col] w fun e w'=>e = .returned (errV code row col)∧w'=w:=by
 go_enter Tryz.func119,Tryz.ntmps119
 go_wp2_with fail
 go_ret
 exact ⟨rfl,rfl⟩
theorem routeWrong_any (d d':RAddr)(r q:MRoute)(w:World)(hr:Hid (RListsAt w d r))(hq:Hid (RListsAt w d' q)):
  Calls Tryz.prog 120 #[routeV d r,routeV d' q] w fun e w'=>e = .returned (.int .i64 (wrongF r q))∧Below w.heap.size w w':=by
 unfold routeV
 go_enter Tryz.func120,Tryz.ntmps120
 have HW:Hid (wrongF r q=if r.start=q.start∧r.stop=q.stop∧eqL r.steps q.steps=true then
  if eqL r.lies q.lies=true∧eqL r.crosses q.crosses=true then
   if eqL r.parts q.parts=true∧eqL r.over q.over=true then
    if eqL r.flanks q.flanks=true then 0 else 6
   else 5
  else 4
 else 3):=rfl
 obtain ⟨v,hv⟩:∃ v,wrongF r q=v:=⟨_,rfl⟩
 rw [hv]
 rw [hv] at HW
 clear hv
 go_upto_region 1 with fail
 generalize hW:World.alloc (World.alloc w _) _=W
 have hbW:Below w.heap.size w W:=by rw [← hW];exact blo
 have HX:Hid (RouteCell W w.heap.size 0 d r):=by rw [← hW];exact ⟨by simp [go_sem],by simp [go_sem],by simp [go_sem],by simp [go_sem],by simp [go_sem],by simp [go_sem],by simp [go_sem],by simp [go_sem]⟩
 have HY:Hid (RouteCell W (w.heap.size+1) 0 d' q):=by rw [← hW];exact ⟨by simp [go_sem],by simp [go_sem],by simp [go_sem],by simp [go_sem],by simp [go_sem],by simp [go_sem],by simp [go_sem],by simp [go_sem]⟩
 have HBW:=hidP hbW
 have HR:=hidP (hr.out.below hbW)
 have HQ:=hidP (hq.out.below hbW)
 obtain ⟨X,hX⟩:∃ X,w.heap.size=X:=⟨_,rfl⟩
 obtain ⟨Y,hY⟩:∃ Y,X+1=Y:=⟨_,rfl⟩
 have HXw:Hid (w.heap.size=X):=hX
 rw [hX] at HX HY ⊢
 rw [hY] at HY ⊢
 clear hW hbW hX hY hr hq
 have x0:=HX.out.k0
 have x1:=HX.out.k1
 have x2:=HX.out.k2
 have y0:=HY.out.k0
 have y1:=HY.out.k1
 have y2:=HY.out.k2
 simp only [Nat.zero_add] at x0 x1 x2 y0 y1 y2
 by_cases h0:r.start=q.start
 rotate_left
 ·have f0:(r.start != q.start)=true:=by simpa using h0
  have HV:Hid (v=3):=by unfold Hid;rw [HW.out,if_neg (fun h=>h0 h.1)]
  clear h0
  go_wp2_with fail
  go_ret
  exact ⟨by rw [HV.out];rfl,HBW.out⟩
 have f0:(r.start != q.start)=false:=by simpa using h0
 have H0:=hidP h0
 clear h0
 by_cases h1:r.stop=q.stop
 rotate_left
 ·have f1:(r.stop != q.stop)=true:=by simpa using h1
  have HV:Hid (v=3):=by unfold Hid;rw [HW.out,if_neg (fun h=>h1 h.2.1)]
  clear h1
  go_wp2_with fail
  go_ret
  exact ⟨by rw [HV.out];rfl,HBW.out⟩
 have f1:(r.stop != q.stop)=false:=by simpa using h1
 have H1:=hidP h1
 clear h1
 go_wp2_with fail
 refine (eqSteps_any d.a0 d'.a0 d.c0 d'.c0 r.steps q.steps W HR.out.steps HQ.out.steps).mono ?_
 rintro e w1 ⟨rfl,hb1⟩
 have HB1:=hidP (HBW.out.trans (hb1.mono HBW.out.size))
 have HX1:=hidP (HX.out.below hb1)
 have HY1:=hidP (HY.out.below hb1)
 have HR1:=hidP (HR.out.below hb1)
 have HQ1:=hidP (HQ.out.below hb1)
 have x3:=HX1.out.k3
 have x4:=HX1.out.k4
 have y3:=HY1.out.k3
 have y4:=HY1.out.k4
 simp only [Nat.zero_add] at x3 x4 y3 y4
 clear hb1 x0 x1 x2 y0 y1 y2 f0 f1 HX HY HR HQ
 cases hs:eqL r.steps q.steps
 ·have HV:Hid (v=3):=by unfold Hid;rw [HW.out,if_neg (fun h=>by rw [hs] at h;simp at h)]
  go_wp2_with fail
  go_ret
  exact ⟨by rw [HV.out];rfl,HB1.out⟩
 have HS:=hidP hs
 clear hs
 go_wp2_with fail
 refine (eqLies_any d.a1 d'.a1 d.c1 d'.c1 r.lies q.lies w1 HR1.out.lies HQ1.out.lies).mono ?_
 rintro e w2 ⟨rfl,hb2⟩
 have HB2:=hidP (HB1.out.trans (hb2.mono HB1.out.size))
 have HX2:=hidP (HX1.out.below hb2)
 have HY2:=hidP (HY1.out.below hb2)
 have HR2:=hidP (HR1.out.below hb2)
 have HQ2:=hidP (HQ1.out.below hb2)
 replace x4:=cell_later hb2 x4
 replace y4:=cell_later hb2 y4
 clear hb2 x3 y3 HX1 HY1 HR1 HQ1
 cases hs:eqL r.lies q.lies
 ·have HV:Hid (v=4):=by unfold Hid;rw [HW.out,if_pos ⟨H0.out,H1.out,HS.out⟩,if_neg (fun h=>by rw [hs] at h;simp at h)]
  go_wp2_with fail
  go_ret
  exact ⟨by rw [HV.out];rfl,HB2.out⟩
 have HS2:=hidP hs
 clear hs
 go_wp2_with fail
 refine (eqNums_any d.a2 d'.a2 d.c2 d'.c2 r.crosses q.crosses w2 HR2.out.crosses HQ2.out.crosses).mono ?_
 rintro e w3 ⟨rfl,hb3⟩
 have HB3:=hidP (HB2.out.trans (hb3.mono HB2.out.size))
 have HX3:=hidP (HX2.out.below hb3)
 have HY3:=hidP (HY2.out.below hb3)
 have HR3:=hidP (HR2.out.below hb3)
 have HQ3:=hidP (HQ2.out.below hb3)
 have x5:=HX3.out.k5
 have x6:=HX3.out.k6
 have y5:=HY3.out.k5
 have y6:=HY3.out.k6
 simp only [Nat.zero_add] at x5 x6 y5 y6
 clear hb3 x4 y4 HX2 HY2 HR2 HQ2
 cases hs:eqL r.crosses q.crosses
 ·have HV:Hid (v=4):=by unfold Hid;rw [HW.out,if_pos ⟨H0.out,H1.out,HS.out⟩,if_neg (fun h=>by rw [hs] at h;simp at h)]
  go_wp2_with fail
  go_ret
  exact ⟨by rw [HV.out];rfl,HB3.out⟩
 have HS3:=hidP hs
 clear hs
 go_wp2_with fail
 refine (eqParts_any d.a3 d'.a3 d.c3 d'.c3 r.parts q.parts w3 HR3.out.parts HQ3.out.parts).mono ?_
 rintro e w4 ⟨rfl,hb4⟩
 have HB4:=hidP (HB3.out.trans (hb4.mono HB3.out.size))
 have HX4:=hidP (HX3.out.below hb4)
 have HY4:=hidP (HY3.out.below hb4)
 have HR4:=hidP (HR3.out.below hb4)
 have HQ4:=hidP (HQ3.out.below hb4)
 replace x6:=cell_later hb4 x6
 replace y6:=cell_later hb4 y6
 clear hb4 x5 y5 HX3 HY3 HR3 HQ3
 cases hs:eqL r.parts q.parts
 ·have HV:Hid (v=5):=by unfold Hid;rw [HW.out,if_pos ⟨H0.out,H1.out,HS.out⟩,if_pos ⟨HS2.out,HS3.out⟩,if_neg (fun h=>by rw [hs] at h;simp at h)]
  go_wp2_with fail
  go_ret
  exact ⟨by rw [HV.out];rfl,HB4.out⟩
 have HS4:=hidP hs
 clear hs
 go_wp2_with fail
 refine (eqParts_any d.a4 d'.a4 d.c4 d'.c4 r.over q.over w4 HR4.out.over HQ4.out.over).mono ?_
 rintro e w5 ⟨rfl,hb5⟩
 have HB5:=hidP (HB4.out.trans (hb5.mono HB4.out.size))
 have HX5:=hidP (HX4.out.below hb5)
 have HY5:=hidP (HY4.out.below hb5)
 have HR5:=hidP (HR4.out.below hb5)
 have HQ5:=hidP (HQ4.out.below hb5)
 have x7:=HX5.out.k7
 have y7:=HY5.out.k7
 simp only [Nat.zero_add] at x7 y7
 clear hb5 x6 y6 HX4 HY4 HR4 HQ4
 cases hs:eqL r.over q.over
 ·have HV:Hid (v=5):=by unfold Hid;rw [HW.out,if_pos ⟨H0.out,H1.out,HS.out⟩,if_pos ⟨HS2.out,HS3.out⟩,if_neg (fun h=>by rw [hs] at h;simp at h)]
  go_wp2_with fail
  go_ret
  exact ⟨by rw [HV.out];rfl,HB5.out⟩
 have HS5:=hidP hs
 clear hs
 go_wp2_with fail
 refine (eqFlanks_any d.a5 d'.a5 d.c5 d'.c5 r.flanks q.flanks w5 HR5.out.flanks HQ5.out.flanks).mono ?_
 rintro e w6 ⟨rfl,hb6⟩
 have HB6:=hidP (HB5.out.trans (hb6.mono HB5.out.size))
 clear hb6 x7 y7 HX5 HY5 HR5 HQ5
 cases hs:eqL r.flanks q.flanks
 ·have HV:Hid (v=6):=by unfold Hid;rw [HW.out,if_pos ⟨H0.out,H1.out,HS.out⟩,if_pos ⟨HS2.out,HS3.out⟩,if_pos ⟨HS4.out,HS5.out⟩,if_neg (fun h=>by rw [hs] at h;simp at h)]
  go_wp2_with fail
  go_ret
  exact ⟨by rw [HV.out];rfl,HB6.out⟩
 ·have HV:Hid (v=0):=by unfold Hid;rw [HW.out,if_pos ⟨H0.out,H1.out,HS.out⟩,if_pos ⟨HS2.out,HS3.out⟩,if_pos ⟨HS4.out,HS5.out⟩,if_pos hs]
  go_wp2_with fail
  go_ret
  exact ⟨by rw [HV.out];rfl,HB6.out⟩
def chkR : List MRoute → List MRoute → Nat → (D : Prop → Bool := fun p => @decide p (Classical.propDecidable p)) → Option (Int × Nat)
 | [],[],_, _ => none
 | [],_::_,i, _ => some (2,i)
 | _::_,[],i, _ => some (2,i)
 | r::rs,q::qs,i, D => if wrongF r q D=0 then chkR rs qs (i + 1) D else some (wrongF r q D,i)
def chkV (o:Option (Int × Nat)):Value:=match o with
 | none=>.nilIface
 | some (c,i)=>errV c i 0
theorem chkR_on {rs qs:List MRoute}{k:Nat}(h1:k<rs.length)(h2:k<qs.length):chkR (rs.drop k) (qs.drop k) k=if wrongF rs[k] qs[k]=0 then chkR (rs.drop (k+1)) (qs.drop (k+1)) (k+1) else some (wrongF rs[k] qs[k],k):=by
 rw [List.drop_eq_getElem_cons h1,List.drop_eq_getElem_cons h2]
 rfl
theorem chkR_end {rs qs:List MRoute}{k:Nat}(h1:rs.length≤k)(h2:qs.length≤k):chkR (rs.drop k) (qs.drop k) k=none:=by
 rw [List.drop_eq_nil_of_le h1,List.drop_eq_nil_of_le h2]
 rfl
theorem chkR_one {rs qs:List MRoute}{k:Nat}(h:(rs.length≤k∧k<qs.length)∨(qs.length≤k∧k<rs.length)):chkR (rs.drop k) (qs.drop k) k=some (2,k):=by
 rcases h with ⟨h1,h2⟩ | ⟨h1,h2⟩
 ·rw [List.drop_eq_nil_of_le h1,List.drop_eq_getElem_cons h2];rfl
 ·rw [List.drop_eq_nil_of_le h1,List.drop_eq_getElem_cons h2];rfl
theorem checkRoutes_any (a a':Option Addr)(c c':Nat)(rs qs:List MRoute)(w:World)(hr:Hid (RoutesAt w a rs))(hq:Hid (RoutesAt w a' qs)):
  Calls Tryz.prog 86 #[.slice a rs.length c,.slice a' qs.length c'] w fun e w'=>e = .returned (chkV (chkR rs qs 0))∧Below w.heap.size w w':=by
 have hl1:=hr.out.1
 have hl2:=hq.out.1
 unfold maxLen at hl1 hl2
 obtain ⟨n,hn⟩:∃ n,rs.length=n:=⟨_,rfl⟩
 obtain ⟨m,hm⟩:∃ m,qs.length=m:=⟨_,rfl⟩
 obtain ⟨O,hO⟩:∃ O,chkR rs qs 0=O:=⟨_,rfl⟩
 rw [hO]
 rw [hn] at hl1 ⊢
 rw [hm] at hl2 ⊢
 have HN:=hidP hn
 have HM:=hidP hm
 have HO:Hid (chkR (rs.drop 0) (qs.drop 0) 0=O):=hO
 clear hn hm hO
 obtain ⟨z,hz⟩:∃ z:Nat,max (n:Int) (m:Int)=(z:Int):=⟨max n m,by omega⟩
 have hzn:z=max n m:=by omega
 go_enter Tryz.func86,Tryz.ntmps86
 go_upto_region 1 with fail
 go_cut [11,12] (fun v i wx=>v = .int .i64 z∧i = .int .i64 0∧wx=w)
 case first =>
  by_cases hnm:n≤m
  ·have hz2:z=m:=by omega
   subst hz2
   have hnm':(n:Int)≤z:=by omega
   clear hz hzn
   go_wp2_with fail
   all_goals
    go_meet
    exact ⟨congrArg (Value.int .i64) (by omega),rfl,rfl⟩
  ·have hz2:z=n:=by omega
   subst hz2
   have hnm':¬ (z:Int)≤m:=by omega
   clear hz hzn
   go_wp2_with fail
   all_goals
    go_meet
    exact ⟨congrArg (Value.int .i64) (by omega),rfl,rfl⟩
 case rest =>
  obtain ⟨rfl,rfl,hwc⟩:=hcut
  subst hwc
  have HZ:=hidP hzn
  clear hz hzn
  go_wp2_with fail
  go_loopw [12] (fun i wr => ∃ k:Nat,k≤z∧(k≤n∧k≤m)∧i = .int .i64 k∧Hid (chkR (rs.drop k) (qs.drop k) k=O)∧Below wc.heap.size wc wr) (fun i _=>z-(intOf i).toNat)
  case atStart=>exact ⟨0,Nat.zero_le _,⟨Nat.zero_le _,Nat.zero_le _⟩,rfl,HO,Below.refl _ _⟩
  case round =>
   obtain ⟨k,hk,hkk,rfl,HK,hbr⟩:=hrel
   by_cases hk':k<z
   ·have hki:(k:Int)<z:=by omega
    by_cases hkn:k<n
    rotate_left
    ·have f0:decide ((n:Int)≤k)=true:=by simp;omega
     have f0':(n:Int)≤k:=by omega
     have HE:Hid (chkV O=errV 2 k 0):=by
      unfold Hid
      rw [← HK.out,chkR_one (Or.inl ⟨by rw [HN.out];omega,by rw [HM.out];have:=HZ.out;omega⟩)]
      rfl
     go_wp2_with fail
     refine (partsAt_any 2 k 0 _).mono ?_
     rintro e w1 ⟨rfl,rfl⟩
     go_wp2_with fail
     go_ret
     exact ⟨by rw [HE.out];rfl,hbr⟩
    have f0:¬ (n:Int)≤k:=by omega
    by_cases hkm:k<m
    rotate_left
    ·have f1:(m:Int)≤k:=by omega
     have HE:Hid (chkV O=errV 2 k 0):=by
      unfold Hid
      rw [← HK.out,chkR_one (Or.inr ⟨by rw [HM.out];omega,by rw [HN.out];have:=HZ.out;omega⟩)]
      rfl
     go_wp2_with fail
     refine (partsAt_any 2 k 0 _).mono ?_
     rintro e w1 ⟨rfl,rfl⟩
     go_wp2_with fail
     go_ret
     exact ⟨by rw [HE.out];rfl,hbr⟩
    have f1:¬ (m:Int)≤k:=by omega
    have hknI:(k:Int)<n:=by omega
    have hkmI:(k:Int)<m:=by omega
    have hkr:k<rs.length:=by rw [HN.out];exact hkn
    have hkq:k<qs.length:=by rw [HM.out];exact hkm
    obtain ⟨b,o,ha,hc⟩:=(hr.out.below hbr).2.resolve_left (nz hkr)
    obtain ⟨b',o',ha',hc'⟩:=(hq.out.below hbr).2.resolve_left (nz hkq)
    subst ha ha'
    obtain ⟨d,rc,rl⟩:=hc k hkr
    obtain ⟨d',qc,ql⟩:=hc' k hkq
    have HST:Hid (O=if wrongF rs[k] qs[k]=0 then chkR (rs.drop (k+1)) (qs.drop (k+1)) (k+1) else some (wrongF rs[k] qs[k],k)):=by unfold Hid;rw [← HK.out,chkR_on hkr hkq]
    generalize rs[k]=r at rc rl HST
    generalize qs[k]=q at qc ql HST
    have HRL:=hidP rl
    have HQL:=hidP ql
    have HBr:=hidP hbr
    have HRC:=hidP rc
    have HQC:=hidP qc
    clear hc hc' rl ql hbr HK rc qc hkr hkq
    go_upto_region 6 with fail
    go_cut [6] (fun v wx=>v = .int .i64 (wrongF r q)∧Below wr.heap.size wr wx)
    case first =>
     obtain ⟨S,hS⟩:∃ S:World→Prop,∀ u,S u↔(RouteCell u b (o+k*8) d r∧RouteCell u b' (o'+k*8) d' q):=⟨_,fun _=>Iff.rfl⟩
     have x0:∀ u:Held S,World.cell? u.val ⟨b,o+k*8,none⟩=some (.int .i64 r.start):=fun u=>((hS u.val).1 u.2).1.k0
     have x1:∀ u:Held S,World.cell? u.val ⟨b,o+k*8+1,none⟩=some (.int .i64 r.stop):=fun u=>((hS u.val).1 u.2).1.k1
     have x2:∀ u:Held S,World.cell? u.val ⟨b,o+k*8+2,none⟩=some (.slice d.a0 r.steps.length d.c0):=fun u=>((hS u.val).1 u.2).1.k2
     have x3:∀ u:Held S,World.cell? u.val ⟨b,o+k*8+3,none⟩=some (.slice d.a1 r.lies.length d.c1):=fun u=>((hS u.val).1 u.2).1.k3
     have x4:∀ u:Held S,World.cell? u.val ⟨b,o+k*8+4,none⟩=some (.slice d.a2 r.crosses.length d.c2):=fun u=>((hS u.val).1 u.2).1.k4
     have x5:∀ u:Held S,World.cell? u.val ⟨b,o+k*8+5,none⟩=some (.slice d.a3 r.parts.length d.c3):=fun u=>((hS u.val).1 u.2).1.k5
     have x6:∀ u:Held S,World.cell? u.val ⟨b,o+k*8+6,none⟩=some (.slice d.a4 r.over.length d.c4):=fun u=>((hS u.val).1 u.2).1.k6
     have x7:∀ u:Held S,World.cell? u.val ⟨b,o+k*8+7,none⟩=some (.slice d.a5 r.flanks.length d.c5):=fun u=>((hS u.val).1 u.2).1.k7
     have y0:∀ u:Held S,World.cell? u.val ⟨b',o'+k*8,none⟩=some (.int .i64 q.start):=fun u=>((hS u.val).1 u.2).2.k0
     have y1:∀ u:Held S,World.cell? u.val ⟨b',o'+k*8+1,none⟩=some (.int .i64 q.stop):=fun u=>((hS u.val).1 u.2).2.k1
     have y2:∀ u:Held S,World.cell? u.val ⟨b',o'+k*8+2,none⟩=some (.slice d'.a0 q.steps.length d'.c0):=fun u=>((hS u.val).1 u.2).2.k2
     have y3:∀ u:Held S,World.cell? u.val ⟨b',o'+k*8+3,none⟩=some (.slice d'.a1 q.lies.length d'.c1):=fun u=>((hS u.val).1 u.2).2.k3
     have y4:∀ u:Held S,World.cell? u.val ⟨b',o'+k*8+4,none⟩=some (.slice d'.a2 q.crosses.length d'.c2):=fun u=>((hS u.val).1 u.2).2.k4
     have y5:∀ u:Held S,World.cell? u.val ⟨b',o'+k*8+5,none⟩=some (.slice d'.a3 q.parts.length d'.c3):=fun u=>((hS u.val).1 u.2).2.k5
     have y6:∀ u:Held S,World.cell? u.val ⟨b',o'+k*8+6,none⟩=some (.slice d'.a4 q.over.length d'.c4):=fun u=>((hS u.val).1 u.2).2.k6
     have y7:∀ u:Held S,World.cell? u.val ⟨b',o'+k*8+7,none⟩=some (.slice d'.a5 q.flanks.length d'.c5):=fun u=>((hS u.val).1 u.2).2.k7
     have hS1:S wr.drew:=(hS _).2 ⟨HRC.out.kept rfl,HQC.out.kept rfl⟩
     have hne:=held_ne hS1
     clear hS
     refine wp_region_tree (fun w' => ∃ u:Held S,w'=u.val) 8 (by kernel_rfl) (by kernel_rfl) (held_some hS1) ?_
     (refine wpT_sea 0 ?_;intro K hK;go_big_quiet_op;go_big_quiet_on);(refine wpT_sea 1 ?_;intro K hK;go_big_quiet_op;go_big_quiet_on);(refine wpT_sea 2 ?_;intro K hK;go_big_quiet_op;go_big_quiet_on);(refine wpT_sea 3 ?_;intro K hK;go_big_quiet_op;go_big_quiet_on);(refine wpT_sea 4 ?_;intro K hK;go_big_quiet_op;go_big_quiet_on);(refine wpT_sea 5 ?_;intro K hK;go_big_quiet_op;go_big_quiet_on);(refine wpT_sea 6 ?_;intro K hK;go_big_quiet_op;go_big_quiet_on);(refine wpT_sea 7 ?_;intro K hK;go_big_quiet_op;go_big_quiet_on)
     refine wpT_done (by kernel_rfl) ?_
     simp only [List.drop_succ_cons,List.drop_zero]
     clear hne hS1 x0 x1 x2 x3 x4 x5 x6 x7 y0 y1 y2 y3 y4 y5 y6 y7
     go_wp2_with fail
     refine (routeWrong_any d d' r q _ (HRL.out.below ((Below.refl _ _).drew)) (HQL.out.below ((Below.refl _ _).drew))).mono ?_
     rintro e w1 ⟨rfl,hb1⟩
     have HB1:Hid (Below wr.heap.size wr w1):=(Below.refl _ _).drew.trans hb1
     clear hb1
     go_wp2_with fail
     go_meet
     exact ⟨rfl,HB1.out⟩
    case rest =>
     obtain ⟨rfl,hb2⟩:=hcut
     have HB2:=hidP (HBr.out.trans (hb2.mono HBr.out.size))
     obtain ⟨v,hv⟩:∃ v,wrongF r q=v:=⟨_,rfl⟩
     rw [hv] at HST ⊢
     clear hv hb2
     by_cases hv0:v=0
     ·have g0:(v != 0)=false:=by simpa using hv0
      have HK2:Hid (chkR (rs.drop (k+1)) (qs.drop (k+1)) (k+1)=O):=by have h:=HST.out;rw [if_pos hv0] at h;exact h.symm
      clear hv0
      go_wp2_with fail
      go_roundw
      case rel=>exact ⟨k+1,by omega,⟨by omega,by omega⟩,by go_num,HK2,HB2.out⟩
      case measure=>simp [intOf];omega
     ·have g0:(v != 0)=true:=by simpa using hv0
      have HE:Hid (chkV O=errV v k 0):=by
       unfold Hid
       rw [HST.out,if_neg hv0]
       rfl
      clear hv0
      go_wp2_with fail
      refine (partsAt_any v k 0 _).mono ?_
      rintro e w1 ⟨rfl,rfl⟩
      go_wp2_with fail
      go_ret
      exact ⟨by rw [HE.out];rfl,HB2.out⟩
   ·have hki:¬ (k:Int)<z:=by omega
    have HE:Hid (chkV O = .nilIface):=by
     unfold Hid
     rw [← HK.out,chkR_end (by rw [HN.out];have:=HZ.out;omega) (by rw [HM.out];have:=HZ.out;omega)]
     rfl
    go_wp2_with fail
    go_ret
    exact ⟨by rw [HE.out];rfl,hbr⟩
end Go.Proofs.YtmkdgnmmebldgaaGreatDoor
