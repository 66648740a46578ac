import Derived.Test.YtmkdgnmmebldgabGreatDoorPc2
import Derived.BigQuiet
import Derived.Deep.DeepCutAuto
import Derived.Test.YtmkdgnmmebldgabGreatDoorPc20
import Derived.Test.YtmkdgnmmebldgabGreatDoorPc39
import Derived.Test.YtmkdgnmmebldgabGreatDoorPc7
import Derived.Test.YtmkdgnmmebldgabGreatDoorPc6
import Derived.Test.YtmkdgnmmebldgabGreatDoorPc35
set_option maxRecDepth 100000
set_option maxHeartbeats 8000000
namespace Go.Proofs.YtmkdgnmmebldgabGreatDoor
open Go.RowKit Go.Deep
def eqL {α : Type} (xs ys : List α) (D : Prop → Bool := fun p => @decide p (Classical.propDecidable p)) : Bool := D (xs = ys)
theorem eqL_t {α:Type}{xs ys:List α}(h:xs=ys):eqL xs ys=true:=by unfold eqL;simp [h]
theorem eqL_f {α:Type}{xs ys:List α}(h:¬ xs=ys):eqL xs ys=false:=by unfold eqL;simp [h]
theorem eqL_len {α:Type}{xs ys:List α}(h:¬ xs.length=ys.length):eqL xs ys=false:=eqL_f (fun e=>h (by rw [e]))
theorem eqL_at {α:Type}{xs ys:List α}{k:Nat}(h1:k<xs.length)(h2:k<ys.length)(h:xs[k]≠ys[k]):eqL xs ys=false:=eqL_f (fun e=>by subst e;exact h rfl)
theorem eqSteps_any (a a':Option Addr)(c c':Nat)(xs ys:List MEnd)(w:World)(hx:Hid (EndsAt w a xs))(hy:Hid (EndsAt w a' ys)):
  Calls Tryz.prog 134 #[.slice a xs.length c,.slice a' ys.length c'] w fun e w'=>e = .returned (.bool (eqL xs ys))∧Below w.heap.size w w':=by
 have hl1:=hx.out.1
 have hl2:=hy.out.1
 unfold maxLen at hl1 hl2
 obtain ⟨n,hn⟩:∃ n,xs.length=n:=⟨_,rfl⟩
 obtain ⟨m,hm⟩:∃ m,ys.length=m:=⟨_,rfl⟩
 rw [hn] at hl1 ⊢
 rw [hm] at hl2 ⊢
 have HN:=hidP hn
 have HM:=hidP hm
 clear hn hm
 go_enter Tryz.func134,Tryz.ntmps134
 by_cases hnm:n=m
 rotate_left
 ·have hb:((n:Int) != (m:Int))=true:=by rw [bne_iff_ne];omega
  have HF:Hid (eqL xs ys=false):=eqL_len (by rw [HN.out,HM.out];exact hnm)
  clear hnm
  go_wp2_with fail
  go_ret
  exact ⟨by rw [HF.out];rfl,Below.refl _ _⟩
 subst hnm
 go_wp2_with fail
 go_loopw [13] (fun i wr => ∃ k:Nat,k≤n∧i = .int .i64 k∧Hid (xs.take k=ys.take k)∧Below w.heap.size w wr) (fun i _=>n-(intOf i).toNat)
 case atStart=>exact ⟨0,Nat.zero_le _,rfl,by unfold Hid;rw [List.take_zero,List.take_zero],Below.refl _ _⟩
 case round =>
  obtain ⟨k,hk,rfl,HT,hbr⟩:=hrel
  by_cases hk':k<n
  ·have hki:(k:Int)<n:=by omega
   have hkx:k<xs.length:=by rw [HN.out];exact hk'
   have hky:k<ys.length:=by rw [HM.out];exact hk'
   obtain ⟨b,o,ha,hc⟩:=(hx.out.below hbr).2.resolve_left (nz hkx)
   obtain ⟨b',o',ha',hc'⟩:=(hy.out.below hbr).2.resolve_left (nz hky)
   subst ha ha'
   have HTS:Hid (xs[k]=ys[k]→xs.take (k+1)=ys.take (k+1)):=fun e=>by rw [List.take_succ_eq_append_getElem hkx,List.take_succ_eq_append_getElem hky,HT.out,e]
   have HNE:Hid (xs[k]≠ys[k]→eqL xs ys=false):=eqL_at hkx hky
   have cx:=hc k hkx
   have cy:=hc' k hky
   generalize xs[k]=x at cx HTS HNE
   generalize ys[k]=y at cy HTS HNE
   obtain ⟨x0,x1⟩:=x
   obtain ⟨y0,y1⟩:=y
   obtain ⟨cx0,cx1⟩:=cx
   obtain ⟨cy0,cy1⟩:=cy
   dsimp only at cx0 cx1 cy0 cy1
   have HBr:=hidP hbr
   clear hc hc' hbr HT hkx hky
   go_upto_region 6 with fail
   by_cases h0:x0=y0
   rotate_left
   ·have HF:=hidP (HNE.out (fun e=>h0 (by injection e)))
    have f0:(x0==y0)=false:=by simpa using h0
    have f1:(x0 != y0)=true:=by simpa using h0
    clear h0
    go_quiet (fail)
    go_wp2_with fail
    go_ret
    exact ⟨by rw [HF.out];rfl,bdrewN HBr.out _⟩
   subst h0
   by_cases h1:x1=y1
   rotate_left
   ·have HF:=hidP (HNE.out (fun e=>h1 (by injection e)))
    have f0:(x1==y1)=false:=by simpa using h1
    have f1:(x1 != y1)=true:=by simpa using h1
    have b0:(x0==x0)=true:=by simp
    clear h1
    go_quiet (fail)
    go_wp2_with fail
    go_ret
    exact ⟨by rw [HF.out];rfl,bdrewN HBr.out _⟩
   subst h1
   have v:Hid (xs.take (k+1)=ys.take (k+1)):=HTS.out rfl
   have b0:(x0 != x0)=false:=by simp
   have b1:(x1 != x1)=false:=by simp
   go_quiet (fail)
   go_wp2_with fail
   go_roundw
   case rel=>exact ⟨k+1,by omega,by go_num,v,bdrewN HBr.out _⟩
   case measure=>simp [intOf];omega
  ·have hki:¬ (k:Int)<n:=by omega
   have HE:Hid (eqL xs ys=true):=eqL_t (by have h:=HT.out;rw [List.take_of_length_le (by rw [HN.out];omega),List.take_of_length_le (by rw [HM.out];omega)] at h;exact h)
   go_wp2_with fail
   go_ret
   exact ⟨by rw [HE.out];rfl,hbr⟩
theorem eqLies_any (a a':Option Addr)(c c':Nat)(xs ys:List MEnd)(w:World)(hx:Hid (EndsAt w a xs))(hy:Hid (EndsAt w a' ys)):
  Calls Tryz.prog 135 #[.slice a xs.length c,.slice a' ys.length c'] w fun e w'=>e = .returned (.bool (eqL xs ys))∧Below w.heap.size w w':=by
 have hl1:=hx.out.1
 have hl2:=hy.out.1
 unfold maxLen at hl1 hl2
 obtain ⟨n,hn⟩:∃ n,xs.length=n:=⟨_,rfl⟩
 obtain ⟨m,hm⟩:∃ m,ys.length=m:=⟨_,rfl⟩
 rw [hn] at hl1 ⊢
 rw [hm] at hl2 ⊢
 have HN:=hidP hn
 have HM:=hidP hm
 clear hn hm
 go_enter Tryz.func135,Tryz.ntmps135
 by_cases hnm:n=m
 rotate_left
 ·have hb:((n:Int) != (m:Int))=true:=by rw [bne_iff_ne];omega
  have HF:Hid (eqL xs ys=false):=eqL_len (by rw [HN.out,HM.out];exact hnm)
  clear hnm
  go_wp2_with fail
  go_ret
  exact ⟨by rw [HF.out];rfl,Below.refl _ _⟩
 subst hnm
 go_wp2_with fail
 go_loopw [13] (fun i wr => ∃ k:Nat,k≤n∧i = .int .i64 k∧Hid (xs.take k=ys.take k)∧Below w.heap.size w wr) (fun i _=>n-(intOf i).toNat)
 case atStart=>exact ⟨0,Nat.zero_le _,rfl,by unfold Hid;rw [List.take_zero,List.take_zero],Below.refl _ _⟩
 case round =>
  obtain ⟨k,hk,rfl,HT,hbr⟩:=hrel
  by_cases hk':k<n
  ·have hki:(k:Int)<n:=by omega
   have hkx:k<xs.length:=by rw [HN.out];exact hk'
   have hky:k<ys.length:=by rw [HM.out];exact hk'
   obtain ⟨b,o,ha,hc⟩:=(hx.out.below hbr).2.resolve_left (nz hkx)
   obtain ⟨b',o',ha',hc'⟩:=(hy.out.below hbr).2.resolve_left (nz hky)
   subst ha ha'
   have HTS:Hid (xs[k]=ys[k]→xs.take (k+1)=ys.take (k+1)):=fun e=>by rw [List.take_succ_eq_append_getElem hkx,List.take_succ_eq_append_getElem hky,HT.out,e]
   have HNE:Hid (xs[k]≠ys[k]→eqL xs ys=false):=eqL_at hkx hky
   have cx:=hc k hkx
   have cy:=hc' k hky
   generalize xs[k]=x at cx HTS HNE
   generalize ys[k]=y at cy HTS HNE
   obtain ⟨x0,x1⟩:=x
   obtain ⟨y0,y1⟩:=y
   obtain ⟨cx0,cx1⟩:=cx
   obtain ⟨cy0,cy1⟩:=cy
   dsimp only at cx0 cx1 cy0 cy1
   have HBr:=hidP hbr
   clear hc hc' hbr HT hkx hky
   go_upto_region 6 with fail
   by_cases h0:x0=y0
   rotate_left
   ·have HF:=hidP (HNE.out (fun e=>h0 (by injection e)))
    have f0:(x0==y0)=false:=by simpa using h0
    have f1:(x0 != y0)=true:=by simpa using h0
    clear h0
    go_quiet (fail)
    go_wp2_with fail
    go_ret
    exact ⟨by rw [HF.out];rfl,bdrewN HBr.out _⟩
   subst h0
   by_cases h1:x1=y1
   rotate_left
   ·have HF:=hidP (HNE.out (fun e=>h1 (by injection e)))
    have f0:(x1==y1)=false:=by simpa using h1
    have f1:(x1 != y1)=true:=by simpa using h1
    have b0:(x0==x0)=true:=by simp
    clear h1
    go_quiet (fail)
    go_wp2_with fail
    go_ret
    exact ⟨by rw [HF.out];rfl,bdrewN HBr.out _⟩
   subst h1
   have v:Hid (xs.take (k+1)=ys.take (k+1)):=HTS.out rfl
   have b0:(x0 != x0)=false:=by simp
   have b1:(x1 != x1)=false:=by simp
   go_quiet (fail)
   go_wp2_with fail
   go_roundw
   case rel=>exact ⟨k+1,by omega,by go_num,v,bdrewN HBr.out _⟩
   case measure=>simp [intOf];omega
  ·have hki:¬ (k:Int)<n:=by omega
   have HE:Hid (eqL xs ys=true):=eqL_t (by have h:=HT.out;rw [List.take_of_length_le (by rw [HN.out];omega),List.take_of_length_le (by rw [HM.out];omega)] at h;exact h)
   go_wp2_with fail
   go_ret
   exact ⟨by rw [HE.out];rfl,hbr⟩
theorem eqNums_any (a a':Option Addr)(c c':Nat)(xs ys:List Int)(w:World)(hx:Hid (NumsAt w a xs))(hy:Hid (NumsAt w a' ys)):
  Calls Tryz.prog 136 #[.slice a xs.length c,.slice a' ys.length c'] w fun e w'=>e = .returned (.bool (eqL xs ys))∧Below w.heap.size w w':=by
 have hl1:=hx.out.1
 have hl2:=hy.out.1
 unfold maxLen at hl1 hl2
 obtain ⟨n,hn⟩:∃ n,xs.length=n:=⟨_,rfl⟩
 obtain ⟨m,hm⟩:∃ m,ys.length=m:=⟨_,rfl⟩
 rw [hn] at hl1 ⊢
 rw [hm] at hl2 ⊢
 have HN:=hidP hn
 have HM:=hidP hm
 clear hn hm
 go_enter Tryz.func136,Tryz.ntmps136
 by_cases hnm:n=m
 rotate_left
 ·have hb:((n:Int) != (m:Int))=true:=by rw [bne_iff_ne];omega
  have HF:Hid (eqL xs ys=false):=eqL_len (by rw [HN.out,HM.out];exact hnm)
  clear hnm
  go_wp2_with fail
  go_ret
  exact ⟨by rw [HF.out];rfl,Below.refl _ _⟩
 subst hnm
 go_wp2_with fail
 go_loopw [13] (fun i wr => ∃ k:Nat,k≤n∧i = .int .i64 k∧Hid (xs.take k=ys.take k)∧Below w.heap.size w wr) (fun i _=>n-(intOf i).toNat)
 case atStart=>exact ⟨0,Nat.zero_le _,rfl,by unfold Hid;rw [List.take_zero,List.take_zero],Below.refl _ _⟩
 case round =>
  obtain ⟨k,hk,rfl,HT,hbr⟩:=hrel
  by_cases hk':k<n
  ·have hki:(k:Int)<n:=by omega
   have hkx:k<xs.length:=by rw [HN.out];exact hk'
   have hky:k<ys.length:=by rw [HM.out];exact hk'
   obtain ⟨b,o,ha,hc⟩:=(hx.out.below hbr).2.resolve_left (nz hkx)
   obtain ⟨b',o',ha',hc'⟩:=(hy.out.below hbr).2.resolve_left (nz hky)
   subst ha ha'
   have HTS:Hid (xs[k]=ys[k]→xs.take (k+1)=ys.take (k+1)):=fun e=>by rw [List.take_succ_eq_append_getElem hkx,List.take_succ_eq_append_getElem hky,HT.out,e]
   have HNE:Hid (xs[k]≠ys[k]→eqL xs ys=false):=eqL_at hkx hky
   have cx:=hc k hkx
   have cy:=hc' k hky
   generalize xs[k]=x at cx HTS HNE
   generalize ys[k]=y at cy HTS HNE
   have HBr:=hidP hbr
   clear hc hc' hbr HT hkx hky
   go_upto_region 6 with fail
   by_cases h0:x=y
   rotate_left
   ·have HF:=hidP (HNE.out (fun e=>h0 (by exact e)))
    have f0:(x==y)=false:=by simpa using h0
    have f1:(x != y)=true:=by simpa using h0
    clear h0
    go_quiet (fail)
    go_wp2_with fail
    go_ret
    exact ⟨by rw [HF.out];rfl,bdrewN HBr.out _⟩
   subst h0
   have v:Hid (xs.take (k+1)=ys.take (k+1)):=HTS.out rfl
   have b0:(x != x)=false:=by simp
   go_quiet (fail)
   go_wp2_with fail
   go_roundw
   case rel=>exact ⟨k+1,by omega,by go_num,v,bdrewN HBr.out _⟩
   case measure=>simp [intOf];omega
  ·have hki:¬ (k:Int)<n:=by omega
   have HE:Hid (eqL xs ys=true):=eqL_t (by have h:=HT.out;rw [List.take_of_length_le (by rw [HN.out];omega),List.take_of_length_le (by rw [HM.out];omega)] at h;exact h)
   go_wp2_with fail
   go_ret
   exact ⟨by rw [HE.out];rfl,hbr⟩
theorem eqParts_any (a a':Option Addr)(c c':Nat)(xs ys:List MPart)(w:World)(hx:Hid (PartsAt w a xs))(hy:Hid (PartsAt w a' ys)):
  Calls Tryz.prog 137 #[.slice a xs.length c,.slice a' ys.length c'] w fun e w'=>e = .returned (.bool (eqL xs ys))∧Below w.heap.size w w':=by
 have hl1:=hx.out.1
 have hl2:=hy.out.1
 unfold maxLen at hl1 hl2
 obtain ⟨n,hn⟩:∃ n,xs.length=n:=⟨_,rfl⟩
 obtain ⟨m,hm⟩:∃ m,ys.length=m:=⟨_,rfl⟩
 rw [hn] at hl1 ⊢
 rw [hm] at hl2 ⊢
 have HN:=hidP hn
 have HM:=hidP hm
 clear hn hm
 go_enter Tryz.func137,Tryz.ntmps137
 by_cases hnm:n=m
 rotate_left
 ·have hb:((n:Int) != (m:Int))=true:=by rw [bne_iff_ne];omega
  have HF:Hid (eqL xs ys=false):=eqL_len (by rw [HN.out,HM.out];exact hnm)
  clear hnm
  go_wp2_with fail
  go_ret
  exact ⟨by rw [HF.out];rfl,Below.refl _ _⟩
 subst hnm
 go_wp2_with fail
 go_loopw [13] (fun i wr => ∃ k:Nat,k≤n∧i = .int .i64 k∧Hid (xs.take k=ys.take k)∧Below w.heap.size w wr) (fun i _=>n-(intOf i).toNat)
 case atStart=>exact ⟨0,Nat.zero_le _,rfl,by unfold Hid;rw [List.take_zero,List.take_zero],Below.refl _ _⟩
 case round =>
  obtain ⟨k,hk,rfl,HT,hbr⟩:=hrel
  by_cases hk':k<n
  ·have hki:(k:Int)<n:=by omega
   have hkx:k<xs.length:=by rw [HN.out];exact hk'
   have hky:k<ys.length:=by rw [HM.out];exact hk'
   obtain ⟨b,o,ha,hc⟩:=(hx.out.below hbr).2.resolve_left (nz hkx)
   obtain ⟨b',o',ha',hc'⟩:=(hy.out.below hbr).2.resolve_left (nz hky)
   subst ha ha'
   have HTS:Hid (xs[k]=ys[k]→xs.take (k+1)=ys.take (k+1)):=fun e=>by rw [List.take_succ_eq_append_getElem hkx,List.take_succ_eq_append_getElem hky,HT.out,e]
   have HNE:Hid (xs[k]≠ys[k]→eqL xs ys=false):=eqL_at hkx hky
   have cx:=hc k hkx
   have cy:=hc' k hky
   generalize xs[k]=x at cx HTS HNE
   generalize ys[k]=y at cy HTS HNE
   obtain ⟨x0,x1,x2⟩:=x
   obtain ⟨y0,y1,y2⟩:=y
   obtain ⟨cx0,cx1,cx2⟩:=cx
   obtain ⟨cy0,cy1,cy2⟩:=cy
   dsimp only at cx0 cx1 cx2 cy0 cy1 cy2
   have HBr:=hidP hbr
   clear hc hc' hbr HT hkx hky
   go_upto_region 6 with fail
   by_cases h0:x0=y0
   rotate_left
   ·have HF:=hidP (HNE.out (fun e=>h0 (by injection e)))
    have f0:(x0==y0)=false:=by simpa using h0
    have f1:(x0 != y0)=true:=by simpa using h0
    clear h0
    go_quiet (fail)
    go_wp2_with fail
    go_ret
    exact ⟨by rw [HF.out];rfl,bdrewN HBr.out _⟩
   subst h0
   by_cases h1:x1=y1
   rotate_left
   ·have HF:=hidP (HNE.out (fun e=>h1 (by injection e)))
    have f0:(x1==y1)=false:=by simpa using h1
    have f1:(x1 != y1)=true:=by simpa using h1
    have b0:(x0==x0)=true:=by simp
    clear h1
    go_quiet (fail)
    go_wp2_with fail
    go_ret
    exact ⟨by rw [HF.out];rfl,bdrewN HBr.out _⟩
   subst h1
   by_cases h2:x2=y2
   rotate_left
   ·have HF:=hidP (HNE.out (fun e=>h2 (by injection e)))
    have f0:(x2==y2)=false:=by simpa using h2
    have f1:(x2 != y2)=true:=by simpa using h2
    have b0:(x0==x0)=true:=by simp
    have b1:(x1==x1)=true:=by simp
    clear h2
    go_quiet (fail)
    go_wp2_with fail
    go_ret
    exact ⟨by rw [HF.out];rfl,bdrewN HBr.out _⟩
   subst h2
   have v:Hid (xs.take (k+1)=ys.take (k+1)):=HTS.out rfl
   have b0:(x0 != x0)=false:=by simp
   have b1:(x1 != x1)=false:=by simp
   have b2:(x2 != x2)=false:=by simp
   go_quiet (fail)
   go_wp2_with fail
   go_roundw
   case rel=>exact ⟨k+1,by omega,by go_num,v,bdrewN HBr.out _⟩
   case measure=>simp [intOf];omega
  ·have hki:¬ (k:Int)<n:=by omega
   have HE:Hid (eqL xs ys=true):=eqL_t (by have h:=HT.out;rw [List.take_of_length_le (by rw [HN.out];omega),List.take_of_length_le (by rw [HM.out];omega)] at h;exact h)
   go_wp2_with fail
   go_ret
   exact ⟨by rw [HE.out];rfl,hbr⟩
theorem eqFlanks_any (a a':Option Addr)(c c':Nat)(xs ys:List MFlank)(w:World)(hx:Hid (FlanksAt w a xs))(hy:Hid (FlanksAt w a' ys)):
  Calls Tryz.prog 138 #[.slice a xs.length c,.slice a' ys.length c'] w fun e w'=>e = .returned (.bool (eqL xs ys))∧Below w.heap.size w w':=by
 have hl1:=hx.out.1
 have hl2:=hy.out.1
 unfold maxLen at hl1 hl2
 obtain ⟨n,hn⟩:∃ n,xs.length=n:=⟨_,rfl⟩
 obtain ⟨m,hm⟩:∃ m,ys.length=m:=⟨_,rfl⟩
 rw [hn] at hl1 ⊢
 rw [hm] at hl2 ⊢
 have HN:=hidP hn
 have HM:=hidP hm
 clear hn hm
 go_enter Tryz.func138,Tryz.ntmps138
 by_cases hnm:n=m
 rotate_left
 ·have hb:((n:Int) != (m:Int))=true:=by rw [bne_iff_ne];omega
  have HF:Hid (eqL xs ys=false):=eqL_len (by rw [HN.out,HM.out];exact hnm)
  clear hnm
  go_wp2_with fail
  go_ret
  exact ⟨by rw [HF.out];rfl,Below.refl _ _⟩
 subst hnm
 go_wp2_with fail
 go_loopw [13] (fun i wr => ∃ k:Nat,k≤n∧i = .int .i64 k∧Hid (xs.take k=ys.take k)∧Below w.heap.size w wr) (fun i _=>n-(intOf i).toNat)
 case atStart=>exact ⟨0,Nat.zero_le _,rfl,by unfold Hid;rw [List.take_zero,List.take_zero],Below.refl _ _⟩
 case round =>
  obtain ⟨k,hk,rfl,HT,hbr⟩:=hrel
  by_cases hk':k<n
  ·have hki:(k:Int)<n:=by omega
   have hkx:k<xs.length:=by rw [HN.out];exact hk'
   have hky:k<ys.length:=by rw [HM.out];exact hk'
   obtain ⟨b,o,ha,hc⟩:=(hx.out.below hbr).2.resolve_left (nz hkx)
   obtain ⟨b',o',ha',hc'⟩:=(hy.out.below hbr).2.resolve_left (nz hky)
   subst ha ha'
   have HTS:Hid (xs[k]=ys[k]→xs.take (k+1)=ys.take (k+1)):=fun e=>by rw [List.take_succ_eq_append_getElem hkx,List.take_succ_eq_append_getElem hky,HT.out,e]
   have HNE:Hid (xs[k]≠ys[k]→eqL xs ys=false):=eqL_at hkx hky
   have cx:=hc k hkx
   have cy:=hc' k hky
   generalize xs[k]=x at cx HTS HNE
   generalize ys[k]=y at cy HTS HNE
   obtain ⟨x0,x1,x2,x3⟩:=x
   obtain ⟨y0,y1,y2,y3⟩:=y
   obtain ⟨cx0,cx1,cx2,cx3⟩:=cx
   obtain ⟨cy0,cy1,cy2,cy3⟩:=cy
   dsimp only at cx0 cx1 cx2 cx3 cy0 cy1 cy2 cy3
   have HBr:=hidP hbr
   clear hc hc' hbr HT hkx hky
   go_upto_region 6 with fail
   by_cases h0:x0=y0
   rotate_left
   ·have HF:=hidP (HNE.out (fun e=>h0 (by injection e)))
    have f0:(x0==y0)=false:=by simpa using h0
    have f1:(x0 != y0)=true:=by simpa using h0
    clear h0
    go_quiet (fail)
    go_wp2_with fail
    go_ret
    exact ⟨by rw [HF.out];rfl,bdrewN HBr.out _⟩
   subst h0
   by_cases h1:x1=y1
   rotate_left
   ·have HF:=hidP (HNE.out (fun e=>h1 (by injection e)))
    have f0:(x1==y1)=false:=by simpa using h1
    have f1:(x1 != y1)=true:=by simpa using h1
    have b0:(x0==x0)=true:=by simp
    clear h1
    go_quiet (fail)
    go_wp2_with fail
    go_ret
    exact ⟨by rw [HF.out];rfl,bdrewN HBr.out _⟩
   subst h1
   by_cases h2:x2=y2
   rotate_left
   ·have HF:=hidP (HNE.out (fun e=>h2 (by injection e)))
    have f0:(x2==y2)=false:=by simpa using h2
    have f1:(x2 != y2)=true:=by simpa using h2
    have b0:(x0==x0)=true:=by simp
    have b1:(x1==x1)=true:=by simp
    clear h2
    go_quiet (fail)
    go_wp2_with fail
    go_ret
    exact ⟨by rw [HF.out];rfl,bdrewN HBr.out _⟩
   subst h2
   by_cases h3:x3=y3
   rotate_left
   ·have HF:=hidP (HNE.out (fun e=>h3 (by injection e)))
    have f0:(x3==y3)=false:=by simpa using h3
    have f1:(x3 != y3)=true:=by simpa using h3
    have b0:(x0==x0)=true:=by simp
    have b1:(x1==x1)=true:=by simp
    have b2:(x2==x2)=true:=by simp
    clear h3
    go_quiet (fail)
    go_wp2_with fail
    go_ret
    exact ⟨by rw [HF.out];rfl,bdrewN HBr.out _⟩
   subst h3
   have v:Hid (xs.take (k+1)=ys.take (k+1)):=HTS.out rfl
   have b0:(x0 != x0)=false:=by simp
   have b1:(x1 != x1)=false:=by simp
   have b2:(x2 != x2)=false:=by simp
   have b3:(x3 != x3)=false:=by simp
   go_quiet (fail)
   go_wp2_with fail
   go_roundw
   case rel=>exact ⟨k+1,by omega,by go_num,v,bdrewN HBr.out _⟩
   case measure=>simp [intOf];omega
  ·have hki:¬ (k:Int)<n:=by omega
   have HE:Hid (eqL xs ys=true):=eqL_t (by have h:=HT.out;rw [List.take_of_length_le (by rw [HN.out];omega),List.take_of_length_le (by rw [HM.out];omega)] at h;exact h)
   go_wp2_with fail
   go_ret
   exact ⟨by rw [HE.out];rfl,hbr⟩
def wrongF (r q : MRoute) (D : Prop → Bool := fun p => @decide p (Classical.propDecidable p)) : Int :=
 if r.start=q.start∧r.stop=q.stop∧eqL r.steps q.steps D = true then
  if eqL r.lies q.lies D = true∧eqL r.crosses q.crosses D = true then
   if eqL r.parts q.parts D = true∧eqL r.over q.over D = true then
    if eqL r.flanks q.flanks D = true then 0 else 6
   else 5
  else 4
 else 3
def errV (code row col:Int):Value:=.iface 91 (.agg #[.int .i64 code,.iface 95 (.agg #[.int .i64 row,.int .i64 col])])
theorem partsAt_any (code row col:Int)(w:World):Calls Tryz.prog 110 #[.int .i64 code,.int .i64 row,.int .i64 col] w fun e w'=>e = .returned (errV code row col)∧w'=w:=by
 go_enter Tryz.func110,Tryz.ntmps110
 go_wp2_with fail
 go_ret
 exact ⟨rfl,rfl⟩
theorem routeWrong_any (d d':RAddr)(r q:MRoute)(w:World)(hr:Hid (RListsAt w d r))(hq:Hid (RListsAt w d' q)):
  Calls Tryz.prog 111 #[routeV d r,routeV d' q] w fun e w'=>e = .returned (.int .i64 (wrongF r q))∧Below w.heap.size w w':=by
 unfold routeV
 go_enter Tryz.func111,Tryz.ntmps111
 have HW:Hid (wrongF r q=if r.start=q.start∧r.stop=q.stop∧eqL r.steps q.steps=true then
  if eqL r.lies q.lies=true∧eqL r.crosses q.crosses=true then
   if eqL r.parts q.parts=true∧eqL r.over q.over=true then
    if eqL r.flanks q.flanks=true then 0 else 6
   else 5
  else 4
 else 3):=rfl
 obtain ⟨v,hv⟩:∃ v,wrongF r q=v:=⟨_,rfl⟩
 rw [hv]
 rw [hv] at HW
 clear hv
 go_upto_region 1 with fail
 generalize hW:World.alloc (World.alloc w _) _=W
 have hbW:Below w.heap.size w W:=by rw [← hW];exact blo
 have HX:Hid (RouteCell W w.heap.size 0 d r):=by rw [← hW];exact ⟨by simp [go_sem],by simp [go_sem],by simp [go_sem],by simp [go_sem],by simp [go_sem],by simp [go_sem],by simp [go_sem],by simp [go_sem]⟩
 have HY:Hid (RouteCell W (w.heap.size+1) 0 d' q):=by rw [← hW];exact ⟨by simp [go_sem],by simp [go_sem],by simp [go_sem],by simp [go_sem],by simp [go_sem],by simp [go_sem],by simp [go_sem],by simp [go_sem]⟩
 have HBW:=hidP hbW
 have HR:=hidP (hr.out.below hbW)
 have HQ:=hidP (hq.out.below hbW)
 obtain ⟨X,hX⟩:∃ X,w.heap.size=X:=⟨_,rfl⟩
 obtain ⟨Y,hY⟩:∃ Y,X+1=Y:=⟨_,rfl⟩
 have HXw:Hid (w.heap.size=X):=hX
 rw [hX] at HX HY ⊢
 rw [hY] at HY ⊢
 clear hW hbW hX hY hr hq
 have x0:=HX.out.k0
 have x1:=HX.out.k1
 have x2:=HX.out.k2
 have y0:=HY.out.k0
 have y1:=HY.out.k1
 have y2:=HY.out.k2
 simp only [Nat.zero_add] at x0 x1 x2 y0 y1 y2
 by_cases h0:r.start=q.start
 rotate_left
 ·have f0:(r.start != q.start)=true:=by simpa using h0
  have HV:Hid (v=3):=by unfold Hid;rw [HW.out,if_neg (fun h=>h0 h.1)]
  clear h0
  go_wp2_with fail
  go_ret
  exact ⟨by rw [HV.out];rfl,HBW.out⟩
 have f0:(r.start != q.start)=false:=by simpa using h0
 have H0:=hidP h0
 clear h0
 by_cases h1:r.stop=q.stop
 rotate_left
 ·have f1:(r.stop != q.stop)=true:=by simpa using h1
  have HV:Hid (v=3):=by unfold Hid;rw [HW.out,if_neg (fun h=>h1 h.2.1)]
  clear h1
  go_wp2_with fail
  go_ret
  exact ⟨by rw [HV.out];rfl,HBW.out⟩
 have f1:(r.stop != q.stop)=false:=by simpa using h1
 have H1:=hidP h1
 clear h1
 go_wp2_with fail
 refine (eqSteps_any d.a0 d'.a0 d.c0 d'.c0 r.steps q.steps W HR.out.steps HQ.out.steps).mono ?_
 rintro e w1 ⟨rfl,hb1⟩
 have HB1:=hidP (HBW.out.trans (hb1.mono HBW.out.size))
 have HX1:=hidP (HX.out.below hb1)
 have HY1:=hidP (HY.out.below hb1)
 have HR1:=hidP (HR.out.below hb1)
 have HQ1:=hidP (HQ.out.below hb1)
 have x3:=HX1.out.k3
 have x4:=HX1.out.k4
 have y3:=HY1.out.k3
 have y4:=HY1.out.k4
 simp only [Nat.zero_add] at x3 x4 y3 y4
 clear hb1 x0 x1 x2 y0 y1 y2 f0 f1 HX HY HR HQ
 cases hs:eqL r.steps q.steps
 ·have HV:Hid (v=3):=by unfold Hid;rw [HW.out,if_neg (fun h=>by rw [hs] at h;simp at h)]
  go_wp2_with fail
  go_ret
  exact ⟨by rw [HV.out];rfl,HB1.out⟩
 have HS:=hidP hs
 clear hs
 go_wp2_with fail
 refine (eqLies_any d.a1 d'.a1 d.c1 d'.c1 r.lies q.lies w1 HR1.out.lies HQ1.out.lies).mono ?_
 rintro e w2 ⟨rfl,hb2⟩
 have HB2:=hidP (HB1.out.trans (hb2.mono HB1.out.size))
 have HX2:=hidP (HX1.out.below hb2)
 have HY2:=hidP (HY1.out.below hb2)
 have HR2:=hidP (HR1.out.below hb2)
 have HQ2:=hidP (HQ1.out.below hb2)
 replace x4:=cell_later hb2 x4
 replace y4:=cell_later hb2 y4
 clear hb2 x3 y3 HX1 HY1 HR1 HQ1
 cases hs:eqL r.lies q.lies
 ·have HV:Hid (v=4):=by unfold Hid;rw [HW.out,if_pos ⟨H0.out,H1.out,HS.out⟩,if_neg (fun h=>by rw [hs] at h;simp at h)]
  go_wp2_with fail
  go_ret
  exact ⟨by rw [HV.out];rfl,HB2.out⟩
 have HS2:=hidP hs
 clear hs
 go_wp2_with fail
 refine (eqNums_any d.a2 d'.a2 d.c2 d'.c2 r.crosses q.crosses w2 HR2.out.crosses HQ2.out.crosses).mono ?_
 rintro e w3 ⟨rfl,hb3⟩
 have HB3:=hidP (HB2.out.trans (hb3.mono HB2.out.size))
 have HX3:=hidP (HX2.out.below hb3)
 have HY3:=hidP (HY2.out.below hb3)
 have HR3:=hidP (HR2.out.below hb3)
 have HQ3:=hidP (HQ2.out.below hb3)
 have x5:=HX3.out.k5
 have x6:=HX3.out.k6
 have y5:=HY3.out.k5
 have y6:=HY3.out.k6
 simp only [Nat.zero_add] at x5 x6 y5 y6
 clear hb3 x4 y4 HX2 HY2 HR2 HQ2
 cases hs:eqL r.crosses q.crosses
 ·have HV:Hid (v=4):=by unfold Hid;rw [HW.out,if_pos ⟨H0.out,H1.out,HS.out⟩,if_neg (fun h=>by rw [hs] at h;simp at h)]
  go_wp2_with fail
  go_ret
  exact ⟨by rw [HV.out];rfl,HB3.out⟩
 have HS3:=hidP hs
 clear hs
 go_wp2_with fail
 refine (eqParts_any d.a3 d'.a3 d.c3 d'.c3 r.parts q.parts w3 HR3.out.parts HQ3.out.parts).mono ?_
 rintro e w4 ⟨rfl,hb4⟩
 have HB4:=hidP (HB3.out.trans (hb4.mono HB3.out.size))
 have HX4:=hidP (HX3.out.below hb4)
 have HY4:=hidP (HY3.out.below hb4)
 have HR4:=hidP (HR3.out.below hb4)
 have HQ4:=hidP (HQ3.out.below hb4)
 replace x6:=cell_later hb4 x6
 replace y6:=cell_later hb4 y6
 clear hb4 x5 y5 HX3 HY3 HR3 HQ3
 cases hs:eqL r.parts q.parts
 ·have HV:Hid (v=5):=by unfold Hid;rw [HW.out,if_pos ⟨H0.out,H1.out,HS.out⟩,if_pos ⟨HS2.out,HS3.out⟩,if_neg (fun h=>by rw [hs] at h;simp at h)]
  go_wp2_with fail
  go_ret
  exact ⟨by rw [HV.out];rfl,HB4.out⟩
 have HS4:=hidP hs
 clear hs
 go_wp2_with fail
 refine (eqParts_any d.a4 d'.a4 d.c4 d'.c4 r.over q.over w4 HR4.out.over HQ4.out.over).mono ?_
 rintro e w5 ⟨rfl,hb5⟩
 have HB5:=hidP (HB4.out.trans (hb5.mono HB4.out.size))
 have HX5:=hidP (HX4.out.below hb5)
 have HY5:=hidP (HY4.out.below hb5)
 have HR5:=hidP (HR4.out.below hb5)
 have HQ5:=hidP (HQ4.out.below hb5)
 have x7:=HX5.out.k7
 have y7:=HY5.out.k7
 simp only [Nat.zero_add] at x7 y7
 clear hb5 x6 y6 HX4 HY4 HR4 HQ4
 cases hs:eqL r.over q.over
 ·have HV:Hid (v=5):=by unfold Hid;rw [HW.out,if_pos ⟨H0.out,H1.out,HS.out⟩,if_pos ⟨HS2.out,HS3.out⟩,if_neg (fun h=>by rw [hs] at h;simp at h)]
  go_wp2_with fail
  go_ret
  exact ⟨by rw [HV.out];rfl,HB5.out⟩
 have HS5:=hidP hs
 clear hs
 go_wp2_with fail
 refine (eqFlanks_any d.a5 d'.a5 d.c5 d'.c5 r.flanks q.flanks w5 HR5.out.flanks HQ5.out.flanks).mono ?_
 rintro e w6 ⟨rfl,hb6⟩
 have HB6:=hidP (HB5.out.trans (hb6.mono HB5.out.size))
 clear hb6 x7 y7 HX5 HY5 HR5 HQ5
 cases hs:eqL r.flanks q.flanks
 ·have HV:Hid (v=6):=by unfold Hid;rw [HW.out,if_pos ⟨H0.out,H1.out,HS.out⟩,if_pos ⟨HS2.out,HS3.out⟩,if_pos ⟨HS4.out,HS5.out⟩,if_neg (fun h=>by rw [hs] at h;simp at h)]
  go_wp2_with fail
  go_ret
  exact ⟨by rw [HV.out];rfl,HB6.out⟩
 ·have HV:Hid (v=0):=by unfold Hid;rw [HW.out,if_pos ⟨H0.out,H1.out,HS.out⟩,if_pos ⟨HS2.out,HS3.out⟩,if_pos ⟨HS4.out,HS5.out⟩,if_pos hs]
  go_wp2_with fail
  go_ret
  exact ⟨by rw [HV.out];rfl,HB6.out⟩
def chkR : List MRoute → List MRoute → Nat → (D : Prop → Bool := fun p => @decide p (Classical.propDecidable p)) → Option (Int × Nat)
 | [],[],_, _ => none
 | [],_::_,i, _ => some (2,i)
 | _::_,[],i, _ => some (2,i)
 | r::rs,q::qs,i, D => if wrongF r q D=0 then chkR rs qs (i + 1) D else some (wrongF r q D,i)
def chkV (o:Option (Int × Nat)):Value:=match o with
 | none=>.nilIface
 | some (c,i)=>errV c i 0
theorem chkR_on {rs qs:List MRoute}{k:Nat}(h1:k<rs.length)(h2:k<qs.length):chkR (rs.drop k) (qs.drop k) k=if wrongF rs[k] qs[k]=0 then chkR (rs.drop (k+1)) (qs.drop (k+1)) (k+1) else some (wrongF rs[k] qs[k],k):=by
 rw [List.drop_eq_getElem_cons h1,List.drop_eq_getElem_cons h2]
 rfl
theorem chkR_end {rs qs:List MRoute}{k:Nat}(h1:rs.length≤k)(h2:qs.length≤k):chkR (rs.drop k) (qs.drop k) k=none:=by
 rw [List.drop_eq_nil_of_le h1,List.drop_eq_nil_of_le h2]
 rfl
theorem chkR_one {rs qs:List MRoute}{k:Nat}(h:(rs.length≤k∧k<qs.length)∨(qs.length≤k∧k<rs.length)):chkR (rs.drop k) (qs.drop k) k=some (2,k):=by
 rcases h with ⟨h1,h2⟩ | ⟨h1,h2⟩
 ·rw [List.drop_eq_nil_of_le h1,List.drop_eq_getElem_cons h2];rfl
 ·rw [List.drop_eq_nil_of_le h1,List.drop_eq_getElem_cons h2];rfl
theorem checkRoutes_any (a a':Option Addr)(c c':Nat)(rs qs:List MRoute)(w:World)(hr:Hid (RoutesAt w a rs))(hq:Hid (RoutesAt w a' qs)):
  Calls Tryz.prog 71 #[.slice a rs.length c,.slice a' qs.length c'] w fun e w'=>e = .returned (chkV (chkR rs qs 0))∧Below w.heap.size w w':=by
 have hl1:=hr.out.1
 have hl2:=hq.out.1
 unfold maxLen at hl1 hl2
 obtain ⟨n,hn⟩:∃ n,rs.length=n:=⟨_,rfl⟩
 obtain ⟨m,hm⟩:∃ m,qs.length=m:=⟨_,rfl⟩
 obtain ⟨O,hO⟩:∃ O,chkR rs qs 0=O:=⟨_,rfl⟩
 rw [hO]
 rw [hn] at hl1 ⊢
 rw [hm] at hl2 ⊢
 have HN:=hidP hn
 have HM:=hidP hm
 have HO:Hid (chkR (rs.drop 0) (qs.drop 0) 0=O):=hO
 clear hn hm hO
 obtain ⟨z,hz⟩:∃ z:Nat,max (n:Int) (m:Int)=(z:Int):=⟨max n m,by omega⟩
 have hzn:z=max n m:=by omega
 go_enter Tryz.func71,Tryz.ntmps71
 go_upto_region 1 with fail
 go_cut [11,12] (fun v i wx=>v = .int .i64 z∧i = .int .i64 0∧wx=w)
 case first =>
  by_cases hnm:n≤m
  ·have hz2:z=m:=by omega
   subst hz2
   have hnm':(n:Int)≤z:=by omega
   clear hz hzn
   go_wp2_with fail
   all_goals
    go_meet
    exact ⟨congrArg (Value.int .i64) (by omega),rfl,rfl⟩
  ·have hz2:z=n:=by omega
   subst hz2
   have hnm':¬ (z:Int)≤m:=by omega
   clear hz hzn
   go_wp2_with fail
   all_goals
    go_meet
    exact ⟨congrArg (Value.int .i64) (by omega),rfl,rfl⟩
 case rest =>
  obtain ⟨rfl,rfl,hwc⟩:=hcut
  subst hwc
  have HZ:=hidP hzn
  clear hz hzn
  go_wp2_with fail
  go_loopw [12] (fun i wr => ∃ k:Nat,k≤z∧(k≤n∧k≤m)∧i = .int .i64 k∧Hid (chkR (rs.drop k) (qs.drop k) k=O)∧Below wc.heap.size wc wr) (fun i _=>z-(intOf i).toNat)
  case atStart=>exact ⟨0,Nat.zero_le _,⟨Nat.zero_le _,Nat.zero_le _⟩,rfl,HO,Below.refl _ _⟩
  case round =>
   obtain ⟨k,hk,hkk,rfl,HK,hbr⟩:=hrel
   by_cases hk':k<z
   ·have hki:(k:Int)<z:=by omega
    by_cases hkn:k<n
    rotate_left
    ·have f0:decide ((n:Int)≤k)=true:=by simp;omega
     have f0':(n:Int)≤k:=by omega
     have HE:Hid (chkV O=errV 2 k 0):=by
      unfold Hid
      rw [← HK.out,chkR_one (Or.inl ⟨by rw [HN.out];omega,by rw [HM.out];have:=HZ.out;omega⟩)]
      rfl
     go_wp2_with fail
     refine (partsAt_any 2 k 0 _).mono ?_
     rintro e w1 ⟨rfl,rfl⟩
     go_wp2_with fail
     go_ret
     exact ⟨by rw [HE.out];rfl,hbr⟩
    have f0:¬ (n:Int)≤k:=by omega
    by_cases hkm:k<m
    rotate_left
    ·have f1:(m:Int)≤k:=by omega
     have HE:Hid (chkV O=errV 2 k 0):=by
      unfold Hid
      rw [← HK.out,chkR_one (Or.inr ⟨by rw [HM.out];omega,by rw [HN.out];have:=HZ.out;omega⟩)]
      rfl
     go_wp2_with fail
     refine (partsAt_any 2 k 0 _).mono ?_
     rintro e w1 ⟨rfl,rfl⟩
     go_wp2_with fail
     go_ret
     exact ⟨by rw [HE.out];rfl,hbr⟩
    have f1:¬ (m:Int)≤k:=by omega
    have hknI:(k:Int)<n:=by omega
    have hkmI:(k:Int)<m:=by omega
    have hkr:k<rs.length:=by rw [HN.out];exact hkn
    have hkq:k<qs.length:=by rw [HM.out];exact hkm
    obtain ⟨b,o,ha,hc⟩:=(hr.out.below hbr).2.resolve_left (nz hkr)
    obtain ⟨b',o',ha',hc'⟩:=(hq.out.below hbr).2.resolve_left (nz hkq)
    subst ha ha'
    obtain ⟨d,rc,rl⟩:=hc k hkr
    obtain ⟨d',qc,ql⟩:=hc' k hkq
    have HST:Hid (O=if wrongF rs[k] qs[k]=0 then chkR (rs.drop (k+1)) (qs.drop (k+1)) (k+1) else some (wrongF rs[k] qs[k],k)):=by unfold Hid;rw [← HK.out,chkR_on hkr hkq]
    generalize rs[k]=r at rc rl HST
    generalize qs[k]=q at qc ql HST
    have HRL:=hidP rl
    have HQL:=hidP ql
    have HBr:=hidP hbr
    have HRC:=hidP rc
    have HQC:=hidP qc
    clear hc hc' rl ql hbr HK rc qc hkr hkq
    go_upto_region 6 with fail
    go_cut [6] (fun v wx=>v = .int .i64 (wrongF r q)∧Below wr.heap.size wr wx)
    case first =>
     obtain ⟨S,hS⟩:∃ S:World→Prop,∀ u,S u↔(RouteCell u b (o+k*8) d r∧RouteCell u b' (o'+k*8) d' q):=⟨_,fun _=>Iff.rfl⟩
     have x0:∀ u:Held S,World.cell? u.val ⟨b,o+k*8,none⟩=some (.int .i64 r.start):=fun u=>((hS u.val).1 u.2).1.k0
     have x1:∀ u:Held S,World.cell? u.val ⟨b,o+k*8+1,none⟩=some (.int .i64 r.stop):=fun u=>((hS u.val).1 u.2).1.k1
     have x2:∀ u:Held S,World.cell? u.val ⟨b,o+k*8+2,none⟩=some (.slice d.a0 r.steps.length d.c0):=fun u=>((hS u.val).1 u.2).1.k2
     have x3:∀ u:Held S,World.cell? u.val ⟨b,o+k*8+3,none⟩=some (.slice d.a1 r.lies.length d.c1):=fun u=>((hS u.val).1 u.2).1.k3
     have x4:∀ u:Held S,World.cell? u.val ⟨b,o+k*8+4,none⟩=some (.slice d.a2 r.crosses.length d.c2):=fun u=>((hS u.val).1 u.2).1.k4
     have x5:∀ u:Held S,World.cell? u.val ⟨b,o+k*8+5,none⟩=some (.slice d.a3 r.parts.length d.c3):=fun u=>((hS u.val).1 u.2).1.k5
     have x6:∀ u:Held S,World.cell? u.val ⟨b,o+k*8+6,none⟩=some (.slice d.a4 r.over.length d.c4):=fun u=>((hS u.val).1 u.2).1.k6
     have x7:∀ u:Held S,World.cell? u.val ⟨b,o+k*8+7,none⟩=some (.slice d.a5 r.flanks.length d.c5):=fun u=>((hS u.val).1 u.2).1.k7
     have y0:∀ u:Held S,World.cell? u.val ⟨b',o'+k*8,none⟩=some (.int .i64 q.start):=fun u=>((hS u.val).1 u.2).2.k0
     have y1:∀ u:Held S,World.cell? u.val ⟨b',o'+k*8+1,none⟩=some (.int .i64 q.stop):=fun u=>((hS u.val).1 u.2).2.k1
     have y2:∀ u:Held S,World.cell? u.val ⟨b',o'+k*8+2,none⟩=some (.slice d'.a0 q.steps.length d'.c0):=fun u=>((hS u.val).1 u.2).2.k2
     have y3:∀ u:Held S,World.cell? u.val ⟨b',o'+k*8+3,none⟩=some (.slice d'.a1 q.lies.length d'.c1):=fun u=>((hS u.val).1 u.2).2.k3
     have y4:∀ u:Held S,World.cell? u.val ⟨b',o'+k*8+4,none⟩=some (.slice d'.a2 q.crosses.length d'.c2):=fun u=>((hS u.val).1 u.2).2.k4
     have y5:∀ u:Held S,World.cell? u.val ⟨b',o'+k*8+5,none⟩=some (.slice d'.a3 q.parts.length d'.c3):=fun u=>((hS u.val).1 u.2).2.k5
     have y6:∀ u:Held S,World.cell? u.val ⟨b',o'+k*8+6,none⟩=some (.slice d'.a4 q.over.length d'.c4):=fun u=>((hS u.val).1 u.2).2.k6
     have y7:∀ u:Held S,World.cell? u.val ⟨b',o'+k*8+7,none⟩=some (.slice d'.a5 q.flanks.length d'.c5):=fun u=>((hS u.val).1 u.2).2.k7
     have hS1:S wr.drew:=(hS _).2 ⟨HRC.out.kept rfl,HQC.out.kept rfl⟩
     have hne:=held_ne hS1
     clear hS
     refine wp_region_tree (fun w' => ∃ u:Held S,w'=u.val) 8 (by kernel_rfl) (by kernel_rfl) (held_some hS1) ?_
     (refine wpT_sea 0 ?_;intro K hK;go_big_quiet_op;go_big_quiet_on);(refine wpT_sea 1 ?_;intro K hK;go_big_quiet_op;go_big_quiet_on);(refine wpT_sea 2 ?_;intro K hK;go_big_quiet_op;go_big_quiet_on);(refine wpT_sea 3 ?_;intro K hK;go_big_quiet_op;go_big_quiet_on);(refine wpT_sea 4 ?_;intro K hK;go_big_quiet_op;go_big_quiet_on);(refine wpT_sea 5 ?_;intro K hK;go_big_quiet_op;go_big_quiet_on);(refine wpT_sea 6 ?_;intro K hK;go_big_quiet_op;go_big_quiet_on);(refine wpT_sea 7 ?_;intro K hK;go_big_quiet_op;go_big_quiet_on)
     refine wpT_done (by kernel_rfl) ?_
     simp only [List.drop_succ_cons,List.drop_zero]
     clear hne hS1 x0 x1 x2 x3 x4 x5 x6 x7 y0 y1 y2 y3 y4 y5 y6 y7
     go_wp2_with fail
     refine (routeWrong_any d d' r q _ (HRL.out.below ((Below.refl _ _).drew)) (HQL.out.below ((Below.refl _ _).drew))).mono ?_
     rintro e w1 ⟨rfl,hb1⟩
     have HB1:Hid (Below wr.heap.size wr w1):=(Below.refl _ _).drew.trans hb1
     clear hb1
     go_wp2_with fail
     go_meet
     exact ⟨rfl,HB1.out⟩
    case rest =>
     obtain ⟨rfl,hb2⟩:=hcut
     have HB2:=hidP (HBr.out.trans (hb2.mono HBr.out.size))
     obtain ⟨v,hv⟩:∃ v,wrongF r q=v:=⟨_,rfl⟩
     rw [hv] at HST ⊢
     clear hv hb2
     by_cases hv0:v=0
     ·have g0:(v != 0)=false:=by simpa using hv0
      have HK2:Hid (chkR (rs.drop (k+1)) (qs.drop (k+1)) (k+1)=O):=by have h:=HST.out;rw [if_pos hv0] at h;exact h.symm
      clear hv0
      go_wp2_with fail
      go_roundw
      case rel=>exact ⟨k+1,by omega,⟨by omega,by omega⟩,by go_num,HK2,HB2.out⟩
      case measure=>simp [intOf];omega
     ·have g0:(v != 0)=true:=by simpa using hv0
      have HE:Hid (chkV O=errV v k 0):=by
       unfold Hid
       rw [HST.out,if_neg hv0]
       rfl
      clear hv0
      go_wp2_with fail
      refine (partsAt_any v k 0 _).mono ?_
      rintro e w1 ⟨rfl,rfl⟩
      go_wp2_with fail
      go_ret
      exact ⟨by rw [HE.out];rfl,HB2.out⟩
   ·have hki:¬ (k:Int)<z:=by omega
    have HE:Hid (chkV O = .nilIface):=by
     unfold Hid
     rw [← HK.out,chkR_end (by rw [HN.out];have:=HZ.out;omega) (by rw [HM.out];have:=HZ.out;omega)]
     rfl
    go_wp2_with fail
    go_ret
    exact ⟨by rw [HE.out];rfl,hbr⟩
def rowT:List Int→List Int→Nat→Option Nat
 | x::xs,y::ys,k=>if x=y then rowT xs ys (k+1) else some k
 | _,_,_=>none
def tabT:List (List Int)→List (List Int)→Nat→Option (Nat × Nat)
 | a::ta,b::tb,i=>if a.length=b.length then (match rowT a b 0 with
  | none=>tabT ta tb (i+1)
  | some k=>some (i,k)) else some (i,a.length)
 | _,_,_=>none
def chkT (tt uu:List (List Int)):Option (Nat × Nat):=if tt.length=uu.length then tabT tt uu 0 else some (tt.length,0)
def tabV (o:Option (Nat × Nat)):Value:=match o with
 | none=>.nilIface
 | some (i,k)=>errV 7 i k
theorem rowT_on {xs ys:List Int}{k:Nat}(h1:k<xs.length)(h2:k<ys.length):rowT (xs.drop k) (ys.drop k) k=if xs[k]=ys[k] then rowT (xs.drop (k+1)) (ys.drop (k+1)) (k+1) else some k:=by
 rw [List.drop_eq_getElem_cons h1,List.drop_eq_getElem_cons h2]
 rfl
theorem rowT_end {xs ys:List Int}{k:Nat}(h1:xs.length≤k):rowT (xs.drop k) (ys.drop k) k=none:=by
 rw [List.drop_eq_nil_of_le h1]
 unfold rowT
 rfl
theorem tabT_on {tt uu:List (List Int)}{i:Nat}(h1:i<tt.length)(h2:i<uu.length):tabT (tt.drop i) (uu.drop i) i=if tt[i].length=uu[i].length then (match rowT tt[i] uu[i] 0 with
  | none=>tabT (tt.drop (i+1)) (uu.drop (i+1)) (i+1)
  | some k=>some (i,k)) else some (i,tt[i].length):=by
 rw [List.drop_eq_getElem_cons h1,List.drop_eq_getElem_cons h2]
 rfl
theorem tabT_end {tt uu:List (List Int)}{i:Nat}(h1:tt.length≤i):tabT (tt.drop i) (uu.drop i) i=none:=by
 rw [List.drop_eq_nil_of_le h1]
 unfold tabT
 rfl
theorem checkTable_any (a a':Option Addr)(c c':Nat)(tt uu:List (List Int))(w:World)(ht:Hid (TabAt w a tt))(hu:Hid (TabAt w a' uu)):
  Calls Tryz.prog 73 #[.slice a tt.length c,.slice a' uu.length c'] w fun e w'=>e = .returned (tabV (chkT tt uu))∧Below w.heap.size w w':=by
 have hl1:=ht.out.1
 have hl2:=hu.out.1
 unfold maxLen at hl1 hl2
 obtain ⟨n,hn⟩:∃ n,tt.length=n:=⟨_,rfl⟩
 obtain ⟨m,hm⟩:∃ m,uu.length=m:=⟨_,rfl⟩
 obtain ⟨O,hO⟩:∃ O,chkT tt uu=O:=⟨_,rfl⟩
 rw [hO]
 rw [hn] at hl1 ⊢
 rw [hm] at hl2 ⊢
 have HN:=hidP hn
 have HM:=hidP hm
 have HO:=hidP hO
 clear hn hm hO
 go_enter Tryz.func73,Tryz.ntmps73
 by_cases hnm:n=m
 rotate_left
 ·have hb:((n:Int) != (m:Int))=true:=by rw [bne_iff_ne];omega
  have HE:Hid (tabV O=errV 7 n ((0:Nat):Int)):=by
   unfold Hid
   rw [← HO.out]
   unfold chkT
   rw [if_neg (by rw [HN.out,HM.out];exact hnm),HN.out]
   rfl
  clear hnm
  go_wp2_with fail
  refine (partsAt_any 7 n 0 _).mono ?_
  rintro e w1 ⟨rfl,rfl⟩
  go_wp2_with fail
  go_ret
  exact ⟨by rw [HE.out];rfl,Below.refl _ _⟩
 subst hnm
 have HO1:Hid (tabT (tt.drop 0) (uu.drop 0) 0=O):=by
  have h:=HO.out
  unfold chkT at h
  rw [if_pos (by rw [HN.out,HM.out])] at h
  exact h
 have hbb:((n:Int) != (n:Int))=false:=by simp
 clear HO
 go_wp2_with fail
 clear hbb
 go_loopw [19] (fun c wr => ∃ i:Nat,i≤n∧c = .int .i64 i∧Hid (tabT (tt.drop i) (uu.drop i) i=O)∧Below w.heap.size w wr) (fun c _=>n-(intOf c).toNat)
 case atStart=>exact ⟨0,Nat.zero_le _,rfl,HO1,Below.refl _ _⟩
 case round =>
  obtain ⟨i,hi,rfl,HI,hbr⟩:=hrel
  by_cases hi':i<n
  ·have hii:(i:Int)<n:=by omega
   have hit:i<tt.length:=by rw [HN.out];exact hi'
   have hiu:i<uu.length:=by rw [HM.out];exact hi'
   obtain ⟨b,o,ha,hc⟩:=(ht.out.below hbr).2.resolve_left (nz hit)
   obtain ⟨b',o',ha',hc'⟩:=(hu.out.below hbr).2.resolve_left (nz hiu)
   subst ha ha'
   obtain ⟨ra,rc,r0,rn⟩:=hc i hit
   obtain ⟨sa,sc,s0,sn⟩:=hc' i hiu
   have HST:=hidP (HI.out.symm.trans (tabT_on hit hiu))
   generalize tt[i]=X at r0 rn HST
   generalize uu[i]=Y at s0 sn HST
   obtain ⟨p,hp⟩:∃ p,X.length=p:=⟨_,rfl⟩
   obtain ⟨q,hq⟩:∃ q,Y.length=q:=⟨_,rfl⟩
   rw [hp] at r0 HST
   rw [hq] at s0 HST
   have hlp:=rn.1
   unfold maxLen at hlp
   rw [hp] at hlp
   have HP:=hidP hp
   have HQ:=hidP hq
   have HRN:=hidP rn
   have HSN:=hidP sn
   have HBr:=hidP hbr
   have HS0:=hidP s0
   clear hc hc' rn sn HI hp hq hit hiu hbr
   by_cases hpq:p=q
   rotate_left
   ·have f0:((p:Int) != (q:Int))=true:=by rw [bne_iff_ne];omega
    have HE:Hid (tabV O=errV 7 i p):=by unfold Hid;rw [HST.out,if_neg hpq];rfl
    clear hpq
    go_wp2_with fail
    refine (partsAt_any 7 i p _).mono ?_
    rintro e w1 ⟨rfl,rfl⟩
    go_wp2_with fail
    go_ret
    exact ⟨by rw [HE.out];rfl,HBr.out⟩
   subst hpq
   have HST2:Hid (O=(match rowT (X.drop 0) (Y.drop 0) 0 with
    | none=>tabT (tt.drop (i+1)) (uu.drop (i+1)) (i+1)
    | some k=>some (i,k))):=by have h:=HST.out;rw [if_pos rfl] at h;exact h
   have f0:((p:Int) != (p:Int))=false:=by simp
   clear HST
   go_wp2_with fail
   clear f0 r0 s0
   go_loopw [38] (fun c wq => ∃ k:Nat,k≤p∧c = .int .i64 k∧Hid (rowT (X.drop k) (Y.drop k) k=rowT (X.drop 0) (Y.drop 0) 0)∧wq=wr) (fun c _=>p-(intOf c).toNat)
   case atStart=>exact ⟨0,Nat.zero_le _,rfl,rfl,rfl⟩
   case round =>
    obtain ⟨k,hk,rfl,HK,hwq⟩:=hrel
    subst hwq
    by_cases hk':k<p
    ·have hki:(k:Int)<p:=by omega
     have hkx:k<X.length:=by rw [HP.out];exact hk'
     have hky:k<Y.length:=by rw [HQ.out];exact hk'
     obtain ⟨rb,ro,hra,hrc⟩:=HRN.out.2.resolve_left (nz hkx)
     obtain ⟨sb,so,hsa,hsc⟩:=HSN.out.2.resolve_left (nz hky)
     subst hra hsa
     have x0:=hrc k hkx
     have y0:=hsc k hky
     have HST3:=hidP (HK.out.symm.trans (rowT_on hkx hky))
     generalize X[k]=xv at x0 HST3
     generalize Y[k]=yv at y0 HST3
     have s0:=HS0.out
     clear hrc hsc HK hkx hky
     by_cases hxy:xv=yv
     ·have f0:(xv != yv)=false:=by simpa using hxy
      have HK2:Hid (rowT (X.drop (k+1)) (Y.drop (k+1)) (k+1)=rowT (X.drop 0) (Y.drop 0) 0):=by have h:=HST3.out;rw [if_pos hxy] at h;exact h.symm
      clear hxy
      go_wp2_with fail
      go_roundw
      case rel=>exact ⟨k+1,by omega,by go_num,HK2,by first | rfl | trivial⟩
      case measure=>simp [intOf];omega
     ·have f0:(xv != yv)=true:=by simpa using hxy
      have HE:Hid (tabV O=errV 7 i k):=by
       unfold Hid
       rw [HST2.out,HST3.out,if_neg hxy]
       rfl
      clear hxy
      go_wp2_with fail
      refine (partsAt_any 7 i k _).mono ?_
      rintro e w1 ⟨rfl,rfl⟩
      go_wp2_with fail
      go_ret
      exact ⟨by rw [HE.out];rfl,HBr.out⟩
    ·have hki:¬ (k:Int)<p:=by omega
     have HI2:Hid (tabT (tt.drop (i+1)) (uu.drop (i+1)) (i+1)=O):=by
      unfold Hid
      rw [HST2.out,← HK.out,rowT_end (by rw [HP.out];omega)]
     go_wp2_with fail
     go_roundw
     case rel=>exact ⟨i+1,by omega,by go_num,HI2,HBr.out⟩
     case measure=>simp [intOf];omega
  ·have hii:¬ (i:Int)<n:=by omega
   have HE:Hid (tabV O = .nilIface):=by
    unfold Hid
    rw [← HI.out,tabT_end (by rw [HN.out];omega)]
    rfl
   go_wp2_with fail
   go_ret
   exact ⟨by rw [HE.out];rfl,hbr⟩
theorem eqL_eq {α:Type}{xs ys:List α}(h:eqL xs ys=true):xs=ys:=by
 simpa [eqL] using h
theorem wrongF_zero {r q:MRoute}(h:wrongF r q=0):r=q:=by
 unfold wrongF at h
 by_cases h1:r.start=q.start∧r.stop=q.stop∧eqL r.steps q.steps=true
 ·rw [if_pos h1] at h
  by_cases h2:eqL r.lies q.lies=true∧eqL r.crosses q.crosses=true
  ·rw [if_pos h2] at h
   by_cases h3:eqL r.parts q.parts=true∧eqL r.over q.over=true
   ·rw [if_pos h3] at h
    by_cases h4:eqL r.flanks q.flanks=true
    ·obtain ⟨a0,a1,a2⟩:=h1
     obtain ⟨a3,a4⟩:=h2
     obtain ⟨a5,a6⟩:=h3
     replace a2:=eqL_eq a2
     replace a3:=eqL_eq a3
     replace a4:=eqL_eq a4
     replace a5:=eqL_eq a5
     replace a6:=eqL_eq a6
     have a7:=eqL_eq h4
     cases r
     cases q
     simp only at a0 a1 a2 a3 a4 a5 a6 a7
     subst a0 a1 a2 a3 a4 a5 a6 a7
     rfl
    ·rw [if_neg h4] at h
     omega
   ·rw [if_neg h3] at h
    omega
  ·rw [if_neg h2] at h
   omega
 ·rw [if_neg h1] at h
  omega
theorem chkR_none:∀ (rs qs:List MRoute)(i:Nat),chkR rs qs i=none→rs=qs
 | [],[],_,_=>rfl
 | [],_::_,_,h=>by simp [chkR] at h
 | _::_,[],_,h=>by simp [chkR] at h
 | r::rs,q::qs,i,h=>by
  unfold chkR at h
  by_cases h0:wrongF r q=0
  ·rw [if_pos h0] at h
   rw [wrongF_zero h0,chkR_none rs qs (i+1) h]
  ·rw [if_neg h0] at h
   cases h
def allF (ps:List MPiece)(js:List MJoint)(ss:List MPiece)(over:Int)(rs:List MRoute)(tt:List (List Int))(D : Prop → Bool := fun p => @decide p (Classical.propDecidable p)) : Option (Int × Option (Int × Int)) :=
 if sigF ps js ss=(0,0)∧0≤over∧over≤100000 then
  match chkR rs (routesF ps js ss over) 0 D with
  | some (c,i)=>some (c,some ((i:Int),0))
  | none=>(match chkT tt (tableF rs) with
   | some (i,k)=>some (7,some ((i:Int),(k:Int)))
   | none=>none)
 else some (1,none)
def errsV:Option (Int × Option (Int × Int))→Value
 | none=>.nilIface
 | some (c,none)=>.iface 91 (.agg #[.int .i64 c,.nilIface])
 | some (c,some (a,b))=>errV c a b
def wrongV:Option (Int × Option (Int × Int))→Value
 | none=>.agg #[.int .i64 0,.int .i64 0,.int .i64 0]
 | some (c,none)=>.agg #[.int .i64 c,.int .i64 0,.int .i64 0]
 | some (c,some (a,b))=>.agg #[.int .i64 c,.int .i64 a,.int .i64 b]
theorem allF_no {ps:List MPiece}{js:List MJoint}{ss:List MPiece}{over:Int}{rs:List MRoute}{tt:List (List Int)}(h:¬ (sigF ps js ss=(0,0)∧0≤over∧over≤100000)):allF ps js ss over rs tt=some (1,none):=by
 unfold allF
 rw [if_neg h]
theorem allF_r {ps:List MPiece}{js:List MJoint}{ss:List MPiece}{over:Int}{rs:List MRoute}{tt:List (List Int)}(h:sigF ps js ss=(0,0)∧0≤over∧over≤100000){c:Int}{i:Nat}(hc:chkR rs (routesF ps js ss over) 0=some (c,i)):allF ps js ss over rs tt=some (c,some ((i:Int),0)):=by
 unfold allF
 rw [if_pos h,hc]
theorem allF_t {ps:List MPiece}{js:List MJoint}{ss:List MPiece}{over:Int}{rs:List MRoute}{tt:List (List Int)}(h:sigF ps js ss=(0,0)∧0≤over∧over≤100000)(hc:chkR rs (routesF ps js ss over) 0=none){i k:Nat}(ht:chkT tt (tableF rs)=some (i,k)):allF ps js ss over rs tt=some (7,some ((i:Int),(k:Int))):=by
 unfold allF
 rw [if_pos h,hc]
 dsimp only
 rw [ht]
theorem allF_ok {ps:List MPiece}{js:List MJoint}{ss:List MPiece}{over:Int}{rs:List MRoute}{tt:List (List Int)}(h:sigF ps js ss=(0,0)∧0≤over∧over≤100000)(hc:chkR rs (routesF ps js ss over) 0=none)(ht:chkT tt (tableF rs)=none):allF ps js ss over rs tt=none:=by
 unfold allF
 rw [if_pos h,hc]
 dsimp only
 rw [ht]
end Go.Proofs.YtmkdgnmmebldgabGreatDoor
