import Derived.Test.YtmkdgnmmebldgabGreatDoorPr2
import Derived.BigQuiet
import Derived.Deep.DeepCutAuto
import Derived.Test.YtmkdgnmmebldgabGreatDoorPr20
import Derived.Test.YtmkdgnmmebldgabGreatDoorPr7
import Derived.Test.YtmkdgnmmebldgabGreatDoorPr6
set_option maxRecDepth 100000
set_option maxHeartbeats 8000000
namespace Go.Proofs.YtmkdgnmmebldgabGreatDoor
open Go.RowKit Go.Deep
def eqL {α : Type} (xs ys : List α) (D : Prop → Bool := fun p => @decide p (Classical.propDecidable p)) : Bool := D (xs = ys)
theorem eqL_t {α:Type}{xs ys:List α}(h:xs=ys):eqL xs ys=true:=by unfold eqL;simp [h]
theorem eqL_f {α:Type}{xs ys:List α}(h:¬ xs=ys):eqL xs ys=false:=by unfold eqL;simp [h]
theorem eqL_len {α:Type}{xs ys:List α}(h:¬ xs.length=ys.length):eqL xs ys=false:=eqL_f (fun e=>h (by rw [e]))
theorem eqL_at {α:Type}{xs ys:List α}{k:Nat}(h1:k<xs.length)(h2:k<ys.length)(h:xs[k]≠ys[k]):eqL xs ys=false:=eqL_f (fun e=>by subst e;exact h rfl)
theorem eqSteps_any (a a':Option Addr)(c c':Nat)(xs ys:List MEnd)(w:World)(hx:Hid (EndsAt w a xs))(hy:Hid (EndsAt w a' ys)):
  Calls Tryz.prog 134 #[.slice a xs.length c,.slice a' ys.length c'] w fun e w'=>e = .returned (.bool (eqL xs ys))∧Below w.heap.size w w':=by
 have hl1:=hx.out.1
 have hl2:=hy.out.1
 unfold maxLen at hl1 hl2
 obtain ⟨n,hn⟩:∃ n,xs.length=n:=⟨_,rfl⟩
 obtain ⟨m,hm⟩:∃ m,ys.length=m:=⟨_,rfl⟩
 rw [hn] at hl1 ⊢
 rw [hm] at hl2 ⊢
 have HN:=hidP hn
 have HM:=hidP hm
 clear hn hm
 go_enter Tryz.func134,Tryz.ntmps134
 by_cases hnm:n=m
 rotate_left
 ·have hb:((n:Int) != (m:Int))=true:=by rw [bne_iff_ne];omega
  have HF:Hid (eqL xs ys=false):=eqL_len (by rw [HN.out,HM.out];exact hnm)
  clear hnm
  go_wp2_with fail
  go_ret
  exact ⟨by rw [HF.out];rfl,Below.refl _ _⟩
 subst hnm
 go_wp2_with fail
 go_loopw [13] (fun i wr => ∃ k:Nat,k≤n∧i = .int .i64 k∧Hid (xs.take k=ys.take k)∧Below w.heap.size w wr) (fun i _=>n-(intOf i).toNat)
 case atStart=>exact ⟨0,Nat.zero_le _,rfl,by unfold Hid;rw [List.take_zero,List.take_zero],Below.refl _ _⟩
 case round =>
  obtain ⟨k,hk,rfl,HT,hbr⟩:=hrel
  by_cases hk':k<n
  ·have hki:(k:Int)<n:=by omega
   have hkx:k<xs.length:=by rw [HN.out];exact hk'
   have hky:k<ys.length:=by rw [HM.out];exact hk'
   obtain ⟨b,o,ha,hc⟩:=(hx.out.below hbr).2.resolve_left (nz hkx)
   obtain ⟨b',o',ha',hc'⟩:=(hy.out.below hbr).2.resolve_left (nz hky)
   subst ha ha'
   have HTS:Hid (xs[k]=ys[k]→xs.take (k+1)=ys.take (k+1)):=fun e=>by rw [List.take_succ_eq_append_getElem hkx,List.take_succ_eq_append_getElem hky,HT.out,e]
   have HNE:Hid (xs[k]≠ys[k]→eqL xs ys=false):=eqL_at hkx hky
   have cx:=hc k hkx
   have cy:=hc' k hky
   generalize xs[k]=x at cx HTS HNE
   generalize ys[k]=y at cy HTS HNE
   obtain ⟨x0,x1⟩:=x
   obtain ⟨y0,y1⟩:=y
   obtain ⟨cx0,cx1⟩:=cx
   obtain ⟨cy0,cy1⟩:=cy
   dsimp only at cx0 cx1 cy0 cy1
   have HBr:=hidP hbr
   clear hc hc' hbr HT hkx hky
   go_upto_region 6 with fail
   by_cases h0:x0=y0
   rotate_left
   ·have HF:=hidP (HNE.out (fun e=>h0 (by injection e)))
    have f0:(x0==y0)=false:=by simpa using h0
    have f1:(x0 != y0)=true:=by simpa using h0
    clear h0
    go_quiet (fail)
    go_wp2_with fail
    go_ret
    exact ⟨by rw [HF.out];rfl,bdrewN HBr.out _⟩
   subst h0
   by_cases h1:x1=y1
   rotate_left
   ·have HF:=hidP (HNE.out (fun e=>h1 (by injection e)))
    have f0:(x1==y1)=false:=by simpa using h1
    have f1:(x1 != y1)=true:=by simpa using h1
    have b0:(x0==x0)=true:=by simp
    clear h1
    go_quiet (fail)
    go_wp2_with fail
    go_ret
    exact ⟨by rw [HF.out];rfl,bdrewN HBr.out _⟩
   subst h1
   have v:Hid (xs.take (k+1)=ys.take (k+1)):=HTS.out rfl
   have b0:(x0 != x0)=false:=by simp
   have b1:(x1 != x1)=false:=by simp
   go_quiet (fail)
   go_wp2_with fail
   go_roundw
   case rel=>exact ⟨k+1,by omega,by go_num,v,bdrewN HBr.out _⟩
   case measure=>simp [intOf];omega
  ·have hki:¬ (k:Int)<n:=by omega
   have HE:Hid (eqL xs ys=true):=eqL_t (by have h:=HT.out;rw [List.take_of_length_le (by rw [HN.out];omega),List.take_of_length_le (by rw [HM.out];omega)] at h;exact h)
   go_wp2_with fail
   go_ret
   exact ⟨by rw [HE.out];rfl,hbr⟩
theorem eqLies_any (a a':Option Addr)(c c':Nat)(xs ys:List MEnd)(w:World)(hx:Hid (EndsAt w a xs))(hy:Hid (EndsAt w a' ys)):
  Calls Tryz.prog 135 #[.slice a xs.length c,.slice a' ys.length c'] w fun e w'=>e = .returned (.bool (eqL xs ys))∧Below w.heap.size w w':=by
 have hl1:=hx.out.1
 have hl2:=hy.out.1
 unfold maxLen at hl1 hl2
 obtain ⟨n,hn⟩:∃ n,xs.length=n:=⟨_,rfl⟩
 obtain ⟨m,hm⟩:∃ m,ys.length=m:=⟨_,rfl⟩
 rw [hn] at hl1 ⊢
 rw [hm] at hl2 ⊢
 have HN:=hidP hn
 have HM:=hidP hm
 clear hn hm
 go_enter Tryz.func135,Tryz.ntmps135
 by_cases hnm:n=m
 rotate_left
 ·have hb:((n:Int) != (m:Int))=true:=by rw [bne_iff_ne];omega
  have HF:Hid (eqL xs ys=false):=eqL_len (by rw [HN.out,HM.out];exact hnm)
  clear hnm
  go_wp2_with fail
  go_ret
  exact ⟨by rw [HF.out];rfl,Below.refl _ _⟩
 subst hnm
 go_wp2_with fail
 go_loopw [13] (fun i wr => ∃ k:Nat,k≤n∧i = .int .i64 k∧Hid (xs.take k=ys.take k)∧Below w.heap.size w wr) (fun i _=>n-(intOf i).toNat)
 case atStart=>exact ⟨0,Nat.zero_le _,rfl,by unfold Hid;rw [List.take_zero,List.take_zero],Below.refl _ _⟩
 case round =>
  obtain ⟨k,hk,rfl,HT,hbr⟩:=hrel
  by_cases hk':k<n
  ·have hki:(k:Int)<n:=by omega
   have hkx:k<xs.length:=by rw [HN.out];exact hk'
   have hky:k<ys.length:=by rw [HM.out];exact hk'
   obtain ⟨b,o,ha,hc⟩:=(hx.out.below hbr).2.resolve_left (nz hkx)
   obtain ⟨b',o',ha',hc'⟩:=(hy.out.below hbr).2.resolve_left (nz hky)
   subst ha ha'
   have HTS:Hid (xs[k]=ys[k]→xs.take (k+1)=ys.take (k+1)):=fun e=>by rw [List.take_succ_eq_append_getElem hkx,List.take_succ_eq_append_getElem hky,HT.out,e]
   have HNE:Hid (xs[k]≠ys[k]→eqL xs ys=false):=eqL_at hkx hky
   have cx:=hc k hkx
   have cy:=hc' k hky
   generalize xs[k]=x at cx HTS HNE
   generalize ys[k]=y at cy HTS HNE
   obtain ⟨x0,x1⟩:=x
   obtain ⟨y0,y1⟩:=y
   obtain ⟨cx0,cx1⟩:=cx
   obtain ⟨cy0,cy1⟩:=cy
   dsimp only at cx0 cx1 cy0 cy1
   have HBr:=hidP hbr
   clear hc hc' hbr HT hkx hky
   go_upto_region 6 with fail
   by_cases h0:x0=y0
   rotate_left
   ·have HF:=hidP (HNE.out (fun e=>h0 (by injection e)))
    have f0:(x0==y0)=false:=by simpa using h0
    have f1:(x0 != y0)=true:=by simpa using h0
    clear h0
    go_quiet (fail)
    go_wp2_with fail
    go_ret
    exact ⟨by rw [HF.out];rfl,bdrewN HBr.out _⟩
   subst h0
   by_cases h1:x1=y1
   rotate_left
   ·have HF:=hidP (HNE.out (fun e=>h1 (by injection e)))
    have f0:(x1==y1)=false:=by simpa using h1
    have f1:(x1 != y1)=true:=by simpa using h1
    have b0:(x0==x0)=true:=by simp
    clear h1
    go_quiet (fail)
    go_wp2_with fail
    go_ret
    exact ⟨by rw [HF.out];rfl,bdrewN HBr.out _⟩
   subst h1
   have v:Hid (xs.take (k+1)=ys.take (k+1)):=HTS.out rfl
   have b0:(x0 != x0)=false:=by simp
   have b1:(x1 != x1)=false:=by simp
   go_quiet (fail)
   go_wp2_with fail
   go_roundw
   case rel=>exact ⟨k+1,by omega,by go_num,v,bdrewN HBr.out _⟩
   case measure=>simp [intOf];omega
  ·have hki:¬ (k:Int)<n:=by omega
   have HE:Hid (eqL xs ys=true):=eqL_t (by have h:=HT.out;rw [List.take_of_length_le (by rw [HN.out];omega),List.take_of_length_le (by rw [HM.out];omega)] at h;exact h)
   go_wp2_with fail
   go_ret
   exact ⟨by rw [HE.out];rfl,hbr⟩
theorem eqNums_any (a a':Option Addr)(c c':Nat)(xs ys:List Int)(w:World)(hx:Hid (NumsAt w a xs))(hy:Hid (NumsAt w a' ys)):
  Calls Tryz.prog 136 #[.slice a xs.length c,.slice a' ys.length c'] w fun e w'=>e = .returned (.bool (eqL xs ys))∧Below w.heap.size w w':=by
 have hl1:=hx.out.1
 have hl2:=hy.out.1
 unfold maxLen at hl1 hl2
 obtain ⟨n,hn⟩:∃ n,xs.length=n:=⟨_,rfl⟩
 obtain ⟨m,hm⟩:∃ m,ys.length=m:=⟨_,rfl⟩
 rw [hn] at hl1 ⊢
 rw [hm] at hl2 ⊢
 have HN:=hidP hn
 have HM:=hidP hm
 clear hn hm
 go_enter Tryz.func136,Tryz.ntmps136
 by_cases hnm:n=m
 rotate_left
 ·have hb:((n:Int) != (m:Int))=true:=by rw [bne_iff_ne];omega
  have HF:Hid (eqL xs ys=false):=eqL_len (by rw [HN.out,HM.out];exact hnm)
  clear hnm
  go_wp2_with fail
  go_ret
  exact ⟨by rw [HF.out];rfl,Below.refl _ _⟩
 subst hnm
 go_wp2_with fail
 go_loopw [13] (fun i wr => ∃ k:Nat,k≤n∧i = .int .i64 k∧Hid (xs.take k=ys.take k)∧Below w.heap.size w wr) (fun i _=>n-(intOf i).toNat)
 case atStart=>exact ⟨0,Nat.zero_le _,rfl,by unfold Hid;rw [List.take_zero,List.take_zero],Below.refl _ _⟩
 case round =>
  obtain ⟨k,hk,rfl,HT,hbr⟩:=hrel
  by_cases hk':k<n
  ·have hki:(k:Int)<n:=by omega
   have hkx:k<xs.length:=by rw [HN.out];exact hk'
   have hky:k<ys.length:=by rw [HM.out];exact hk'
   obtain ⟨b,o,ha,hc⟩:=(hx.out.below hbr).2.resolve_left (nz hkx)
   obtain ⟨b',o',ha',hc'⟩:=(hy.out.below hbr).2.resolve_left (nz hky)
   subst ha ha'
   have HTS:Hid (xs[k]=ys[k]→xs.take (k+1)=ys.take (k+1)):=fun e=>by rw [List.take_succ_eq_append_getElem hkx,List.take_succ_eq_append_getElem hky,HT.out,e]
   have HNE:Hid (xs[k]≠ys[k]→eqL xs ys=false):=eqL_at hkx hky
   have cx:=hc k hkx
   have cy:=hc' k hky
   generalize xs[k]=x at cx HTS HNE
   generalize ys[k]=y at cy HTS HNE
   have HBr:=hidP hbr
   clear hc hc' hbr HT hkx hky
   go_upto_region 6 with fail
   by_cases h0:x=y
   rotate_left
   ·have HF:=hidP (HNE.out (fun e=>h0 (by exact e)))
    have f0:(x==y)=false:=by simpa using h0
    have f1:(x != y)=true:=by simpa using h0
    clear h0
    go_quiet (fail)
    go_wp2_with fail
    go_ret
    exact ⟨by rw [HF.out];rfl,bdrewN HBr.out _⟩
   subst h0
   have v:Hid (xs.take (k+1)=ys.take (k+1)):=HTS.out rfl
   have b0:(x != x)=false:=by simp
   go_quiet (fail)
   go_wp2_with fail
   go_roundw
   case rel=>exact ⟨k+1,by omega,by go_num,v,bdrewN HBr.out _⟩
   case measure=>simp [intOf];omega
  ·have hki:¬ (k:Int)<n:=by omega
   have HE:Hid (eqL xs ys=true):=eqL_t (by have h:=HT.out;rw [List.take_of_length_le (by rw [HN.out];omega),List.take_of_length_le (by rw [HM.out];omega)] at h;exact h)
   go_wp2_with fail
   go_ret
   exact ⟨by rw [HE.out];rfl,hbr⟩
theorem eqParts_any (a a':Option Addr)(c c':Nat)(xs ys:List MPart)(w:World)(hx:Hid (PartsAt w a xs))(hy:Hid (PartsAt w a' ys)):
  Calls Tryz.prog 137 #[.slice a xs.length c,.slice a' ys.length c'] w fun e w'=>e = .returned (.bool (eqL xs ys))∧Below w.heap.size w w':=by
 have hl1:=hx.out.1
 have hl2:=hy.out.1
 unfold maxLen at hl1 hl2
 obtain ⟨n,hn⟩:∃ n,xs.length=n:=⟨_,rfl⟩
 obtain ⟨m,hm⟩:∃ m,ys.length=m:=⟨_,rfl⟩
 rw [hn] at hl1 ⊢
 rw [hm] at hl2 ⊢
 have HN:=hidP hn
 have HM:=hidP hm
 clear hn hm
 go_enter Tryz.func137,Tryz.ntmps137
 by_cases hnm:n=m
 rotate_left
 ·have hb:((n:Int) != (m:Int))=true:=by rw [bne_iff_ne];omega
  have HF:Hid (eqL xs ys=false):=eqL_len (by rw [HN.out,HM.out];exact hnm)
  clear hnm
  go_wp2_with fail
  go_ret
  exact ⟨by rw [HF.out];rfl,Below.refl _ _⟩
 subst hnm
 go_wp2_with fail
 go_loopw [13] (fun i wr => ∃ k:Nat,k≤n∧i = .int .i64 k∧Hid (xs.take k=ys.take k)∧Below w.heap.size w wr) (fun i _=>n-(intOf i).toNat)
 case atStart=>exact ⟨0,Nat.zero_le _,rfl,by unfold Hid;rw [List.take_zero,List.take_zero],Below.refl _ _⟩
 case round =>
  obtain ⟨k,hk,rfl,HT,hbr⟩:=hrel
  by_cases hk':k<n
  ·have hki:(k:Int)<n:=by omega
   have hkx:k<xs.length:=by rw [HN.out];exact hk'
   have hky:k<ys.length:=by rw [HM.out];exact hk'
   obtain ⟨b,o,ha,hc⟩:=(hx.out.below hbr).2.resolve_left (nz hkx)
   obtain ⟨b',o',ha',hc'⟩:=(hy.out.below hbr).2.resolve_left (nz hky)
   subst ha ha'
   have HTS:Hid (xs[k]=ys[k]→xs.take (k+1)=ys.take (k+1)):=fun e=>by rw [List.take_succ_eq_append_getElem hkx,List.take_succ_eq_append_getElem hky,HT.out,e]
   have HNE:Hid (xs[k]≠ys[k]→eqL xs ys=false):=eqL_at hkx hky
   have cx:=hc k hkx
   have cy:=hc' k hky
   generalize xs[k]=x at cx HTS HNE
   generalize ys[k]=y at cy HTS HNE
   obtain ⟨x0,x1,x2⟩:=x
   obtain ⟨y0,y1,y2⟩:=y
   obtain ⟨cx0,cx1,cx2⟩:=cx
   obtain ⟨cy0,cy1,cy2⟩:=cy
   dsimp only at cx0 cx1 cx2 cy0 cy1 cy2
   have HBr:=hidP hbr
   clear hc hc' hbr HT hkx hky
   go_upto_region 6 with fail
   by_cases h0:x0=y0
   rotate_left
   ·have HF:=hidP (HNE.out (fun e=>h0 (by injection e)))
    have f0:(x0==y0)=false:=by simpa using h0
    have f1:(x0 != y0)=true:=by simpa using h0
    clear h0
    go_quiet (fail)
    go_wp2_with fail
    go_ret
    exact ⟨by rw [HF.out];rfl,bdrewN HBr.out _⟩
   subst h0
   by_cases h1:x1=y1
   rotate_left
   ·have HF:=hidP (HNE.out (fun e=>h1 (by injection e)))
    have f0:(x1==y1)=false:=by simpa using h1
    have f1:(x1 != y1)=true:=by simpa using h1
    have b0:(x0==x0)=true:=by simp
    clear h1
    go_quiet (fail)
    go_wp2_with fail
    go_ret
    exact ⟨by rw [HF.out];rfl,bdrewN HBr.out _⟩
   subst h1
   by_cases h2:x2=y2
   rotate_left
   ·have HF:=hidP (HNE.out (fun e=>h2 (by injection e)))
    have f0:(x2==y2)=false:=by simpa using h2
    have f1:(x2 != y2)=true:=by simpa using h2
    have b0:(x0==x0)=true:=by simp
    have b1:(x1==x1)=true:=by simp
    clear h2
    go_quiet (fail)
    go_wp2_with fail
    go_ret
    exact ⟨by rw [HF.out];rfl,bdrewN HBr.out _⟩
   subst h2
   have v:Hid (xs.take (k+1)=ys.take (k+1)):=HTS.out rfl
   have b0:(x0 != x0)=false:=by simp
   have b1:(x1 != x1)=false:=by simp
   have b2:(x2 != x2)=false:=by simp
   go_quiet (fail)
   go_wp2_with fail
   go_roundw
   case rel=>exact ⟨k+1,by omega,by go_num,v,bdrewN HBr.out _⟩
   case measure=>simp [intOf];omega
  ·have hki:¬ (k:Int)<n:=by omega
   have HE:Hid (eqL xs ys=true):=eqL_t (by have h:=HT.out;rw [List.take_of_length_le (by rw [HN.out];omega),List.take_of_length_le (by rw [HM.out];omega)] at h;exact h)
   go_wp2_with fail
   go_ret
   exact ⟨by rw [HE.out];rfl,hbr⟩
theorem eqFlanks_any (a a':Option Addr)(c c':Nat)(xs ys:List MFlank)(w:World)(hx:Hid (FlanksAt w a xs))(hy:Hid (FlanksAt w a' ys)):
  Calls Tryz.prog 138 #[.slice a xs.length c,.slice a' ys.length c'] w fun e w'=>e = .returned (.bool (eqL xs ys))∧Below w.heap.size w w':=by
 have hl1:=hx.out.1
 have hl2:=hy.out.1
 unfold maxLen at hl1 hl2
 obtain ⟨n,hn⟩:∃ n,xs.length=n:=⟨_,rfl⟩
 obtain ⟨m,hm⟩:∃ m,ys.length=m:=⟨_,rfl⟩
 rw [hn] at hl1 ⊢
 rw [hm] at hl2 ⊢
 have HN:=hidP hn
 have HM:=hidP hm
 clear hn hm
 go_enter Tryz.func138,Tryz.ntmps138
 by_cases hnm:n=m
 rotate_left
 ·have hb:((n:Int) != (m:Int))=true:=by rw [bne_iff_ne];omega
  have HF:Hid (eqL xs ys=false):=eqL_len (by rw [HN.out,HM.out];exact hnm)
  clear hnm
  go_wp2_with fail
  go_ret
  exact ⟨by rw [HF.out];rfl,Below.refl _ _⟩
 subst hnm
 go_wp2_with fail
 go_loopw [13] (fun i wr => ∃ k:Nat,k≤n∧i = .int .i64 k∧Hid (xs.take k=ys.take k)∧Below w.heap.size w wr) (fun i _=>n-(intOf i).toNat)
 case atStart=>exact ⟨0,Nat.zero_le _,rfl,by unfold Hid;rw [List.take_zero,List.take_zero],Below.refl _ _⟩
 case round =>
  obtain ⟨k,hk,rfl,HT,hbr⟩:=hrel
  by_cases hk':k<n
  ·have hki:(k:Int)<n:=by omega
   have hkx:k<xs.length:=by rw [HN.out];exact hk'
   have hky:k<ys.length:=by rw [HM.out];exact hk'
   obtain ⟨b,o,ha,hc⟩:=(hx.out.below hbr).2.resolve_left (nz hkx)
   obtain ⟨b',o',ha',hc'⟩:=(hy.out.below hbr).2.resolve_left (nz hky)
   subst ha ha'
   have HTS:Hid (xs[k]=ys[k]→xs.take (k+1)=ys.take (k+1)):=fun e=>by rw [List.take_succ_eq_append_getElem hkx,List.take_succ_eq_append_getElem hky,HT.out,e]
   have HNE:Hid (xs[k]≠ys[k]→eqL xs ys=false):=eqL_at hkx hky
   have cx:=hc k hkx
   have cy:=hc' k hky
   generalize xs[k]=x at cx HTS HNE
   generalize ys[k]=y at cy HTS HNE
   obtain ⟨x0,x1,x2,x3⟩:=x
   obtain ⟨y0,y1,y2,y3⟩:=y
   obtain ⟨cx0,cx1,cx2,cx3⟩:=cx
   obtain ⟨cy0,cy1,cy2,cy3⟩:=cy
   dsimp only at cx0 cx1 cx2 cx3 cy0 cy1 cy2 cy3
   have HBr:=hidP hbr
   clear hc hc' hbr HT hkx hky
   go_upto_region 6 with fail
   by_cases h0:x0=y0
   rotate_left
   ·have HF:=hidP (HNE.out (fun e=>h0 (by injection e)))
    have f0:(x0==y0)=false:=by simpa using h0
    have f1:(x0 != y0)=true:=by simpa using h0
    clear h0
    go_quiet (fail)
    go_wp2_with fail
    go_ret
    exact ⟨by rw [HF.out];rfl,bdrewN HBr.out _⟩
   subst h0
   by_cases h1:x1=y1
   rotate_left
   ·have HF:=hidP (HNE.out (fun e=>h1 (by injection e)))
    have f0:(x1==y1)=false:=by simpa using h1
    have f1:(x1 != y1)=true:=by simpa using h1
    have b0:(x0==x0)=true:=by simp
    clear h1
    go_quiet (fail)
    go_wp2_with fail
    go_ret
    exact ⟨by rw [HF.out];rfl,bdrewN HBr.out _⟩
   subst h1
   by_cases h2:x2=y2
   rotate_left
   ·have HF:=hidP (HNE.out (fun e=>h2 (by injection e)))
    have f0:(x2==y2)=false:=by simpa using h2
    have f1:(x2 != y2)=true:=by simpa using h2
    have b0:(x0==x0)=true:=by simp
    have b1:(x1==x1)=true:=by simp
    clear h2
    go_quiet (fail)
    go_wp2_with fail
    go_ret
    exact ⟨by rw [HF.out];rfl,bdrewN HBr.out _⟩
   subst h2
   by_cases h3:x3=y3
   rotate_left
   ·have HF:=hidP (HNE.out (fun e=>h3 (by injection e)))
    have f0:(x3==y3)=false:=by simpa using h3
    have f1:(x3 != y3)=true:=by simpa using h3
    have b0:(x0==x0)=true:=by simp
    have b1:(x1==x1)=true:=by simp
    have b2:(x2==x2)=true:=by simp
    clear h3
    go_quiet (fail)
    go_wp2_with fail
    go_ret
    exact ⟨by rw [HF.out];rfl,bdrewN HBr.out _⟩
   subst h3
   have v:Hid (xs.take (k+1)=ys.take (k+1)):=HTS.out rfl
   have b0:(x0 != x0)=false:=by simp
   have b1:(x1 != x1)=false:=by simp
   have b2:(x2 != x2)=false:=by simp
   have b3:(x3 != x3)=false:=by simp
   go_quiet (fail)
   go_wp2_with fail
   go_roundw
   case rel=>exact ⟨k+1,by omega,by go_num,v,bdrewN HBr.out _⟩
   case measure=>simp [intOf];omega
  ·have hki:¬ (k:Int)<n:=by omega
   have HE:Hid (eqL xs ys=true):=eqL_t (by have h:=HT.out;rw [List.take_of_length_le (by rw [HN.out];omega),List.take_of_length_le (by rw [HM.out];omega)] at h;exact h)
   go_wp2_with fail
   go_ret
   exact ⟨by rw [HE.out];rfl,hbr⟩
def wrongF (r q : MRoute) (D : Prop → Bool := fun p => @decide p (Classical.propDecidable p)) : Int :=
 if r.start=q.start∧r.stop=q.stop∧eqL r.steps q.steps D = true then
  if eqL r.lies q.lies D = true∧eqL r.crosses q.crosses D = true then
   if eqL r.parts q.parts D = true∧eqL r.over q.over D = true then
    if eqL r.flanks q.flanks D = true then 0 else 6
   else 5
  else 4
 else 3
theorem routeWrong_any (d d':RAddr)(r q:MRoute)(w:World)(hr:Hid (RListsAt w d r))(hq:Hid (RListsAt w d' q)):
  Calls Tryz.prog 111 #[routeV d r,routeV d' q] w fun e w'=>e = .returned (.int .i64 (wrongF r q))∧Below w.heap.size w w':=by
 unfold routeV
 go_enter Tryz.func111,Tryz.ntmps111
 have HW:Hid (wrongF r q=if r.start=q.start∧r.stop=q.stop∧eqL r.steps q.steps=true then
  if eqL r.lies q.lies=true∧eqL r.crosses q.crosses=true then
   if eqL r.parts q.parts=true∧eqL r.over q.over=true then
    if eqL r.flanks q.flanks=true then 0 else 6
   else 5
  else 4
 else 3):=rfl
 obtain ⟨v,hv⟩:∃ v,wrongF r q=v:=⟨_,rfl⟩
 rw [hv]
 rw [hv] at HW
 clear hv
 go_upto_region 1 with fail
 generalize hW:World.alloc (World.alloc w _) _=W
 have hbW:Below w.heap.size w W:=by rw [← hW];exact blo
 have HX:Hid (RouteCell W w.heap.size 0 d r):=by rw [← hW];exact ⟨by simp [go_sem],by simp [go_sem],by simp [go_sem],by simp [go_sem],by simp [go_sem],by simp [go_sem],by simp [go_sem],by simp [go_sem]⟩
 have HY:Hid (RouteCell W (w.heap.size+1) 0 d' q):=by rw [← hW];exact ⟨by simp [go_sem],by simp [go_sem],by simp [go_sem],by simp [go_sem],by simp [go_sem],by simp [go_sem],by simp [go_sem],by simp [go_sem]⟩
 have HBW:=hidP hbW
 have HR:=hidP (hr.out.below hbW)
 have HQ:=hidP (hq.out.below hbW)
 obtain ⟨X,hX⟩:∃ X,w.heap.size=X:=⟨_,rfl⟩
 obtain ⟨Y,hY⟩:∃ Y,X+1=Y:=⟨_,rfl⟩
 have HXw:Hid (w.heap.size=X):=hX
 rw [hX] at HX HY ⊢
 rw [hY] at HY ⊢
 clear hW hbW hX hY hr hq
 have x0:=HX.out.k0
 have x1:=HX.out.k1
 have x2:=HX.out.k2
 have y0:=HY.out.k0
 have y1:=HY.out.k1
 have y2:=HY.out.k2
 simp only [Nat.zero_add] at x0 x1 x2 y0 y1 y2
 by_cases h0:r.start=q.start
 rotate_left
 ·have f0:(r.start != q.start)=true:=by simpa using h0
  have HV:Hid (v=3):=by unfold Hid;rw [HW.out,if_neg (fun h=>h0 h.1)]
  clear h0
  go_wp2_with fail
  go_ret
  exact ⟨by rw [HV.out];rfl,HBW.out⟩
 have f0:(r.start != q.start)=false:=by simpa using h0
 have H0:=hidP h0
 clear h0
 by_cases h1:r.stop=q.stop
 rotate_left
 ·have f1:(r.stop != q.stop)=true:=by simpa using h1
  have HV:Hid (v=3):=by unfold Hid;rw [HW.out,if_neg (fun h=>h1 h.2.1)]
  clear h1
  go_wp2_with fail
  go_ret
  exact ⟨by rw [HV.out];rfl,HBW.out⟩
 have f1:(r.stop != q.stop)=false:=by simpa using h1
 have H1:=hidP h1
 clear h1
 go_wp2_with fail
 refine (eqSteps_any d.a0 d'.a0 d.c0 d'.c0 r.steps q.steps W HR.out.steps HQ.out.steps).mono ?_
 rintro e w1 ⟨rfl,hb1⟩
 have HB1:=hidP (HBW.out.trans (hb1.mono HBW.out.size))
 have HX1:=hidP (HX.out.below hb1)
 have HY1:=hidP (HY.out.below hb1)
 have HR1:=hidP (HR.out.below hb1)
 have HQ1:=hidP (HQ.out.below hb1)
 have x3:=HX1.out.k3
 have x4:=HX1.out.k4
 have y3:=HY1.out.k3
 have y4:=HY1.out.k4
 simp only [Nat.zero_add] at x3 x4 y3 y4
 clear hb1 x0 x1 x2 y0 y1 y2 f0 f1 HX HY HR HQ
 cases hs:eqL r.steps q.steps
 ·have HV:Hid (v=3):=by unfold Hid;rw [HW.out,if_neg (fun h=>by rw [hs] at h;simp at h)]
  go_wp2_with fail
  go_ret
  exact ⟨by rw [HV.out];rfl,HB1.out⟩
 have HS:=hidP hs
 clear hs
 go_wp2_with fail
 refine (eqLies_any d.a1 d'.a1 d.c1 d'.c1 r.lies q.lies w1 HR1.out.lies HQ1.out.lies).mono ?_
 rintro e w2 ⟨rfl,hb2⟩
 have HB2:=hidP (HB1.out.trans (hb2.mono HB1.out.size))
 have HX2:=hidP (HX1.out.below hb2)
 have HY2:=hidP (HY1.out.below hb2)
 have HR2:=hidP (HR1.out.below hb2)
 have HQ2:=hidP (HQ1.out.below hb2)
 replace x4:=cell_later hb2 x4
 replace y4:=cell_later hb2 y4
 clear hb2 x3 y3 HX1 HY1 HR1 HQ1
 cases hs:eqL r.lies q.lies
 ·have HV:Hid (v=4):=by unfold Hid;rw [HW.out,if_pos ⟨H0.out,H1.out,HS.out⟩,if_neg (fun h=>by rw [hs] at h;simp at h)]
  go_wp2_with fail
  go_ret
  exact ⟨by rw [HV.out];rfl,HB2.out⟩
 have HS2:=hidP hs
 clear hs
 go_wp2_with fail
 refine (eqNums_any d.a2 d'.a2 d.c2 d'.c2 r.crosses q.crosses w2 HR2.out.crosses HQ2.out.crosses).mono ?_
 rintro e w3 ⟨rfl,hb3⟩
 have HB3:=hidP (HB2.out.trans (hb3.mono HB2.out.size))
 have HX3:=hidP (HX2.out.below hb3)
 have HY3:=hidP (HY2.out.below hb3)
 have HR3:=hidP (HR2.out.below hb3)
 have HQ3:=hidP (HQ2.out.below hb3)
 have x5:=HX3.out.k5
 have x6:=HX3.out.k6
 have y5:=HY3.out.k5
 have y6:=HY3.out.k6
 simp only [Nat.zero_add] at x5 x6 y5 y6
 clear hb3 x4 y4 HX2 HY2 HR2 HQ2
 cases hs:eqL r.crosses q.crosses
 ·have HV:Hid (v=4):=by unfold Hid;rw [HW.out,if_pos ⟨H0.out,H1.out,HS.out⟩,if_neg (fun h=>by rw [hs] at h;simp at h)]
  go_wp2_with fail
  go_ret
  exact ⟨by rw [HV.out];rfl,HB3.out⟩
 have HS3:=hidP hs
 clear hs
 go_wp2_with fail
 refine (eqParts_any d.a3 d'.a3 d.c3 d'.c3 r.parts q.parts w3 HR3.out.parts HQ3.out.parts).mono ?_
 rintro e w4 ⟨rfl,hb4⟩
 have HB4:=hidP (HB3.out.trans (hb4.mono HB3.out.size))
 have HX4:=hidP (HX3.out.below hb4)
 have HY4:=hidP (HY3.out.below hb4)
 have HR4:=hidP (HR3.out.below hb4)
 have HQ4:=hidP (HQ3.out.below hb4)
 replace x6:=cell_later hb4 x6
 replace y6:=cell_later hb4 y6
 clear hb4 x5 y5 HX3 HY3 HR3 HQ3
 cases hs:eqL r.parts q.parts
 ·have HV:Hid (v=5):=by unfold Hid;rw [HW.out,if_pos ⟨H0.out,H1.out,HS.out⟩,if_pos ⟨HS2.out,HS3.out⟩,if_neg (fun h=>by rw [hs] at h;simp at h)]
  go_wp2_with fail
  go_ret
  exact ⟨by rw [HV.out];rfl,HB4.out⟩
 have HS4:=hidP hs
 clear hs
 go_wp2_with fail
 refine (eqParts_any d.a4 d'.a4 d.c4 d'.c4 r.over q.over w4 HR4.out.over HQ4.out.over).mono ?_
 rintro e w5 ⟨rfl,hb5⟩
 have HB5:=hidP (HB4.out.trans (hb5.mono HB4.out.size))
 have HX5:=hidP (HX4.out.below hb5)
 have HY5:=hidP (HY4.out.below hb5)
 have HR5:=hidP (HR4.out.below hb5)
 have HQ5:=hidP (HQ4.out.below hb5)
 have x7:=HX5.out.k7
 have y7:=HY5.out.k7
 simp only [Nat.zero_add] at x7 y7
 clear hb5 x6 y6 HX4 HY4 HR4 HQ4
 cases hs:eqL r.over q.over
 ·have HV:Hid (v=5):=by unfold Hid;rw [HW.out,if_pos ⟨H0.out,H1.out,HS.out⟩,if_pos ⟨HS2.out,HS3.out⟩,if_neg (fun h=>by rw [hs] at h;simp at h)]
  go_wp2_with fail
  go_ret
  exact ⟨by rw [HV.out];rfl,HB5.out⟩
 have HS5:=hidP hs
 clear hs
 go_wp2_with fail
 refine (eqFlanks_any d.a5 d'.a5 d.c5 d'.c5 r.flanks q.flanks w5 HR5.out.flanks HQ5.out.flanks).mono ?_
 rintro e w6 ⟨rfl,hb6⟩
 have HB6:=hidP (HB5.out.trans (hb6.mono HB5.out.size))
 clear hb6 x7 y7 HX5 HY5 HR5 HQ5
 cases hs:eqL r.flanks q.flanks
 ·have HV:Hid (v=6):=by unfold Hid;rw [HW.out,if_pos ⟨H0.out,H1.out,HS.out⟩,if_pos ⟨HS2.out,HS3.out⟩,if_pos ⟨HS4.out,HS5.out⟩,if_neg (fun h=>by rw [hs] at h;simp at h)]
  go_wp2_with fail
  go_ret
  exact ⟨by rw [HV.out];rfl,HB6.out⟩
 ·have HV:Hid (v=0):=by unfold Hid;rw [HW.out,if_pos ⟨H0.out,H1.out,HS.out⟩,if_pos ⟨HS2.out,HS3.out⟩,if_pos ⟨HS4.out,HS5.out⟩,if_pos hs]
  go_wp2_with fail
  go_ret
  exact ⟨by rw [HV.out];rfl,HB6.out⟩
theorem eqL_eq {α:Type}{xs ys:List α}(h:eqL xs ys=true):xs=ys:=by
 simpa [eqL] using h
theorem wrongF_zero {r q:MRoute}(h:wrongF r q=0):r=q:=by
 unfold wrongF at h
 by_cases h1:r.start=q.start∧r.stop=q.stop∧eqL r.steps q.steps=true
 ·rw [if_pos h1] at h
  by_cases h2:eqL r.lies q.lies=true∧eqL r.crosses q.crosses=true
  ·rw [if_pos h2] at h
   by_cases h3:eqL r.parts q.parts=true∧eqL r.over q.over=true
   ·rw [if_pos h3] at h
    by_cases h4:eqL r.flanks q.flanks=true
    ·obtain ⟨a0,a1,a2⟩:=h1
     obtain ⟨a3,a4⟩:=h2
     obtain ⟨a5,a6⟩:=h3
     replace a2:=eqL_eq a2
     replace a3:=eqL_eq a3
     replace a4:=eqL_eq a4
     replace a5:=eqL_eq a5
     replace a6:=eqL_eq a6
     have a7:=eqL_eq h4
     cases r
     cases q
     simp only at a0 a1 a2 a3 a4 a5 a6 a7
     subst a0 a1 a2 a3 a4 a5 a6 a7
     rfl
    ·rw [if_neg h4] at h
     omega
   ·rw [if_neg h3] at h
    omega
  ·rw [if_neg h2] at h
   omega
 ·rw [if_neg h1] at h
  omega
end Go.Proofs.YtmkdgnmmebldgabGreatDoor
