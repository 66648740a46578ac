import Derived.Test.YtmkdgnmmebldgaaGreatDoorPt35
import Derived.Test.YtmkdgnmmebldgaaGreatDoorPu44
import Derived.Laws.BitsAllLaws
import Derived.Laws.ShiftsVarLaws
import Derived.Deep.RegionHeld3
set_option maxRecDepth 100000
set_option maxHeartbeats 8000000
namespace Go.Proofs.YtmkdgnmmebldgaaGreatDoor
open Go.RowKit
def bitN (n:Int):Nat:=(n % 128).toNat
theorem bitN_lt (n:Int):bitN n<128:=by unfold bitN;omega
structure MSet where
 a:Nat
 b:Nat
def MSet.Ok (s:MSet):Prop:=s.a<18446744073709551616∧s.b<18446744073709551616
def emptyF:MSet:=⟨0,0⟩
def withF (s:MSet)(n:Int):MSet:=if bitN n<64 then ⟨s.a ||| 2 ^ (bitN n % 64),s.b⟩ else ⟨s.a,s.b ||| 2 ^ (bitN n % 64)⟩
def keysF (l:List Int):MSet:=l.foldl withF emptyF
def meetsF (s t:MSet):Bool:=(s.a &&& t.a != 0) || (s.b &&& t.b != 0)
def hasF (s:MSet)(n:Int):Bool:=if bitN n<64 then s.a.testBit (bitN n % 64) else s.b.testBit (bitN n % 64)
theorem pow64 {i:Nat}(h:i<64):2 ^ i<18446744073709551616:=Nat.pow_lt_pow_right (by omega) h
theorem withF_ok {s:MSet}(h:s.Ok)(n:Int):(withF s n).Ok:=by
 have hp:=pow64 (Nat.mod_lt (bitN n) (show 0<64 by omega))
 unfold withF
 split
 ·exact ⟨Nat.or_lt_two_pow (n:=64) h.1 hp,h.2⟩
 ·exact ⟨h.1,Nat.or_lt_two_pow (n:=64) h.2 hp⟩
theorem emptyF_ok:emptyF.Ok:=by unfold MSet.Ok emptyF;decide
theorem fold_ok:∀ (l:List Int)(s:MSet),s.Ok→(l.foldl withF s).Ok
 | [],_,h=>h
 | n::r,_,h=>fold_ok r _ (withF_ok h n)
theorem keysF_ok (l:List Int):(keysF l).Ok:=fold_ok l _ emptyF_ok
theorem has_with (s:MSet)(n:Int):hasF (withF s n) n=true:=by
 unfold hasF withF
 by_cases h:bitN n<64
 ·simp [h,Nat.testBit_or,Nat.testBit_two_pow_self]
 ·simp [h,Nat.testBit_or,Nat.testBit_two_pow_self]
theorem has_mono (s:MSet)(n m:Int)(h:hasF s n=true):hasF (withF s m) n=true:=by
 unfold hasF at h ⊢
 unfold withF
 by_cases h1:bitN n<64 <;> by_cases h2:bitN m<64 <;> simp [h1,h2,Nat.testBit_or] at h ⊢ <;> simp [h]
theorem has_fold:∀ (l:List Int)(s:MSet)(n:Int),hasF s n=true∨n ∈ l→hasF (l.foldl withF s) n=true
 | [],_,n,h=>h.resolve_right (by simp)
 | m::r,s,n,h=>by
  simp only [List.foldl_cons]
  refine has_fold r _ n ?_
  rcases h with h | h
  ·exact Or.inl (has_mono s n m h)
  ·rcases List.mem_cons.1 h with rfl | h
   ·exact Or.inl (has_with s n)
   ·exact Or.inr h
theorem has_keys {l:List Int}{n:Int}(h:n ∈ l):hasF (keysF l) n=true:=has_fold l _ n (Or.inr h)
theorem and_ne_zero {a b i:Nat}(h1:a.testBit i=true)(h2:b.testBit i=true):(a &&& b != 0)=true:=by
 have h:(a &&& b).testBit i=true:=by simp [Nat.testBit_and,h1,h2]
 have:a &&& b≠0:=fun e=>by rw [e] at h;simp at h
 simp [this]
theorem meets_has {s t:MSet}{n:Int}(h1:hasF s n=true)(h2:hasF t n=true):meetsF s t=true:=by
 unfold hasF at h1 h2
 unfold meetsF
 by_cases h:bitN n<64
 ·simp only [h,if_true] at h1 h2
  rw [and_ne_zero h1 h2];rfl
 ·simp only [h,if_false] at h1 h2
  rw [and_ne_zero h1 h2];simp
theorem keys_meet {l r:List Int}{n:Int}(h1:n ∈ l)(h2:n ∈ r):meetsF (keysF l) (keysF r)=true:=meets_has (has_keys h1) (has_keys h2)
theorem keys_snoc (l:List Int)(n:Int):keysF (l++[n])=withF (keysF l) n:=by unfold keysF;rw [List.foldl_append];rfl
def WfRs (rs:List MRoute):Prop := ∀ i (h:i<rs.length),WfR rs[i]
theorem any2_part {α:Type}{xs ys:List α}{key:α→Int}{p:α→α→Bool}(hp:∀ x y,p x y=true→key x=key y)(h:meetsF (keysF (xs.map key)) (keysF (ys.map key))=false):(xs.any fun x=>ys.any fun y=>p x y)=false:=by
 rw [List.any_eq_false]
 intro x hx h2
 rw [List.any_eq_true] at h2
 obtain ⟨y,hy,hxy⟩:=h2
 have e:=hp x y hxy
 rw [keys_meet (List.mem_map.2 ⟨x,hx,rfl⟩) (List.mem_map.2 ⟨y,hy,e.symm⟩)] at h
 exact absurd h (by simp)
theorem touchP_key (x y:MPart)(h:touchP x y=true):x.piece=y.piece:=by
 unfold touchP at h
 simp only [Bool.and_eq_true,beq_iff_eq] at h
 exact h.1.1
theorem touchP_symm (x y:MPart):touchP x y=touchP y x:=by
 unfold touchP
 rw [Bool.and_assoc,Bool.and_assoc,Bool.and_comm (decide (x.lo≤y.hi))]
 have:(x.piece==y.piece)=(y.piece==x.piece):=by rw [Bool.eq_iff_iff,beq_iff_eq,beq_iff_eq];exact ⟨Eq.symm,Eq.symm⟩
 rw [this]
theorem any_swap {α β:Type}(xs:List α)(ys:List β)(p:α→β→Bool):(xs.any fun x=>ys.any fun y=>p x y)=(ys.any fun y=>xs.any fun x=>p x y):=by
 rw [Bool.eq_iff_iff]
 simp only [List.any_eq_true]
 exact ⟨fun ⟨x,hx,y,hy,h⟩=>⟨y,hy,x,hx,h⟩,fun ⟨y,hy,x,hx,h⟩=>⟨x,hx,y,hy,h⟩⟩
theorem touchL_symm (a b:List MPart):touchL a b=touchL b a:=by
 unfold touchL
 rw [any_swap]
 simp only [touchP_symm]
theorem crossL_symm (a b:List Int):crossL a b=crossL b a:=by
 unfold crossL
 rw [any_swap]
 rw [Bool.eq_iff_iff]
 simp only [List.any_eq_true,beq_iff_eq]
 exact ⟨fun ⟨x,hx,y,hy,h⟩=>⟨x,hx,y,hy,h.symm⟩,fun ⟨x,hx,y,hy,h⟩=>⟨x,hx,y,hy,h.symm⟩⟩
theorem wantL_symm (a b:List MEnd):wantL a b=wantL b a:=by
 unfold wantL
 rw [any_swap]
 rw [Bool.eq_iff_iff]
 simp only [List.any_eq_true,Bool.and_eq_true,beq_iff_eq,bne_iff_ne,ne_eq]
 exact ⟨fun ⟨x,hx,y,hy,h⟩=>⟨x,hx,y,hy,h.1.symm,fun e=>h.2 e.symm⟩,fun ⟨x,hx,y,hy,h⟩=>⟨x,hx,y,hy,h.1.symm,fun e=>h.2 e.symm⟩⟩
end Go.Proofs.YtmkdgnmmebldgaaGreatDoor
namespace Go.Proofs.YtmkdgnmmebldgaaGreatDoor
open Go.RowKit Go.Deep
def setV (s:MSet):Value:=.agg #[.int .u64 s.a,.int .u64 s.b]
theorem wrap_rem (n:Int):(IntKind.u64.wrap n).tmod 128=(bitN n:Nat):=by
 rw [IntKind.wrap_u64,tmod_of_emod]
 unfold bitN
 omega
theorem cast_pow (k:Nat):(2:Int) ^ k=((2 ^ k:Nat):Int):=by rw [Int.natCast_pow];rfl
theorem wrap_pow (k:Nat)(h:k<64):IntKind.u64.wrap (2 ^ k)=((2 ^ k:Nat):Int):=by
 have hp:=pow64 h
 rw [IntKind.wrap_u64,cast_pow]
 generalize 2 ^ k=p at hp ⊢
 omega
theorem or_pow {a k:Nat}(ha:a<18446744073709551616)(hk:k<64):bits .or .u64 (a:Int) (2 ^ k)=((a ||| 2 ^ k:Nat):Int):=by
 rw [cast_pow]
 exact u64_or_nat a (2 ^ k) ha (pow64 hk)
theorem ret_set {a b a' b':Int}(h1:a=a')(h2:b=b'):Ending.returned (.agg #[.int .u64 a,.int .u64 b]) = .returned (.agg #[.int .u64 a',.int .u64 b']):=by rw [h1,h2]
theorem with_any (s:MSet)(n:Int)(hs:s.Ok)(w:World):
  Calls Tryz.prog 172 #[setV s,.int .i64 n] w fun e w'=>e = .returned (setV (withF s n))∧Below w.heap.size w w':=by
 unfold setV
 have h0:=wrap_rem n
 have hlt:=bitN_lt n
 have HW:Hid (withF s n=if bitN n<64 then ⟨s.a ||| 2 ^ (bitN n % 64),s.b⟩ else ⟨s.a,s.b ||| 2 ^ (bitN n % 64)⟩):=rfl
 generalize bitN n=c at h0 hlt HW
 have hk:c % 64<64:=Nat.mod_lt _ (by omega)
 by_cases hc:c<64
 ·have h1:(c:Int) / 64=0:=by omega
  have h2:c / 64=0:=by omega
  have h3:=wrap_pow (c % 64) hk
  have HA:Hid (bits .or .u64 (s.a:Int) (2 ^ (c % 64))=((withF s n).a:Nat)):=by unfold Hid;rw [HW.out,if_pos hc];exact or_pow hs.1 hk
  have HB:Hid (((s.b:Nat):Int)=((withF s n).b:Nat)):=by unfold Hid;rw [HW.out,if_pos hc]
  go_enter Tryz.func172,Tryz.ntmps172
  go_wp2_with fail
  exact bodyPost_ret (v:=.agg #[.int .u64 (bits .or .u64 (s.a:Int) (2 ^ (c % 64))),.int .u64 s.b]) (by simp [results,Tryz.results172,go_sem]) rfl ⟨ret_set HA.out HB.out,blo⟩
 ·have h1:(c:Int) / 64=1:=by omega
  have h2:c / 64=1:=by omega
  have h3:=wrap_pow (c % 64) hk
  have HA:Hid (((s.a:Nat):Int)=((withF s n).a:Nat)):=by unfold Hid;rw [HW.out,if_neg hc]
  have HB:Hid (bits .or .u64 (s.b:Int) (2 ^ (c % 64))=((withF s n).b:Nat)):=by unfold Hid;rw [HW.out,if_neg hc];exact or_pow hs.2 hk
  go_enter Tryz.func172,Tryz.ntmps172
  go_wp2_with fail
  exact bodyPost_ret (v:=.agg #[.int .u64 s.a,.int .u64 (bits .or .u64 (s.b:Int) (2 ^ (c % 64)))]) (by simp [results,Tryz.results172,go_sem]) rfl ⟨ret_set HA.out HB.out,blo⟩
theorem and_nat {a b:Nat}(ha:a<18446744073709551616)(hb:b<18446744073709551616):(bits .and .u64 (a:Int) (b:Int) != 0)=(a &&& b != 0):=by
 rw [u64_and_nat a b ha hb,Bool.eq_iff_iff]
 simp only [bne_iff_ne,ne_eq]
 omega
theorem index_set0 (a b:Int)(w:World):(Instr.index 226 (.agg #[.int .u64 a,.int .u64 b]) (.int .i64 0)).run Tryz.prog w = .ok (.int .u64 a) w:=by kernel_rfl
theorem index_set1 (a b:Int)(w:World):(Instr.index 226 (.agg #[.int .u64 a,.int .u64 b]) (.int .i64 1)).run Tryz.prog w = .ok (.int .u64 b) w:=by kernel_rfl
theorem meets_any (s t:MSet)(hs:s.Ok)(ht:t.Ok)(w:World):
  Calls Tryz.prog 173 #[setV s,setV t] w fun e w'=>e = .returned (.bool (meetsF s t))∧Below w.heap.size w w':=by
 unfold setV
 have hi0:=index_set0 s.a s.b
 have hi1:=index_set1 s.a s.b
 have HA:=hidP (and_nat hs.1 ht.1)
 have HB:=hidP (and_nat hs.2 ht.2)
 go_enter Tryz.func173,Tryz.ntmps173
 go_wp2_with fail
 generalize hW:(w.alloc _).alloc _=W
 have y0:W.cell? ⟨w.heap.size+1,0,none⟩=some (.int .u64 t.a):=by rw [← hW];simp [go_sem]
 have y1:W.cell? ⟨w.heap.size+1,1,none⟩=some (.int .u64 t.b):=by rw [← hW];simp [go_sem]
 have hz:w.heap.size+1<W.heap.size:=cellLt y0
 have hbW:Below w.heap.size w W:=by rw [← hW];exact blo
 clear hW
 go_loopw [8] (fun i wr => ∃ (k:Nat),k≤2∧i = .int .i64 k∧Hid (1≤k→(s.a &&& t.a != 0)=false)∧Hid (2≤k→(s.b &&& t.b != 0)=false)∧Below W.heap.size W wr) (fun i _=>2-(intOf i).toNat)
 case atStart=>exact ⟨0,by omega,rfl,(fun h=>absurd h (by omega)),(fun h=>absurd h (by omega)),Below.refl _ _⟩
 case round =>
  obtain ⟨k,hk,rfl,H1,H2,hb⟩:=hrel
  have z0:=cell_later hb y0
  have z1:=cell_later hb y1
  have hzr:=cellLt z0
  have hbF:=hbW.trans (hb.mono hbW.size)
  have hk3:k=0∨k=1∨k=2:=by omega
  rcases hk3 with rfl | rfl | rfl
  ·cases hA:(s.a &&& t.a != 0)
   ·have hX:(bits .and .u64 (s.a:Int) (t.a:Int) != 0)=false:=by rw [HA.out,hA]
    have H1':Hid (1≤0+1→(s.a &&& t.a != 0)=false):=fun _=>hA
    clear hA
    go_wp2_with fail
    go_roundw
    case rel=>exact ⟨0+1,by omega,by go_num,(by first | exact H1' | exact fun _=>trivial),(fun h=>absurd h (by omega)),hb⟩
    case measure=>simp [intOf]
   ·have hX:(bits .and .u64 (s.a:Int) (t.a:Int) != 0)=true:=by rw [HA.out,hA]
    have HM:Hid (meetsF s t=true):=by unfold Hid meetsF;rw [hA];rfl
    clear hA
    go_wp2_with fail
    go_ret
    exact ⟨ret_bool HM.out.symm,hbF⟩
  ·cases hB:(s.b &&& t.b != 0)
   ·have hX:(bits .and .u64 (s.b:Int) (t.b:Int) != 0)=false:=by rw [HB.out,hB]
    have H2':Hid (2≤1+1→(s.b &&& t.b != 0)=false):=fun _=>hB
    have H1':Hid (1≤1+1→(s.a &&& t.a != 0)=false):=fun _=>H1.out (by omega)
    clear hB
    go_wp2_with fail
    go_roundw
    case rel=>exact ⟨1+1,by omega,by go_num,H1',(by first | exact H2' | exact fun _=>trivial),hb⟩
    case measure=>simp [intOf]
   ·have hX:(bits .and .u64 (s.b:Int) (t.b:Int) != 0)=true:=by rw [HB.out,hB]
    have HM:Hid (meetsF s t=true):=by unfold Hid meetsF;rw [hB];simp
    clear hB
    go_wp2_with fail
    go_ret
    exact ⟨ret_bool HM.out.symm,hbF⟩
  ·have HM:Hid (meetsF s t=false):=by unfold Hid meetsF;rw [H1.out (by omega),H2.out (by omega)];rfl
   go_wp2_with fail
   go_ret
   exact ⟨ret_bool HM.out.symm,hbF⟩
def prtV (p:MPart):Value:=.agg #[.int .i64 p.piece,.int .i64 p.lo,.int .i64 p.hi]
def lieV (p:MEnd):Value:=.agg #[.int .i64 p.piece,.int .i64 p.side]
theorem partKey_any (p:MPart)(w:World):Calls Tryz.prog 147 #[prtV p] w fun e w'=>e = .returned (.int .i64 p.piece)∧Below w.heap.size w w':=by
 unfold prtV
 go_enter Tryz.func147,Tryz.ntmps147
 go_wp2_with fail
 go_ret
 exact ⟨rfl,blo⟩
theorem lieKey_any (p:MEnd)(w:World):Calls Tryz.prog 152 #[lieV p] w fun e w'=>e = .returned (.int .i64 p.piece)∧Below w.heap.size w w':=by
 unfold lieV
 go_enter Tryz.func152,Tryz.ntmps152
 go_wp2_with fail
 go_ret
 exact ⟨rfl,blo⟩
theorem ownKey_any (n:Int)(w:World):Calls Tryz.prog 149 #[.int .i64 n] w fun e w'=>e = .returned (.int .i64 n)∧Below w.heap.size w w':=by
 go_enter Tryz.func149,Tryz.ntmps149
 go_wp2_with fail
 go_ret
 exact ⟨rfl,blo⟩
theorem sameNumber_any (n m:Int)(w:World):Calls Tryz.prog 156 #[.int .i64 n,.int .i64 m] w fun e w'=>e = .returned (.bool (n==m))∧Below w.heap.size w w':=by
 go_enter Tryz.func156,Tryz.ntmps156
 go_wp2_with fail
 go_ret
 exact ⟨rfl,blo⟩
theorem contradicts_any (x y:MEnd)(w:World):Calls Tryz.prog 158 #[lieV x,lieV y] w fun e w'=>e = .returned (.bool (x.piece==y.piece&&x.side != y.side))∧Below w.heap.size w w':=by
 unfold lieV
 go_enter Tryz.func158,Tryz.ntmps158
 cases t1:(x.piece==y.piece) <;> cases t2:(x.side != y.side)
 all_goals
  go_wp2_with fail
  go_ret
  exact ⟨rfl,blo⟩
theorem touches_any (x y:MPart)(w:World):Calls Tryz.prog 154 #[prtV x,prtV y] w fun e w'=>e = .returned (.bool (touchP x y))∧Below w.heap.size w w':=by
 unfold prtV touchP
 go_enter Tryz.func154,Tryz.ntmps154
 cases t1:(x.piece==y.piece) <;> cases t2:decide (x.lo≤y.hi) <;> cases t3:decide (y.lo≤x.hi)
 all_goals
  go_wp2_with fail
  go_ret
  exact ⟨rfl,blo⟩
def fnV (f:FuncId):Value:=.func (.func f) #[] #[]
def keyedV (a:Option Addr)(n c:Nat)(s:MSet):Value:=.agg #[.slice a n c,.int .u64 s.a,.int .u64 s.b]
theorem keys_take {α:Type}(key:α→Int)(xs:List α)(k:Nat)(hk:k<xs.length):keysF ((xs.take (k+1)).map key)=withF (keysF ((xs.take k).map key)) (key xs[k]):=by
 rw [List.take_succ_eq_append_getElem hk,List.map_append,List.map_cons,List.map_nil,keys_snoc]
def KBox (w:World)(B:Nat)(T:TypeId)(a:Option Addr)(n c:Nat)(s:MSet):Prop := ∃ f,w.rowIs B T 3 f∧f 0 = .slice a n c∧f 1 = .int .u64 s.a∧f 2 = .int .u64 s.b
theorem KBox.kept {w w':World}{B:Nat}{T:TypeId}{a:Option Addr}{n c:Nat}{s:MSet}(h:KBox w B T a n c s)(e:w'.heap[B]? = w.heap[B]?):KBox w' B T a n c s:=by
 obtain ⟨f,h1,h2⟩:=h
 exact ⟨f,h1.of_block e,h2⟩
theorem KBox.c0 {w:World}{B:Nat}{T:TypeId}{a:Option Addr}{n c:Nat}{s:MSet}(h:KBox w B T a n c s):w.cell? ⟨B,0,none⟩=some (.slice a n c):=by
 obtain ⟨f,h1,h2,h3,h4⟩:=h
 rw [h1.cell (by omega),h2]
theorem KBox.c1 {w:World}{B:Nat}{T:TypeId}{a:Option Addr}{n c:Nat}{s:MSet}(h:KBox w B T a n c s):w.cell? ⟨B,1,none⟩=some (.int .u64 s.a):=by
 obtain ⟨f,h1,h2,h3,h4⟩:=h
 rw [h1.cell (by omega),h3]
theorem KBox.c2 {w:World}{B:Nat}{T:TypeId}{a:Option Addr}{n c:Nat}{s:MSet}(h:KBox w B T a n c s):w.cell? ⟨B,2,none⟩=some (.int .u64 s.b):=by
 obtain ⟨f,h1,h2,h3,h4⟩:=h
 rw [h1.cell (by omega),h4]
theorem KBox.lt {w:World}{B:Nat}{T:TypeId}{a:Option Addr}{n c:Nat}{s:MSet}(h:KBox w B T a n c s):B<w.heap.size:=cellLt h.c0
theorem KBox.below {w w':World}{B:Nat}{T:TypeId}{a:Option Addr}{n c:Nat}{s:MSet}(h:KBox w B T a n c s)(hb:Below w.heap.size w w'):KBox w' B T a n c s:=h.kept (hb.block B h.lt)
theorem KBox.frozen {w:World}{B:Nat}{T:TypeId}{a:Option Addr}{n c:Nat}{s:MSet}(h:KBox w B T a n c s)(i:Nat):w.frozen? ⟨B,i,none⟩=false:=by
 obtain ⟨f,h1,_⟩:=h
 exact h1.frozen i
theorem KBox.setS {w:World}{B:Nat}{T:TypeId}{a:Option Addr}{n c:Nat}{s:MSet}(h:KBox w B T a n c s)(s':MSet):KBox ((w.setCell ⟨B,1,none⟩ (.int .u64 s'.a)).setCell ⟨B,2,none⟩ (.int .u64 s'.b)) B T a n c s':=by
 obtain ⟨f,h1,h2,h3,h4⟩:=h
 exact ⟨_,(h1.set 1 _).set 2 _,by simpa using h2,by simp,by simp⟩
theorem KBox.made (w:World)(T:TypeId)(a:Option Addr)(n c:Nat)(s:MSet):KBox (w.alloc (.cells #[.slice a n c,.int .u64 s.a,.int .u64 s.b] T)) w.heap.size T a n c s:=
 ⟨_,row_of_alloc w #[.slice a n c,.int .u64 s.a,.int .u64 s.b] T,rfl,rfl,rfl⟩
theorem keyedByP_any (a:Option Addr)(c:Nat)(xs:List MPart)(w:World)(ha:Hid (PartsAt w a xs)):
  Calls Tryz.prog 146 #[.slice a xs.length c,fnV 147] w fun e w'=>e = .returned (keyedV a xs.length c (keysF (xs.map MPart.piece)))∧Below w.heap.size w w':=by
 have hl:=ha.out.1
 unfold maxLen at hl
 unfold keyedV fnV
 go_enter Tryz.func146,Tryz.ntmps146
 go_wp2_with fail
 generalize hW:(w.alloc _).alloc _=W
 have HQ0:Hid (KBox W w.heap.size 228 none 0 0 emptyF):=by rw [← hW];exact (KBox.made w _ none 0 0 emptyF).below blo
 have HK0:Hid (KBox W (w.heap.size+1) 228 a xs.length c (keysF ((xs.take 0).map MPart.piece))):=by rw [← hW];have h:=KBox.made (w.alloc (Obj.cells #[Value.slice none 0 0,Value.int IntKind.u64 0,Value.int IntKind.u64 0] 228)) 228 a xs.length c emptyF;rw [show (w.alloc (Obj.cells #[Value.slice none 0 0,Value.int IntKind.u64 0,Value.int IntKind.u64 0] 228)).heap.size=w.heap.size+1 by simp] at h;exact h
 have hbW:Below w.heap.size w W:=by rw [← hW];exact blo
 clear hW
 go_loopw [12] (fun i wr => ∃ (k:Nat),k≤xs.length∧i = .int .i64 k∧Hid (KBox wr w.heap.size 228 none 0 0 emptyF)∧Hid (KBox wr (w.heap.size+1) 228 a xs.length c (keysF ((xs.take k).map MPart.piece)))∧Below w.heap.size w wr) (fun i _=>xs.length-(intOf i).toNat)
 case atStart=>exact ⟨0,Nat.zero_le _,rfl,HQ0,HK0,hbW⟩
 case round =>
  clear HQ0 HK0 hbW
  obtain ⟨k,hk,rfl,HQ,HK,hb⟩:=hrel
  have hbs:=hb.size
  by_cases hk':k<xs.length
  ·obtain ⟨b1,off1,rfl,hpc⟩:=ha.out.2.resolve_left (nz hk')
   obtain ⟨c0,c1,c2⟩:=(hpc.below hb) k hk'
   have HS:=hidP (keys_take MPart.piece xs k hk')
   have HOk:=hidP (keysF_ok ((xs.take k).map MPart.piece))
   generalize keysF ((xs.take k).map MPart.piece)=s at HK HS HOk
   have kc0:=HK.out.c0
   have kc1:=HK.out.c1
   have kc2:=HK.out.c2
   have hzk:=HK.out.lt
   have hzk':w.heap.size<wr.heap.size:=by omega
   clear hpc
   go_wp2_with fail
   generalize hW2:wr.alloc _=W2
   have hbw2:Below wr.heap.size wr W2:=by rw [← hW2];exact blo
   have i0:W2.cell? ⟨wr.heap.size,0,none⟩=some (.int .i64 xs[k].piece):=by rw [← hW2];simp [go_sem]
   have i1:W2.cell? ⟨wr.heap.size,1,none⟩=some (.int .i64 xs[k].lo):=by rw [← hW2];simp [go_sem]
   have i2:W2.cell? ⟨wr.heap.size,2,none⟩=some (.int .i64 xs[k].hi):=by rw [← hW2];simp [go_sem]
   have hzw2:wr.heap.size<W2.heap.size:=cellLt i0
   clear hW2 c0 c1 c2
   replace kc0:=cell_later hbw2 kc0
   replace kc1:=cell_later hbw2 kc1
   replace kc2:=cell_later hbw2 kc2
   have HK2:=hidP (HK.out.below hbw2)
   have HQ2:=hidP (HQ.out.below hbw2)
   replace hzk:=Nat.lt_of_lt_of_le hzk hbw2.size
   have hb2w:=hb.trans (hbw2.mono hb.size)
   clear HK HQ hbw2 hb hbs hzk'
   go_region_with (first
    | (go_at_call 147;refine (partKey_any xs[k] _).mono ?_;rintro e w2 ⟨rfl,hb2⟩;have hbD:Below W2.heap.size W2 w2:=(Below.refl _ _).drew.trans hb2;have kc1':=cell_later hbD kc1;have kc2':=cell_later hbD kc2;have kc0':=cell_later hbD kc0;have hzk2:=Nat.lt_of_lt_of_le hzk hbD.size)
    | (go_at_call 172;refine (with_any s _ HOk.out _).mono ?_;rintro e w3 ⟨rfl,hb3⟩;unfold setV;have hbE:=hbD.trans (hb3.mono hbD.size);have HK3:=hidP (HK2.out.below hbE);have HQ3:=hidP (HQ2.out.below hbE);have kc1'':=HK3.out.c1;have kc2'':=HK3.out.c2;have kf1:=HK3.out.frozen 1;have kf2:=HK3.out.frozen 2;have hzk3:=HK3.out.lt))
   all_goals
    have hb4:=hb2w.trans (hbE.mono hb2w.size)
    have hbs4:=hb4.size
    have HK4:=hidP (HK3.out.setS (withF s xs[k].piece))
    clear hb2 hb3
    go_wp2_with fail
    go_roundw
    case rel=>exact ⟨k+1,by omega,by go_num,HQ3.out.kept (by rw [Below.heap_setCell _ _ _ _ (by simp),Below.heap_setCell _ _ _ _ (by simp)]),by rw [HS.out];exact HK4,blo⟩
    case measure=>simp [intOf];omega
  ·have HT:Hid (xs.take k=xs):=List.take_of_length_le (by omega)
   rw [HT.out] at HK
   have kc0:=HK.out.c0
   have kc1:=HK.out.c1
   have kc2:=HK.out.c2
   have hzk:=HK.out.lt
   have q0:=HQ.out.c0
   have q1:=HQ.out.c1
   have q2:=HQ.out.c2
   have qf0:=HQ.out.frozen 0
   have qf1:=HQ.out.frozen 1
   have qf2:=HQ.out.frozen 2
   have hzk':w.heap.size<wr.heap.size:=by omega
   clear HT HQ HK
   go_wp2_with fail
   exact bodyPost_ret (v:=.agg #[.slice a xs.length c,.int .u64 (keysF (xs.map MPart.piece)).a,.int .u64 (keysF (xs.map MPart.piece)).b]) (by simp [results,Tryz.results146,go_sem,q0,q1,q2]) rfl ⟨rfl,blo⟩
theorem keyedByN_any (a:Option Addr)(c:Nat)(xs:List Int)(w:World)(ha:Hid (NumsAt w a xs)):
  Calls Tryz.prog 148 #[.slice a xs.length c,fnV 149] w fun e w'=>e = .returned (keyedV a xs.length c (keysF (xs.map id)))∧Below w.heap.size w w':=by
 have hl:=ha.out.1
 unfold maxLen at hl
 unfold keyedV fnV
 go_enter Tryz.func148,Tryz.ntmps148
 go_wp2_with fail
 generalize hW:(w.alloc _).alloc _=W
 have HQ0:Hid (KBox W w.heap.size 230 none 0 0 emptyF):=by rw [← hW];exact (KBox.made w _ none 0 0 emptyF).below blo
 have HK0:Hid (KBox W (w.heap.size+1) 230 a xs.length c (keysF ((xs.take 0).map id))):=by rw [← hW];have h:=KBox.made (w.alloc (Obj.cells #[Value.slice none 0 0,Value.int IntKind.u64 0,Value.int IntKind.u64 0] 230)) 230 a xs.length c emptyF;rw [show (w.alloc (Obj.cells #[Value.slice none 0 0,Value.int IntKind.u64 0,Value.int IntKind.u64 0] 230)).heap.size=w.heap.size+1 by simp] at h;exact h
 have hbW:Below w.heap.size w W:=by rw [← hW];exact blo
 clear hW
 go_loopw [12] (fun i wr => ∃ (k:Nat),k≤xs.length∧i = .int .i64 k∧Hid (KBox wr w.heap.size 230 none 0 0 emptyF)∧Hid (KBox wr (w.heap.size+1) 230 a xs.length c (keysF ((xs.take k).map id)))∧Below w.heap.size w wr) (fun i _=>xs.length-(intOf i).toNat)
 case atStart=>exact ⟨0,Nat.zero_le _,rfl,HQ0,HK0,hbW⟩
 case round =>
  clear HQ0 HK0 hbW
  obtain ⟨k,hk,rfl,HQ,HK,hb⟩:=hrel
  have hbs:=hb.size
  by_cases hk':k<xs.length
  ·obtain ⟨b1,off1,rfl,hpc⟩:=ha.out.2.resolve_left (nz hk')
   have c0:=(hpc.below hb) k hk'
   have HS:=hidP (keys_take id xs k hk')
   have HOk:=hidP (keysF_ok ((xs.take k).map id))
   generalize keysF ((xs.take k).map id)=s at HK HS HOk
   have kc0:=HK.out.c0
   have kc1:=HK.out.c1
   have kc2:=HK.out.c2
   have hzk:=HK.out.lt
   have hzk':w.heap.size<wr.heap.size:=by omega
   clear hpc
   go_wp2_with fail
   generalize hW2:wr=W2 at *
   have HK2:=HK
   have HQ2:=HQ
   have hb2w:=hb
   clear HK HQ hb hbs hzk'
   go_region_with (first
    | (go_at_call 149;refine (ownKey_any _ _).mono ?_;rintro e w2 ⟨rfl,hb2⟩;have hbD:Below W2.heap.size W2 w2:=(Below.refl _ _).drew.trans hb2;have kc1':=cell_later hbD kc1;have kc2':=cell_later hbD kc2;have kc0':=cell_later hbD kc0;have hzk2:=Nat.lt_of_lt_of_le hzk hbD.size)
    | (go_at_call 172;refine (with_any s _ HOk.out _).mono ?_;rintro e w3 ⟨rfl,hb3⟩;unfold setV;have hbE:=hbD.trans (hb3.mono hbD.size);have HK3:=hidP (HK2.out.below hbE);have HQ3:=hidP (HQ2.out.below hbE);have kc1'':=HK3.out.c1;have kc2'':=HK3.out.c2;have kf1:=HK3.out.frozen 1;have kf2:=HK3.out.frozen 2;have hzk3:=HK3.out.lt))
   all_goals
    have hb4:=hb2w.trans (hbE.mono hb2w.size)
    have hbs4:=hb4.size
    have HK4:=hidP (HK3.out.setS (withF s xs[k]))
    clear hb2 hb3
    go_wp2_with fail
    go_roundw
    case rel=>exact ⟨k+1,by omega,by go_num,HQ3.out.kept (by rw [Below.heap_setCell _ _ _ _ (by simp),Below.heap_setCell _ _ _ _ (by simp)]),by rw [HS.out];exact HK4,blo⟩
    case measure=>simp [intOf];omega
  ·have HT:Hid (xs.take k=xs):=List.take_of_length_le (by omega)
   rw [HT.out] at HK
   have kc0:=HK.out.c0
   have kc1:=HK.out.c1
   have kc2:=HK.out.c2
   have hzk:=HK.out.lt
   have q0:=HQ.out.c0
   have q1:=HQ.out.c1
   have q2:=HQ.out.c2
   have qf0:=HQ.out.frozen 0
   have qf1:=HQ.out.frozen 1
   have qf2:=HQ.out.frozen 2
   have hzk':w.heap.size<wr.heap.size:=by omega
   clear HT HQ HK
   go_wp2_with fail
   exact bodyPost_ret (v:=.agg #[.slice a xs.length c,.int .u64 (keysF (xs.map id)).a,.int .u64 (keysF (xs.map id)).b]) (by simp [results,Tryz.results148,go_sem,q0,q1,q2]) rfl ⟨rfl,blo⟩
theorem keyedByL_any (a:Option Addr)(c:Nat)(xs:List MEnd)(w:World)(ha:Hid (EndsAt w a xs)):
  Calls Tryz.prog 150 #[.slice a xs.length c,fnV 152] w fun e w'=>e = .returned (keyedV a xs.length c (keysF (xs.map MEnd.piece)))∧Below w.heap.size w w':=by
 have hl:=ha.out.1
 unfold maxLen at hl
 unfold keyedV fnV
 go_enter Tryz.func150,Tryz.ntmps150
 go_wp2_with fail
 generalize hW:(w.alloc _).alloc _=W
 have HQ0:Hid (KBox W w.heap.size 232 none 0 0 emptyF):=by rw [← hW];exact (KBox.made w _ none 0 0 emptyF).below blo
 have HK0:Hid (KBox W (w.heap.size+1) 232 a xs.length c (keysF ((xs.take 0).map MEnd.piece))):=by rw [← hW];have h:=KBox.made (w.alloc (Obj.cells #[Value.slice none 0 0,Value.int IntKind.u64 0,Value.int IntKind.u64 0] 232)) 232 a xs.length c emptyF;rw [show (w.alloc (Obj.cells #[Value.slice none 0 0,Value.int IntKind.u64 0,Value.int IntKind.u64 0] 232)).heap.size=w.heap.size+1 by simp] at h;exact h
 have hbW:Below w.heap.size w W:=by rw [← hW];exact blo
 clear hW
 go_loopw [12] (fun i wr => ∃ (k:Nat),k≤xs.length∧i = .int .i64 k∧Hid (KBox wr w.heap.size 232 none 0 0 emptyF)∧Hid (KBox wr (w.heap.size+1) 232 a xs.length c (keysF ((xs.take k).map MEnd.piece)))∧Below w.heap.size w wr) (fun i _=>xs.length-(intOf i).toNat)
 case atStart=>exact ⟨0,Nat.zero_le _,rfl,HQ0,HK0,hbW⟩
 case round =>
  clear HQ0 HK0 hbW
  obtain ⟨k,hk,rfl,HQ,HK,hb⟩:=hrel
  have hbs:=hb.size
  by_cases hk':k<xs.length
  ·obtain ⟨b1,off1,rfl,hpc⟩:=ha.out.2.resolve_left (nz hk')
   obtain ⟨c0,c1⟩:=(hpc.below hb) k hk'
   have HS:=hidP (keys_take MEnd.piece xs k hk')
   have HOk:=hidP (keysF_ok ((xs.take k).map MEnd.piece))
   generalize keysF ((xs.take k).map MEnd.piece)=s at HK HS HOk
   have kc0:=HK.out.c0
   have kc1:=HK.out.c1
   have kc2:=HK.out.c2
   have hzk:=HK.out.lt
   have hzk':w.heap.size<wr.heap.size:=by omega
   clear hpc
   go_wp2_with fail
   generalize hW2:wr.alloc _=W2
   have hbw2:Below wr.heap.size wr W2:=by rw [← hW2];exact blo
   have i0:W2.cell? ⟨wr.heap.size,0,none⟩=some (.int .i64 xs[k].piece):=by rw [← hW2];simp [go_sem]
   have i1:W2.cell? ⟨wr.heap.size,1,none⟩=some (.int .i64 xs[k].side):=by rw [← hW2];simp [go_sem]
   have hzw2:wr.heap.size<W2.heap.size:=cellLt i0
   clear hW2 c0 c1
   replace kc0:=cell_later hbw2 kc0
   replace kc1:=cell_later hbw2 kc1
   replace kc2:=cell_later hbw2 kc2
   have HK2:=hidP (HK.out.below hbw2)
   have HQ2:=hidP (HQ.out.below hbw2)
   replace hzk:=Nat.lt_of_lt_of_le hzk hbw2.size
   have hb2w:=hb.trans (hbw2.mono hb.size)
   clear HK HQ hbw2 hb hbs hzk'
   go_region_with (first
    | (go_at_call 152;refine (lieKey_any xs[k] _).mono ?_;rintro e w2 ⟨rfl,hb2⟩;have hbD:Below W2.heap.size W2 w2:=(Below.refl _ _).drew.trans hb2;have kc1':=cell_later hbD kc1;have kc2':=cell_later hbD kc2;have kc0':=cell_later hbD kc0;have hzk2:=Nat.lt_of_lt_of_le hzk hbD.size)
    | (go_at_call 172;refine (with_any s _ HOk.out _).mono ?_;rintro e w3 ⟨rfl,hb3⟩;unfold setV;have hbE:=hbD.trans (hb3.mono hbD.size);have HK3:=hidP (HK2.out.below hbE);have HQ3:=hidP (HQ2.out.below hbE);have kc1'':=HK3.out.c1;have kc2'':=HK3.out.c2;have kf1:=HK3.out.frozen 1;have kf2:=HK3.out.frozen 2;have hzk3:=HK3.out.lt))
   all_goals
    have hb4:=hb2w.trans (hbE.mono hb2w.size)
    have hbs4:=hb4.size
    have HK4:=hidP (HK3.out.setS (withF s xs[k].piece))
    clear hb2 hb3
    go_wp2_with fail
    go_roundw
    case rel=>exact ⟨k+1,by omega,by go_num,HQ3.out.kept (by rw [Below.heap_setCell _ _ _ _ (by simp),Below.heap_setCell _ _ _ _ (by simp)]),by rw [HS.out];exact HK4,blo⟩
    case measure=>simp [intOf];omega
  ·have HT:Hid (xs.take k=xs):=List.take_of_length_le (by omega)
   rw [HT.out] at HK
   have kc0:=HK.out.c0
   have kc1:=HK.out.c1
   have kc2:=HK.out.c2
   have hzk:=HK.out.lt
   have q0:=HQ.out.c0
   have q1:=HQ.out.c1
   have q2:=HQ.out.c2
   have qf0:=HQ.out.frozen 0
   have qf1:=HQ.out.frozen 1
   have qf2:=HQ.out.frozen 2
   have hzk':w.heap.size<wr.heap.size:=by omega
   clear HT HQ HK
   go_wp2_with fail
   exact bodyPost_ret (v:=.agg #[.slice a xs.length c,.int .u64 (keysF (xs.map MEnd.piece)).a,.int .u64 (keysF (xs.map MEnd.piece)).b]) (by simp [results,Tryz.results150,go_sem,q0,q1,q2]) rfl ⟨rfl,blo⟩
def wantP (x y:MEnd):Bool:=x.piece==y.piece&&x.side != y.side
def sameP (x y:Int):Bool:=x==y
theorem anyTwoP_any (a b:Option Addr)(ac bc:Nat)(xs ys:List MPart)(s t:MSet)(hs:Hid (s=keysF (xs.map MPart.piece)))(ht:Hid (t=keysF (ys.map MPart.piece)))(w:World)(ha:Hid (PartsAt w a xs))(hb:Hid (PartsAt w b ys)):
  Calls Tryz.prog 153 #[keyedV a xs.length ac s,keyedV b ys.length bc t,fnV 154] w fun e w'=>e = .returned (.bool (touchL xs ys))∧Below w.heap.size w w':=by
 have hl:=ha.out.1
 have hl2:=hb.out.1
 unfold maxLen at hl hl2
 have HOA:Hid s.Ok:=by unfold Hid;rw [hs.out];exact keysF_ok _
 have HOB:Hid t.Ok:=by unfold Hid;rw [ht.out];exact keysF_ok _
 have HPart:Hid (meetsF s t=false→touchL xs ys=false):=fun h=>any2_part (key:=MPart.piece) touchP_key (by rw [← hs.out,← ht.out];exact h)
 clear hs ht
 unfold keyedV fnV
 go_enter Tryz.func153,Tryz.ntmps153
 go_wp2_with fail
 generalize hW:(w.alloc _).alloc _=W
 have e0:W.cell? ⟨w.heap.size,0,none⟩=some (.slice a xs.length ac):=by rw [← hW];simp [go_sem]
 have f0:W.cell? ⟨w.heap.size+1,0,none⟩=some (.slice b ys.length bc):=by rw [← hW];simp [go_sem]
 have hbW:Below w.heap.size w W:=by rw [← hW];exact blo
 clear hW
 refine (meets_any s t HOA.out HOB.out _).mono ?_
 rintro e w1 ⟨rfl,hb1⟩
 replace e0:=cell_later hb1 e0
 replace f0:=cell_later hb1 f0
 replace hbW:=hbW.trans (hb1.mono hbW.size)
 have hz0:=cellLt e0
 have hz1:=cellLt f0
 dsimp only at hz0 hz1
 clear hb1
 cases hM:meetsF s t
 ·have HX:=hidP (HPart.out hM)
  clear hM
  go_wp2_with fail
  go_ret
  exact ⟨ret_bool HX.out.symm,hbW⟩
 clear hM HPart
 have HA1:=hidP (ha.out.below hbW)
 have HB1:=hidP (hb.out.below hbW)
 clear ha hb
 go_wp2_with fail
 go_loopw [20] (fun i wr => ∃ (k:Nat),k≤xs.length∧i = .int .i64 k∧Hid (∀ q (hq:q<xs.length),q<k→(ys.any fun y=>touchP xs[q] y)=false)∧Below w1.heap.size w1 wr) (fun i _=>xs.length-(intOf i).toNat)
 case atStart=>exact ⟨0,Nat.zero_le _,rfl,(fun q _ h=>absurd h (Nat.not_lt_zero q)),Below.refl _ _⟩
 case round =>
  obtain ⟨k,hk,rfl,HQ,hbw⟩:=hrel
  have hbs:=hbw.size
  by_cases hk':k<xs.length
  ·obtain ⟨b1,off1,rfl,hpc1⟩:=HA1.out.2.resolve_left (nz hk')
   obtain ⟨c0,c1,c2⟩:=(hpc1.below hbw) k hk'
   have f0':=cell_later hbw f0
   have hz1':=cellLt f0'
   dsimp only at hz1'
   clear hpc1
   go_wp2_with fail
   generalize hW2:wr.alloc _=W2
   have p0:W2.cell? ⟨wr.heap.size,0,none⟩=some (.int .i64 xs[k].piece):=by rw [← hW2];simp [go_sem]
   have p1:W2.cell? ⟨wr.heap.size,1,none⟩=some (.int .i64 xs[k].lo):=by rw [← hW2];simp [go_sem]
   have p2:W2.cell? ⟨wr.heap.size,2,none⟩=some (.int .i64 xs[k].hi):=by rw [← hW2];simp [go_sem]
   have hbW2:Below w1.heap.size w1 W2:=by rw [← hW2];exact blo
   have hzW2:wr.heap.size<W2.heap.size:=cellLt p0
   clear hW2 c0 c1 c2 hbw hbs f0' hz1'
   go_loopw [27] (fun i wr2 => ∃ (m:Nat),m≤ys.length∧i = .int .i64 m∧Hid (∀ q (hq:q<ys.length),q<m→touchP xs[k] ys[q]=false)∧Below W2.heap.size W2 wr2) (fun i _=>ys.length-(intOf i).toNat)
   case atStart=>exact ⟨0,Nat.zero_le _,rfl,(fun q _ h=>absurd h (Nat.not_lt_zero q)),Below.refl _ _⟩
   case round =>
    obtain ⟨m,hm,rfl,HMq,hb2⟩:=hrel
    have hbs2:=hb2.size
    have hbF:=hbW2.trans (hb2.mono hbW2.size)
    have hbsF:=hbF.size
    by_cases hm':m<ys.length
    ·obtain ⟨b3,off3,rfl,hpc3⟩:=HB1.out.2.resolve_left (nz hm')
     obtain ⟨d0,d1,d2⟩:=(hpc3.below hbF) m hm'
     have q0:=cell_later hb2 p0
     have q1:=cell_later hb2 p1
     have q2:=cell_later hb2 p2
     have hzq:=Nat.lt_of_lt_of_le hzW2 hb2.size
     clear hpc3
     go_wp2_with fail
     generalize hW3:wr.alloc _=W3
     have hb23:Below W2.heap.size W2 W3:=by rw [← hW3];exact blo
     have hbF3:Below w1.heap.size w1 W3:=by rw [← hW3];exact blo
     clear hW3
     refine (touches_any xs[k] ys[m] _).mono ?_
     rintro e w4 ⟨rfl,hb4⟩
     have hbG:Below w1.heap.size w1 w4:=hbF3.trans (hb4.mono hbF3.size)
     have hbG2:Below W2.heap.size W2 w4:=hb23.trans (hb4.mono hb23.size)
     clear hb4
     cases hT:touchP xs[k] ys[m]
     ·have HM2:Hid (∀ q (hq:q<ys.length),q<m+1→touchP xs[k] ys[q]=false):=by
       intro q hq hqm
       by_cases e:q<m
       ·exact HMq.out q hq e
       ·have:q=m:=by omega
        subst this;exact hT
      clear hT HMq
      go_wp2_with fail
      go_roundw
      case rel=>exact ⟨m+1,by omega,by go_num,HM2,hbG2⟩
      case measure=>simp [intOf];omega
     ·have HX:Hid (touchL xs ys=true):=any_hit hk' (any_hit hm' hT)
      clear hT HMq
      go_wp2_with fail
      go_ret
      exact ⟨ret_bool HX.out.symm,hbW.trans (hbG.mono hbW.size)⟩
    ·have HQ2:Hid (∀ q (hq:q<xs.length),q<k+1→(ys.any fun y=>touchP xs[q] y)=false):=by
      intro q hq hqk
      by_cases e:q<k
      ·exact HQ.out q hq e
      ·have:q=k:=by omega
       subst this
       exact any_none (fun i hi=>HMq.out i hi (by omega))
     clear HMq HQ
     go_wp2_with fail
     go_roundw
     case rel=>exact ⟨k+1,by omega,by go_num,HQ2,hbF⟩
     case measure=>simp [intOf];omega
  ·have HX:Hid (touchL xs ys=false):=any_none (fun i hi=>HQ.out i hi (by omega))
   clear HQ
   go_wp2_with fail
   go_ret
   exact ⟨ret_bool HX.out.symm,hbW.trans (hbw.mono hbW.size)⟩
theorem anyTwoN_any (a b:Option Addr)(ac bc:Nat)(xs ys:List Int)(s t:MSet)(hs:Hid (s=keysF (xs.map id)))(ht:Hid (t=keysF (ys.map id)))(w:World)(ha:Hid (NumsAt w a xs))(hb:Hid (NumsAt w b ys)):
  Calls Tryz.prog 155 #[keyedV a xs.length ac s,keyedV b ys.length bc t,fnV 156] w fun e w'=>e = .returned (.bool (crossL xs ys))∧Below w.heap.size w w':=by
 have hl:=ha.out.1
 have hl2:=hb.out.1
 unfold maxLen at hl hl2
 have HOA:Hid s.Ok:=by unfold Hid;rw [hs.out];exact keysF_ok _
 have HOB:Hid t.Ok:=by unfold Hid;rw [ht.out];exact keysF_ok _
 have HPart:Hid (meetsF s t=false→crossL xs ys=false):=fun h=>any2_part (key:=id) (fun x y h=>by simpa using h) (by rw [← hs.out,← ht.out];exact h)
 clear hs ht
 unfold keyedV fnV
 go_enter Tryz.func155,Tryz.ntmps155
 go_wp2_with fail
 generalize hW:(w.alloc _).alloc _=W
 have e0:W.cell? ⟨w.heap.size,0,none⟩=some (.slice a xs.length ac):=by rw [← hW];simp [go_sem]
 have f0:W.cell? ⟨w.heap.size+1,0,none⟩=some (.slice b ys.length bc):=by rw [← hW];simp [go_sem]
 have hbW:Below w.heap.size w W:=by rw [← hW];exact blo
 clear hW
 refine (meets_any s t HOA.out HOB.out _).mono ?_
 rintro e w1 ⟨rfl,hb1⟩
 replace e0:=cell_later hb1 e0
 replace f0:=cell_later hb1 f0
 replace hbW:=hbW.trans (hb1.mono hbW.size)
 have hz0:=cellLt e0
 have hz1:=cellLt f0
 dsimp only at hz0 hz1
 clear hb1
 cases hM:meetsF s t
 ·have HX:=hidP (HPart.out hM)
  clear hM
  go_wp2_with fail
  go_ret
  exact ⟨ret_bool HX.out.symm,hbW⟩
 clear hM HPart
 have HA1:=hidP (ha.out.below hbW)
 have HB1:=hidP (hb.out.below hbW)
 clear ha hb
 go_wp2_with fail
 go_loopw [20] (fun i wr => ∃ (k:Nat),k≤xs.length∧i = .int .i64 k∧Hid (∀ q (hq:q<xs.length),q<k→(ys.any fun y=>sameP xs[q] y)=false)∧Below w1.heap.size w1 wr) (fun i _=>xs.length-(intOf i).toNat)
 case atStart=>exact ⟨0,Nat.zero_le _,rfl,(fun q _ h=>absurd h (Nat.not_lt_zero q)),Below.refl _ _⟩
 case round =>
  obtain ⟨k,hk,rfl,HQ,hbw⟩:=hrel
  have hbs:=hbw.size
  by_cases hk':k<xs.length
  ·obtain ⟨b1,off1,rfl,hpc1⟩:=HA1.out.2.resolve_left (nz hk')
   have c0:=(hpc1.below hbw) k hk'
   have f0':=cell_later hbw f0
   have hz1':=cellLt f0'
   dsimp only at hz1'
   clear hpc1
   go_wp2_with fail
   generalize hW2:wr=W2 at *
   have hbW2:=hbw
   clear hbw hbs f0' hz1' c0
   go_loopw [27] (fun i wr2 => ∃ (m:Nat),m≤ys.length∧i = .int .i64 m∧Hid (∀ q (hq:q<ys.length),q<m→sameP xs[k] ys[q]=false)∧Below W2.heap.size W2 wr2) (fun i _=>ys.length-(intOf i).toNat)
   case atStart=>exact ⟨0,Nat.zero_le _,rfl,(fun q _ h=>absurd h (Nat.not_lt_zero q)),Below.refl _ _⟩
   case round =>
    obtain ⟨m,hm,rfl,HMq,hb2⟩:=hrel
    have hbs2:=hb2.size
    have hbF:=hbW2.trans (hb2.mono hbW2.size)
    have hbsF:=hbF.size
    by_cases hm':m<ys.length
    ·obtain ⟨b3,off3,rfl,hpc3⟩:=HB1.out.2.resolve_left (nz hm')
     have d0:=(hpc3.below hbF) m hm'
     clear hpc3
     go_wp2_with fail
     have hb23:=hb2
     have hbF3:=hbF
     refine (sameNumber_any xs[k] ys[m] _).mono ?_
     rintro e w4 ⟨rfl,hb4⟩
     have hbG:Below w1.heap.size w1 w4:=hbF3.trans (hb4.mono hbF3.size)
     have hbG2:Below W2.heap.size W2 w4:=hb23.trans (hb4.mono hb23.size)
     clear hb4
     cases hT:(xs[k]==ys[m])
     ·have HM2:Hid (∀ q (hq:q<ys.length),q<m+1→sameP xs[k] ys[q]=false):=by
       intro q hq hqm
       by_cases e:q<m
       ·exact HMq.out q hq e
       ·have:q=m:=by omega
        subst this;exact hT
      clear hT HMq
      go_wp2_with fail
      go_roundw
      case rel=>exact ⟨m+1,by omega,by go_num,HM2,hbG2⟩
      case measure=>simp [intOf];omega
     ·have HX:Hid (crossL xs ys=true):=any_hit hk' (any_hit hm' hT)
      clear hT HMq
      go_wp2_with fail
      go_ret
      exact ⟨ret_bool HX.out.symm,hbW.trans (hbG.mono hbW.size)⟩
    ·have HQ2:Hid (∀ q (hq:q<xs.length),q<k+1→(ys.any fun y=>sameP xs[q] y)=false):=by
      intro q hq hqk
      by_cases e:q<k
      ·exact HQ.out q hq e
      ·have:q=k:=by omega
       subst this
       exact any_none (fun i hi=>HMq.out i hi (by omega))
     clear HMq HQ
     go_wp2_with fail
     go_roundw
     case rel=>exact ⟨k+1,by omega,by go_num,HQ2,hbF⟩
     case measure=>simp [intOf];omega
  ·have HX:Hid (crossL xs ys=false):=any_none (fun i hi=>HQ.out i hi (by omega))
   clear HQ
   go_wp2_with fail
   go_ret
   exact ⟨ret_bool HX.out.symm,hbW.trans (hbw.mono hbW.size)⟩
theorem anyTwoL_any (a b:Option Addr)(ac bc:Nat)(xs ys:List MEnd)(s t:MSet)(hs:Hid (s=keysF (xs.map MEnd.piece)))(ht:Hid (t=keysF (ys.map MEnd.piece)))(w:World)(ha:Hid (EndsAt w a xs))(hb:Hid (EndsAt w b ys)):
  Calls Tryz.prog 157 #[keyedV a xs.length ac s,keyedV b ys.length bc t,fnV 158] w fun e w'=>e = .returned (.bool (wantL xs ys))∧Below w.heap.size w w':=by
 have hl:=ha.out.1
 have hl2:=hb.out.1
 unfold maxLen at hl hl2
 have HOA:Hid s.Ok:=by unfold Hid;rw [hs.out];exact keysF_ok _
 have HOB:Hid t.Ok:=by unfold Hid;rw [ht.out];exact keysF_ok _
 have HPart:Hid (meetsF s t=false→wantL xs ys=false):=fun h=>any2_part (key:=MEnd.piece) (fun x y h=>by simp only [Bool.and_eq_true,beq_iff_eq] at h;exact h.1) (by rw [← hs.out,← ht.out];exact h)
 clear hs ht
 unfold keyedV fnV
 go_enter Tryz.func157,Tryz.ntmps157
 go_wp2_with fail
 generalize hW:(w.alloc _).alloc _=W
 have e0:W.cell? ⟨w.heap.size,0,none⟩=some (.slice a xs.length ac):=by rw [← hW];simp [go_sem]
 have f0:W.cell? ⟨w.heap.size+1,0,none⟩=some (.slice b ys.length bc):=by rw [← hW];simp [go_sem]
 have hbW:Below w.heap.size w W:=by rw [← hW];exact blo
 clear hW
 refine (meets_any s t HOA.out HOB.out _).mono ?_
 rintro e w1 ⟨rfl,hb1⟩
 replace e0:=cell_later hb1 e0
 replace f0:=cell_later hb1 f0
 replace hbW:=hbW.trans (hb1.mono hbW.size)
 have hz0:=cellLt e0
 have hz1:=cellLt f0
 dsimp only at hz0 hz1
 clear hb1
 cases hM:meetsF s t
 ·have HX:=hidP (HPart.out hM)
  clear hM
  go_wp2_with fail
  go_ret
  exact ⟨ret_bool HX.out.symm,hbW⟩
 clear hM HPart
 have HA1:=hidP (ha.out.below hbW)
 have HB1:=hidP (hb.out.below hbW)
 clear ha hb
 go_wp2_with fail
 go_loopw [20] (fun i wr => ∃ (k:Nat),k≤xs.length∧i = .int .i64 k∧Hid (∀ q (hq:q<xs.length),q<k→(ys.any fun y=>wantP xs[q] y)=false)∧Below w1.heap.size w1 wr) (fun i _=>xs.length-(intOf i).toNat)
 case atStart=>exact ⟨0,Nat.zero_le _,rfl,(fun q _ h=>absurd h (Nat.not_lt_zero q)),Below.refl _ _⟩
 case round =>
  obtain ⟨k,hk,rfl,HQ,hbw⟩:=hrel
  have hbs:=hbw.size
  by_cases hk':k<xs.length
  ·obtain ⟨b1,off1,rfl,hpc1⟩:=HA1.out.2.resolve_left (nz hk')
   obtain ⟨c0,c1⟩:=(hpc1.below hbw) k hk'
   have f0':=cell_later hbw f0
   have hz1':=cellLt f0'
   dsimp only at hz1'
   clear hpc1
   go_wp2_with fail
   generalize hW2:wr.alloc _=W2
   have p0:W2.cell? ⟨wr.heap.size,0,none⟩=some (.int .i64 xs[k].piece):=by rw [← hW2];simp [go_sem]
   have p1:W2.cell? ⟨wr.heap.size,1,none⟩=some (.int .i64 xs[k].side):=by rw [← hW2];simp [go_sem]
   have hbW2:Below w1.heap.size w1 W2:=by rw [← hW2];exact blo
   have hzW2:wr.heap.size<W2.heap.size:=cellLt p0
   clear hW2 c0 c1 hbw hbs f0' hz1'
   go_loopw [27] (fun i wr2 => ∃ (m:Nat),m≤ys.length∧i = .int .i64 m∧Hid (∀ q (hq:q<ys.length),q<m→wantP xs[k] ys[q]=false)∧Below W2.heap.size W2 wr2) (fun i _=>ys.length-(intOf i).toNat)
   case atStart=>exact ⟨0,Nat.zero_le _,rfl,(fun q _ h=>absurd h (Nat.not_lt_zero q)),Below.refl _ _⟩
   case round =>
    obtain ⟨m,hm,rfl,HMq,hb2⟩:=hrel
    have hbs2:=hb2.size
    have hbF:=hbW2.trans (hb2.mono hbW2.size)
    have hbsF:=hbF.size
    by_cases hm':m<ys.length
    ·obtain ⟨b3,off3,rfl,hpc3⟩:=HB1.out.2.resolve_left (nz hm')
     obtain ⟨d0,d1⟩:=(hpc3.below hbF) m hm'
     have q0:=cell_later hb2 p0
     have q1:=cell_later hb2 p1
     have hzq:=Nat.lt_of_lt_of_le hzW2 hb2.size
     clear hpc3
     go_wp2_with fail
     generalize hW3:wr.alloc _=W3
     have hb23:Below W2.heap.size W2 W3:=by rw [← hW3];exact blo
     have hbF3:Below w1.heap.size w1 W3:=by rw [← hW3];exact blo
     clear hW3
     refine (contradicts_any xs[k] ys[m] _).mono ?_
     rintro e w4 ⟨rfl,hb4⟩
     have hbG:Below w1.heap.size w1 w4:=hbF3.trans (hb4.mono hbF3.size)
     have hbG2:Below W2.heap.size W2 w4:=hb23.trans (hb4.mono hb23.size)
     clear hb4
     cases hT:(xs[k].piece==ys[m].piece&&xs[k].side != ys[m].side)
     ·have HM2:Hid (∀ q (hq:q<ys.length),q<m+1→wantP xs[k] ys[q]=false):=by
       intro q hq hqm
       by_cases e:q<m
       ·exact HMq.out q hq e
       ·have:q=m:=by omega
        subst this;exact hT
      clear hT HMq
      go_wp2_with fail
      go_roundw
      case rel=>exact ⟨m+1,by omega,by go_num,HM2,hbG2⟩
      case measure=>simp [intOf];omega
     ·have HX:Hid (wantL xs ys=true):=any_hit hk' (any_hit hm' hT)
      clear hT HMq
      go_wp2_with fail
      go_ret
      exact ⟨ret_bool HX.out.symm,hbW.trans (hbG.mono hbW.size)⟩
    ·have HQ2:Hid (∀ q (hq:q<xs.length),q<k+1→(ys.any fun y=>wantP xs[q] y)=false):=by
      intro q hq hqk
      by_cases e:q<k
      ·exact HQ.out q hq e
      ·have:q=k:=by omega
       subst this
       exact any_none (fun i hi=>HMq.out i hi (by omega))
     clear HMq HQ
     go_wp2_with fail
     go_roundw
     case rel=>exact ⟨k+1,by omega,by go_num,HQ2,hbF⟩
     case measure=>simp [intOf];omega
  ·have HX:Hid (wantL xs ys=false):=any_none (fun i hi=>HQ.out i hi (by omega))
   clear HQ
   go_wp2_with fail
   go_ret
   exact ⟨ret_bool HX.out.symm,hbW.trans (hbw.mono hbW.size)⟩
end Go.Proofs.YtmkdgnmmebldgaaGreatDoor
