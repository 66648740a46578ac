import Derived.Test.YtmkdgnmmebldgabGreatDoorPc35
import Derived.Laws.ShiftsVarLaws
import Derived.Test.YtmkdgnmmebldgabGreatDoorPc40
import Derived.Deep.RegionHeld3
set_option maxRecDepth 100000
set_option maxHeartbeats 8000000
namespace Go.Proofs.YtmkdgnmmebldgabGreatDoor
open Go.RowKit Go.Deep
def setV (s:MSet):Value:=.agg #[.int .u64 s.a,.int .u64 s.b]
theorem wrap_rem (n:Int):(IntKind.u64.wrap n).tmod 128=(bitN n:Nat):=by
 rw [IntKind.wrap_u64,tmod_of_emod]
 unfold bitN
 omega
theorem cast_pow (k:Nat):(2:Int) ^ k=((2 ^ k:Nat):Int):=by rw [Int.natCast_pow];rfl
theorem wrap_pow (k:Nat)(h:k<64):IntKind.u64.wrap (2 ^ k)=((2 ^ k:Nat):Int):=by
 have hp:=pow64 h
 rw [IntKind.wrap_u64,cast_pow]
 generalize 2 ^ k=p at hp ⊢
 omega
theorem or_pow {a k:Nat}(ha:a<18446744073709551616)(hk:k<64):bits .or .u64 (a:Int) (2 ^ k)=((a ||| 2 ^ k:Nat):Int):=by
 rw [cast_pow]
 exact u64_or_nat a (2 ^ k) ha (pow64 hk)
theorem ret_set {a b a' b':Int}(h1:a=a')(h2:b=b'):Ending.returned (.agg #[.int .u64 a,.int .u64 b]) = .returned (.agg #[.int .u64 a',.int .u64 b']):=by rw [h1,h2]
theorem with_any (s:MSet)(n:Int)(hs:s.Ok)(w:World):
  Calls Tryz.prog 180 #[setV s,.int .i64 n] w fun e w'=>e = .returned (setV (withF s n))∧Below w.heap.size w w':=by
 unfold setV
 have h0:=wrap_rem n
 have hlt:=bitN_lt n
 have HW:Hid (withF s n=if bitN n<64 then ⟨s.a ||| 2 ^ (bitN n % 64),s.b⟩ else ⟨s.a,s.b ||| 2 ^ (bitN n % 64)⟩):=rfl
 generalize bitN n=c at h0 hlt HW
 have hk:c % 64<64:=Nat.mod_lt _ (by omega)
 by_cases hc:c<64
 ·have h1:(c:Int) / 64=0:=by omega
  have h2:c / 64=0:=by omega
  have h3:=wrap_pow (c % 64) hk
  have HA:Hid (bits .or .u64 (s.a:Int) (2 ^ (c % 64))=((withF s n).a:Nat)):=by unfold Hid;rw [HW.out,if_pos hc];exact or_pow hs.1 hk
  have HB:Hid (((s.b:Nat):Int)=((withF s n).b:Nat)):=by unfold Hid;rw [HW.out,if_pos hc]
  go_enter Tryz.func180,Tryz.ntmps180
  go_wp2_with fail
  exact bodyPost_ret (v:=.agg #[.int .u64 (bits .or .u64 (s.a:Int) (2 ^ (c % 64))),.int .u64 s.b]) (by simp [results,Tryz.results180,go_sem]) rfl ⟨ret_set HA.out HB.out,blo⟩
 ·have h1:(c:Int) / 64=1:=by omega
  have h2:c / 64=1:=by omega
  have h3:=wrap_pow (c % 64) hk
  have HA:Hid (((s.a:Nat):Int)=((withF s n).a:Nat)):=by unfold Hid;rw [HW.out,if_neg hc]
  have HB:Hid (bits .or .u64 (s.b:Int) (2 ^ (c % 64))=((withF s n).b:Nat)):=by unfold Hid;rw [HW.out,if_neg hc];exact or_pow hs.2 hk
  go_enter Tryz.func180,Tryz.ntmps180
  go_wp2_with fail
  exact bodyPost_ret (v:=.agg #[.int .u64 s.a,.int .u64 (bits .or .u64 (s.b:Int) (2 ^ (c % 64)))]) (by simp [results,Tryz.results180,go_sem]) rfl ⟨ret_set HA.out HB.out,blo⟩
theorem and_nat {a b:Nat}(ha:a<18446744073709551616)(hb:b<18446744073709551616):(bits .and .u64 (a:Int) (b:Int) != 0)=(a &&& b != 0):=by
 rw [u64_and_nat a b ha hb,Bool.eq_iff_iff]
 simp only [bne_iff_ne,ne_eq]
 omega
theorem index_set0 (a b:Int)(w:World):(Instr.index 217 (.agg #[.int .u64 a,.int .u64 b]) (.int .i64 0)).run Tryz.prog w = .ok (.int .u64 a) w:=by kernel_rfl
theorem index_set1 (a b:Int)(w:World):(Instr.index 217 (.agg #[.int .u64 a,.int .u64 b]) (.int .i64 1)).run Tryz.prog w = .ok (.int .u64 b) w:=by kernel_rfl
theorem meets_any (s t:MSet)(hs:s.Ok)(ht:t.Ok)(w:World):
  Calls Tryz.prog 181 #[setV s,setV t] w fun e w'=>e = .returned (.bool (meetsF s t))∧Below w.heap.size w w':=by
 unfold setV
 have hi0:=index_set0 s.a s.b
 have hi1:=index_set1 s.a s.b
 have HA:=hidP (and_nat hs.1 ht.1)
 have HB:=hidP (and_nat hs.2 ht.2)
 go_enter Tryz.func181,Tryz.ntmps181
 go_wp2_with fail
 generalize hW:(w.alloc _).alloc _=W
 have y0:W.cell? ⟨w.heap.size+1,0,none⟩=some (.int .u64 t.a):=by rw [← hW];simp [go_sem]
 have y1:W.cell? ⟨w.heap.size+1,1,none⟩=some (.int .u64 t.b):=by rw [← hW];simp [go_sem]
 have hz:w.heap.size+1<W.heap.size:=cellLt y0
 have hbW:Below w.heap.size w W:=by rw [← hW];exact blo
 clear hW
 go_loopw [8] (fun i wr => ∃ (k:Nat),k≤2∧i = .int .i64 k∧Hid (1≤k→(s.a &&& t.a != 0)=false)∧Hid (2≤k→(s.b &&& t.b != 0)=false)∧Below W.heap.size W wr) (fun i _=>2-(intOf i).toNat)
 case atStart=>exact ⟨0,by omega,rfl,(fun h=>absurd h (by omega)),(fun h=>absurd h (by omega)),Below.refl _ _⟩
 case round =>
  obtain ⟨k,hk,rfl,H1,H2,hb⟩:=hrel
  have z0:=cell_later hb y0
  have z1:=cell_later hb y1
  have hzr:=cellLt z0
  have hbF:=hbW.trans (hb.mono hbW.size)
  have hk3:k=0∨k=1∨k=2:=by omega
  rcases hk3 with rfl | rfl | rfl
  ·cases hA:(s.a &&& t.a != 0)
   ·have hX:(bits .and .u64 (s.a:Int) (t.a:Int) != 0)=false:=by rw [HA.out,hA]
    have H1':Hid (1≤0+1→(s.a &&& t.a != 0)=false):=fun _=>hA
    clear hA
    go_wp2_with fail
    go_roundw
    case rel=>exact ⟨0+1,by omega,by go_num,(by first | exact H1' | exact fun _=>trivial),(fun h=>absurd h (by omega)),hb⟩
    case measure=>simp [intOf]
   ·have hX:(bits .and .u64 (s.a:Int) (t.a:Int) != 0)=true:=by rw [HA.out,hA]
    have HM:Hid (meetsF s t=true):=by unfold Hid meetsF;rw [hA];rfl
    clear hA
    go_wp2_with fail
    go_ret
    exact ⟨ret_bool HM.out.symm,hbF⟩
  ·cases hB:(s.b &&& t.b != 0)
   ·have hX:(bits .and .u64 (s.b:Int) (t.b:Int) != 0)=false:=by rw [HB.out,hB]
    have H2':Hid (2≤1+1→(s.b &&& t.b != 0)=false):=fun _=>hB
    have H1':Hid (1≤1+1→(s.a &&& t.a != 0)=false):=fun _=>H1.out (by omega)
    clear hB
    go_wp2_with fail
    go_roundw
    case rel=>exact ⟨1+1,by omega,by go_num,H1',(by first | exact H2' | exact fun _=>trivial),hb⟩
    case measure=>simp [intOf]
   ·have hX:(bits .and .u64 (s.b:Int) (t.b:Int) != 0)=true:=by rw [HB.out,hB]
    have HM:Hid (meetsF s t=true):=by unfold Hid meetsF;rw [hB];simp
    clear hB
    go_wp2_with fail
    go_ret
    exact ⟨ret_bool HM.out.symm,hbF⟩
  ·have HM:Hid (meetsF s t=false):=by unfold Hid meetsF;rw [H1.out (by omega),H2.out (by omega)];rfl
   go_wp2_with fail
   go_ret
   exact ⟨ret_bool HM.out.symm,hbF⟩
def prtV (p:MPart):Value:=.agg #[.int .i64 p.piece,.int .i64 p.lo,.int .i64 p.hi]
def lieV (p:MEnd):Value:=.agg #[.int .i64 p.piece,.int .i64 p.side]
theorem partKey_any (p:MPart)(w:World):Calls Tryz.prog 145 #[prtV p] w fun e w'=>e = .returned (.int .i64 p.piece)∧Below w.heap.size w w':=by
 unfold prtV
 go_enter Tryz.func145,Tryz.ntmps145
 go_wp2_with fail
 go_ret
 exact ⟨rfl,blo⟩
theorem lieKey_any (p:MEnd)(w:World):Calls Tryz.prog 150 #[lieV p] w fun e w'=>e = .returned (.int .i64 p.piece)∧Below w.heap.size w w':=by
 unfold lieV
 go_enter Tryz.func150,Tryz.ntmps150
 go_wp2_with fail
 go_ret
 exact ⟨rfl,blo⟩
theorem ownKey_any (n:Int)(w:World):Calls Tryz.prog 147 #[.int .i64 n] w fun e w'=>e = .returned (.int .i64 n)∧Below w.heap.size w w':=by
 go_enter Tryz.func147,Tryz.ntmps147
 go_wp2_with fail
 go_ret
 exact ⟨rfl,blo⟩
theorem sameNumber_any (n m:Int)(w:World):Calls Tryz.prog 154 #[.int .i64 n,.int .i64 m] w fun e w'=>e = .returned (.bool (n==m))∧Below w.heap.size w w':=by
 go_enter Tryz.func154,Tryz.ntmps154
 go_wp2_with fail
 go_ret
 exact ⟨rfl,blo⟩
theorem contradicts_any (x y:MEnd)(w:World):Calls Tryz.prog 156 #[lieV x,lieV y] w fun e w'=>e = .returned (.bool (x.piece==y.piece&&x.side != y.side))∧Below w.heap.size w w':=by
 unfold lieV
 go_enter Tryz.func156,Tryz.ntmps156
 cases t1:(x.piece==y.piece) <;> cases t2:(x.side != y.side)
 all_goals
  go_wp2_with fail
  go_ret
  exact ⟨rfl,blo⟩
theorem touches_any (x y:MPart)(w:World):Calls Tryz.prog 152 #[prtV x,prtV y] w fun e w'=>e = .returned (.bool (touchP x y))∧Below w.heap.size w w':=by
 unfold prtV touchP
 go_enter Tryz.func152,Tryz.ntmps152
 cases t1:(x.piece==y.piece) <;> cases t2:decide (x.lo≤y.hi) <;> cases t3:decide (y.lo≤x.hi)
 all_goals
  go_wp2_with fail
  go_ret
  exact ⟨rfl,blo⟩
def fnV (f:FuncId):Value:=.func (.func f) #[] #[]
def keyedV (a:Option Addr)(n c:Nat)(s:MSet):Value:=.agg #[.slice a n c,.int .u64 s.a,.int .u64 s.b]
theorem keys_take {α:Type}(key:α→Int)(xs:List α)(k:Nat)(hk:k<xs.length):keysF ((xs.take (k+1)).map key)=withF (keysF ((xs.take k).map key)) (key xs[k]):=by
 rw [List.take_succ_eq_append_getElem hk,List.map_append,List.map_cons,List.map_nil,keys_snoc]
def KBox (w:World)(B:Nat)(T:TypeId)(a:Option Addr)(n c:Nat)(s:MSet):Prop := ∃ f,w.rowIs B T 3 f∧f 0 = .slice a n c∧f 1 = .int .u64 s.a∧f 2 = .int .u64 s.b
theorem KBox.kept {w w':World}{B:Nat}{T:TypeId}{a:Option Addr}{n c:Nat}{s:MSet}(h:KBox w B T a n c s)(e:w'.heap[B]? = w.heap[B]?):KBox w' B T a n c s:=by
 obtain ⟨f,h1,h2⟩:=h
 exact ⟨f,h1.of_block e,h2⟩
theorem KBox.c0 {w:World}{B:Nat}{T:TypeId}{a:Option Addr}{n c:Nat}{s:MSet}(h:KBox w B T a n c s):w.cell? ⟨B,0,none⟩=some (.slice a n c):=by
 obtain ⟨f,h1,h2,h3,h4⟩:=h
 rw [h1.cell (by omega),h2]
theorem KBox.c1 {w:World}{B:Nat}{T:TypeId}{a:Option Addr}{n c:Nat}{s:MSet}(h:KBox w B T a n c s):w.cell? ⟨B,1,none⟩=some (.int .u64 s.a):=by
 obtain ⟨f,h1,h2,h3,h4⟩:=h
 rw [h1.cell (by omega),h3]
theorem KBox.c2 {w:World}{B:Nat}{T:TypeId}{a:Option Addr}{n c:Nat}{s:MSet}(h:KBox w B T a n c s):w.cell? ⟨B,2,none⟩=some (.int .u64 s.b):=by
 obtain ⟨f,h1,h2,h3,h4⟩:=h
 rw [h1.cell (by omega),h4]
theorem KBox.lt {w:World}{B:Nat}{T:TypeId}{a:Option Addr}{n c:Nat}{s:MSet}(h:KBox w B T a n c s):B<w.heap.size:=cellLt h.c0
theorem KBox.below {w w':World}{B:Nat}{T:TypeId}{a:Option Addr}{n c:Nat}{s:MSet}(h:KBox w B T a n c s)(hb:Below w.heap.size w w'):KBox w' B T a n c s:=h.kept (hb.block B h.lt)
theorem KBox.frozen {w:World}{B:Nat}{T:TypeId}{a:Option Addr}{n c:Nat}{s:MSet}(h:KBox w B T a n c s)(i:Nat):w.frozen? ⟨B,i,none⟩=false:=by
 obtain ⟨f,h1,_⟩:=h
 exact h1.frozen i
theorem KBox.setS {w:World}{B:Nat}{T:TypeId}{a:Option Addr}{n c:Nat}{s:MSet}(h:KBox w B T a n c s)(s':MSet):KBox ((w.setCell ⟨B,1,none⟩ (.int .u64 s'.a)).setCell ⟨B,2,none⟩ (.int .u64 s'.b)) B T a n c s':=by
 obtain ⟨f,h1,h2,h3,h4⟩:=h
 exact ⟨_,(h1.set 1 _).set 2 _,by simpa using h2,by simp,by simp⟩
theorem KBox.made (w:World)(T:TypeId)(a:Option Addr)(n c:Nat)(s:MSet):KBox (w.alloc (.cells #[.slice a n c,.int .u64 s.a,.int .u64 s.b] T)) w.heap.size T a n c s:=
 ⟨_,row_of_alloc w #[.slice a n c,.int .u64 s.a,.int .u64 s.b] T,rfl,rfl,rfl⟩
theorem keyedByP_any (a:Option Addr)(c:Nat)(xs:List MPart)(w:World)(ha:Hid (PartsAt w a xs)):
  Calls Tryz.prog 144 #[.slice a xs.length c,fnV 145] w fun e w'=>e = .returned (keyedV a xs.length c (keysF (xs.map MPart.piece)))∧Below w.heap.size w w':=by
 have hl:=ha.out.1
 unfold maxLen at hl
 unfold keyedV fnV
 go_enter Tryz.func144,Tryz.ntmps144
 go_wp2_with fail
 generalize hW:(w.alloc _).alloc _=W
 have HQ0:Hid (KBox W w.heap.size 219 none 0 0 emptyF):=by rw [← hW];exact (KBox.made w _ none 0 0 emptyF).below blo
 have HK0:Hid (KBox W (w.heap.size+1) 219 a xs.length c (keysF ((xs.take 0).map MPart.piece))):=by rw [← hW];have h:=KBox.made (w.alloc (Obj.cells #[Value.slice none 0 0,Value.int IntKind.u64 0,Value.int IntKind.u64 0] 219)) 219 a xs.length c emptyF;rw [show (w.alloc (Obj.cells #[Value.slice none 0 0,Value.int IntKind.u64 0,Value.int IntKind.u64 0] 219)).heap.size=w.heap.size+1 by simp] at h;exact h
 have hbW:Below w.heap.size w W:=by rw [← hW];exact blo
 clear hW
 go_loopw [12] (fun i wr => ∃ (k:Nat),k≤xs.length∧i = .int .i64 k∧Hid (KBox wr w.heap.size 219 none 0 0 emptyF)∧Hid (KBox wr (w.heap.size+1) 219 a xs.length c (keysF ((xs.take k).map MPart.piece)))∧Below w.heap.size w wr) (fun i _=>xs.length-(intOf i).toNat)
 case atStart=>exact ⟨0,Nat.zero_le _,rfl,HQ0,HK0,hbW⟩
 case round =>
  clear HQ0 HK0 hbW
  obtain ⟨k,hk,rfl,HQ,HK,hb⟩:=hrel
  have hbs:=hb.size
  by_cases hk':k<xs.length
  ·obtain ⟨b1,off1,rfl,hpc⟩:=ha.out.2.resolve_left (nz hk')
   obtain ⟨c0,c1,c2⟩:=(hpc.below hb) k hk'
   have HS:=hidP (keys_take MPart.piece xs k hk')
   have HOk:=hidP (keysF_ok ((xs.take k).map MPart.piece))
   generalize keysF ((xs.take k).map MPart.piece)=s at HK HS HOk
   have kc0:=HK.out.c0
   have kc1:=HK.out.c1
   have kc2:=HK.out.c2
   have hzk:=HK.out.lt
   have hzk':w.heap.size<wr.heap.size:=by omega
   clear hpc
   go_wp2_with fail
   generalize hW2:wr.alloc _=W2
   have hbw2:Below wr.heap.size wr W2:=by rw [← hW2];exact blo
   have i0:W2.cell? ⟨wr.heap.size,0,none⟩=some (.int .i64 xs[k].piece):=by rw [← hW2];simp [go_sem]
   have i1:W2.cell? ⟨wr.heap.size,1,none⟩=some (.int .i64 xs[k].lo):=by rw [← hW2];simp [go_sem]
   have i2:W2.cell? ⟨wr.heap.size,2,none⟩=some (.int .i64 xs[k].hi):=by rw [← hW2];simp [go_sem]
   have hzw2:wr.heap.size<W2.heap.size:=cellLt i0
   clear hW2 c0 c1 c2
   replace kc0:=cell_later hbw2 kc0
   replace kc1:=cell_later hbw2 kc1
   replace kc2:=cell_later hbw2 kc2
   have HK2:=hidP (HK.out.below hbw2)
   have HQ2:=hidP (HQ.out.below hbw2)
   replace hzk:=Nat.lt_of_lt_of_le hzk hbw2.size
   have hb2w:=hb.trans (hbw2.mono hb.size)
   clear HK HQ hbw2 hb hbs hzk'
   go_region_with (first
    | (go_at_call 145;refine (partKey_any xs[k] _).mono ?_;rintro e w2 ⟨rfl,hb2⟩;have hbD:Below W2.heap.size W2 w2:=(Below.refl _ _).drew.trans hb2;have kc1':=cell_later hbD kc1;have kc2':=cell_later hbD kc2;have kc0':=cell_later hbD kc0;have hzk2:=Nat.lt_of_lt_of_le hzk hbD.size)
    | (go_at_call 180;refine (with_any s _ HOk.out _).mono ?_;rintro e w3 ⟨rfl,hb3⟩;unfold setV;have hbE:=hbD.trans (hb3.mono hbD.size);have HK3:=hidP (HK2.out.below hbE);have HQ3:=hidP (HQ2.out.below hbE);have kc1'':=HK3.out.c1;have kc2'':=HK3.out.c2;have kf1:=HK3.out.frozen 1;have kf2:=HK3.out.frozen 2;have hzk3:=HK3.out.lt))
   all_goals
    have hb4:=hb2w.trans (hbE.mono hb2w.size)
    have hbs4:=hb4.size
    have HK4:=hidP (HK3.out.setS (withF s xs[k].piece))
    clear hb2 hb3
    go_wp2_with fail
    go_roundw
    case rel=>exact ⟨k+1,by omega,by go_num,HQ3.out.kept (by rw [Below.heap_setCell _ _ _ _ (by simp),Below.heap_setCell _ _ _ _ (by simp)]),by rw [HS.out];exact HK4,blo⟩
    case measure=>simp [intOf];omega
  ·have HT:Hid (xs.take k=xs):=List.take_of_length_le (by omega)
   rw [HT.out] at HK
   have kc0:=HK.out.c0
   have kc1:=HK.out.c1
   have kc2:=HK.out.c2
   have hzk:=HK.out.lt
   have q0:=HQ.out.c0
   have q1:=HQ.out.c1
   have q2:=HQ.out.c2
   have qf0:=HQ.out.frozen 0
   have qf1:=HQ.out.frozen 1
   have qf2:=HQ.out.frozen 2
   have hzk':w.heap.size<wr.heap.size:=by omega
   clear HT HQ HK
   go_wp2_with fail
   exact bodyPost_ret (v:=.agg #[.slice a xs.length c,.int .u64 (keysF (xs.map MPart.piece)).a,.int .u64 (keysF (xs.map MPart.piece)).b]) (by simp [results,Tryz.results144,go_sem,q0,q1,q2]) rfl ⟨rfl,blo⟩
theorem keyedByN_any (a:Option Addr)(c:Nat)(xs:List Int)(w:World)(ha:Hid (NumsAt w a xs)):
  Calls Tryz.prog 146 #[.slice a xs.length c,fnV 147] w fun e w'=>e = .returned (keyedV a xs.length c (keysF (xs.map id)))∧Below w.heap.size w w':=by
 have hl:=ha.out.1
 unfold maxLen at hl
 unfold keyedV fnV
 go_enter Tryz.func146,Tryz.ntmps146
 go_wp2_with fail
 generalize hW:(w.alloc _).alloc _=W
 have HQ0:Hid (KBox W w.heap.size 221 none 0 0 emptyF):=by rw [← hW];exact (KBox.made w _ none 0 0 emptyF).below blo
 have HK0:Hid (KBox W (w.heap.size+1) 221 a xs.length c (keysF ((xs.take 0).map id))):=by rw [← hW];have h:=KBox.made (w.alloc (Obj.cells #[Value.slice none 0 0,Value.int IntKind.u64 0,Value.int IntKind.u64 0] 221)) 221 a xs.length c emptyF;rw [show (w.alloc (Obj.cells #[Value.slice none 0 0,Value.int IntKind.u64 0,Value.int IntKind.u64 0] 221)).heap.size=w.heap.size+1 by simp] at h;exact h
 have hbW:Below w.heap.size w W:=by rw [← hW];exact blo
 clear hW
 go_loopw [12] (fun i wr => ∃ (k:Nat),k≤xs.length∧i = .int .i64 k∧Hid (KBox wr w.heap.size 221 none 0 0 emptyF)∧Hid (KBox wr (w.heap.size+1) 221 a xs.length c (keysF ((xs.take k).map id)))∧Below w.heap.size w wr) (fun i _=>xs.length-(intOf i).toNat)
 case atStart=>exact ⟨0,Nat.zero_le _,rfl,HQ0,HK0,hbW⟩
 case round =>
  clear HQ0 HK0 hbW
  obtain ⟨k,hk,rfl,HQ,HK,hb⟩:=hrel
  have hbs:=hb.size
  by_cases hk':k<xs.length
  ·obtain ⟨b1,off1,rfl,hpc⟩:=ha.out.2.resolve_left (nz hk')
   have c0:=(hpc.below hb) k hk'
   have HS:=hidP (keys_take id xs k hk')
   have HOk:=hidP (keysF_ok ((xs.take k).map id))
   generalize keysF ((xs.take k).map id)=s at HK HS HOk
   have kc0:=HK.out.c0
   have kc1:=HK.out.c1
   have kc2:=HK.out.c2
   have hzk:=HK.out.lt
   have hzk':w.heap.size<wr.heap.size:=by omega
   clear hpc
   go_wp2_with fail
   generalize hW2:wr=W2 at *
   have HK2:=HK
   have HQ2:=HQ
   have hb2w:=hb
   clear HK HQ hb hbs hzk'
   go_region_with (first
    | (go_at_call 147;refine (ownKey_any _ _).mono ?_;rintro e w2 ⟨rfl,hb2⟩;have hbD:Below W2.heap.size W2 w2:=(Below.refl _ _).drew.trans hb2;have kc1':=cell_later hbD kc1;have kc2':=cell_later hbD kc2;have kc0':=cell_later hbD kc0;have hzk2:=Nat.lt_of_lt_of_le hzk hbD.size)
    | (go_at_call 180;refine (with_any s _ HOk.out _).mono ?_;rintro e w3 ⟨rfl,hb3⟩;unfold setV;have hbE:=hbD.trans (hb3.mono hbD.size);have HK3:=hidP (HK2.out.below hbE);have HQ3:=hidP (HQ2.out.below hbE);have kc1'':=HK3.out.c1;have kc2'':=HK3.out.c2;have kf1:=HK3.out.frozen 1;have kf2:=HK3.out.frozen 2;have hzk3:=HK3.out.lt))
   all_goals
    have hb4:=hb2w.trans (hbE.mono hb2w.size)
    have hbs4:=hb4.size
    have HK4:=hidP (HK3.out.setS (withF s xs[k]))
    clear hb2 hb3
    go_wp2_with fail
    go_roundw
    case rel=>exact ⟨k+1,by omega,by go_num,HQ3.out.kept (by rw [Below.heap_setCell _ _ _ _ (by simp),Below.heap_setCell _ _ _ _ (by simp)]),by rw [HS.out];exact HK4,blo⟩
    case measure=>simp [intOf];omega
  ·have HT:Hid (xs.take k=xs):=List.take_of_length_le (by omega)
   rw [HT.out] at HK
   have kc0:=HK.out.c0
   have kc1:=HK.out.c1
   have kc2:=HK.out.c2
   have hzk:=HK.out.lt
   have q0:=HQ.out.c0
   have q1:=HQ.out.c1
   have q2:=HQ.out.c2
   have qf0:=HQ.out.frozen 0
   have qf1:=HQ.out.frozen 1
   have qf2:=HQ.out.frozen 2
   have hzk':w.heap.size<wr.heap.size:=by omega
   clear HT HQ HK
   go_wp2_with fail
   exact bodyPost_ret (v:=.agg #[.slice a xs.length c,.int .u64 (keysF (xs.map id)).a,.int .u64 (keysF (xs.map id)).b]) (by simp [results,Tryz.results146,go_sem,q0,q1,q2]) rfl ⟨rfl,blo⟩
theorem keyedByL_any (a:Option Addr)(c:Nat)(xs:List MEnd)(w:World)(ha:Hid (EndsAt w a xs)):
  Calls Tryz.prog 148 #[.slice a xs.length c,fnV 150] w fun e w'=>e = .returned (keyedV a xs.length c (keysF (xs.map MEnd.piece)))∧Below w.heap.size w w':=by
 have hl:=ha.out.1
 unfold maxLen at hl
 unfold keyedV fnV
 go_enter Tryz.func148,Tryz.ntmps148
 go_wp2_with fail
 generalize hW:(w.alloc _).alloc _=W
 have HQ0:Hid (KBox W w.heap.size 223 none 0 0 emptyF):=by rw [← hW];exact (KBox.made w _ none 0 0 emptyF).below blo
 have HK0:Hid (KBox W (w.heap.size+1) 223 a xs.length c (keysF ((xs.take 0).map MEnd.piece))):=by rw [← hW];have h:=KBox.made (w.alloc (Obj.cells #[Value.slice none 0 0,Value.int IntKind.u64 0,Value.int IntKind.u64 0] 223)) 223 a xs.length c emptyF;rw [show (w.alloc (Obj.cells #[Value.slice none 0 0,Value.int IntKind.u64 0,Value.int IntKind.u64 0] 223)).heap.size=w.heap.size+1 by simp] at h;exact h
 have hbW:Below w.heap.size w W:=by rw [← hW];exact blo
 clear hW
 go_loopw [12] (fun i wr => ∃ (k:Nat),k≤xs.length∧i = .int .i64 k∧Hid (KBox wr w.heap.size 223 none 0 0 emptyF)∧Hid (KBox wr (w.heap.size+1) 223 a xs.length c (keysF ((xs.take k).map MEnd.piece)))∧Below w.heap.size w wr) (fun i _=>xs.length-(intOf i).toNat)
 case atStart=>exact ⟨0,Nat.zero_le _,rfl,HQ0,HK0,hbW⟩
 case round =>
  clear HQ0 HK0 hbW
  obtain ⟨k,hk,rfl,HQ,HK,hb⟩:=hrel
  have hbs:=hb.size
  by_cases hk':k<xs.length
  ·obtain ⟨b1,off1,rfl,hpc⟩:=ha.out.2.resolve_left (nz hk')
   obtain ⟨c0,c1⟩:=(hpc.below hb) k hk'
   have HS:=hidP (keys_take MEnd.piece xs k hk')
   have HOk:=hidP (keysF_ok ((xs.take k).map MEnd.piece))
   generalize keysF ((xs.take k).map MEnd.piece)=s at HK HS HOk
   have kc0:=HK.out.c0
   have kc1:=HK.out.c1
   have kc2:=HK.out.c2
   have hzk:=HK.out.lt
   have hzk':w.heap.size<wr.heap.size:=by omega
   clear hpc
   go_wp2_with fail
   generalize hW2:wr.alloc _=W2
   have hbw2:Below wr.heap.size wr W2:=by rw [← hW2];exact blo
   have i0:W2.cell? ⟨wr.heap.size,0,none⟩=some (.int .i64 xs[k].piece):=by rw [← hW2];simp [go_sem]
   have i1:W2.cell? ⟨wr.heap.size,1,none⟩=some (.int .i64 xs[k].side):=by rw [← hW2];simp [go_sem]
   have hzw2:wr.heap.size<W2.heap.size:=cellLt i0
   clear hW2 c0 c1
   replace kc0:=cell_later hbw2 kc0
   replace kc1:=cell_later hbw2 kc1
   replace kc2:=cell_later hbw2 kc2
   have HK2:=hidP (HK.out.below hbw2)
   have HQ2:=hidP (HQ.out.below hbw2)
   replace hzk:=Nat.lt_of_lt_of_le hzk hbw2.size
   have hb2w:=hb.trans (hbw2.mono hb.size)
   clear HK HQ hbw2 hb hbs hzk'
   go_region_with (first
    | (go_at_call 150;refine (lieKey_any xs[k] _).mono ?_;rintro e w2 ⟨rfl,hb2⟩;have hbD:Below W2.heap.size W2 w2:=(Below.refl _ _).drew.trans hb2;have kc1':=cell_later hbD kc1;have kc2':=cell_later hbD kc2;have kc0':=cell_later hbD kc0;have hzk2:=Nat.lt_of_lt_of_le hzk hbD.size)
    | (go_at_call 180;refine (with_any s _ HOk.out _).mono ?_;rintro e w3 ⟨rfl,hb3⟩;unfold setV;have hbE:=hbD.trans (hb3.mono hbD.size);have HK3:=hidP (HK2.out.below hbE);have HQ3:=hidP (HQ2.out.below hbE);have kc1'':=HK3.out.c1;have kc2'':=HK3.out.c2;have kf1:=HK3.out.frozen 1;have kf2:=HK3.out.frozen 2;have hzk3:=HK3.out.lt))
   all_goals
    have hb4:=hb2w.trans (hbE.mono hb2w.size)
    have hbs4:=hb4.size
    have HK4:=hidP (HK3.out.setS (withF s xs[k].piece))
    clear hb2 hb3
    go_wp2_with fail
    go_roundw
    case rel=>exact ⟨k+1,by omega,by go_num,HQ3.out.kept (by rw [Below.heap_setCell _ _ _ _ (by simp),Below.heap_setCell _ _ _ _ (by simp)]),by rw [HS.out];exact HK4,blo⟩
    case measure=>simp [intOf];omega
  ·have HT:Hid (xs.take k=xs):=List.take_of_length_le (by omega)
   rw [HT.out] at HK
   have kc0:=HK.out.c0
   have kc1:=HK.out.c1
   have kc2:=HK.out.c2
   have hzk:=HK.out.lt
   have q0:=HQ.out.c0
   have q1:=HQ.out.c1
   have q2:=HQ.out.c2
   have qf0:=HQ.out.frozen 0
   have qf1:=HQ.out.frozen 1
   have qf2:=HQ.out.frozen 2
   have hzk':w.heap.size<wr.heap.size:=by omega
   clear HT HQ HK
   go_wp2_with fail
   exact bodyPost_ret (v:=.agg #[.slice a xs.length c,.int .u64 (keysF (xs.map MEnd.piece)).a,.int .u64 (keysF (xs.map MEnd.piece)).b]) (by simp [results,Tryz.results148,go_sem,q0,q1,q2]) rfl ⟨rfl,blo⟩
end Go.Proofs.YtmkdgnmmebldgabGreatDoor
