import Derived.Test.YtmkdgnmmebldgaaGreatDoorPk33
import Derived.Test.YtmkdgnmmebldgaaGreatDoorPk35
import Derived.Laws.ShiftsVarLaws
import Derived.Deep.RegionHeld3
import Derived.Test.YtmkdgnmmebldgaaGreatDoorPk19
set_option maxRecDepth 100000
set_option maxHeartbeats 8000000
open Go.Proofs.Tryz
namespace Go.Proofs.YtmkdgnmmebldgaaGreatDoor
open Go.RowKit Go.Deep
variable {B c n:Nat}{T:TypeId}{a:Option Addr}{s:dp}{w:World}
def lV (s:dp):Value:=.agg #[.int .u64 s.a,.int .u64 s.b]
theorem An (n:Int):(IntKind.u64.wrap n).tmod 128=(gu n:Nat):=by
 rw [IntKind.wrap_u64,tmod_of_emod];unfold gu;omega
theorem tJ (k:Nat):(2:Int) ^ k=((2 ^ k:Nat):Int):=by rw [Int.natCast_pow];rfl
theorem tE (k:Nat)(h:k<64):IntKind.u64.wrap (2 ^ k)=((2 ^ k:Nat):Int):=by
 have hp:=wg h;rw [IntKind.wrap_u64,tJ];generalize 2 ^ k=p at hp ⊢;omega
theorem zt {a k:Nat}(ha:a<18446744073709551616)(hk:k<64):bits .or .u64 (a:Int) (2 ^ k)=((a ||| 2 ^ k:Nat):Int):=by
 rw [tJ];exact u64_or_nat a (2 ^ k) ha (wg hk)
theorem vA {a b a' b':Int}(h1:a=a')(h2:b=b'):Ending.returned (.agg #[.int .u64 a,.int .u64 b]) = .returned (.agg #[.int .u64 a',.int .u64 b']):=by rw [h1,h2]
theorem pd (s:dp)(n:Int)(hs:s.Ok)(w:World):
  Calls prog 172 #[lV s,.int .i64 n] w fun e w'=>e = .returned (lV (ex s n))/\Cx w w':=by
 unfold lV;have h0:=An n;have d:=BA n;have HW:Hid (ex s n=if gu n<64 then ⟨s.a ||| 2 ^ (gu n % 64),s.b⟩ else ⟨s.a,s.b ||| 2 ^ (gu n % 64)⟩):=rfl
 generalize gu n=c at h0 d HW;have hk:c % 64<64:=Nat.mod_lt _ CG
 by_cases hc:c<64
 ·have h1:(c:Int) / 64=0:=CG
  have h2:c / 64=0:=CG
  have h3:=tE (c % 64) hk;have HA:Hid (bits .or .u64 (s.a:Int) (2 ^ (c % 64))=((ex s n).a:Nat)):=by unfold Hid;rw [HW.out,if_pos hc];exact zt hs.1 hk
  have HB:Hid (((s.b:Nat):Int)=((ex s n).b:Nat)):=by unfold Hid;rw [HW.out,if_pos hc]
  go_enter func172,ntmps172
  go_wp2_with fail
  exact bodyPost_ret (v:=.agg #[.int .u64 (bits .or .u64 (s.a:Int) (2 ^ (c % 64))),.int .u64 s.b]) (by simp [results,results172,go_sem]) rfl ⟨vA HA.out HB.out,blo⟩
 ·have h1:(c:Int) / 64=1:=CG
  have h2:c / 64=1:=CG
  have h3:=tE (c % 64) hk;have HA:Hid (((s.a:Nat):Int)=((ex s n).a:Nat)):=by unfold Hid;rw [HW.out,if_neg hc]
  have HB:Hid (bits .or .u64 (s.b:Int) (2 ^ (c % 64))=((ex s n).b:Nat)):=by unfold Hid;rw [HW.out,if_neg hc];exact zt hs.2 hk
  go_enter func172,ntmps172
  go_wp2_with fail
  exact bodyPost_ret (v:=.agg #[.int .u64 s.a,.int .u64 (bits .or .u64 (s.b:Int) (2 ^ (c % 64)))]) (by simp [results,results172,go_sem]) rfl ⟨vA HA.out HB.out,blo⟩
theorem vO {a b:Nat}(ha:a<18446744073709551616)(hb:b<18446744073709551616):(bits .and .u64 (a:Int) (b:Int) != 0)=(a &&& b != 0):=by
 rw [u64_and_nat a b ha hb,Bool.eq_iff_iff];simp only [bne_iff_ne,ne_eq];omega
theorem wG (a b:Int)(w:World):(Instr.index 226 (.agg #[.int .u64 a,.int .u64 b]) (.int .i64 0)).run prog w = .ok (.int .u64 a) w:=CH
theorem wK (a b:Int)(w:World):(Instr.index 226 (.agg #[.int .u64 a,.int .u64 b]) (.int .i64 1)).run prog w = .ok (.int .u64 b) w:=CH
theorem nG (s t:dp)(hs:s.Ok)(ht:t.Ok)(w:World):
  Calls prog 173 #[lV s,lV t] w fun e w'=>e = .returned (.bool (ej s t))/\Cx w w':=by
 unfold lV;have l:=wG s.a s.b;have m:=wK s.a s.b;have HA:=aa (vO hs.1 ht.1);have HB:=aa (vO hs.2 ht.2)
 go_enter func173,ntmps173
 go_wp2_with fail
 generalize hW:(w.alloc _).alloc _=W;have y0:W.cell? ⟨w.heap.size+1,0,none⟩=some (.int .u64 t.a):=by rw [<-hW];simp [go_sem]
 have y1:W.cell? ⟨w.heap.size+1,1,none⟩=some (.int .u64 t.b):=by rw [<-hW];simp [go_sem]
 have hz:w.heap.size+1<W.heap.size:=ai y0;have f:Cx w W:=by rw [<-hW];exact blo
 clear hW
 go_loopw [8] (fun i wr => ∃ (k:Nat),k<=2/\i = .int .i64 k/\Hid (1<=k->(s.a &&& t.a != 0)=false)/\Hid (2<=k->(s.b &&& t.b != 0)=false)/\Cx W wr) (fun i _=>2-(intOf i).toNat)
 case atStart=>exact ⟨0,CG,rfl,(fun h=>absurd h CG),(fun h=>absurd h CG),Below.refl _ _⟩
 case round =>
  obtain ⟨k,hk,rfl,H1,H2,hb⟩:=hrel;have z0:=cell_later hb y0;have z1:=cell_later hb y1;have n:=ai z0;have c:=f.trans (hb.mono f.size);have g:k=0\/k=1\/k=2:=CG
  rcases g with rfl | rfl | rfl
  ·cases hA:(s.a &&& t.a != 0)
   ·have hX:(bits .and .u64 (s.a:Int) (t.a:Int) != 0)=false:=by rw [HA.out,hA]
    have d:Hid (1<=0+1->(s.a &&& t.a != 0)=false):=fun _=>hA
    clear hA
    go_wp2_with fail
    go_roundw
    case rel=>exact ⟨0+1,CG,by go_num,(by first | exact d | exact fun _=>trivial),(fun h=>absurd h CG),hb⟩
    case measure=>simp [intOf]
   ·have hX:(bits .and .u64 (s.a:Int) (t.a:Int) != 0)=true:=by rw [HA.out,hA]
    have HM:Hid (ej s t=true):=by unfold Hid ej;rw [hA];rfl
    clear hA
    go_wp2_with fail
    go_ret
    exact ⟨aK HM.out.symm,c⟩
  ·cases hB:(s.b &&& t.b != 0)
   ·have hX:(bits .and .u64 (s.b:Int) (t.b:Int) != 0)=false:=by rw [HB.out,hB]
    have j:Hid (2<=1+1->(s.b &&& t.b != 0)=false):=fun _=>hB
    have d:Hid (1<=1+1->(s.a &&& t.a != 0)=false):=fun _=>H1.out CG
    clear hB
    go_wp2_with fail
    go_roundw
    case rel=>exact ⟨1+1,CG,by go_num,d,(by first | exact j | exact fun _=>trivial),hb⟩
    case measure=>simp [intOf]
   ·have hX:(bits .and .u64 (s.b:Int) (t.b:Int) != 0)=true:=by rw [HB.out,hB]
    have HM:Hid (ej s t=true):=by unfold Hid ej;rw [hB];simp
    clear hB
    go_wp2_with fail
    go_ret
    exact ⟨aK HM.out.symm,c⟩
  ·have HM:Hid (ej s t=false):=by unfold Hid ej;rw [H1.out CG,H2.out CG];rfl
   go_wp2_with fail
   go_ret
   exact ⟨aK HM.out.symm,c⟩
def tr (p:aI):Value:=.agg #[.int .i64 p.CB,.int .i64 p.lo,.int .i64 p.hi]
def sX (p:am):Value:=.agg #[.int .i64 p.CB,.int .i64 p.side]
theorem uT (p:aI)(w:World):Calls prog 147 #[tr p] w fun e w'=>e = .returned (.int .i64 p.CB)/\Cx w w':=by
 unfold tr
 go_enter func147,ntmps147
 go_wp2_with fail
 go_ret
 exact ⟨rfl,blo⟩
theorem xC (p:am)(w:World):Calls prog 152 #[sX p] w fun e w'=>e = .returned (.int .i64 p.CB)/\Cx w w':=by
 unfold sX
 go_enter func152,ntmps152
 go_wp2_with fail
 go_ret
 exact ⟨rfl,blo⟩
theorem xy (n:Int)(w:World):Calls prog 149 #[.int .i64 n] w fun e w'=>e = .returned (.int .i64 n)/\Cx w w':=by
 go_enter func149,ntmps149
 go_wp2_with fail
 go_ret
 exact ⟨rfl,blo⟩
theorem qD (n m:Int)(w:World):Calls prog 156 #[.int .i64 n,.int .i64 m] w fun e w'=>e = .returned (.bool (n==m))/\Cx w w':=by
 go_enter func156,ntmps156
 go_wp2_with fail
 go_ret
 exact ⟨rfl,blo⟩
theorem pF (x y:am)(w:World):Calls prog 158 #[sX x,sX y] w fun e w'=>e = .returned (.bool (x.CB==y.CB&&x.side != y.side))/\Cx w w':=by
 unfold sX
 go_enter func158,ntmps158
 cases t1:(x.CB==y.CB) <;> cases t2:(x.side != y.side)
 all_goals
  go_wp2_with fail
  go_ret
  exact ⟨rfl,blo⟩
theorem vh (x y:aI)(w:World):Calls prog 154 #[tr x,tr y] w fun e w'=>e = .returned (.bool (dI x y))/\Cx w w':=by
 unfold tr dI
 go_enter func154,ntmps154
 cases t1:(x.CB==y.CB) <;> cases t2:decide (x.lo<=y.hi) <;> cases t3:decide (y.lo<=x.hi)
 all_goals
  go_wp2_with fail
  go_ret
  exact ⟨rfl,blo⟩
def fnV (f:FuncId):Value:=.func (.func f) #[] #[]
def dQ (a:Option Addr)(n c:Nat)(s:dp):Value:=.agg #[.slice a n c,.int .u64 s.a,.int .u64 s.b]
theorem nq {α:Type}(key:α->Int)(xs:List α)(k:Nat)(hk:k<xs.length):bS ((xs.take (k+1)).map key)=ex (bS ((xs.take k).map key)) (key xs[k]):=by
 rw [List.take_succ_eq_append_getElem hk,List.map_append,List.map_cons,List.map_nil,yZ]
def de (w:World)(B:Nat)(T:TypeId)(a:Option Addr)(n c:Nat)(s:dp):Prop := ∃ f,w.rowIs B T 3 f/\f 0 = .slice a n c/\f 1 = .int .u64 s.a/\f 2 = .int .u64 s.b
theorem de.kept {w':World}(h:de w B T a n c s)(e:w'.heap[B]? = w.heap[B]?):de w' B T a n c s:=by
 obtain ⟨f,h1,h2⟩:=h;exact ⟨f,h1.of_block e,h2⟩
theorem de.c0 (h:de w B T a n c s):w.cell? ⟨B,0,none⟩=some (.slice a n c):=by
 obtain ⟨f,h1,h2,h3,h4⟩:=h;rw [h1.cell CG,h2]
theorem de.c1 (h:de w B T a n c s):w.cell? ⟨B,1,none⟩=some (.int .u64 s.a):=by
 obtain ⟨f,h1,h2,h3,h4⟩:=h;rw [h1.cell CG,h3]
theorem de.c2 (h:de w B T a n c s):w.cell? ⟨B,2,none⟩=some (.int .u64 s.b):=by
 obtain ⟨f,h1,h2,h3,h4⟩:=h;rw [h1.cell CG,h4]
theorem de.lt (h:de w B T a n c s):B<w.heap.size:=ai h.c0
theorem de.below {w':World}(h:de w B T a n c s)(hb:Cx w w'):de w' B T a n c s:=h.kept (hb.block B h.lt)
theorem de.frozen (h:de w B T a n c s)(i:Nat):w.frozen? ⟨B,i,none⟩=false:=by
 obtain ⟨f,h1,_⟩:=h;exact h1.frozen i
theorem de.setS (h:de w B T a n c s)(s':dp):de ((w.setCell ⟨B,1,none⟩ (.int .u64 s'.a)).setCell ⟨B,2,none⟩ (.int .u64 s'.b)) B T a n c s':=by
 obtain ⟨f,h1,h2,h3,h4⟩:=h;exact ⟨_,(h1.set 1 _).set 2 _,by simpa using h2,CI,CI⟩
theorem de.made (w:World)(T:TypeId)(a:Option Addr)(n c:Nat)(s:dp):de (w.alloc (.cells #[.slice a n c,.int .u64 s.a,.int .u64 s.b] T)) w.heap.size T a n c s:=
 ⟨_,nw w #[.slice a n c,.int .u64 s.a,.int .u64 s.b] T,rfl,rfl,rfl⟩
theorem mR (a:Option Addr)(c:Nat)(xs:List aI)(w:World)(ha:Hid (bw w a xs)):
  Calls prog 146 #[.slice a xs.length c,fnV 147] w fun e w'=>e = .returned (dQ a xs.length c (bS (xs.map aI.CB)))/\Cx w w':=by
 have hl:=ha.out.1;unfold maxLen at hl;unfold dQ fnV
 go_enter func146,ntmps146
 go_wp2_with fail
 generalize hW:(w.alloc _).alloc _=W;have u:Hid (de W w.heap.size 228 none 0 0 eT):=by rw [<-hW];exact (de.made w _ none 0 0 eT).below blo
 have x:Hid (de W (w.heap.size+1) 228 a xs.length c (bS ((xs.take 0).map aI.CB))):=by rw [<-hW];have h:=de.made (w.alloc (Obj.cells #[Value.slice none 0 0,Value.int IntKind.u64 0,Value.int IntKind.u64 0] 228)) 228 a xs.length c eT;rw [show (w.alloc (Obj.cells #[Value.slice none 0 0,Value.int IntKind.u64 0,Value.int IntKind.u64 0] 228)).heap.size=w.heap.size+1 by simp] at h;exact h
 have y:Cx w W:=by rw [<-hW];exact blo
 clear hW
 go_loopw [12] (fun i wr => ∃ (k:Nat),k<=xs.length/\i = .int .i64 k/\Hid (de wr w.heap.size 228 none 0 0 eT)/\Hid (de wr (w.heap.size+1) 228 a xs.length c (bS ((xs.take k).map aI.CB)))/\Cx w wr) (fun i _=>xs.length-(intOf i).toNat)
 case atStart=>exact ⟨0,Nat.zero_le _,rfl,u,x,y⟩
 case round =>
  clear u x y;obtain ⟨k,hk,rfl,HQ,HK,hb⟩:=hrel;have F:=hb.size
  by_cases r:k<xs.length
  ·obtain ⟨b1,G,rfl,z⟩:=ha.out.2.resolve_left (nz r);obtain ⟨c0,c1,c2⟩:=(z.below hb) k r;have HS:=aa (nq aI.CB xs k r);have A:=aa (fY ((xs.take k).map aI.CB));generalize bS ((xs.take k).map aI.CB)=s at HK HS A;have n:=HK.out.c0;have o:=HK.out.c1;have p:=HK.out.c2;have q:=HK.out.lt;have j:w.heap.size<wr.heap.size:=CG
   clear z
   go_wp2_with fail
   generalize l:wr.alloc _=W2;have d:Cx wr W2:=by rw [<-l];exact blo
   have i0:W2.cell? ⟨wr.heap.size,0,none⟩=some (.int .i64 xs[k].CB):=by rw [<-l];simp [go_sem]
   have i1:W2.cell? ⟨wr.heap.size,1,none⟩=some (.int .i64 xs[k].lo):=by rw [<-l];simp [go_sem]
   have i2:W2.cell? ⟨wr.heap.size,2,none⟩=some (.int .i64 xs[k].hi):=by rw [<-l];simp [go_sem]
   have H:wr.heap.size<W2.heap.size:=ai i0;clear l c0 c1 c2;replace n:=cell_later d n;replace o:=cell_later d o;replace p:=cell_later d p;have I:=aa (HK.out.below d);have J:=aa (HQ.out.below d);replace q:=Nat.lt_of_lt_of_le q d.size;have m:=hb.trans (d.mono hb.size);clear HK HQ d hb F j
   go_region_with (first
    | (go_at_call 147;refine (uT xs[k] _).mono ?_;rintro e w2 ⟨rfl,B⟩;have f:Cx W2 w2:=CV.drew.trans B;have L:=cell_later f o;have M:=cell_later f p;have N:=cell_later f n;have O:=Nat.lt_of_lt_of_le q f.size)
    | (go_at_call 172;refine (pd s _ A.out _).mono ?_;rintro e w3 ⟨rfl,C⟩;unfold lV;have t:=f.trans (C.mono f.size);have g:=aa (I.out.below t);have R:=aa (J.out.below t);have D:=g.out.c1;have E:=g.out.c2;have Y:=g.out.frozen 1;have Z:=g.out.frozen 2;have T:=g.out.lt))
   all_goals
    have U:=m.trans (t.mono m.size);have V:=U.size;have X:=aa (g.out.setS (ex s xs[k].CB));clear B C
    go_wp2_with fail
    go_roundw
    case rel=>exact ⟨k+1,CG,by go_num,R.out.kept (by rw [Below.heap_setCell _ _ _ _ CI,Below.heap_setCell _ _ _ _ CI]),by rw [HS.out];exact X,blo⟩
    case measure=>simp [intOf];omega
  ·have HT:Hid (xs.take k=xs):=List.take_of_length_le CG
   rw [HT.out] at HK;have n:=HK.out.c0;have o:=HK.out.c1;have p:=HK.out.c2;have q:=HK.out.lt;have q0:=HQ.out.c0;have q1:=HQ.out.c1;have q2:=HQ.out.c2;have ab:=HQ.out.frozen 0;have ac:=HQ.out.frozen 1;have ad:=HQ.out.frozen 2;have j:w.heap.size<wr.heap.size:=CG
   clear HT HQ HK
   go_wp2_with fail
   exact bodyPost_ret (v:=.agg #[.slice a xs.length c,.int .u64 (bS (xs.map aI.CB)).a,.int .u64 (bS (xs.map aI.CB)).b]) (by simp [results,results146,go_sem,q0,q1,q2]) rfl ⟨rfl,blo⟩
theorem tj (a:Option Addr)(c:Nat)(xs:List Int)(w:World)(ha:Hid (bV w a xs)):
  Calls prog 148 #[.slice a xs.length c,fnV 149] w fun e w'=>e = .returned (dQ a xs.length c (bS (xs.map id)))/\Cx w w':=by
 have hl:=ha.out.1;unfold maxLen at hl;unfold dQ fnV
 go_enter func148,ntmps148
 go_wp2_with fail
 generalize hW:(w.alloc _).alloc _=W;have n:Hid (de W w.heap.size 230 none 0 0 eT):=by rw [<-hW];exact (de.made w _ none 0 0 eT).below blo
 have o:Hid (de W (w.heap.size+1) 230 a xs.length c (bS ((xs.take 0).map id))):=by rw [<-hW];have h:=de.made (w.alloc (Obj.cells #[Value.slice none 0 0,Value.int IntKind.u64 0,Value.int IntKind.u64 0] 230)) 230 a xs.length c eT;rw [show (w.alloc (Obj.cells #[Value.slice none 0 0,Value.int IntKind.u64 0,Value.int IntKind.u64 0] 230)).heap.size=w.heap.size+1 by simp] at h;exact h
 have p:Cx w W:=by rw [<-hW];exact blo
 clear hW
 go_loopw [12] (fun i wr => ∃ (k:Nat),k<=xs.length/\i = .int .i64 k/\Hid (de wr w.heap.size 230 none 0 0 eT)/\Hid (de wr (w.heap.size+1) 230 a xs.length c (bS ((xs.take k).map id)))/\Cx w wr) (fun i _=>xs.length-(intOf i).toNat)
 case atStart=>exact ⟨0,Nat.zero_le _,rfl,n,o,p⟩
 case round =>
  clear n o p;obtain ⟨k,hk,rfl,HQ,HK,hb⟩:=hrel;have D:=hb.size
  by_cases l:k<xs.length
  ·obtain ⟨b1,E,rfl,q⟩:=ha.out.2.resolve_left (nz l);have c0:=(q.below hb) k l;have HS:=aa (nq id xs k l);have r:=aa (fY ((xs.take k).map id));generalize bS ((xs.take k).map id)=s at HK HS r;have t:=HK.out.c0;have u:=HK.out.c1;have x:=HK.out.c2;have y:=HK.out.lt;have g:w.heap.size<wr.heap.size:=CG
   clear q
   go_wp2_with fail
   generalize U:wr=W2 at *;have F:=HK;have G:=HQ;have j:=hb;clear HK HQ hb D g
   go_region_with (first
    | (go_at_call 149;refine (xy _ _).mono ?_;rintro e w2 ⟨rfl,z⟩;have d:Cx W2 w2:=CV.drew.trans z;have H:=cell_later d u;have I:=cell_later d x;have J:=cell_later d t;have L:=Nat.lt_of_lt_of_le y d.size)
    | (go_at_call 172;refine (pd s _ r.out _).mono ?_;rintro e w3 ⟨rfl,A⟩;unfold lV;have m:=d.trans (A.mono d.size);have f:=aa (F.out.below m);have M:=aa (G.out.below m);have B:=f.out.c1;have C:=f.out.c2;have V:=f.out.frozen 1;have X:=f.out.frozen 2;have N:=f.out.lt))
   all_goals
    have O:=j.trans (m.mono j.size);have R:=O.size;have T:=aa (f.out.setS (ex s xs[k]));clear z A
    go_wp2_with fail
    go_roundw
    case rel=>exact ⟨k+1,CG,by go_num,M.out.kept (by rw [Below.heap_setCell _ _ _ _ CI,Below.heap_setCell _ _ _ _ CI]),by rw [HS.out];exact T,blo⟩
    case measure=>simp [intOf];omega
  ·have HT:Hid (xs.take k=xs):=List.take_of_length_le CG
   rw [HT.out] at HK;have t:=HK.out.c0;have u:=HK.out.c1;have x:=HK.out.c2;have y:=HK.out.lt;have q0:=HQ.out.c0;have q1:=HQ.out.c1;have q2:=HQ.out.c2;have Y:=HQ.out.frozen 0;have Z:=HQ.out.frozen 1;have ab:=HQ.out.frozen 2;have g:w.heap.size<wr.heap.size:=CG
   clear HT HQ HK
   go_wp2_with fail
   exact bodyPost_ret (v:=.agg #[.slice a xs.length c,.int .u64 (bS (xs.map id)).a,.int .u64 (bS (xs.map id)).b]) (by simp [results,results148,go_sem,q0,q1,q2]) rfl ⟨rfl,blo⟩
theorem td (a:Option Addr)(c:Nat)(xs:List am)(w:World)(ha:Hid (aT w a xs)):
  Calls prog 150 #[.slice a xs.length c,fnV 152] w fun e w'=>e = .returned (dQ a xs.length c (bS (xs.map am.CB)))/\Cx w w':=by
 have hl:=ha.out.1;unfold maxLen at hl;unfold dQ fnV
 go_enter func150,ntmps150
 go_wp2_with fail
 generalize hW:(w.alloc _).alloc _=W;have u:Hid (de W w.heap.size 232 none 0 0 eT):=by rw [<-hW];exact (de.made w _ none 0 0 eT).below blo
 have x:Hid (de W (w.heap.size+1) 232 a xs.length c (bS ((xs.take 0).map am.CB))):=by rw [<-hW];have h:=de.made (w.alloc (Obj.cells #[Value.slice none 0 0,Value.int IntKind.u64 0,Value.int IntKind.u64 0] 232)) 232 a xs.length c eT;rw [show (w.alloc (Obj.cells #[Value.slice none 0 0,Value.int IntKind.u64 0,Value.int IntKind.u64 0] 232)).heap.size=w.heap.size+1 by simp] at h;exact h
 have y:Cx w W:=by rw [<-hW];exact blo
 clear hW
 go_loopw [12] (fun i wr => ∃ (k:Nat),k<=xs.length/\i = .int .i64 k/\Hid (de wr w.heap.size 232 none 0 0 eT)/\Hid (de wr (w.heap.size+1) 232 a xs.length c (bS ((xs.take k).map am.CB)))/\Cx w wr) (fun i _=>xs.length-(intOf i).toNat)
 case atStart=>exact ⟨0,Nat.zero_le _,rfl,u,x,y⟩
 case round =>
  clear u x y;obtain ⟨k,hk,rfl,HQ,HK,hb⟩:=hrel;have F:=hb.size
  by_cases r:k<xs.length
  ·obtain ⟨b1,G,rfl,z⟩:=ha.out.2.resolve_left (nz r);obtain ⟨c0,c1⟩:=(z.below hb) k r;have HS:=aa (nq am.CB xs k r);have A:=aa (fY ((xs.take k).map am.CB));generalize bS ((xs.take k).map am.CB)=s at HK HS A;have m:=HK.out.c0;have n:=HK.out.c1;have o:=HK.out.c2;have p:=HK.out.lt;have j:w.heap.size<wr.heap.size:=CG
   clear z
   go_wp2_with fail
   generalize q:wr.alloc _=W2;have d:Cx wr W2:=by rw [<-q];exact blo
   have i0:W2.cell? ⟨wr.heap.size,0,none⟩=some (.int .i64 xs[k].CB):=by rw [<-q];simp [go_sem]
   have i1:W2.cell? ⟨wr.heap.size,1,none⟩=some (.int .i64 xs[k].side):=by rw [<-q];simp [go_sem]
   have H:wr.heap.size<W2.heap.size:=ai i0;clear q c0 c1;replace m:=cell_later d m;replace n:=cell_later d n;replace o:=cell_later d o;have I:=aa (HK.out.below d);have J:=aa (HQ.out.below d);replace p:=Nat.lt_of_lt_of_le p d.size;have l:=hb.trans (d.mono hb.size);clear HK HQ d hb F j
   go_region_with (first
    | (go_at_call 152;refine (xC xs[k] _).mono ?_;rintro e w2 ⟨rfl,B⟩;have f:Cx W2 w2:=CV.drew.trans B;have L:=cell_later f n;have M:=cell_later f o;have N:=cell_later f m;have O:=Nat.lt_of_lt_of_le p f.size)
    | (go_at_call 172;refine (pd s _ A.out _).mono ?_;rintro e w3 ⟨rfl,C⟩;unfold lV;have t:=f.trans (C.mono f.size);have g:=aa (I.out.below t);have R:=aa (J.out.below t);have D:=g.out.c1;have E:=g.out.c2;have Y:=g.out.frozen 1;have Z:=g.out.frozen 2;have T:=g.out.lt))
   all_goals
    have U:=l.trans (t.mono l.size);have V:=U.size;have X:=aa (g.out.setS (ex s xs[k].CB));clear B C
    go_wp2_with fail
    go_roundw
    case rel=>exact ⟨k+1,CG,by go_num,R.out.kept (by rw [Below.heap_setCell _ _ _ _ CI,Below.heap_setCell _ _ _ _ CI]),by rw [HS.out];exact X,blo⟩
    case measure=>simp [intOf];omega
  ·have HT:Hid (xs.take k=xs):=List.take_of_length_le CG
   rw [HT.out] at HK;have m:=HK.out.c0;have n:=HK.out.c1;have o:=HK.out.c2;have p:=HK.out.lt;have q0:=HQ.out.c0;have q1:=HQ.out.c1;have q2:=HQ.out.c2;have ab:=HQ.out.frozen 0;have ac:=HQ.out.frozen 1;have ad:=HQ.out.frozen 2;have j:w.heap.size<wr.heap.size:=CG
   clear HT HQ HK
   go_wp2_with fail
   exact bodyPost_ret (v:=.agg #[.slice a xs.length c,.int .u64 (bS (xs.map am.CB)).a,.int .u64 (bS (xs.map am.CB)).b]) (by simp [results,results150,go_sem,q0,q1,q2]) rfl ⟨rfl,blo⟩
def sR (x y:am):Bool:=x.CB==y.CB&&x.side != y.side
def sP (x y:Int):Bool:=x==y
theorem kR (a b:Option Addr)(ac bc:Nat)(xs ys:List aI)(s t:dp)(hs:Hid (s=bS (xs.map aI.CB)))(ht:Hid (t=bS (ys.map aI.CB)))(w:World)(ha:Hid (bw w a xs))(hb:Hid (bw w b ys)):
  Calls prog 153 #[dQ a xs.length ac s,dQ b ys.length bc t,fnV 154] w fun e w'=>e = .returned (.bool (bN xs ys))/\Cx w w':=by
 have hl:=ha.out.1;have H:=hb.out.1;unfold maxLen at hl H;have I:Hid s.Ok:=by unfold Hid;rw [hs.out];exact fY _
 have J:Hid t.Ok:=by unfold Hid;rw [ht.out];exact fY _
 have d:Hid (ej s t=false->bN xs ys=false):=fun h=>nO (key:=aI.CB) wM (by rw [<-hs.out,<-ht.out];exact h)
 clear hs ht;unfold dQ fnV
 go_enter func153,ntmps153
 go_wp2_with fail
 generalize hW:(w.alloc _).alloc _=W;have e0:W.cell? ⟨w.heap.size,0,none⟩=some (.slice a xs.length ac):=by rw [<-hW];simp [go_sem]
 have f0:W.cell? ⟨w.heap.size+1,0,none⟩=some (.slice b ys.length bc):=by rw [<-hW];simp [go_sem]
 have c:Cx w W:=by rw [<-hW];exact blo
 clear hW;refine (nG s t I.out J.out _).mono ?_;rintro e w1 ⟨rfl,x⟩;replace e0:=cell_later x e0;replace f0:=cell_later x f0;replace c:=c.trans (x.mono c.size);have L:=ai e0;have M:=ai f0;dsimp only at L M;clear x;cases hM:ej s t
 ·have HX:=aa (d.out hM);clear hM
  go_wp2_with fail
  go_ret
  exact ⟨aK HX.out.symm,c⟩
 clear hM d;have N:=aa (ha.out.below c);have O:=aa (hb.out.below c);clear ha hb
 go_wp2_with fail
 go_loopw [20] (fun i wr => ∃ (k:Nat),k<=xs.length/\i = .int .i64 k/\Hid (∀ q (hq:q<xs.length),q<k->(ys.any fun y=>dI xs[q] y)=false)/\Cx w1 wr) (fun i _=>xs.length-(intOf i).toNat)
 case atStart=>exact ⟨0,Nat.zero_le _,rfl,(fun q _ h=>absurd h (Nat.not_lt_zero q)),Below.refl _ _⟩
 case round =>
  obtain ⟨k,hk,rfl,HQ,g⟩:=hrel;have R:=g.size
  by_cases z:k<xs.length
  ·obtain ⟨b1,T,rfl,j⟩:=N.out.2.resolve_left (nz z);obtain ⟨c0,c1,c2⟩:=(j.below g) k z;have G:=cell_later g f0;have l:=ai G;dsimp only at l;clear j
   go_wp2_with fail
   generalize n:wr.alloc _=W2;have p0:W2.cell? ⟨wr.heap.size,0,none⟩=some (.int .i64 xs[k].CB):=by rw [<-n];simp [go_sem]
   have p1:W2.cell? ⟨wr.heap.size,1,none⟩=some (.int .i64 xs[k].lo):=by rw [<-n];simp [go_sem]
   have p2:W2.cell? ⟨wr.heap.size,2,none⟩=some (.int .i64 xs[k].hi):=by rw [<-n];simp [go_sem]
   have o:Cx w1 W2:=by rw [<-n];exact blo
   have A:wr.heap.size<W2.heap.size:=ai p0;clear n c0 c1 c2 g R G l
   go_loopw [27] (fun i U => ∃ (m:Nat),m<=ys.length/\i = .int .i64 m/\Hid (∀ q (hq:q<ys.length),q<m->dI xs[k] ys[q]=false)/\Cx W2 U) (fun i _=>ys.length-(intOf i).toNat)
   case atStart=>exact ⟨0,Nat.zero_le _,rfl,(fun q _ h=>absurd h (Nat.not_lt_zero q)),Below.refl _ _⟩
   case round =>
    obtain ⟨m,hm,rfl,p,f⟩:=hrel;have V:=f.size;have B:=o.trans (f.mono o.size);have X:=B.size
    by_cases C:m<ys.length
    ·obtain ⟨b3,Y,rfl,r⟩:=O.out.2.resolve_left (nz C);obtain ⟨d0,d1,d2⟩:=(r.below B) m C;have q0:=cell_later f p0;have q1:=cell_later f p1;have q2:=cell_later f p2;have ae:=Nat.lt_of_lt_of_le A f.size;clear r
     go_wp2_with fail
     generalize D:wr.alloc _=W3;have u:Cx W2 W3:=by rw [<-D];exact blo
     have v:Cx w1 W3:=by rw [<-D];exact blo
     clear D;refine (vh xs[k] ys[m] _).mono ?_;rintro e w4 ⟨rfl,E⟩;have Z:Cx w1 w4:=v.trans (E.mono v.size);have F:Cx W2 w4:=u.trans (E.mono u.size);clear E;cases hT:dI xs[k] ys[m]
     ·have ab:Hid (∀ q (hq:q<ys.length),q<m+1->dI xs[k] ys[q]=false):=by
       intro q hq af
       by_cases e:q<m
       ·exact p.out q hq e
       ·have:q=m:=CG
        subst this;exact hT
      clear hT p
      go_wp2_with fail
      go_roundw
      case rel=>exact ⟨m+1,CG,by go_num,ab,F⟩
      case measure=>simp [intOf];omega
     ·have HX:Hid (bN xs ys=true):=fd z (fd C hT);clear hT p
      go_wp2_with fail
      go_ret
      exact ⟨aK HX.out.symm,c.trans (Z.mono c.size)⟩
    ·have ad:Hid (∀ q (hq:q<xs.length),q<k+1->(ys.any fun y=>dI xs[q] y)=false):=by
      intro q hq ag
      by_cases e:q<k
      ·exact HQ.out q hq e
      ·have:q=k:=CG
       subst this;exact eB (fun i hi=>p.out i hi CG)
     clear p HQ
     go_wp2_with fail
     go_roundw
     case rel=>exact ⟨k+1,CG,by go_num,ad,B⟩
     case measure=>simp [intOf];omega
  ·have HX:Hid (bN xs ys=false):=eB (fun i hi=>HQ.out i hi CG)
   clear HQ
   go_wp2_with fail
   go_ret
   exact ⟨aK HX.out.symm,c.trans (g.mono c.size)⟩
theorem uJ (a b:Option Addr)(ac bc:Nat)(xs ys:List Int)(s t:dp)(hs:Hid (s=bS (xs.map id)))(ht:Hid (t=bS (ys.map id)))(w:World)(ha:Hid (bV w a xs))(hb:Hid (bV w b ys)):
  Calls prog 155 #[dQ a xs.length ac s,dQ b ys.length bc t,fnV 156] w fun e w'=>e = .returned (.bool (dS xs ys))/\Cx w w':=by
 have hl:=ha.out.1;have F:=hb.out.1;unfold maxLen at hl F;have G:Hid s.Ok:=by unfold Hid;rw [hs.out];exact fY _
 have H:Hid t.Ok:=by unfold Hid;rw [ht.out];exact fY _
 have d:Hid (ej s t=false->dS xs ys=false):=fun h=>nO (key:=id) (fun x y h=>by simpa using h) (by rw [<-hs.out,<-ht.out];exact h)
 clear hs ht;unfold dQ fnV
 go_enter func155,ntmps155
 go_wp2_with fail
 generalize hW:(w.alloc _).alloc _=W;have e0:W.cell? ⟨w.heap.size,0,none⟩=some (.slice a xs.length ac):=by rw [<-hW];simp [go_sem]
 have f0:W.cell? ⟨w.heap.size+1,0,none⟩=some (.slice b ys.length bc):=by rw [<-hW];simp [go_sem]
 have c:Cx w W:=by rw [<-hW];exact blo
 clear hW;refine (nG s t G.out H.out _).mono ?_;rintro e w1 ⟨rfl,u⟩;replace e0:=cell_later u e0;replace f0:=cell_later u f0;replace c:=c.trans (u.mono c.size);have I:=ai e0;have J:=ai f0;dsimp only at I J;clear u;cases hM:ej s t
 ·have HX:=aa (d.out hM);clear hM
  go_wp2_with fail
  go_ret
  exact ⟨aK HX.out.symm,c⟩
 clear hM d;have L:=aa (ha.out.below c);have M:=aa (hb.out.below c);clear ha hb
 go_wp2_with fail
 go_loopw [20] (fun i wr => ∃ (k:Nat),k<=xs.length/\i = .int .i64 k/\Hid (∀ q (hq:q<xs.length),q<k->(ys.any fun y=>sP xs[q] y)=false)/\Cx w1 wr) (fun i _=>xs.length-(intOf i).toNat)
 case atStart=>exact ⟨0,Nat.zero_le _,rfl,(fun q _ h=>absurd h (Nat.not_lt_zero q)),Below.refl _ _⟩
 case round =>
  obtain ⟨k,hk,rfl,HQ,f⟩:=hrel;have N:=f.size
  by_cases z:k<xs.length
  ·obtain ⟨b1,O,rfl,g⟩:=L.out.2.resolve_left (nz z);have c0:=(g.below f) k z;have E:=cell_later f f0;have j:=ai E;dsimp only at j;clear g
   go_wp2_with fail
   generalize ab:wr=W2 at *;have l:=f;clear f N E j c0
   go_loopw [27] (fun i R => ∃ (m:Nat),m<=ys.length/\i = .int .i64 m/\Hid (∀ q (hq:q<ys.length),q<m->sP xs[k] ys[q]=false)/\Cx W2 R) (fun i _=>ys.length-(intOf i).toNat)
   case atStart=>exact ⟨0,Nat.zero_le _,rfl,(fun q _ h=>absurd h (Nat.not_lt_zero q)),Below.refl _ _⟩
   case round =>
    obtain ⟨m,hm,rfl,n,A⟩:=hrel;have T:=A.size;have v:=l.trans (A.mono l.size);have U:=v.size
    by_cases B:m<ys.length
    ·obtain ⟨b3,V,rfl,o⟩:=M.out.2.resolve_left (nz B);have d0:=(o.below v) m B;clear o
     go_wp2_with fail
     have p:=A;have r:=v;refine (qD xs[k] ys[m] _).mono ?_;rintro e w4 ⟨rfl,C⟩;have X:Cx w1 w4:=r.trans (C.mono r.size);have D:Cx W2 w4:=p.trans (C.mono p.size);clear C;cases hT:(xs[k]==ys[m])
     ·have Y:Hid (∀ q (hq:q<ys.length),q<m+1->sP xs[k] ys[q]=false):=by
       intro q hq ad
       by_cases e:q<m
       ·exact n.out q hq e
       ·have:q=m:=CG
        subst this;exact hT
      clear hT n
      go_wp2_with fail
      go_roundw
      case rel=>exact ⟨m+1,CG,by go_num,Y,D⟩
      case measure=>simp [intOf];omega
     ·have HX:Hid (dS xs ys=true):=fd z (fd B hT);clear hT n
      go_wp2_with fail
      go_ret
      exact ⟨aK HX.out.symm,c.trans (X.mono c.size)⟩
    ·have Z:Hid (∀ q (hq:q<xs.length),q<k+1->(ys.any fun y=>sP xs[q] y)=false):=by
      intro q hq ae
      by_cases e:q<k
      ·exact HQ.out q hq e
      ·have:q=k:=CG
       subst this;exact eB (fun i hi=>n.out i hi CG)
     clear n HQ
     go_wp2_with fail
     go_roundw
     case rel=>exact ⟨k+1,CG,by go_num,Z,v⟩
     case measure=>simp [intOf];omega
  ·have HX:Hid (dS xs ys=false):=eB (fun i hi=>HQ.out i hi CG)
   clear HQ
   go_wp2_with fail
   go_ret
   exact ⟨aK HX.out.symm,c.trans (f.mono c.size)⟩
theorem vp (a b:Option Addr)(ac bc:Nat)(xs ys:List am)(s t:dp)(hs:Hid (s=bS (xs.map am.CB)))(ht:Hid (t=bS (ys.map am.CB)))(w:World)(ha:Hid (aT w a xs))(hb:Hid (aT w b ys)):
  Calls prog 157 #[dQ a xs.length ac s,dQ b ys.length bc t,fnV 158] w fun e w'=>e = .returned (.bool (fu xs ys))/\Cx w w':=by
 have hl:=ha.out.1;have I:=hb.out.1;unfold maxLen at hl I;have J:Hid s.Ok:=by unfold Hid;rw [hs.out];exact fY _
 have L:Hid t.Ok:=by unfold Hid;rw [ht.out];exact fY _
 have d:Hid (ej s t=false->fu xs ys=false):=fun h=>nO (key:=am.CB) (fun x y h=>by simp only [Bool.and_eq_true,beq_iff_eq] at h;exact h.1) (by rw [<-hs.out,<-ht.out];exact h)
 clear hs ht;unfold dQ fnV
 go_enter func157,ntmps157
 go_wp2_with fail
 generalize hW:(w.alloc _).alloc _=W;have e0:W.cell? ⟨w.heap.size,0,none⟩=some (.slice a xs.length ac):=by rw [<-hW];simp [go_sem]
 have f0:W.cell? ⟨w.heap.size+1,0,none⟩=some (.slice b ys.length bc):=by rw [<-hW];simp [go_sem]
 have c:Cx w W:=by rw [<-hW];exact blo
 clear hW;refine (nG s t J.out L.out _).mono ?_;rintro e w1 ⟨rfl,v⟩;replace e0:=cell_later v e0;replace f0:=cell_later v f0;replace c:=c.trans (v.mono c.size);have M:=ai e0;have N:=ai f0;dsimp only at M N;clear v;cases hM:ej s t
 ·have HX:=aa (d.out hM);clear hM
  go_wp2_with fail
  go_ret
  exact ⟨aK HX.out.symm,c⟩
 clear hM d;have O:=aa (ha.out.below c);have R:=aa (hb.out.below c);clear ha hb
 go_wp2_with fail
 go_loopw [20] (fun i wr => ∃ (k:Nat),k<=xs.length/\i = .int .i64 k/\Hid (∀ q (hq:q<xs.length),q<k->(ys.any fun y=>sR xs[q] y)=false)/\Cx w1 wr) (fun i _=>xs.length-(intOf i).toNat)
 case atStart=>exact ⟨0,Nat.zero_le _,rfl,(fun q _ h=>absurd h (Nat.not_lt_zero q)),Below.refl _ _⟩
 case round =>
  obtain ⟨k,hk,rfl,HQ,f⟩:=hrel;have T:=f.size
  by_cases A:k<xs.length
  ·obtain ⟨b1,U,rfl,g⟩:=O.out.2.resolve_left (nz A);obtain ⟨c0,c1⟩:=(g.below f) k A;have H:=cell_later f f0;have j:=ai H;dsimp only at j;clear g
   go_wp2_with fail
   generalize z:wr.alloc _=W2;have p0:W2.cell? ⟨wr.heap.size,0,none⟩=some (.int .i64 xs[k].CB):=by rw [<-z];simp [go_sem]
   have p1:W2.cell? ⟨wr.heap.size,1,none⟩=some (.int .i64 xs[k].side):=by rw [<-z];simp [go_sem]
   have l:Cx w1 W2:=by rw [<-z];exact blo
   have B:wr.heap.size<W2.heap.size:=ai p0;clear z c0 c1 f T H j
   go_loopw [27] (fun i V => ∃ (m:Nat),m<=ys.length/\i = .int .i64 m/\Hid (∀ q (hq:q<ys.length),q<m->sR xs[k] ys[q]=false)/\Cx W2 V) (fun i _=>ys.length-(intOf i).toNat)
   case atStart=>exact ⟨0,Nat.zero_le _,rfl,(fun q _ h=>absurd h (Nat.not_lt_zero q)),Below.refl _ _⟩
   case round =>
    obtain ⟨m,hm,rfl,n,o⟩:=hrel;have X:=o.size;have C:=l.trans (o.mono l.size);have Y:=C.size
    by_cases D:m<ys.length
    ·obtain ⟨b3,Z,rfl,p⟩:=R.out.2.resolve_left (nz D);obtain ⟨d0,d1⟩:=(p.below C) m D;have q0:=cell_later o p0;have q1:=cell_later o p1;have af:=Nat.lt_of_lt_of_le B o.size;clear p
     go_wp2_with fail
     generalize E:wr.alloc _=W3;have r:Cx W2 W3:=by rw [<-E];exact blo
     have u:Cx w1 W3:=by rw [<-E];exact blo
     clear E;refine (pF xs[k] ys[m] _).mono ?_;rintro e w4 ⟨rfl,F⟩;have ab:Cx w1 w4:=u.trans (F.mono u.size);have G:Cx W2 w4:=r.trans (F.mono r.size);clear F;cases hT:(xs[k].CB==ys[m].CB&&xs[k].side != ys[m].side)
     ·have ad:Hid (∀ q (hq:q<ys.length),q<m+1->sR xs[k] ys[q]=false):=by
       intro q hq ag
       by_cases e:q<m
       ·exact n.out q hq e
       ·have:q=m:=CG
        subst this;exact hT
      clear hT n
      go_wp2_with fail
      go_roundw
      case rel=>exact ⟨m+1,CG,by go_num,ad,G⟩
      case measure=>simp [intOf];omega
     ·have HX:Hid (fu xs ys=true):=fd A (fd D hT);clear hT n
      go_wp2_with fail
      go_ret
      exact ⟨aK HX.out.symm,c.trans (ab.mono c.size)⟩
    ·have ae:Hid (∀ q (hq:q<xs.length),q<k+1->(ys.any fun y=>sR xs[q] y)=false):=by
      intro q hq ah
      by_cases e:q<k
      ·exact HQ.out q hq e
      ·have:q=k:=CG
       subst this;exact eB (fun i hi=>n.out i hi CG)
     clear n HQ
     go_wp2_with fail
     go_roundw
     case rel=>exact ⟨k+1,CG,by go_num,ae,C⟩
     case measure=>simp [intOf];omega
  ·have HX:Hid (fu xs ys=false):=eB (fun i hi=>HQ.out i hi CG)
   clear HQ
   go_wp2_with fail
   go_ret
   exact ⟨aK HX.out.symm,c.trans (f.mono c.size)⟩
end Go.Proofs.YtmkdgnmmebldgaaGreatDoor
namespace Go.Proofs.YtmkdgnmmebldgaaGreatDoor
open Go.RowKit Go.Deep Go.Maps
open Go.WideMaps (KeyLaw)
variable {L:List am}{b:Nat}{p s:Int}{w:World}
theorem Tryz.rowLie:(52:TypeId)<prog.types.size:=of_decide_eq_true CH
theorem A3:KeyLaw prog 52:=deep_law_laid Tryz.laidOutB (m:=2) CG Tryz.rowLie CH (by rw [underlying52])
theorem BN:Keyed prog 52:=Keyed.of_law A3
theorem Tryz.cellsLie:prog.cellsOf 52=2:=CH
theorem Tryz.cellsIntL:prog.cellsOf 3=1:=CH
theorem Tryz.keyTypeLie:prog.keyType 52=true:=CH
theorem BP (hp:(Lit.int .i64 p).wf=true)(hs:(Lit.int .i64 s).wf=true):∃ kl,keyOf prog 52 (.agg #[.int .i64 p,.int .i64 s])=some kl:=by
 have hn:∃ m,prog.types.size=m+1:=by
  have h:=Tryz.rowLie
  revert h
  generalize prog.types.size=n;intro h;cases n with
  | zero=>exact absurd h (Nat.not_lt_zero _)
  | succ m=>exact ⟨m,rfl⟩
 obtain ⟨m,hm⟩:=hn;unfold keyOf;simp only [underlying52];rw [if_pos (by simp [Tryz.keyTypeLie,Value.formed,underlying52,Tryz.cellsLie]),hm]
 unfold Program.keyLits;simp only [underlying52,Value.cells];rw [if_pos (by rw [Tryz.cellsLie];exact ⟨rfl,CI⟩)]
 simp [Tryz.cellsIntL,Program.keyLits,underlying3,hp,hs]
def gA (es:List am)(p s:Int):Nat:=es.countP fun e=>e.CB==p&&e.side==s
def fL (es:List am):Value->Int
 | .agg ⟨[.int .i64 p,.int .i64 s]⟩=>gA es p s
 | _=>0
theorem AZ (es:List am)(p s:Int):fL es (.agg #[.int .i64 p,.int .i64 s])=gA es p s:=rfl
theorem BY:fL []=fun _=>0:=by
 funext v
 unfold fL
 split <;> rfl
theorem nK (es:List am)(e:am)(p s:Int):gA (es++[e]) p s=gA es p s+if (e.CB==p&&e.side==s)=true then 1 else 0:=by
 unfold gA;rw [List.countP_append,List.countP_singleton]
theorem Bj (es:List am)(p s:Int):fL (es++[⟨p,s⟩]) (.agg #[.int .i64 p,.int .i64 s])=fL es (.agg #[.int .i64 p,.int .i64 s])+1:=by
 rw [AZ,AZ,nK,if_pos CI]
 simp
theorem AN (es:List am)(p s:Int):∀ k,k≠.agg #[.int .i64 p,.int .i64 s]->fL (es++[⟨p,s⟩]) k=fL es k:=by
 intro k hk;unfold fL
 split
 ·rename_i p' s';rw [nK,if_neg]
  ·simp
  ·intro h;simp at h;apply hk;rw [h.1,h.2]
 ·rfl
theorem xh (es:List am)(p s:Int):gA es p s<=es.length:=List.countP_le_length
theorem Ck (L:List am)(k:Value):0<=fL L k/\fL L k<=L.length:=by
 unfold fL
 split
 ·rename_i p s;have:=xh L p s;omega
 ·omega
theorem uW (out:List am)(f:aN):decide ((0:Int)<(gA out f.of f.lie:Nat))=mg out f:=by
 unfold mg gA;rw [Bool.eq_iff_iff,decide_eq_true_iff,List.any_eq_true];have h:(0:Int)<((List.countP (fun e=>e.CB==f.of&&e.side==f.lie) out:Nat):Int)↔0<List.countP (fun e=>e.CB==f.of&&e.side==f.lie) out:=CG
 rw [h,List.countP_pos_iff]
def eN (w:World)(b:Nat)(L:List am):Prop:=bT 52 w b L.length (fL L)
theorem eN.below {w':World}(h:eN w b L)(hb:Cx w w'):eN w' b L:=bT.below h hb
theorem eN.made (w:World):eN (w.alloc (.map #[] 0)) w.heap.size []:=by
 have h:=bT.made 52 w;rw [<-BY] at h;exact h
theorem eN.kept {w':World}(h:eN w b L)(e:w'.heap[b]? = w.heap[b]?):eN w' b L:=bT.of_block h e
theorem eN.count (h:eN w b L)(hp:(Lit.int .i64 p).wf=true)(hs:(Lit.int .i64 s).wf=true)(hn:L.length<=100000000):
  ∃ (c:Int) (v0:Value) (st:Nat) (w1 w2:World),0<=c/\c<=100000000 /\
   (Instr.lookup 301 (.map (some b)) (.agg #[.int .i64 p,.int .i64 s]) false).run prog w = .ok (.int .i64 c) w /\
   (Instr.mapEntry 301 (.map (some b)) (.agg #[.int .i64 p,.int .i64 s])).run prog w = .ok (.tuple #[v0,.int .i64 st]) w1 /\
   (Instr.lookup 301 (.map (some b)) (.agg #[.int .i64 p,.int .i64 s]) false).run prog w1 = .ok (.int .i64 c) w1 /\
   (Instr.entryStore 301 (.map (some b)) (.int .i64 st) (.int .i64 (c+1))).run prog w1 = .ok () w2/\eN w2 b (L++[⟨p,s⟩])/\w.grownBy w2 (some b):=by
 obtain ⟨kl,a⟩:=BP hp hs;have d:=Ck L (.agg #[.int .i64 p,.int .i64 s]);have f:=bT.lookup h BN underlying301 a;obtain ⟨v0,st,w1,w2,g,i,j,k,hg⟩:=bT.entry h A3 underlying301 CK a (fL L (.agg #[.int .i64 p,.int .i64 s])+1) (iW CG CG) (fL (L++[⟨p,s⟩])) (Bj _ _ _) (AN _ _ _)
 exact ⟨_,v0,st,w1,w2,d.1,CG,f,g,i,j,by unfold eN;rw [List.length_append];exact k,hg⟩
theorem eN.look (h:eN w b L)(hp:(Lit.int .i64 p).wf=true)(hs:(Lit.int .i64 s).wf=true):
   (Instr.lookup 301 (.map (some b)) (.agg #[.int .i64 p,.int .i64 s]) false).run prog w = .ok (.int .i64 (gA L p s)) w:=by
 obtain ⟨kl,a⟩:=BP hp hs;exact bT.lookup h BN underlying301 a
end Go.Proofs.YtmkdgnmmebldgaaGreatDoor
