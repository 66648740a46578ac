import Derived.Test.YtmkdgnmmebldgaaGreatDoorPt48
import Derived.Test.YtmkdgnmmebldgaaGreatDoorPt47
set_option maxRecDepth 100000
set_option maxHeartbeats 8000000
namespace Go.Proofs.YtmkdgnmmebldgaaGreatDoor
open Go.RowKit Go.Deep
def SgOut (C:Nat)(ca:Option Addr)(cc:Nat)(bs:List Int)(top mx:Nat)(rb:Option Nat)(B:Nat)(w:World)(e:Ending)(w':World):Prop:=
 ∃ xs ys ss at',e = .returned (.slice xs (ss:List MPiece).length ys)∧SigKeep B w' xs ss∧at'≤top∧Cur w' C ca cc bs at'∧Only (fun k=>k=C∨rb=some k) w w'∧w'.ownsRow B 62 4 (.slice xs ss.length ys) ss.length (flatPc ss)∧(∀ s ∈ ss,s.name.size≤1000002)∧ss.length≤mx
theorem SgOut.mk' {C:Nat}{ca:Option Addr}{cc:Nat}{bs:List Int}{top mx:Nat}{rb:Option Nat}{B at_ n y:Nat}{w w5 w':World}{x:Option Addr}{ss:List MPiece}(hrow:w'.ownsRow B 62 4 (.slice x n y) n (flatPc ss))(hl:ss.length=n)(hn:∀ s ∈ ss,s.name.size≤1000002)(hc:Cur w5 C ca cc bs at_)(hlow:LowB C ca bs)(ho:Only (fun k=>k=C∨rb=some k) w w5)(ho':Only (fun k=>rb=some k) w5 w')(hat:at_≤top)(hCB:C<B)(hmx:n≤mx)(hrb:∀ k,rb=some k→B≤k):SgOut C ca cc bs top mx rb B w (.returned (.slice x n y)) w':=by
 subst hl
 refine ⟨x,y,ss,at_,rfl,fun u hu=>signalsAt_of (N:=B) (owns_kept2 hrow (fun b hb=>hu b (hrow.lt b hb).1 (hrow.lt b hb).2)) hn,hat,hc.above hlow (fun k hk=>ho'.block k (by have:=hc.lt;omega) (fun e=>by have:=hrb k e;omega)),ho.trans (ho'.mono (fun k hk=>Or.inr hk)),hrow,hn,hmx⟩
theorem SgOut.set {C:Nat}{ca:Option Addr}{cc:Nat}{bs:List Int}{top mx B at_ n y g:Nat}{w w5:World}{ss:List MPiece}(hrow:w5.ownsRow B 62 4 (.slice (some ⟨g,0,none⟩) n y) n (flatPc ss))(hl:ss.length=n)(hn:∀ s ∈ ss,s.name.size≤1000002)(hc:Cur w5 C ca cc bs at_)(hlow:LowB C ca bs)(ho:Only (fun k=>k=C∨some g=some k) w w5)(hat:at_≤top)(hCB:C<B){i:Nat}(hi:i<ss.length)(j:Nat)(hj:j<4)(s':MPiece){u:Value}(he:encPc s'=(encPc ss[i]).set j u)(hs:s'.name.size≤1000002)(hmx:n≤mx):SgOut C ca cc bs top mx (some g) B w (.returned (.slice (some ⟨g,0,none⟩) n y)) (w5.setCell ⟨g,i*4+j,none⟩ u):=by
 obtain ⟨h1,h2⟩:=hrow.stored (i*4+j) u
 rw [show (flatPc ss).set (i*4+j) u=flatPc (ss.set i s') from (flat_set encPc 4 (fun _=>rfl) ss i j hi hj s' u he).symm] at h1
 refine SgOut.mk' h1 (by simpa using hl) (fun p hp=>?_) hc hlow ho (Only.grown h2 (fun b e=>e)) hat hCB hmx (fun k e=>by cases e;exact (hrow.lt g rfl).1)
 rcases List.mem_or_eq_of_mem_set hp with hp | rfl
 ·exact hn p hp
 ·exact hs
theorem sig_cell {w:World}{B g n y:Nat}{ss:List MPiece}(h:w.ownsRow B 62 4 (.slice (some ⟨g,0,none⟩) n y) n (flatPc ss))(hl:ss.length=n){i:Nat}(hi:i<ss.length)(j:Nat)(hj:j<4){u:Value}(hu:(encPc ss[i])[j]? = some u):w.cell? ⟨g,i*4+j,none⟩=some u∧w.frozen? ⟨g,i*4+j,none⟩=false:=
 ⟨(h.cellAt (i*4+j) (by omega)).trans ((flat_get encPc 4 (fun _=>rfl) ss i j hi hj).trans hu),h.frozenAt _⟩
theorem zeros_flat:(Builtin.zeroCells (Value.agg #[.string ⟨#[]⟩,.int .i64 0,.int .i64 0,.int .i64 0]).cells 60).toList=flatPc (List.replicate 60 ⟨⟨#[]⟩,0,0,0⟩):=by kernel_rfl
theorem lit_cellS (w:World)(cs:Array Value)(t:TypeId)(y:Nat):(w.alloc (.cells cs t)).cell? ⟨w.heap.size,y,none⟩=cs[y]? := cell_of_row _ _ _ _ _ _ (heap_alloc_new w _)
theorem owns_addrS {w:World}{B e s n y:Nat}{x:Option Addr}{xs:List Value}(h:w.ownsRow B e s (.slice x n y) n xs)(h0:0<n):∃ g,x=some ⟨g,0,none⟩:=by
 rcases h.2 with ⟨_,h2⟩ | ⟨g,cap,cur,h1,_⟩
 ·omega
 ·injection h1 with h1
  exact ⟨g,h1⟩
theorem spoilsignals_any (C B:Nat)(ca:Option Addr)(cc:Nat)(bs:List Int)(at_:Nat)(pa:Option Addr)(np pc:Nat)(ja:Option Addr)(nj jc:Nat)(x:Option Addr)(n y:Nat)(ss:List MPiece)(w:World)(hc:Hid (Cur w C ca cc bs at_))(hlow:Hid (LowB C ca bs))(ha:at_≤500000000)(hCB:C<B)(hBw:B≤w.heap.size)(hnp:np≤2000)(hrow:Hid (w.ownsRow B 62 4 (.slice x n y) n (flatPc ss)))(hl:ss.length=n)(hn:n≤200)(hnm:Hid (∀ s ∈ ss,s.name.size≤1000002)):
  Calls Tryz.prog 58 #[.pointer (some ⟨C,0,none⟩),.agg #[.slice pa np pc,.slice ja nj jc],.slice x n y] w (SgOut C ca cc bs (at_+10) (n+60) (Value.slice x n y).ownBlock B w):=by
 have HL:=hidP hl
 clear hl
 go_enter Tryz.func58,Tryz.ntmps58
 by_cases h0:n=0
 ·have h0':((n:Int)==0)=true:=by simp [h0]
  have HEND:Hid (∀ W,Below w.heap.size w W→SgOut C ca cc bs (at_+10) (n+60) (Value.slice x n y).ownBlock B w (.returned (.slice x n y)) W):=fun W hW=>SgOut.mk' (owns_below hrow.out hW) HL.out hnm.out (hc.out.below hW) hlow.out (Only.of_below hW) (Only.refl _ _) (by omega) hCB (by omega) (fun k e=>(hrow.out.lt k e).1)
  clear h0
  go_wp2_with fail
  go_ret
  exact HEND.out _ blo
 have h0':((n:Int)==0)=false:=by rw [beq_eq_false_iff_ne];omega
 obtain ⟨g,rfl⟩:=owns_addrS hrow.out (by omega)
 have hgB:=(hrow.out.lt g rfl).1
 go_wp2_with fail
 generalize hW:World.alloc w _=W
 have hbW:Below w.heap.size w W:=by rw [← hW];exact blo
 have k0:W.cell? ⟨w.heap.size,0,none⟩=some (.slice pa np pc):=by rw [← hW];simp [go_sem]
 have HBW:=hidP hbW
 obtain ⟨K0,hK0⟩:∃ K0,w.heap.size=K0:=⟨_,rfl⟩
 have hK0w:w.heap.size≤K0:=by omega
 rw [hK0] at k0 ⊢
 clear hW hbW
 refine (pick_any C ca cc bs at_ n W (hc.out.below HBW.out) (by omega) (by omega)).mono ?_
 rintro e w1 ⟨i,at1,hi1,rfl,hat1,hc1,ho1⟩
 have HC1:=hidP hc1
 have HO1:Hid (Only (fun k=>k=C∨some g=some k) w w1):=(Only.of_below HBW.out).trans (ho1.mono (fun k hk=>Or.inl hk))
 have HR1:Hid (w1.ownsRow B 62 4 (.slice (some ⟨g,0,none⟩) n y) n (flatPc ss)):=owns_kept2 (owns_below hrow.out HBW.out) (fun b hb=>ho1.block b ((owns_below hrow.out HBW.out).lt b hb).2 (by have:=(hrow.out.lt b hb).1;omega))
 have k1:=ho1.cell k0 (by show ¬ K0=C;omega)
 have hil:i<n:=by omega
 have hii:(i:Int)<n:=by omega
 have hC1:=hc1.lt
 clear hc1 ho1 k0 hrow hc HBW
 go_wp2_with fail
 refine (pick_any C ca cc bs at1 6 w1 HC1 (by omega) (by omega)).mono ?_
 rintro e w5 ⟨xx,at5,hx5,rfl,hat5,hc5,ho5⟩
 have HC5:=hidP hc5
 have HO5:Hid (Only (fun k=>k=C∨some g=some k) w w5):=HO1.out.trans (ho5.mono (fun k hk=>Or.inl hk))
 have HR5:Hid (w5.ownsRow B 62 4 (.slice (some ⟨g,0,none⟩) n y) n (flatPc ss)):=owns_kept2 HR1.out (fun b hb=>ho5.block b (HR1.out.lt b hb).2 (by have:=(HR1.out.lt b hb).1;omega))
 have k5:=ho5.cell k1 (by show ¬ K0=C;omega)
 have hC5:=hc5.lt
 have hz5:B≤w5.heap.size:=by have:=HO5.out.size;omega
 clear hc5 ho5 k1 HC1 HO1 HR1 hC1
 have hil':Hid (i<ss.length):=by unfold Hid;rw [HL.out];exact hil
 have hx':xx=0∨xx=1∨xx=2∨xx=3∨xx=4∨xx=5:=by omega
 rcases hx' with rfl | rfl | rfl | rfl | rfl | rfl
 ·go_wp2_with fail
  generalize hWk:World.alloc w5 _=Wk
  have hbk:Below w5.heap.size w5 Wk:=by rw [← hWk];exact (Below.refl _ _).alloc (Nat.le_refl _) _
  have HKC:Hid (∀ y:Nat,y<4→∃ kv:ByteArray,Wk.cell? ⟨w5.heap.size,y,none⟩=some (.string kv)∧kv.size≤1000002):=by
   intro y hy
   rw [← hWk]
   have h7:y=0∨y=1∨y=2∨y=3:=by omega
   rcases h7 with rfl | rfl | rfl | rfl
   ·exact ⟨⟨#[]⟩,(lit_cellS _ _ _ 0).trans rfl,by show (0:Nat)≤1000002;omega⟩
   ·exact ⟨⟨#[97,48]⟩,(lit_cellS _ _ _ 1).trans rfl,by show (2:Nat)≤1000002;omega⟩
   ·exact ⟨⟨#[65]⟩,(lit_cellS _ _ _ 2).trans rfl,by show (1:Nat)≤1000002;omega⟩
   ·exact ⟨⟨#[98,49]⟩,(lit_cellS _ _ _ 3).trans rfl,by show (2:Nat)≤1000002;omega⟩
  have HBk:=hidP hbk
  clear hWk hbk
  refine (pick_any C ca cc bs at5 4 Wk (HC5.out.below HBk.out) (by omega) (by omega)).mono ?_
  rintro e w6 ⟨z,at6,hz,rfl,hat6,hc6,ho6⟩
  have hyn:z<4:=by omega
  obtain ⟨kv,hkv,hks⟩:=HKC.out z hyn
  have kc:=ho6.cell hkv (by show ¬ w5.heap.size=C;omega)
  have hzk:=cellLt kc
  dsimp only at hzk
  have HO6:Hid (Only (fun k=>k=C∨some g=some k) w w6):=(HO5.out.trans (Only.of_below HBk.out)).trans (ho6.mono (fun k hk=>Or.inl hk))
  have HR6:Hid (w6.ownsRow B 62 4 (.slice (some ⟨g,0,none⟩) n y) n (flatPc ss)):=owns_kept2 (owns_below HR5.out HBk.out) (fun b hb=>ho6.block b ((owns_below HR5.out HBk.out).lt b hb).2 (by have:=(HR5.out.lt b hb).1;omega))
  have HC6:=hidP hc6
  clear hkv hc6 ho6 HKC
  obtain ⟨sc,sz⟩:=sig_cell HR6.out HL.out hil'.out 0 (by omega) rfl
  rw [Nat.add_zero] at sc sz
  have hgz:=cellLt sc
  dsimp only at hgz
  go_wp2_with fail
  go_ret
  exact SgOut.set HR6.out HL.out hnm.out HC6.out hlow.out HO6.out (by omega) hCB hil'.out 0 (by omega) ⟨kv,(ss[i]'hil'.out).len,(ss[i]'hil'.out).speed,(ss[i]'hil'.out).brake⟩ rfl hks (by omega)
 ·go_wp2_with fail
  refine (pick_any C ca cc bs at5 (np+2) w5 HC5 (by omega) (by omega)).mono ?_
  rintro e w6 ⟨kv,at6,hz,rfl,hat6,hc6,ho6⟩
  have HO6:Hid (Only (fun k=>k=C∨some g=some k) w w6):=HO5.out.trans (ho6.mono (fun k hk=>Or.inl hk))
  have HR6:Hid (w6.ownsRow B 62 4 (.slice (some ⟨g,0,none⟩) n y) n (flatPc ss)):=owns_kept2 HR5.out (fun b hb=>ho6.block b (HR5.out.lt b hb).2 (by have:=(HR5.out.lt b hb).1;omega))
  have HC6:=hidP hc6
  have hkv:(kv:Int)<(np+2):=by omega
  clear hc6 ho6
  obtain ⟨sc,sz⟩:=sig_cell HR6.out HL.out hil'.out 1 (by omega) rfl
  have hgz:=cellLt sc
  dsimp only at hgz
  go_wp2_with fail
  go_ret
  exact SgOut.set HR6.out HL.out hnm.out HC6.out hlow.out HO6.out (by omega) hCB hil'.out 1 (by omega) ⟨(ss[i]'hil'.out).name,(kv:Int)-1,(ss[i]'hil'.out).speed,(ss[i]'hil'.out).brake⟩ rfl (hnm.out (ss[i]'hil'.out) (List.getElem_mem hil'.out)) (by omega)
 ·go_wp2_with fail
  generalize hWk:World.alloc w5 _=Wk
  have hbk:Below w5.heap.size w5 Wk:=by rw [← hWk];exact (Below.refl _ _).alloc (Nat.le_refl _) _
  have HKC:Hid (∀ y:Nat,y<4→∃ kv:Int,Wk.cell? ⟨w5.heap.size,y,none⟩=some (.int .i64 kv)):=by
   intro y hy
   rw [← hWk]
   have h7:y=0∨y=1∨y=2∨y=3:=by omega
   rcases h7 with rfl | rfl | rfl | rfl
   ·exact ⟨0,(lit_cellS _ _ _ 0).trans rfl⟩
   ·exact ⟨1,(lit_cellS _ _ _ 1).trans rfl⟩
   ·exact ⟨-1,(lit_cellS _ _ _ 2).trans rfl⟩
   ·exact ⟨100000,(lit_cellS _ _ _ 3).trans rfl⟩
  have HBk:=hidP hbk
  clear hWk hbk
  refine (pick_any C ca cc bs at5 4 Wk (HC5.out.below HBk.out) (by omega) (by omega)).mono ?_
  rintro e w6 ⟨z,at6,hz,rfl,hat6,hc6,ho6⟩
  have hyn:z<4:=by omega
  obtain ⟨kv,hkv⟩:=HKC.out z hyn
  have kc:=ho6.cell hkv (by show ¬ w5.heap.size=C;omega)
  have hzk:=cellLt kc
  dsimp only at hzk
  have HO6:Hid (Only (fun k=>k=C∨some g=some k) w w6):=(HO5.out.trans (Only.of_below HBk.out)).trans (ho6.mono (fun k hk=>Or.inl hk))
  have HR6:Hid (w6.ownsRow B 62 4 (.slice (some ⟨g,0,none⟩) n y) n (flatPc ss)):=owns_kept2 (owns_below HR5.out HBk.out) (fun b hb=>ho6.block b ((owns_below HR5.out HBk.out).lt b hb).2 (by have:=(HR5.out.lt b hb).1;omega))
  have HC6:=hidP hc6
  clear hkv hc6 ho6 HKC
  obtain ⟨sc,sz⟩:=sig_cell HR6.out HL.out hil'.out 2 (by omega) rfl
  have hgz:=cellLt sc
  dsimp only at hgz
  go_wp2_with fail
  go_ret
  exact SgOut.set HR6.out HL.out hnm.out HC6.out hlow.out HO6.out (by omega) hCB hil'.out 2 (by omega) ⟨(ss[i]'hil'.out).name,(ss[i]'hil'.out).len,kv,(ss[i]'hil'.out).brake⟩ rfl (hnm.out (ss[i]'hil'.out) (List.getElem_mem hil'.out)) (by omega)
 ·go_wp2_with fail
  refine (pick_any C ca cc bs at5 4 w5 HC5 (by omega) (by omega)).mono ?_
  rintro e w6 ⟨kv,at6,hz,rfl,hat6,hc6,ho6⟩
  have HO6:Hid (Only (fun k=>k=C∨some g=some k) w w6):=HO5.out.trans (ho6.mono (fun k hk=>Or.inl hk))
  have HR6:Hid (w6.ownsRow B 62 4 (.slice (some ⟨g,0,none⟩) n y) n (flatPc ss)):=owns_kept2 HR5.out (fun b hb=>ho6.block b (HR5.out.lt b hb).2 (by have:=(HR5.out.lt b hb).1;omega))
  have HC6:=hidP hc6
  have hkv:(kv:Int)<4:=by omega
  clear hc6 ho6
  obtain ⟨sc,sz⟩:=sig_cell HR6.out HL.out hil'.out 3 (by omega) rfl
  have hgz:=cellLt sc
  dsimp only at hgz
  go_wp2_with fail
  go_ret
  exact SgOut.set HR6.out HL.out hnm.out HC6.out hlow.out HO6.out (by omega) hCB hil'.out 3 (by omega) ⟨(ss[i]'hil'.out).name,(ss[i]'hil'.out).len,(ss[i]'hil'.out).speed,(kv:Int)-2⟩ rfl (hnm.out (ss[i]'hil'.out) (List.getElem_mem hil'.out)) (by omega)
 ·have hl0:0<ss.length:=by rw [HL.out];omega
  have s0:=(sig_cell HR5.out HL.out hl0 0 (by omega) rfl).1
  have s1:=(sig_cell HR5.out HL.out hl0 1 (by omega) rfl).1
  have s2:=(sig_cell HR5.out HL.out hl0 2 (by omega) rfl).1
  have s3:=(sig_cell HR5.out HL.out hl0 3 (by omega) rfl).1
  rw [Nat.zero_mul,Nat.zero_add] at s0 s1 s2 s3
  have hnm0:=hnm.out _ (List.getElem_mem hl0)
  generalize ss[0]'hl0=p at s0 s1 s2 s3 hnm0
  have hgz:=cellLt s0
  dsimp only at hgz
  have hni:(0:Int)<n:=by omega
  have HPUSH:Hid (∀ (w':World) (x':Option Addr) (y':Nat),w5.grownBy w' (some g)→w'.ownsRow B 62 4 (.slice x' (n+1) y') (n+1) (flatPc ss++[.string p.name,.int .i64 p.len,.int .i64 p.speed,.int .i64 p.brake])→SgOut C ca cc bs (at_+10) (n+60) (some g) B w (.returned (.slice x' (n+1) y')) w'):=by
   intro w' x' y' hg ho
   have ho:w'.ownsRow B 62 4 (.slice x' (n+1) y') (n+1) (flatPc (ss++[p])):=by rw [← flatPc_push];exact ho
   refine SgOut.mk' ho (by rw [List.length_append,HL.out];rfl) (fun s hs=>?_) HC5.out hlow.out HO5.out (Only.grown hg (fun b e=>e)) (by omega) hCB (by omega) (fun k e=>by cases e;exact hgB)
   rcases List.mem_append.1 hs with hs | hs
   ·exact hnm.out s hs
   ·have:s=p:=by simpa using hs
    rw [this];exact hnm0
  go_wp2_with (at_builtin;refine wpList_push (Wp:=w5) rfl (.tmp 64) (.tmp 68) 27 rfl B 62 _ 4 40 Tryz.underlying27 Tryz.infoSignal rfl (by decide) (.slice (some ⟨g,0,none⟩) n y) n (flatPc ss) rfl HR5.out w5.heap.size rfl [.string p.name,.int .i64 p.len,.int .i64 p.speed,.int .i64 p.brake] rfl rfl (by simp [Value.oneCell']) (by unfold maxLen;omega) (by omega) hz5 ?_;intro x8 y8 w8 ho8 hg8;have HSP:=hidP (HPUSH.out w8 x8 y8 hg8 ho8);clear ho8 hg8)
  go_ret
  exact HSP.out
 ·have HZ:Hid (∀ (w':World) (x':Option Addr) (y':Nat),w5.grownBy w' (some g)→w'.ownsRow B 62 4 (.slice x' (n+60) y') (n+60) (flatPc ss++(Builtin.zeroCells (Value.agg #[.string ⟨#[]⟩,.int .i64 0,.int .i64 0,.int .i64 0]).cells 60).toList)→SgOut C ca cc bs (at_+10) (n+60) (some g) B w (.returned (.slice x' (n+60) y')) w'):=by
   intro w' x' y' hg ho
   have ho:w'.ownsRow B 62 4 (.slice x' (n+60) y') (n+60) (flatPc (ss++List.replicate 60 ⟨⟨#[]⟩,0,0,0⟩)):=by rw [zeros_flat] at ho;unfold flatPc at ho ⊢;rw [List.flatMap_append];exact ho
   refine SgOut.mk' ho (by rw [List.length_append,HL.out,List.length_replicate]) (fun s hs=>?_) HC5.out hlow.out HO5.out (Only.grown hg (fun b e=>e)) (by omega) hCB (by omega) (fun k e=>by cases e;exact hgB)
   rcases List.mem_append.1 hs with hs | hs
   ·exact hnm.out s hs
   ·have:s=⟨⟨#[]⟩,0,0,0⟩:=(List.mem_replicate.1 hs).2
    rw [this];show (0:Nat)≤1000002;omega
  have HONE:Hid (∀ u ∈ (Builtin.zeroCells (Value.agg #[.string ⟨#[]⟩,.int .i64 0,.int .i64 0,.int .i64 0]).cells 60).toList,u.oneCell'=true):=by
   unfold Hid
   rw [zeros_flat]
   intro u hu
   obtain ⟨s,hs,hu⟩:=List.mem_flatMap.1 hu
   simp [encPc] at hu
   rcases hu with rfl | rfl | rfl | rfl <;> rfl
  go_wp2_with (at_builtin;refine wpList_zeros rfl (.tmp 20) (.const (.int .i64 60)) 27 3 rfl B 62 _ 4 40 Tryz.underlying27 Tryz.underlying3 Tryz.infoSignal rfl (by decide) HONE.out (by decide) g y n (flatPc ss) rfl rfl HR5.out (by unfold maxLen;omega) (by omega) hz5 ?_;intro x8 y8 w8 ho8 hg8;have HSP:=hidP (HZ.out w8 x8 y8 hg8 ho8);clear ho8 hg8)
  go_ret
  exact HSP.out
end Go.Proofs.YtmkdgnmmebldgaaGreatDoor
