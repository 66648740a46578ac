import Derived.Test.YtmkdgnmmebldgaaGreatDoorPt49
import Derived.Test.YtmkdgnmmebldgaaGreatDoorPt50
import Derived.Test.YtmkdgnmmebldgaaGreatDoorPt41
import Derived.Test.YtmkdgnmmebldgaaGreatDoorPt45
import Derived.Test.YtmkdgnmmebldgaaGreatDoorPt46
import Derived.Test.YtmkdgnmmebldgaaGreatDoorPt43
import Derived.Test.YtmkdgnmmebldgaaGreatDoorPt36
import Derived.Test.YtmkdgnmmebldgaaGreatDoorPt34
set_option maxRecDepth 100000
set_option maxHeartbeats 8000000
namespace Go.Proofs.YtmkdgnmmebldgaaGreatDoor
open Go.RowKit Go.Deep
def SpoiltOut (w:World)(e:Ending)(w':World):Prop:=
 ∃ pa pc ja jc sa sc ps js ss,e = .returned (.tuple #[.agg #[.slice pa (ps:List MPiece).length pc,.slice ja (js:List MJoint).length jc],.slice sa (ss:List MPiece).length sc])∧PiecesAt w' pa ps∧JointsAt w' ja js∧PiecesAt w' sa ss∧Below w.heap.size w w'
def NetX (C R M B:Nat)(w:World)(xp xj:Option Addr)(ps:List MPiece)(js:List MJoint):Prop:=
 ∀ u:World,(∀ b,b<w.heap.size→b≠C→b≠R→b≠M→(B≤b→¬ SgBk w b)→u.heap[b]? = w.heap[b]?)→PiecesAt u xp ps∧JointsAt u xj js
theorem NetX.on {C R M B:Nat}{w w':World}{xp xj:Option Addr}{ps:List MPiece}{js:List MJoint}(h:NetX C R M B w xp xj ps js){rb:Option Nat}(ho:Only (fun k=>k=C∨rb=some k) w w')(hs:∀ b,rb=some b→B≤b∧SgBk w b):NetX C R M B w' xp xj ps js:=by
 intro u hu
 refine h u (fun b h1 h2 h3 h4 h5=>?_)
 have hb:w'.heap[b]? = w.heap[b]? := ho.block b h1 (fun e=>e.elim h2 (fun e=>h5 (hs b e).1 (hs b e).2))
 refine (hu b (Nat.lt_of_lt_of_le h1 ho.size) h2 h3 h4 (fun hB=>?_)).trans hb
 unfold SgBk
 rw [hb]
 exact h5 hB
def SpL (C R M B:Nat)(ca:Option Addr)(cc:Nat)(bs:List Int)(xp xj:Option Addr)(np:Nat)(ps:List MPiece)(js:List MJoint)(top mx:Nat)(W:World)(x:Option Addr)(n y:Nat)(wr:World):Prop:=
 ∃ ss at_,ss.length=n∧n≤mx∧np=ps.length∧wr.ownsRow B 62 4 (.slice x n y) n (flatPc ss)∧(∀ s ∈ ss,s.name.size≤1000002)∧NetX C R M B wr xp xj ps js∧at_≤top∧Cur wr C ca cc bs at_∧Only (fun k=>k=C∨B≤k) W wr∧B≤wr.heap.size
theorem DrawSignalsOk_any (ca:Option Addr)(cc:Nat)(bs:List Int)(w:World)(hcode:Hid (bs=[]∨∃ b off,ca=some ⟨b,off,none⟩∧ByteCells w b off bs))(hsm:Hid (∀ x ∈ bs,0≤x∧x<256))(hlen:bs.length≤1048576):
  Calls Tryz.prog 24 #[.slice ca bs.length cc] w (SpoiltOut w):=by
 have hlt:Hid (bs=[]∨∀ b off,ca=some ⟨b,off,none⟩→b<w.heap.size):=by
  rcases hcode.out with h | ⟨b,off,h1,h2⟩
  ·exact Or.inl h
  ·by_cases h0:bs=[]
   ·exact Or.inl h0
   ·refine Or.inr (fun b' off' e=>?_)
    rw [h1] at e
    cases e
    exact cellLt (h2 0 (List.length_pos_iff.2 h0))
 go_enter Tryz.func24,Tryz.ntmps24
 go_wp2_with fail
 generalize hW:World.alloc (World.alloc w _) _=W
 have hbW:Below w.heap.size w W:=by rw [← hW];exact blo
 have HC0:Hid (Cur W (w.heap.size+1) ca cc bs 0):=by
  refine ⟨by rw [← hW];simp [go_sem],by rw [← hW];simp [go_sem],⟨0,by rw [← hW];simp [go_sem]⟩,fun o=>by rw [← hW];simp [go_sem],?_,hsm.out,hlen,fun o ho=>by rw [← hW];simp [go_sem];omega⟩
  rcases hcode.out with h | ⟨b,off,h1,h2⟩
  ·exact Or.inl h
  ·rcases hlt.out with h0 | h0
   ·exact Or.inl h0
   ·exact Or.inr ⟨b,off,h1,by have:=h0 b off h1;omega,fun i hi=>cell_later hbW (h2 i hi)⟩
 have R0:W.cell? ⟨w.heap.size,0,none⟩=some (.slice none 0 0):=by rw [← hW];simp [go_sem]
 have R1:W.cell? ⟨w.heap.size,1,none⟩=some (.slice none 0 0):=by rw [← hW];simp [go_sem]
 have HRZ:Hid (∀ o,W.frozen? ⟨w.heap.size,o,none⟩=false):=fun o=>by rw [← hW];simp [go_sem]
 have hzW:w.heap.size+1<W.heap.size:=by rw [← hW];simp
 have HBW:=hidP hbW
 clear hW hbW
 obtain ⟨C,hC⟩:∃ C,w.heap.size+1=C:=⟨_,rfl⟩
 obtain ⟨R,hR⟩:∃ R,w.heap.size=R:=⟨_,rfl⟩
 rw [hC] at HC0 hzW ⊢
 rw [hR] at R0 R1 HRZ ⊢
 have hRC:R<C:=by omega
 have HRw:Hid (w.heap.size=R):=hR
 have HL:Hid (LowB C ca bs):=hlt.out.imp id (fun h0 b off h=>by have:=h0 b off h;omega)
 clear hC hR
 refine (track_any C ca cc bs 0 W HC0 HL (by omega)).mono ?_
 rintro e w1 ⟨pa,pc,ja,jc,ps,js,at1,rfl,hk1,hps,hc1,hat1,ho1⟩
 have HK1:=hidP hk1
 have HPS:=hidP hps
 have HC1:=hidP hc1
 have HO1:=hidP ho1
 have hz1:=ho1.size
 clear hk1 hc1 ho1 hps
 go_wp2_with fail
 generalize hW2:World.alloc w1 _=W2
 have hb2:Below w1.heap.size w1 W2:=by rw [← hW2];exact blo
 have M0:W2.cell? ⟨w1.heap.size,0,none⟩=some (.slice pa ps.length pc):=by rw [← hW2];simp [go_sem]
 have M1:W2.cell? ⟨w1.heap.size,1,none⟩=some (.slice ja js.length jc):=by rw [← hW2];simp [go_sem]
 have HMZ:Hid (∀ o,W2.frozen? ⟨w1.heap.size,o,none⟩=false):=fun o=>by rw [← hW2];simp [go_sem]
 have hz2:w1.heap.size<W2.heap.size:=by rw [← hW2];simp
 have HB2:=hidP hb2
 clear hW2 hb2
 obtain ⟨M,hM⟩:∃ M,w1.heap.size=M:=⟨_,rfl⟩
 have HMw:Hid (w1.heap.size=M):=hM
 rw [hM] at M0 M1 HMZ hz2 hz1 ⊢
 clear hM
 have hMC:C<M:=by omega
 have HKP:Hid (∀ u,Only (fun k=>k=C) W2 u→PiecesAt u pa ps∧JointsAt u ja js):=fun u hu=>HK1.out u (fun b h1 h2=>(hu.block b (by have:=HB2.out.size;omega) (by omega)).trans (HB2.out.block b h2))
 refine (signals_any C ca cc bs at1 pa pc ja js.length jc ps W2 (HC1.out.below HB2.out) HL (by omega) (fun u hu=>(HKP.out u hu).1) HPS.out.1 HPS.out.2.1 HPS.out.2.2.1).mono ?_
 rintro e w3 ⟨sa,sc,ss,at3,rfl,hk3,hss,hc3,hat3,ho3⟩
 have HSS:=hidP hss
 have HC3:=hidP hc3
 have HO3:=hidP ho3
 have hz3:=ho3.size
 have hs8:=hss.1
 clear hk3 hc3 ho3 hss
 go_wp2_with fail
 refine (pick_any C ca cc bs at3 8 w3 HC3 (by omega) (by omega)).mono ?_
 rintro e w4 ⟨x,at4,hx,rfl,hat4,hc4,ho4⟩
 have HC4:=hidP hc4
 have HO4:Hid (Only (fun k=>k=C) W2 w4):=HO3.out.trans ho4
 have hz4:=ho4.size
 obtain ⟨B,hB⟩:∃ B,W2.heap.size=B:=⟨_,rfl⟩
 have HR4:Hid (w4.ownsRow B 62 4 (.slice sa ss.length sc) ss.length (flatPc ss)):=by rw [← hB];exact owns_kept2 HSS.out.2.1 (fun b hb=>ho4.block b (HSS.out.2.1.lt b hb).2 (by have:=(HSS.out.2.1.lt b hb).1;omega))
 have HSN:Hid (∀ s ∈ ss,s.name.size≤1000002):=HSS.out.2.2
 have HOW:Hid (Only (fun k=>k=C) W w4):=(HO1.out.trans (Only.of_below HB2.out)).trans HO4.out
 have m0:=HO4.out.cell M0 (by show ¬ M=C;omega)
 have m1:=HO4.out.cell M1 (by show ¬ M=C;omega)
 have hMb:w4.heap[M]? = W2.heap[M]? := HO4.out.block M (by omega) (by omega)
 have HM4:Hid (∀ o,w4.frozen? ⟨M,o,none⟩=false):=fun o=>(World.frozen?_of_block (w:=W2) (a:=⟨M,o,none⟩) hMb).trans (HMZ.out o)
 have hnet:=HKP.out w4 HO4.out
 have HN1:=hidP hnet.1
 have HN2:=hidP hnet.2
 have HNX:Hid (NetX C R M B w4 pa ja ps js):=fun u hu=>HK1.out u (fun b h1 h2=>(hu b (by have:=HMw.out;omega) (by have:=HMw.out;omega) (by have:=HMw.out;omega) (by have:=HMw.out;omega) (by have:=HMw.out;intro h9;omega)).trans ((HO4.out.block b (by have:=HMw.out;omega) (by omega)).trans (HB2.out.block b h2)))
 have hMB:M<B:=by omega
 have hBz:B≤w4.heap.size:=by omega
 have hp100:=HPS.out.2.1
 have hj100:=HPS.out.2.2.2.1
 have HJE:Hid (∀ j ∈ js,j.ends.length≤4):=HPS.out.2.2.2.2
 clear hnet hMb hc4 ho4 HC3 HO3 HK1 HC1 HO1 HSS HPS HKP HMZ M0 M1 hB HB2
 have HFIN:Hid (∀ (wz wf:World) (xp:Option Addr) (yp:Nat) (xj:Option Addr) (yj:Nat) (x:Option Addr) (n y np:Nat) (ps':List MPiece) (js':List MJoint) (top mx:Nat),SpL C R M B ca cc bs xp xj np ps' js' top mx W x n y wz→wf.heap.size=wz.heap.size→(∀ b,b≠R→wf.heap[b]? = wz.heap[b]?)→wf.os=wz.os→wf.tape=wz.tape→wf.output=wz.output→SpoiltOut w (.returned (.tuple #[.agg #[.slice xp np yp,.slice xj js'.length yj],.slice x n y])) wf):=by
  rintro wz wf xp yp xj yj x n y np ps' js' top mx ⟨ss',at',rfl,hmx,rfl,hrow,hnm,hnx,hat,hc,ho,_⟩ hs hb h1 h2 h3
  have hw:=HRw.out
  have hn2:=hnx wf (fun b b1 b2 b3 b4 b5=>hb b b3)
  refine ⟨xp,yp,xj,yj,x,y,ps',js',ss',rfl,hn2.1,hn2.2,signalsAt_of (N:=B) (owns_kept2 hrow (fun b hb'=>hb b (by have:=(hrow.lt b hb').1;omega))) hnm,?_⟩
  have hbw:=HBW.out
  exact ⟨h1.trans (ho.os.trans hbw.os),h2.trans (ho.tape.trans hbw.tape),h3.trans (ho.output.trans hbw.output),by have q1:=ho.size;have q2:=hbw.size;omega,fun k hk=>(hb k (by omega)).trans ((ho.block k (by have:=hbw.size;omega) (by omega)).trans (hbw.block k hk))⟩
 have HRR:Hid (∀ (xp:Option Addr) (xj:Option Addr) (x:Option Addr) (n y np:Nat) (ps':List MPiece) (js':List MJoint) (top mx:Nat) (wz:World),SpL C R M B ca cc bs xp xj np ps' js' top mx W x n y wz→wz.cell? ⟨R,0,none⟩=some (.slice none 0 0)∧wz.cell? ⟨R,1,none⟩=some (.slice none 0 0)∧wz.frozen? ⟨R,0,none⟩=false∧wz.frozen? ⟨R,1,none⟩=false):=by
  rintro xp xj x n y np ps' js' top mx wz ⟨ss',at',rfl,hmx,rfl,hrow,hnm,hnx,hat,hc,ho,_⟩
  have hRb:wz.heap[R]? = W.heap[R]? := ho.block R (by omega) (by omega)
  exact ⟨(World.cell?_of_block (w:=W) (a:=⟨R,0,none⟩) hRb).trans R0,(World.cell?_of_block (w:=W) (a:=⟨R,1,none⟩) hRb).trans R1,(World.frozen?_of_block (w:=W) (a:=⟨R,0,none⟩) hRb).trans (HRZ.out 0),(World.frozen?_of_block (w:=W) (a:=⟨R,1,none⟩) hRb).trans (HRZ.out 1)⟩
 have hx':x=0∨1≤x:=by omega
 rcases hx' with rfl | hx1
 ·go_wp2_with fail
  refine (spoil_any C ca cc bs at4 pa pc ja jc ps js w4 HC4 HL (by omega) HN1 HN2 (by omega) (by omega) HJE).mono ?_
  rintro e w0 ⟨xp,yp,xj,yj,ps',js',at5,rfl,hk5,hat5,hc5,ho5,hnpl⟩
  have hz5:=ho5.size
  have m0':=ho5.cell m0 (by show ¬ M=C;omega)
  have m1':=ho5.cell m1 (by show ¬ M=C;omega)
  have hMb:w0.heap[M]? = w4.heap[M]? := ho5.block M (by omega) (by omega)
  have fz0:=(World.frozen?_of_block (w:=w4) (a:=⟨M,0,none⟩) hMb).trans (HM4.out 0)
  have fz1:=(World.frozen?_of_block (w:=w4) (a:=⟨M,1,none⟩) hMb).trans (HM4.out 1)
  have HNX0:Hid (NetX C R M B w0 xp xj ps' js'):=fun u hu=>hk5 u (fun b h1 h2 h3=>hu b h2 (by omega) (by omega) (by omega) (fun _=>h3))
  have HR0:Hid (w0.ownsRow B 62 4 (.slice sa ss.length sc) ss.length (flatPc ss)):=owns_kept2 HR4.out (fun b hb=>ho5.block b (HR4.out.lt b hb).2 (by have:=(HR4.out.lt b hb).1;omega))
  have HC0':=hidP hc5
  have HO0:Hid (Only (fun k=>k=C) W w0):=HOW.out.trans ho5
  have HMf:Hid (∀ o,w0.frozen? ⟨M,o,none⟩=false):=fun o=>(World.frozen?_of_block (w:=w4) (a:=⟨M,o,none⟩) hMb).trans (HM4.out o)
  obtain ⟨np,hnp⟩:∃ np,ps'.length=np:=⟨_,rfl⟩
  rw [hnp] at hnpl ⊢
  have HNP:Hid (np=ps'.length):=hnp.symm
  have hcM:C≠M:=by omega
  clear hnp hk5 hc5 ho5 hMb m0 m1 HM4 HNX HR4 HOW HN1 HN2 HJE HC4
  go_wp2_with fail
  generalize hw5:(w0.setCell ⟨M,0,none⟩ (.slice xp np yp)).setCell ⟨M,1,none⟩ (.slice xj js'.length yj)=w5
  have hset:∀ b,b≠M→w5.heap[b]? = w0.heap[b]? := fun b hb=>by rw [← hw5];exact (Below.heap_setCell _ _ _ _ hb).trans (Below.heap_setCell _ _ _ _ hb)
  have p0:w5.cell? ⟨M,0,none⟩=some (.slice xp np yp):=by rw [← hw5];simp [go_sem,m0']
  have p1:w5.cell? ⟨M,1,none⟩=some (.slice xj js'.length yj):=by rw [← hw5];simp [go_sem,m1']
  have hz55:w5.heap.size=w0.heap.size:=by rw [← hw5];simp
  have HM5:Hid (∀ o,w5.frozen? ⟨M,o,none⟩=false):=fun o=>by rw [← hw5];simp [go_sem,HMf.out o]
  have HR5:Hid (w5.ownsRow B 62 4 (.slice sa ss.length sc) ss.length (flatPc ss)):=owns_kept2 HR0.out (fun b hb=>hset b (by have:=(HR0.out.lt b hb).1;omega))
  have HNX5:Hid (NetX C R M B w5 xp xj ps' js'):=fun u hu=>HNX0.out u (fun b h1 h2 h3 h4 h5=>(hu b (by omega) h2 h3 h4 (fun hB=>by unfold SgBk;rw [hset b h4];exact h5 hB)).trans (hset b h4))
  have HC5:Hid (Cur w5 C ca cc bs at5):=HC0'.out.above HL.out (fun k hk=>hset k (by omega))
  have HO5:Hid (Only (fun k=>k=C) W w5):=⟨by rw [← hw5];exact HO0.out.os,by rw [← hw5];exact HO0.out.tape,by rw [← hw5];exact HO0.out.output,by have:=HO0.out.size;omega,fun b hb hn=>(hset b (by have:=HMw.out;omega)).trans (HO0.out.block b hb hn)⟩
  clear hw5 hset m0' m1' fz0 fz1 HNX0 HR0 HC0' HO0 HMf
  refine (pick_any C ca cc bs at5 3 w5 HC5 (by omega) (by omega)).mono ?_
  rintro e w6 ⟨z,at6,hz,rfl,hat6,hc6,ho6⟩
  have hz6:=ho6.size
  have HSL:Hid (SpL C R M B ca cc bs xp xj np ps' js' 300000000 8 W sa ss.length sc w6):=⟨ss,at6,rfl,hs8,HNP.out,owns_kept2 HR5.out (fun b hb=>ho6.block b (HR5.out.lt b hb).2 (by have:=(HR5.out.lt b hb).1;omega)),HSN.out,HNX5.out.on (rb:=none) (ho6.mono (fun k hk=>Or.inl hk)) (fun b e=>by cases e),by omega,hc6,(HO5.out.trans ho6).mono (fun k hk=>Or.inl hk),by omega⟩
  replace p0:=ho6.cell p0 (by show ¬ M=C;omega)
  replace p1:=ho6.cell p1 (by show ¬ M=C;omega)
  have HM6:Hid (∀ o,w6.frozen? ⟨M,o,none⟩=false):=fun o=>(World.frozen?_of_block (w:=w5) (a:=⟨M,o,none⟩) (ho6.block M (by omega) (by omega))).trans (HM5.out o)
  clear hc6 ho6 HR5 HNX5 HC5 HM5
  have hz2:z≤2:=by omega
  have hs8':=hs8
  generalize ss.length=n0 at HSL hs8' ⊢
  go_wp2_with fail
  go_loopw [6,7] (fun sv kv wr => ∃ (x:Option Addr) (n y k:Nat),sv = .slice x n y∧kv = .int .i64 k∧k≤2∧wr.cell? ⟨M,0,none⟩=some (.slice xp np yp)∧wr.cell? ⟨M,1,none⟩=some (.slice xj js'.length yj)∧Hid (SpL C R M B ca cc bs xp xj np ps' js' (300000000+10*(2-k)) (8+60*(2-k)) W x n y wr)) (fun _ kv _=>(intOf kv).toNat)
  case atStart =>
   obtain ⟨ss1,at1,g1,g2,g3,g4,g5,g6,g7,g8,g9,g10⟩:=HSL.out
   exact ⟨sa,n0,sc,z,rfl,rfl,hz2,p0,p1,ss1,at1,g1,by omega,g3,g4,g5,g6,by omega,g8,g9,g10⟩
  case round =>
   obtain ⟨x2,n2,y2,k,rfl,rfl,hk2,d0,d1,HSLr⟩:=hrel
   by_cases hk0:0<k
   ·have hki:(0:Int)<k:=by omega
    obtain ⟨ss2,at2,hl2,hmx2,hnp2,hrow2,hnm2,hnx2,hat2,hc2,ho2,hBr⟩:=HSLr.out
    have HSS:=hidP (spoilsignals_any C B ca cc bs at2 xp np yp xj js'.length yj x2 n2 y2 ss2 wr (hidQ hc2) HL (by omega) (by omega) hBr hnpl (hidQ hrow2) hl2 (by omega) (hidQ hnm2))
    have HX:=hidP (fun b (e:(Value.slice x2 n2 y2).ownBlock=some b)=>(⟨(hrow2.lt b e).1,owns_sig hrow2 e⟩:B≤b∧SgBk wr b))
    have HNX2:=hidP hnx2
    have HNP2:=hidP hnp2
    have HA2:=hidP hat2
    have HM2:=hidP hmx2
    have HO2:=hidP ho2
    clear hl2 hmx2 hnp2 hrow2 hnm2 hnx2 hat2 hc2 ho2
    go_wp2_with fail
    refine HSS.out.mono ?_
    rintro e w7 ⟨x7,y7,ss7,at7,rfl,_,hat7,hc7,ho7,hrow7,hnm7,hmx7⟩
    have hz7:=ho7.size
    have hmxr:=HM2.out
    have hatr:=HA2.out
    have hnpr:=HNP2.out
    have HSL7:Hid (SpL C R M B ca cc bs xp xj np ps' js' (300000000+10*(2-(k-1))) (8+60*(2-(k-1))) W x7 ss7.length y7 w7):=⟨ss7,at7,rfl,by omega,hnpr,hrow7,hnm7,HNX2.out.on ho7 HX.out,by omega,hc7,HO2.out.trans (ho7.mono (fun k hk=>hk.imp id (fun e=>(HX.out k e).1))),by omega⟩
    have b0:=ho7.cell d0 (fun e=>e.elim (fun e=>absurd e (by show ¬ M=C;omega)) (fun e=>absurd (HX.out M e).1 (by omega)))
    have b1:=ho7.cell d1 (fun e=>e.elim (fun e=>absurd e (by show ¬ M=C;omega)) (fun e=>absurd (HX.out M e).1 (by omega)))
    clear hc7 ho7 hrow7 hnm7 hat7 hmx7 hmxr hnpr hatr HSS HX HNX2 HO2 HSLr HNP2 HA2 HM2
    generalize ss7.length=n7 at HSL7 ⊢
    go_wp2_with fail
    go_roundw
    case rel=>exact ⟨x7,n7,y7,k-1,rfl,by go_num,by omega,b0,b1,HSL7⟩
    case measure=>simp [intOf];omega
   ·have hki:¬ (0:Int)<k:=by omega
    obtain ⟨q0,q1,u0,u1⟩:=HRR.out _ _ _ _ _ _ _ _ _ _ _ HSLr.out
    have hMR:M≠R:=by omega
    have HEND:=hidP (HFIN.out wr ((wr.setCell ⟨R,0,none⟩ (.slice xp np yp)).setCell ⟨R,1,none⟩ (.slice xj js'.length yj)) xp yp xj yj x2 n2 y2 np ps' js' _ _ HSLr.out (by simp) (fun b hb=>(Below.heap_setCell _ _ _ _ hb).trans (Below.heap_setCell _ _ _ _ hb)) rfl rfl rfl)
    clear HSLr hk0
    go_wp2_with fail
    exact bodyPost_ret (v:=.tuple #[.agg #[.slice xp np yp,.slice xj js'.length yj],.slice x2 n2 y2]) (by simp [results,Tryz.results24,go_sem,q0,q1]) rfl HEND.out
 ·have e0:((x:Int)==0)=false:=by rw [beq_eq_false_iff_ne];omega
  go_wp2_with fail
  obtain ⟨np,hnp⟩:∃ np,ps.length=np:=⟨_,rfl⟩
  have hnpl:np≤2000:=by omega
  rw [hnp] at m0
  have HNP:Hid (np=ps.length):=hnp.symm
  have p0:=m0
  have p1:=m1
  have hz5:w4.heap.size≤w4.heap.size:=Nat.le_refl _
  have HM5:=HM4
  have HR5:=HR4
  have HNX5:=HNX
  have HC5:=HC4
  have HO5:=HOW
  clear hnp m0 m1 HN1 HN2 HJE HM4 HR4 HNX HC4 HOW
  refine (pick_any C ca cc bs at4 3 w4 HC5 (by omega) (by omega)).mono ?_
  rintro e w6 ⟨z,at6,hz,rfl,hat6,hc6,ho6⟩
  have hz6:=ho6.size
  have HSL:Hid (SpL C R M B ca cc bs pa ja np ps js 300000000 8 W sa ss.length sc w6):=⟨ss,at6,rfl,hs8,HNP.out,owns_kept2 HR5.out (fun b hb=>ho6.block b (HR5.out.lt b hb).2 (by have:=(HR5.out.lt b hb).1;omega)),HSN.out,HNX5.out.on (rb:=none) (ho6.mono (fun k hk=>Or.inl hk)) (fun b e=>by cases e),by omega,hc6,(HO5.out.trans ho6).mono (fun k hk=>Or.inl hk),by omega⟩
  replace p0:=ho6.cell p0 (by show ¬ M=C;omega)
  replace p1:=ho6.cell p1 (by show ¬ M=C;omega)
  have HM6:Hid (∀ o,w6.frozen? ⟨M,o,none⟩=false):=fun o=>(World.frozen?_of_block (w:=w4) (a:=⟨M,o,none⟩) (ho6.block M (by omega) (by omega))).trans (HM5.out o)
  clear hc6 ho6 HR5 HNX5 HC5 HM5
  have hz2:z≤2:=by omega
  have hs8':=hs8
  generalize ss.length=n0 at HSL hs8' ⊢
  go_wp2_with fail
  go_loopw [6,7] (fun sv kv wr => ∃ (x:Option Addr) (n y k:Nat),sv = .slice x n y∧kv = .int .i64 k∧k≤2∧wr.cell? ⟨M,0,none⟩=some (.slice pa np pc)∧wr.cell? ⟨M,1,none⟩=some (.slice ja js.length jc)∧Hid (SpL C R M B ca cc bs pa ja np ps js (300000000+10*(2-k)) (8+60*(2-k)) W x n y wr)) (fun _ kv _=>(intOf kv).toNat)
  case atStart =>
   obtain ⟨ss1,at1,g1,g2,g3,g4,g5,g6,g7,g8,g9,g10⟩:=HSL.out
   exact ⟨sa,n0,sc,z,rfl,rfl,hz2,p0,p1,ss1,at1,g1,by omega,g3,g4,g5,g6,by omega,g8,g9,g10⟩
  case round =>
   obtain ⟨x2,n2,y2,k,rfl,rfl,hk2,d0,d1,HSLr⟩:=hrel
   by_cases hk0:0<k
   ·have hki:(0:Int)<k:=by omega
    obtain ⟨ss2,at2,hl2,hmx2,hnp2,hrow2,hnm2,hnx2,hat2,hc2,ho2,hBr⟩:=HSLr.out
    have HSS:=hidP (spoilsignals_any C B ca cc bs at2 pa np pc ja js.length jc x2 n2 y2 ss2 wr (hidQ hc2) HL (by omega) (by omega) hBr hnpl (hidQ hrow2) hl2 (by omega) (hidQ hnm2))
    have HX:=hidP (fun b (e:(Value.slice x2 n2 y2).ownBlock=some b)=>(⟨(hrow2.lt b e).1,owns_sig hrow2 e⟩:B≤b∧SgBk wr b))
    have HNX2:=hidP hnx2
    have HNP2:=hidP hnp2
    have HA2:=hidP hat2
    have HM2:=hidP hmx2
    have HO2:=hidP ho2
    clear hl2 hmx2 hnp2 hrow2 hnm2 hnx2 hat2 hc2 ho2
    go_wp2_with fail
    refine HSS.out.mono ?_
    rintro e w7 ⟨x7,y7,ss7,at7,rfl,_,hat7,hc7,ho7,hrow7,hnm7,hmx7⟩
    have hz7:=ho7.size
    have hmxr:=HM2.out
    have hatr:=HA2.out
    have hnpr:=HNP2.out
    have HSL7:Hid (SpL C R M B ca cc bs pa ja np ps js (300000000+10*(2-(k-1))) (8+60*(2-(k-1))) W x7 ss7.length y7 w7):=⟨ss7,at7,rfl,by omega,hnpr,hrow7,hnm7,HNX2.out.on ho7 HX.out,by omega,hc7,HO2.out.trans (ho7.mono (fun k hk=>hk.imp id (fun e=>(HX.out k e).1))),by omega⟩
    have b0:=ho7.cell d0 (fun e=>e.elim (fun e=>absurd e (by show ¬ M=C;omega)) (fun e=>absurd (HX.out M e).1 (by omega)))
    have b1:=ho7.cell d1 (fun e=>e.elim (fun e=>absurd e (by show ¬ M=C;omega)) (fun e=>absurd (HX.out M e).1 (by omega)))
    clear hc7 ho7 hrow7 hnm7 hat7 hmx7 hmxr hnpr hatr HSS HX HNX2 HO2 HSLr HNP2 HA2 HM2
    generalize ss7.length=n7 at HSL7 ⊢
    go_wp2_with fail
    go_roundw
    case rel=>exact ⟨x7,n7,y7,k-1,rfl,by go_num,by omega,b0,b1,HSL7⟩
    case measure=>simp [intOf];omega
   ·have hki:¬ (0:Int)<k:=by omega
    obtain ⟨q0,q1,u0,u1⟩:=HRR.out _ _ _ _ _ _ _ _ _ _ _ HSLr.out
    have hMR:M≠R:=by omega
    have HEND:=hidP (HFIN.out wr ((wr.setCell ⟨R,0,none⟩ (.slice pa np pc)).setCell ⟨R,1,none⟩ (.slice ja js.length jc)) pa pc ja jc x2 n2 y2 np ps js _ _ HSLr.out (by simp) (fun b hb=>(Below.heap_setCell _ _ _ _ hb).trans (Below.heap_setCell _ _ _ _ hb)) rfl rfl rfl)
    clear HSLr hk0
    go_wp2_with fail
    exact bodyPost_ret (v:=.tuple #[.agg #[.slice pa np pc,.slice ja js.length jc],.slice x2 n2 y2]) (by simp [results,Tryz.results24,go_sem,q0,q1]) rfl HEND.out
theorem routesF_bad {ps:List MPiece}{js:List MJoint}{ss:List MPiece}{over:Int}(h:sigF ps js ss≠(0,0)):routesF ps js ss over=[]:=by
 unfold routesF
 rw [if_neg (fun e=>h e.1)]
theorem lawSpoilt_any (ca:Option Addr)(cc:Nat)(bs:List Int)(w:World)(hb:Hid (BytesAt w ca bs))(hg:Hid (w.cell? ⟨0,0,none⟩=some (.iface 240 (.agg #[.pointer (some ⟨4,97,none⟩)])))):
  Calls Tryz.prog 7 #[.slice ca bs.length cc] w fun e w'=>e = .returned (.bool true)∧Below w.heap.size w w':=by
 have hl1:=hb.out.len
 unfold maxLen at hl1
 go_enter Tryz.func7,Tryz.ntmps7
 by_cases h1:(1048576:Int)<bs.length
 ·go_wp2_with fail
  go_ret
  exact ⟨rfl,Below.refl _ _⟩
 go_wp2_with fail
 refine (DrawSignalsOk_any ca cc bs w hb.out.lie hb.out.small (by omega)).mono ?_
 rintro e w1 ⟨pa,pc,ja,jc,sa,sc,ps,js,ss,rfl,hP,hJ,hS,hbd⟩
 have HP:=hidP hP
 have HJ:=hidP hJ
 have HS:=hidP hS
 have HB1:=hidP hbd
 clear hP hJ hS hbd hb
 go_upto_region 4 with fail
 generalize hW:World.alloc w1 _=W
 have e0:W.cell? ⟨w1.heap.size,0,none⟩=some (.slice pa ps.length pc):=by rw [← hW];simp [go_sem]
 have e1:W.cell? ⟨w1.heap.size,1,none⟩=some (.slice ja js.length jc):=by rw [← hW];simp [go_sem]
 have hbW:Below w1.heap.size w1 W:=by rw [← hW];exact blo
 have HPW:=hidP (HP.out.below hbW)
 have HJW:=hidP (HJ.out.below hbW)
 have HSW:=hidP (HS.out.below hbW)
 have HBW:Hid (Below w.heap.size w W):=HB1.out.trans (hbW.mono HB1.out.size)
 generalize w1.heap.size=X at e0 e1 ⊢
 clear hW hbW HP HJ HS HB1
 have HIS:=hidP (implSignalsOk_any pa ja sa pc jc sc ps js ss W HPW HJW HSW)
 have HSS:Hid (∀ u:World,Below W.heap.size W u→Calls Tryz.prog 26 #[.agg #[.slice pa ps.length pc,.slice ja js.length jc],.slice sa ss.length sc] u fun e w'=>e = .returned (faultV (sigF ps js ss))∧Below u.heap.size u w'):=fun u hu=>specSignalsOk_any pa ja sa pc jc sc ps js ss u (HPW.out.below hu) (HJW.out.below hu) (HSW.out.below hu)
 have HIN:Hid (∀ u:World,Below W.heap.size W u→Calls Tryz.prog 27 #[.agg #[.slice pa ps.length pc,.slice ja js.length jc]] u fun e w'=>e = .returned (faultV (netF ps js))∧Below u.heap.size u w'):=fun u hu=>implNetOk_any pa ja pc jc ps js u (HPW.out.below hu) (HJW.out.below hu)
 have HSN:Hid (∀ u:World,Below W.heap.size W u→Calls Tryz.prog 28 #[.agg #[.slice pa ps.length pc,.slice ja js.length jc]] u fun e w'=>e = .returned (faultV (netF ps js))∧Below u.heap.size u w'):=fun u hu=>specNetOk_any pa ja pc jc ps js u (HPW.out.below hu) (HJW.out.below hu)
 have HIR:Hid (∀ u:World,Below W.heap.size W u→Calls Tryz.prog 10 #[.agg #[.slice pa ps.length pc,.slice ja js.length jc],.slice sa ss.length sc,.int .i64 5] u (RoutesPost ps js ss 5 u)):=fun u hu=>implRoutes_any pa ja sa pc jc sc ps js ss 5 u (HPW.out.below hu) (HJW.out.below hu) (HSW.out.below hu)
 have HSR:Hid (∀ u:World,Below W.heap.size W u→Calls Tryz.prog 9 #[.agg #[.slice pa ps.length pc,.slice ja js.length jc],.slice sa ss.length sc,.int .i64 5] u fun e w' => ∃ a c,e = .returned (.slice a (routesF ps js ss 5).length c)∧RoutesAt w' a (routesF ps js ss 5)∧Below u.heap.size u w'):=fun u hu=>(specRoutes_any pa ja sa pc jc sc ps js ss 5 u (HPW.out.below hu) (HJW.out.below hu) (HSW.out.below hu)).mono (by rintro e w' ⟨a,c,h1,h2,_,h3⟩;exact ⟨a,c,h1,h2,h3⟩)
 have HLI:Hid (sigF ps js ss≠(0,0)→∀ u:World,Below W.heap.size W u→Calls Tryz.prog 22 #[.agg #[.slice pa ps.length pc,.slice ja js.length jc],.slice sa ss.length sc,.slice none 0 0] u fun e w'=>e = .returned (.string ⟨#[]⟩)∧Below u.heap.size u w'):=fun hbad u hu=>implListing_bad pa ja sa none pc jc sc 0 0 ps js ss u (HPW.out.below hu) (HJW.out.below hu) (HSW.out.below hu) hbad
 have HCK:Hid (sigF ps js ss≠(0,0)→∀ u:World,Below W.heap.size W u→Calls Tryz.prog 12 #[.agg #[.slice pa ps.length pc,.slice ja js.length jc],.slice sa ss.length sc,.int .i64 5,.slice none 0 0,.slice none 0 0] u fun e w'=>e = .returned (.agg #[.int .i64 1,.int .i64 0,.int .i64 0])∧Below u.heap.size u w'):=fun hbad u hu=>implCheck_bad pa ja sa none none pc jc sc 0 0 0 0 ps js ss 5 u (HPW.out.below hu) (HJW.out.below hu) (HSW.out.below hu) hbad (cell_later (HBW.out.trans (hu.mono HBW.out.size)) hg.out)
 have HRF:=hidP (routesF_ok ps js ss 5).1
 have HBAD:Hid (sigF ps js ss≠(0,0)→routesF ps js ss 5=[]):=fun h=>routesF_bad h
 unfold RoutesPost at HIR
 obtain ⟨RS,hRS⟩:∃ RS,routesF ps js ss 5=RS:=⟨_,rfl⟩
 obtain ⟨sf,hsf⟩:∃ sf,sigF ps js ss=sf:=⟨_,rfl⟩
 obtain ⟨nf,hnf⟩:∃ nf,netF ps js=nf:=⟨_,rfl⟩
 rw [hRS] at HIR HSR HRF HBAD
 rw [hsf] at HIS HSS HLI HCK HBAD
 rw [hnf] at HIN HSN
 generalize ps.length=np at e0 HIS HSS HIN HSN HIR HSR HLI HCK
 generalize js.length=nj at e1 HIS HSS HIN HSN HIR HSR HLI HCK
 generalize ss.length=ns at HIS HSS HIR HSR HLI HCK ⊢
 clear hRS hsf hnf HPW HJW HSW hg
 obtain ⟨f1,f2⟩:=sf
 obtain ⟨g1,g2⟩:=nf
 unfold faultV at HIS HSS HIN HSN
 dsimp only at HIS HSS HIN HSN
 go_upto_region 5 with (go_at_call 25;refine HIS.out.mono ?_;rintro e w2 ⟨rfl,hb2⟩)
 generalize hW3:World.alloc w2 _=W3
 have c0:W3.cell? ⟨w2.heap.size,0,none⟩=some (.int .i64 f1):=by rw [← hW3];simp [go_sem]
 have c1:W3.cell? ⟨w2.heap.size,1,none⟩=some (.int .i64 f2):=by rw [← hW3];simp [go_sem]
 have hb3:Below w2.heap.size w2 W3:=by rw [← hW3];exact blo
 have HB3:Hid (Below W.heap.size W W3):=hb2.trans (hb3.mono hb2.size)
 generalize w2.heap.size=F at c0 c1 ⊢
 clear hW3 hb3 hb2 HIS
 have x0:=cell_later HB3.out e0
 have x1:=cell_later HB3.out e1
 obtain ⟨S,hS⟩:∃ S:World→Prop,∀ u,S u↔Below W3.heap.size W3 u:=⟨_,fun _=>Iff.rfl⟩
 have HS0:=hidP hS
 have r0:∀ u:Held S,World.cell? u.val ⟨X,0,none⟩=some (.slice pa np pc):=fun u=>cell_later ((hS u.val).1 u.2) x0
 have r1:∀ u:Held S,World.cell? u.val ⟨X,1,none⟩=some (.slice ja nj jc):=fun u=>cell_later ((hS u.val).1 u.2) x1
 have r2:∀ u:Held S,World.cell? u.val ⟨F,0,none⟩=some (.int .i64 f1):=fun u=>cell_later ((hS u.val).1 u.2) c0
 have r3:∀ u:Held S,World.cell? u.val ⟨F,1,none⟩=some (.int .i64 f2):=fun u=>cell_later ((hS u.val).1 u.2) c1
 have hS1:S W3.drew:=(hS _).2 ((Below.refl _ _).drew)
 have hne:=held_ne hS1
 clear hS
 refine wp_region_tree (fun w' => ∃ u:Held S,w'=u.val) 10 (by kernel_rfl) (by kernel_rfl) (held_some hS1) ?_
 (refine wpT_sea 0 ?_;intro K hK;go_big_quiet_op;go_big_quiet_on);(refine wpT_sea 1 ?_;intro K hK;go_big_quiet_op;go_big_quiet_on);(refine wpT_sea 2 ?_;intro K hK;go_big_quiet_op;go_big_quiet_on)
 refine wpT_loud 3 (by rfl) (by kernel_rfl) (by kernel_rfl) ?_
 intro K hK
 go_wp2_with (go_at_call 26;refine (HSS.out _ (HB3.out.drew)).mono ?_;rintro e w5 ⟨rfl,hb5'⟩)
 have hb5:Below W3.heap.size W3 w5:=((Below.refl _ _).drew).trans hb5'
 have HB5:Hid (Below W.heap.size W w5):=HB3.out.trans (hb5.mono HB3.out.size)
 have hS5:S w5:=(HS0.out _).2 hb5
 refine hK _ _ (held_some hS5) ?_
 clear hK K hb5' HSS
 (refine wpT_sea 4 ?_;intro K hK;go_big_quiet_op;go_big_quiet_on);(refine wpT_sea 5 ?_;intro K hK;go_big_quiet_op;go_big_quiet_on);(refine wpT_sea 6 ?_;intro K hK;go_big_quiet_op;go_big_quiet_on)
 (refine wpT_sea 8 ?_;intro K hK;go_big_quiet_op;go_big_quiet_on)
 refine wpT_loud 7 (by rfl) (by kernel_rfl) (by kernel_rfl) ?_
 intro K hK
 go_wp2_with (go_at_call 27;refine (HIN.out _ HB5.out).mono ?_;rintro e w6 ⟨rfl,hb6'⟩)
 have hb6:Below W3.heap.size W3 w6:=hb5.trans (hb6'.mono hb5.size)
 have HB6:Hid (Below W.heap.size W w6):=HB3.out.trans (hb6.mono HB3.out.size)
 have hS6:S w6:=(HS0.out _).2 hb6
 refine hK _ _ (held_some hS6) ?_
 clear hK K hb6' HIN
 refine wpT_loud 9 (by rfl) (by kernel_rfl) (by kernel_rfl) ?_
 intro K hK
 go_wp2_with (go_at_call 28;refine (HSN.out _ HB6.out).mono ?_;rintro e w7 ⟨rfl,hb7'⟩)
 have hb7:Below W3.heap.size W3 w7:=hb6.trans (hb7'.mono hb6.size)
 have HB7:Hid (Below W.heap.size W w7):=HB3.out.trans (hb7.mono HB3.out.size)
 have hS7:S w7:=(HS0.out _).2 hb7
 refine hK _ _ (held_some hS7) ?_
 clear hK K hb7' HSN
 refine wpT_done (by kernel_rfl) ?_
 simp only [List.drop_succ_cons,List.drop_zero]
 have y0:=cell_later hb7 x0
 have y1:=cell_later hb7 x1
 have z0:=cell_later hb7 c0
 have z1:=cell_later hb7 c1
 clear r0 r1 r2 r3 hne hS1 hS5 hS6 hS7 HS0 hb5 hb6 hb7 x0 x1 c0 c1 e0 e1 HB5 HB6 HB3 S
 by_cases hf:f1=0
 ·subst hf
  go_upto_region 8 with fail
  obtain ⟨S,hS⟩:∃ S:World→Prop,∀ u,S u↔Below w7.heap.size w7 u:=⟨_,fun _=>Iff.rfl⟩
  have HS0:=hidP hS
  have r0:∀ u:Held S,World.cell? u.val ⟨X,0,none⟩=some (.slice pa np pc):=fun u=>cell_later ((hS u.val).1 u.2) y0
  have r1:∀ u:Held S,World.cell? u.val ⟨X,1,none⟩=some (.slice ja nj jc):=fun u=>cell_later ((hS u.val).1 u.2) y1
  have hS1:S w7.drew:=(hS _).2 ((Below.refl _ _).drew)
  have hne:=held_ne hS1
  clear hS
  refine wp_region_tree (fun w' => ∃ u:Held S,w'=u.val) 7 (by kernel_rfl) (by kernel_rfl) (held_some hS1) ?_
  (refine wpT_sea 0 ?_;intro K hK;go_big_quiet_op;go_big_quiet_on);(refine wpT_sea 1 ?_;intro K hK;go_big_quiet_op;go_big_quiet_on)
  (refine wpT_sea 3 ?_;intro K hK;go_big_quiet_op;go_big_quiet_on);(refine wpT_sea 4 ?_;intro K hK;go_big_quiet_op;go_big_quiet_on)
  refine wpT_loud 2 (by rfl) (by kernel_rfl) (by kernel_rfl) ?_
  intro K hK
  go_wp2_with (go_at_call 10;refine (HIR.out _ (HB7.out.drew)).mono ?_;rintro e w8 ⟨x,y,qs,rfl,hqs,htab,hb8'⟩)
  have HQL:Hid (qs.length=RS.length):=by unfold Hid;rw [← hqs];simp
  have HQR:Hid (RoutesAt w8 x RS):=by have h:=htab.routes (by rw [HQL.out];exact HRF.out);rw [hqs] at h;exact h
  have hb8:Below w7.heap.size w7 w8:=((Below.refl _ _).drew).trans hb8'
  have HB8:Hid (Below W.heap.size W w8):=HB7.out.trans (hb8.mono HB7.out.size)
  have hS8:S w8:=(HS0.out _).2 hb8
  rw [HQL.out]
  refine hK _ _ (held_some hS8) ?_
  clear hK K hb8' HIR HQL hqs htab
  refine wpT_loud 5 (by rfl) (by kernel_rfl) (by kernel_rfl) ?_
  intro K hK
  go_wp2_with (go_at_call 9;refine (HSR.out _ HB8.out).mono ?_;rintro e w9 ⟨x',y',rfl,hR9,hb9'⟩)
  have HR9:=hidP hR9
  have HQ9:=hidP (HQR.out.below hb9')
  have hb9:Below w7.heap.size w7 w9:=hb8.trans (hb9'.mono hb8.size)
  have HB9:Hid (Below W.heap.size W w9):=HB7.out.trans (hb9.mono HB7.out.size)
  have hS9:S w9:=(HS0.out _).2 hb9
  refine hK _ _ (held_some hS9) ?_
  clear hK K hb9' HSR hR9 HQR
  refine wpT_loud 6 (by rfl) (by kernel_rfl) (by kernel_rfl) ?_
  intro K hK
  go_wp2_with (go_at_call 11;refine (wRoutes_any x x' y y' RS w9 HQ9 HR9).mono ?_;rintro e wA ⟨rfl,hbA'⟩)
  have hbA:Below w7.heap.size w7 wA:=hb9.trans (hbA'.mono hb9.size)
  have HBA:Hid (Below W.heap.size W wA):=HB7.out.trans (hbA.mono HB7.out.size)
  have hSA:S wA:=(HS0.out _).2 hbA
  refine hK _ _ (held_some hSA) ?_
  clear hK K hbA'
  refine wpT_done (by kernel_rfl) ?_
  simp only [List.drop_succ_cons,List.drop_zero]
  go_wp2_with fail
  go_ret
  exact ⟨rfl,HBW.out.trans (HBA.out.mono HBW.out.size)⟩
 ·have hf':(f1==0)=false:=by simpa using hf
  have HNE:Hid ((f1,f2)≠((0,0):Int × Int)):=fun e=>hf (by injection e)
  have HR0:=hidP (HBAD.out HNE.out)
  clear hf
  go_upto_region 9 with fail
  go_wp2_with (first
   | (go_at_call 10;refine (HIR.out _ HB7.out).mono ?_;rintro e w8 ⟨x,y,qs,rfl,hqs,htab,hb8⟩;rw [HR0.out] at hqs;obtain rfl:=List.map_eq_nil_iff.1 hqs;have HB8:Hid (Below W.heap.size W w8):=HB7.out.trans (hb8.mono HB7.out.size);have s0:=cell_later hb8 y0;have s1:=cell_later hb8 y1;clear htab hqs hb8)
   | (go_at_call 22;refine (HLI.out HNE.out _ HB8.out).mono ?_;rintro e w9 ⟨rfl,hb9⟩;have HB9:Hid (Below W.heap.size W w9):=HB8.out.trans (hb9.mono HB8.out.size);have v0:=cell_later hb9 s0;have v1:=cell_later hb9 s1;clear hb9)
   | (go_at_call 12;refine (HCK.out HNE.out _ HB9.out).mono ?_;rintro e wA ⟨rfl,hbA⟩;have HBA:Hid (Below W.heap.size W wA):=HB9.out.trans (hbA.mono HB9.out.size);clear hbA))
  go_ret
  exact ⟨rfl,HBW.out.trans (HBA.out.mono HBW.out.size)⟩
end Go.Proofs.YtmkdgnmmebldgaaGreatDoor
