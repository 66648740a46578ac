import Derived.Test.YtmkdgnmmebldgaaGreatDoorPw44
import Derived.Test.YtmkdgnmmebldgaaGreatDoorPw40
import Derived.Test.YtmkdgnmmebldgaaGreatDoorPt1
import Derived.ProofKit
import Derived.Deep.Slices
import Derived.Deep.Strs
import Derived.Lib.SmallJoins
import Derived.WalkKit
import Derived.OpenShut
import Derived.ShutString
import Derived.ChangeOld
import Derived.Below
import Derived.Test.YtmkdgnmmebldgaaGreatDoorTie
import Derived.Test.YtmkdgnmmebldgaaGreatDoorCards
import Derived.Stop.LaidErr
import Derived.ChangeSame
import Derived.ChangeVars
import Derived.JoinedOf
import Derived.RowKitTokens
import Derived.LaidLaws
import Derived.LaidHandle
import Derived.Stop.Joined
set_option maxRecDepth 100000
set_option maxHeartbeats 8000000
namespace Go.Proofs.YtmkdgnmmebldgaaGreatDoor
open Go.RowKit Go.Deep
def DrawnOutV (w:World)(e:Ending)(w':World):Prop:=
 ∃ pa pc ja jc sa sc ps js ss over,e = .returned (.tuple #[.agg #[.slice pa (ps:List MPiece).length pc,.slice ja (js:List MJoint).length jc],.slice sa (ss:List MPiece).length sc,.int .i64 over])/\PiecesAt w' pa ps/\JointsAt w' ja js/\PiecesAt w' sa ss/\0<=over/\over<=200/\sigF ps js ss=(0,0)/\(ps.length<=10/\ss.length<=8)/\Below w.heap.size w w'
theorem DrawnV_any (ca:Option Addr)(cc:Nat)(bs:List Int)(w:World)(hcode:Hid (bs=[]\/∃ b off,ca=some ⟨b,off,none⟩/\ByteCells w b off bs))(hsm:Hid (∀ x ∈ bs,0<=x/\x<256))(hlen:bs.length<=1048576):
  Calls Tryz.prog 8 #[.slice ca bs.length cc] w (DrawnOutV w):=by
 have hlt:Hid (bs=[]\/∀ b off,ca=some ⟨b,off,none⟩->b<w.heap.size):=by
  rcases hcode.out with h | ⟨b,off,h1,h2⟩
  ·exact Or.inl h
  ·by_cases h0:bs=[]
   ·exact Or.inl h0
   ·refine Or.inr (fun b' off' e=>?_)
    rw [h1] at e;cases e;exact cellLt (h2 0 (List.length_pos_iff.2 h0))
 go_enter Tryz.func8,Tryz.ntmps8
 go_wp2_with fail
 generalize hW:World.alloc (World.alloc w _) _=W;have hbW:Below w.heap.size w W:=by rw [<-hW];exact blo
 have HC0:Hid (Cur W (w.heap.size+1) ca cc bs 0):=by
  refine ⟨by rw [<-hW];simp [go_sem],by rw [<-hW];simp [go_sem],⟨0,by rw [<-hW];simp [go_sem]⟩,fun o=>by rw [<-hW];simp [go_sem],?_,hsm.out,hlen,fun o ho=>by rw [<-hW];simp [go_sem];omega⟩
  rcases hcode.out with h | ⟨b,off,h1,h2⟩
  ·exact Or.inl h
  ·rcases hlt.out with h0 | h0
   ·exact Or.inl h0
   ·exact Or.inr ⟨b,off,h1,by have:=h0 b off h1;omega,fun i hi=>cell_later hbW (h2 i hi)⟩
 have R0:W.cell? ⟨w.heap.size,0,none⟩=some (.slice none 0 0):=by rw [<-hW];simp [go_sem]
 have R1:W.cell? ⟨w.heap.size,1,none⟩=some (.slice none 0 0):=by rw [<-hW];simp [go_sem]
 have HRZ:Hid (∀ o,W.frozen? ⟨w.heap.size,o,none⟩=false):=fun o=>by rw [<-hW];simp [go_sem]
 have hzW:w.heap.size+1<W.heap.size:=by rw [<-hW];simp
 have HBW:=hidP hbW;clear hW hbW;obtain ⟨C,hC⟩:∃ C,w.heap.size+1=C:=⟨_,rfl⟩;obtain ⟨R,hR⟩:∃ R,w.heap.size=R:=⟨_,rfl⟩;rw [hC] at HC0 hzW ⊢;rw [hR] at R0 R1 HRZ ⊢;have hRC:R<C:=by omega
 have HRw:Hid (w.heap.size<=R):=by unfold Hid;omega
 have HL:Hid (LowB C ca bs):=hlt.out.imp id (fun h0 b off h=>by have:=h0 b off h;omega)
 clear hC hR;refine (trackV_any C ca cc bs 0 W HC0 HL (by omega)).mono ?_
 rintro e w1 ⟨pa,pc,ja,jc,ps,js,at1,rfl,hk1,hps,hc1,hat1,ho1,hnf⟩;have HNF:=hidP hnf;clear hnf;have HK1:=hidP hk1;have HC1:=hidP hc1;have HO1:=hidP ho1;have hz1:=ho1.size;clear hk1 hc1 ho1
 go_wp2_with fail
 generalize hW2:World.alloc w1 _=W2;have hb2:Below w1.heap.size w1 W2:=by rw [<-hW2];exact blo
 have M0:W2.cell? ⟨w1.heap.size,0,none⟩=some (.slice pa ps.length pc):=by rw [<-hW2];simp [go_sem]
 have M1:W2.cell? ⟨w1.heap.size,1,none⟩=some (.slice ja js.length jc):=by rw [<-hW2];simp [go_sem]
 have hz2:w1.heap.size<W2.heap.size:=by rw [<-hW2];simp
 have HB2:=hidP hb2;clear hW2 hb2;obtain ⟨M,hM⟩:∃ M,w1.heap.size=M:=⟨_,rfl⟩;rw [hM] at M0 M1 hz2 ⊢;have hMC:C<M:=by omega
 have HMw:Hid (w1.heap.size=M):=hM;clear hM;have HKP:Hid (∀ u,Only (fun k=>k=C) W2 u->PiecesAt u pa ps/\JointsAt u ja js):=fun u hu=>HK1.out u (fun b h1 h2=>(hu.block b (by have:=HB2.out.size;omega) (by omega)).trans (HB2.out.block b h2))
 refine (signalsV_any C ca cc bs at1 pa pc ja js.length jc ps W2 (HC1.out.below HB2.out) HL (by omega) (fun u hu=>(HKP.out u hu).1) hps.1 (by have:=hps.2.1;omega) hps.2.2.1).mono ?_
 rintro e w3 ⟨sa,sc,ss,at3,rfl,hk3,hss,hc3,hat3,ho3,hso⟩;have HSF:=hidP (sigF_drawn HNF.out (by have:=hss.1;omega) hso)
 clear hso;have HK3:=hidP hk3;have HC3:=hidP hc3;have HO3:=hidP ho3;have hz3:=ho3.size;have m0:=ho3.cell M0 (by show ¬ M=C;omega)
 have m1:=ho3.cell M1 (by show ¬ M=C;omega)
 have hR3:w3.heap[R]? = W.heap[R]? := ((ho3.block R (by omega) (by omega)).trans (HB2.out.block R (by have:=HMw.out;omega))).trans (HO1.out.block R (by omega) (by omega))
 have q0:=(World.cell?_of_block (w:=W) (a:=⟨R,0,none⟩) hR3).trans R0;have q1:=(World.cell?_of_block (w:=W) (a:=⟨R,1,none⟩) hR3).trans R1;have HQZ:Hid (∀ o,w3.frozen? ⟨R,o,none⟩=false):=fun o=>(World.frozen?_of_block (w:=W) (a:=⟨R,o,none⟩) hR3).trans (HRZ.out o)
 clear hk3 hc3 ho3 M0 M1 R0 R1 hR3;have HALL:Hid (∀ u,Only (fun k=>k=C) w3 u->Only (fun k=>k=C) W u):=fun u hu=>((HO1.out.trans (Only.of_below HB2.out)).trans HO3.out).trans hu
 go_upto_region 4 with fail
 obtain ⟨S,hS⟩:∃ S:World->Prop,∀ u,S u↔(u.cell? ⟨M,0,none⟩=some (.slice pa ps.length pc)/\u.cell? ⟨M,1,none⟩=some (.slice ja js.length jc)):=⟨_,fun _=>Iff.rfl⟩
 have HS0:=hidP hS;have r0:∀ u:Held S,World.cell? u.val ⟨M,0,none⟩=some (.slice pa ps.length pc):=fun u=>((hS u.val).1 u.2).1
 have r1:∀ u:Held S,World.cell? u.val ⟨M,1,none⟩=some (.slice ja js.length jc):=fun u=>((hS u.val).1 u.2).2
 have hS1:S w3.drew:=(hS _).2 ⟨m0,m1⟩;have hne:=held_ne hS1;clear hS;refine wp_region_tree (fun w' => ∃ u:Held S,w'=u.val) 9 (by kernel_rfl) (by kernel_rfl) (held_some hS1) ?_
 (refine wpT_sea 0 ?_;intro K hK;go_big_quiet_op;go_big_quiet_on);(refine wpT_sea 1 ?_;intro K hK;go_big_quiet_op;go_big_quiet_on);(refine wpT_sea 2 ?_;intro K hK;go_big_quiet_op;go_big_quiet_on)
 (refine wpT_sea 4 ?_;intro K hK;go_big_quiet_op;go_big_quiet_on)
 refine wpT_loud 3 (by rfl) (by kernel_rfl) (by kernel_rfl) ?_
 intro K hK
 go_wp2_with (go_at_call 31;refine (wide_any C ca cc bs at3 200 _ (HC3.out.below ((Below.refl _ _).drew)) (by omega) (by omega)).mono ?_;rintro e w4 ⟨y1,at4,hy1,rfl,hat4,hc4,ho4⟩)
 have HO4:Hid (Only (fun k=>k=C) w3 w4):=((Only.refl _ _).drew).trans ho4
 have HC4:=hidP hc4;have hS4:S w4:=(HS0.out _).2 ⟨HO4.out.cell m0 (by show ¬ M=C;omega),HO4.out.cell m1 (by show ¬ M=C;omega)⟩
 clear hc4 ho4;refine hK _ _ (held_some hS4) ?_;clear hK K;refine wpT_loud 5 (by rfl) (by kernel_rfl) (by kernel_rfl) ?_
 intro K hK
 go_wp2_with (go_at_call 32;refine (pick_any C ca cc bs at4 2 _ HC4 (by omega) (by omega)).mono ?_;rintro e w5 ⟨y2,at5,hy2,rfl,hat5,hc5,ho5⟩)
 have HO5:Hid (Only (fun k=>k=C) w3 w5):=HO4.out.trans ho5
 have hS5:S w5:=(HS0.out _).2 ⟨HO5.out.cell m0 (by show ¬ M=C;omega),HO5.out.cell m1 (by show ¬ M=C;omega)⟩
 obtain ⟨pr,hpr,hpr2⟩:∃ pr:Nat,(y1:Int)*(y2:Int)=(pr:Int)/\pr<=200:=by
  have h2:y2=0\/y2=1:=by omega
  rcases h2 with rfl | rfl
  ·exact ⟨0,by simp,by omega⟩
  ·exact ⟨y1,by simp,by omega⟩
 clear hc5 ho5 hy2;refine hK _ _ (held_some hS5) ?_;clear hK K;have hR5:w5.heap[R]? = w3.heap[R]? := HO5.out.block R (cellLt q0) (by omega)
 have p0:=(World.cell?_of_block (w:=w3) (a:=⟨R,0,none⟩) hR5).trans q0;have p1:=(World.cell?_of_block (w:=w3) (a:=⟨R,1,none⟩) hR5).trans q1;have u0:=(World.frozen?_of_block (w:=w3) (a:=⟨R,0,none⟩) hR5).trans (HQZ.out 0);have u1:=(World.frozen?_of_block (w:=w3) (a:=⟨R,1,none⟩) hR5).trans (HQZ.out 1);have HEND:Hid (∀ over:Int,0<=over->over<=200->DrawnOutV w (.returned (.tuple #[.agg #[.slice pa ps.length pc,.slice ja js.length jc],.slice sa ss.length sc,.int .i64 over])) ((w5.setCell ⟨R,0,none⟩ (.slice pa ps.length pc)).setCell ⟨R,1,none⟩ (.slice ja js.length jc))):=by
  intro over h0 h1;have hset:∀ b,b≠R->((w5.setCell ⟨R,0,none⟩ (.slice pa ps.length pc)).setCell ⟨R,1,none⟩ (.slice ja js.length jc)).heap[b]? = w5.heap[b]? := fun b hb=>(Below.heap_setCell _ _ _ _ hb).trans (Below.heap_setCell _ _ _ _ hb)
  have hwR:=HRw.out;have hMw:=HMw.out;have hb2z:=HB2.out.size;have hnet:=HK1.out ((w5.setCell ⟨R,0,none⟩ (.slice pa ps.length pc)).setCell ⟨R,1,none⟩ (.slice ja js.length jc)) (fun b h2 h3=>(hset b (by omega)).trans ((HO5.out.block b (by omega) (by omega)).trans ((HO3.out.block b (by omega) (by omega)).trans (HB2.out.block b h3))))
  refine ⟨pa,pc,ja,jc,sa,sc,ps,js,ss,over,rfl,hnet.1,hnet.2,HK3.out _ (fun b h2 h3=>(hset b (by omega)).trans (HO5.out.block b h3 (by omega))),h0,h1,HSF.out,⟨hps.2.1,hss.1⟩,?_⟩
  have hall:=HALL.out w5 HO5.out;refine ⟨hall.os.trans HBW.out.os,hall.tape.trans HBW.out.tape,hall.output.trans HBW.out.output,by have h4:=hall.size;have h5:=HBW.out.size;simp;omega,fun k hk=>(hset k (by omega)).trans ((hall.block k (by have h5:=HBW.out.size;omega) (by omega)).trans (HBW.out.block k hk))⟩
 clear hne HC3 HC4;have hne:=held_ne hS5
 (refine wpT_sea 6 ?_;intro K hK;go_big_quiet_op;go_big_quiet_on)
 refine wpT_loud 7 (by rfl) (by kernel_rfl) (by kernel_rfl) ?_
 intro K hK
 go_wp2_with fail
 have hMR:M≠R:=by omega
 have hS6:S ((w5.setCell ⟨R,0,none⟩ (.slice pa ps.length pc)).setCell ⟨R,1,none⟩ (.slice ja js.length jc)):=by
  obtain ⟨s0,s1⟩:=(HS0.out _).1 hS5;have e:((w5.setCell ⟨R,0,none⟩ (.slice pa ps.length pc)).setCell ⟨R,1,none⟩ (.slice ja js.length jc)).heap[M]? = w5.heap[M]? := (Below.heap_setCell _ _ _ _ hMR).trans (Below.heap_setCell _ _ _ _ hMR);exact (HS0.out _).2 ⟨(World.cell?_of_block (w:=w5) (a:=⟨M,0,none⟩) e).trans s0,(World.cell?_of_block (w:=w5) (a:=⟨M,1,none⟩) e).trans s1⟩
 refine hK _ _ (held_some hS6) ?_;clear hK K
 (refine wpT_sea 8 ?_;intro K hK;go_big_quiet_op;go_big_quiet_on)
 refine wpT_done (by kernel_rfl) ?_
 simp only [List.drop_succ_cons,List.drop_zero];clear r0 r1 hne hS1 hS4 hS5 hS6
 go_wp2_with fail
 refine bodyPost_ret (v:=.tuple #[.agg #[.slice pa ps.length pc,.slice ja js.length jc],.slice sa ss.length sc,.int .i64 (pr:Int)]) (by simp [results,Tryz.results8,go_sem,p0,p1]) rfl (HEND.out pr (by omega) (by omega))
structure BytesAt (w:World)(a:Option Addr)(bs:List Int):Prop where
 len:bs.length<=maxLen
 lie:bs=[]\/∃ b off,a=some ⟨b,off,none⟩/\ByteCells w b off bs
 small:∀ x ∈ bs,0<=x/\x<256
theorem BytesAt.below {w w':World}{a:Option Addr}{bs:List Int}(h:BytesAt w a bs)(hb:Below w.heap.size w w'):BytesAt w' a bs:=
 ⟨h.len,h.lie.imp id (fun ⟨b,off,h1,h2⟩=>⟨b,off,h1,fun i hi=>cell_later hb (h2 i hi)⟩),h.small⟩
end Go.Proofs.YtmkdgnmmebldgaaGreatDoor
namespace Go.Proofs.YtmkdgnmmebldgaaGreatDoor
open Go.RowKit Go.Deep Go.ChangeShapes Go.WideShapes
theorem chooseB {α:Type}{p:Nat->α->Prop}:∀ (n:Nat),(∀ i,i<n->∃ x,p i x)->∃ l:List α,l.length=n/\∀ i (hi:i<l.length),p i l[i]
 | 0,_=>⟨[],rfl,fun i hi=>absurd hi (Nat.not_lt_zero i)⟩
 | n+1,h=>by
  obtain ⟨l,hl,hp⟩:=chooseB n (fun i hi=>h i (by omega))
  obtain ⟨x,hx⟩:=h n (by omega)
  refine ⟨l++[x],by simp [hl],fun i hi=>?_⟩
  by_cases e:i<l.length
  ·rw [List.getElem_append_left e];exact hp i e
  ·have:i=n:=by simp at hi;omega
   subst this;simp [hl];exact hx
theorem addrAddB (b o n m:Nat):(Addr.add ⟨b,o,none⟩ n).add m=⟨b,o+n+m,none⟩:=by
 unfold Addr.add
 by_cases h1:n=0 <;> by_cases h2:m=0 <;> simp [h1,h2]
theorem spotOfB {w:World}{a:Addr}{k n:Nat}{cs:List Value}(h:w.cells? 0 (a.add (0*k)) n=some cs)(hn:0<n):a.spot=none:=by
 obtain ⟨_,hlen,hc⟩:=World.cells?_some h;have k0:=hc 0 hn;rw [List.getElem?_eq_getElem (by omega)] at k0
 have:=World.cell?_spot k0;simpa [Addr.add] using this
theorem Tryz.laidOutD:Go.laidOutB Tryz.prog=true:=by kernel_rfl
theorem ownDraws:ownKnob Tryz.prog.godebug=none:=by kernel_rfl
end Go.Proofs.YtmkdgnmmebldgaaGreatDoor
namespace Go.Proofs.YtmkdgnmmebldgaaGreatDoor
open Go.ChangeShapes Go.WideShapes Go.ChangeAt Go.RowKit Go.Deep
theorem Tryz.cellsU8:Tryz.prog.cellsOf 5=1:=by kernel_rfl
theorem u8_small {x:Int}(h:(Lit.int .u8 x).wf=true):0<=x/\x<256:=by
 have e1:IntKind.u8.min=0:=by decide
 have e2:IntKind.u8.max=255:=by decide
 simp only [Lit.wf,e1,e2] at h;simp at h;omega
section
variable {H:Type} {enc:TypeId × Value->H} {w:World}
theorem openByteS {fuel:Nat}{cs:List Value}{y:DataW H × List MemPlace}(h:DataW.trod enc Tryz.prog w 0 (fun _=>true) true fuel 22 cs=some y):
  ∃ (a:Option Addr) (cap:Nat) (bs:List Int),cs=[.slice a bs.length cap]/\BytesAt w a bs:=by
 rcases open_slice Tryz.underlying22 h with ⟨hcs,_⟩ | ⟨a,len,cap,m,n,D,Pl,hcs,_,hl,hm,hmm,_,hx⟩
 ·exact ⟨none,0,[],hcs,by simp [maxLen],Or.inl rfl,fun x hx=>by cases hx⟩
 ·rw [if_pos rfl] at hmm;subst hmm
  by_cases hl0:len=0
  ·subst hl0;exact ⟨some a,m,[],hcs,by simp [maxLen],Or.inl rfl,fun x hx=>by cases hx⟩
  obtain ⟨cs0,hcs0,_⟩:=hx 0 (by omega)
  have hspot:=spotOfB hcs0 (by rw [Tryz.cellsU8];omega)
  clear hcs0;obtain ⟨ab,ao,asp⟩:=a;simp only at hspot;subst hspot;have hi:∀ i,i<len->∃ p:Int,w.cell? ⟨ab,ao+i,none⟩=some (.int .u8 p)/\0<=p/\p<256:=by
   intro i hi;obtain ⟨cs',h1,h2⟩:=hx i (by omega)
   rw [Tryz.cellsU8] at h1;obtain ⟨_,hlen,hc⟩:=World.cells?_some h1
   match cs',hlen with
   | [c0],_ =>
    obtain ⟨x0,e0,_,hw⟩:=DataW.trod_int Tryz.underlying5 h2;simp at e0;subst e0;have k0:=hc 0 (by omega)
    rw [addrAddB] at k0;simp at k0;exact ⟨x0,k0,u8_small hw⟩
  obtain ⟨ps,hpl,hp⟩:=chooseB len hi;subst hpl;refine ⟨_,m,ps,hcs,by omega,Or.inr ⟨ab,ao,rfl,fun i hi'=>(hp i hi').1⟩,fun x hx'=>?_⟩
  obtain ⟨i,hi',rfl⟩:=List.getElem_of_mem hx';exact (hp i hi').2
theorem openBytesV {r0:Reach}{b0:Nat}{v:Value}{d:DataW H}{p:List MemPlace}(hv:Value.okWide Tryz.prog w r0 b0 22 v)(h:DataW.Trod enc Tryz.prog w 0 (fun _=>true) true 22 v d p):
  ∃ (a:Option Addr) (cap:Nat) (bs:List Int),v = .slice a bs.length cap/\BytesAt w a bs:=by
 obtain ⟨a0,len,cap,rfl⟩:=okWide_slice Tryz.underlying22 hv;obtain ⟨fuel,hf⟩:=h;obtain ⟨a,c,bs,hcs,hb⟩:=openByteS (by simpa [Value.cells] using hf)
 refine ⟨a,c,bs,?_,hb⟩;simpa using hcs
end
end Go.Proofs.YtmkdgnmmebldgaaGreatDoor
namespace Go.Proofs.YtmkdgnmmebldgaaGreatDoor
open Go.ChangeShapes Go.WideShapes Go.RowKit
theorem whole_holds_of (hh:∀ (os:Os) (_:os.Started) (H:Type) (enc:TypeId × Value->H),ReturnsInHanded {} Tryz.checked os 4 .any (fun w args=>(Rows.fnWholeSpec.pre enc Tryz.prog Tryz.f4 [] false w args/\laidMetH Tryz.prog Rows.fnWholeRow.laid w)/\sizedMet enc Tryz.prog Tryz.f4 (OpenSpec.ofChange Rows.fnWholeSpec) false w args)
   (Rows.fnWholeSpec.post enc Tryz.prog Tryz.f4 false true false false)):Rows.FnWholeSaid:=
 OpenClaim.holds_of_wide 4 Tryz.f4 rfl rfl rfl rfl rfl rfl rfl ⟨rfl,rfl,rfl,rfl,rfl⟩ rfl rfl rfl rfl rfl (by kernel_rfl) Tryz.func4 (by kernel_rfl)
  (of_decide_eq_true (by kernel_rfl)) (by unfold Func.isWrapper;first | (rw [if_pos (by decide +kernel)];kernel_rfl) | (rw [if_neg (by decide +kernel)];exact ⟨rfl,rfl⟩))
  (fun os started H enc _=>hh os started H enc)
theorem whole_card_of (th:Rows.FnWholeSaid):Rows.FnWholeCardSaid:=
 Claim7.holds_tied_plain_at .later [] [.data,.data,.data] true _ true
  th (fun _ h=>by cases h) (by kernel_rfl) (fun _ h=>by cases h) fnWhole_row_tie rfl ⟨rfl,rfl⟩ (by kernel_rfl) rfl
  (fun f fn hf hfn=>by
   obtain rfl : f = 4 := Option.some.inj ((show Tryz.prog.funcNamed "loop.example/lockbar/laws.FnWhole" = some 4 by kernel_rfl).symm.trans hf) |>.symm
   obtain rfl:fn=Tryz.f4:=(Option.some.inj (Tryz.func4.symm.trans hfn)).symm;exact ⟨by kernel_rfl,fun j t ht=>by
    rw [Tryz.params4] at ht;have h3:t=22:=by
     rcases j with _ | _ | j
     ·simpa using ht.symm
     ·simpa using ht.symm
     ·simp at ht
    subst h3;exact (show Tryz.prog.wantsStandIn 22=false by kernel_rfl)⟩)
  (by kernel_rfl)
end Go.Proofs.YtmkdgnmmebldgaaGreatDoor
