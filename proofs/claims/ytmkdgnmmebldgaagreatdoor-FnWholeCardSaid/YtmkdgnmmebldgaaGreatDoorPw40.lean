import Derived.Test.YtmkdgnmmebldgaaGreatDoorPw44
import Derived.Test.YtmkdgnmmebldgaaGreatDoorPw39
import Derived.Deep.DeepCutAuto
import Derived.Test.YtmkdgnmmebldgaaGreatDoorPt9
set_option maxRecDepth 100000
set_option maxHeartbeats 8000000
namespace Go.Proofs.YtmkdgnmmebldgaaGreatDoor
open Go.RowKit Go.Deep
theorem Tryz.infoSignal:(Tryz.prog.info? 62).map (fun i=>(i.zero,i.size,i.bytes))=some (some (.agg #[.string ⟨#[]⟩,.int .i64 0,.int .i64 0,.int .i64 0]),4,40):=by kernel_rfl
theorem owns_shrink {w:World}{B e s n g y:Nat}{xs:List Value}(h:w.ownsRow B e s (.slice (some ⟨g,0,none⟩) (n+1) y) (n+1) xs):w.ownsRow B e s (.slice (some ⟨g,0,none⟩) n y) n (xs.take (n*s)):=by
 obtain ⟨h0,h1⟩:=h;have hl:n*s<=(n+1)*s:=Nat.mul_le_mul_right _ (by omega)
 refine ⟨by rw [List.length_take,h0];omega,?_⟩
 rcases h1 with ⟨h1,_⟩ | ⟨g',cap,cur,h1,h2,h3,h4,h5,h6,h7⟩
 ·cases h1
 ·cases h1;refine Or.inr ⟨g,y,cur,rfl,h2,h3,by omega,h5,h6,?_⟩
  rw [<-h7,List.take_take];congr 1;omega
theorem flatPc_take (ss:List MPiece)(x:MPiece):(flatPc (ss++[x])).take (ss.length*4)=flatPc ss:=by
 have h:(flatPc ss).length=ss.length*4:=flat_len encPc 4 (fun _=>rfl) ss
 rw [<-flatPc_push,<-h,List.take_left]
theorem signalsAt_of {w:World}{N:Nat}{x:Option Addr}{y:Nat}{ps:List MPiece}(h:w.ownsRow N 62 4 (.slice x ps.length y) ps.length (flatPc ps))(hn:∀ p ∈ ps,p.name.size<=1000002):PiecesAt w x ps:=by
 rcases h.2 with ⟨h1,h2⟩ | ⟨g,cap,cur,h1,h2,h3,h4,h5,_⟩
 ·have:ps=[]:=List.eq_nil_of_length_eq_zero h2;subst this;exact ⟨Nat.zero_le _,fun p hp=>(by cases hp),Or.inl rfl⟩
 ·cases h1;refine ⟨Nat.le_trans h4 h5,fun p hp=>by have:=hn p hp;unfold maxLen;omega,Or.inr ⟨g,0,rfl,fun i hi=>?_⟩⟩
  have hc:=h.cells (g:=g) rfl;have hg:∀ j,j<4->∀ u,(encPc ps[i])[j]? = some u->w.cell? ⟨g,0+i*4+j,none⟩=some u:=by
   intro j hj u hu;have:=hc (i*4+j) u ((flat_get encPc 4 (fun _=>rfl) ps i j hi hj).trans hu)
   rw [addr_at] at this;have e:0+(i*4+j)=0+i*4+j:=by omega
   rw [e] at this;exact this
  exact ⟨hg 0 (by omega) _ rfl,hg 1 (by omega) _ rfl,hg 2 (by omega) _ rfl,hg 3 (by omega) _ rfl⟩
structure SigB (w:World)(T:Nat)(s:ByteArray)(p a wy:Int):Prop where
 c0:w.cell? ⟨T,0,none⟩=some (.string s)
 c1:w.cell? ⟨T,1,none⟩=some (.int .i64 p)
 c2:w.cell? ⟨T,2,none⟩=some (.int .i64 a)
 c3:w.cell? ⟨T,3,none⟩=some (.int .i64 wy)
 z:∀ o,w.frozen? ⟨T,o,none⟩=false
theorem SigB.set {w:World}{T:Nat}{s:ByteArray}{p a wy:Int}(h:SigB w T s p a wy)(a':Int):SigB (w.setCell ⟨T,2,none⟩ (.int .i64 a')) T s p a' wy:=by
 refine ⟨?_,?_,World.cell?_setCell_same _ _ _ h.c2,?_,fun o=>by rw [World.frozen?_setCell];exact h.z o⟩
 ·rw [World.cell?_setCell_other _ _ _ _ (by simp)];exact h.c0
 ·rw [World.cell?_setCell_other _ _ _ _ (by simp)];exact h.c1
 ·rw [World.cell?_setCell_other _ _ _ _ (by simp)];exact h.c3
theorem SigB.only {w w':World}{T C:Nat}{s:ByteArray}{p a wy:Int}(h:SigB w T s p a wy)(ho:Only (fun k=>k=C) w w')(hT:T≠C):SigB w' T s p a wy:=
 ⟨ho.cell h.c0 hT,ho.cell h.c1 hT,ho.cell h.c2 hT,ho.cell h.c3 hT,fun o=>(World.frozen?_of_block (w:=w) (ho.block T (cellLt h.c0) hT)).trans (h.z o)⟩
def SigKeep (B:Nat)(w':World)(xs:Option Addr)(ss:List MPiece):Prop := ∀ u:World,(∀ b,B<=b->b<w'.heap.size->u.heap[b]? = w'.heap[b]?)->PiecesAt u xs ss
theorem trackV_any (C:Nat)(ca:Option Addr)(cc:Nat)(bs:List Int)(at_:Nat)(w:World)(hc:Hid (Cur w C ca cc bs at_))(hlow:Hid (LowB C ca bs))(ha:at_<=600000000):
  Calls Tryz.prog 29 #[.pointer (some ⟨C,0,none⟩)] w (NetOutV C ca cc bs at_ 402 w):=by
 have hCz:=hc.out.lt
 go_enter Tryz.func29,Tryz.ntmps29
 go_wp2_with fail
 generalize hW:World.alloc w _=W;have hbW:Below w.heap.size w W:=by rw [<-hW];exact blo
 have R0:W.cell? ⟨w.heap.size,0,none⟩=some (.slice none 0 0):=by rw [<-hW];simp [go_sem]
 have R1:W.cell? ⟨w.heap.size,1,none⟩=some (.slice none 0 0):=by rw [<-hW];simp [go_sem]
 have HRZ:Hid (∀ o,W.frozen? ⟨w.heap.size,o,none⟩=false):=fun o=>by rw [<-hW];simp [go_sem]
 have hzW:w.heap.size<W.heap.size:=by rw [<-hW];simp
 have HBW:=hidP hbW;clear hW hbW;obtain ⟨R,hR⟩:∃ R,w.heap.size=R:=⟨_,rfl⟩;rw [hR] at R0 R1 HRZ hzW ⊢;have hRC:C<R:=by omega
 have HRw:Hid (w.heap.size<=R/\R<=w.heap.size):=by unfold Hid;omega
 clear hR;refine (pick_any C ca cc bs at_ 2 W (hc.out.below HBW.out) (by omega) (by omega)).mono ?_
 rintro e w1 ⟨x,at1,hx,rfl,hat1,hc1,ho1⟩;have HC1:=hidP hc1;have HO1:=hidP ho1;have hz1:=ho1.size;clear hc1 ho1;have HEND:∀ (e:Ending) (w2:World),NetOutV C ca cc bs at1 400 w1 e w2->∃ (xp:Option Addr) (yp:Nat) (xj:Option Addr) (yj np nj:Nat),e = .returned (.agg #[.slice xp np yp,.slice xj nj yj])/\w2.cell? ⟨R,0,none⟩=some (.slice none 0 0)/\w2.cell? ⟨R,1,none⟩=some (.slice none 0 0)/\w2.frozen? ⟨R,0,none⟩=false/\w2.frozen? ⟨R,1,none⟩=false /\
   NetOutV C ca cc bs at_ 402 w (.returned (.agg #[.slice xp np yp,.slice xj nj yj])) ((w2.setCell ⟨R,0,none⟩ (.slice xp np yp)).setCell ⟨R,1,none⟩ (.slice xj nj yj)):=by
  rintro e w2 ⟨xp,yp,xj,yj,ps,js,at',he,hk,hps,hcur,hat,ho,hnf⟩;have h1:=HO1.out;have hR2:w2.heap[R]? = W.heap[R]? := (ho.block R (by omega) (by omega)).trans (h1.block R (by omega) (by omega))
  have hset:∀ b,b≠R->((w2.setCell ⟨R,0,none⟩ (.slice xp ps.length yp)).setCell ⟨R,1,none⟩ (.slice xj js.length yj)).heap[b]? = w2.heap[b]? := fun b hb=>(Below.heap_setCell _ _ _ _ hb).trans (Below.heap_setCell _ _ _ _ hb)
  have hw:=HRw.out;have hall:Only (fun k=>k=C) w w2:=((Only.of_below HBW.out).trans h1).trans ho
  refine ⟨xp,yp,xj,yj,ps.length,js.length,he,(World.cell?_of_block (w:=W) hR2).trans R0,(World.cell?_of_block (w:=W) hR2).trans R1,(World.frozen?_of_block (w:=W) hR2).trans (HRZ.out 0),(World.frozen?_of_block (w:=W) hR2).trans (HRZ.out 1),xp,yp,xj,yj,ps,js,at',rfl,?_,hps,hcur.above hlow.out (fun k hk'=>hset k (by omega)),by omega,(hall.setCell (p:=⟨R,0,none⟩) (Or.inr hw.1) _).setCell (p:=⟨R,1,none⟩) (Or.inr hw.1) _,hnf⟩
  intro u hu;exact hk u (fun b h2 h3=>(hu b (by omega) (by simpa using h3)).trans (hset b (by omega)))
 have HE:=hidP HEND;clear HEND R0 R1;have hx2:x=0\/x=1:=by omega
 rcases hx2 with rfl | rfl
 ·go_wp2_with fail
  refine (stationV_any C ca cc bs at1 w1 HC1 hlow (by omega)).mono ?_
  rintro e w2 hnet;obtain ⟨xp,yp,xj,yj,np,nj,rfl,q0,q1,u0,u1,hout⟩:=HE.out e w2 (by
   obtain ⟨a1,a2,a3,a4,a5,a6,a7,h1,h2,h3,h4,h5,h6,h7⟩:=hnet;exact ⟨a1,a2,a3,a4,a5,a6,a7,h1,h2,h3,h4,by omega,h6,h7⟩)
  have HOUT:=hidP hout;clear hout hnet
  go_wp2_with fail
  exact bodyPost_ret (v:=.agg #[.slice xp np yp,.slice xj nj yj]) (by simp [results,Tryz.results29,go_sem,q0,q1]) rfl HOUT.out
 ·go_wp2_with fail
  refine (netV_any C ca cc bs at1 w1 HC1 hlow (by omega)).mono ?_
  rintro e w2 hnet;obtain ⟨xp,yp,xj,yj,np,nj,rfl,q0,q1,u0,u1,hout⟩:=HE.out e w2 hnet;have HOUT:=hidP hout;clear hout hnet
  go_wp2_with fail
  exact bodyPost_ret (v:=.agg #[.slice xp np yp,.slice xj nj yj]) (by simp [results,Tryz.results29,go_sem,q0,q1]) rfl HOUT.out
theorem l1before_says (a:Option Addr)(cap:Nat)(ss:List MPiece)(i m:Nat)(hm:ss.length=m)(hi:i<m)(w:World)(hp:Hid (PiecesAt w a ss)):
  Calls Tryz.prog 63 #[.slice a m cap,.int .i64 i] w fun e w' => ∃ b:Bool,e = .returned (.bool b)/\b=beforeB ss i (ss[i]'(by omega))/\Below w.heap.size w w':=by
 subst hm;refine (l1before_any a cap ss i hi w hp).mono ?_;rintro e w' ⟨h1,h2⟩;exact ⟨_,h1,rfl,h2⟩
theorem ss_push {ps ss:List MPiece}{n p:Nat}{s:ByteArray}{a wy L:Int}{hi:n<(ss++[(⟨s,(p:Int),a,wy⟩:MPiece)]).length}(h:SsOk ps ss)(hl:ss.length=n)(hs:NmOk n s)(hp:p<ps.length)(hL:ps[p].len=L)(ha:1<=a/\a<=L-1)(hw:wy=1\/wy = -1)(hb:false=beforeB (ss++[(⟨s,(p:Int),a,wy⟩:MPiece)]) n ((ss++[(⟨s,(p:Int),a,wy⟩:MPiece)])[n]'hi)):SsOk ps (ss++[⟨s,(p:Int),a,wy⟩]):=by
 subst hl;refine h.push ⟨hs,?_⟩ ?_
 ·unfold okSig okSigC;have e:lenAt ps (p:Int)=L:=by
   unfold lenAt;simp [hp,hL]
  dsimp only;rw [hs.nameB,inB_t (by omega) (by omega),e,inB_t (by omega) (by omega)]
  unfold wayB;rcases hw with rfl | rfl <;> rfl
 ·rw [hb];congr 1;simp
def SgV (ps:List MPiece)(W wr:World)(C:Nat)(ca:Option Addr)(cc:Nat)(bs:List Int)(top k n:Nat)(v:Value):Prop:=
 ∃ ss at',ss.length=n/\wr.ownsRow W.heap.size 62 4 v n (flatPc ss)/\(∀ s ∈ ss,s.name.size<=1000002)/\Cur wr C ca cc bs at'/\n+k<=8/\at'+10*k<=top/\Only (fun k=>k=C) W wr/\SsOk ps ss
def SigOutV (ps:List MPiece)(C:Nat)(ca:Option Addr)(cc:Nat)(bs:List Int)(at_ k:Nat)(w:World)(e:Ending)(w':World):Prop:=
 ∃ xs ys ss at',e = .returned (.slice xs (ss:List MPiece).length ys)/\SigKeep w.heap.size w' xs ss/\(ss.length<=8/\w'.ownsRow w.heap.size 62 4 (.slice xs ss.length ys) ss.length (flatPc ss)/\∀ s ∈ ss,s.name.size<=1000002)/\Cur w' C ca cc bs at'/\at'<=at_+k/\Only (fun k=>k=C) w w'/\SsOk ps ss
theorem signalsV_any (C:Nat)(ca:Option Addr)(cc:Nat)(bs:List Int)(at_:Nat)(pa:Option Addr)(pc:Nat)(ja:Option Addr)(nj jc:Nat)(ps:List MPiece)(w:World)(hc:Hid (Cur w C ca cc bs at_))(hlow:Hid (LowB C ca bs))(ha:at_<=600000000)
  (hp:Hid (∀ u,Only (fun k=>k=C) w u->PiecesAt u pa ps)) (hp1:1<=ps.length) (hp2:ps.length<=100) (hp3:Hid (∀ p ∈ ps,1<=p.len/\p.len<=400)) :
  Calls Tryz.prog 30 #[.pointer (some ⟨C,0,none⟩),.agg #[.slice pa ps.length pc,.slice ja nj jc]] w (SigOutV ps C ca cc bs at_ 100 w):=by
 have hCz:=hc.out.lt;obtain ⟨bp,op,hpa,_⟩:=(hp.out w (Only.refl _ _)).2.2.resolve_left (fun h=>by rw [h] at hp1;exact absurd hp1 (by simp))
 subst hpa
 go_enter Tryz.func30,Tryz.ntmps30
 go_wp2_with fail
 generalize hW:World.alloc w _=W;have hbW:Below w.heap.size w W:=by rw [<-hW];exact blo
 have N0:W.cell? ⟨w.heap.size,0,none⟩=some (.slice (some ⟨bp,op,none⟩) ps.length pc):=by rw [<-hW];simp [go_sem]
 have hzW:w.heap.size<W.heap.size:=by rw [<-hW];simp
 have HBW:=hidP hbW;clear hW hbW;obtain ⟨N,hN⟩:∃ N,w.heap.size=N:=⟨_,rfl⟩;rw [hN] at N0 hzW ⊢;have hNC:C<N:=by omega
 have HNw:Hid (w.heap.size<=N/\N<=w.heap.size):=by unfold Hid;omega
 clear hN;refine (pick_any C ca cc bs at_ 8 W (hc.out.below HBW.out) (by omega) (by omega)).mono ?_
 rintro e w1 ⟨x,at1,hx,rfl,hat1,hc1,ho1⟩;have hx8:x<8:=by omega
 have HI0:Hid (SgV ps W w1 C ca cc bs (at_+90) (1+x) 0 (.slice none 0 0)):=⟨[],at1,rfl,World.ownsRow_nil _ _ _ _,fun s hs=>(by cases hs),hc1,by omega,by omega,ho1,SsOk.nil ps⟩
 clear hc1 ho1 hx
 go_wp2_with fail
 go_loopw [5,6] (fun ve kk wr => ∃ (k n:Nat) (xo:Option Addr) (yo:Nat),ve = .slice xo n yo/\kk = .int .i64 k/\Hid (SgV ps W wr C ca cc bs (at_+90) k n ve)) (fun _ kk _=>(intOf kk).toNat)
 case atStart=>exact ⟨1+x,0,none,0,rfl,by go_num,HI0⟩
 case round =>
  clear HI0;obtain ⟨k,n,xo,yo,rfl,rfl,HI⟩:=hrel;obtain ⟨ss,at0,hsl,hown,hnm,hcur,hnk,hat0,hbase,hso⟩:=HI.out;have HSO:=hidP hso;clear hso;have HO:=hidP hown;have HNM:=hidP hnm;have HC:=hidP hcur;have HB:=hidP hbase;have hzr:=hbase.size;clear HI hown hnm hcur hbase;cases k with
  | zero =>
   go_wp2_with fail
   go_ret
   have hw:=HNw.out;refine ⟨xo,yo,ss,at0,by rw [hsl];rfl,fun u hu=>?_,⟨by omega,by rw [hsl];exact owns_base HO.out (by omega),HNM.out⟩,HC.out,by omega,(Only.of_below HBW.out).trans HB.out,HSO.out⟩
   refine signalsAt_of (N:=W.heap.size) (y:=yo) ?_ HNM.out;rw [hsl];exact owns_kept2 HO.out (fun b hb=>hu b (by have:=(HO.out.lt b hb).1;omega) (HO.out.lt b hb).2)
  | succ k =>
   have hk1:(0:Int)<((k+1:Nat):Int):=by omega
   have n0:=HB.out.cell N0 (by show ¬ N=C;omega)
   go_wp2_with fail
   refine (pick_any C ca cc bs at0 _ wr HC.out (by omega) (by omega)).mono ?_
   rintro e w2 ⟨p,at2,hpp,rfl,hat2,hc2,ho2⟩;have hpl:p<ps.length:=by omega
   have HC2:=hidP hc2;have HB2:=hidP (HB.out.trans ho2);have HO2:Hid (w2.ownsRow W.heap.size 62 4 (.slice xo n yo) n (flatPc ss)):=owns_kept2 HO.out (fun b hb=>ho2.block b (HO.out.lt b hb).2 (by have:=(HO.out.lt b hb).1;omega))
   have hz2:=ho2.size;clear hc2 ho2 hpp HO HB HC n0;have n0:=HB2.out.cell N0 (by show ¬ N=C;omega)
   have hPA:=hp.out w2 ((Only.of_below HBW.out).trans HB2.out);obtain ⟨bp',op',hpa,hpcp⟩:=hPA.2.2.resolve_left (nz hpl);cases hpa;obtain ⟨_,j1,_,_⟩:=hpcp p hpl;obtain ⟨hL1,hL2⟩:=hp3.out _ (List.getElem_mem hpl);obtain ⟨L,hL⟩:∃ L,ps[p].len=L:=⟨_,rfl⟩;rw [hL] at j1 hL1 hL2;have hpi:(p:Int)<ps.length:=by omega
   have hzj:=cellLt j1;dsimp only at hzj;have HLL:=hidP hL;clear hpcp hPA hL
   by_cases hL3:L<3
   ·go_wp2_with fail
    have HIN:Hid (SgV ps W w2 C ca cc bs (at_+90) k n (.slice xo n yo)):=⟨ss,at2,hsl,HO2.out,HNM.out,HC2.out,by omega,by omega,HB2.out,HSO.out⟩
    go_roundw
    case rel=>exact ⟨k,n,xo,yo,rfl,by go_num,HIN⟩
    case measure=>simp [intOf]
   ·have hrow2:∀ b,(Value.slice xo n yo).ownBlock=some b->W.heap.size<=b/\b<w2.heap.size:=fun b hb=>HO2.out.lt b hb
    have HR2:=hidP hrow2;clear hrow2;have HPJ:Hid (∀ u,Only (fun k=>k=C) w2 u->u.cell? ⟨bp,op+p*4+1,none⟩=some (.int .i64 L)):=fun u hu=>by
     obtain ⟨bp',op',hpa,hpcp⟩:=(hp.out u (((Only.of_below HBW.out).trans HB2.out).trans hu)).2.2.resolve_left (nz hpl);cases hpa;have:=(hpcp p hpl).2.1;rw [HLL.out] at this;exact this
    go_upto_region 7 with fail
    go_cut [8] (fun v wx => ∃ (T:Nat) (s:ByteArray) (a wy:Int) (at':Nat),v = .pointer (some ⟨T,0,none⟩)/\s.size<=1000002/\w2.heap.size<=T/\at'<=at2+4/\Hid (SigB wx T s p a wy)/\Hid (Cur wx C ca cc bs at')/\Hid (Only (fun k=>k=C) w2 wx)/\Hid (NmOk n s)/\Hid (1<=a/\a<=L-1/\(wy=1\/wy = -1)))
    case first =>
     obtain ⟨S,hS⟩:∃ S:World->Prop,∀ u,S u↔(u.cell? ⟨N,0,none⟩=some (.slice (some ⟨bp,op,none⟩) ps.length pc)/\u.cell? ⟨bp,op+p*4+1,none⟩=some (.int .i64 L)):=⟨_,fun _=>Iff.rfl⟩
     have HS0:=hidP hS;have r0:∀ u:Held S,World.cell? u.val ⟨N,0,none⟩=some (.slice (some ⟨bp,op,none⟩) ps.length pc):=fun u=>((hS u.val).1 u.2).1
     have r1:∀ u:Held S,World.cell? u.val ⟨bp,op+p*4+1,none⟩=some (.int .i64 L):=fun u=>((hS u.val).1 u.2).2
     have hS1:S w2.drew:=(hS _).2 ⟨n0,j1⟩;have hne:=held_ne hS1;clear hS;refine wp_region_tree (fun w' => ∃ u:Held S,w'=u.val) 21 (by kernel_rfl) (by kernel_rfl) (held_some hS1) ?_
     (refine wpT_sea 0 ?_;intro K hK;go_big_quiet_op;go_big_quiet_on);(refine wpT_sea 1 ?_;intro K hK;go_big_quiet_op;go_big_quiet_on);(refine wpT_sea 2 ?_;intro K hK;go_big_quiet_op;go_big_quiet_on)
     (refine wpT_sea 4 ?_;intro K hK;go_big_quiet_op;go_big_quiet_on);(refine wpT_sea 5 ?_;intro K hK;go_big_quiet_op;go_big_quiet_on);(refine wpT_sea 6 ?_;intro K hK;go_big_quiet_op;go_big_quiet_on);(refine wpT_sea 7 ?_;intro K hK;go_big_quiet_op;go_big_quiet_on);(refine wpT_sea 8 ?_;intro K hK;go_big_quiet_op;go_big_quiet_on);(refine wpT_sea 9 ?_;intro K hK;go_big_quiet_op;go_big_quiet_on);(refine wpT_sea 10 ?_;intro K hK;go_big_quiet_op;go_big_quiet_on);(refine wpT_sea 11 ?_;intro K hK;go_big_quiet_op;go_big_quiet_on);(refine wpT_sea 12 ?_;intro K hK;go_big_quiet_op;go_big_quiet_on)
     (refine wpT_sea 15 ?_;intro K hK;go_big_quiet_op;go_big_quiet_on)
     have HOR:Hid (Only (fun k=>k=C) w2 w2):=Only.refl _ _
     refine wpT_loud2 3 20 (by rfl) (by rfl) (by kernel_rfl) (by kernel_rfl) (by kernel_rfl) ?_ ?_
     ·intro K hK
      go_wp2_with (go_at_call 73;refine (nameV_any _ n _ (by omega)).mono ?_;rintro e wb1 ⟨⟨s,rfl,hsz0⟩,hb1⟩;have HNS:=hidP hsz0;have hsz:=hsz0.size;clear hsz0)
      have HO1:Hid (Only (fun k=>k=C) w2 wb1):=(HOR.out.drew).trans (Only.of_below hb1)
      have HC1:=hidP (HC2.out.below ((Below.refl _ _).drew.trans hb1));clear hb1;have hS1:S wb1:=(HS0.out _).2 ⟨HO1.out.cell n0 (by show ¬ N=C;omega),HPJ.out wb1 HO1.out⟩
      refine hK _ _ (held_some hS1) ?_;clear hK K;refine wpT_loud2 13 20 (by rfl) (by rfl) (by kernel_rfl) (by kernel_rfl) (by kernel_rfl) ?_ ?_
      ·intro K hK
       go_wp2_with (go_at_call 31;refine (wide_any C ca cc bs at2 (L-1) _ HC1 (by omega) (by omega)).mono ?_;rintro e wb2 ⟨y1,at3,hy1,rfl,hat3,hc2,ho2⟩)
       have HO2:Hid (Only (fun k=>k=C) w2 wb2):=HO1.out.trans ho2
       have HC2:=hidP hc2;clear hc2 ho2;have hS2:S wb2:=(HS0.out _).2 ⟨HO2.out.cell n0 (by show ¬ N=C;omega),HPJ.out wb2 HO2.out⟩
       refine hK _ _ (held_some hS2) ?_;clear hK K
       (refine wpT_sea 14 ?_;intro K hK;go_big_quiet_op;go_big_quiet_on)
       refine wpT_loud2 16 20 (by rfl) (by rfl) (by kernel_rfl) (by kernel_rfl) (by kernel_rfl) ?_ ?_
       ·intro K hK
        go_wp2_with (go_at_call 32;refine (pick_any C ca cc bs at3 2 _ HC2 (by omega) (by omega)).mono ?_;rintro e wb3 ⟨y2,at4,hy2,rfl,hat4,hc3,ho3⟩)
        have HO3:Hid (Only (fun k=>k=C) w2 wb3):=HO2.out.trans ho3
        have HC3:=hidP hc3;have hy2':y2<2:=by omega
        clear hc3 ho3;have hS3:S wb3:=(HS0.out _).2 ⟨HO3.out.cell n0 (by show ¬ N=C;omega),HPJ.out wb3 HO3.out⟩
        refine hK _ _ (held_some hS3) ?_;clear hK K
        (refine wpT_sea 17 ?_;intro K hK;go_big_quiet_op;go_big_quiet_on);(refine wpT_sea 18 ?_;intro K hK;go_big_quiet_op;go_big_quiet_on);(refine wpT_sea 19 ?_;intro K hK;go_big_quiet_op;go_big_quiet_on)
        refine wpT_loud 20 (by rfl) (by kernel_rfl) (by kernel_rfl) ?_
        intro K hK
        go_wp2_with fail
        have HB4:Hid (Below wb3.heap.size wb3 (World.alloc wb3 (.cells #[.string ⟨#[]⟩,.int .i64 0,.int .i64 0,.int .i64 0] 62))):=((Below.refl _ _).alloc (Nat.le_refl _) _);have HT4:Hid (SigB (World.alloc wb3 (.cells #[.string ⟨#[]⟩,.int .i64 0,.int .i64 0,.int .i64 0] 62)) wb3.heap.size ⟨#[]⟩ 0 0 0):=⟨by simp [go_sem],by simp [go_sem],by simp [go_sem],by simp [go_sem],fun o=>by simp [go_sem]⟩
        have HO4:Hid (Only (fun k=>k=C) w2 (World.alloc wb3 (.cells #[.string ⟨#[]⟩,.int .i64 0,.int .i64 0,.int .i64 0] 62))):=HO3.out.trans (Only.of_below HB4.out)
        have HC4:=hidP (HC3.out.below HB4.out);have hT2:w2.heap.size<=wb3.heap.size:=HO3.out.size;have hS4:S (World.alloc wb3 (.cells #[.string ⟨#[]⟩,.int .i64 0,.int .i64 0,.int .i64 0] 62)):=(HS0.out _).2 ⟨HO4.out.cell n0 (by show ¬ N=C;omega),HPJ.out _ HO4.out⟩
        refine hK _ _ (held_some hS4) ?_;clear hK K HB4;generalize (World.alloc wb3 (.cells #[.string ⟨#[]⟩,.int .i64 0,.int .i64 0,.int .i64 0] 62))=wb4 at HT4 HO4 HC4 hS4 ⊢;refine wpT_done (by kernel_rfl) ?_
        simp only [List.drop_succ_cons,List.drop_zero];obtain ⟨d0,d1,d2,d3,dz⟩:=HT4.out;have dz0:=dz 0;have dz1:=dz 1;have dz2:=dz 2;have dz3:=dz 3;clear dz r0 r1 hne hS1;have hTC:C<wb3.heap.size:=by omega
        go_wp2_with fail
        go_meet
        refine ⟨wb3.heap.size,s,1+(y1:Int),1-2*(y2:Int),at4,rfl,hsz,hT2,by omega,?_,?_,?_,HNS,by unfold Hid;omega⟩
        ·refine ⟨?_,?_,?_,?_,fun o=>?_⟩
         ·rw [World.cell?_setCell_other _ _ _ _ (by simp),World.cell?_setCell_other _ _ _ _ (by simp),World.cell?_setCell_other _ _ _ _ (by simp)]
          exact World.cell?_setCell_same _ _ _ d0
         ·rw [World.cell?_setCell_other _ _ _ _ (by simp),World.cell?_setCell_other _ _ _ _ (by simp)]
          exact World.cell?_setCell_same _ _ _ (by rw [World.cell?_setCell_other _ _ _ _ (by simp)];exact d1)
         ·rw [World.cell?_setCell_other _ _ _ _ (by simp)]
          exact World.cell?_setCell_same _ _ _ (by rw [World.cell?_setCell_other _ _ _ _ (by simp),World.cell?_setCell_other _ _ _ _ (by simp)];exact d2)
         ·exact World.cell?_setCell_same _ _ _ (by rw [World.cell?_setCell_other _ _ _ _ (by simp),World.cell?_setCell_other _ _ _ _ (by simp),World.cell?_setCell_other _ _ _ _ (by simp)];exact d3)
         ·rw [World.frozen?_setCell,World.frozen?_setCell,World.frozen?_setCell,World.frozen?_setCell];exact HT4.out.z o
        ·exact HC4.out.above hlow.out (fun k hk=>(Below.heap_setCell _ _ _ _ (show k≠wb3.heap.size by omega)).trans ((Below.heap_setCell _ _ _ _ (show k≠wb3.heap.size by omega)).trans ((Below.heap_setCell _ _ _ _ (show k≠wb3.heap.size by omega)).trans (Below.heap_setCell _ _ _ _ (show k≠wb3.heap.size by omega)))))
        ·exact (((((HO4.out).setCell (p:=⟨wb3.heap.size,0,none⟩) (Or.inr hT2) _).setCell (p:=⟨wb3.heap.size,1,none⟩) (Or.inr hT2) _).setCell (p:=⟨wb3.heap.size,2,none⟩) (Or.inr hT2) _).setCell (p:=⟨wb3.heap.size,3,none⟩) (Or.inr hT2) _)
       ·intro K hK
        go_wp2_with fail
        have HB5:Hid (Below wb2.heap.size wb2 (World.alloc wb2 (.cells #[.string ⟨#[]⟩,.int .i64 0,.int .i64 0,.int .i64 0] 62))):=((Below.refl _ _).alloc (Nat.le_refl _) _);have HT5:Hid (SigB (World.alloc wb2 (.cells #[.string ⟨#[]⟩,.int .i64 0,.int .i64 0,.int .i64 0] 62)) wb2.heap.size ⟨#[]⟩ 0 0 0):=⟨by simp [go_sem],by simp [go_sem],by simp [go_sem],by simp [go_sem],fun o=>by simp [go_sem]⟩
        have HO5:Hid (Only (fun k=>k=C) w2 (World.alloc wb2 (.cells #[.string ⟨#[]⟩,.int .i64 0,.int .i64 0,.int .i64 0] 62))):=HO2.out.trans (Only.of_below HB5.out)
        have HC5:=hidP (HC2.out.below HB5.out);have hT2:w2.heap.size<=wb2.heap.size:=HO2.out.size;have hS5:S (World.alloc wb2 (.cells #[.string ⟨#[]⟩,.int .i64 0,.int .i64 0,.int .i64 0] 62)):=(HS0.out _).2 ⟨HO5.out.cell n0 (by show ¬ N=C;omega),HPJ.out _ HO5.out⟩
        refine hK _ _ (held_some hS5) ?_;clear hK K HB5;generalize (World.alloc wb2 (.cells #[.string ⟨#[]⟩,.int .i64 0,.int .i64 0,.int .i64 0] 62))=wb5 at HT5 HO5 HC5 hS5 ⊢;refine wpT_loud 16 (by rfl) (by kernel_rfl) (by kernel_rfl) ?_
        intro K hK
        go_wp2_with (go_at_call 32;refine (pick_any C ca cc bs at3 2 _ HC5 (by omega) (by omega)).mono ?_;rintro e wb6 ⟨y2,at4,hy2,rfl,hat4,hc6,ho6⟩)
        have HO6:Hid (Only (fun k=>k=C) w2 wb6):=HO5.out.trans ho6
        have HC6:=hidP hc6;have HT6:=hidP (HT5.out.only ho6 (by omega))
        have hy2':y2<2:=by omega
        clear hc6 ho6;have hS6:S wb6:=(HS0.out _).2 ⟨HO6.out.cell n0 (by show ¬ N=C;omega),HPJ.out wb6 HO6.out⟩
        refine hK _ _ (held_some hS6) ?_;clear hK K
        (refine wpT_sea 17 ?_;intro K hK;go_big_quiet_op;go_big_quiet_on);(refine wpT_sea 18 ?_;intro K hK;go_big_quiet_op;go_big_quiet_on);(refine wpT_sea 19 ?_;intro K hK;go_big_quiet_op;go_big_quiet_on)
        refine wpT_done (by kernel_rfl) ?_
        simp only [List.drop_succ_cons,List.drop_zero];obtain ⟨d0,d1,d2,d3,dz⟩:=HT6.out;have dz0:=dz 0;have dz1:=dz 1;have dz2:=dz 2;have dz3:=dz 3;clear dz r0 r1 hne hS1;have hTC:C<wb2.heap.size:=by omega
        go_wp2_with fail
        go_meet
        refine ⟨wb2.heap.size,s,1+(y1:Int),1-2*(y2:Int),at4,rfl,hsz,hT2,by omega,?_,?_,?_,HNS,by unfold Hid;omega⟩
        ·refine ⟨?_,?_,?_,?_,fun o=>?_⟩
         ·rw [World.cell?_setCell_other _ _ _ _ (by simp),World.cell?_setCell_other _ _ _ _ (by simp),World.cell?_setCell_other _ _ _ _ (by simp)]
          exact World.cell?_setCell_same _ _ _ d0
         ·rw [World.cell?_setCell_other _ _ _ _ (by simp),World.cell?_setCell_other _ _ _ _ (by simp)]
          exact World.cell?_setCell_same _ _ _ (by rw [World.cell?_setCell_other _ _ _ _ (by simp)];exact d1)
         ·rw [World.cell?_setCell_other _ _ _ _ (by simp)]
          exact World.cell?_setCell_same _ _ _ (by rw [World.cell?_setCell_other _ _ _ _ (by simp),World.cell?_setCell_other _ _ _ _ (by simp)];exact d2)
         ·exact World.cell?_setCell_same _ _ _ (by rw [World.cell?_setCell_other _ _ _ _ (by simp),World.cell?_setCell_other _ _ _ _ (by simp),World.cell?_setCell_other _ _ _ _ (by simp)];exact d3)
         ·rw [World.frozen?_setCell,World.frozen?_setCell,World.frozen?_setCell,World.frozen?_setCell];exact HT6.out.z o
        ·exact HC6.out.above hlow.out (fun k hk=>(Below.heap_setCell _ _ _ _ (show k≠wb2.heap.size by omega)).trans ((Below.heap_setCell _ _ _ _ (show k≠wb2.heap.size by omega)).trans ((Below.heap_setCell _ _ _ _ (show k≠wb2.heap.size by omega)).trans (Below.heap_setCell _ _ _ _ (show k≠wb2.heap.size by omega)))))
        ·exact (((((HO6.out).setCell (p:=⟨wb2.heap.size,0,none⟩) (Or.inr hT2) _).setCell (p:=⟨wb2.heap.size,1,none⟩) (Or.inr hT2) _).setCell (p:=⟨wb2.heap.size,2,none⟩) (Or.inr hT2) _).setCell (p:=⟨wb2.heap.size,3,none⟩) (Or.inr hT2) _)
      ·intro K hK
       go_wp2_with fail
       have HB7:Hid (Below wb1.heap.size wb1 (World.alloc wb1 (.cells #[.string ⟨#[]⟩,.int .i64 0,.int .i64 0,.int .i64 0] 62))):=((Below.refl _ _).alloc (Nat.le_refl _) _);have HT7:Hid (SigB (World.alloc wb1 (.cells #[.string ⟨#[]⟩,.int .i64 0,.int .i64 0,.int .i64 0] 62)) wb1.heap.size ⟨#[]⟩ 0 0 0):=⟨by simp [go_sem],by simp [go_sem],by simp [go_sem],by simp [go_sem],fun o=>by simp [go_sem]⟩
       have HO7:Hid (Only (fun k=>k=C) w2 (World.alloc wb1 (.cells #[.string ⟨#[]⟩,.int .i64 0,.int .i64 0,.int .i64 0] 62))):=HO1.out.trans (Only.of_below HB7.out)
       have HC7:=hidP (HC1.out.below HB7.out);have hT2:w2.heap.size<=wb1.heap.size:=HO1.out.size;have hS7:S (World.alloc wb1 (.cells #[.string ⟨#[]⟩,.int .i64 0,.int .i64 0,.int .i64 0] 62)):=(HS0.out _).2 ⟨HO7.out.cell n0 (by show ¬ N=C;omega),HPJ.out _ HO7.out⟩
       refine hK _ _ (held_some hS7) ?_;clear hK K HB7;generalize (World.alloc wb1 (.cells #[.string ⟨#[]⟩,.int .i64 0,.int .i64 0,.int .i64 0] 62))=wb7 at HT7 HO7 HC7 hS7 ⊢;refine wpT_loud 13 (by rfl) (by kernel_rfl) (by kernel_rfl) ?_
       intro K hK
       go_wp2_with (go_at_call 31;refine (wide_any C ca cc bs at2 (L-1) _ HC7 (by omega) (by omega)).mono ?_;rintro e wb8 ⟨y1,at3,hy1,rfl,hat3,hc8,ho8⟩)
       have HO8:Hid (Only (fun k=>k=C) w2 wb8):=HO7.out.trans ho8
       have HC8:=hidP hc8;have HT8:=hidP (HT7.out.only ho8 (by omega))
       clear hc8 ho8;have hS8:S wb8:=(HS0.out _).2 ⟨HO8.out.cell n0 (by show ¬ N=C;omega),HPJ.out wb8 HO8.out⟩
       refine hK _ _ (held_some hS8) ?_;clear hK K
       (refine wpT_sea 14 ?_;intro K hK;go_big_quiet_op;go_big_quiet_on)
       refine wpT_loud 16 (by rfl) (by kernel_rfl) (by kernel_rfl) ?_
       intro K hK
       go_wp2_with (go_at_call 32;refine (pick_any C ca cc bs at3 2 _ HC8 (by omega) (by omega)).mono ?_;rintro e wb9 ⟨y2,at4,hy2,rfl,hat4,hc9,ho9⟩)
       have HO9:Hid (Only (fun k=>k=C) w2 wb9):=HO8.out.trans ho9
       have HC9:=hidP hc9;have HT9:=hidP (HT8.out.only ho9 (by omega))
       have hy2':y2<2:=by omega
       clear hc9 ho9;have hS9:S wb9:=(HS0.out _).2 ⟨HO9.out.cell n0 (by show ¬ N=C;omega),HPJ.out wb9 HO9.out⟩
       refine hK _ _ (held_some hS9) ?_;clear hK K
       (refine wpT_sea 17 ?_;intro K hK;go_big_quiet_op;go_big_quiet_on);(refine wpT_sea 18 ?_;intro K hK;go_big_quiet_op;go_big_quiet_on);(refine wpT_sea 19 ?_;intro K hK;go_big_quiet_op;go_big_quiet_on)
       refine wpT_done (by kernel_rfl) ?_
       simp only [List.drop_succ_cons,List.drop_zero];obtain ⟨d0,d1,d2,d3,dz⟩:=HT9.out;have dz0:=dz 0;have dz1:=dz 1;have dz2:=dz 2;have dz3:=dz 3;clear dz r0 r1 hne hS1;have hTC:C<wb1.heap.size:=by omega
       go_wp2_with fail
       go_meet
       refine ⟨wb1.heap.size,s,1+(y1:Int),1-2*(y2:Int),at4,rfl,hsz,hT2,by omega,?_,?_,?_,HNS,by unfold Hid;omega⟩
       ·refine ⟨?_,?_,?_,?_,fun o=>?_⟩
        ·rw [World.cell?_setCell_other _ _ _ _ (by simp),World.cell?_setCell_other _ _ _ _ (by simp),World.cell?_setCell_other _ _ _ _ (by simp)]
         exact World.cell?_setCell_same _ _ _ d0
        ·rw [World.cell?_setCell_other _ _ _ _ (by simp),World.cell?_setCell_other _ _ _ _ (by simp)]
         exact World.cell?_setCell_same _ _ _ (by rw [World.cell?_setCell_other _ _ _ _ (by simp)];exact d1)
        ·rw [World.cell?_setCell_other _ _ _ _ (by simp)]
         exact World.cell?_setCell_same _ _ _ (by rw [World.cell?_setCell_other _ _ _ _ (by simp),World.cell?_setCell_other _ _ _ _ (by simp)];exact d2)
        ·exact World.cell?_setCell_same _ _ _ (by rw [World.cell?_setCell_other _ _ _ _ (by simp),World.cell?_setCell_other _ _ _ _ (by simp),World.cell?_setCell_other _ _ _ _ (by simp)];exact d3)
        ·rw [World.frozen?_setCell,World.frozen?_setCell,World.frozen?_setCell,World.frozen?_setCell];exact HT9.out.z o
       ·exact HC9.out.above hlow.out (fun k hk=>(Below.heap_setCell _ _ _ _ (show k≠wb1.heap.size by omega)).trans ((Below.heap_setCell _ _ _ _ (show k≠wb1.heap.size by omega)).trans ((Below.heap_setCell _ _ _ _ (show k≠wb1.heap.size by omega)).trans (Below.heap_setCell _ _ _ _ (show k≠wb1.heap.size by omega)))))
       ·exact (((((HO9.out).setCell (p:=⟨wb1.heap.size,0,none⟩) (Or.inr hT2) _).setCell (p:=⟨wb1.heap.size,1,none⟩) (Or.inr hT2) _).setCell (p:=⟨wb1.heap.size,2,none⟩) (Or.inr hT2) _).setCell (p:=⟨wb1.heap.size,3,none⟩) (Or.inr hT2) _)
     ·intro K hK
      go_wp2_with fail
      have HB10:Hid (Below w2.heap.size w2 (World.alloc w2 (.cells #[.string ⟨#[]⟩,.int .i64 0,.int .i64 0,.int .i64 0] 62)).drew):=((Below.refl _ _).alloc (Nat.le_refl _) _).drew;have HT10:Hid (SigB (World.alloc w2 (.cells #[.string ⟨#[]⟩,.int .i64 0,.int .i64 0,.int .i64 0] 62)).drew w2.heap.size ⟨#[]⟩ 0 0 0):=⟨by simp [go_sem],by simp [go_sem],by simp [go_sem],by simp [go_sem],fun o=>by simp [go_sem]⟩
      have HO10:Hid (Only (fun k=>k=C) w2 (World.alloc w2 (.cells #[.string ⟨#[]⟩,.int .i64 0,.int .i64 0,.int .i64 0] 62)).drew):=HOR.out.trans (Only.of_below HB10.out)
      have HC10:=hidP (HC2.out.below HB10.out);have hT2:w2.heap.size<=w2.heap.size:=HOR.out.size;have hS10:S (World.alloc w2 (.cells #[.string ⟨#[]⟩,.int .i64 0,.int .i64 0,.int .i64 0] 62)).drew:=(HS0.out _).2 ⟨HO10.out.cell n0 (by show ¬ N=C;omega),HPJ.out _ HO10.out⟩
      refine hK _ _ (held_some hS10) ?_;clear hK K HB10;generalize (World.alloc w2 (.cells #[.string ⟨#[]⟩,.int .i64 0,.int .i64 0,.int .i64 0] 62)).drew=wb10 at HT10 HO10 HC10 hS10 ⊢;refine wpT_loud 3 (by rfl) (by kernel_rfl) (by kernel_rfl) ?_
      intro K hK
      go_wp2_with (go_at_call 73;refine (nameV_any _ n _ (by omega)).mono ?_;rintro e wb11 ⟨⟨s,rfl,hsz0⟩,hb11⟩;have HNS:=hidP hsz0;have hsz:=hsz0.size;clear hsz0)
      have HO11:Hid (Only (fun k=>k=C) w2 wb11):=HO10.out.trans (Only.of_below hb11)
      have HC11:=hidP (HC10.out.below hb11);have HT11:=hidP (HT10.out.only (C:=C) (Only.of_below hb11) (by omega))
      clear hb11;have hS11:S wb11:=(HS0.out _).2 ⟨HO11.out.cell n0 (by show ¬ N=C;omega),HPJ.out wb11 HO11.out⟩
      refine hK _ _ (held_some hS11) ?_;clear hK K;refine wpT_loud 13 (by rfl) (by kernel_rfl) (by kernel_rfl) ?_
      intro K hK
      go_wp2_with (go_at_call 31;refine (wide_any C ca cc bs at2 (L-1) _ HC11 (by omega) (by omega)).mono ?_;rintro e wb12 ⟨y1,at3,hy1,rfl,hat3,hc12,ho12⟩)
      have HO12:Hid (Only (fun k=>k=C) w2 wb12):=HO11.out.trans ho12
      have HC12:=hidP hc12;have HT12:=hidP (HT11.out.only ho12 (by omega))
      clear hc12 ho12;have hS12:S wb12:=(HS0.out _).2 ⟨HO12.out.cell n0 (by show ¬ N=C;omega),HPJ.out wb12 HO12.out⟩
      refine hK _ _ (held_some hS12) ?_;clear hK K
      (refine wpT_sea 14 ?_;intro K hK;go_big_quiet_op;go_big_quiet_on)
      refine wpT_loud 16 (by rfl) (by kernel_rfl) (by kernel_rfl) ?_
      intro K hK
      go_wp2_with (go_at_call 32;refine (pick_any C ca cc bs at3 2 _ HC12 (by omega) (by omega)).mono ?_;rintro e wb13 ⟨y2,at4,hy2,rfl,hat4,hc13,ho13⟩)
      have HO13:Hid (Only (fun k=>k=C) w2 wb13):=HO12.out.trans ho13
      have HC13:=hidP hc13;have HT13:=hidP (HT12.out.only ho13 (by omega))
      have hy2':y2<2:=by omega
      clear hc13 ho13;have hS13:S wb13:=(HS0.out _).2 ⟨HO13.out.cell n0 (by show ¬ N=C;omega),HPJ.out wb13 HO13.out⟩
      refine hK _ _ (held_some hS13) ?_;clear hK K
      (refine wpT_sea 17 ?_;intro K hK;go_big_quiet_op;go_big_quiet_on);(refine wpT_sea 18 ?_;intro K hK;go_big_quiet_op;go_big_quiet_on);(refine wpT_sea 19 ?_;intro K hK;go_big_quiet_op;go_big_quiet_on)
      refine wpT_done (by kernel_rfl) ?_
      simp only [List.drop_succ_cons,List.drop_zero];obtain ⟨d0,d1,d2,d3,dz⟩:=HT13.out;have dz0:=dz 0;have dz1:=dz 1;have dz2:=dz 2;have dz3:=dz 3;clear dz r0 r1 hne hS1;have hTC:C<w2.heap.size:=by omega
      go_wp2_with fail
      go_meet
      refine ⟨w2.heap.size,s,1+(y1:Int),1-2*(y2:Int),at4,rfl,hsz,hT2,by omega,?_,?_,?_,HNS,by unfold Hid;omega⟩
      ·refine ⟨?_,?_,?_,?_,fun o=>?_⟩
       ·rw [World.cell?_setCell_other _ _ _ _ (by simp),World.cell?_setCell_other _ _ _ _ (by simp),World.cell?_setCell_other _ _ _ _ (by simp)]
        exact World.cell?_setCell_same _ _ _ d0
       ·rw [World.cell?_setCell_other _ _ _ _ (by simp),World.cell?_setCell_other _ _ _ _ (by simp)]
        exact World.cell?_setCell_same _ _ _ (by rw [World.cell?_setCell_other _ _ _ _ (by simp)];exact d1)
       ·rw [World.cell?_setCell_other _ _ _ _ (by simp)]
        exact World.cell?_setCell_same _ _ _ (by rw [World.cell?_setCell_other _ _ _ _ (by simp),World.cell?_setCell_other _ _ _ _ (by simp)];exact d2)
       ·exact World.cell?_setCell_same _ _ _ (by rw [World.cell?_setCell_other _ _ _ _ (by simp),World.cell?_setCell_other _ _ _ _ (by simp),World.cell?_setCell_other _ _ _ _ (by simp)];exact d3)
       ·rw [World.frozen?_setCell,World.frozen?_setCell,World.frozen?_setCell,World.frozen?_setCell];exact HT13.out.z o
      ·exact HC13.out.above hlow.out (fun k hk=>(Below.heap_setCell _ _ _ _ (show k≠w2.heap.size by omega)).trans ((Below.heap_setCell _ _ _ _ (show k≠w2.heap.size by omega)).trans ((Below.heap_setCell _ _ _ _ (show k≠w2.heap.size by omega)).trans (Below.heap_setCell _ _ _ _ (show k≠w2.heap.size by omega)))))
      ·exact (((((HO13.out).setCell (p:=⟨w2.heap.size,0,none⟩) (Or.inr hT2) _).setCell (p:=⟨w2.heap.size,1,none⟩) (Or.inr hT2) _).setCell (p:=⟨w2.heap.size,2,none⟩) (Or.inr hT2) _).setCell (p:=⟨w2.heap.size,3,none⟩) (Or.inr hT2) _)
    case rest =>
     obtain ⟨T,s,a,wy,at3,rfl,hsz,hT,hat3,HSB,HC3,HO3,HNS,HAW⟩:=hcut;have hTC:C<T:=by omega
     have hbp:=hzj;clear n0 j1 hzj HC2
     go_wp2_with fail
     refine (pick_any C ca cc bs at3 3 wc HC3 (by omega) (by omega)).mono ?_
     rintro e w4 ⟨y,at4,hy,rfl,hat4,hc4,ho4⟩;have HC4:=hidP hc4;have HO4:=hidP (HO3.out.trans ho4);have HSB4:=hidP (HSB.out.only ho4 (by omega))
     have n0:=(HB2.out.trans HO4.out).cell N0 (by show ¬ N=C;omega)
     have j1:=HPJ.out w4 HO4.out;have hzj:=cellLt j1;dsimp only at hzj;clear hc4 ho4 HC3 HO3 HSB hy;have hz4:=HO4.out.size
     go_upto_if 50 with fail
     go_cut [] (fun wx => ∃ a',Hid (SigB wx T s p a' wy)/\Hid (Cur wx C ca cc bs at4)/\Hid (Only (fun k=>k=C) w2 wx)/\Hid (1<=a'/\a'<=L-1))
     case first =>
      obtain ⟨d0,d1,d2,d3,dz⟩:=HSB4.out;have dz2:=dz 2;have HSX:Hid (∀ (u:World) (a':Int),SigB (u.setCell ⟨T,2,none⟩ (.int .i64 a')) T s p a' wy->Cur u C ca cc bs at4->Only (fun k=>k=C) w2 u->(1<=a'/\a'<=L-1)->∃ b,Hid (SigB (u.setCell ⟨T,2,none⟩ (.int .i64 a')) T s p b wy)/\Hid (Cur (u.setCell ⟨T,2,none⟩ (.int .i64 a')) C ca cc bs at4)/\Hid (Only (fun k=>k=C) w2 (u.setCell ⟨T,2,none⟩ (.int .i64 a')))/\Hid (1<=b/\b<=L-1)):=fun u a' h1 h2 h3 h4=>⟨a',h1,h2.above hlow.out (fun k hk=>Below.heap_setCell _ _ _ _ (show k≠T by omega)),h3.setCell (p:=⟨T,2,none⟩) (Or.inr hT) _,h4⟩
      clear dz
      by_cases hy0:y=0
      ·subst hy0
       by_cases hw1:wy=1
       ·have hwb:(wy==1)=true:=by simp [hw1]
        have hbT:bp≠T:=by omega
        have hNT:N≠T:=by omega
        clear hw1
        go_wp2_with fail
        go_meet
        exact HSX.out _ _ ((HSB4.out.set 1).set _) (HC4.out.above hlow.out (fun k hk=>Below.heap_setCell _ _ _ _ (show k≠T by omega))) (HO4.out.setCell (p:=⟨T,2,none⟩) (Or.inr hT) _) (by omega)
       ·have hwb:(wy==1)=false:=by simp [hw1]
        clear hw1
        go_wp2_with fail
        go_meet
        exact HSX.out _ _ (HSB4.out.set _) HC4.out HO4.out (by omega)
      ·have hyb:((y:Int)==0)=false:=by simp;omega
       go_wp2_with fail
       go_meet
       exact ⟨a,HSB4,HC4,HO4,HAW.out.1,HAW.out.2.1⟩
     case rest =>
      obtain ⟨a',HSB5,HC5,HO5,HA5⟩:=hcut;obtain ⟨d0,d1,d2,d3,_⟩:=HSB5.out;have HOW:Hid (wc.ownsRow W.heap.size 62 4 (.slice xo n yo) n (flatPc ss)):=owns_kept2 HO2.out (fun b hb=>HO5.out.block b (HR2.out b hb).2 (by have:=(HR2.out b hb).1;omega))
      have hTz:=cellLt d0;dsimp only at hTz;have HB5:=hidP (HB2.out.trans HO5.out);have hz5:=HB5.out.size;clear HSB4 HC4 HO4 n0 j1 hzj HO2 HB2 HPJ HSB5 HO5
      go_wp2_with (at_builtin;refine wpList_push (Wp:=wc) rfl (.tmp 63) (.tmp 65) 27 rfl W.heap.size 62 _ 4 40 Tryz.underlying27 Tryz.infoSignal rfl (by decide) (.slice xo n yo) n (flatPc ss) rfl HOW.out wc.heap.size rfl [.string s,.int .i64 (p:Int),.int .i64 a',.int .i64 wy] rfl rfl (by simp [Value.oneCell']) (by unfold maxLen;omega) (by omega) (by omega) ?_;intro x8 y8 w8 ho8 hg8;rw [flatPc_push _ ⟨s,p,a',wy⟩] at ho8;have HO8:=hidP ho8;have HC8:Hid (Cur w8 C ca cc bs at4):=HC5.out.above hlow.out (fun k hk=>hg8.block k (by omega) (fun e=>(by have:=(HOW.out.lt k e.symm).1;omega)));have HB8:Hid (Only (fun k=>k=C) W w8):=⟨hg8.os.trans HB5.out.os,hg8.tape.trans HB5.out.tape,hg8.output.trans HB5.out.output,Nat.le_trans HB5.out.size hg8.size,fun k hk hn=>(hg8.block k (by omega) (fun e=>(by have:=(HOW.out.lt k e.symm).1;omega))).trans (HB5.out.block k hk hn)⟩;clear ho8 hg8)
      have hl8:(ss++[(⟨s,p,a',wy⟩:MPiece)]).length=n+1:=by simp [hsl]
      have HP8:Hid (PiecesAt w8 x8 (ss++[⟨s,p,a',wy⟩])):=by
       refine signalsAt_of (N:=W.heap.size) (y:=y8) (by rw [hl8];exact HO8.out) (fun q hq=>?_)
       rcases List.mem_append.1 hq with hq | hq
       ·exact HNM.out q hq
       ·have:q=⟨s,p,a',wy⟩:=by simpa using hq
        rw [this];exact hsz
      refine (l1before_says x8 y8 _ n (n+1) hl8 (by omega) w8 HP8).mono ?_
      rintro e w9 ⟨bb,rfl,hbb,hb9⟩;have HBB:=hidP hbb;clear hbb;have HO9:=hidP (owns_below HO8.out hb9);have HC9:=hidP (HC8.out.below hb9);have HB9:=hidP (HB8.out.trans (Only.of_below hb9));have HN9:Hid (∀ q ∈ ss++[(⟨s,p,a',wy⟩:MPiece)],q.name.size<=1000002):=fun q hq=>by
       rcases List.mem_append.1 hq with hq | hq
       ·exact HNM.out q hq
       ·have:q=⟨s,p,a',wy⟩:=by simpa using hq
        rw [this];exact hsz
      clear hb9 HO8 HC8 HB8 HP8 d0 d1 d2 d3;obtain ⟨g,hg⟩:∃ g,x8=some ⟨g,0,none⟩:=by
       rcases HO9.out.2 with ⟨_,h2⟩ | ⟨g,cap,cur,h1,_⟩
       ·omega
       ·injection h1 with h1 _ _;exact ⟨g,h1⟩
      subst hg;have hy8:n+1<=y8:=by
       rcases HO9.out.2 with ⟨h1,_⟩ | ⟨g,cap,cur,h1,_,_,h4,_⟩
       ·cases h1
       ·cases h1;exact h4
      cases bb
      ·have HIN:Hid (SgV ps W w9 C ca cc bs (at_+90) k (n+1) (.slice (some ⟨g,0,none⟩) (n+1) y8)):=⟨ss++[⟨s,p,a',wy⟩],at4,hl8,HO9.out,HN9.out,HC9.out,by omega,by omega,HB9.out,ss_push HSO.out hsl HNS.out hpl HLL.out HA5.out HAW.out.2.2 HBB.out⟩
       go_wp2_with fail
       go_roundw
       case rel=>exact ⟨k,n+1,_,_,rfl,by go_num,HIN⟩
       case measure=>simp [intOf]
      ·have HIN:Hid (SgV ps W w9 C ca cc bs (at_+90) k n (.slice (some ⟨g,0,none⟩) n y8)):=⟨ss,at4,hsl,(by have h:=owns_shrink HO9.out;rw [<-hsl,flatPc_take] at h;rw [<-hsl];exact h),HNM.out,HC9.out,by omega,by omega,HB9.out,HSO.out⟩
       go_wp2_with fail
       exact ⟨⟨k,n,_,_,rfl,rfl,HIN⟩,by simp [intOf]⟩
end Go.Proofs.YtmkdgnmmebldgaaGreatDoor
