import Derived.Test.YtmkdgnmmebldgaaGreatDoorPk38
import Derived.Test.YtmkdgnmmebldgaaGreatDoorPk9
set_option maxRecDepth 100000
set_option maxHeartbeats 8000000
open Go.Proofs.Tryz
namespace Go.Proofs.YtmkdgnmmebldgaaGreatDoor
open Go.RowKit Go.Deep
variable {w:World}
theorem rH (C:Nat)(ca:Option Addr)(cc:Nat)(bs:List Int)(at_:Nat)(w:World)(hc:Hid (Cur w C ca cc bs at_))(hlow:Hid (eQ C ca bs))(ha:at_<=600000000):
  Calls prog 29 #[.pointer (some ⟨C,0,none⟩)] w (ni C ca cc bs at_ 402 w):=by
 have G:=hc.out.lt
 go_enter func29,ntmps29
 go_wp2_with fail
 generalize hW:World.alloc w _=W;have q:Cx w W:=by rw [<-hW];exact blo
 have R0:W.cell? ⟨w.heap.size,0,none⟩=some (.slice none 0 0):=by rw [<-hW];simp [go_sem]
 have R1:W.cell? ⟨w.heap.size,1,none⟩=some (.slice none 0 0):=by rw [<-hW];simp [go_sem]
 have i:Hid (∀ o,W.frozen? ⟨w.heap.size,o,none⟩=false):=fun o=>by rw [<-hW];simp [go_sem]
 have y:w.heap.size<W.heap.size:=by rw [<-hW];simp
 have r:=aa q;clear hW q;obtain ⟨R,hR⟩:∃ R,w.heap.size=R:=⟨_,rfl⟩;rw [hR] at R0 R1 i y ⊢;have H:C<R:=CG
 have z:Hid (w.heap.size<=R/\R<=w.heap.size):=by unfold Hid;omega
 clear hR;refine (aJ C ca cc bs at_ 2 W (hc.out.below r.out) CG CG).mono ?_
 rintro e w1 ⟨x,j,hx,rfl,A,s,l⟩;have t:=aa s;have B:=aa l;have I:=l.size;clear s l;have f:∀ (e:Ending) (w2:World),ni C ca cc bs j 400 w1 e w2->∃ (xp:Option Addr) (yp:Nat) (xj:Option Addr) (yj np nj:Nat),e = .returned (.agg #[.slice xp np yp,.slice xj nj yj])/\w2.cell? ⟨R,0,none⟩=some (.slice none 0 0)/\w2.cell? ⟨R,1,none⟩=some (.slice none 0 0)/\w2.frozen? ⟨R,0,none⟩=false/\w2.frozen? ⟨R,1,none⟩=false /\
   ni C ca cc bs at_ 402 w (.returned (.agg #[.slice xp np yp,.slice xj nj yj])) ((w2.setCell ⟨R,0,none⟩ (.slice xp np yp)).setCell ⟨R,1,none⟩ (.slice xj nj yj)):=by
  rintro e w2 ⟨xp,yp,xj,yj,ps,js,D,he,hk,E,m,J,ho⟩;have h1:=B.out;have h:w2.heap[R]? = W.heap[R]? := (ho.block R CG CG).trans (h1.block R CG CG)
  have g:∀ b,b≠R->((w2.setCell ⟨R,0,none⟩ (.slice xp ps.length yp)).setCell ⟨R,1,none⟩ (.slice xj js.length yj)).heap[b]? = w2.heap[b]? := fun b hb=>(Below.heap_setCell _ _ _ _ hb).trans (Below.heap_setCell _ _ _ _ hb)
  have hw:=z.out;have n:ag (fun k=>k=C) w w2:=((ag.of_below r.out).trans h1).trans ho
  refine ⟨xp,yp,xj,yj,ps.length,js.length,he,(World.cell?_of_block (w:=W) h).trans R0,(World.cell?_of_block (w:=W) h).trans R1,(World.frozen?_of_block (w:=W) h).trans (i.out 0),(World.frozen?_of_block (w:=W) h).trans (i.out 1),xp,yp,xj,yj,ps,js,D,rfl,?_,E,m.above hlow.out (fun k L=>g k CG),CG,(n.setCell (p:=⟨R,0,none⟩) (Or.inr hw.1) _).setCell (p:=⟨R,1,none⟩) (Or.inr hw.1) _⟩
  intro u hu;exact hk u (fun b h2 h3=>(hu b CG (by simpa using h3)).trans (g b CG))
 have HE:=aa f;clear f R0 R1;have F:x=0\/x=1:=CG
 rcases F with rfl | rfl
 ·go_wp2_with fail
  refine (uU C ca cc bs j w1 t hlow CG).mono ?_
  rintro e w2 a;obtain ⟨xp,yp,xj,yj,np,nj,rfl,q0,q1,u0,u1,c⟩:=HE.out e w2 (by
   obtain ⟨a1,a2,a3,a4,a5,a6,a7,h1,h2,h3,h4,h5,h6⟩:=a;exact ⟨a1,a2,a3,a4,a5,a6,a7,h1,h2,h3,h4,CG,h6⟩)
  have d:=aa c;clear c a
  go_wp2_with fail
  exact bodyPost_ret (v:=.agg #[.slice xp np yp,.slice xj nj yj]) (by simp [results,results29,go_sem,q0,q1]) rfl d.out
 ·go_wp2_with fail
  refine (Bv C ca cc bs j w1 t hlow CG).mono ?_
  rintro e w2 a;obtain ⟨xp,yp,xj,yj,np,nj,rfl,q0,q1,u0,u1,c⟩:=HE.out e w2 a;have d:=aa c;clear c a
  go_wp2_with fail
  exact bodyPost_ret (v:=.agg #[.slice xp np yp,.slice xj nj yj]) (by simp [results,results29,go_sem,q0,q1]) rfl d.out
theorem Tryz.infoSignal:(prog.info? 62).map (fun i=>(i.zero,i.size,i.bytes))=some (some (.agg #[.string ⟨#[]⟩,.int .i64 0,.int .i64 0,.int .i64 0]),4,40):=CH
theorem oH {B e s n g y:Nat}{xs:List Value}(h:w.ownsRow B e s (.slice (some ⟨g,0,none⟩) (n+1) y) (n+1) xs):w.ownsRow B e s (.slice (some ⟨g,0,none⟩) n y) n (xs.take (n*s)):=by
 obtain ⟨h0,h1⟩:=h;have hl:n*s<=(n+1)*s:=Nat.mul_le_mul_right _ CG
 refine ⟨by rw [List.length_take,h0];omega,?_⟩
 rcases h1 with ⟨h1,_⟩ | ⟨g',b,a,h1,h2,h3,h4,h5,h6,h7⟩
 ·cases h1
 ·cases h1;refine Or.inr ⟨g,y,a,rfl,h2,h3,CG,h5,h6,?_⟩
  rw [<-h7,List.take_take];congr 1;omega
theorem vq (ss:List af)(x:af):(bd (ss++[x])).take (ss.length*4)=bd ss:=by
 have h:(bd ss).length=ss.length*4:=iw dY 4 (fun _=>rfl) ss
 rw [<-eK,<-h,List.take_left]
theorem jW {N:Nat}{x:Option Addr}{y:Nat}{ps:List af}(h:w.ownsRow N 62 4 (.slice x ps.length y) ps.length (bd ps))(hn:∀ p ∈ ps,p.name.size<=1000002):ar w x ps:=by
 rcases h.2 with ⟨h1,h2⟩ | ⟨g,a,b,h1,h2,h3,h4,h5,_⟩
 ·have:ps=[]:=List.eq_nil_of_length_eq_zero h2;subst this;exact ⟨Nat.zero_le _,fun p hp=>(by cases hp),Or.inl rfl⟩
 ·cases h1;refine ⟨Nat.le_trans h4 h5,fun p hp=>by have:=hn p hp;unfold maxLen;omega,Or.inr ⟨g,0,rfl,fun i hi=>?_⟩⟩
  have hc:=h.cells (g:=g) rfl;have hg:∀ j,j<4->∀ u,(dY ps[i])[j]? = some u->w.cell? ⟨g,0+i*4+j,none⟩=some u:=by
   intro j hj u hu;have:=hc (i*4+j) u ((aZ dY 4 (fun _=>rfl) ps i j hi hj).trans hu)
   rw [bH] at this;have e:0+(i*4+j)=0+i*4+j:=CG
   rw [e] at this;exact this
  exact ⟨hg 0 CG _ rfl,hg 1 CG _ rfl,hg 2 CG _ rfl,hg 3 CG _ rfl⟩
theorem sC (a:Option Addr)(cap:Nat)(ss:List af)(i m:Nat)(hm:ss.length=m)(hi:i<m)(w:World)(hp:Hid (ar w a ss)):
  Calls prog 63 #[.slice a m cap,.int .i64 i] w fun e w' => ∃ b:Bool,e = .returned (.bool b)/\Cx w w':=by
 subst hm;refine (mZ a cap ss i hi w hp).mono ?_;rintro e w' ⟨h1,h2⟩;exact ⟨_,h1,h2⟩
def Sg (W wr:World)(C:Nat)(ca:Option Addr)(cc:Nat)(bs:List Int)(top k n:Nat)(v:Value):Prop:=
 ∃ ss at',ss.length=n/\wr.ownsRow W.heap.size 62 4 v n (bd ss)/\(∀ s ∈ ss,s.name.size<=1000002)/\Cur wr C ca cc bs at'/\n+k<=8/\at'+10*k<=top/\ag (fun k=>k=C) W wr
structure iO (w:World)(T:Nat)(s:ByteArray)(p a wy:Int):Prop where
 c0:w.cell? ⟨T,0,none⟩=some (.string s)
 c1:w.cell? ⟨T,1,none⟩=some (.int .i64 p)
 c2:w.cell? ⟨T,2,none⟩=some (.int .i64 a)
 c3:w.cell? ⟨T,3,none⟩=some (.int .i64 wy)
 z:∀ o,w.frozen? ⟨T,o,none⟩=false
theorem iO.set {T:Nat}{s:ByteArray}{p a wy:Int}(h:iO w T s p a wy)(a':Int):iO (w.setCell ⟨T,2,none⟩ (.int .i64 a')) T s p a' wy:=by
 refine ⟨?_,?_,World.cell?_setCell_same _ _ _ h.c2,?_,fun o=>by rw [World.frozen?_setCell];exact h.z o⟩
 ·rw [World.cell?_setCell_other _ _ _ _ CI];exact h.c0
 ·rw [World.cell?_setCell_other _ _ _ _ CI];exact h.c1
 ·rw [World.cell?_setCell_other _ _ _ _ CI];exact h.c3
theorem iO.only {w':World}{T C:Nat}{s:ByteArray}{p a wy:Int}(h:iO w T s p a wy)(ho:ag (fun k=>k=C) w w')(hT:T≠C):iO w' T s p a wy:=
 ⟨ho.cell h.c0 hT,ho.cell h.c1 hT,ho.cell h.c2 hT,ho.cell h.c3 hT,fun o=>(World.frozen?_of_block (w:=w) (ho.block T (ai h.c0) hT)).trans (h.z o)⟩
def vt (B:Nat)(w':World)(xs:Option Addr)(ss:List af):Prop := ∀ u:World,(∀ b,B<=b->b<w'.heap.size->u.heap[b]? = w'.heap[b]?)->ar u xs ss
def B8 (C:Nat)(ca:Option Addr)(cc:Nat)(bs:List Int)(at_ k:Nat)(w:World)(e:Ending)(w':World):Prop:=
 ∃ xs ys ss at',e = .returned (.slice xs (ss:List af).length ys)/\vt w.heap.size w' xs ss/\(ss.length<=8/\w'.ownsRow w.heap.size 62 4 (.slice xs ss.length ys) ss.length (bd ss)/\∀ s ∈ ss,s.name.size<=1000002)/\Cur w' C ca cc bs at'/\at'<=at_+k/\ag (fun k=>k=C) w w'
theorem oK (C:Nat)(ca:Option Addr)(cc:Nat)(bs:List Int)(at_:Nat)(pa:Option Addr)(pc:Nat)(ja:Option Addr)(nj jc:Nat)(ps:List af)(w:World)(hc:Hid (Cur w C ca cc bs at_))(hlow:Hid (eQ C ca bs))(ha:at_<=600000000)
  (hp:Hid (∀ u,ag (fun k=>k=C) w u->ar u pa ps)) (hp1:1<=ps.length) (hp2:ps.length<=100) (hp3:Hid (∀ p ∈ ps,1<=p.len/\p.len<=400)) :
  Calls prog 30 #[.pointer (some ⟨C,0,none⟩),.agg #[.slice pa ps.length pc,.slice ja nj jc]] w (B8 C ca cc bs at_ 100 w):=by
 have cz:=hc.out.lt;obtain ⟨bp,op,aF,_⟩:=(hp.out w (ag.refl _ _)).2.2.resolve_left (fun h=>by rw [h] at hp1;exact absurd hp1 CI)
 subst aF
 go_enter func30,ntmps30
 go_wp2_with fail
 generalize hW:World.alloc w _=W;have bE:Cx w W:=by rw [<-hW];exact blo
 have N0:W.cell? ⟨w.heap.size,0,none⟩=some (.slice (some ⟨bp,op,none⟩) ps.length pc):=by rw [<-hW];simp [go_sem]
 have b8:w.heap.size<W.heap.size:=by rw [<-hW];simp
 have aY:=aa bE;clear hW bE;obtain ⟨N,hN⟩:∃ N,w.heap.size=N:=⟨_,rfl⟩;rw [hN] at N0 b8 ⊢;have cA:C<N:=CG
 have b9:Hid (w.heap.size<=N/\N<=w.heap.size):=by unfold Hid;omega
 clear hN;refine (aJ C ca cc bs at_ 8 W (hc.out.below aY.out) CG CG).mono ?_
 rintro e w1 ⟨x,cb,hx,rfl,cd,bF,bG⟩;have cB:x<8:=CG
 have bH:Hid (Sg W w1 C ca cc bs (at_+90) (1+x) 0 (.slice none 0 0)):=⟨[],cb,rfl,World.ownsRow_nil _ _ _ _,fun s hs=>(by cases hs),bF,CG,CG,bG⟩
 clear bF bG hx
 go_wp2_with fail
 go_loopw [5,6] (fun ve kk wr => ∃ (k n:Nat) (xo:Option Addr) (yo:Nat),ve = .slice xo n yo/\kk = .int .i64 k/\Hid (Sg W wr C ca cc bs (at_+90) k n ve)) (fun _ kk _=>(intOf kk).toNat)
 case atStart=>exact ⟨1+x,0,none,0,rfl,by go_num,bH⟩
 case round =>
  clear bH;obtain ⟨k,n,xo,yo,rfl,rfl,HI⟩:=hrel;obtain ⟨ss,bI,I,aG,bJ,aH,cC,ce,t⟩:=HI.out;have HO:=aa aG;have aD:=aa bJ;have HC:=aa aH;have HB:=aa t;have cD:=t.size;clear HI aG bJ aH t;cases k with
  | zero =>
   go_wp2_with fail
   go_ret
   have hw:=b9.out;refine ⟨xo,yo,ss,bI,by rw [I];rfl,fun u hu=>?_,⟨CG,by rw [I];exact aW HO.out CG,aD.out⟩,HC.out,CG,(ag.of_below aY.out).trans HB.out⟩
   refine jW (N:=W.heap.size) (y:=yo) ?_ aD.out;rw [I];exact ax HO.out (fun b hb=>hu b (by have:=(HO.out.lt b hb).1;omega) (HO.out.lt b hb).2)
  | succ k =>
   have cE:(0:Int)<((k+1:Nat):Int):=CG
   have n0:=HB.out.cell N0 (by show ¬ N=C;omega)
   go_wp2_with fail
   refine (aJ C ca cc bs bI _ wr HC.out CG CG).mono ?_
   rintro e w2 ⟨p,aI,cf,rfl,cg,aK,X⟩;have aL:p<ps.length:=CG
   have Y:=aa aK;have Z:=aa (HB.out.trans X);have B:Hid (w2.ownsRow W.heap.size 62 4 (.slice xo n yo) n (bd ss)):=ax HO.out (fun b hb=>X.block b (HO.out.lt b hb).2 (by have:=(HO.out.lt b hb).1;omega))
   have cF:=X.size;clear aK X cf HO HB HC n0;have n0:=Z.out.cell N0 (by show ¬ N=C;omega)
   have bK:=hp.out w2 ((ag.of_below aY.out).trans Z.out);obtain ⟨ch,ci,aF,E⟩:=bK.2.2.resolve_left (nz aL);cases aF;obtain ⟨_,j1,_,_⟩:=E p aL;obtain ⟨cj,ck⟩:=hp3.out _ (List.getElem_mem aL);obtain ⟨L,hL⟩:∃ L,ps[p].len=L:=⟨_,rfl⟩;rw [hL] at j1 cj ck;have cG:(p:Int)<ps.length:=CG
   have aE:=ai j1;dsimp only at aE;have cl:=aa hL;clear E bK hL
   by_cases cH:L<3
   ·go_wp2_with fail
    have aM:Hid (Sg W w2 C ca cc bs (at_+90) k n (.slice xo n yo)):=⟨ss,aI,I,B.out,aD.out,Y.out,CG,CG,Z.out⟩
    go_roundw
    case rel=>exact ⟨k,n,xo,yo,rfl,by go_num,aM⟩
    case measure=>simp [intOf]
   ·have J:∀ b,(Value.slice xo n yo).ownBlock=some b->W.heap.size<=b/\b<w2.heap.size:=fun b hb=>B.out.lt b hb
    have bL:=aa J;clear J;have j:Hid (∀ u,ag (fun k=>k=C) w2 u->u.cell? ⟨bp,op+p*4+1,none⟩=some (.int .i64 L)):=fun u hu=>by
     obtain ⟨ch,ci,aF,E⟩:=(hp.out u (((ag.of_below aY.out).trans Z.out).trans hu)).2.2.resolve_left (nz aL);cases aF;have:=(E p aL).2.1;rw [cl.out] at this;exact this
    go_upto_region 7 with fail
    go_cut [8] (fun v wx => ∃ (T:Nat) (s:ByteArray) (a wy:Int) (at':Nat),v = .pointer (some ⟨T,0,none⟩)/\s.size<=1000002/\w2.heap.size<=T/\at'<=aI+4/\Hid (iO wx T s p a wy)/\Hid (Cur wx C ca cc bs at')/\Hid (ag (fun k=>k=C) w2 wx))
    case first =>
     obtain ⟨S,hS⟩:∃ S:World->Prop,∀ u,S u↔(u.cell? ⟨N,0,none⟩=some (.slice (some ⟨bp,op,none⟩) ps.length pc)/\u.cell? ⟨bp,op+p*4+1,none⟩=some (.int .i64 L)):=⟨_,fun _=>Iff.rfl⟩
     have m:=aa hS;have r0:∀ u:an S,World.cell? u.val ⟨N,0,none⟩=some (.slice (some ⟨bp,op,none⟩) ps.length pc):=fun u=>((hS u.val).1 u.2).1
     have r1:∀ u:an S,World.cell? u.val ⟨bp,op+p*4+1,none⟩=some (.int .i64 L):=fun u=>((hS u.val).1 u.2).2
     have M:S w2.drew:=(hS _).2 ⟨n0,j1⟩;have hne:=aQ M;clear hS;refine bW 21 M ?_
     (refine ae 0 ?_;intro K hK;go_big_quiet_op;go_big_quiet_on);(refine ae 1 ?_;intro K hK;go_big_quiet_op;go_big_quiet_on);(refine ae 2 ?_;intro K hK;go_big_quiet_op;go_big_quiet_on)
     (refine ae 4 ?_;intro K hK;go_big_quiet_op;go_big_quiet_on);(refine ae 5 ?_;intro K hK;go_big_quiet_op;go_big_quiet_on);(refine ae 6 ?_;intro K hK;go_big_quiet_op;go_big_quiet_on);(refine ae 7 ?_;intro K hK;go_big_quiet_op;go_big_quiet_on);(refine ae 8 ?_;intro K hK;go_big_quiet_op;go_big_quiet_on);(refine ae 9 ?_;intro K hK;go_big_quiet_op;go_big_quiet_on);(refine ae 10 ?_;intro K hK;go_big_quiet_op;go_big_quiet_on);(refine ae 11 ?_;intro K hK;go_big_quiet_op;go_big_quiet_on);(refine ae 12 ?_;intro K hK;go_big_quiet_op;go_big_quiet_on)
     (refine ae 15 ?_;intro K hK;go_big_quiet_op;go_big_quiet_on)
     have a8:Hid (ag (fun k=>k=C) w2 w2):=ag.refl _ _
     refine fh 3 20 (by rfl) (by rfl) CH CH CH ?_ ?_
     ·intro K hK
      go_wp2_with (go_at_call 73;refine (gQ _ n _ CG).mono ?_;rintro e d ⟨⟨s,rfl,O⟩,ba⟩)
      have aN:Hid (ag (fun k=>k=C) w2 d):=(a8.out.drew).trans (ag.of_below ba)
      have bM:=aa (Y.out.below (CV.drew.trans ba));clear ba;have M:S d:=(m.out _).2 ⟨aN.out.cell n0 (by show ¬ N=C;omega),j.out d aN.out⟩
      refine hK _ _ (ak M) ?_;clear hK K;refine fh 13 20 (by rfl) (by rfl) CH CH CH ?_ ?_
      ·intro K hK
       go_wp2_with (go_at_call 31;refine (iu C ca cc bs aI (L-1) _ bM CG CG).mono ?_;rintro e f ⟨y1,R,bN,rfl,ab,aK,X⟩)
       have B:Hid (ag (fun k=>k=C) w2 f):=aN.out.trans X
       have Y:=aa aK;clear aK X;have cm:S f:=(m.out _).2 ⟨B.out.cell n0 (by show ¬ N=C;omega),j.out f B.out⟩
       refine hK _ _ (ak cm) ?_;clear hK K
       (refine ae 14 ?_;intro K hK;go_big_quiet_op;go_big_quiet_on)
       refine fh 16 20 (by rfl) (by rfl) CH CH CH ?_ ?_
       ·intro K hK
        go_wp2_with (go_at_call 32;refine (aJ C ca cc bs R 2 _ Y CG CG).mono ?_;rintro e i ⟨y2,l,bc,rfl,F,bO,bP⟩)
        have ac:Hid (ag (fun k=>k=C) w2 i):=B.out.trans bP
        have aZ:=aa bO;have ad:y2<2:=CG
        clear bO bP;have cn:S i:=(m.out _).2 ⟨ac.out.cell n0 (by show ¬ N=C;omega),j.out i ac.out⟩
        refine hK _ _ (ak cn) ?_;clear hK K
        (refine ae 17 ?_;intro K hK;go_big_quiet_op;go_big_quiet_on);(refine ae 18 ?_;intro K hK;go_big_quiet_op;go_big_quiet_on);(refine ae 19 ?_;intro K hK;go_big_quiet_op;go_big_quiet_on)
        refine az 20 ?_;intro K hK
        go_wp2_with fail
        have be:Hid (Cx i (World.alloc i (.cells #[.string ⟨#[]⟩,.int .i64 0,.int .i64 0,.int .i64 0] 62))):=CU;have bf:Hid (iO (World.alloc i (.cells #[.string ⟨#[]⟩,.int .i64 0,.int .i64 0,.int .i64 0] 62)) i.heap.size ⟨#[]⟩ 0 0 0):=⟨CO,CO,CO,CO,fun o=>CO⟩
        have r:Hid (ag (fun k=>k=C) w2 (World.alloc i (.cells #[.string ⟨#[]⟩,.int .i64 0,.int .i64 0,.int .i64 0] 62))):=ac.out.trans (ag.of_below be.out)
        have ah:=aa (aZ.out.below be.out);have c:w2.heap.size<=i.heap.size:=ac.out.size;have bQ:S (World.alloc i (.cells #[.string ⟨#[]⟩,.int .i64 0,.int .i64 0,.int .i64 0] 62)):=(m.out _).2 ⟨r.out.cell n0 (by show ¬ N=C;omega),j.out _ r.out⟩
        refine hK _ _ (ak bQ) ?_;clear hK K be;generalize (World.alloc i (.cells #[.string ⟨#[]⟩,.int .i64 0,.int .i64 0,.int .i64 0] 62))=wb4 at bf r ah bQ ⊢;refine a9 ?_;simp only [List.drop_succ_cons,List.drop_zero];obtain ⟨d0,d1,d2,d3,dz⟩:=bf.out;have bg:=dz 0;have bh:=dz 1;have a0:=dz 2;have bi:=dz 3;clear dz r0 r1 hne M;have a1:C<i.heap.size:=CG
        go_wp2_with fail
        go_meet
        refine ⟨i.heap.size,s,1+(y1:Int),1-2*(y2:Int),l,rfl,O,c,CG,?_,?_,?_⟩
        ·refine ⟨?_,?_,?_,?_,fun o=>?_⟩
         ·rw [World.cell?_setCell_other _ _ _ _ CI,World.cell?_setCell_other _ _ _ _ CI,World.cell?_setCell_other _ _ _ _ CI]
          exact World.cell?_setCell_same _ _ _ d0
         ·rw [World.cell?_setCell_other _ _ _ _ CI,World.cell?_setCell_other _ _ _ _ CI]
          exact World.cell?_setCell_same _ _ _ (by rw [World.cell?_setCell_other _ _ _ _ CI];exact d1)
         ·rw [World.cell?_setCell_other _ _ _ _ CI]
          exact World.cell?_setCell_same _ _ _ (by rw [World.cell?_setCell_other _ _ _ _ CI,World.cell?_setCell_other _ _ _ _ CI];exact d2)
         ·exact World.cell?_setCell_same _ _ _ (by rw [World.cell?_setCell_other _ _ _ _ CI,World.cell?_setCell_other _ _ _ _ CI,World.cell?_setCell_other _ _ _ _ CI];exact d3)
         ·rw [World.frozen?_setCell,World.frozen?_setCell,World.frozen?_setCell,World.frozen?_setCell];exact bf.out.z o
        ·exact ah.out.above hlow.out (fun k hk=>(Below.heap_setCell _ _ _ _ (show k≠i.heap.size by omega)).trans ((Below.heap_setCell _ _ _ _ (show k≠i.heap.size by omega)).trans ((Below.heap_setCell _ _ _ _ (show k≠i.heap.size by omega)).trans (Below.heap_setCell _ _ _ _ (show k≠i.heap.size by omega)))))
        ·exact (((((r.out).setCell (p:=⟨i.heap.size,0,none⟩) (Or.inr c) _).setCell (p:=⟨i.heap.size,1,none⟩) (Or.inr c) _).setCell (p:=⟨i.heap.size,2,none⟩) (Or.inr c) _).setCell (p:=⟨i.heap.size,3,none⟩) (Or.inr c) _)
       ·intro K hK
        go_wp2_with fail
        have D:Hid (Cx f (World.alloc f (.cells #[.string ⟨#[]⟩,.int .i64 0,.int .i64 0,.int .i64 0] 62))):=CU;have bR:Hid (iO (World.alloc f (.cells #[.string ⟨#[]⟩,.int .i64 0,.int .i64 0,.int .i64 0] 62)) f.heap.size ⟨#[]⟩ 0 0 0):=⟨CO,CO,CO,CO,fun o=>CO⟩
        have U:Hid (ag (fun k=>k=C) w2 (World.alloc f (.cells #[.string ⟨#[]⟩,.int .i64 0,.int .i64 0,.int .i64 0] 62))):=B.out.trans (ag.of_below D.out)
        have a2:=aa (Y.out.below D.out);have c:w2.heap.size<=f.heap.size:=B.out.size;have bS:S (World.alloc f (.cells #[.string ⟨#[]⟩,.int .i64 0,.int .i64 0,.int .i64 0] 62)):=(m.out _).2 ⟨U.out.cell n0 (by show ¬ N=C;omega),j.out _ U.out⟩
        refine hK _ _ (ak bS) ?_;clear hK K D;generalize (World.alloc f (.cells #[.string ⟨#[]⟩,.int .i64 0,.int .i64 0,.int .i64 0] 62))=wb5 at bR U a2 bS ⊢;refine az 16 ?_;intro K hK
        go_wp2_with (go_at_call 32;refine (aJ C ca cc bs R 2 _ a2 CG CG).mono ?_;rintro e bj ⟨y2,l,bc,rfl,F,bT,bk⟩)
        have bl:Hid (ag (fun k=>k=C) w2 bj):=U.out.trans bk
        have co:=aa bT;have bU:=aa (bR.out.only bk CG)
        have ad:y2<2:=CG
        clear bT bk;have cp:S bj:=(m.out _).2 ⟨bl.out.cell n0 (by show ¬ N=C;omega),j.out bj bl.out⟩
        refine hK _ _ (ak cp) ?_;clear hK K
        (refine ae 17 ?_;intro K hK;go_big_quiet_op;go_big_quiet_on);(refine ae 18 ?_;intro K hK;go_big_quiet_op;go_big_quiet_on);(refine ae 19 ?_;intro K hK;go_big_quiet_op;go_big_quiet_on)
        refine a9 ?_;simp only [List.drop_succ_cons,List.drop_zero];obtain ⟨d0,d1,d2,d3,dz⟩:=bU.out;have bg:=dz 0;have bh:=dz 1;have a0:=dz 2;have bi:=dz 3;clear dz r0 r1 hne M;have a1:C<f.heap.size:=CG
        go_wp2_with fail
        go_meet
        refine ⟨f.heap.size,s,1+(y1:Int),1-2*(y2:Int),l,rfl,O,c,CG,?_,?_,?_⟩
        ·refine ⟨?_,?_,?_,?_,fun o=>?_⟩
         ·rw [World.cell?_setCell_other _ _ _ _ CI,World.cell?_setCell_other _ _ _ _ CI,World.cell?_setCell_other _ _ _ _ CI]
          exact World.cell?_setCell_same _ _ _ d0
         ·rw [World.cell?_setCell_other _ _ _ _ CI,World.cell?_setCell_other _ _ _ _ CI]
          exact World.cell?_setCell_same _ _ _ (by rw [World.cell?_setCell_other _ _ _ _ CI];exact d1)
         ·rw [World.cell?_setCell_other _ _ _ _ CI]
          exact World.cell?_setCell_same _ _ _ (by rw [World.cell?_setCell_other _ _ _ _ CI,World.cell?_setCell_other _ _ _ _ CI];exact d2)
         ·exact World.cell?_setCell_same _ _ _ (by rw [World.cell?_setCell_other _ _ _ _ CI,World.cell?_setCell_other _ _ _ _ CI,World.cell?_setCell_other _ _ _ _ CI];exact d3)
         ·rw [World.frozen?_setCell,World.frozen?_setCell,World.frozen?_setCell,World.frozen?_setCell];exact bU.out.z o
        ·exact co.out.above hlow.out (fun k hk=>(Below.heap_setCell _ _ _ _ (show k≠f.heap.size by omega)).trans ((Below.heap_setCell _ _ _ _ (show k≠f.heap.size by omega)).trans ((Below.heap_setCell _ _ _ _ (show k≠f.heap.size by omega)).trans (Below.heap_setCell _ _ _ _ (show k≠f.heap.size by omega)))))
        ·exact (((((bl.out).setCell (p:=⟨f.heap.size,0,none⟩) (Or.inr c) _).setCell (p:=⟨f.heap.size,1,none⟩) (Or.inr c) _).setCell (p:=⟨f.heap.size,2,none⟩) (Or.inr c) _).setCell (p:=⟨f.heap.size,3,none⟩) (Or.inr c) _)
      ·intro K hK
       go_wp2_with fail
       have bm:Hid (Cx d (World.alloc d (.cells #[.string ⟨#[]⟩,.int .i64 0,.int .i64 0,.int .i64 0] 62))):=CU;have bV:Hid (iO (World.alloc d (.cells #[.string ⟨#[]⟩,.int .i64 0,.int .i64 0,.int .i64 0] 62)) d.heap.size ⟨#[]⟩ 0 0 0):=⟨CO,CO,CO,CO,fun o=>CO⟩
       have a3:Hid (ag (fun k=>k=C) w2 (World.alloc d (.cells #[.string ⟨#[]⟩,.int .i64 0,.int .i64 0,.int .i64 0] 62))):=aN.out.trans (ag.of_below bm.out)
       have bX:=aa (bM.out.below bm.out);have c:w2.heap.size<=d.heap.size:=aN.out.size;have bY:S (World.alloc d (.cells #[.string ⟨#[]⟩,.int .i64 0,.int .i64 0,.int .i64 0] 62)):=(m.out _).2 ⟨a3.out.cell n0 (by show ¬ N=C;omega),j.out _ a3.out⟩
       refine hK _ _ (ak bY) ?_;clear hK K bm;generalize (World.alloc d (.cells #[.string ⟨#[]⟩,.int .i64 0,.int .i64 0,.int .i64 0] 62))=wb7 at bV a3 bX bY ⊢;refine az 13 ?_;intro K hK
       go_wp2_with (go_at_call 31;refine (iu C ca cc bs aI (L-1) _ bX CG CG).mono ?_;rintro e bn ⟨y1,R,bN,rfl,ab,bZ,aj⟩)
       have al:Hid (ag (fun k=>k=C) w2 bn):=a3.out.trans aj
       have a4:=aa bZ;have cq:=aa (bV.out.only aj CG)
       clear bZ aj;have cr:S bn:=(m.out _).2 ⟨al.out.cell n0 (by show ¬ N=C;omega),j.out bn al.out⟩
       refine hK _ _ (ak cr) ?_;clear hK K
       (refine ae 14 ?_;intro K hK;go_big_quiet_op;go_big_quiet_on)
       refine az 16 ?_;intro K hK
       go_wp2_with (go_at_call 32;refine (aJ C ca cc bs R 2 _ a4 CG CG).mono ?_;rintro e bo ⟨y2,l,bc,rfl,F,b0,bq⟩)
       have V:Hid (ag (fun k=>k=C) w2 bo):=al.out.trans bq
       have a5:=aa b0;have b1:=aa (cq.out.only bq CG)
       have ad:y2<2:=CG
       clear b0 bq;have cs:S bo:=(m.out _).2 ⟨V.out.cell n0 (by show ¬ N=C;omega),j.out bo V.out⟩
       refine hK _ _ (ak cs) ?_;clear hK K
       (refine ae 17 ?_;intro K hK;go_big_quiet_op;go_big_quiet_on);(refine ae 18 ?_;intro K hK;go_big_quiet_op;go_big_quiet_on);(refine ae 19 ?_;intro K hK;go_big_quiet_op;go_big_quiet_on)
       refine a9 ?_;simp only [List.drop_succ_cons,List.drop_zero];obtain ⟨d0,d1,d2,d3,dz⟩:=b1.out;have bg:=dz 0;have bh:=dz 1;have a0:=dz 2;have bi:=dz 3;clear dz r0 r1 hne M;have a1:C<d.heap.size:=CG
       go_wp2_with fail
       go_meet
       refine ⟨d.heap.size,s,1+(y1:Int),1-2*(y2:Int),l,rfl,O,c,CG,?_,?_,?_⟩
       ·refine ⟨?_,?_,?_,?_,fun o=>?_⟩
        ·rw [World.cell?_setCell_other _ _ _ _ CI,World.cell?_setCell_other _ _ _ _ CI,World.cell?_setCell_other _ _ _ _ CI]
         exact World.cell?_setCell_same _ _ _ d0
        ·rw [World.cell?_setCell_other _ _ _ _ CI,World.cell?_setCell_other _ _ _ _ CI]
         exact World.cell?_setCell_same _ _ _ (by rw [World.cell?_setCell_other _ _ _ _ CI];exact d1)
        ·rw [World.cell?_setCell_other _ _ _ _ CI]
         exact World.cell?_setCell_same _ _ _ (by rw [World.cell?_setCell_other _ _ _ _ CI,World.cell?_setCell_other _ _ _ _ CI];exact d2)
        ·exact World.cell?_setCell_same _ _ _ (by rw [World.cell?_setCell_other _ _ _ _ CI,World.cell?_setCell_other _ _ _ _ CI,World.cell?_setCell_other _ _ _ _ CI];exact d3)
        ·rw [World.frozen?_setCell,World.frozen?_setCell,World.frozen?_setCell,World.frozen?_setCell];exact b1.out.z o
       ·exact a5.out.above hlow.out (fun k hk=>(Below.heap_setCell _ _ _ _ (show k≠d.heap.size by omega)).trans ((Below.heap_setCell _ _ _ _ (show k≠d.heap.size by omega)).trans ((Below.heap_setCell _ _ _ _ (show k≠d.heap.size by omega)).trans (Below.heap_setCell _ _ _ _ (show k≠d.heap.size by omega)))))
       ·exact (((((V.out).setCell (p:=⟨d.heap.size,0,none⟩) (Or.inr c) _).setCell (p:=⟨d.heap.size,1,none⟩) (Or.inr c) _).setCell (p:=⟨d.heap.size,2,none⟩) (Or.inr c) _).setCell (p:=⟨d.heap.size,3,none⟩) (Or.inr c) _)
     ·intro K hK
      go_wp2_with fail
      have am:Hid (Cx w2 (World.alloc w2 (.cells #[.string ⟨#[]⟩,.int .i64 0,.int .i64 0,.int .i64 0] 62)).drew):=CU.drew;have aO:Hid (iO (World.alloc w2 (.cells #[.string ⟨#[]⟩,.int .i64 0,.int .i64 0,.int .i64 0] 62)).drew w2.heap.size ⟨#[]⟩ 0 0 0):=⟨CO,CO,CO,CO,fun o=>CO⟩
      have G:Hid (ag (fun k=>k=C) w2 (World.alloc w2 (.cells #[.string ⟨#[]⟩,.int .i64 0,.int .i64 0,.int .i64 0] 62)).drew):=a8.out.trans (ag.of_below am.out)
      have aP:=aa (Y.out.below am.out);have c:w2.heap.size<=w2.heap.size:=a8.out.size;have aR:S (World.alloc w2 (.cells #[.string ⟨#[]⟩,.int .i64 0,.int .i64 0,.int .i64 0] 62)).drew:=(m.out _).2 ⟨G.out.cell n0 (by show ¬ N=C;omega),j.out _ G.out⟩
      refine hK _ _ (ak aR) ?_;clear hK K am;generalize (World.alloc w2 (.cells #[.string ⟨#[]⟩,.int .i64 0,.int .i64 0,.int .i64 0] 62)).drew=wb10 at aO G aP aR ⊢;refine az 3 ?_;intro K hK
      go_wp2_with (go_at_call 73;refine (gQ _ n _ CG).mono ?_;rintro e ao ⟨⟨s,rfl,O⟩,H⟩)
      have ap:Hid (ag (fun k=>k=C) w2 ao):=G.out.trans (ag.of_below H)
      have br:=aa (aP.out.below H);have bt:=aa (aO.out.only (C:=C) (ag.of_below H) CG)
      clear H;have bu:S ao:=(m.out _).2 ⟨ap.out.cell n0 (by show ¬ N=C;omega),j.out ao ap.out⟩
      refine hK _ _ (ak bu) ?_;clear hK K;refine az 13 ?_;intro K hK
      go_wp2_with (go_at_call 31;refine (iu C ca cc bs aI (L-1) _ br CG CG).mono ?_;rintro e au ⟨y1,R,bN,rfl,ab,aS,av⟩)
      have aw:Hid (ag (fun k=>k=C) w2 au):=ap.out.trans av
      have bv:=aa aS;have bw:=aa (bt.out.only av CG)
      clear aS av;have bx:S au:=(m.out _).2 ⟨aw.out.cell n0 (by show ¬ N=C;omega),j.out au aw.out⟩
      refine hK _ _ (ak bx) ?_;clear hK K
      (refine ae 14 ?_;intro K hK;go_big_quiet_op;go_big_quiet_on)
      refine az 16 ?_;intro K hK
      go_wp2_with (go_at_call 32;refine (aJ C ca cc bs R 2 _ bv CG CG).mono ?_;rintro e ay ⟨y2,l,bc,rfl,F,aT,aA⟩)
      have aB:Hid (ag (fun k=>k=C) w2 ay):=aw.out.trans aA
      have bz:=aa aT;have aV:=aa (bw.out.only aA CG)
      have ad:y2<2:=CG
      clear aT aA;have bA:S ay:=(m.out _).2 ⟨aB.out.cell n0 (by show ¬ N=C;omega),j.out ay aB.out⟩
      refine hK _ _ (ak bA) ?_;clear hK K
      (refine ae 17 ?_;intro K hK;go_big_quiet_op;go_big_quiet_on);(refine ae 18 ?_;intro K hK;go_big_quiet_op;go_big_quiet_on);(refine ae 19 ?_;intro K hK;go_big_quiet_op;go_big_quiet_on)
      refine a9 ?_;simp only [List.drop_succ_cons,List.drop_zero];obtain ⟨d0,d1,d2,d3,dz⟩:=aV.out;have bg:=dz 0;have bh:=dz 1;have a0:=dz 2;have bi:=dz 3;clear dz r0 r1 hne M;have a1:C<w2.heap.size:=CG
      go_wp2_with fail
      go_meet
      refine ⟨w2.heap.size,s,1+(y1:Int),1-2*(y2:Int),l,rfl,O,c,CG,?_,?_,?_⟩
      ·refine ⟨?_,?_,?_,?_,fun o=>?_⟩
       ·rw [World.cell?_setCell_other _ _ _ _ CI,World.cell?_setCell_other _ _ _ _ CI,World.cell?_setCell_other _ _ _ _ CI]
        exact World.cell?_setCell_same _ _ _ d0
       ·rw [World.cell?_setCell_other _ _ _ _ CI,World.cell?_setCell_other _ _ _ _ CI]
        exact World.cell?_setCell_same _ _ _ (by rw [World.cell?_setCell_other _ _ _ _ CI];exact d1)
       ·rw [World.cell?_setCell_other _ _ _ _ CI]
        exact World.cell?_setCell_same _ _ _ (by rw [World.cell?_setCell_other _ _ _ _ CI,World.cell?_setCell_other _ _ _ _ CI];exact d2)
       ·exact World.cell?_setCell_same _ _ _ (by rw [World.cell?_setCell_other _ _ _ _ CI,World.cell?_setCell_other _ _ _ _ CI,World.cell?_setCell_other _ _ _ _ CI];exact d3)
       ·rw [World.frozen?_setCell,World.frozen?_setCell,World.frozen?_setCell,World.frozen?_setCell];exact aV.out.z o
      ·exact bz.out.above hlow.out (fun k hk=>(Below.heap_setCell _ _ _ _ (show k≠w2.heap.size by omega)).trans ((Below.heap_setCell _ _ _ _ (show k≠w2.heap.size by omega)).trans ((Below.heap_setCell _ _ _ _ (show k≠w2.heap.size by omega)).trans (Below.heap_setCell _ _ _ _ (show k≠w2.heap.size by omega)))))
      ·exact (((((aB.out).setCell (p:=⟨w2.heap.size,0,none⟩) (Or.inr c) _).setCell (p:=⟨w2.heap.size,1,none⟩) (Or.inr c) _).setCell (p:=⟨w2.heap.size,2,none⟩) (Or.inr c) _).setCell (p:=⟨w2.heap.size,3,none⟩) (Or.inr c) _)
    case rest =>
     obtain ⟨T,s,a,wy,R,rfl,O,hT,ab,b2,aZ,ac⟩:=hcut;have a1:C<T:=CG
     have cI:=aE;clear n0 j1 aE Y
     go_wp2_with fail
     refine (aJ C ca cc bs R 3 wc aZ CG CG).mono ?_
     rintro e w4 ⟨y,l,hy,rfl,F,b3,bB⟩;have ah:=aa b3;have r:=aa (ac.out.trans bB);have A:=aa (b2.out.only bB CG)
     have n0:=(Z.out.trans r.out).cell N0 (by show ¬ N=C;omega)
     have j1:=j.out w4 r.out;have aE:=ai j1;dsimp only at aE;clear b3 bB aZ ac b2 hy;have cJ:=r.out.size
     go_upto_if 50 with fail
     go_cut [] (fun wx => ∃ a',Hid (iO wx T s p a' wy)/\Hid (Cur wx C ca cc bs l)/\Hid (ag (fun k=>k=C) w2 wx))
     case first =>
      obtain ⟨d0,d1,d2,d3,dz⟩:=A.out;have a0:=dz 2;have b4:Hid (∀ (u:World) (a':Int),iO (u.setCell ⟨T,2,none⟩ (.int .i64 a')) T s p a' wy->Cur u C ca cc bs l->ag (fun k=>k=C) w2 u->∃ b,Hid (iO (u.setCell ⟨T,2,none⟩ (.int .i64 a')) T s p b wy)/\Hid (Cur (u.setCell ⟨T,2,none⟩ (.int .i64 a')) C ca cc bs l)/\Hid (ag (fun k=>k=C) w2 (u.setCell ⟨T,2,none⟩ (.int .i64 a')))):=fun u a' h1 h2 h3=>⟨a',h1,h2.above hlow.out (fun k hk=>Below.heap_setCell _ _ _ _ (show k≠T by omega)),h3.setCell (p:=⟨T,2,none⟩) (Or.inr hT) _⟩
      clear dz
      by_cases ct:y=0
      ·subst ct
       by_cases a6:wy=1
       ·have cu:(wy==1)=true:=by simp [a6]
        have cK:bp≠T:=CG
        have cL:N≠T:=CG
        clear a6
        go_wp2_with fail
        go_meet
        exact b4.out _ _ ((A.out.set 1).set _) (ah.out.above hlow.out (fun k hk=>Below.heap_setCell _ _ _ _ (show k≠T by omega))) (r.out.setCell (p:=⟨T,2,none⟩) (Or.inr hT) _)
       ·have cu:(wy==1)=false:=by simp [a6]
        clear a6
        go_wp2_with fail
        go_meet
        exact b4.out _ _ (A.out.set _) ah.out r.out
      ·have cM:((y:Int)==0)=false:=CN
       go_wp2_with fail
       go_meet
       exact ⟨a,A,ah,r⟩
     case rest =>
      obtain ⟨a',aX,a2,U⟩:=hcut;obtain ⟨d0,d1,d2,d3,_⟩:=aX.out;have bC:Hid (wc.ownsRow W.heap.size 62 4 (.slice xo n yo) n (bd ss)):=ax B.out (fun b hb=>U.out.block b (bL.out b hb).2 (by have:=(bL.out b hb).1;omega))
      have cv:=ai d0;dsimp only at cv;have D:=aa (Z.out.trans U.out);have cN:=D.out.size;clear A ah r n0 j1 aE B Z j aX U
      go_wp2_with (at_builtin;refine aU (Wp:=wc) rfl (.tmp 63) (.tmp 65) 27 rfl W.heap.size 62 _ 4 40 underlying27 Tryz.infoSignal rfl CJ (.slice xo n yo) n (bd ss) rfl bC.out wc.heap.size rfl [.string s,.int .i64 (p:Int),.int .i64 a',.int .i64 wy] rfl rfl CL CK CG CG ?_;intro x8 y8 w8 aj aC;rw [eK _ ⟨s,p,a',wy⟩] at aj;have al:=aa aj;have a4:Hid (Cur w8 C ca cc bs l):=a2.out.above hlow.out (fun k hk=>aC.block k CG (fun e=>(by have:=(bC.out.lt k e.symm).1;omega)));have b5:Hid (ag (fun k=>k=C) W w8):=⟨aC.os.trans D.out.os,aC.tape.trans D.out.tape,aC.output.trans D.out.output,Nat.le_trans D.out.size aC.size,fun k hk hn=>(aC.block k CG (fun e=>(by have:=(bC.out.lt k e.symm).1;omega))).trans (D.out.block k hk hn)⟩;clear aj aC)
      have bD:(ss++[(⟨s,p,a',wy⟩:af)]).length=n+1:=by simp [I]
      have b6:Hid (ar w8 x8 (ss++[⟨s,p,a',wy⟩])):=by
       refine jW (N:=W.heap.size) (y:=y8) (by rw [bD];exact al.out) (fun q hq=>?_)
       rcases List.mem_append.1 hq with hq | hq
       ·exact aD.out q hq
       ·have:q=⟨s,p,a',wy⟩:=by simpa using hq
        rw [this];exact O
      refine (sC x8 y8 _ n (n+1) bD CG w8 b6).mono ?_
      rintro e w9 ⟨bb,rfl,a7⟩;have V:=aa (aq al.out a7);have a5:=aa (a4.out.below a7);have b7:=aa (b5.out.trans (ag.of_below a7));have cw:Hid (∀ q ∈ ss++[(⟨s,p,a',wy⟩:af)],q.name.size<=1000002):=fun q hq=>by
       rcases List.mem_append.1 hq with hq | hq
       ·exact aD.out q hq
       ·have:q=⟨s,p,a',wy⟩:=by simpa using hq
        rw [this];exact O
      clear a7 al a4 b5 b6 d0 d1 d2 d3;obtain ⟨g,hg⟩:∃ g,x8=some ⟨g,0,none⟩:=by
       rcases V.out.2 with ⟨_,h2⟩ | ⟨g,cx,cy,h1,_⟩
       ·omega
       ·injection h1 with h1 _ _;exact ⟨g,h1⟩
      subst hg;have cO:n+1<=y8:=by
       rcases V.out.2 with ⟨h1,_⟩ | ⟨g,cx,cy,h1,_,_,h4,_⟩
       ·cases h1
       ·cases h1;exact h4
      cases bb
      ·have aM:Hid (Sg W w9 C ca cc bs (at_+90) k (n+1) (.slice (some ⟨g,0,none⟩) (n+1) y8)):=⟨ss++[⟨s,p,a',wy⟩],l,bD,V.out,cw.out,a5.out,CG,CG,b7.out⟩
       go_wp2_with fail
       go_roundw
       case rel=>exact ⟨k,n+1,_,_,rfl,by go_num,aM⟩
       case measure=>simp [intOf]
      ·have aM:Hid (Sg W w9 C ca cc bs (at_+90) k n (.slice (some ⟨g,0,none⟩) n y8)):=⟨ss,l,I,(by have h:=oH V.out;rw [<-I,vq] at h;rw [<-I];exact h),aD.out,a5.out,CG,CG,b7.out⟩
       go_wp2_with fail
       exact ⟨⟨k,n,_,_,rfl,rfl,aM⟩,by simp [intOf]⟩
end Go.Proofs.YtmkdgnmmebldgaaGreatDoor
