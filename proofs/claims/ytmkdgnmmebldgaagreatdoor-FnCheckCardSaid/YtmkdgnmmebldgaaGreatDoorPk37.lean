import Derived.Test.YtmkdgnmmebldgaaGreatDoorPk36
set_option maxRecDepth 100000
set_option maxHeartbeats 8000000
open Go.Proofs.Tryz
namespace Go.Proofs.YtmkdgnmmebldgaaGreatDoor
open Go.RowKit Go.Deep
variable {N:Nat}{js:List MJ}{ps:List af}{w:World}
theorem tQ (C:Nat)(w:World):
  Calls prog 108 #[.pointer (some ⟨C,0,none⟩)] w fun e w'=>e = .returned (.pointer (some ⟨w.heap.size,0,none⟩))/\w'.cell? ⟨w.heap.size,0,none⟩=some (.pointer (some ⟨C,0,none⟩))/\IsT w' 257 w.heap.size/\Cx w w':=by
 go_enter func108,ntmps108
 go_wp2_with fail
 go_ret
 refine ⟨rfl,CO,⟨_,heap_alloc_new _ _⟩,blo⟩
structure Mk (w0 w:World)(D C N:Nat)(ca:Option Addr)(cc:Nat)(bs:List Int)(at_:Nat)(xp:Option Addr)(yp:Nat)(xj:Option Addr)(yj:Nat)(ps:List af)(js:List MJ):Prop where
 net:dv w C N xp yp xj yj ps js
 cur:Cur w C ca cc bs at_
 low:eQ C ca bs
 d0:w.cell? ⟨D,0,none⟩=some (.pointer (some ⟨C,0,none⟩))
 dC:C<D
 dN:D≠N
 dT:IsT w 257 D
 base:ag (fun k=>k=C\/N<=k) w0 w
section
variable {w0 w w':World} {D C N:Nat} {ca:Option Addr} {cc:Nat} {bs:List Int} {at_:Nat} {xp xj:Option Addr} {yp yj:Nat} {ps:List af} {js:List MJ}
theorem Mk.below (h:Mk w0 w D C N ca cc bs at_ xp yp xj yj ps js)(hb:Cx w w'):Mk w0 w' D C N ca cc bs at_ xp yp xj yj ps js:=
 ⟨h.net.below hb,h.cur.below hb,h.low,cell_later hb h.d0,h.dC,h.dN,h.dT.kept (hb.block D (ai h.d0)),h.base.trans (ag.of_below hb)⟩
theorem Mk.turn {at':Nat}(h:Mk w0 w D C N ca cc bs at_ xp yp xj yj ps js)(hc:Cur w' C ca cc bs at')(ho:ag (fun k=>k=C) w w'):Mk w0 w' D C N ca cc bs at' xp yp xj yj ps js:=
 ⟨h.net.only ho,hc,h.low,ho.cell h.d0 (by have:=h.dC;show ¬ D=C;omega),h.dC,h.dN,h.dT.kept (ho.block D (ai h.d0) (by have:=h.dC;omega)),h.base.trans (ho.mono (fun k hk=>Or.inl hk))⟩
theorem Mk.pushJ (h:Mk w0 w D C N ca cc bs at_ xp yp xj yj ps js){x:MJ}{x':Option Addr}{y':Nat}(hg:w.grownBy w' (Value.slice xj js.length yj).ownBlock)(ho:w'.ownsRow (N+1) 109 3 (.slice x' (js.length+1) y') (js.length+1) (cq (js++[x])))(hx:x.2.2.name.size<=1000002)(hE:gR w N x):
  Mk w0 (w'.setCell ⟨N,1,none⟩ (.slice x' (js.length+1) y')) D C N ca cc bs at_ xp yp x' y' ps (js++[x]):=by
 have b:∀ k,k<=N->(Value.slice xj js.length yj).ownBlock≠some k:=fun k hk e=>by have:=(h.net.oj.lt k e).1;omega
 have c:=h.net.cn;have hN:=h.net.lt;have a:∀ k,k<N->(w'.setCell ⟨N,1,none⟩ (.slice x' (js.length+1) y')).heap[k]? = w.heap[k]? := fun k hk=>(Below.heap_setCell _ _ _ _ (show k≠N by omega)).trans (hg.block k CG (fun e=>b k CG e.symm))
 have hD:(w'.setCell ⟨N,1,none⟩ (.slice x' (js.length+1) y')).heap[D]? = w.heap[D]? := (Below.heap_setCell _ _ _ _ h.dN).trans (hg.block D (ai h.d0) (fun e=>h.dT.ne h.net.oj CJ e.symm))
 exact ⟨h.net.pushJ hg ho hx hE,h.cur.above h.low (fun k hk=>a k CG),h.low,(World.cell?_of_block (w:=w) hD).trans h.d0,h.dC,h.dN,h.dT.kept hD,h.base.trans ⟨hg.os,hg.tape,hg.output,(by have:=hg.size;simpa using this),fun k _ hn=>a k (Nat.lt_of_not_le (fun h=>hn (Or.inr h)))⟩⟩
end
theorem Mk.CB {w0:World}{D C:Nat}{ca:Option Addr}{cc:Nat}{bs:List Int}{at_:Nat}{xp xj:Option Addr}{yp yj:Nat}(h:Mk w0 w D C N ca cc bs at_ xp yp xj yj ps js)(ha:at_<=800000000)(hl:ps.length<=1000):
  Calls prog 109 #[.pointer (some ⟨D,0,none⟩),.pointer (some ⟨N,0,none⟩)] w fun e w' => ∃ q:Nat,e = .returned (.int .i64 q)/\∃ xp' yp' at' ps',at'<=at_+2/\ps'.length=ps.length+1/\Mk w0 w' D C N ca cc bs at' xp' yp' xj yj ps' js:=
 (yS D C N ca cc bs at_ xp yp xj yj ps js w h.net h.cur h.low h.d0 ⟨h.dC,h.dN,h.dT⟩ ha hl).mono (fun _ _ ⟨he,xp',yp',p,at',h1,h2,h3,h4,h5,h6⟩=>⟨ps.length,he,xp',yp',at',ps++[p],h3,CI,h1,h2,h.low,h4,h.dC,h.dN,h5,h.base.trans h6⟩)
theorem dv.rowJ {w':World}{C:Nat}{xp xj:Option Addr}{yp yj:Nat}(h:dv w C N xp yp xj yj ps js)(hg:w.grownBy w' (Value.slice xj js.length yj).ownBlock):w'.cell? ⟨N,1,none⟩=some (.slice xj js.length yj)/\w'.frozen? ⟨N,1,none⟩=false:=by
 have hN:w'.heap[N]? = w.heap[N]? := hg.block N h.lt (fun e=>by have:=(h.oj.lt N e.symm).1;omega)
 exact ⟨(World.cell?_of_block (w:=w) hN).trans h.c1,(World.frozen?_of_block (w:=w) hN).trans (h.z 1)⟩
theorem jH {k:Int}{s:ByteArray}{es:List am}{g:Nat}{cur:Array Value}{c:Nat}(hN:N<g)(hg:w.heap[g]? = some (.cells cur 114 (0,0)))(hc:cur=(aG es).toArray)(hl:es.length<=4):gR w N (some ⟨g,0,none⟩,c,⟨k,s,es⟩):=by
 refine ⟨⟨by show es.length<=maxLen;unfold maxLen;omega,Or.inr ⟨g,0,rfl,oP (fun j u hu=>?_)⟩⟩,Or.inr (fun b off e=>?_),hl⟩
 ·rw [bH,Nat.zero_add,cell_of_row w g j cur 114 (0,0) hg,hc];simpa using hu
 ·cases e;exact ⟨hN,cur,hg⟩
theorem oD {x:Option Addr}{y:Nat}(h:w.ownsRow N 133 4 (.slice x ps.length y) ps.length (bd ps))(hn:∀ p ∈ ps,p.name.size<=1000002):ar w x ps:=by
 rcases h.2 with ⟨h1,h2⟩ | ⟨g,a,b,h1,h2,h3,h4,h5,_⟩
 ·have:ps=[]:=List.eq_nil_of_length_eq_zero h2;subst this;exact ⟨Nat.zero_le _,fun p hp=>(by cases hp),Or.inl rfl⟩
 ·cases h1;refine ⟨Nat.le_trans h4 h5,fun p hp=>by have:=hn p hp;unfold maxLen;omega,Or.inr ⟨g,0,rfl,fun i hi=>?_⟩⟩
  have hc:=h.cells (g:=g) rfl;have hg:∀ j,j<4->∀ u,(dY ps[i])[j]? = some u->w.cell? ⟨g,0+i*4+j,none⟩=some u:=by
   intro j hj u hu;have:=hc (i*4+j) u ((aZ dY 4 (fun _=>rfl) ps i j hi hj).trans hu)
   rw [bH] at this;have e:0+(i*4+j)=0+i*4+j:=CG
   rw [e] at this;exact this
  exact ⟨hg 0 CG _ rfl,hg 1 CG _ rfl,hg 2 CG _ rfl,hg 3 CG _ rfl⟩
theorem ot {B:Nat}{x:Option Addr}{y:Nat}(h:w.ownsRow N 109 3 (.slice x js.length y) js.length (cq js))(hn:∀ z ∈ js,z.2.2.name.size<=1000002)(he:∀ z ∈ js,gR w B z):aP w x (js.map (fun z=>z.2.2)):=by
 rcases h.2 with ⟨h1,h2⟩ | ⟨g,a,b,h1,h2,h3,h4,h5,_⟩
 ·have:js=[]:=List.eq_nil_of_length_eq_zero h2;subst this;exact ⟨Nat.zero_le _,fun p hp=>(by cases hp),Or.inl rfl⟩
 ·cases h1;refine ⟨by rw [List.length_map];exact Nat.le_trans h4 h5,fun p hp=>?_,Or.inr ⟨g,0,rfl,fun i hi=>?_⟩⟩
  ·obtain ⟨z,hz,rfl⟩:=List.mem_map.1 hp;have:=hn z hz;unfold maxLen;omega
  ·rw [List.length_map] at hi;have hc:=h.cells (g:=g) rfl;have hg:∀ j,j<3->∀ u,(fD js[i])[j]? = some u->w.cell? ⟨g,0+i*3+j,none⟩=some u:=by
    intro j hj u hu;have:=hc (i*3+j) u ((aZ fD 3 (fun _=>rfl) js i j hi hj).trans hu)
    rw [bH] at this;have e:0+(i*3+j)=0+i*3+j:=CG
    rw [e] at this;exact this
   rw [List.getElem_map];exact ⟨hg 0 CG _ rfl,hg 1 CG _ rfl,_,_,hg 2 CG _ rfl,(he js[i] (List.getElem_mem hi)).1⟩
def Bu (B:Nat)(w':World)(xp xj:Option Addr)(ps:List af)(js:List aj):Prop := ∀ u:World,(∀ b,B<=b->b<w'.heap.size->u.heap[b]? = w'.heap[b]?)->ar u xp ps/\aP u xj js
def ni (C:Nat)(ca:Option Addr)(cc:Nat)(bs:List Int)(at_ k:Nat)(w:World)(e:Ending)(w':World):Prop:=
 ∃ xp yp xj yj ps js at',e = .returned (.agg #[.slice xp (ps:List af).length yp,.slice xj (js:List aj).length yj])/\Bu w.heap.size w' xp xj ps js/\(1<=ps.length/\ps.length<=100/\(∀ p ∈ ps,1<=p.len/\p.len<=400)/\js.length<=100/\∀ j ∈ js,j.ends.length<=4)/\Cur w' C ca cc bs at'/\at'<=at_+k/\ag (fun k=>k=C) w w'
def wZ (W wr:World)(D C N:Nat)(ca:Option Addr)(cc:Nat)(bs:List Int)(at_ k:Nat):Prop := ∃ xp yp xj yj ps js at',Mk W wr D C N ca cc bs at' xp yp xj yj ps js/\at'+6*k<=at_+22/\1<=ps.length/\ps.length+3*k<=10/\js.length+2*k<=7
theorem uU (C:Nat)(ca:Option Addr)(cc:Nat)(bs:List Int)(at_:Nat)(w:World)(hc:Hid (Cur w C ca cc bs at_))(hlow:Hid (eQ C ca bs))(ha:at_<=700000000):
  Calls prog 71 #[.pointer (some ⟨C,0,none⟩)] w (ni C ca cc bs at_ 40 w):=by
 have bq:=hc.out.lt
 go_enter func71,ntmps71
 go_wp2_with fail
 generalize hW:World.alloc (World.alloc w _) _=W;have aB:Cx w W:=by rw [<-hW];exact blo
 have aC:Hid (dv W C (w.heap.size+1) none 0 none 0 [] []):=by
  rw [<-hW];exact ⟨CG,CO,CO,fun o=>CO,World.ownsRow_nil _ _ _ _,World.ownsRow_nil _ _ _ _,fun x hx=>(by cases hx),fun x hx=>(by cases hx),fun x hx=>(by cases hx)⟩
 have R0:W.cell? ⟨w.heap.size,0,none⟩=some (.slice none 0 0):=by rw [<-hW];simp [go_sem]
 have R1:W.cell? ⟨w.heap.size,1,none⟩=some (.slice none 0 0):=by rw [<-hW];simp [go_sem]
 have aM:Hid (∀ o,W.frozen? ⟨w.heap.size,o,none⟩=false):=fun o=>by rw [<-hW];simp [go_sem]
 have bb:w.heap.size+1<W.heap.size:=by rw [<-hW];simp
 have ac:=aa aB;have br:=aB.size;clear hW aB;obtain ⟨N,hN⟩:∃ N,w.heap.size+1=N:=⟨_,rfl⟩;obtain ⟨R,hR⟩:∃ R,w.heap.size=R:=⟨_,rfl⟩;rw [hN] at aC bb ⊢;rw [hR] at R0 R1 aM ⊢;have bt:R<N:=CG
 have bu:C<R:=CG
 have bc:Hid (w.heap.size<=R):=by unfold Hid;omega
 clear hN hR;refine (tQ C W).mono ?_;rintro e w1 ⟨rfl,d1,t1,ap⟩;obtain ⟨D,hD⟩:∃ D,W.heap.size=D:=⟨_,rfl⟩;have aq:Hid (Mk W w1 W.heap.size C N ca cc bs at_ none 0 none 0 [] []):=⟨aC.out.below ap,(hc.out.below ac.out).below ap,hlow.out,d1,CG,CG,t1,ag.of_below ap⟩
 rw [hD] at aq ⊢;clear d1 t1 ap aC hD
 go_wp2_with fail
 refine (aJ C ca cc bs at_ 3 w1 aq.out.cur CG CG).mono ?_
 rintro e w2 ⟨x,bv,hx,rfl,bd,aN,aO⟩;have aP:=aa (aq.out.turn aN aO);clear aN aO aq;have bw:x<3:=CG
 clear hx
 go_wp2_with fail
 refine (aP.out.CB CG CI).mono ?_
 rintro e w3 ⟨q,rfl,xp,yp,aR,ps,aD,aS,aT⟩;rw [List.length_nil] at aS;have r:∃ (xj:Option Addr) (yj:Nat) (js:List MJ),js.length<=0/\Mk W w3 D C N ca cc bs aR xp yp xj yj ps js:=⟨none,0,[],CI,aT⟩
 obtain ⟨xj,yj,js,ar,r⟩:=r;have au:=aa r;have n1:=r.net.c1;have be:=r.net.lt;clear aT r aP
 go_wp2_with (at_builtin;refine aU (Wp:=w3.alloc (.cells #[.int .i64 (q:Int),.int .i64 0] 114)) rfl (.tmp 18) (.tmp 23) 24 rfl (N+1) 109 _ 3 48 underlying24 Tryz.infoJoint rfl CJ (.slice xj js.length yj) js.length (cq js) rfl (au.out.net.oj.alloc _) (w3.heap.size+1) CI [.int .i64 1,.string ⟨#[]⟩,.slice (some ⟨w3.heap.size,0,none⟩) 1 1] rfl rfl CL CK CG CN ?_;intro av aw w4 aV aE;obtain ⟨m1,m2⟩:=(au.out.net.below CU).rowJ aE)
 have aW:Hid (Mk W (w4.setCell ⟨N,1,none⟩ (.slice av (js.length+1) aw)) D C N ca cc bs aR xp yp av aw ps (js++[(some ⟨w3.heap.size,0,none⟩,1,⟨1,⟨#[]⟩,[⟨q,0⟩]⟩)])):=
  (au.out.below CU).pushJ aE (by rw [<-fw];exact aV) (Nat.zero_le _) (jH CG (heap_alloc_new _ _) rfl (by show 1<=4;omega))
 have aF:Hid (wZ W (w4.setCell ⟨N,1,none⟩ (.slice av (js.length+1) aw)) D C N ca cc bs at_ (1+x)):=⟨_,_,_,_,_,_,_,aW.out,CG,CG,CG,CN⟩
 generalize w4.setCell ⟨N,1,none⟩ (.slice av (js.length+1) aw)=w5 at aF ⊢;clear aW au aE aV m1 m2 n1 be ar aS aD
 go_loopw [5,6] (fun kk pp wr => ∃ (k q:Nat),kk = .int .i64 k/\pp = .int .i64 q/\k<=3/\Hid (wZ W wr D C N ca cc bs at_ k)) (fun kk _ _=>(intOf kk).toNat)
 case atStart=>exact ⟨1+x,q,by go_num,rfl,CG,aF⟩
 case round =>
  clear aF;obtain ⟨k,q,rfl,rfl,bx,HI⟩:=hrel;cases k with
  | zero =>
   obtain ⟨xp,yp,xj,yj,ps,js,aG,I,aH,aI,aK,ar⟩:=HI.out;have HM:=aa I;have n0:=I.net.c0;have n1:=I.net.c1;have U:=I.net.lt;have ax:wr.heap[R]? = W.heap[R]? := I.base.block R CG CG
   have q0:=(World.cell?_of_block (w:=W) (a:=⟨R,0,none⟩) ax).trans R0;have q1:=(World.cell?_of_block (w:=W) (a:=⟨R,1,none⟩) ax).trans R1;have aX:Hid (∀ o,wr.frozen? ⟨R,o,none⟩=false):=fun o=>(World.frozen?_of_block (w:=W) (a:=⟨R,o,none⟩) ax).trans (aM.out o)
   have bz:=I.base.size;clear I HI ax R0 R1;have bA:N≠R:=CG
   go_wp2_with (at_builtin;refine aU (Wp:=wr.alloc (.cells #[.int .i64 (q:Int),.int .i64 1] 114)) rfl (.tmp 76) (.tmp 81) 24 rfl (N+1) 109 _ 3 48 underlying24 Tryz.infoJoint rfl CJ (.slice xj js.length yj) js.length (cq js) rfl (HM.out.net.oj.alloc _) (wr.heap.size+1) CI [.int .i64 1,.string ⟨#[]⟩,.slice (some ⟨wr.heap.size,0,none⟩) 1 1] rfl rfl CL CK CG CN ?_;intro f i w8 V E;obtain ⟨m1,m2⟩:=(HM.out.net.below CU).rowJ E;have bf:w8.heap[N]? = wr.heap[N]? := ((E.block N CN (fun e=>(by have:=(HM.out.net.oj.lt N e.symm).1;omega))).trans (Below.heap_alloc _ _ _ U));have ay:w8.heap[R]? = wr.heap[R]? := ((E.block R CN (fun e=>(by have:=(HM.out.net.oj.lt R e.symm).1;omega))).trans (Below.heap_alloc _ _ _ CG));have m0:=(World.cell?_of_block (w:=wr) (a:=⟨N,0,none⟩) bf).trans n0;have s0:=(World.cell?_of_block (w:=wr) (a:=⟨R,0,none⟩) ay).trans q0;have s1:=(World.cell?_of_block (w:=wr) (a:=⟨R,1,none⟩) ay).trans q1;have u0:=(World.frozen?_of_block (w:=wr) (a:=⟨R,0,none⟩) ay).trans (aX.out 0);have u1:=(World.frozen?_of_block (w:=wr) (a:=⟨R,1,none⟩) ay).trans (aX.out 1))
   have F:Hid (Mk W (w8.setCell ⟨N,1,none⟩ (.slice f (js.length+1) i)) D C N ca cc bs aG xp yp f i ps (js++[(some ⟨wr.heap.size,0,none⟩,1,⟨1,⟨#[]⟩,[⟨q,1⟩]⟩)])):=
    (HM.out.below CU).pushJ E (by rw [<-fw];exact V) (Nat.zero_le _) (jH CG (heap_alloc_new _ _) rfl (by show 1<=4;omega))
   have aY:(w8.setCell ⟨N,1,none⟩ (.slice f (js.length+1) i)).cell? ⟨R,0,none⟩=some (.slice none 0 0):=by rw [World.cell?_setCell_other _ _ _ _ CI];exact s0
   have aZ:(w8.setCell ⟨N,1,none⟩ (.slice f (js.length+1) i)).cell? ⟨R,1,none⟩=some (.slice none 0 0):=by rw [World.cell?_setCell_other _ _ _ _ CI];exact s1
   generalize w8.setCell ⟨N,1,none⟩ (.slice f (js.length+1) i)=wn at F aY aZ ⊢;refine bodyPost_ret (v:=.agg #[.slice xp ps.length yp,.slice f (js.length+1) i]) (by simp [results,results71,go_sem,aY,aZ]) rfl ?_
   have hk:∀ b,b≠R->((wn.setCell ⟨R,0,none⟩ (.slice xp ps.length yp)).setCell ⟨R,1,none⟩ (.slice f (js.length+1) i)).heap[b]? = wn.heap[b]? := fun b hb=>(Below.heap_setCell _ _ _ _ hb).trans (Below.heap_setCell _ _ _ _ hb)
   have X:=F.out.net.kept (w':=(wn.setCell ⟨R,0,none⟩ (.slice xp ps.length yp)).setCell ⟨R,1,none⟩ (.slice f (js.length+1) i)) (fun b h1 _=>hk b CG)
   have hw:=bc.out;refine ⟨xp,yp,f,i,ps,(js++([(some ⟨wr.heap.size,0,none⟩,1,⟨1,⟨#[]⟩,[⟨q,1⟩]⟩)]:List MJ)).map (fun z:MJ=>z.2.2),aG,CI,fun u hu=>(by have h:=X.kept (w':=u) (fun b h1 hz=>hu b CG hz);exact ⟨oD h.op (fun p hp=>(h.pn p hp).1),ot h.oj h.jn h.je⟩),⟨CG,CG,fun p hp=>(X.pn p hp).2,CN,fun j hj=>by obtain ⟨z,hz,rfl⟩:=List.mem_map.1 hj;exact (X.je z hz).2.2⟩,F.out.cur.above hlow.out (fun k bB=>hk k CG),CG,?_⟩
   have h1:ag (fun k=>k=C) w wn:=⟨F.out.base.os.trans ac.out.os,F.out.base.tape.trans ac.out.tape,F.out.base.output.trans ac.out.output,Nat.le_trans ac.out.size F.out.base.size,fun k a0 bC=>(F.out.base.block k CG CG).trans (ac.out.block k a0)⟩
   exact (h1.setCell (p:=⟨R,0,none⟩) (Or.inr hw) _).setCell (p:=⟨R,1,none⟩) (Or.inr hw) _
  | succ k =>
   obtain ⟨bD,bE,xj,yj,bF,js,aG,I,aH,aI,aK,ar⟩:=HI.out;have a1:=aa I;clear I HI;have a0:(0:Int)<((k+1:Nat):Int):=CG
   go_wp2_with fail
   refine (a1.out.CB CG CG).mono ?_
   rintro e bG ⟨qa,rfl,bH,bI,bJ,bK,bg,bh,a2⟩;have a3:=aa a2;clear a2 a1
   go_wp2_with fail
   refine (a3.out.CB CG CG).mono ?_
   rintro e bL ⟨qb,rfl,bM,bN,bi,bO,a4,bj,a5⟩;have a6:=aa a5;clear a5 a3
   go_wp2_with fail
   refine (a6.out.CB CG CG).mono ?_
   rintro e wk ⟨qc,rfl,xp,yp,ah,ps,bk,bP,a7⟩;have J:=aa a7;clear a7 a6;have a8:js.length<=20:=CG
   go_wp2_with fail
   have n1:=J.out.net.c1;have U:=J.out.net.lt;have Y:Hid (∀ (c:Value) (u:World),Calls prog 73 #[c,.int .i64 (100+(js.length:Int))] u fun e w'=>(∃ s:ByteArray,e = .returned (.string s)/\s.size<=1000002)/\Cx u w'):=fun c u=>by
    have h:=gQ c (100+js.length) u CG
    rw [Int.natCast_add] at h;exact h
   go_cut [] (fun wx => ∃ ad af T,T.length=js.length+1/\Hid (Mk W wx D C N ca cc bs ah xp yp ad af ps T))
   case first =>
    obtain ⟨S,hS⟩:∃ S:World->Prop,∀ u,S u↔u.cell? ⟨N,1,none⟩=some (.slice xj js.length yj):=⟨_,fun _=>Iff.rfl⟩
    have t:=aa hS;have r0:∀ u:an S,World.cell? u.val ⟨N,1,none⟩=some (.slice xj js.length yj):=fun u=>(hS u.val).1 u.2
    have L:S wk.drew:=(hS _).2 n1;have hne:=aQ L;clear hS;refine bW 17 L ?_
    (refine ae 0 ?_;intro K hK;go_big_quiet_op;go_big_quiet_on);(refine ae 1 ?_;intro K hK;go_big_quiet_op;go_big_quiet_on);(refine ae 2 ?_;intro K hK;go_big_quiet_op;go_big_quiet_on);(refine ae 3 ?_;intro K hK;go_big_quiet_op;go_big_quiet_on);(refine ae 4 ?_;intro K hK;go_big_quiet_op;go_big_quiet_on);(refine ae 5 ?_;intro K hK;go_big_quiet_op;go_big_quiet_on);(refine ae 6 ?_;intro K hK;go_big_quiet_op;go_big_quiet_on)
    (refine ae 8 ?_;intro K hK;go_big_quiet_op;go_big_quiet_on);(refine ae 9 ?_;intro K hK;go_big_quiet_op;go_big_quiet_on);(refine ae 10 ?_;intro K hK;go_big_quiet_op;go_big_quiet_on);(refine ae 11 ?_;intro K hK;go_big_quiet_op;go_big_quiet_on);(refine ae 12 ?_;intro K hK;go_big_quiet_op;go_big_quiet_on);(refine ae 13 ?_;intro K hK;go_big_quiet_op;go_big_quiet_on)
    refine fh 7 14 (by rfl) (by rfl) CH CH CH ?za0 ?zb0
    case' za0 =>
     intro K hK
     go_wp2_with (go_at_call 73;refine (Y.out _ _).mono ?_;rintro e w6 ⟨⟨s,rfl,ai⟩,G⟩)
     have d:Cx wk w6:=CV.drew.trans G;have bl:=d.size;have y:S w6:=(t.out _).2 (cell_later d n1);refine hK _ _ (ak y) ?_;clear hK K G;refine az 14 ?_;intro K hK
     go_wp2_with fail
     have l:Cx wk (World.alloc w6 (.cells #[.int .i64 (q:Int),.int .i64 1,.int .i64 (qa:Int),.int .i64 0,.int .i64 (qb:Int),.int .i64 0] 114)):=d.alloc CG _
     have A:(World.alloc w6 (.cells #[.int .i64 (q:Int),.int .i64 1,.int .i64 (qa:Int),.int .i64 0,.int .i64 (qb:Int),.int .i64 0] 114)).heap[w6.heap.size]? = some (.cells #[.int .i64 (q:Int),.int .i64 1,.int .i64 (qa:Int),.int .i64 0,.int .i64 (qb:Int),.int .i64 0] 114 (0,0)):=heap_alloc_new _ _;have B:S (World.alloc w6 (.cells #[.int .i64 (q:Int),.int .i64 1,.int .i64 (qa:Int),.int .i64 0,.int .i64 (qb:Int),.int .i64 0] 114)):=(t.out _).2 (cell_later l n1);have M:N<w6.heap.size:=CG
     refine hK _ _ (ak B) ?_;clear hK K d y L n1;generalize World.alloc w6 (.cells #[.int .i64 (q:Int),.int .i64 1,.int .i64 (qa:Int),.int .i64 0,.int .i64 (qb:Int),.int .i64 0] 114)=w7 at l A B ⊢;generalize w6.heap.size=g at A M ⊢
    case' zb0 =>
     intro K hK
     go_wp2_with fail
     have d:Cx wk (World.alloc wk (.cells #[.int .i64 (q:Int),.int .i64 1,.int .i64 (qa:Int),.int .i64 0,.int .i64 (qb:Int),.int .i64 0] 114)).drew:=CU.drew;have Z:(World.alloc wk (.cells #[.int .i64 (q:Int),.int .i64 1,.int .i64 (qa:Int),.int .i64 0,.int .i64 (qb:Int),.int .i64 0] 114)).drew.heap[wk.heap.size]? = some (.cells #[.int .i64 (q:Int),.int .i64 1,.int .i64 (qa:Int),.int .i64 0,.int .i64 (qb:Int),.int .i64 0] 114 (0,0)):=heap_alloc_new wk _;have y:S (World.alloc wk (.cells #[.int .i64 (q:Int),.int .i64 1,.int .i64 (qa:Int),.int .i64 0,.int .i64 (qb:Int),.int .i64 0] 114)).drew:=(t.out _).2 (cell_later d n1);have M:N<wk.heap.size:=U;have aj:wk.heap.size<(World.alloc wk (.cells #[.int .i64 (q:Int),.int .i64 1,.int .i64 (qa:Int),.int .i64 0,.int .i64 (qb:Int),.int .i64 0] 114)).drew.heap.size:=CI
     refine hK _ _ (ak y) ?_;clear hK K;generalize (World.alloc wk (.cells #[.int .i64 (q:Int),.int .i64 1,.int .i64 (qa:Int),.int .i64 0,.int .i64 (qb:Int),.int .i64 0] 114)).drew=w6 at d Z y aj ⊢;refine az 7 ?_;intro K hK
     go_wp2_with (go_at_call 73;refine (Y.out _ _).mono ?_;rintro e w7 ⟨⟨s,rfl,ai⟩,m⟩)
     have l:Cx wk w7:=d.trans (m.mono d.size);have A:=(m.block _ aj).trans Z;have B:S w7:=(t.out _).2 (cell_later l n1);refine hK _ _ (ak B) ?_;clear hK K d m Z y L n1;obtain ⟨g,al⟩:∃ g,wk.heap.size=g:=⟨_,rfl⟩;have bm:Hid (wk.heap.size<=g):=by unfold Hid;omega
     rw [al] at A M ⊢;clear al
    all_goals
     have am:Hid (gR w7 N (some ⟨g,0,none⟩,3,⟨3,s,[⟨(q:Int),1⟩,⟨(qa:Int),0⟩,⟨(qb:Int),0⟩]⟩)):=jH M A rfl (by show 3<=4;omega)
     have O:=aa (J.out.below l);have bn:=l.size;clear A l
     (refine ae 15 ?_;intro K hK;go_big_quiet_op;go_big_quiet_on)
     refine az 16 ?_;intro K hK
     go_wp2_with fail
     have ao:∀ o,S (World.alloc w7 o):=fun o=>(t.out _).2 (cell_later ((Below.refl w7.heap.size w7).alloc CW o) ((t.out _).1 B))
     refine hK _ _ (ak (ao _)) ?_;clear hK K ao B;refine a9 ?_;simp only [List.drop_succ_cons,List.drop_zero];refine aU rfl (.tmp 37) (.tmp 52) 24 rfl (N+1) 109 _ 3 48 underlying24 Tryz.infoJoint rfl CJ (.slice xj js.length yj) js.length (cq js) rfl O.out.net.oj w7.heap.size rfl [.int .i64 3,.string s,.slice (some ⟨g,0,none⟩) 3 3] rfl rfl CL CK CG CG ?_
     intro f i w8 V E;obtain ⟨m1,m2⟩:=O.out.net.rowJ E;have F:Hid (Mk W (w8.setCell ⟨N,1,none⟩ (.slice f (js.length+1) i)) D C N ca cc bs ah xp yp f i ps (js++[(some ⟨g,0,none⟩,3,⟨3,s,[⟨(q:Int),1⟩,⟨(qa:Int),0⟩,⟨(qb:Int),0⟩]⟩)])):=
      O.out.pushJ E (by rw [<-fw];exact V) ai am.out
     clear E V am O
     go_wp2_with fail
     go_meet
     exact ⟨f,i,_,CI,F⟩
   case rest =>
    obtain ⟨ad,af,T,ab,H⟩:=hcut;clear J n1 Y U;have aA:∃ (xj:Option Addr) (yj:Nat) (n:List MJ) (wk:World),wk=wc/\n.length=js.length+1/\Mk W wk D C N ca cc bs ah xp yp xj yj ps n:=⟨ad,af,T,wc,rfl,ab,H.out⟩;clear H ab;obtain ⟨xj,yj,n,wk,ba,aL,aA⟩:=aA;have J:=aa aA;rw [<-ba];have bo:n.length+2*k<=6:=CG
    clear ba aA aL ar a8;have a8:n.length<=20:=CG
    go_wp2_with fail
    have n1:=J.out.net.c1;have U:=J.out.net.lt;have Y:Hid (∀ (c:Value) (u:World),Calls prog 73 #[c,.int .i64 (100+(n.length:Int))] u fun e w'=>(∃ s:ByteArray,e = .returned (.string s)/\s.size<=1000002)/\Cx u w'):=fun c u=>by
     have h:=gQ c (100+n.length) u CG
     rw [Int.natCast_add] at h;exact h
    go_cut [] (fun wx => ∃ ad af T,T.length=n.length+1/\Hid (Mk W wx D C N ca cc bs ah xp yp ad af ps T))
    case first =>
     obtain ⟨S,hS⟩:∃ S:World->Prop,∀ u,S u↔u.cell? ⟨N,1,none⟩=some (.slice xj n.length yj):=⟨_,fun _=>Iff.rfl⟩
     have t:=aa hS;have r0:∀ u:an S,World.cell? u.val ⟨N,1,none⟩=some (.slice xj n.length yj):=fun u=>(hS u.val).1 u.2
     have L:S wk.drew:=(hS _).2 n1;have hne:=aQ L;clear hS;refine bW 17 L ?_
     (refine ae 0 ?_;intro K hK;go_big_quiet_op;go_big_quiet_on);(refine ae 1 ?_;intro K hK;go_big_quiet_op;go_big_quiet_on);(refine ae 2 ?_;intro K hK;go_big_quiet_op;go_big_quiet_on);(refine ae 3 ?_;intro K hK;go_big_quiet_op;go_big_quiet_on);(refine ae 4 ?_;intro K hK;go_big_quiet_op;go_big_quiet_on);(refine ae 5 ?_;intro K hK;go_big_quiet_op;go_big_quiet_on);(refine ae 6 ?_;intro K hK;go_big_quiet_op;go_big_quiet_on)
     (refine ae 8 ?_;intro K hK;go_big_quiet_op;go_big_quiet_on);(refine ae 9 ?_;intro K hK;go_big_quiet_op;go_big_quiet_on);(refine ae 10 ?_;intro K hK;go_big_quiet_op;go_big_quiet_on);(refine ae 11 ?_;intro K hK;go_big_quiet_op;go_big_quiet_on);(refine ae 12 ?_;intro K hK;go_big_quiet_op;go_big_quiet_on);(refine ae 13 ?_;intro K hK;go_big_quiet_op;go_big_quiet_on)
     refine fh 7 14 (by rfl) (by rfl) CH CH CH ?za1 ?zb1
     case' za1 =>
      intro K hK
      go_wp2_with (go_at_call 73;refine (Y.out _ _).mono ?_;rintro e w6 ⟨⟨s,rfl,ai⟩,G⟩)
      have d:Cx wk w6:=CV.drew.trans G;have bl:=d.size;have y:S w6:=(t.out _).2 (cell_later d n1);refine hK _ _ (ak y) ?_;clear hK K G;refine az 14 ?_;intro K hK
      go_wp2_with fail
      have l:Cx wk (World.alloc w6 (.cells #[.int .i64 (qc:Int),.int .i64 0,.int .i64 (qa:Int),.int .i64 1,.int .i64 (qb:Int),.int .i64 1] 114)):=d.alloc CG _
      have A:(World.alloc w6 (.cells #[.int .i64 (qc:Int),.int .i64 0,.int .i64 (qa:Int),.int .i64 1,.int .i64 (qb:Int),.int .i64 1] 114)).heap[w6.heap.size]? = some (.cells #[.int .i64 (qc:Int),.int .i64 0,.int .i64 (qa:Int),.int .i64 1,.int .i64 (qb:Int),.int .i64 1] 114 (0,0)):=heap_alloc_new _ _;have B:S (World.alloc w6 (.cells #[.int .i64 (qc:Int),.int .i64 0,.int .i64 (qa:Int),.int .i64 1,.int .i64 (qb:Int),.int .i64 1] 114)):=(t.out _).2 (cell_later l n1);have M:N<w6.heap.size:=CG
      refine hK _ _ (ak B) ?_;clear hK K d y L n1;generalize World.alloc w6 (.cells #[.int .i64 (qc:Int),.int .i64 0,.int .i64 (qa:Int),.int .i64 1,.int .i64 (qb:Int),.int .i64 1] 114)=w7 at l A B ⊢;generalize w6.heap.size=g at A M ⊢
     case' zb1 =>
      intro K hK
      go_wp2_with fail
      have d:Cx wk (World.alloc wk (.cells #[.int .i64 (qc:Int),.int .i64 0,.int .i64 (qa:Int),.int .i64 1,.int .i64 (qb:Int),.int .i64 1] 114)).drew:=CU.drew;have Z:(World.alloc wk (.cells #[.int .i64 (qc:Int),.int .i64 0,.int .i64 (qa:Int),.int .i64 1,.int .i64 (qb:Int),.int .i64 1] 114)).drew.heap[wk.heap.size]? = some (.cells #[.int .i64 (qc:Int),.int .i64 0,.int .i64 (qa:Int),.int .i64 1,.int .i64 (qb:Int),.int .i64 1] 114 (0,0)):=heap_alloc_new wk _;have y:S (World.alloc wk (.cells #[.int .i64 (qc:Int),.int .i64 0,.int .i64 (qa:Int),.int .i64 1,.int .i64 (qb:Int),.int .i64 1] 114)).drew:=(t.out _).2 (cell_later d n1);have M:N<wk.heap.size:=U;have aj:wk.heap.size<(World.alloc wk (.cells #[.int .i64 (qc:Int),.int .i64 0,.int .i64 (qa:Int),.int .i64 1,.int .i64 (qb:Int),.int .i64 1] 114)).drew.heap.size:=CI
      refine hK _ _ (ak y) ?_;clear hK K;generalize (World.alloc wk (.cells #[.int .i64 (qc:Int),.int .i64 0,.int .i64 (qa:Int),.int .i64 1,.int .i64 (qb:Int),.int .i64 1] 114)).drew=w6 at d Z y aj ⊢;refine az 7 ?_;intro K hK
      go_wp2_with (go_at_call 73;refine (Y.out _ _).mono ?_;rintro e w7 ⟨⟨s,rfl,ai⟩,m⟩)
      have l:Cx wk w7:=d.trans (m.mono d.size);have A:=(m.block _ aj).trans Z;have B:S w7:=(t.out _).2 (cell_later l n1);refine hK _ _ (ak B) ?_;clear hK K d m Z y L n1;obtain ⟨g,al⟩:∃ g,wk.heap.size=g:=⟨_,rfl⟩;have bm:Hid (wk.heap.size<=g):=by unfold Hid;omega
      rw [al] at A M ⊢;clear al
     all_goals
      have am:Hid (gR w7 N (some ⟨g,0,none⟩,3,⟨3,s,[⟨(qc:Int),0⟩,⟨(qa:Int),1⟩,⟨(qb:Int),1⟩]⟩)):=jH M A rfl (by show 3<=4;omega)
      have O:=aa (J.out.below l);have bn:=l.size;clear A l
      (refine ae 15 ?_;intro K hK;go_big_quiet_op;go_big_quiet_on)
      refine az 16 ?_;intro K hK
      go_wp2_with fail
      have ao:∀ o,S (World.alloc w7 o):=fun o=>(t.out _).2 (cell_later ((Below.refl w7.heap.size w7).alloc CW o) ((t.out _).1 B))
      refine hK _ _ (ak (ao _)) ?_;clear hK K ao B;refine a9 ?_;simp only [List.drop_succ_cons,List.drop_zero];refine aU rfl (.tmp 56) (.tmp 71) 24 rfl (N+1) 109 _ 3 48 underlying24 Tryz.infoJoint rfl CJ (.slice xj n.length yj) n.length (cq n) rfl O.out.net.oj w7.heap.size rfl [.int .i64 3,.string s,.slice (some ⟨g,0,none⟩) 3 3] rfl rfl CL CK CG CG ?_
      intro f i w8 V E;obtain ⟨m1,m2⟩:=O.out.net.rowJ E;have F:Hid (Mk W (w8.setCell ⟨N,1,none⟩ (.slice f (n.length+1) i)) D C N ca cc bs ah xp yp f i ps (n++[(some ⟨g,0,none⟩,3,⟨3,s,[⟨(qc:Int),0⟩,⟨(qa:Int),1⟩,⟨(qb:Int),1⟩]⟩)])):=
       O.out.pushJ E (by rw [<-fw];exact V) ai am.out
      clear E V am O
      go_wp2_with fail
      go_meet
      exact ⟨f,i,_,CI,F⟩
    case rest =>
     obtain ⟨ad,af,T,ab,H⟩:=hcut;have bp:Hid (wZ W wc D C N ca cc bs at_ k):=⟨_,_,_,_,_,_,_,H.out,CG,CG,CG,CG⟩
     clear H J n1 Y U;have bQ:((k+1:Nat):Int)=(k:Int)+1:=CG
     have bR:(k:Int)<=3:=CG
     go_wp2_with fail
     go_roundw
     case rel=>exact ⟨k,qc,by go_num,rfl,CG,bp⟩
     case measure=>simp [intOf]
end Go.Proofs.YtmkdgnmmebldgaaGreatDoor
