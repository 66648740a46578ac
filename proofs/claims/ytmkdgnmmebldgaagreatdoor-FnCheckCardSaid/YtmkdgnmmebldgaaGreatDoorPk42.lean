import Derived.Test.YtmkdgnmmebldgaaGreatDoorPk40
import Derived.Laws.OwnMore
set_option maxRecDepth 100000
set_option maxHeartbeats 8000000
open Go.Proofs.Tryz
namespace Go.Proofs.YtmkdgnmmebldgaaGreatDoor
open Go.RowKit Go.Deep
variable {J N q ye:Nat}{es:List am}{js:List MJ}{kd:Int}{nm:ByteArray}{ps:List af}{w w' w2 wi:World}{xe:Option Addr}
def ct (x:MJ):Option Nat:=(Value.slice x.1 x.2.2.ends.length x.2.1).ownBlock
def fK (w:World)(N:Nat)(x:MJ):Prop:=w.ownsRow N 114 2 (.slice x.1 x.2.2.ends.length x.2.1) x.2.2.ends.length (aG x.2.2.ends)/\x.2.2.ends.length<=5
theorem fK.kept {x:MJ}(h:fK w N x)(hk:∀ b,N<=b->IsT w 114 b->w'.heap[b]? = w.heap[b]?):fK w' N x:=
 ⟨ax h.1 (fun b hb=>hk b (h.1.lt b hb).1 (pq h.1 hb)),h.2⟩
theorem fK.base {M:Nat}{x:MJ}(h:fK w N x)(hM:M<=N):fK w M x:=⟨aW h.1 hM,h.2⟩
structure bF (w:World)(C N B:Nat)(xp:Option Addr)(yp:Nat)(xj:Option Addr)(yj:Nat)(ps:List af)(js:List MJ):Prop where
 cn:C<N
 nb:N<B
 c0:w.cell? ⟨N,0,none⟩=some (.slice xp ps.length yp)
 c1:w.cell? ⟨N,1,none⟩=some (.slice xj js.length yj)
 z:∀ o,w.frozen? ⟨N,o,none⟩=false
 op:w.ownsRow B 133 4 (.slice xp ps.length yp) ps.length (bd ps)
 oj:w.ownsRow B 109 3 (.slice xj js.length yj) js.length (cq js)
 je:∀ x ∈ js,fK w B x
 ap:js.Pairwise (fun a b=>ct a=none\/ct a≠ct b)
 pn:∀ p ∈ ps,p.name.size<=maxLen
 jn:∀ x ∈ js,x.2.2.name.size<=maxLen
section
variable {w w':World} {C N B:Nat} {xp xj:Option Addr} {yp yj:Nat} {ps:List af} {js:List MJ}
theorem bF.lt (h:bF w C N B xp yp xj yj ps js):N<w.heap.size:=ai h.c0
theorem bF.kept (h:bF w C N B xp yp xj yj ps js)(hN:w'.heap[N]? = w.heap[N]?)(hk:∀ b,B<=b->b<w.heap.size->w'.heap[b]? = w.heap[b]?):bF w' C N B xp yp xj yj ps js:=by
 refine ⟨h.cn,h.nb,(World.cell?_of_block (w:=w) hN).trans h.c0,(World.cell?_of_block (w:=w) hN).trans h.c1,fun o=>?_,ax h.op (fun b hb=>hk b (h.op.lt b hb).1 (h.op.lt b hb).2),ax h.oj (fun b hb=>hk b (h.oj.lt b hb).1 (h.oj.lt b hb).2),fun x hx=>(h.je x hx).kept (fun b h1 h2=>hk b h1 h2.lt),h.ap,h.pn,h.jn⟩
 exact (World.frozen?_of_block (w:=w) hN).trans (h.z o)
theorem bF.below (h:bF w C N B xp yp xj yj ps js)(hb:Cx w w'):bF w' C N B xp yp xj yj ps js:=h.kept (hb.block N h.lt) (fun b _ hz=>hb.block b hz)
theorem bF.only (h:bF w C N B xp yp xj yj ps js)(hb:ag (fun k=>k=C) w w'):bF w' C N B xp yp xj yj ps js:=h.kept (hb.block N h.lt (by have:=h.cn;omega)) (fun b h1 hz=>hb.block b hz (by have:=h.cn;have:=h.nb;omega))
theorem bF.pushP (h:bF w C N B xp yp xj yj ps js){p:af}{x':Option Addr}{y':Nat}(hg:w.grownBy w' (Value.slice xp ps.length yp).ownBlock)(ho:w'.ownsRow B 133 4 (.slice x' (ps.length+1) y') (ps.length+1) (bd (ps++[p])))(hp:p.name.size<=maxLen):
  bF (w'.setCell ⟨N,0,none⟩ (.slice x' (ps.length+1) y')) C N B x' y' xj yj (ps++[p]) js:=by
 have hl:=h.lt;have hN:w'.heap[N]? = w.heap[N]? := hg.block N h.lt (fun e=>by have:=(h.op.lt N e.symm).1;have:=h.nb;omega)
 have el:(ps++[p]).length=ps.length+1:=CI
 have a:∀ b,N≠b->(w'.setCell ⟨N,0,none⟩ (.slice x' (ps.length+1) y')).heap[b]? = w'.heap[b]? := fun b hb=>Below.heap_setCell _ _ _ _ (fun e=>hb e.symm)
 refine ⟨h.cn,h.nb,?_,?_,fun o=>?_,?_,?_,fun x hx=>?_,h.ap,?_,h.jn⟩
 ·rw [el];exact World.cell?_setCell_same _ _ _ ((World.cell?_of_block (w:=w) hN).trans h.c0)
 ·rw [World.cell?_setCell_other _ _ _ _ CI]
  exact (World.cell?_of_block (w:=w) hN).trans h.c1
 ·rw [World.frozen?_setCell];exact (World.frozen?_of_block (w:=w) hN).trans (h.z o)
 ·rw [el];exact ownsRow_setCell_below ho h.nb _
 ·refine ownsRow_setCell_below (ax h.oj (fun b hb=>hg.block b (h.oj.lt b hb).2 (fun e=>?_))) h.nb _
  rcases aV (e:=109) (e':=133) CJ h.oj h.op with h1 | h1
  ·rw [h1] at hb;cases hb
  ·exact h1 (hb.trans e)
 ·refine (h.je x hx).kept (fun b h1 h2=>(a b (by have:=h.nb;omega)).trans (hg.block b h2.lt (fun e=>h2.ne h.op CJ e.symm)))
 ·intro q hq;rcases List.mem_append.1 hq with hq | hq
  ·exact h.pn q hq
  ·have:q=p:=by simpa using hq
   rw [this];exact hp
theorem bF.pushJ (h:bF w C N B xp yp xj yj ps js){x:MJ}{x':Option Addr}{y':Nat}(hg:w.grownBy w' (Value.slice xj js.length yj).ownBlock)(ho:w'.ownsRow B 109 3 (.slice x' (js.length+1) y') (js.length+1) (cq (js++[x])))(hx:x.2.2.name.size<=maxLen)(hE:fK w B x)(hap:∀ y ∈ js,ct y=none\/ct y≠ct x):
  bF (w'.setCell ⟨N,1,none⟩ (.slice x' (js.length+1) y')) C N B xp yp x' y' ps (js++[x]):=by
 have hl:=h.lt;have hN:w'.heap[N]? = w.heap[N]? := hg.block N h.lt (fun e=>by have:=(h.oj.lt N e.symm).1;have:=h.nb;omega)
 have el:(js++[x]).length=js.length+1:=CI
 have d:∀ b,N≠b->(w'.setCell ⟨N,1,none⟩ (.slice x' (js.length+1) y')).heap[b]? = w'.heap[b]? := fun b hb=>Below.heap_setCell _ _ _ _ (fun e=>hb e.symm)
 have c:∀ b,B<=b->IsT w 114 b->(w'.setCell ⟨N,1,none⟩ (.slice x' (js.length+1) y')).heap[b]? = w.heap[b]? := fun b h1 h2=>(d b (by have:=h.nb;omega)).trans (hg.block b h2.lt (fun e=>h2.ne h.oj CJ e.symm))
 refine ⟨h.cn,h.nb,?_,?_,fun o=>?_,?_,?_,fun z hz=>?_,?_,h.pn,?_⟩
 ·rw [World.cell?_setCell_other _ _ _ _ CI]
  exact (World.cell?_of_block (w:=w) hN).trans h.c0
 ·rw [el];exact World.cell?_setCell_same _ _ _ ((World.cell?_of_block (w:=w) hN).trans h.c1)
 ·rw [World.frozen?_setCell];exact (World.frozen?_of_block (w:=w) hN).trans (h.z o)
 ·refine ownsRow_setCell_below (ax h.op (fun b hb=>hg.block b (h.op.lt b hb).2 (fun e=>?_))) h.nb _
  rcases aV (e:=133) (e':=109) CJ h.op h.oj with h1 | h1
  ·rw [h1] at hb;cases hb
  ·exact h1 (hb.trans e)
 ·rw [el];exact ownsRow_setCell_below ho h.nb _
 ·rcases List.mem_append.1 hz with hz | hz
  ·exact (h.je z hz).kept c
  ·have:z=x:=by simpa using hz
   rw [this];exact hE.kept c
 ·exact List.pairwise_append.2 ⟨h.ap,List.pairwise_singleton _ _,fun a ha b hb=>by
   have:b=x:=by simpa using hb
   rw [this];exact hap a ha⟩
 ·intro q hq;rcases List.mem_append.1 hq with hq | hq
  ·exact h.jn q hq
  ·have:q=x:=by simpa using hq
   rw [this];exact hx
end
theorem bF.rowJ {C B:Nat}{xp xj:Option Addr}{yp yj:Nat}(h:bF w C N B xp yp xj yj ps js)(hg:w.grownBy w' (Value.slice xj js.length yj).ownBlock):w'.cell? ⟨N,1,none⟩=some (.slice xj js.length yj)/\w'.frozen? ⟨N,1,none⟩=false:=by
 have hN:w'.heap[N]? = w.heap[N]? := hg.block N h.lt (fun e=>by have:=(h.oj.lt N e.symm).1;have:=h.nb;omega)
 exact ⟨(World.cell?_of_block (w:=w) hN).trans h.c1,(World.frozen?_of_block (w:=w) hN).trans (h.z 1)⟩
theorem bF.rowP {C B:Nat}{xp xj:Option Addr}{yp yj:Nat}(h:bF w C N B xp yp xj yj ps js)(hg:w.grownBy w' (Value.slice xp ps.length yp).ownBlock):w'.cell? ⟨N,0,none⟩=some (.slice xp ps.length yp)/\w'.frozen? ⟨N,0,none⟩=false:=by
 have hN:w'.heap[N]? = w.heap[N]? := hg.block N h.lt (fun e=>by have:=(h.op.lt N e.symm).1;have:=h.nb;omega)
 exact ⟨(World.cell?_of_block (w:=w) hN).trans h.c0,(World.frozen?_of_block (w:=w) hN).trans (h.z 0)⟩
theorem zi {x:Option Addr}{y:Nat}(h:w.ownsRow N 133 4 (.slice x ps.length y) ps.length (bd ps))(hn:∀ p ∈ ps,p.name.size<=maxLen):ar w x ps:=by
 rcases h.2 with ⟨h1,h2⟩ | ⟨g,a,b,h1,h2,h3,h4,h5,_⟩
 ·have:ps=[]:=List.eq_nil_of_length_eq_zero h2;subst this;exact ⟨Nat.zero_le _,fun p hp=>(by cases hp),Or.inl rfl⟩
 ·cases h1;refine ⟨Nat.le_trans h4 h5,hn,Or.inr ⟨g,0,rfl,fun i hi=>?_⟩⟩
  have hc:=h.cells (g:=g) rfl;have hg:∀ j,j<4->∀ u,(dY ps[i])[j]? = some u->w.cell? ⟨g,0+i*4+j,none⟩=some u:=by
   intro j hj u hu;have:=hc (i*4+j) u ((aZ dY 4 (fun _=>rfl) ps i j hi hj).trans hu)
   rw [bH] at this;have e:0+(i*4+j)=0+i*4+j:=CG
   rw [e] at this;exact this
  exact ⟨hg 0 CG _ rfl,hg 1 CG _ rfl,hg 2 CG _ rfl,hg 3 CG _ rfl⟩
theorem yH {x:Option Addr}{y:Nat}(h:w.ownsRow N 109 3 (.slice x js.length y) js.length (cq js))(hn:∀ z ∈ js,z.2.2.name.size<=maxLen)(he:∀ z ∈ js,aT w z.1 z.2.2.ends):aP w x (js.map (fun z=>z.2.2)):=by
 rcases h.2 with ⟨h1,h2⟩ | ⟨g,a,b,h1,h2,h3,h4,h5,_⟩
 ·have:js=[]:=List.eq_nil_of_length_eq_zero h2;subst this;exact ⟨Nat.zero_le _,fun p hp=>(by cases hp),Or.inl rfl⟩
 ·cases h1;refine ⟨by rw [List.length_map];exact Nat.le_trans h4 h5,fun p hp=>?_,Or.inr ⟨g,0,rfl,fun i hi=>?_⟩⟩
  ·obtain ⟨z,hz,rfl⟩:=List.mem_map.1 hp;exact hn z hz
  ·rw [List.length_map] at hi;have hc:=h.cells (g:=g) rfl;have hg:∀ j,j<3->∀ u,(fD js[i])[j]? = some u->w.cell? ⟨g,0+i*3+j,none⟩=some u:=by
    intro j hj u hu;have:=hc (i*3+j) u ((aZ fD 3 (fun _=>rfl) js i j hi hj).trans hu)
    rw [bH] at this;have e:0+(i*3+j)=0+i*3+j:=CG
    rw [e] at this;exact this
   rw [List.getElem_map];exact ⟨hg 0 CG _ rfl,hg 1 CG _ rfl,_,_,hg 2 CG _ rfl,he js[i] (List.getElem_mem hi)⟩
structure InK (w2 wi:World)(J q:Nat)(kd:Int)(nm:ByteArray)(xe:Option Addr)(ye:Nat)(es:List am):Prop where
 c0:wi.cell? ⟨J,0,none⟩=some (.int .i64 kd)
 c1:wi.cell? ⟨J,1,none⟩=some (.string nm)
 c2:wi.cell? ⟨J,2,none⟩=some (.slice xe q ye)
 z:∀ o,wi.frozen? ⟨J,o,none⟩=false
 len:es.length=q
 own:wi.ownsRow (J+1) 114 2 (.slice xe q ye) q (aG es)
 base:Below J w2 wi
theorem InK.lt (h:InK w2 wi J q kd nm xe ye es):J<wi.heap.size:=ai h.c0
theorem InK.below {wi':World}(h:InK w2 wi J q kd nm xe ye es)(hb:Cx wi wi'):InK w2 wi' J q kd nm xe ye es:=
 ⟨cell_later hb h.c0,cell_later hb h.c1,cell_later hb h.c2,fun o=>(hb.frozen (p:=⟨J,o,none⟩) h.lt).trans (h.z o),h.len,aq h.own hb,h.base.trans (hb.mono (Nat.le_of_lt h.lt))⟩
theorem InK.push {x':Option Addr}{y':Nat}(h:InK w2 wi J q kd nm xe ye es){e:am}(hg:wi.grownBy w' (Value.slice xe q ye).ownBlock)(ho:w'.ownsRow (J+1) 114 2 (.slice x' (q+1) y') (q+1) (aG (es++[e]))):
  InK w2 (w'.setCell ⟨J,2,none⟩ (.slice x' (q+1) y')) J (q+1) kd nm x' y' (es++[e]):=by
 have hJ:w'.heap[J]? = wi.heap[J]? := hg.block J h.lt (fun e=>by have:=(h.own.lt J e.symm).1;omega)
 refine ⟨?_,?_,World.cell?_setCell_same _ _ _ ((World.cell?_of_block (w:=wi) hJ).trans h.c2),fun o=>?_,by simp [h.len],ownsRow_setCell_below ho (Nat.lt_succ_self J) _,?_⟩
 ·rw [World.cell?_setCell_other _ _ _ _ CI]
  exact (World.cell?_of_block (w:=wi) hJ).trans h.c0
 ·rw [World.cell?_setCell_other _ _ _ _ CI]
  exact (World.cell?_of_block (w:=wi) hJ).trans h.c1
 ·rw [World.frozen?_setCell];exact (World.frozen?_of_block (w:=wi) hJ).trans (h.z o)
 ·refine (h.base.trans ⟨hg.os,hg.tape,hg.output,hg.size,fun k hk=>hg.block k (by have:=h.lt;omega) (fun e=>by have:=(h.own.lt k e.symm).1;omega)⟩).trans ⟨rfl,rfl,rfl,CI,fun k hk=>Below.heap_setCell _ _ _ _ (show k≠J by omega)⟩
theorem InK.ends (h:InK w2 wi J q kd nm xe ye es)(hN:N<J)(hq:q<=4)(kk:Int):fK wi (N+1) (xe,ye,⟨kk,nm,es⟩):=by
 have hl:=h.len;exact ⟨by rw [show (es:List am).length=q from hl];exact aW h.own CG,by show es.length<=5;omega⟩
structure Cg (w:World)(B:Nat)(xp:Option Addr)(yp:Nat)(xj:Option Addr)(yj:Nat)(ps:List af)(js:List MJ):Prop where
 op:w.ownsRow B 133 4 (.slice xp ps.length yp) ps.length (bd ps)
 oj:w.ownsRow B 109 3 (.slice xj js.length yj) js.length (cq js)
 je:∀ x ∈ js,fK w B x
 ap:js.Pairwise (fun a b=>ct a=none\/ct a≠ct b)
theorem xg (pa:Option Addr)(pc:Nat)(ja:Option Addr)(jc:Nat)(ps:List af)(js:List aj)(w:World)(hP:Hid (ar w pa ps))(hJ:Hid (aP w ja js))(hp1:ps.length<=1000)(hj1:js.length<=1000)(hje:Hid (∀ j ∈ js,j.ends.length<=4)):
  Calls prog 102 #[.agg #[.slice pa ps.length pc,.slice ja js.length jc]] w fun e w' => ∃ xp yp xj yj js',e = .returned (.agg #[.slice xp ps.length yp,.slice xj js.length yj])/\js'.map (fun z:MJ=>z.2.2)=js/\Cg w' w.heap.size xp yp xj yj ps js'/\Cx w w':=by
 go_enter func102,ntmps102
 go_wp2_with fail
 generalize hW:World.alloc (World.alloc (World.alloc w _) _) _=W;have av:Cx w W:=by rw [<-hW];exact blo
 have M:Hid (bF W w.heap.size (w.heap.size+2) (w.heap.size+2+1) none 0 none 0 [] []):=by
  rw [<-hW];exact ⟨CG,CG,CO,CO,fun o=>CO,World.ownsRow_nil _ _ _ _,World.ownsRow_nil _ _ _ _,fun x hx=>(by cases hx),List.Pairwise.nil,fun x hx=>(by cases hx),fun x hx=>(by cases hx)⟩
 have R0:W.cell? ⟨w.heap.size+1,0,none⟩=some (.slice none 0 0):=by rw [<-hW];simp [go_sem]
 have R1:W.cell? ⟨w.heap.size+1,1,none⟩=some (.slice none 0 0):=by rw [<-hW];simp [go_sem]
 have V:Hid (∀ o,W.frozen? ⟨w.heap.size+1,o,none⟩=false):=fun o=>by rw [<-hW];simp [go_sem]
 have X0:W.cell? ⟨w.heap.size,0,none⟩=some (.slice pa ps.length pc):=by rw [<-hW];simp [go_sem]
 have X1:W.cell? ⟨w.heap.size,1,none⟩=some (.slice ja js.length jc):=by rw [<-hW];simp [go_sem]
 have aI:w.heap.size+2<W.heap.size:=by rw [<-hW];simp
 have aw:=aa av;clear hW av;obtain ⟨N,hN⟩:∃ N,w.heap.size+2=N:=⟨_,rfl⟩;obtain ⟨R,hR⟩:∃ R,w.heap.size+1=R:=⟨_,rfl⟩;obtain ⟨X,hX⟩:∃ X,w.heap.size=X:=⟨_,rfl⟩;rw [hN] at M aI ⊢;rw [hR] at R0 R1 V ⊢;rw [hX] at M X0 X1 ⊢;have aV:X<R:=CG
 have aX:R<N:=CG
 have ax:Hid (w.heap.size=X):=hX;clear hN hR hX;have n:Hid (∀ u,ag (fun b=>N<=b) W u->Cx w u):=fun u hu=>aw.out.trans (hu.below (by have:=aw.out.size;omega) (fun k hk=>by have:=ax.out;omega))
 have aY:X<W.heap.size:=CG
 go_wp2_with fail
 go_loopw [14] (fun i wr => ∃ k:Nat,k<=ps.length/\i = .int .i64 k/\Hid (∃ xp yp,bF wr X N (N+1) xp yp none 0 (ps.take k) []/\ag (fun b=>N<=b) W wr)) (fun i _=>ps.length-(intOf i).toNat)
 case atStart=>exact ⟨0,Nat.zero_le _,rfl,none,0,M.out,ag.refl _ _⟩
 case round =>
  clear M;obtain ⟨k,hk,rfl,HI⟩:=hrel;obtain ⟨xp,yp,c,g⟩:=HI.out;have HN:=aa c;have HO:=aa g;have hl:(ps.take k).length=k:=by rw [List.length_take];omega
  obtain ⟨L,hL⟩:∃ L,ps.take k=L:=⟨_,rfl⟩;rw [hL] at HN hl;have Y:=aa hL;clear HI c g hL
  by_cases m:k<ps.length
  ·obtain ⟨b1,Z,rfl,B⟩:=(hP.out.below (n.out wr HO.out)).2.2.resolve_left (nz m);obtain ⟨c0,c1,c2,c3⟩:=B k m;have C:=hP.out.2.1 _ (List.getElem_mem m);have D:Hid (ps.take (k+1)=L++[ps[k]]):=by unfold Hid;rw [List.take_succ_eq_append_getElem m,Y.out]
   generalize ps[k]=pk at c0 c1 c2 c3 C D;have n0:=HN.out.c0;rw [hl] at n0;have aJ:=HN.out.lt;have ab:(k:Int)<ps.length:=CG
   have ac:=ai c0;dsimp only at ac;have ad:=HN.out.op;rw [hl] at ad;have aK:=aa ad;clear B ad
   go_wp2_with (at_builtin;refine aU (Wp:=wr.alloc (.cells #[.string pk.name,.int .i64 pk.len,.int .i64 pk.CD,.int .i64 pk.CC] 133)) rfl (.tmp 19) (.tmp 21) 23 rfl (N+1) 133 _ 4 40 underlying23 Tryz.infoPiece rfl CJ (.slice xp k yp) k (bd L) rfl (aK.out.alloc _) (wr.heap.size+1) CI [.string pk.name,.int .i64 pk.len,.int .i64 pk.CD,.int .i64 pk.CC] rfl rfl CL CK CG CN ?_;intro ae ah w8 l d;rw [eK,<-hl] at l;rw [<-hl] at d;obtain ⟨m1,m2⟩:=(HN.out.below CU).rowP d;have E:=aa ((HN.out.below CU).pushP d l C);have ak:Hid (ag (fun b=>N<=b) W w8):=HO.out.trans ⟨d.os,d.tape,d.output,Nat.le_trans CI d.size,fun b hb hn=>(d.block b CN (fun e=>(by have:=(HN.out.op.lt b e.symm).1;omega))).trans (Below.heap_alloc _ _ _ hb)⟩;rw [hl] at m1 E;clear l d)
   have F:Hid (∃ xp yp,bF (w8.setCell ⟨N,0,none⟩ (.slice ae (k+1) ah)) X N (N+1) xp yp none 0 (ps.take (k+1)) []/\ag (fun b=>N<=b) W (w8.setCell ⟨N,0,none⟩ (.slice ae (k+1) ah))):=⟨ae,ah,by rw [D.out];exact E.out,ak.out.setCell (p:=⟨N,0,none⟩) (Or.inl CW) _⟩
   first
    | (go_roundw;(case rel=>exact ⟨k+1,CG,by go_num,F⟩);(case measure=>(simp [intOf];omega)))
    | exact ⟨⟨k+1,CG,by go_num,F⟩,by simp [intOf];omega⟩
  ·have ab:¬ (k:Int)<ps.length:=CG
   have O:k=ps.length:=CG
   have ay:L=ps:=by rw [<-Y.out,O,List.take_length]
   rw [ay] at HN;clear Y hl ay O;have az:Hid (∃ xp yp xj yj js',(js':List MJ).map (fun z=>z.2.2)=js.take 0/\bF wr X N (N+1) xp yp xj yj ps js'/\ag (fun b=>N<=b) W wr):=⟨xp,yp,none,0,[],rfl,HN.out,HO.out⟩
   have x1:=HO.out.cell X1 (by show ¬ N<=X;omega)
   have aA:=ai x1;dsimp only at aA;clear HN HO
   go_wp2_with fail
   go_loopw [28] (fun i wq => ∃ k:Nat,k<=js.length/\i = .int .i64 k/\Hid (∃ xp yp xj yj js',(js':List MJ).map (fun z=>z.2.2)=js.take k/\bF wq X N (N+1) xp yp xj yj ps js'/\ag (fun b=>N<=b) W wq)) (fun i _=>js.length-(intOf i).toNat)
   case atStart=>exact ⟨0,Nat.zero_le _,rfl,az⟩
   case round =>
    clear az x1 aA;obtain ⟨k,hk,rfl,HI⟩:=hrel;obtain ⟨xp,yp,xj,yj,js',r,c,g⟩:=HI.out;have HN:=aa c;have HO:=aa g;have al:=aa r;have hl:js'.length=k:=by
     have h:=congrArg List.length r;rw [List.length_map,List.length_take] at h;omega
    have aJ:=c.lt;clear HI c g r
    by_cases m:k<js.length
    ·obtain ⟨b1,Z,rfl,B⟩:=(hJ.out.below (n.out wr HO.out)).2.2.resolve_left (nz m);obtain ⟨c0,c1,ea,ec,c2,hE⟩:=B k m;have C:=hJ.out.2.1 _ (List.getElem_mem m);have h4:=hje.out _ (List.getElem_mem m);have D:Hid (js.take (k+1)=js.take k++[js[k]]):=List.take_succ_eq_append_getElem m;generalize js[k]=jk at c0 c1 c2 hE C h4 D;have HE:=aa hE;have ab:(k:Int)<js.length:=CG
     have ac:=ai c0;dsimp only at ac;clear B hE
     go_wp2_with fail
     generalize T:World.alloc (World.alloc wr (.cells #[.int .i64 jk.kind,.string jk.name,.slice ea jk.ends.length ec] 109)) _=W8;obtain ⟨W7,G⟩:∃ W7,World.alloc wr (.cells #[.int .i64 jk.kind,.string jk.name,.slice ea jk.ends.length ec] 109)=W7:=⟨_,rfl⟩;rw [G] at T;have am:W7.heap.size=wr.heap.size+1:=by rw [<-G];simp
     have aB:Cx wr W7:=by rw [<-G];exact CV.alloc CW _
     have s2:W7.cell? ⟨wr.heap.size,2,none⟩=some (.slice ea jk.ends.length ec):=by rw [<-G];simp [go_sem]
     have f:Hid (InK W7 W8 (wr.heap.size+1) 0 jk.kind jk.name none 0 []):=by
      rw [<-am,<-T];exact ⟨CO,CO,CO,fun o=>CO,rfl,World.ownsRow_nil _ _ _ _,CV.alloc CW _⟩
     have t2:W8.cell? ⟨wr.heap.size,2,none⟩=some (.slice ea jk.ends.length ec):=by rw [<-T];exact cell_later CU s2
     obtain ⟨J,an⟩:∃ J,wr.heap.size+1=J:=⟨_,rfl⟩;have ao:=aa aB;have aZ:Hid (W7.heap.size=wr.heap.size+1):=am;have aC:wr.heap.size<J:=CG
     have U:J<W8.heap.size:=by have:=f.out.lt;omega
     rw [an] at f ⊢;have a0:Hid (wr.heap.size+1=J):=an;clear G T am aB an s2 c0 c1 c2
     go_wp2_with fail
     go_loopw [40] (fun qq wi => ∃ (q:Nat) (xe:Option Addr) (ye:Nat),qq = .int .i64 q/\q<=jk.ends.length/\Hid (InK W7 wi J q jk.kind jk.name xe ye (jk.ends.take q))) (fun qq _=>jk.ends.length-(intOf qq).toNat)
     case atStart=>exact ⟨0,none,0,rfl,CG,f⟩
     case round =>
      clear f t2;obtain ⟨q,xe,ye,rfl,a1,f⟩:=hrel;have aL:=f.out.lt
      by_cases hq:q<jk.ends.length
      ·have H:=aa (ao.out.trans (f.out.base.mono (Nat.le_of_lt aC)));obtain ⟨be,oe,rfl,aD⟩:=(HE.out.below H.out).2.resolve_left (nz hq);obtain ⟨e0,e1⟩:=aD q hq;have aE:Hid (jk.ends.take (q+1)=jk.ends.take q++[jk.ends[q]]):=List.take_succ_eq_append_getElem hq;generalize jk.ends[q]=en at e0 e1 aE;have c2:=f.out.c2;have aM:(q:Int)<jk.ends.length:=CG
       have aN:=ai e0;dsimp only at aN;clear aD
       go_wp2_with (at_builtin;refine aU (Wp:=wr.alloc (.cells #[.int .i64 en.CB,.int .i64 en.side] 114)) rfl (.tmp 45) (.tmp 47) 83 rfl (J+1) 114 _ 2 16 underlying83 Tryz.infoEnd rfl CJ (.slice xe q ye) q (aG (jk.ends.take q)) rfl (f.out.own.alloc _) (wr.heap.size+1) CI [.int .i64 en.CB,.int .i64 en.side] rfl rfl CL CK CG CN ?_;intro aF aH w8 l d;rw [eE] at l;have s:=aa ((f.out.below CU).push d l);have U:w8.heap[J]? = wr.heap[J]? := ((d.block J CN (fun e=>(by have:=(f.out.own.lt J e.symm).1;omega))).trans (Below.heap_alloc _ _ _ aL));have m1:=(World.cell?_of_block (w:=wr) (a:=⟨J,2,none⟩) U).trans c2;have m2:=(World.frozen?_of_block (w:=wr) (a:=⟨J,2,none⟩) U).trans (f.out.z 2);clear l d U)
       rw [<-aE.out] at s
       first
        | (go_roundw;(case rel=>exact ⟨q+1,aF,aH,by go_num,CG,s⟩);(case measure=>(simp [intOf];omega)))
        | exact ⟨⟨q+1,aF,aH,by go_num,CG,s⟩,by simp [intOf];omega⟩
      ·have aO:q=jk.ends.length:=CG
       subst aO;rw [List.take_length] at f;have aM:¬ (jk.ends.length:Int)<jk.ends.length:=CG
       have H:=aa (ao.out.trans (f.out.base.mono (Nat.le_of_lt aC)));have t:=aa (HN.out.below H.out);have aQ:=aa (HO.out.trans (ag.of_below H.out));have n1:=t.out.c1;rw [hl] at n1;have d0:=f.out.c0;have d1:=f.out.c1;have d2:=f.out.c2;have a2:=t.out.lt;have aR:N<J:=CG
       have HX:=aa (f.out.ends (N:=N) aR CG jk.kind)
       have aS:Hid (∀ y ∈ js',ct y=none\/ct y≠ct (xe,ye,⟨jk.kind,jk.name,jk.ends⟩)):=fun y hy=>by
        cases hb:ct y with
        | none=>exact Or.inl rfl
        | some b=>exact Or.inr (fun e=>by have h1:=((HN.out.je y hy).1.lt b hb).2;have h2:=(f.out.own.lt b e.symm).1;omega)
       have A:=t.out.oj;rw [hl] at A;have aT:=aa A;clear A HN HO H ao
       go_wp2_with (at_builtin;refine aU (Wp:=wr) rfl (.tmp 52) (.tmp 54) 24 rfl (N+1) 109 _ 3 48 underlying24 Tryz.infoJoint rfl CJ (.slice xj k yj) k (cq js') rfl aT.out wr.heap.size rfl [.int .i64 jk.kind,.string jk.name,.slice xe jk.ends.length ye] rfl rfl CL CK CG CG ?_;intro aq au w8 l d;rw [fw js' (xe,ye,jk),<-hl] at l;rw [<-hl] at d;obtain ⟨m1,m2⟩:=t.out.rowJ d;have E:=aa (t.out.pushJ d l C HX.out aS.out);have ak:Hid (ag (fun b=>N<=b) W w8):=aQ.out.trans ⟨d.os,d.tape,d.output,d.size,fun b hb hn=>d.block b hb (fun e=>(by have:=(t.out.oj.lt b e.symm).1;omega))⟩;rw [hl] at m1 E;clear l d)
       have F:Hid (∃ xp yp xj yj js2,(js2:List MJ).map (fun z=>z.2.2)=js.take (k+1)/\bF (w8.setCell ⟨N,1,none⟩ (.slice aq (k+1) au)) X N (N+1) xp yp xj yj ps js2/\ag (fun b=>N<=b) W (w8.setCell ⟨N,1,none⟩ (.slice aq (k+1) au))):=⟨xp,yp,aq,au,js'++[(xe,ye,jk)],by rw [List.map_append,al.out,D.out];rfl,E.out,ak.out.setCell (p:=⟨N,1,none⟩) (Or.inl CW) _⟩
       first
        | (go_roundw;(case rel=>exact ⟨k+1,CG,by go_num,F⟩);(case measure=>(simp [intOf];omega)))
        | exact ⟨⟨k+1,CG,by go_num,F⟩,by simp [intOf];omega⟩
    ·have ab:¬ (k:Int)<js.length:=CG
     have O:k=js.length:=CG
     subst O;rw [List.take_length] at al;have n0:=HN.out.c0;have n1:=HN.out.c1;rw [hl] at n1;have I:wr.heap[R]? = W.heap[R]? := HO.out.block R CG CG
     have q0:=(World.cell?_of_block (w:=W) (a:=⟨R,0,none⟩) I).trans R0;have q1:=(World.cell?_of_block (w:=W) (a:=⟨R,1,none⟩) I).trans R1;have u0:=(World.frozen?_of_block (w:=W) (a:=⟨R,0,none⟩) I).trans (V.out 0);have u1:=(World.frozen?_of_block (w:=W) (a:=⟨R,1,none⟩) I).trans (V.out 1);clear R0 R1 I;have a3:N≠R:=CG
     go_wp2_with fail
     refine bodyPost_ret (v:=.agg #[.slice xp ps.length yp,.slice xj js.length yj]) (by simp [results,results102,go_sem,q0,q1]) rfl ?_
     have hk:∀ b,b≠R->((wr.setCell ⟨R,0,none⟩ (.slice xp ps.length yp)).setCell ⟨R,1,none⟩ (.slice xj js.length yj)).heap[b]? = wr.heap[b]? := fun b hb=>(Below.heap_setCell _ _ _ _ hb).trans (Below.heap_setCell _ _ _ _ hb)
     have c:=HN.out.kept (w':=(wr.setCell ⟨R,0,none⟩ (.slice xp ps.length yp)).setCell ⟨R,1,none⟩ (.slice xj js.length yj)) (hk N CG) (fun b h1 _=>hk b CG)
     have hw:=ax.out;have A:=c.oj;rw [hl] at A;refine ⟨xp,yp,xj,yj,rfl,js',al.out,⟨aW c.op CG,by rw [hl];exact aW A CG,fun x hx=>(c.je x hx).base CG,c.ap⟩,?_⟩
     ·have h1:=n.out wr HO.out;exact ⟨h1.os,h1.tape,h1.output,by have:=h1.size;simpa using this,fun b hb=>(hk b CG).trans (h1.block b hb)⟩
theorem ga {α:Type}(f:α->List Value)(k:Nat)(hk:∀ x,(f x).length=k):∀ (xs:List α) (i j:Nat) (hi:i<xs.length) (_:j<k) (x':α) (u:Value),f x'=(f xs[i]).set j u->(xs.set i x').flatMap f=(xs.flatMap f).set (i*k+j) u
 | [],_,_,hi,_,_,_,_=>absurd hi CI
 | x::r,0,j,_,hj,x',u,h=>by
  simp only [List.getElem_cons_zero] at h;simp only [List.set_cons_zero,List.flatMap_cons,Nat.zero_mul,Nat.zero_add];rw [h,List.set_append_left _ _ (by rw [hk];omega)]
 | x::r,i+1,j,hi,hj,x',u,h=>by
  have ih:=ga f k hk r i j (by simpa using hi) hj x' u (by simpa using h)
  simp only [List.set_cons_succ,List.flatMap_cons];rw [ih,List.set_append_right _ _ (by rw [hk,Nat.add_mul];omega),hk,show (i+1)*k+j-k=i*k+j by rw [Nat.add_mul];omega]
theorem Aq (C:Nat)(ca:Option Addr)(cc:Nat)(bs:List Int)(at_:Nat)(w:World)(hc:Hid (Cur w C ca cc bs at_))(ha:at_<=600000000):
  Calls prog 51 #[.pointer (some ⟨C,0,none⟩)] w fun e w' => ∃ (v:Int) (at':Nat),e = .returned (.int .i64 v) /\ -1<=v/\v<=100001/\at'<=at_+4/\Cur w' C ca cc bs at'/\ag (fun k=>k=C) w w':=by
 have D:=hc.out.lt
 go_enter func51,ntmps51
 go_wp2_with fail
 refine (aJ C ca cc bs at_ 14 w hc CG CG).mono ?_
 rintro e w1 ⟨x,b,hx,rfl,s,n,g⟩;have c:=aa n;have d:=aa g;have E:=g.size;clear n g;have t:x=0\/x=1\/x=2\/x=3\/4<=x:=CG
 rcases t with rfl | rfl | rfl | rfl | h4
 ·go_wp2_with fail
  generalize h:World.alloc w1 _=Wk;have o:Cx w1 Wk:=by rw [<-h];exact CV.alloc CW _
  have p:Hid (∀ y:Nat,y<3->∃ kv:Int,Wk.cell? ⟨w1.heap.size,y,none⟩=some (.int .i64 kv) /\ -1<=kv/\kv<=100001):=by
   intro y hy;rw [<-h];have h7:y=0\/y=1\/y=2:=CG
   rcases h7 with rfl | rfl | rfl
   ·exact ⟨-1,CO,CG,CG⟩
   ·exact ⟨100000,CO,CG,CG⟩
   ·exact ⟨100001,CO,CG,CG⟩
  have q:=aa o;clear h o;refine (aJ C ca cc bs b 3 Wk (c.out.below q.out) CG CG).mono ?_
  rintro e w2 ⟨y,i,hy,rfl,j,f,a⟩;have u:y<3:=CG
  obtain ⟨kv,r,z,A⟩:=p.out y u;have kc:=a.cell r (by show ¬ w1.heap.size=C;omega)
  have B:=ai kc;dsimp only at B;have l:=aa f;have m:Hid (ag (fun k=>k=C) w w2):=(d.out.trans (ag.of_below q.out)).trans a
  clear r f a p
  go_wp2_with fail
  go_ret
  exact ⟨kv,i,rfl,z,A,CG,l.out,m.out⟩
 ·go_wp2_with fail
  go_ret
  exact ⟨0,b,rfl,CG,CG,CG,c.out,d.out⟩
 ·go_wp2_with fail
  go_ret
  exact ⟨0,b,rfl,CG,CG,CG,c.out,d.out⟩
 ·go_wp2_with fail
  go_ret
  exact ⟨0,b,rfl,CG,CG,CG,c.out,d.out⟩
 ·have g0:((x:Int)==0)=false:=by rw [beq_eq_false_iff_ne];omega
  have g1:((x:Int)==1)=false:=by rw [beq_eq_false_iff_ne];omega
  have g2:((x:Int)==2)=false:=by rw [beq_eq_false_iff_ne];omega
  have g3:((x:Int)==3)=false:=by rw [beq_eq_false_iff_ne];omega
  go_wp2_with fail
  refine (iu C ca cc bs b 300 w1 c CG CG).mono ?_
  rintro e w2 ⟨y,i,hy,rfl,j,f,a⟩;have l:=aa f;have m:=aa (d.out.trans a);clear f a
  go_wp2_with fail
  go_ret
  exact ⟨y,i,rfl,CG,CG,CG,l.out,m.out⟩
theorem ag.grown {S:Nat->Prop}{row:Option Nat}(hg:w.grownBy w' row)(hr:∀ b,row=some b->S b):ag S w w':=
 ⟨hg.os,hg.tape,hg.output,hg.size,fun b hb hn=>hg.block b hb (fun e=>hn (hr b e.symm))⟩
section
variable {w w':World} {C N B:Nat} {xp xj:Option Addr} {yp yj:Nat} {ps:List af} {js:List MJ}
theorem bF.turnP (h:bF w C N B xp yp xj yj ps js){ps':List af}(hl:ps'.length=ps.length)(hg:w.grownBy w' (Value.slice xp ps.length yp).ownBlock)(ho:w'.ownsRow B 133 4 (.slice xp ps.length yp) ps.length (bd ps'))(hn:∀ p ∈ ps',p.name.size<=maxLen):bF w' C N B xp yp xj yj ps' js:=by
 have hN:w'.heap[N]? = w.heap[N]? := hg.block N h.lt (fun e=>by have:=(h.op.lt N e.symm).1;have:=h.nb;omega)
 refine ⟨h.cn,h.nb,by rw [hl];exact (World.cell?_of_block (w:=w) hN).trans h.c0,(World.cell?_of_block (w:=w) hN).trans h.c1,fun o=>(World.frozen?_of_block (w:=w) hN).trans (h.z o),by rw [hl];exact ho,h.oj.kept hg ?_,fun x hx=>(h.je x hx).kept (fun b h1 h2=>hg.block b h2.lt (fun e=>h2.ne h.op CJ e.symm)),h.ap,hn,h.jn⟩
 exact aV (e:=109) (e':=133) CJ h.oj h.op
theorem bF.turnJ (h:bF w C N B xp yp xj yj ps js){js':List MJ}(hl:js'.length=js.length)(hg:w.grownBy w' (Value.slice xj js.length yj).ownBlock)(ho:w'.ownsRow B 109 3 (.slice xj js.length yj) js.length (cq js'))(hn:∀ x ∈ js',x.2.2.name.size<=maxLen)(he:∀ x ∈ js',fK w B x)(ha:js'.Pairwise (fun a b=>ct a=none\/ct a≠ct b)):bF w' C N B xp yp xj yj ps js':=by
 have hN:w'.heap[N]? = w.heap[N]? := hg.block N h.lt (fun e=>by have:=(h.oj.lt N e.symm).1;have:=h.nb;omega)
 refine ⟨h.cn,h.nb,(World.cell?_of_block (w:=w) hN).trans h.c0,by rw [hl];exact (World.cell?_of_block (w:=w) hN).trans h.c1,fun o=>(World.frozen?_of_block (w:=w) hN).trans (h.z o),h.op.kept hg ?_,by rw [hl];exact ho,fun x hx=>(he x hx).kept (fun b h1 h2=>hg.block b h2.lt (fun e=>h2.ne h.oj CJ e.symm)),ha,h.pn,hn⟩
 exact aV (e:=133) (e':=109) CJ h.op h.oj
theorem bF.setP {g:Nat}(h:bF w C N B (some ⟨g,0,none⟩) yp xj yj ps js){i j:Nat}(hi:i<ps.length)(hj:j<4){p':af}{u:Value}(he:dY p'=(dY ps[i]).set j u)(hn:p'.name.size<=maxLen):bF (w.setCell ⟨g,i*4+j,none⟩ u) C N B (some ⟨g,0,none⟩) yp xj yj (ps.set i p') js/\w.grownBy (w.setCell ⟨g,i*4+j,none⟩ u) (some g):=by
 obtain ⟨h1,h2⟩:=h.op.stored (i*4+j) u;rw [show (bd ps).set (i*4+j) u=bd (ps.set i p') from (ga dY 4 (fun _=>rfl) ps i j hi hj p' u he).symm] at h1
 refine ⟨h.turnP CI h2 h1 (fun p hp=>?_),h2⟩
 rcases List.mem_or_eq_of_mem_set hp with hp | rfl
 ·exact h.pn p hp
 ·exact hn
theorem nM {js:List MJ}(h:js.Pairwise (fun a b=>ct a=none\/ct a≠ct b)){x':MJ}:∀ (i:Nat),(∀ k (_:k<js.length),k≠i->ct js[k]=none\/ct x'=none\/ct js[k]≠ct x')->(js.set i x').Pairwise (fun a b=>ct a=none\/ct a≠ct b):=by
 intro i hx;rw [List.pairwise_iff_getElem] at h ⊢;intro a b ha hb c;simp only [List.length_set] at ha hb;rw [List.getElem_set,List.getElem_set]
 by_cases h1:i=a
 ·rw [if_pos h1,if_neg CG]
  rcases hx b hb CG with h2 | h2 | h2
  ·by_cases h3:ct x'=none
   ·exact Or.inl h3
   ·exact Or.inr (fun e=>h3 (e.trans h2))
  ·exact Or.inl h2
  ·exact Or.inr (fun e=>h2 e.symm)
 ·rw [if_neg h1]
  by_cases h2:i=b
  ·rw [if_pos h2];rcases hx a ha CG with h3 | h3 | h3
   ·exact Or.inl h3
   ·by_cases h4:ct js[a]=none
    ·exact Or.inl h4
    ·exact Or.inr (fun e=>h4 (e.trans h3))
   ·exact Or.inr h3
  ·rw [if_neg h2];exact h a b ha hb c
theorem bF.apart (h:bF w C N B xp yp xj yj ps js){i k:Nat}(hi:i<js.length)(hk:k<js.length)(hne:k≠i):ct js[k]=none\/ct js[k]≠ct js[i]:=by
 have hp:=List.pairwise_iff_getElem.1 h.ap
 by_cases h1:k<i
 ·exact hp k i hk hi h1
 ·rcases hp i k hi hk CG with h2 | h2
  ·by_cases h3:ct js[k]=none
   ·exact Or.inl h3
   ·exact Or.inr (fun e=>h3 (e.trans h2))
  ·exact Or.inr (fun e=>h2 e.symm)
theorem bF.setJ {g:Nat}(h:bF w C N B xp yp (some ⟨g,0,none⟩) yj ps js){i j:Nat}(hi:i<js.length)(hj:j<3){x':MJ}{u:Value}(he:fD x'=(fD js[i]).set j u)(hn:x'.2.2.name.size<=maxLen)(hE:fK w B x')(hap:∀ k (_:k<js.length),k≠i->ct js[k]=none\/ct x'=none\/ct js[k]≠ct x'):bF (w.setCell ⟨g,i*3+j,none⟩ u) C N B xp yp (some ⟨g,0,none⟩) yj ps (js.set i x')/\w.grownBy (w.setCell ⟨g,i*3+j,none⟩ u) (some g):=by
 obtain ⟨h1,h2⟩:=h.oj.stored (i*3+j) u;rw [show (cq js).set (i*3+j) u=cq (js.set i x') from (ga fD 3 (fun _=>rfl) js i j hi hj x' u he).symm] at h1
 refine ⟨h.turnJ CI h2 h1 (fun p hp=>?_) (fun p hp=>?_) (nM h.ap i hap),h2⟩
 ·rcases List.mem_or_eq_of_mem_set hp with hp | rfl
  ·exact h.jn p hp
  ·exact hn
 ·rcases List.mem_or_eq_of_mem_set hp with hp | rfl
  ·exact h.je p hp
  ·exact hE
theorem bF.turnE (h:bF w C N B xp yp xj yj ps js){i:Nat}(hi:i<js.length)(hg:w.grownBy w' (ct js[i])):(w'.cell? ⟨N,0,none⟩=some (.slice xp ps.length yp))/\(w'.cell? ⟨N,1,none⟩=some (.slice xj js.length yj))/\(∀ o,w'.frozen? ⟨N,o,none⟩=false)/\w'.ownsRow B 133 4 (.slice xp ps.length yp) ps.length (bd ps)/\w'.ownsRow B 109 3 (.slice xj js.length yj) js.length (cq js)/\∀ k (hk:k<js.length),k≠i->fK w' B js[k]:=by
 have hE:=h.je _ (List.getElem_mem hi);have hN:w'.heap[N]? = w.heap[N]? := hg.block N h.lt (fun e=>by have:=(hE.1.lt N e.symm).1;have:=h.nb;omega)
 refine ⟨(World.cell?_of_block (w:=w) hN).trans h.c0,(World.cell?_of_block (w:=w) hN).trans h.c1,fun o=>(World.frozen?_of_block (w:=w) hN).trans (h.z o),h.op.kept hg ?_,h.oj.kept hg ?_,fun k hk hne=>⟨(h.je _ (List.getElem_mem hk)).1.kept hg (h.apart hi hk hne),(h.je _ (List.getElem_mem hk)).2⟩⟩
 ·exact aV (e:=133) (e':=114) CJ h.op hE.1
 ·exact aV (e:=109) (e':=114) CJ h.oj hE.1
theorem bF.setE (h:bF w C N B xp yp xj yj ps js){i q j:Nat}(hi:i<js.length)(hq:q<js[i].2.2.ends.length)(hj:j<2){g:Nat}(hx:js[i].1=some ⟨g,0,none⟩){e':am}{u:Value}(he:gn e'=(gn js[i].2.2.ends[q]).set j u):bF (w.setCell ⟨g,q*2+j,none⟩ u) C N B xp yp xj yj ps (js.set i (js[i].1,js[i].2.1,⟨js[i].2.2.kind,js[i].2.2.name,js[i].2.2.ends.set q e'⟩))/\w.grownBy (w.setCell ⟨g,q*2+j,none⟩ u) (some g):=by
 have hE:=h.je _ (List.getElem_mem hi);have a:=hE.1;rw [hx] at a;obtain ⟨h1,h2⟩:=a.stored (q*2+j) u;have hg:w.grownBy (w.setCell ⟨g,q*2+j,none⟩ u) (ct js[i]):=by unfold ct;rw [hx];exact h2
 obtain ⟨a0,a1,a2,a3,a4,a5⟩:=h.turnE hi hg;rw [show (aG js[i].2.2.ends).set (q*2+j) u=aG (js[i].2.2.ends.set q e') from (ga gn 2 (fun _=>rfl) js[i].2.2.ends q j hq hj e' u he).symm] at h1
 have c:cq (js.set i (js[i].1,js[i].2.1,⟨js[i].2.2.kind,js[i].2.2.name,js[i].2.2.ends.set q e'⟩))=cq js:=by
  have:=ga fD 3 (fun _=>rfl) js i 0 hi CG (js[i].1,js[i].2.1,⟨js[i].2.2.kind,js[i].2.2.name,js[i].2.2.ends.set q e'⟩) (.int .i64 js[i].2.2.kind) (by simp [fD])
  refine this.trans ?_;rw [<-ga fD 3 (fun _=>rfl) js i 0 hi CG js[i] (.int .i64 js[i].2.2.kind) (by simp [fD]),List.set_getElem_self]
  rfl
 have b:(js.set i (js[i].1,js[i].2.1,⟨js[i].2.2.kind,js[i].2.2.name,js[i].2.2.ends.set q e'⟩)).length=js.length:=CI
 refine ⟨⟨h.cn,h.nb,a0,by rw [b];exact a1,a2,a3,by rw [b,c];exact a4,fun x hm=>?_,?_,h.pn,fun x hm=>?_⟩,h2⟩
 ·obtain ⟨k,hk,rfl⟩:=List.getElem_of_mem hm;rw [List.getElem_set]
  split
  ·refine ⟨?_,by simpa using hE.2⟩
   show World.ownsRow _ _ _ _ (.slice js[i].1 (js[i].2.2.ends.set q e').length js[i].2.1) _ _
   rw [List.length_set,hx];exact h1
  ·exact a5 k (by simpa using hk) CG
 ·refine nM h.ap i (fun k hk hne=>?_)
  rcases h.apart hi hk hne with h3 | h3
  ·exact Or.inl h3
  ·refine Or.inr (Or.inr ?_);simpa [ct] using h3
 ·rcases List.mem_or_eq_of_mem_set hm with hm | rfl
  ·exact h.jn x hm
  ·have h9:=h.jn js[i] (List.getElem_mem hi);exact h9
end
end Go.Proofs.YtmkdgnmmebldgaaGreatDoor
