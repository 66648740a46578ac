import Derived.Test.YtmkdgnmmebldgaaGreatDoorPk46
import Derived.Test.YtmkdgnmmebldgaaGreatDoorPk33
set_option maxRecDepth 100000
set_option maxHeartbeats 8000000
open Go.Proofs.Tryz
namespace Go.Proofs.YtmkdgnmmebldgaaGreatDoor
open Go.RowKit Go.Deep
variable {B b e n o s:Nat}{v:Value}{w w' wr:World}{xs:List Value}
theorem ou {p:Addr}(h:w.grownBy w' (some b))(hc:w.cell? p=some v)(hp:p.block≠b):w'.cell? p=some v:=
 (World.cell?_of_block (w:=w) (h.block p.block (ai hc) (fun e=>by cases e;exact hp rfl))).trans hc
theorem xR (h:w.ownsRow B e s v n xs)(hg:w.grownBy w' (some b))(hb:v.ownBlock≠some b):w'.ownsRow B e s v n xs:=by
 refine ⟨h.1,?_⟩;rcases h.2 with h2 | ⟨g,a,c,h1,h2,h3,h4⟩
 ·exact Or.inl h2
 ·exact Or.inr ⟨g,a,c,h1,h2,(hg.block g (Array.getElem?_eq_some_iff.1 h3).1 (fun e=>hb (by rw [h1];exact e))).trans h3,h4⟩
theorem eN.apart {L:List am}(h:eN w b L)(ho:w.ownsRow B e s v n xs):v.ownBlock≠some b:=by
 obtain ⟨D,⟨es,a,hb,_⟩,_⟩:=h;rcases ho.2 with ⟨rfl,_⟩ | ⟨g,c,d,rfl,h2,h3,h4⟩
 ·intro e;cases e
 ·intro e;cases e;rw [hb] at h3;cases h3
theorem eN.grown {row:Option Nat}{L:List am}(h:eN w b L)(hg:w.grownBy w' row)(hr:row≠some b):eN w' b L:=
 h.kept (hg.block b (bT.lt h) (fun e=>hr e.symm))
theorem rM (d:aL)(r:al)(w:World)(h1:Hid (aT w d.a1 r.CA))(h5:Hid (cw w d.a5 r.Cz))(hl1:r.CA.length<=1048576)(hl5:r.Cz.length<=1048576)(hwf:Hid (WfR r))(hnil:Hid (d.a1=none->d.c1=0)):
  Calls prog 151 #[cC d r] w fun e w' => ∃ x y,e = .returned (.slice x (bm r.CA r.Cz).length y)/\w'.ownsRow w.heap.size 52 2 (.slice x (bm r.CA r.Cz).length y) (bm r.CA r.Cz).length (aG (bm r.CA r.Cz))/\Cx w w':=by
 have V := @run_makeMap prog;unfold cC;obtain ⟨a0,c0,a1,c1,a2,c2,a3,c3,a4,c4,a5,c5⟩:=d;dsimp only at h1 h5 hnil ⊢;have n:Hid (a1=none->r.CA.length=0):=fun e=>by
  rcases h1.out.2 with h | ⟨b,off,h,_⟩
  ·rw [h];rfl
  ·rw [h] at e;cases e
 go_enter func151,ntmps151
 go_wp2_with (at_builtin;generalize hW:w.alloc _=W;have e7:W.cell? ⟨w.heap.size,7,none⟩=some (.slice a5 r.Cz.length c5):=(by rw [<-hW];simp [go_sem]);have hz:w.heap.size+1=W.heap.size:=(by rw [<-hW];simp);have t:Cx w W:=(by rw [<-hW];exact blo);have H1:=aa (h1.out.below t);have H5:=aa (h5.out.below t);clear hW h1 h5;refine ev rfl (.const (.slice none 0 0)) (.tmp 11) 39 rfl W.heap.size 52 _ 2 16 underlying39 Tryz.infoLie rfl CJ (.slice none 0 0) 0 [] rfl (World.ownsRow_nil _ _ _ _) a1 r.CA.length c1 (aG r.CA) rfl hnil.out (eL _) (kz H1.out) n.out (fT _) CK CG CW ?_;intro v' w1 u M;rw [Nat.zero_add,List.nil_append] at u;obtain ⟨x1,y1,X,_⟩:=ba u;subst X;have C:=aa u;have D:Cx W w1:=(Below.refl W.heap.size W).grown M CW (fun j hj=>by cases hj);clear u M)
 have Y:=D.size;obtain ⟨xa,ya,Z,N,_,_⟩:=kj C.out CK
 cases Z;have o:=aa N;have O:=aa (eN.made w1);clear N H1
 go_loopw [16] (fun i wr => ∃ (k:Nat),k<=r.CA.length/\i = .int .i64 k/\Hid (eN wr w1.heap.size (r.CA.take k))/\Cx w1 wr) (fun i _=>r.CA.length-(intOf i).toNat)
 case atStart=>exact ⟨0,Nat.zero_le _,rfl,O.out,blo⟩
 case round =>
  clear O V;obtain ⟨k,hk,rfl,HM,hb⟩:=hrel;have E:=hb.size
  by_cases l:k<r.CA.length
  ·obtain ⟨b1,F,rfl,p⟩:=o.out.2.resolve_left (nz l);obtain ⟨d0,d1⟩:=(p.below hb) k l;clear p;have R:=HM.out.below (show Cx wr (wr.alloc (Obj.cells #[Value.int IntKind.i64 r.CA[k].CB,Value.int IntKind.i64 r.CA[k].side] 52)).drew from blo)
   obtain ⟨c,v0,st,w2,w3,ab,ac,z,ad,G,ae,q,hg⟩:=R.count (hwf.out.CA k l).1 (hwf.out.CA k l).2 (by rw [List.length_take];omega)
   have A:Hid (eN w3 w1.heap.size (r.CA.take (k+1))):=by unfold Hid;rw [List.take_succ_eq_append_getElem l];exact q
   have af:Cx w1 w3:=Below.grown (show Cx w1 (wr.alloc _).drew from blo) hg CN (fun j hj=>by cases hj;exact Nat.le_refl _)
   clear R q hg HM
   go_wp2_with fail
   go_region
   all_goals
    go_wp2_with fail
    go_roundw
    case rel=>exact ⟨k+1,CG,by go_num,A,af⟩
    case measure=>simp [intOf];omega
  ·have HT:Hid (r.CA.take k=r.CA):=List.take_of_length_le CG
   rw [HT.out] at HM;have ag:k=r.CA.length:=CG
   have HB:=aa (D.trans (hb.mono D.size));have s:=aa (aq C.out hb);have ah:=cell_later HB.out e7;have aj:w.heap.size<wr.heap.size:=CG
   clear C HT o
   go_wp2_with fail
   clear ah aj hb E
   go_loopw [3,30] (fun v i wr => ∃ (m:Nat) (x:Option Addr) (y:Nat),m<=r.Cz.length/\i = .int .i64 m/\v = .slice x (bm r.CA (r.Cz.take m)).length y/\Hid (wr.ownsRow W.heap.size 52 2 (.slice x (bm r.CA (r.Cz.take m)).length y) (bm r.CA (r.Cz.take m)).length (aG (bm r.CA (r.Cz.take m))))/\Hid (eN wr w1.heap.size (bm r.CA (r.Cz.take m)))/\Cx W wr) (fun _ i _=>r.Cz.length-(intOf i).toNat)
   case atStart=>exact ⟨0,_,_,Nat.zero_le _,rfl,rfl,s,HM,HB.out⟩
   case round =>
    clear s HB HM ag hk l;obtain ⟨m,x,y,hm,rfl,rfl,ho,HM,hb⟩:=hrel;have E:=hb.size
    by_cases g:m<r.Cz.length
    ·have ak:=aa (lj r.CA r.Cz m);have H:=aa (pY r.CA r.Cz m g);generalize hN:bm r.CA (r.Cz.take m)=out at *;clear hN;have aw:out.length<=2097152:=by have:=ak.out;omega
     obtain ⟨b1,F,rfl,p⟩:=H5.out.2.resolve_left (nz g);obtain ⟨d0,d1,d2,d3⟩:=(p.below hb) m g;have ax:w1.heap.size<wr.heap.size:=bT.lt HM.out;clear p;have a:Cx wr ((wr.alloc (Obj.cells #[Value.int IntKind.i64 r.Cz[m].place,Value.int IntKind.i64 r.Cz[m].kind,Value.int IntKind.i64 r.Cz[m].of,Value.int IntKind.i64 r.Cz[m].lie] 50)).alloc (Obj.cells #[Value.int IntKind.i64 r.Cz[m].of,Value.int IntKind.i64 r.Cz[m].lie] 52)):=blo;have f:=aa a;have z:=(HM.out.below a).look (hwf.out.Cz m g).1 (hwf.out.Cz m g).2;have hd:=uW out r.Cz[m];generalize ((gA out r.Cz[m].of r.Cz[m].lie:Nat):Int)=c at z hd;clear a;cases hK:(r.Cz[m].kind != 3)
     rotate_left
     ·have HE:Hid (bm r.CA (r.Cz.take (m+1))=out):=by
       unfold Hid;rw [H.out,d9,if_neg (by rintro ⟨h,_⟩;rw [h] at hK;simp at hK)]
      go_wp2_with fail
      go_roundw
      case rel=>exact ⟨m+1,x,y,CG,by go_num,by rw [HE.out],by rw [HE.out];exact aq ho.out f.out,by rw [HE.out];exact HM.out.below f.out,hb.trans (f.out.mono hb.size)⟩
      case measure=>simp [intOf];omega
     ·have an:Hid (r.Cz[m].kind=3):=by unfold Hid;simpa using hK
      cases hM:mg out r.Cz[m]
      ·rw [hM] at hd;have HE:Hid (bm r.CA (r.Cz.take (m+1))=out++[⟨r.Cz[m].of,r.Cz[m].lie⟩]):=by
        unfold Hid;rw [H.out,d9,if_pos ⟨an.out,hM⟩]
       have HL:Hid ((out++[(⟨r.Cz[m].of,r.Cz[m].lie⟩:am)]).length=out.length+1):=by unfold Hid;simp
       have HF:Hid (aG out++[.int .i64 r.Cz[m].of,.int .i64 r.Cz[m].lie]=aG (out++[⟨r.Cz[m].of,r.Cz[m].lie⟩])):=by unfold Hid;rw [iR];rfl
       clear hM
       go_wp2_with fail
       clear z hd d0 d1 d2 d3 hK;generalize B:(wr.alloc _).alloc _=W2;have n0:W2.cell? ⟨wr.heap.size+1,0,none⟩=some (.int .i64 r.Cz[m].of):=by rw [<-B];simp [go_sem]
       have n1:W2.cell? ⟨wr.heap.size+1,1,none⟩=some (.int .i64 r.Cz[m].lie):=by rw [<-B];simp [go_sem]
       have a:Cx wr W2:=by rw [<-B];exact f.out
       have s:=aa (aq ho.out a);have T:=aa (HM.out.below a);have ao:Cx W W2:=hb.trans (a.mono hb.size);have ay:wr.heap.size+1<W2.heap.size:=ai n0;clear B ho hb E HM a f;obtain ⟨c,v0,st,w2,w3,ab,ac,z,ad,G,ae,q,hg⟩:=(T.out.below (show Cx W2 W2.drew from blo)).count (hwf.out.Cz m g).1 (hwf.out.Cz m g).2 CG
       have A:=aa q;have I:=aa (xR (aq s.out (show Cx W2 W2.drew from blo)) hg (T.out.apart s.out))
       have U:Cx W w3:=Below.grown (show Cx W W2.drew from blo) hg (show W.heap.size<=W2.heap.size from ao.size) (fun j hj=>by cases hj;exact Y)
       have p0:w3.cell? ⟨wr.heap.size+1,0,none⟩=some (.int .i64 r.Cz[m].of):=ou hg (show W2.drew.cell? _=_ from n0) CN
       have p1:w3.cell? ⟨wr.heap.size+1,1,none⟩=some (.int .i64 r.Cz[m].lie):=ou hg (show W2.drew.cell? _=_ from n1) CN
       have az:wr.heap.size+1<w3.heap.size:=ai p0;have ap:=U.size;clear q hg
       go_region
       all_goals
        go_wp2_with (at_builtin;refine aU rfl (.tmp 54) (.tmp 56) 39 rfl W.heap.size 52 _ 2 16 underlying39 Tryz.infoLie rfl CJ (.slice x out.length y) out.length (aG out) rfl I.out w3.heap.size rfl [.int .i64 r.Cz[m].of,.int .i64 r.Cz[m].lie] rfl rfl CL CK CG CG ?_;intro x' y' w4 J L;have ar:=dw U I.out L CG;have au:=aa (A.out.grown L (A.out.apart I.out));rw [HF.out] at J;have av:=aa J;clear J L)
        go_roundw
        case rel=>exact ⟨m+1,x',y',CG,by go_num,by rw [HE.out,HL.out],by rw [HE.out,HL.out];exact av,by rw [HE.out];exact au,ar⟩
        case measure=>simp [intOf];omega
      ·rw [hM] at hd;have HE:Hid (bm r.CA (r.Cz.take (m+1))=out):=by
        unfold Hid;rw [H.out,d9,if_neg (by rintro ⟨_,h⟩;rw [hM] at h;simp at h)]
       clear hM
       go_wp2_with fail
       go_roundw
       case rel=>exact ⟨m+1,x,y,CG,by go_num,by rw [HE.out],by rw [HE.out];exact aq ho.out f.out,by rw [HE.out];exact HM.out.below f.out,hb.trans (f.out.mono hb.size)⟩
       case measure=>simp [intOf];omega
    ·have HT:Hid (r.Cz.take m=r.Cz):=List.take_of_length_le CG
     rw [HT.out] at ho ⊢;clear HT HM
     go_wp2_with fail
     go_ret
     exact ⟨x,y,rfl,aW ho.out CG,t.trans (hb.mono t.size)⟩
structure bY where
 CF:List aI
 over:List aI
 Cy:List Int
 needs:List am
structure ef where
 pa:Option Addr
 pc:Nat
 ps:dp
 oa:Option Addr
 oc:Nat
 os:dp
 xa:Option Addr
 xc:Nat
 xs:dp
 na:Option Addr
 nc:Nat
 ns:dp
def d5 (r:al):bY:=⟨r.CF,r.over,r.Cy,bm r.CA r.Cz⟩
def jY (d:ef)(c:bY):Value:=
 .agg #[.slice d.pa c.CF.length d.pc,.int .u64 d.ps.a,.int .u64 d.ps.b,.slice d.oa c.over.length d.oc,.int .u64 d.os.a,.int .u64 d.os.b,
  .slice d.xa c.Cy.length d.xc,.int .u64 d.xs.a,.int .u64 d.xs.b,.slice d.na c.needs.length d.nc,.int .u64 d.ns.a,.int .u64 d.ns.b]
structure iB (w:World)(d:ef)(c:bY):Prop where
 CF:bw w d.pa c.CF
 over:bw w d.oa c.over
 Cy:bV w d.xa c.Cy
 needs:aT w d.na c.needs
 kp:d.ps=bS (c.CF.map aI.CB)
 ko:d.os=bS (c.over.map aI.CB)
 kx:d.xs=bS (c.Cy.map id)
 kn:d.ns=bS (c.needs.map am.CB)
theorem iB.below {d:ef}{c:bY}(h:iB w d c)(hb:Cx w w'):iB w' d c:=
 ⟨h.CF.below hb,h.over.below hb,h.Cy.below hb,h.needs.below hb,h.kp,h.ko,h.kx,h.kn⟩
structure dH (w wr:World)(d:ef)(c:bY):Prop where
 CF:bw w d.pa c.CF
 over:bw w d.oa c.over
 Cy:bV w d.xa c.Cy
 needs:∃ B,wr.ownsRow B 52 2 (.slice d.na c.needs.length d.nc) c.needs.length (aG c.needs)
 short:c.needs.length<=maxLen
 kp:d.ps=bS (c.CF.map aI.CB)
 ko:d.os=bS (c.over.map aI.CB)
 kx:d.xs=bS (c.Cy.map id)
 kn:d.ns=bS (c.needs.map am.CB)
theorem dH.at {d:ef}{c:bY}(h:dH w wr d c)(hb:Cx w wr):iB wr d c:=by
 obtain ⟨B,ho⟩:=h.needs;obtain ⟨xa,ya,a,he,_,_⟩:=kj ho h.short;cases a;exact ⟨h.CF.below hb,h.over.below hb,h.Cy.below hb,he,h.kp,h.ko,h.kx,h.kn⟩
theorem xM (h:w.ownsRow B e s v n xs)(hk:∀ b,v.ownBlock=some b->w'.heap[b]? = w.heap[b]?):w'.ownsRow B e s v n xs:=by
 refine ⟨h.1,?_⟩;rcases h.2 with h2 | ⟨g,a,c,h1,h2,h3,h4⟩
 ·exact Or.inl h2
 ·exact Or.inr ⟨g,a,c,h1,h2,(hk g (by rw [h1];rfl)).trans h3,h4⟩
theorem dH.below {wr':World}{d:ef}{c:bY}(h:dH w wr d c)(hb:Cx wr wr'):dH w wr' d c:=by
 obtain ⟨B,ho⟩:=h.needs;exact ⟨h.CF,h.over,h.Cy,⟨B,aq ho hb⟩,h.short,h.kp,h.ko,h.kx,h.kn⟩
theorem dH.grown {wr':World}{d:ef}{c:bY}(h:dH w wr d c)(hv:wr.ownsRow B e s v n xs)(he:52≠e)(hg:wr.grownBy wr' v.ownBlock):dH w wr' d c:=by
 obtain ⟨B',ho⟩:=h.needs;exact ⟨h.CF,h.over,h.Cy,⟨B',ho.kept hg (aV he ho hv)⟩,h.short,h.kp,h.ko,h.kx,h.kn⟩
theorem dH.base {w0:World}{d:ef}{c:bY}(h:dH w wr d c)(hp:bw w0 d.pa c.CF)(ho:bw w0 d.oa c.over)(hx:bV w0 d.xa c.Cy):dH w0 wr d c:=⟨hp,ho,hx,h.needs,h.short,h.kp,h.ko,h.kx,h.kn⟩
structure dn (w:World)(b o:Nat)(d:ef)(c:bY):Prop where
 k0:w.cell? ⟨b,o,none⟩=some (.slice d.pa c.CF.length d.pc)
 k1:w.cell? ⟨b,o+1,none⟩=some (.int .u64 d.ps.a)
 k2:w.cell? ⟨b,o+2,none⟩=some (.int .u64 d.ps.b)
 k3:w.cell? ⟨b,o+3,none⟩=some (.slice d.oa c.over.length d.oc)
 k4:w.cell? ⟨b,o+4,none⟩=some (.int .u64 d.os.a)
 k5:w.cell? ⟨b,o+5,none⟩=some (.int .u64 d.os.b)
 k6:w.cell? ⟨b,o+6,none⟩=some (.slice d.xa c.Cy.length d.xc)
 k7:w.cell? ⟨b,o+7,none⟩=some (.int .u64 d.xs.a)
 k8:w.cell? ⟨b,o+8,none⟩=some (.int .u64 d.xs.b)
 k9:w.cell? ⟨b,o+9,none⟩=some (.slice d.na c.needs.length d.nc)
 k10:w.cell? ⟨b,o+10,none⟩=some (.int .u64 d.ns.a)
 k11:w.cell? ⟨b,o+11,none⟩=some (.int .u64 d.ns.b)
theorem dn.kept {d:ef}{c:bY}(h:dn w b o d c)(e:w'.heap[b]? = w.heap[b]?):dn w' b o d c:=
 ⟨(World.cell?_of_block (w:=w) e).trans h.k0,(World.cell?_of_block (w:=w) e).trans h.k1,(World.cell?_of_block (w:=w) e).trans h.k2,(World.cell?_of_block (w:=w) e).trans h.k3,
 (World.cell?_of_block (w:=w) e).trans h.k4,(World.cell?_of_block (w:=w) e).trans h.k5,(World.cell?_of_block (w:=w) e).trans h.k6,(World.cell?_of_block (w:=w) e).trans h.k7,
 (World.cell?_of_block (w:=w) e).trans h.k8,(World.cell?_of_block (w:=w) e).trans h.k9,(World.cell?_of_block (w:=w) e).trans h.k10,(World.cell?_of_block (w:=w) e).trans h.k11⟩
theorem dn.lt {d:ef}{c:bY}(h:dn w b o d c):b<w.heap.size:=ai h.k0
theorem dn.below {d:ef}{c:bY}(h:dn w b o d c)(hb:Cx w w'):dn w' b o d c:=h.kept (hb.block b h.lt)
theorem jv (w:World)(d:ef)(c:bY)(T:TypeId):dn (w.alloc (.cells #[.slice d.pa c.CF.length d.pc,.int .u64 d.ps.a,.int .u64 d.ps.b,.slice d.oa c.over.length d.oc,.int .u64 d.os.a,.int .u64 d.os.b,
  .slice d.xa c.Cy.length d.xc,.int .u64 d.xs.a,.int .u64 d.xs.b,.slice d.na c.needs.length d.nc,.int .u64 d.ns.a,.int .u64 d.ns.b] T)) w.heap.size 0 d c:=by
 constructor <;> simp [go_sem]
theorem qL {W:World}{o:Obj}(hW:W=w.alloc o)(d:ef)(c:bY)(T:TypeId):dn (W.alloc (.cells #[.slice d.pa c.CF.length d.pc,.int .u64 d.ps.a,.int .u64 d.ps.b,.slice d.oa c.over.length d.oc,.int .u64 d.os.a,.int .u64 d.os.b,
  .slice d.xa c.Cy.length d.xc,.int .u64 d.xs.a,.int .u64 d.xs.b,.slice d.na c.needs.length d.nc,.int .u64 d.ns.a,.int .u64 d.ns.b] T)) (w.heap.size+1) 0 d c:=by
 have h:=jv W d c T;rw [show W.heap.size=w.heap.size+1 by rw [hW];simp] at h
 exact h
def ey (a b:bY):Int:=
 if bN a.CF b.CF=true then 1
 else if dS a.Cy b.Cy=true then 2
 else if fu a.needs b.needs=true then 3
 else if bN a.over b.CF=true\/bN b.over a.CF=true then 4
 else 0
theorem At (a b:al):ey (d5 a) (d5 b)=b9 a b:=by
 unfold ey b9 d5;rw [oQ b.over]
theorem Bt {a b:bY}(h:bN a.CF b.CF=true):ey a b=1:=by unfold ey;rw [if_pos h]
theorem BI {a b:bY}(h1:bN a.CF b.CF=false)(h:dS a.Cy b.Cy=true):ey a b=2:=by unfold ey;rw [if_neg (by simp [h1]),if_pos h]
theorem Bb {a b:bY}(h1:bN a.CF b.CF=false)(h2:dS a.Cy b.Cy=false)(h:fu a.needs b.needs=true):ey a b=3:=by unfold ey;rw [if_neg (by simp [h1]),if_neg (by simp [h2]),if_pos h]
theorem vv {a b:bY}(h1:bN a.CF b.CF=false)(h2:dS a.Cy b.Cy=false)(h3:fu a.needs b.needs=false)(h:bN a.over b.CF=true\/bN b.over a.CF=true):ey a b=4:=by unfold ey;rw [if_neg (by simp [h1]),if_neg (by simp [h2]),if_neg (by simp [h3]),if_pos h]
theorem Bd {a b:bY}(h1:bN a.CF b.CF=false)(h2:dS a.Cy b.Cy=false)(h3:fu a.needs b.needs=false)(h4:bN a.over b.CF=false)(h5:bN b.over a.CF=false):ey a b=0:=by unfold ey;rw [if_neg (by simp [h1]),if_neg (by simp [h2]),if_neg (by simp [h3]),if_neg (by simp [h4,h5])]
theorem uR (d d':ef)(a b:bY)(w:World)(ha:Hid (iB w d a))(hb:Hid (iB w d' b)):
  Calls prog 123 #[jY d a,jY d' b] w fun e w'=>e = .returned (.int .i64 (ey a b))/\Cx w w':=by
 unfold jY
 go_enter func123,ntmps123
 go_wp2_with fail
 generalize hW:(w.alloc _).alloc _=W;have HA:Hid (dn W w.heap.size 0 d a):=by rw [<-hW];exact (jv w d a _).below blo
 have HB:Hid (dn W (w.heap.size+1) 0 d' b):=by rw [<-hW];exact qL rfl d' b _
 have c:Cx w W:=by rw [<-hW];exact blo
 have hz:w.heap.size+1<W.heap.size:=by rw [<-hW];simp
 have LA:=aa (ha.out.below c);have LB:=aa (hb.out.below c);clear hW ha hb;refine (kR _ _ _ _ a.CF b.CF d.ps d'.ps LA.out.kp LB.out.kp _ LA.out.CF LB.out.CF).mono ?_;rintro e w1 ⟨rfl,f⟩;have s:w.heap.size+1<w1.heap.size:=Nat.lt_of_lt_of_le hz f.size;have n:w.heap.size<w1.heap.size:=CG
 cases t1:bN a.CF b.CF
 rotate_left
 ·have HX:=aa (Bt t1);clear t1
  go_wp2_with fail
  go_ret
  exact ⟨bB HX.out.symm,c.trans (f.mono c.size)⟩
 have T1:=aa t1;clear t1;have x6:w1.cell? ⟨w.heap.size,6,none⟩=some (.slice d.xa a.Cy.length d.xc):=(HA.out.below f).k6;have x7:w1.cell? ⟨w.heap.size,7,none⟩=some (.int .u64 d.xs.a):=(HA.out.below f).k7;have x8:w1.cell? ⟨w.heap.size,8,none⟩=some (.int .u64 d.xs.b):=(HA.out.below f).k8;have y6:w1.cell? ⟨w.heap.size+1,6,none⟩=some (.slice d'.xa b.Cy.length d'.xc):=(HB.out.below f).k6;have y7:w1.cell? ⟨w.heap.size+1,7,none⟩=some (.int .u64 d'.xs.a):=(HB.out.below f).k7;have y8:w1.cell? ⟨w.heap.size+1,8,none⟩=some (.int .u64 d'.xs.b):=(HB.out.below f).k8
 go_wp2_with fail
 clear x6 x7 x8 y6 y7 y8 s n;refine (uJ _ _ _ _ a.Cy b.Cy d.xs d'.xs LA.out.kx LB.out.kx _ (LA.out.below f).Cy (LB.out.below f).Cy).mono ?_;rintro e w2 ⟨rfl,j⟩;have g:=f.trans (j.mono f.size);have t:w.heap.size+1<w2.heap.size:=Nat.lt_of_lt_of_le hz g.size;have o:w.heap.size<w2.heap.size:=CG
 clear f j;cases t2:dS a.Cy b.Cy
 rotate_left
 ·have HX:=aa (BI T1.out t2);clear t2
  go_wp2_with fail
  go_ret
  exact ⟨bB HX.out.symm,c.trans (g.mono c.size)⟩
 have T2:=aa t2;clear t2;have x6:w2.cell? ⟨w.heap.size,9,none⟩=some (.slice d.na a.needs.length d.nc):=(HA.out.below g).k9;have x7:w2.cell? ⟨w.heap.size,10,none⟩=some (.int .u64 d.ns.a):=(HA.out.below g).k10;have x8:w2.cell? ⟨w.heap.size,11,none⟩=some (.int .u64 d.ns.b):=(HA.out.below g).k11;have y6:w2.cell? ⟨w.heap.size+1,9,none⟩=some (.slice d'.na b.needs.length d'.nc):=(HB.out.below g).k9;have y7:w2.cell? ⟨w.heap.size+1,10,none⟩=some (.int .u64 d'.ns.a):=(HB.out.below g).k10;have y8:w2.cell? ⟨w.heap.size+1,11,none⟩=some (.int .u64 d'.ns.b):=(HB.out.below g).k11
 go_wp2_with fail
 clear x6 x7 x8 y6 y7 y8 t o;refine (vp _ _ _ _ a.needs b.needs d.ns d'.ns LA.out.kn LB.out.kn _ (LA.out.below g).needs (LB.out.below g).needs).mono ?_;rintro e w3 ⟨rfl,k⟩;have h:=g.trans (k.mono g.size);have u:w.heap.size+1<w3.heap.size:=Nat.lt_of_lt_of_le hz h.size;have p:w.heap.size<w3.heap.size:=CG
 clear g k;cases t3:fu a.needs b.needs
 rotate_left
 ·have HX:=aa (Bb T1.out T2.out t3);clear t3
  go_wp2_with fail
  go_ret
  exact ⟨bB HX.out.symm,c.trans (h.mono c.size)⟩
 have T3:=aa t3;clear t3;have x6:w3.cell? ⟨w.heap.size,3,none⟩=some (.slice d.oa a.over.length d.oc):=(HA.out.below h).k3;have x7:w3.cell? ⟨w.heap.size,4,none⟩=some (.int .u64 d.os.a):=(HA.out.below h).k4;have x8:w3.cell? ⟨w.heap.size,5,none⟩=some (.int .u64 d.os.b):=(HA.out.below h).k5;have y6:w3.cell? ⟨w.heap.size+1,0,none⟩=some (.slice d'.pa b.CF.length d'.pc):=(HB.out.below h).k0;have y7:w3.cell? ⟨w.heap.size+1,1,none⟩=some (.int .u64 d'.ps.a):=(HB.out.below h).k1;have y8:w3.cell? ⟨w.heap.size+1,2,none⟩=some (.int .u64 d'.ps.b):=(HB.out.below h).k2
 go_wp2_with fail
 clear x6 x7 x8 y6 y7 y8 u p;refine (kR _ _ _ _ a.over b.CF d.os d'.ps LA.out.ko LB.out.kp _ (LA.out.below h).over (LB.out.below h).CF).mono ?_;rintro e w4 ⟨rfl,l⟩;have i:=h.trans (l.mono h.size);have v:w.heap.size+1<w4.heap.size:=Nat.lt_of_lt_of_le hz i.size;have q:w.heap.size<w4.heap.size:=CG
 clear h l;cases t4:bN a.over b.CF
 rotate_left
 ·have HX:=aa (vv T1.out T2.out T3.out (Or.inl t4));clear t4
  go_wp2_with fail
  go_ret
  exact ⟨bB HX.out.symm,c.trans (i.mono c.size)⟩
 have T4:=aa t4;clear t4;have x6:w4.cell? ⟨w.heap.size+1,3,none⟩=some (.slice d'.oa b.over.length d'.oc):=(HB.out.below i).k3;have x7:w4.cell? ⟨w.heap.size+1,4,none⟩=some (.int .u64 d'.os.a):=(HB.out.below i).k4;have x8:w4.cell? ⟨w.heap.size+1,5,none⟩=some (.int .u64 d'.os.b):=(HB.out.below i).k5;have y6:w4.cell? ⟨w.heap.size,0,none⟩=some (.slice d.pa a.CF.length d.pc):=(HA.out.below i).k0;have y7:w4.cell? ⟨w.heap.size,1,none⟩=some (.int .u64 d.ps.a):=(HA.out.below i).k1;have y8:w4.cell? ⟨w.heap.size,2,none⟩=some (.int .u64 d.ps.b):=(HA.out.below i).k2
 go_wp2_with fail
 clear x6 x7 x8 y6 y7 y8 v q;refine (kR _ _ _ _ b.over a.CF d'.os d.ps LB.out.ko LA.out.kp _ (LB.out.below i).over (LA.out.below i).CF).mono ?_;rintro e w5 ⟨rfl,m⟩;have r:=i.trans (m.mono i.size);clear i m;cases t5:bN b.over a.CF
 ·have HX:=aa (Bd T1.out T2.out T3.out T4.out t5);clear t5
  go_wp2_with fail
  go_ret
  exact ⟨bB HX.out.symm,c.trans (r.mono c.size)⟩
 ·have HX:=aa (vv T1.out T2.out T3.out (Or.inr t5));clear t5
  go_wp2_with fail
  go_ret
  exact ⟨bB HX.out.symm,c.trans (r.mono c.size)⟩
theorem sG {W:World}{o:Obj}(hW:W=w.alloc o)(c:Array Value)(T:Nat):(W.alloc (.cells c T)).rowIs (w.heap.size+1) T c.size (fun j=>c.getD j (.bool false)):=by
 have h:=nw W c T;rw [show W.heap.size=w.heap.size+1 by rw [hW];simp] at h
 exact h
theorem BJ {u:World}{T:TypeId}{f:Nat->Value}(h:u.rowIs B T 12 f)(v0 v1 v2 v3 v4 v5 v6 v7 v8 v9 v10 v11:Value):
  ∃ U,U=((((((((((((u.setCell ⟨B,0,none⟩ v0).setCell ⟨B,1,none⟩ v1).setCell ⟨B,2,none⟩ v2).setCell ⟨B,3,none⟩ v3).setCell ⟨B,4,none⟩ v4).setCell ⟨B,5,none⟩ v5).setCell ⟨B,6,none⟩ v6).setCell ⟨B,7,none⟩ v7).setCell ⟨B,8,none⟩ v8).setCell ⟨B,9,none⟩ v9).setCell ⟨B,10,none⟩ v10).setCell ⟨B,11,none⟩ v11)/\U.cell? ⟨B,0,none⟩=some v0/\U.cell? ⟨B,1,none⟩=some v1/\U.cell? ⟨B,2,none⟩=some v2/\U.cell? ⟨B,3,none⟩=some v3/\U.cell? ⟨B,4,none⟩=some v4/\U.cell? ⟨B,5,none⟩=some v5/\U.cell? ⟨B,6,none⟩=some v6/\U.cell? ⟨B,7,none⟩=some v7/\U.cell? ⟨B,8,none⟩=some v8/\U.cell? ⟨B,9,none⟩=some v9/\U.cell? ⟨B,10,none⟩=some v10/\U.cell? ⟨B,11,none⟩=some v11/\(∀ k,k≠B->U.heap[k]? = u.heap[k]?)/\(∀ B0 w0,B0<=B->Below B0 w0 u->Below B0 w0 U):=by
 have hr:=((((((((((((h.set 0 v0).set 1 v1).set 2 v2).set 3 v3).set 4 v4).set 5 v5).set 6 v6).set 7 v7).set 8 v8).set 9 v9).set 10 v10).set 11 v11);refine ⟨_,rfl,?_,?_,?_,?_,?_,?_,?_,?_,?_,?_,?_,?_,?_,?_⟩
 iterate 12 (rw [hr.cell CG];simp)
 ·intro k hk
  iterate 12 rw [Below.heap_setCell _ _ _ _ hk]
 ·intro B0 w0 hB hb;exact ((((((((((((hb.setCell (show B0<=(⟨B,0,none⟩:Addr).block from hB) v0).setCell (show B0<=(⟨B,1,none⟩:Addr).block from hB) v1).setCell (show B0<=(⟨B,2,none⟩:Addr).block from hB) v2).setCell (show B0<=(⟨B,3,none⟩:Addr).block from hB) v3).setCell (show B0<=(⟨B,4,none⟩:Addr).block from hB) v4).setCell (show B0<=(⟨B,5,none⟩:Addr).block from hB) v5).setCell (show B0<=(⟨B,6,none⟩:Addr).block from hB) v6).setCell (show B0<=(⟨B,7,none⟩:Addr).block from hB) v7).setCell (show B0<=(⟨B,8,none⟩:Addr).block from hB) v8).setCell (show B0<=(⟨B,9,none⟩:Addr).block from hB) v9).setCell (show B0<=(⟨B,10,none⟩:Addr).block from hB) v10).setCell (show B0<=(⟨B,11,none⟩:Addr).block from hB) v11)
theorem vb (d:aL)(r:al)(w:World)(hl:Hid (bq w d r))(hs:Hid (nf r))(hwf:Hid (WfR r)):
  Calls prog 121 #[cC d r] w fun e w' => ∃ dc,e = .returned (jY dc (d5 r))/\Hid (dH w w' dc (d5 r))/\Hid (dc.pa=d.a3/\dc.oa=d.a4/\dc.xa=d.a2)/\Cx w w':=by
 obtain ⟨a0,c0,a1,c1,a2,c2,a3,c3,a4,c4,a5,c5⟩:=d;unfold cC;dsimp only
 go_enter func121,ntmps121
 go_wp2_with fail
 generalize hW:(w.alloc _).alloc _=W;have HA:Hid (aA W w.heap.size 0 ⟨a0,c0,a1,c1,a2,c2,a3,c3,a4,c4,a5,c5⟩ r):=by rw [<-hW];exact (fg w ⟨a0,c0,a1,c1,a2,c2,a3,c3,a4,c4,a5,c5⟩ r _).below blo
 have HR:Hid (∃ f,W.rowIs (w.heap.size+1) 234 12 f):=by rw [<-hW];exact ⟨_,sG rfl _ _⟩
 have t:Cx w W:=by rw [<-hW];exact blo
 have hz:w.heap.size+1<W.heap.size:=by rw [<-hW];simp
 have ai:w.heap.size<W.heap.size:=CG
 have HL:=aa (hl.out.below t);have u:=hl;clear hW hl;obtain ⟨f,hf⟩:=HR.out;have HF:=aa hf;clear hf HR;have z0:W.cell? ⟨w.heap.size,0,none⟩=some (.int .i64 r.start):=HA.out.k0;have z1:W.cell? ⟨w.heap.size,1,none⟩=some (.int .i64 r.stop):=HA.out.k1;have z2:W.cell? ⟨w.heap.size,2,none⟩=some (.slice a0 r.CE.length c0):=HA.out.k2;have z3:W.cell? ⟨w.heap.size,3,none⟩=some (.slice a1 r.CA.length c1):=HA.out.k3;have z4:W.cell? ⟨w.heap.size,4,none⟩=some (.slice a2 r.Cy.length c2):=HA.out.k4;have z5:W.cell? ⟨w.heap.size,5,none⟩=some (.slice a3 r.CF.length c3):=HA.out.k5;have z6:W.cell? ⟨w.heap.size,6,none⟩=some (.slice a4 r.over.length c4):=HA.out.k6;have z7:W.cell? ⟨w.heap.size,7,none⟩=some (.slice a5 r.Cz.length c5):=HA.out.k7;clear HA
 go_region_held3 (fun w'=>w'.cell? ⟨w.heap.size,0,none⟩=some (.int .i64 r.start)/\w'.cell? ⟨w.heap.size,1,none⟩=some (.int .i64 r.stop)/\w'.cell? ⟨w.heap.size,2,none⟩=some (.slice a0 r.CE.length c0)/\w'.cell? ⟨w.heap.size,3,none⟩=some (.slice a1 r.CA.length c1)/\w'.cell? ⟨w.heap.size,4,none⟩=some (.slice a2 r.Cy.length c2)/\w'.cell? ⟨w.heap.size,5,none⟩=some (.slice a3 r.CF.length c3)/\w'.cell? ⟨w.heap.size,6,none⟩=some (.slice a4 r.over.length c4)/\w'.cell? ⟨w.heap.size,7,none⟩=some (.slice a5 r.Cz.length c5)) (first | go_keep | (refine ⟨?_,?_,?_,?_,?_,?_,?_,?_⟩ <;> assumption))
  (first
   | (go_at_call_of 146 (r.CF);refine (mR a3 c3 r.CF W.drew (HL.out.below CV.drew).CF).mono ?_;rintro e w1 ⟨rfl,o⟩;unfold dQ;generalize C:bS (r.CF.map aI.CB)=sp;have I:=aa C;have m:Cx W w1:=CV.drew.trans o;replace z0:=cell_later m z0;replace z1:=cell_later m z1;replace z2:=cell_later m z2;replace z3:=cell_later m z3;replace z4:=cell_later m z4;replace z5:=cell_later m z5;replace z6:=cell_later m z6;replace z7:=cell_later m z7;clear o C)
   | (go_at_call_of 146 (r.over);refine (mR a4 c4 r.over w1 (HL.out.below m).over).mono ?_;rintro e w2 ⟨rfl,j⟩;unfold dQ;generalize D:bS (r.over.map aI.CB)=so;have J:=aa D;have z:=m.trans (j.mono m.size);replace z0:=cell_later j z0;replace z1:=cell_later j z1;replace z2:=cell_later j z2;replace z3:=cell_later j z3;replace z4:=cell_later j z4;replace z5:=cell_later j z5;replace z6:=cell_later j z6;replace z7:=cell_later j z7;clear j D)
   | (go_at_call 148;refine (tj a2 c2 r.Cy w2 (HL.out.below z).Cy).mono ?_;rintro e w3 ⟨rfl,k⟩;unfold dQ;generalize E:bS (r.Cy.map id)=sx;have L:=aa E;have n:=z.trans (k.mono z.size);replace z0:=cell_later k z0;replace z1:=cell_later k z1;replace z2:=cell_later k z2;replace z3:=cell_later k z3;replace z4:=cell_later k z4;replace z5:=cell_later k z5;replace z6:=cell_later k z6;replace z7:=cell_later k z7;clear k E)
   | (go_at_call 151;refine (rM ⟨a0,c0,a1,c1,a2,c2,a3,c3,a4,c4,a5,c5⟩ r w3 (HL.out.below n).CA (HL.out.below n).Cz hs.out.CA hs.out.Cz hwf (HL.out.below n).nil1).mono ?_;rintro e w4 ⟨x,y,rfl,p,l⟩;generalize s:bm r.CA r.Cz=nn at p ⊢;have F:=aa s;have G:=n.trans (l.mono n.size);replace z0:=cell_later l z0;replace z1:=cell_later l z1;replace z2:=cell_later l z2;replace z3:=cell_later l z3;replace z4:=cell_later l z4;replace z5:=cell_later l z5;replace z6:=cell_later l z6;replace z7:=cell_later l z7;obtain ⟨xa,ya,M,he,_,_⟩:=kj p (by have h1:=fV r.Cz r.CA;have h2:=hs.out.CA;have h3:=hs.out.Cz;rw [<-s];unfold bm maxLen;omega);cases M;have N:=aa he;have O:Hid (∀ b,(Value.slice x nn.length y).ownBlock=some b->w.heap.size+1<b):=(fun b e=>by have h1:=(p.lt b e).1;have h2:=n.size;omega);have R:=aa p;have T:Hid (nn.length<=maxLen):=(by have h1:=fV r.Cz r.CA;have h2:=hs.out.CA;have h3:=hs.out.Cz;unfold Hid;rw [<-s];unfold bm maxLen;omega);clear he l p s)
   | (go_at_call 150;refine (td x y nn w4 N).mono ?_;rintro e w5 ⟨rfl,g⟩;unfold dQ;generalize H:bS (nn.map am.CB)=sn;have V:=aa H;have A:=G.trans (g.mono G.size);have X:=aa (aq R.out g);replace z0:=cell_later g z0;replace z1:=cell_later g z1;replace z2:=cell_later g z2;replace z3:=cell_later g z3;replace z4:=cell_later g z4;replace z5:=cell_later g z5;replace z6:=cell_later g z6;replace z7:=cell_later g z7;have c:=HF.out.of_block (A.block _ hz);have g0:=c.cell (i:=0) CG;have aj:=c.frozen 0;have g1:=c.cell (i:=1) CG;have ak:=c.frozen 1;have g2:=c.cell (i:=2) CG;have an:=c.frozen 2;have g3:=c.cell (i:=3) CG;have ao:=c.frozen 3;have g4:=c.cell (i:=4) CG;have ap:=c.frozen 4;have g5:=c.cell (i:=5) CG;have ar:=c.frozen 5;have g6:=c.cell (i:=6) CG;have au:=c.frozen 6;have g7:=c.cell (i:=7) CG;have av:=c.frozen 7;have g8:=c.cell (i:=8) CG;have aw:=c.frozen 8;have g9:=c.cell (i:=9) CG;have ax:=c.frozen 9;have Y:=c.cell (i:=10) CG;have Z:=c.frozen 10;have ab:=c.cell (i:=11) CG;have ac:=c.frozen 11;have ay:w.heap.size+1<w5.heap.size:=Nat.lt_of_lt_of_le hz A.size;have ad:=aa c;clear g c H))
 all_goals
  clear z0 z1 z2 z3 z4 z5 z6 z7;have ae:=t.trans (A.mono t.size)
  go_wp2_with fail
  obtain ⟨U,hU,k0,k1,k2,k3,k4,k5,k6,k7,k8,k9,af,ag,B,q⟩:=BJ ad.out (.slice a3 r.CF.length c3) (.int .u64 sp.a) (.int .u64 sp.b) (.slice a4 r.over.length c4) (.int .u64 so.a) (.int .u64 so.b) (.slice a2 r.Cy.length c2) (.int .u64 sx.a) (.int .u64 sx.b) (.slice x nn.length y) (.int .u64 sn.a) (.int .u64 sn.b);rw [<-hU];have ah:=q _ _ (Nat.le_succ _) ae;clear hU q g0 g1 g2 g3 g4 g5 g6 g7 g8 g9 Y ab;refine bodyPost_ret (v:=jY ⟨a3,c3,sp,a4,c4,so,a2,c2,sx,x,y,sn⟩ ⟨r.CF,r.over,r.Cy,nn⟩) (by unfold jY;simp [results,results121,go_sem,k0,k1,k2,k3,k4,k5,k6,k7,k8,k9,af,ag]) rfl ⟨⟨a3,c3,sp,a4,c4,so,a2,c2,sx,x,y,sn⟩,?_,?_,⟨rfl,rfl,rfl⟩,ah⟩
  ·unfold d5;rw [F.out]
  ·unfold d5;rw [F.out];exact ⟨u.out.CF,u.out.over,u.out.Cy,⟨_,xM X.out (fun b e=>B b (by have h:=O.out b e;omega))⟩,T.out,I.out.symm,J.out.symm,L.out.symm,V.out.symm⟩
end Go.Proofs.YtmkdgnmmebldgaaGreatDoor
