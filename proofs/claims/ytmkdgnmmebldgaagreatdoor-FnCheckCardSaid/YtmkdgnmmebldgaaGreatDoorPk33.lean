import Derived.Test.YtmkdgnmmebldgaaGreatDoorPk2
import Derived.Test.YtmkdgnmmebldgaaGreatDoorPk5
import Derived.Test.YtmkdgnmmebldgaaGreatDoorPk3
import Derived.Test.YtmkdgnmmebldgaaGreatDoorPk26
set_option maxRecDepth 100000
set_option maxHeartbeats 8000000
open Go.Proofs.Tryz
namespace Go.Proofs.YtmkdgnmmebldgaaGreatDoor
open Go.RowKit
def dI (x y:aI):Bool:=x.CB==y.CB&&decide (x.lo<=y.hi)&&decide (y.lo<=x.hi)
def bN (a b:List aI):Bool:=a.any fun x=>b.any fun y=>dI x y
def dS (a b:List Int):Bool:=a.any fun x=>b.any fun y=>x==y
def fu (a b:List am):Bool:=a.any fun x=>b.any fun y=>x.CB==y.CB&&x.side != y.side
def mg (out:List am)(f:aN):Bool:=out.any fun x=>x.CB==f.of&&x.side==f.lie
def d9 (out:List am)(f:aN):List am:=if f.kind=3/\mg out f=false then out++[⟨f.of,f.lie⟩] else out
def bm (CA:List am)(Cz:List aN):List am:=Cz.foldl d9 CA
def b9 (a b:al):Int:=
 if bN a.CF b.CF=true then 1
 else if dS a.Cy b.Cy=true then 2
 else if fu (bm a.CA a.Cz) (bm b.CA b.Cz)=true then 3
 else if bN a.over b.CF=true\/bN a.CF b.over=true then 4
 else 0
def bD (rs:List al):List (List Int):=if 300<rs.length then [] else rs.map fun a=>rs.map (b9 a)
theorem fd {α:Type}{p:α->Bool}{l:List α}{i:Nat}(hi:i<l.length)(h:p l[i]=true):l.any p=true:=List.any_eq_true.2 ⟨_,List.getElem_mem hi,h⟩
theorem eB {α:Type}{p:α->Bool}{l:List α}(h:∀ i (hi:i<l.length),p l[i]=false):l.any p=false:=by
 rw [List.any_eq_false];intro x hx;obtain ⟨i,hi,rfl⟩:=List.getElem_of_mem hx;rw [h i hi];simp
theorem sq {α:Type}(p:α->Bool)(l:List α)(k:Nat)(hk:k<l.length):(l.take (k+1)).any p=((l.take k).any p || p l[k]):=by
 rw [List.take_succ_eq_append_getElem hk,List.any_append];simp
theorem qK {α β:Type}(f:β->α->β)(b:β)(l:List α)(k:Nat)(hk:k<l.length):(l.take (k+1)).foldl f b=f ((l.take k).foldl f b) l[k]:=by
 rw [List.take_succ_eq_append_getElem hk,List.foldl_append];rfl
theorem tl (out:List am)(f:aN):(d9 out f).length<=out.length+1:=by
 unfold d9
 split <;> simp
theorem fV:∀ (fs:List aN)(out:List am),(fs.foldl d9 out).length<=out.length+fs.length
 | [],out=>CI
 | f::r,out=>by
  have h1:=fV r (d9 out f);have h2:=tl out f;simp only [List.foldl_cons,List.length_cons];omega
end Go.Proofs.YtmkdgnmmebldgaaGreatDoor
namespace Go.Proofs.YtmkdgnmmebldgaaGreatDoor
open Go.RowKit Go.Deep
variable {a b:al}
theorem jd (a b:Option Addr)(ac bc:Nat)(xs ys:List aI)(w:World)(ha:Hid (bw w a xs))(hb:Hid (bw w b ys)):
  Calls prog 93 #[.slice a xs.length ac,.slice b ys.length bc] w fun e w'=>e = .returned (.bool (bN xs ys))/\Cx w w':=by
 have hl:=ha.out.1;have p:=hb.out.1;unfold maxLen at hl p
 go_enter func93,ntmps93
 go_wp2_with fail
 go_loopw [11] (fun i wr => ∃ (k:Nat),k<=xs.length/\i = .int .i64 k/\Hid (∀ q (hq:q<xs.length),q<k->(ys.any fun y=>dI xs[q] y)=false)/\Cx w wr) (fun i _=>xs.length-(intOf i).toNat)
 case atStart=>exact ⟨0,Nat.zero_le _,rfl,(fun q _ h=>absurd h (Nat.not_lt_zero q)),Below.refl _ _⟩
 case round =>
  obtain ⟨k,hk,rfl,HQ,g⟩:=hrel;have C:=g.size
  by_cases j:k<xs.length
  ·obtain ⟨b1,r,rfl,d⟩:=ha.out.2.resolve_left (nz j);obtain ⟨c0,c1,c2⟩:=(d.below g) k j;clear d
   go_wp2_with fail
   generalize hW:wr.alloc (Obj.cells #[Value.int IntKind.i64 xs[k].CB,Value.int IntKind.i64 xs[k].lo,Value.int IntKind.i64 xs[k].hi] 48)=W;have p0:W.cell? ⟨wr.heap.size,0,none⟩=some (.int .i64 xs[k].CB):=by rw [<-hW];simp [go_sem]
   have p1:W.cell? ⟨wr.heap.size,1,none⟩=some (.int .i64 xs[k].lo):=by rw [<-hW];simp [go_sem]
   have p2:W.cell? ⟨wr.heap.size,2,none⟩=some (.int .i64 xs[k].hi):=by rw [<-hW];simp [go_sem]
   have o:Cx w W:=by rw [<-hW];exact blo
   have s:wr.heap.size<W.heap.size:=by rw [<-hW];simp
   clear hW c0 c1 c2 g
   go_loopw [17] (fun i t => ∃ (m:Nat),m<=ys.length/\i = .int .i64 m/\Hid (∀ q (hq:q<ys.length),q<m->dI xs[k] ys[q]=false)/\Cx W t) (fun i _=>ys.length-(intOf i).toNat)
   case atStart=>exact ⟨0,Nat.zero_le _,rfl,(fun q _ h=>absurd h (Nat.not_lt_zero q)),Below.refl _ _⟩
   case round =>
    obtain ⟨m,hm,rfl,HM,c⟩:=hrel;have u:=c.size;have l:=o.trans (c.mono o.size);have v:=l.size
    by_cases n:m<ys.length
    ·obtain ⟨b3,x,rfl,f⟩:=hb.out.2.resolve_left (nz n);obtain ⟨d0,d1,d2⟩:=(f.below l) m n;have q0:=cell_later c p0;have q1:=cell_later c p1;have q2:=cell_later c p2;have D:=Nat.lt_of_lt_of_le s c.size;clear f;cases hT:dI xs[k] ys[m]
     ·have z:Hid (∀ q (hq:q<ys.length),q<m+1->dI xs[k] ys[q]=false):=by
       intro q hq E
       by_cases e:q<m
       ·exact HM.out q hq e
       ·have:q=m:=CG
        subst this;exact hT
      have A:(xs[k].CB==ys[m].CB)=false\/(xs[k].CB==ys[m].CB)=true/\(decide (xs[k].lo<=ys[m].hi)=false\/decide (xs[k].lo<=ys[m].hi)=true/\decide (ys[m].lo<=xs[k].hi)=false):=by
       unfold dI at hT
       revert hT
       cases (xs[k].CB==ys[m].CB) <;> cases decide (xs[k].lo<=ys[m].hi) <;> cases decide (ys[m].lo<=xs[k].hi) <;> simp
      clear hT HM;rcases A with t1 | ⟨t1,t2 | ⟨t2,t3⟩⟩
      all_goals
       go_wp2_with fail
       go_roundw
       case rel=>exact ⟨m+1,CG,by go_num,z,blo⟩
       case measure=>simp [intOf];omega
     ·have HX:Hid (bN xs ys=true):=fd j (fd n hT);obtain ⟨t1,t2,t3⟩:(xs[k].CB==ys[m].CB)=true/\decide (xs[k].lo<=ys[m].hi)=true/\decide (ys[m].lo<=xs[k].hi)=true:=by
       unfold dI at hT;simp only [Bool.and_eq_true] at hT;exact ⟨hT.1.1,hT.1.2,hT.2⟩
      clear hT HM
      go_wp2_with fail
      go_ret
      exact ⟨aK HX.out.symm,blo⟩
    ·have B:Hid (∀ q (hq:q<xs.length),q<k+1->(ys.any fun y=>dI xs[q] y)=false):=by
      intro q hq F
      by_cases e:q<k
      ·exact HQ.out q hq e
      ·have:q=k:=CG
       subst this;exact eB (fun i hi=>HM.out i hi CG)
     clear HM HQ
     go_wp2_with fail
     go_roundw
     case rel=>exact ⟨k+1,CG,by go_num,B,l⟩
     case measure=>simp [intOf];omega
  ·have HX:Hid (bN xs ys=false):=eB (fun i hi=>HQ.out i hi CG)
   clear HQ
   go_wp2_with fail
   go_ret
   exact ⟨aK HX.out.symm,g⟩
theorem wJ (es:List am)(k:Nat)(hk:k<es.length):aG (es.take k)++[.int .i64 es[k].CB,.int .i64 es[k].side]=aG (es.take (k+1)):=by
 rw [List.take_succ_eq_append_getElem hk,iR];rfl
theorem pY (CA:List am)(fs:List aN)(m:Nat)(hm:m<fs.length):bm CA (fs.take (m+1))=d9 (bm CA (fs.take m)) fs[m]:=qK d9 CA fs m hm
theorem lj (CA:List am)(fs:List aN)(m:Nat):(bm CA (fs.take m)).length<=CA.length+fs.length:=by
 have h1:=fV (fs.take m) CA;have h2:(fs.take m).length<=fs.length:=by rw [List.length_take];omega
 unfold bm;omega
theorem mp (d:aL)(r:al)(w:World)(h1:Hid (aT w d.a1 r.CA))(h5:Hid (cw w d.a5 r.Cz))(hl1:r.CA.length<=1048576)(hl5:r.Cz.length<=1048576):
  Calls prog 94 #[cC d r] w fun e w' => ∃ x y,e = .returned (.slice x (bm r.CA r.Cz).length y)/\w'.ownsRow w.heap.size 52 2 (.slice x (bm r.CA r.Cz).length y) (bm r.CA r.Cz).length (aG (bm r.CA r.Cz))/\Cx w w':=by
 unfold cC;obtain ⟨a0,c0,a1,c1,a2,c2,a3,c3,a4,c4,a5,c5⟩:=d;dsimp only at h1 h5 ⊢
 go_enter func94,ntmps94
 go_wp2_with fail
 generalize hW:w.alloc _=W;have e3:W.cell? ⟨w.heap.size,3,none⟩=some (.slice a1 r.CA.length c1):=by rw [<-hW];simp [go_sem]
 have e7:W.cell? ⟨w.heap.size,7,none⟩=some (.slice a5 r.Cz.length c5):=by rw [<-hW];simp [go_sem]
 have hz:w.heap.size+1=W.heap.size:=by rw [<-hW];simp
 have o:Cx w W:=by rw [<-hW];exact blo
 have H1:=aa (h1.out.below o);have H5:=aa (h5.out.below o);clear hW h1 h5
 go_loopw [3,14] (fun v i wr => ∃ (k:Nat) (x:Option Addr) (y:Nat),k<=r.CA.length/\i = .int .i64 k/\v = .slice x k y/\Hid (wr.ownsRow W.heap.size 52 2 (.slice x k y) k (aG (r.CA.take k)))/\Cx W wr) (fun _ i _=>r.CA.length-(intOf i).toNat)
 case atStart=>exact ⟨0,none,0,Nat.zero_le _,rfl,rfl,World.ownsRow_nil _ _ _ _,Below.refl _ _⟩
 case round =>
  obtain ⟨k,x,y,hk,rfl,rfl,ho,hb⟩:=hrel;have u:=hb.size
  by_cases p:k<r.CA.length
  ·obtain ⟨b1,z,rfl,f⟩:=H1.out.2.resolve_left (nz p);obtain ⟨d0,d1⟩:=(f.below hb) k p;have G:=ai d0;clear f
   go_wp2_with (at_builtin;refine aU rfl (.tmp 18) (.tmp 20) 39 rfl W.heap.size 52 _ 2 16 underlying39 Tryz.infoLie rfl CJ (.slice x k y) k (aG (r.CA.take k)) rfl (ho.out.alloc _) (wr.heap.size+1) CI [.int .i64 r.CA[k].CB,.int .i64 r.CA[k].side] rfl rfl CL CK CG CN ?_;intro x' y' w2 a g;have j:=dw (show Cx W _ from blo) (ho.out.alloc _) g CN;rw [wJ _ _ p] at a;have l:=aa a;clear a g)
   go_roundw
   case rel=>exact ⟨k+1,x',y',CG,by go_num,rfl,l,j⟩
   case measure=>simp [intOf];omega
  ·have HT:Hid (r.CA.take k=r.CA):=List.take_of_length_le CG
   have s:k=r.CA.length:=CG
   have HO:Hid (wr.ownsRow W.heap.size 52 2 (.slice x k y) (bm r.CA (r.Cz.take 0)).length (aG (bm r.CA (r.Cz.take 0)))):=by have:=ho.out;rw [HT.out] at this;rw [s] at this ⊢;exact this
   have L:=cell_later hb e7;have M:w.heap.size<wr.heap.size:=CG
   have HB:=aa hb;clear ho HT
   go_wp2_with fail
   clear L M hb u
   go_loopw [3,26] (fun v i wr => ∃ (m:Nat) (x:Option Addr) (y:Nat),m<=r.Cz.length/\i = .int .i64 m/\v = .slice x (bm r.CA (r.Cz.take m)).length y/\Hid (wr.ownsRow W.heap.size 52 2 (.slice x (bm r.CA (r.Cz.take m)).length y) (bm r.CA (r.Cz.take m)).length (aG (bm r.CA (r.Cz.take m))))/\Cx W wr) (fun _ i _=>r.Cz.length-(intOf i).toNat)
   case atStart=>exact ⟨0,x,y,Nat.zero_le _,rfl,by rw [s];rfl,by rw [s] at HO;exact HO,HB.out⟩
   case round =>
    clear HO HB s hk p;obtain ⟨m,x,y,hm,rfl,rfl,ho,hb⟩:=hrel;have u:=hb.size
    by_cases A:m<r.Cz.length
    ·have N:=aa (lj r.CA r.Cz m);have B:=aa (pY r.CA r.Cz m A);generalize hN:bm r.CA (r.Cz.take m)=out at *;clear hN;have ae:out.length<=2097152:=by have:=N.out;omega
     obtain ⟨b1,z,rfl,f⟩:=H5.out.2.resolve_left (nz A);obtain ⟨d0,d1,d2,d3⟩:=(f.below hb) m A;have G:=ai d0;clear f;cases hK:(r.Cz[m].kind != 3)
     rotate_left
     ·have HE:Hid (bm r.CA (r.Cz.take (m+1))=out):=by
       unfold Hid;rw [B.out,d9,if_neg (by rintro ⟨h,_⟩;rw [h] at hK;simp at hK)]
      go_wp2_with fail
      go_roundw
      case rel=>exact ⟨m+1,x,y,CG,by go_num,by rw [HE.out],by rw [HE.out];exact (ho.out.alloc _),blo⟩
      case measure=>simp [intOf];omega
     ·have H:r.Cz[m].kind=3:=by simpa using hK
      have O:=aa H;clear H
      go_wp2_with fail
      generalize c:wr.alloc _=W2;have f2:W2.cell? ⟨wr.heap.size,2,none⟩=some (.int .i64 r.Cz[m].of):=by rw [<-c];simp [go_sem]
      have f3:W2.cell? ⟨wr.heap.size,3,none⟩=some (.int .i64 r.Cz[m].lie):=by rw [<-c];simp [go_sem]
      have l:Hid (W2.ownsRow W.heap.size 52 2 (.slice x out.length y) out.length (aG out)):=by rw [<-c];exact ho.out.alloc _
      have j:Cx W W2:=by rw [<-c];exact blo
      have R:wr.heap.size<W2.heap.size:=by rw [<-c];simp
      clear c ho hb u d0 d1 d2 d3 hK G;obtain ⟨xa,ya,T,I,_,_⟩:=kj l.out CK
      cases T;have C:=aa I;clear I;have U:=j.size
      go_loopw [8,35] (fun mt i V => ∃ (q:Nat),q<=out.length/\i = .int .i64 q/\mt = .bool (mg (out.take q) r.Cz[m])/\Cx W2 V) (fun _ i _=>out.length-(intOf i).toNat)
      case atStart=>exact ⟨0,Nat.zero_le _,rfl,rfl,Below.refl _ _⟩
      case round =>
       obtain ⟨q,hq,rfl,rfl,b⟩:=hrel;have X:=b.size;have g2:=cell_later b f2;have g3:=cell_later b f3;have af:=Nat.lt_of_lt_of_le R b.size
       by_cases D:q<out.length
       ·obtain ⟨b4,Y,rfl,n⟩:=C.out.2.resolve_left (nz D);obtain ⟨k0,k1⟩:=(n.below b) q D;clear n;have HS:Hid (mg (out.take (q+1)) r.Cz[m]=(mg (out.take q) r.Cz[m] || (out[q].CB==r.Cz[m].of&&out[q].side==r.Cz[m].lie))):=sq _ out q D
        cases t0:mg (out.take q) r.Cz[m] <;> cases t1:(out[q].CB==r.Cz[m].of) <;> cases t2:(out[q].side==r.Cz[m].lie)
        all_goals
         have t:=HS.out;rw [t0,t1,t2] at t;simp only [Bool.or_true,Bool.or_false,Bool.and_true,Bool.and_false,Bool.and_self] at t;have Z:=aa t;clear HS t t0
         go_wp2_with fail
         go_roundw
         case rel=>exact ⟨q+1,CG,by go_num,by rw [Z.out],blo⟩
         case measure=>simp [intOf];omega
       ·have J:Hid (out.take q=out):=List.take_of_length_le CG
        rw [J.out];have E:=aa (aq l.out b);have F:=j.trans (b.mono j.size);have ab:=F.size;clear J l;cases hM:mg out r.Cz[m]
        ·have HE:Hid (bm r.CA (r.Cz.take (m+1))=out++[⟨r.Cz[m].of,r.Cz[m].lie⟩]):=by
          unfold Hid;rw [B.out,d9,if_pos ⟨O.out,hM⟩]
         have HL:Hid ((out++[(⟨r.Cz[m].of,r.Cz[m].lie⟩:am)]).length=out.length+1):=by unfold Hid;simp
         have HF:Hid (aG out++[.int .i64 r.Cz[m].of,.int .i64 r.Cz[m].lie]=aG (out++[⟨r.Cz[m].of,r.Cz[m].lie⟩])):=by unfold Hid;rw [iR];rfl
         clear hM
         go_wp2_with (at_builtin;refine aU rfl (.tmp 57) (.tmp 63) 39 rfl W.heap.size 52 _ 2 16 underlying39 Tryz.infoLie rfl CJ (.slice x out.length y) out.length (aG out) rfl E.out wr.heap.size rfl [.int .i64 r.Cz[m].of,.int .i64 r.Cz[m].lie] rfl rfl CL CK CG CG ?_;intro x' y' w2 a g;have ac:=dw F E.out g CG;rw [HF.out] at a;have ad:=aa a;clear a g)
         go_roundw
         case rel=>exact ⟨m+1,x',y',CG,by go_num,by rw [HE.out,HL.out],by rw [HE.out,HL.out];exact ad,ac⟩
         case measure=>simp [intOf];omega
        ·have HE:Hid (bm r.CA (r.Cz.take (m+1))=out):=by
          unfold Hid;rw [B.out,d9,if_neg (by rintro ⟨_,h⟩;rw [hM] at h;simp at h)]
         clear hM
         go_wp2_with fail
         go_roundw
         case rel=>exact ⟨m+1,x,y,CG,by go_num,by rw [HE.out],by rw [HE.out];exact E,F⟩
         case measure=>simp [intOf];omega
    ·have HT:Hid (r.Cz.take m=r.Cz):=List.take_of_length_le CG
     rw [HT.out] at ho ⊢;clear HT
     go_wp2_with fail
     go_ret
     exact ⟨x,y,rfl,aW ho.out CG,o.trans (hb.mono o.size)⟩
structure nf (r:al):Prop where
 CA:r.CA.length<=1048576
 Cz:r.Cz.length<=1048576
theorem A5 (h:bN a.CF b.CF=true):b9 a b=1:=by unfold b9;rw [if_pos h]
theorem Bq (h:bN a.CF b.CF=false)(h2:dS a.Cy b.Cy=true):b9 a b=2:=by unfold b9;rw [if_neg (by simp [h]),if_pos h2]
theorem BK (h:bN a.CF b.CF=false)(h2:dS a.Cy b.Cy=false)(h3:fu (bm a.CA a.Cz) (bm b.CA b.Cz)=true):b9 a b=3:=by unfold b9;rw [if_neg (by simp [h]),if_neg (by simp [h2]),if_pos h3]
theorem vM (h:bN a.CF b.CF=false)(h2:dS a.Cy b.Cy=false)(h3:fu (bm a.CA a.Cz) (bm b.CA b.Cz)=false)(h4:bN a.over b.CF=true\/bN a.CF b.over=true):b9 a b=4:=by unfold b9;rw [if_neg (by simp [h]),if_neg (by simp [h2]),if_neg (by simp [h3]),if_pos h4]
theorem BB (h:bN a.CF b.CF=false)(h2:dS a.Cy b.Cy=false)(h3:fu (bm a.CA a.Cz) (bm b.CA b.Cz)=false)(h4:bN a.over b.CF=false)(h5:bN a.CF b.over=false):b9 a b=0:=by unfold b9;rw [if_neg (by simp [h]),if_neg (by simp [h2]),if_neg (by simp [h3]),if_neg (by simp [h4,h5])]
theorem fg (w:World)(d:aL)(r:al)(T:Nat):aA (w.alloc (.cells #[.int .i64 r.start,.int .i64 r.stop,.slice d.a0 r.CE.length d.c0,.slice d.a1 r.CA.length d.c1,.slice d.a2 r.Cy.length d.c2,.slice d.a3 r.CF.length d.c3,.slice d.a4 r.over.length d.c4,.slice d.a5 r.Cz.length d.c5] T)) w.heap.size 0 d r:=by
 constructor <;> simp [go_sem]
theorem qx (w:World)(o:Obj)(d:aL)(r:al)(T:Nat):aA ((w.alloc o).alloc (.cells #[.int .i64 r.start,.int .i64 r.stop,.slice d.a0 r.CE.length d.c0,.slice d.a1 r.CA.length d.c1,.slice d.a2 r.Cy.length d.c2,.slice d.a3 r.CF.length d.c3,.slice d.a4 r.over.length d.c4,.slice d.a5 r.Cz.length d.c5] T)) (w.heap.size+1) 0 d r:=by
 have:=fg (w.alloc o) d r T
 rwa [World.size_alloc] at this
theorem ky (d d':aL)(a b:al)(w:World)(ha:Hid (bq w d a))(hb:Hid (bq w d' b))(hsa:Hid (nf a))(hsb:Hid (nf b)):
  Calls prog 43 #[cC d a,cC d' b] w fun e w'=>e = .returned (.int .i64 (b9 a b))/\Cx w w':=by
 unfold cC
 go_enter func43,ntmps43
 go_wp2_with fail
 generalize hW:(w.alloc _).alloc _=W;have HA:Hid (aA W w.heap.size 0 d a):=by rw [<-hW];exact (fg w d a _).below blo
 have HB:Hid (aA W (w.heap.size+1) 0 d' b):=by rw [<-hW];exact qx _ _ _ _ _
 have hz:w.heap.size+2=W.heap.size:=by rw [<-hW];simp
 have j:Cx w W:=by rw [<-hW];exact blo
 have LA:=aa (ha.out.below j);have LB:=aa (hb.out.below j);clear hW ha hb;refine (jd _ _ _ _ _ _ _ LA.out.CF LB.out.CF).mono ?_;rintro e w1 ⟨rfl,v⟩;cases hT:bN a.CF b.CF
 rotate_left
 ·have HX:=aa (A5 hT);clear hT
  go_wp2_with fail
  go_ret
  exact ⟨bB HX.out.symm,j.trans (v.mono j.size)⟩
 have HT:=aa hT;clear hT;have x4:w1.cell? ⟨w.heap.size,4,none⟩=some (.slice d.a2 a.Cy.length d.c2):=(HA.out.below v).k4;have ae:w.heap.size+2<=w1.heap.size:=by have:=v.size;omega
 have af:=LA.out.Cy.1;have G:=LB.out.Cy.1;unfold maxLen at af G;have N:=aa v
 go_wp2_with fail
 clear x4 ae v
 go_loopw [21] (fun i wr => ∃ (k:Nat),k<=a.Cy.length/\i = .int .i64 k/\Hid (∀ q (hq:q<a.Cy.length),q<k->(b.Cy.any fun y=>a.Cy[q]==y)=false)/\Cx W wr) (fun i _=>a.Cy.length-(intOf i).toNat)
 case atStart=>exact ⟨0,Nat.zero_le _,rfl,(fun q _ h=>absurd h (Nat.not_lt_zero q)),N.out⟩
 case round =>
  clear N;obtain ⟨k,hk,rfl,HQ,c⟩:=hrel;have x:=c.size;have z:w.heap.size+1<wr.heap.size:=CG
  have A:w.heap.size<wr.heap.size:=CG
  by_cases o:k<a.Cy.length
  ·have c0:∃ b1 l,d.a2=some ⟨b1,l,none⟩/\wr.cell? ⟨b1,l+k,none⟩=some (.int .i64 a.Cy[k]):=by
    obtain ⟨b1,l,h1,s⟩:=LA.out.Cy.2.resolve_left (nz o);exact ⟨b1,l,h1,(s.below c) k o⟩
   obtain ⟨b1,l,O,c0⟩:=c0;rw [O];have y4:wr.cell? ⟨(w.heap.size+1),4,none⟩=some (.slice d'.a2 b.Cy.length d'.c2):=(HB.out.below c).k4;clear O
   go_wp2_with fail
   have R:=aa c;clear y4 c0 z A
   go_loopw [28] (fun i H => ∃ (m:Nat),m<=b.Cy.length/\i = .int .i64 m/\Hid (∀ q (hq:q<b.Cy.length),q<m->(a.Cy[k]==b.Cy[q])=false)/\Cx W H) (fun i _=>b.Cy.length-(intOf i).toNat)
   case atStart=>exact ⟨0,Nat.zero_le _,rfl,(fun q _ h=>absurd h (Nat.not_lt_zero q)),R.out⟩
   case round =>
    clear R c x;obtain ⟨m,hm,rfl,HM,c⟩:=hrel;have x:=c.size
    by_cases p:m<b.Cy.length
    ·have c0:∃ b2 n,d'.a2=some ⟨b2,n,none⟩/\wr.cell? ⟨b2,n+m,none⟩=some (.int .i64 b.Cy[m]):=by
      obtain ⟨b2,n,h1,s⟩:=LB.out.Cy.2.resolve_left (nz p);exact ⟨b2,n,h1,(s.below c) m p⟩
     obtain ⟨b2,n,T,c0⟩:=c0;rw [T];clear T;cases t:(a.Cy[k]==b.Cy[m])
     ·have I:Hid (∀ q (hq:q<b.Cy.length),q<m+1->(a.Cy[k]==b.Cy[q])=false):=by
       intro q hq ag
       by_cases e:q<m
       ·exact HM.out q hq e
       ·have:q=m:=CG
        subst this;exact t
      clear HM
      go_wp2_with fail
      go_roundw
      case rel=>exact ⟨m+1,CG,by go_num,I,c⟩
      case measure=>simp [intOf];omega
     ·have HX:=aa (Bq HT.out (fd o (fd p t)));clear HM HQ
      go_wp2_with fail
      go_ret
      exact ⟨bB HX.out.symm,j.trans (c.mono j.size)⟩
    ·have J:Hid (∀ q (hq:q<a.Cy.length),q<k+1->(b.Cy.any fun y=>a.Cy[q]==y)=false):=by
      intro q hq ah
      by_cases e:q<k
      ·exact HQ.out q hq e
      ·have:q=k:=CG
       subst this;exact eB (fun i hi=>HM.out i hi CG)
     clear HM HQ
     go_wp2_with fail
     go_roundw
     case rel=>exact ⟨k+1,CG,by go_num,J,c⟩
     case measure=>simp [intOf];omega
  ·have HC:Hid (dS a.Cy b.Cy=false):=eB (fun i hi=>HQ.out i hi CG)
   clear HQ;have x0:wr.cell? ⟨w.heap.size,0,none⟩=some (.int .i64 a.start):=(HA.out.below c).k0;have x1:wr.cell? ⟨w.heap.size,1,none⟩=some (.int .i64 a.stop):=(HA.out.below c).k1;have x2:wr.cell? ⟨w.heap.size,2,none⟩=some (.slice d.a0 a.CE.length d.c0):=(HA.out.below c).k2;have x3:wr.cell? ⟨w.heap.size,3,none⟩=some (.slice d.a1 a.CA.length d.c1):=(HA.out.below c).k3;have x4:wr.cell? ⟨w.heap.size,4,none⟩=some (.slice d.a2 a.Cy.length d.c2):=(HA.out.below c).k4;have x5:wr.cell? ⟨w.heap.size,5,none⟩=some (.slice d.a3 a.CF.length d.c3):=(HA.out.below c).k5;have x6:wr.cell? ⟨w.heap.size,6,none⟩=some (.slice d.a4 a.over.length d.c4):=(HA.out.below c).k6;have x7:wr.cell? ⟨w.heap.size,7,none⟩=some (.slice d.a5 a.Cz.length d.c5):=(HA.out.below c).k7
   go_wp2_with (go_at_call 94;refine (mp d a _ (LA.out.below c).CA (LA.out.below c).Cz hsa.out.CA hsa.out.Cz).mono ?_;rintro e w2 ⟨xn,yn,rfl,U,V⟩)
   obtain ⟨xa,ya,L,X,_,_⟩:=kj U (by have h1:=fV a.Cz a.CA;have h2:=hsa.out.CA;have h3:=hsa.out.Cz;unfold bm maxLen;omega)
   cases L;have aj:=aa X;have ak:Hid ((bm a.CA a.Cz).length<=2097152):=by have h1:=fV a.Cz a.CA;have h2:=hsa.out.CA;have h3:=hsa.out.Cz;unfold Hid bm;omega
   have ar:=ak.out;have E:=c.trans (V.mono c.size);have Y:Hid (Cx w2 w2):=Below.refl _ _;clear U X V x0 x1 x2 x3 x4 x5 x6 x7 z A c x hk o;generalize Z:bm a.CA a.Cz=na at *;have B:=aa Z;clear Z
   go_loopw [40] (fun i wr => ∃ (k:Nat),k<=na.length/\i = .int .i64 k/\Hid (∀ q (hq:q<na.length),q<k->((bm b.CA b.Cz).any fun y=>na[q].CB==y.CB&&na[q].side != y.side)=false)/\Cx w2 wr) (fun i _=>na.length-(intOf i).toNat)
   case atStart=>exact ⟨0,Nat.zero_le _,rfl,(fun q _ h=>absurd h (Nat.not_lt_zero q)),Y.out⟩
   case round =>
    clear Y;obtain ⟨k,hk,rfl,HQ,c⟩:=hrel;have f:=E.trans (c.mono E.size);have x:=f.size;have z:w.heap.size+1<wr.heap.size:=CG
    have A:w.heap.size<wr.heap.size:=CG
    by_cases o:k<na.length
    ·obtain ⟨b1,l,rfl,s⟩:=aj.out.2.resolve_left (nz o);obtain ⟨c0,c1⟩:=(s.below c) k o;clear s;have y0:wr.cell? ⟨(w.heap.size+1),0,none⟩=some (.int .i64 b.start):=(HB.out.below f).k0;have y1:wr.cell? ⟨(w.heap.size+1),1,none⟩=some (.int .i64 b.stop):=(HB.out.below f).k1;have y2:wr.cell? ⟨(w.heap.size+1),2,none⟩=some (.slice d'.a0 b.CE.length d'.c0):=(HB.out.below f).k2;have y3:wr.cell? ⟨(w.heap.size+1),3,none⟩=some (.slice d'.a1 b.CA.length d'.c1):=(HB.out.below f).k3;have y4:wr.cell? ⟨(w.heap.size+1),4,none⟩=some (.slice d'.a2 b.Cy.length d'.c2):=(HB.out.below f).k4;have y5:wr.cell? ⟨(w.heap.size+1),5,none⟩=some (.slice d'.a3 b.CF.length d'.c3):=(HB.out.below f).k5;have y6:wr.cell? ⟨(w.heap.size+1),6,none⟩=some (.slice d'.a4 b.over.length d'.c4):=(HB.out.below f).k6;have y7:wr.cell? ⟨(w.heap.size+1),7,none⟩=some (.slice d'.a5 b.Cz.length d'.c5):=(HB.out.below f).k7
     go_wp2_with (go_at_call 94;refine (mp d' b _ (LB.out.below (f.trans (Below.mono (show Cx wr _ from blo) f.size))).CA (LB.out.below (f.trans (Below.mono (show Cx wr _ from blo) f.size))).Cz hsb.out.CA hsb.out.Cz).mono ?_;rintro e w4 ⟨xm,ym,rfl,ab,F⟩)
     have p0:=cell_later F (show (wr.alloc (Obj.cells #[Value.int IntKind.i64 na[k].CB,Value.int IntKind.i64 na[k].side] 52)).cell? ⟨wr.heap.size,0,none⟩=some (.int .i64 na[k].CB) by simp [go_sem])
     have p1:=cell_later F (show (wr.alloc (Obj.cells #[Value.int IntKind.i64 na[k].CB,Value.int IntKind.i64 na[k].side] 52)).cell? ⟨wr.heap.size,1,none⟩=some (.int .i64 na[k].side) by simp [go_sem])
     obtain ⟨xb,yb,L,ac,_,_⟩:=kj ab (by have h1:=fV b.Cz b.CA;have h2:=hsb.out.CA;have h3:=hsb.out.Cz;unfold bm maxLen;omega)
     cases L;have am:=aa ac;have au:(bm b.CA b.Cz).length<=2097152:=by have h1:=fV b.Cz b.CA;have h2:=hsb.out.CA;have h3:=hsb.out.Cz;unfold bm;omega
     have r:Cx w2 w4:=c.trans (Below.mono (Below.trans (show Cx wr _ from blo) (F.mono CI)) c.size)
     have an:=ai p0;clear ab ac F y0 y1 y2 y3 y4 y5 y6 y7 z A c x c0 c1 f;generalize ad:bm b.CA b.Cz=nb at *;have C:=aa ad;clear ad
     go_loopw [47] (fun i H => ∃ (m:Nat),m<=nb.length/\i = .int .i64 m/\Hid (∀ q (hq:q<nb.length),q<m->(na[k].CB==nb[q].CB&&na[k].side != nb[q].side)=false)/\Cx w4 H) (fun i _=>nb.length-(intOf i).toNat)
     case atStart=>exact ⟨0,Nat.zero_le _,rfl,(fun q _ h=>absurd h (Nat.not_lt_zero q)),Below.refl _ _⟩
     case round =>
      obtain ⟨m,hm,rfl,HM,g⟩:=hrel;have M:=g.size;have u:=r.trans (g.mono r.size);have ao:=u.size
      by_cases p:m<nb.length
      ·obtain ⟨b2,n,rfl,D⟩:=am.out.2.resolve_left (nz p);obtain ⟨e0,e1⟩:=(D.below g) m p;have av:=cell_later g p0;have aw:=cell_later g p1;have ap:=Nat.lt_of_lt_of_le an g.size;clear D;cases t:(na[k].CB==nb[m].CB&&na[k].side != nb[m].side)
       ·have I:Hid (∀ q (hq:q<nb.length),q<m+1->(na[k].CB==nb[q].CB&&na[k].side != nb[q].side)=false):=by
         intro q hq ag
         by_cases e:q<m
         ·exact HM.out q hq e
         ·have:q=m:=CG
          subst this;exact t
        have aq:(na[k].CB==nb[m].CB)=false\/(na[k].CB==nb[m].CB)=true/\(na[k].side != nb[m].side)=false:=by
         revert t
         cases (na[k].CB==nb[m].CB) <;> cases (na[k].side != nb[m].side) <;> simp
        clear HM t;rcases aq with t1 | ⟨t1,t2⟩
        all_goals
         go_wp2_with fail
         go_roundw
         case rel=>exact ⟨m+1,CG,by go_num,I,blo⟩
         case measure=>simp [intOf];omega
       ·have HX:Hid (b9 a b=3):=BK HT.out HC.out (by rw [B.out,C.out];exact fd o (fd p t))
        obtain ⟨t1,t2⟩:(na[k].CB==nb[m].CB)=true/\(na[k].side != nb[m].side)=true:=by simpa only [Bool.and_eq_true] using t
        clear HM HQ t
        go_wp2_with fail
        go_ret
        exact ⟨bB HX.out.symm,j.trans ((E.trans (Below.mono (show Cx w2 _ from blo) E.size)).mono j.size)⟩
      ·have J:Hid (∀ q (hq:q<na.length),q<k+1->(nb.any fun y=>na[q].CB==y.CB&&na[q].side != y.side)=false):=by
        intro q hq ah
        by_cases e:q<k
        ·exact HQ.out q hq e
        ·have:q=k:=CG
         subst this;exact eB (fun i hi=>HM.out i hi CG)
       clear HM HQ
       go_wp2_with fail
       go_roundw
       case rel=>exact ⟨k+1,CG,by go_num,(by rw [C.out];exact J),u⟩
       case measure=>simp [intOf];omega
    ·have HD:Hid (fu (bm a.CA a.Cz) (bm b.CA b.Cz)=false):=by
      unfold Hid;rw [B.out];exact eB (fun i hi=>HQ.out i hi CG)
     clear HQ;have x5:wr.cell? ⟨w.heap.size,5,none⟩=some (.slice d.a3 a.CF.length d.c3):=(HA.out.below f).k5;have x6:wr.cell? ⟨w.heap.size,6,none⟩=some (.slice d.a4 a.over.length d.c4):=(HA.out.below f).k6;have y5:wr.cell? ⟨(w.heap.size+1),5,none⟩=some (.slice d'.a3 b.CF.length d'.c3):=(HB.out.below f).k5;have y6:wr.cell? ⟨(w.heap.size+1),6,none⟩=some (.slice d'.a4 b.over.length d'.c4):=(HB.out.below f).k6
     go_wp2_with fail
     refine (jd _ _ _ _ _ _ _ (LA.out.below f).over (LB.out.below f).CF).mono ?_;rintro e w5 ⟨rfl,r⟩;have g:=f.trans (r.mono f.size);replace x5:=cell_later r x5;replace y6:=cell_later r y6;have M:=g.size;have ax:w.heap.size+1<w5.heap.size:=CG
     have ay:w.heap.size<w5.heap.size:=CG
     clear r x6 y5 z A;cases t4:bN a.over b.CF
     rotate_left
     ·have HX:=aa (vM HT.out HC.out HD.out (Or.inl t4));clear t4
      go_wp2_with fail
      go_ret
      exact ⟨bB HX.out.symm,j.trans (g.mono j.size)⟩
     cases t5:bN a.CF b.over
     ·have HX:=aa (BB HT.out HC.out HD.out t4 t5);have T5:=aa t5;clear t4 t5
      go_wp2_with (go_at_call 93;refine (jd _ _ _ _ _ _ _ (LA.out.below g).CF (LB.out.below g).over).mono ?_;rintro e w6 ⟨rfl,u⟩;rw [T5.out])
      go_ret
      exact ⟨bB HX.out.symm,j.trans ((g.trans (u.mono g.size)).mono j.size)⟩
     ·have HX:=aa (vM HT.out HC.out HD.out (Or.inr t5));have T5:=aa t5;clear t4 t5
      go_wp2_with (go_at_call 93;refine (jd _ _ _ _ _ _ _ (LA.out.below g).CF (LB.out.below g).over).mono ?_;rintro e w6 ⟨rfl,u⟩;rw [T5.out])
      go_ret
      exact ⟨bB HX.out.symm,j.trans ((g.trans (u.mono g.size)).mono j.size)⟩
theorem nw (w:World)(c:Array Value)(T:Nat):(w.alloc (.cells c T)).rowIs w.heap.size T c.size (fun j=>c.getD j (.bool false)):=
 World.rowIs_alloc w c T _ (by intro k hk;simp [Array.getD,hk])
end Go.Proofs.YtmkdgnmmebldgaaGreatDoor
