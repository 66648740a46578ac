import Derived.Test.YtmkdgnmmebldgaaGreatDoorPk49
import Derived.Test.YtmkdgnmmebldgaaGreatDoorPk32
import Derived.Test.YtmkdgnmmebldgaaGreatDoorPk33
import Derived.Test.YtmkdgnmmebldgaaGreatDoorPk34
import Derived.Test.YtmkdgnmmebldgaaGreatDoorPk35
import Derived.Deep.DeepCutAuto
set_option maxRecDepth 100000
set_option maxHeartbeats 8000000
open Go.Proofs.Tryz
namespace Go.Proofs.YtmkdgnmmebldgaaGreatDoor
open Go.RowKit Go.Deep
theorem uG (a a':Option Addr)(c c':Nat)(xs ys:List am)(w:World)(hx:Hid (aT w a xs))(hy:Hid (aT w a' ys)):
  Calls prog 99 #[.slice a xs.length c,.slice a' ys.length c'] w fun e w'=>e = .returned (.bool (eqL xs ys))/\Cx w w':=by
 have r:=hx.out.1;have s:=hy.out.1;unfold maxLen at r s;obtain ⟨n,hn⟩:∃ n,xs.length=n:=⟨_,rfl⟩;obtain ⟨m,hm⟩:∃ m,ys.length=m:=⟨_,rfl⟩;rw [hn] at r ⊢;rw [hm] at s ⊢;have HN:=aa hn;have HM:=aa hm;clear hn hm
 go_enter func99,ntmps99
 by_cases l:n=m
 rotate_left
 ·have hb:((n:Int) != (m:Int))=true:=by rw [bne_iff_ne];omega
  have HF:Hid (eqL xs ys=false):=gB (by rw [HN.out,HM.out];exact l)
  clear l
  go_wp2_with fail
  go_ret
  exact ⟨by rw [HF.out];rfl,Below.refl _ _⟩
 subst l
 go_wp2_with fail
 go_loopw [13] (fun i wr => ∃ k:Nat,k<=n/\i = .int .i64 k/\Hid (xs.take k=ys.take k)/\Cx w wr) (fun i _=>n-(intOf i).toNat)
 case atStart=>exact ⟨0,Nat.zero_le _,rfl,by unfold Hid;rw [List.take_zero,List.take_zero],Below.refl _ _⟩
 case round =>
  obtain ⟨k,hk,rfl,HT,d⟩:=hrel
  by_cases t:k<n
  ·have z:(k:Int)<n:=CG
   have f:k<xs.length:=by rw [HN.out];exact t
   have g:k<ys.length:=by rw [HM.out];exact t
   obtain ⟨b,o,ha,hc⟩:=(hx.out.below d).2.resolve_left (nz f);obtain ⟨b',o',A,u⟩:=(hy.out.below d).2.resolve_left (nz g);subst ha A;have p:Hid (xs[k]=ys[k]->xs.take (k+1)=ys.take (k+1)):=fun e=>by rw [List.take_succ_eq_append_getElem f,List.take_succ_eq_append_getElem g,HT.out,e]
   have j:Hid (xs[k]≠ys[k]->eqL xs ys=false):=im f g;have cx:=hc k f;have cy:=u k g;generalize xs[k]=x at cx p j;generalize ys[k]=y at cy p j;obtain ⟨x0,x1⟩:=x;obtain ⟨y0,y1⟩:=y;obtain ⟨B,C⟩:=cx;obtain ⟨D,E⟩:=cy;dsimp only at B C D E;have q:=aa d;clear hc u d HT f g
   go_upto_region 6 with fail
   by_cases h0:x0=y0
   rotate_left
   ·have HF:=aa (j.out (fun e=>h0 (by injection e)))
    have f0:(x0==y0)=false:=by simpa using h0
    have f1:(x0 != y0)=true:=by simpa using h0
    clear h0
    go_quiet (fail)
    go_wp2_with fail
    go_ret
    exact ⟨by rw [HF.out];rfl,bZ q.out _⟩
   subst h0
   by_cases h1:x1=y1
   rotate_left
   ·have HF:=aa (j.out (fun e=>h1 (by injection e)))
    have f0:(x1==y1)=false:=by simpa using h1
    have f1:(x1 != y1)=true:=by simpa using h1
    have b0:(x0==x0)=true:=CI
    clear h1
    go_quiet (fail)
    go_wp2_with fail
    go_ret
    exact ⟨by rw [HF.out];rfl,bZ q.out _⟩
   subst h1;have v:Hid (xs.take (k+1)=ys.take (k+1)):=p.out rfl;have b0:(x0 != x0)=false:=CI
   have b1:(x1 != x1)=false:=CI
   go_quiet (fail)
   go_wp2_with fail
   go_roundw
   case rel=>exact ⟨k+1,CG,by go_num,v,bZ q.out _⟩
   case measure=>simp [intOf];omega
  ·have z:¬ (k:Int)<n:=CG
   have HE:Hid (eqL xs ys=true):=fJ (by have h:=HT.out;rw [List.take_of_length_le (by rw [HN.out];omega),List.take_of_length_le (by rw [HM.out];omega)] at h;exact h)
   go_wp2_with fail
   go_ret
   exact ⟨by rw [HE.out];rfl,d⟩
theorem oJ (a a':Option Addr)(c c':Nat)(xs ys:List aI)(w:World)(hx:Hid (bw w a xs))(hy:Hid (bw w a' ys)):
  Calls prog 100 #[.slice a xs.length c,.slice a' ys.length c'] w fun e w'=>e = .returned (.bool (eqL xs ys))/\Cx w w':=by
 have r:=hx.out.1;have s:=hy.out.1;unfold maxLen at r s;obtain ⟨n,hn⟩:∃ n,xs.length=n:=⟨_,rfl⟩;obtain ⟨m,hm⟩:∃ m,ys.length=m:=⟨_,rfl⟩;rw [hn] at r ⊢;rw [hm] at s ⊢;have HN:=aa hn;have HM:=aa hm;clear hn hm
 go_enter func100,ntmps100
 by_cases p:n=m
 rotate_left
 ·have hb:((n:Int) != (m:Int))=true:=by rw [bne_iff_ne];omega
  have HF:Hid (eqL xs ys=false):=gB (by rw [HN.out,HM.out];exact p)
  clear p
  go_wp2_with fail
  go_ret
  exact ⟨by rw [HF.out];rfl,Below.refl _ _⟩
 subst p
 go_wp2_with fail
 go_loopw [13] (fun i wr => ∃ k:Nat,k<=n/\i = .int .i64 k/\Hid (xs.take k=ys.take k)/\Cx w wr) (fun i _=>n-(intOf i).toNat)
 case atStart=>exact ⟨0,Nat.zero_le _,rfl,by unfold Hid;rw [List.take_zero,List.take_zero],Below.refl _ _⟩
 case round =>
  obtain ⟨k,hk,rfl,HT,d⟩:=hrel
  by_cases t:k<n
  ·have z:(k:Int)<n:=CG
   have f:k<xs.length:=by rw [HN.out];exact t
   have g:k<ys.length:=by rw [HM.out];exact t
   obtain ⟨b,o,ha,hc⟩:=(hx.out.below d).2.resolve_left (nz f);obtain ⟨b',o',A,u⟩:=(hy.out.below d).2.resolve_left (nz g);subst ha A;have q:Hid (xs[k]=ys[k]->xs.take (k+1)=ys.take (k+1)):=fun e=>by rw [List.take_succ_eq_append_getElem f,List.take_succ_eq_append_getElem g,HT.out,e]
   have j:Hid (xs[k]≠ys[k]->eqL xs ys=false):=im f g;have cx:=hc k f;have cy:=u k g;generalize xs[k]=x at cx q j;generalize ys[k]=y at cy q j;obtain ⟨x0,x1,x2⟩:=x;obtain ⟨y0,y1,y2⟩:=y;obtain ⟨B,C,D⟩:=cx;obtain ⟨E,F,G⟩:=cy;dsimp only at B C D E F G;have l:=aa d;clear hc u d HT f g
   go_upto_region 6 with fail
   by_cases h0:x0=y0
   rotate_left
   ·have HF:=aa (j.out (fun e=>h0 (by injection e)))
    have f0:(x0==y0)=false:=by simpa using h0
    have f1:(x0 != y0)=true:=by simpa using h0
    clear h0
    go_quiet (fail)
    go_wp2_with fail
    go_ret
    exact ⟨by rw [HF.out];rfl,bZ l.out _⟩
   subst h0
   by_cases h1:x1=y1
   rotate_left
   ·have HF:=aa (j.out (fun e=>h1 (by injection e)))
    have f0:(x1==y1)=false:=by simpa using h1
    have f1:(x1 != y1)=true:=by simpa using h1
    have b0:(x0==x0)=true:=CI
    clear h1
    go_quiet (fail)
    go_wp2_with fail
    go_ret
    exact ⟨by rw [HF.out];rfl,bZ l.out _⟩
   subst h1
   by_cases h2:x2=y2
   rotate_left
   ·have HF:=aa (j.out (fun e=>h2 (by injection e)))
    have f0:(x2==y2)=false:=by simpa using h2
    have f1:(x2 != y2)=true:=by simpa using h2
    have b0:(x0==x0)=true:=CI
    have b1:(x1==x1)=true:=CI
    clear h2
    go_quiet (fail)
    go_wp2_with fail
    go_ret
    exact ⟨by rw [HF.out];rfl,bZ l.out _⟩
   subst h2;have v:Hid (xs.take (k+1)=ys.take (k+1)):=q.out rfl;have b0:(x0 != x0)=false:=CI
   have b1:(x1 != x1)=false:=CI
   have b2:(x2 != x2)=false:=CI
   go_quiet (fail)
   go_wp2_with fail
   go_roundw
   case rel=>exact ⟨k+1,CG,by go_num,v,bZ l.out _⟩
   case measure=>simp [intOf];omega
  ·have z:¬ (k:Int)<n:=CG
   have HE:Hid (eqL xs ys=true):=fJ (by have h:=HT.out;rw [List.take_of_length_le (by rw [HN.out];omega),List.take_of_length_le (by rw [HM.out];omega)] at h;exact h)
   go_wp2_with fail
   go_ret
   exact ⟨by rw [HE.out];rfl,d⟩
def gh (r q:al)(D:Prop->Bool:=fun p => @decide p (Classical.propDecidable p)):Int:=
 if r.start=q.start/\r.stop=q.stop/\eqL r.CE q.CE D=true then
  if eqL r.CA q.CA D=true/\eqL r.Cy q.Cy D=true then
   if eqL r.CF q.CF D=true/\eqL r.over q.over D=true then
    if eqL r.Cz q.Cz D=true then 0 else 4
   else 3
  else 2
 else 1
theorem Bg {r q:al}(h:dg r q=0):gh r q=0:=by
 unfold dg at h;unfold gh
 repeat' split at h
 all_goals first | (exfalso;omega) | skip
 rename_i h1 h2 h3 h4;rw [if_pos h1,if_pos h2,if_pos h3,if_pos h4]
theorem Ba {r q:al}(h:dg r q≠0):2+gh r q=dg r q/\gh r q≠0/\0<=gh r q/\gh r q<=4:=by
 unfold dg at h ⊢;unfold gh
 by_cases h1:r.start=q.start/\r.stop=q.stop/\eqL r.CE q.CE=true
 ·rw [if_pos h1] at h ⊢;rw [if_pos h1]
  by_cases h2:eqL r.CA q.CA=true/\eqL r.Cy q.Cy=true
  ·rw [if_pos h2] at h ⊢;rw [if_pos h2]
   by_cases h3:eqL r.CF q.CF=true/\eqL r.over q.over=true
   ·rw [if_pos h3] at h ⊢;rw [if_pos h3]
    by_cases h4:eqL r.Cz q.Cz=true
    ·rw [if_pos h4] at h;exact absurd rfl h
    ·rw [if_neg h4,if_neg h4];omega
   ·rw [if_neg h3,if_neg h3];omega
  ·rw [if_neg h2,if_neg h2];omega
 ·rw [if_neg h1,if_neg h1];omega
theorem vX (d d':aL)(r q:al)(w:World)(hr:Hid (bq w d r))(hq:Hid (bq w d' q)):
  Calls prog 53 #[cC d r,cC d' q] w fun e w'=>e = .returned (.int .i64 (gh r q))/\Cx w w':=by
 unfold cC
 go_enter func53,ntmps53
 have HW:Hid (gh r q=if r.start=q.start/\r.stop=q.stop/\eqL r.CE q.CE=true then
  if eqL r.CA q.CA=true/\eqL r.Cy q.Cy=true then
   if eqL r.CF q.CF=true/\eqL r.over q.over=true then
    if eqL r.Cz q.Cz=true then 0 else 4
   else 3
  else 2
 else 1):=rfl
 obtain ⟨v,hv⟩:∃ v,gh r q=v:=⟨_,rfl⟩;rw [hv];rw [hv] at HW;clear hv
 go_upto_region 1 with fail
 generalize hW:World.alloc (World.alloc w _) _=W;have G:Cx w W:=by rw [<-hW];exact blo
 have HX:Hid (aA W w.heap.size 0 d r):=by rw [<-hW];exact ⟨CO,CO,CO,CO,CO,CO,CO,CO⟩
 have HY:Hid (aA W (w.heap.size+1) 0 d' q):=by rw [<-hW];exact ⟨CO,CO,CO,CO,CO,CO,CO,CO⟩
 have a:=aa G;have HR:=aa (hr.out.below G);have HQ:=aa (hq.out.below G);obtain ⟨X,hX⟩:∃ X,w.heap.size=X:=⟨_,rfl⟩;obtain ⟨Y,hY⟩:∃ Y,X+1=Y:=⟨_,rfl⟩;have aE:Hid (w.heap.size=X):=hX;rw [hX] at HX HY ⊢;rw [hY] at HY ⊢;clear hW G hX hY hr hq;obtain ⟨n1,H⟩:∃ n,r.CA.length=n:=⟨_,rfl⟩;obtain ⟨m1,N⟩:∃ n,q.CA.length=n:=⟨_,rfl⟩;obtain ⟨n2,I⟩:∃ n,r.Cy.length=n:=⟨_,rfl⟩;obtain ⟨m2,O⟩:∃ n,q.Cy.length=n:=⟨_,rfl⟩;obtain ⟨n3,J⟩:∃ n,r.Cz.length=n:=⟨_,rfl⟩;obtain ⟨m3,R⟩:∃ n,q.Cz.length=n:=⟨_,rfl⟩;have T:=aa H;have U:=aa N;have V:=aa I;have Z:=aa O;have ab:=aa J;have ac:=aa R;have aj:=HR.out.CA.1;have ak:=HR.out.Cy.1;have am:=HR.out.Cz.1;unfold maxLen at aj ak am;rw [H] at aj;rw [I] at ak;rw [J] at am;have HC:Hid (∀ u:World,Cx W u->(u.cell? ⟨X,3,none⟩=some (.slice d.a1 n1 d.c1)/\u.cell? ⟨Y,3,none⟩=some (.slice d'.a1 m1 d'.c1))/\(u.cell? ⟨X,4,none⟩=some (.slice d.a2 n2 d.c2)/\u.cell? ⟨Y,4,none⟩=some (.slice d'.a2 m2 d'.c2))/\(u.cell? ⟨X,7,none⟩=some (.slice d.a5 n3 d.c5)/\u.cell? ⟨Y,7,none⟩=some (.slice d'.a5 m3 d'.c5))/\(u.cell? ⟨X,5,none⟩=some (.slice d.a3 r.CF.length d.c3)/\u.cell? ⟨Y,5,none⟩=some (.slice d'.a3 q.CF.length d'.c3))/\(u.cell? ⟨X,6,none⟩=some (.slice d.a4 r.over.length d.c4)/\u.cell? ⟨Y,6,none⟩=some (.slice d'.a4 q.over.length d'.c4))):=fun u hu=>by
  have x:=HX.out.below hu;have y:=HY.out.below hu;rw [<-H,<-N,<-I,<-O,<-J,<-R];exact ⟨⟨by simpa using x.k3,by simpa using y.k3⟩,⟨by simpa using x.k4,by simpa using y.k4⟩,⟨by simpa using x.k7,by simpa using y.k7⟩,⟨by simpa using x.k5,by simpa using y.k5⟩,⟨by simpa using x.k6,by simpa using y.k6⟩⟩
 clear H N I O J R;have x0:=HX.out.k0;have x1:=HX.out.k1;have x2:=HX.out.k2;have y0:=HY.out.k0;have y1:=HY.out.k1;have y2:=HY.out.k2;simp only [Nat.zero_add] at x0 x1 x2 y0 y1 y2
 by_cases h0:r.start=q.start
 rotate_left
 ·have f0:(r.start != q.start)=true:=by simpa using h0
  have HV:Hid (v=1):=by unfold Hid;rw [HW.out,if_neg (fun h=>h0 h.1)]
  clear h0
  go_wp2_with fail
  go_ret
  exact ⟨by rw [HV.out];rfl,a.out⟩
 have f0:(r.start != q.start)=false:=by simpa using h0
 have H0:=aa h0;clear h0
 by_cases h1:r.stop=q.stop
 rotate_left
 ·have f1:(r.stop != q.stop)=true:=by simpa using h1
  have HV:Hid (v=1):=by unfold Hid;rw [HW.out,if_neg (fun h=>h1 h.2.1)]
  clear h1
  go_wp2_with fail
  go_ret
  exact ⟨by rw [HV.out];rfl,a.out⟩
 have f1:(r.stop != q.stop)=false:=by simpa using h1
 have H1:=aa h1;clear h1
 go_wp2_with fail
 refine (uG d.a0 d'.a0 d.c0 d'.c0 r.CE q.CE W HR.out.CE HQ.out.CE).mono ?_;rintro e w1 ⟨rfl,an⟩;have E:=aa an;clear an x0 x1 x2 y0 y1 y2 f0 f1 HX HY;cases hs:eqL r.CE q.CE
 ·have HV:Hid (v=1):=by unfold Hid;rw [HW.out,if_neg (fun h=>by rw [hs] at h;simp at h)]
  go_wp2_with fail
  go_ret
  exact ⟨by rw [HV.out];rfl,a.out.trans (E.out.mono a.out.size)⟩
 have C:Hid (v=if eqL r.CA q.CA=true/\eqL r.Cy q.Cy=true then
   if eqL r.CF q.CF=true/\eqL r.over q.over=true then
    if eqL r.Cz q.Cz=true then 0 else 4
   else 3
  else 2):=by unfold Hid;rw [HW.out,if_pos ⟨H0.out,H1.out,hs⟩]
 clear hs HW H0 H1;obtain ⟨⟨x3,y3⟩,⟨x4,y4⟩,_⟩:=HC.out _ E.out
 by_cases m:n1=m1
 rotate_left
 ·have f0:((n1:Int) != (m1:Int))=true:=by rw [bne_iff_ne];omega
  have HV:Hid (v=2):=by unfold Hid;rw [C.out,if_neg (fun h=>by rw [gB (by rw [T.out,U.out];exact m)] at h;simp at h)]
  clear m
  go_wp2_with fail
  go_ret
  exact ⟨by rw [HV.out];rfl,a.out.trans (E.out.mono a.out.size)⟩
 by_cases A:n2=m2
 rotate_left
 ·have f0:((n1:Int) != (m1:Int))=false:=by rw [m];simp
  have f1:((n2:Int) != (m2:Int))=true:=by rw [bne_iff_ne];omega
  have HV:Hid (v=2):=by unfold Hid;rw [C.out,if_neg (fun h=>by rw [gB (xs:=r.Cy) (by rw [V.out,Z.out];exact A)] at h;simp at h)]
  clear m A
  go_wp2_with fail
  go_ret
  exact ⟨by rw [HV.out];rfl,a.out.trans (E.out.mono a.out.size)⟩
 subst m A;have f0:((n1:Int) != (n1:Int))=false:=CI
 have f1:((n2:Int) != (n2:Int))=false:=CI
 go_wp2_with fail
 clear f0 f1 x3 x4 y3 y4
 go_loopw [47] (fun i wr => ∃ k:Nat,k<=n1/\i = .int .i64 k/\Hid (r.CA.take k=q.CA.take k)/\Cx W wr) (fun i _=>n1-(intOf i).toNat)
 case atStart=>exact ⟨0,Nat.zero_le _,rfl,by unfold Hid;rw [List.take_zero,List.take_zero],E.out⟩
 case round =>
  obtain ⟨k,hk,rfl,HT,c⟩:=hrel
  by_cases s:k<n1
  ·have F:(k:Int)<n1:=CG
   have f:k<r.CA.length:=by rw [T.out];exact s
   have g:k<q.CA.length:=by rw [U.out];exact s
   obtain ⟨zx,zy⟩:=(HC.out _ c).1;obtain ⟨b,o,ha,hc⟩:=(HR.out.CA.below c).2.resolve_left (nz f);obtain ⟨b',o',t,z⟩:=(HQ.out.CA.below c).2.resolve_left (nz g);rw [ha] at zx;rw [t] at zy;have p:Hid (r.CA[k]=q.CA[k]->r.CA.take (k+1)=q.CA.take (k+1)):=fun e=>by rw [List.take_succ_eq_append_getElem f,List.take_succ_eq_append_getElem g,HT.out,e]
   have j:Hid (r.CA[k]≠q.CA[k]->v=2):=fun e=>by rw [C.out,if_neg (fun h=>by rw [im f g e] at h;simp at h)]
   have cx:=hc k f;have cy:=z k g;generalize r.CA[k]=x at cx p j;generalize q.CA[k]=y at cy p j;obtain ⟨x0,x1⟩:=x;obtain ⟨y0,y1⟩:=y;obtain ⟨ad,ae⟩:=cx;obtain ⟨af,ag⟩:=cy;dsimp only at ad ae af ag;have l:=aa c;clear hc z c HT f g ha t
   go_upto_region 8 with fail
   by_cases h0:x0=y0
   rotate_left
   ·have HV:=aa (j.out (fun e=>h0 (by injection e)))
    have f0:(x0==y0)=false:=by simpa using h0
    have f1:(x0 != y0)=true:=by simpa using h0
    clear h0
    go_quiet (fail)
    go_wp2_with fail
    go_ret
    exact ⟨by rw [HV.out];rfl,bZ (a.out.trans (l.out.mono a.out.size)) _⟩
   subst h0
   by_cases h1:x1=y1
   rotate_left
   ·have HV:=aa (j.out (fun e=>h1 (by injection e)))
    have f0:(x1==y1)=false:=by simpa using h1
    have f1:(x1 != y1)=true:=by simpa using h1
    have b0:(x0==x0)=true:=CI
    clear h1
    go_quiet (fail)
    go_wp2_with fail
    go_ret
    exact ⟨by rw [HV.out];rfl,bZ (a.out.trans (l.out.mono a.out.size)) _⟩
   subst h1;have v2:Hid (r.CA.take (k+1)=q.CA.take (k+1)):=p.out rfl;have b0:(x0 != x0)=false:=CI
   have b1:(x1 != x1)=false:=CI
   go_quiet (fail)
   go_wp2_with fail
   go_roundw
   case rel=>exact ⟨k+1,CG,by go_num,v2,bZ l.out _⟩
   case measure=>simp [intOf];omega
  ·have F:¬ (k:Int)<n1:=CG
   have HE:Hid (eqL r.CA q.CA=true):=fJ (by have h:=HT.out;rw [List.take_of_length_le (by rw [T.out];omega),List.take_of_length_le (by rw [U.out];omega)] at h;exact h)
   obtain ⟨_,⟨x4,y4⟩,_⟩:=HC.out _ c;have av:=aa c;have aw:=aa HE.out;clear c HT HE
   go_wp2_with fail
   clear x4 y4
   go_loopw [65] (fun i ws => ∃ k:Nat,k<=n2/\i = .int .i64 k/\Hid (r.Cy.take k=q.Cy.take k)/\Cx W ws) (fun i _=>n2-(intOf i).toNat)
   case atStart=>exact ⟨0,Nat.zero_le _,rfl,by unfold Hid;rw [List.take_zero,List.take_zero],av.out⟩
   case round =>
    obtain ⟨k,hk,rfl,HT,c⟩:=hrel
    by_cases s:k<n2
    ·have F:(k:Int)<n2:=CG
     have f:k<r.Cy.length:=by rw [V.out];exact s
     have g:k<q.Cy.length:=by rw [Z.out];exact s
     obtain ⟨zx,zy⟩:=(HC.out _ c).2.1;obtain ⟨b,o,ha,hc⟩:=(HR.out.Cy.below c).2.resolve_left (nz f);obtain ⟨b',o',t,z⟩:=(HQ.out.Cy.below c).2.resolve_left (nz g);rw [ha] at zx;rw [t] at zy;have p:Hid (r.Cy[k]=q.Cy[k]->r.Cy.take (k+1)=q.Cy.take (k+1)):=fun e=>by rw [List.take_succ_eq_append_getElem f,List.take_succ_eq_append_getElem g,HT.out,e]
     have j:Hid (r.Cy[k]≠q.Cy[k]->v=2):=fun e=>by rw [C.out,if_neg (fun h=>by rw [im (xs:=r.Cy) f g e] at h;simp at h)]
     have cx:=hc k f;have cy:=z k g;generalize r.Cy[k]=x at cx p j;generalize q.Cy[k]=y at cy p j;have l:=aa c;clear hc z c HT f g ha t
     go_upto_region 14 with fail
     by_cases h0:x=y
     rotate_left
     ·have HV:=aa (j.out (fun e=>h0 (by exact e)))
      have f0:(x==y)=false:=by simpa using h0
      have f1:(x != y)=true:=by simpa using h0
      clear h0
      go_quiet (fail)
      go_wp2_with fail
      go_ret
      exact ⟨by rw [HV.out];rfl,bZ (a.out.trans (l.out.mono a.out.size)) _⟩
     subst h0;have v2:Hid (r.Cy.take (k+1)=q.Cy.take (k+1)):=p.out rfl;have b0:(x != x)=false:=CI
     go_quiet (fail)
     go_wp2_with fail
     go_roundw
     case rel=>exact ⟨k+1,CG,by go_num,v2,bZ l.out _⟩
     case measure=>simp [intOf];omega
    ·have F:¬ (k:Int)<n2:=CG
     have HE:Hid (eqL r.Cy q.Cy=true):=fJ (by have h:=HT.out;rw [List.take_of_length_le (by rw [V.out];omega),List.take_of_length_le (by rw [Z.out];omega)] at h;exact h)
     obtain ⟨_,_,_,⟨x5,y5⟩,⟨x6,y6⟩⟩:=HC.out _ c;have ao:=aa c;have L:Hid (v=if eqL r.CF q.CF=true/\eqL r.over q.over=true then
       if eqL r.Cz q.Cz=true then 0 else 4
      else 3):=by unfold Hid;rw [C.out,if_pos ⟨aw.out,HE.out⟩]
     have ap:=aa (HR.out.below c);have aq:=aa (HQ.out.below c);clear c HT HE C
     go_wp2_with fail
     refine (oJ d.a3 d'.a3 d.c3 d'.c3 r.CF q.CF _ ap.out.CF aq.out.CF).mono ?_;rintro e w4 ⟨rfl,D⟩;have ah:Hid (Cx W w4):=ao.out.trans (D.mono ao.out.size);replace x6:=cell_later D x6;replace y6:=cell_later D y6;have ax:=aa (ap.out.below D);have ay:=aa (aq.out.below D);clear D x5 y5;cases hs:eqL r.CF q.CF
     ·have HV:Hid (v=3):=by unfold Hid;rw [L.out,if_neg (fun h=>by rw [hs] at h;simp at h)]
      go_wp2_with fail
      go_ret
      exact ⟨by rw [HV.out];rfl,a.out.trans (ah.out.mono a.out.size)⟩
     have ar:=aa hs;clear hs
     go_wp2_with fail
     refine (oJ d.a4 d'.a4 d.c4 d'.c4 r.over q.over _ ax.out.over ay.out.over).mono ?_;rintro e w5 ⟨rfl,au⟩;have M:Hid (Cx W w5):=ah.out.trans (au.mono ah.out.size);clear au x6 y6;cases hs:eqL r.over q.over
     ·have HV:Hid (v=3):=by unfold Hid;rw [L.out,if_neg (fun h=>by rw [hs] at h;simp at h)]
      go_wp2_with fail
      go_ret
      exact ⟨by rw [HV.out];rfl,a.out.trans (M.out.mono a.out.size)⟩
     have ai:Hid (v=if eqL r.Cz q.Cz=true then 0 else 4):=by unfold Hid;rw [L.out,if_pos ⟨ar.out,hs⟩]
     clear hs ar L;obtain ⟨_,_,⟨x7,y7⟩,_⟩:=HC.out _ M.out
     by_cases B:n3=m3
     rotate_left
     ·have f0:((n3:Int) != (m3:Int))=true:=by rw [bne_iff_ne];omega
      have HV:Hid (v=4):=by unfold Hid;rw [ai.out,if_neg (fun h=>by rw [gB (by rw [ab.out,ac.out];exact B)] at h;simp at h)]
      clear B
      go_wp2_with fail
      go_ret
      exact ⟨by rw [HV.out];rfl,a.out.trans (M.out.mono a.out.size)⟩
     subst B;have f0:((n3:Int) != (n3:Int))=false:=CI
     go_wp2_with fail
     clear f0 x7 y7
     go_loopw [104] (fun i wt => ∃ k:Nat,k<=n3/\i = .int .i64 k/\Hid (r.Cz.take k=q.Cz.take k)/\Cx W wt) (fun i _=>n3-(intOf i).toNat)
     case atStart=>exact ⟨0,Nat.zero_le _,rfl,by unfold Hid;rw [List.take_zero,List.take_zero],M.out⟩
     case round =>
      obtain ⟨k,hk,rfl,HT,c⟩:=hrel
      by_cases s:k<n3
      ·have F:(k:Int)<n3:=CG
       have f:k<r.Cz.length:=by rw [ab.out];exact s
       have g:k<q.Cz.length:=by rw [ac.out];exact s
       obtain ⟨zx,zy⟩:=(HC.out _ c).2.2.1;obtain ⟨b,o,ha,hc⟩:=(HR.out.Cz.below c).2.resolve_left (nz f);obtain ⟨b',o',t,z⟩:=(HQ.out.Cz.below c).2.resolve_left (nz g);rw [ha] at zx;rw [t] at zy;have p:Hid (r.Cz[k]=q.Cz[k]->r.Cz.take (k+1)=q.Cz.take (k+1)):=fun e=>by rw [List.take_succ_eq_append_getElem f,List.take_succ_eq_append_getElem g,HT.out,e]
       have j:Hid (r.Cz[k]≠q.Cz[k]->v=4):=fun e=>by rw [ai.out,if_neg (fun h=>by rw [im f g e] at h;simp at h)]
       have cx:=hc k f;have cy:=z k g;generalize r.Cz[k]=x at cx p j;generalize q.Cz[k]=y at cy p j;obtain ⟨x0,x1,x2,x3⟩:=x;obtain ⟨y0,y1,y2,y3⟩:=y;obtain ⟨ad,ae,az,aB⟩:=cx;obtain ⟨af,ag,aC,aD⟩:=cy;dsimp only at ad ae az aB af ag aC aD;have l:=aa c;clear hc z c HT f g ha t
       go_upto_region 24 with fail
       by_cases h0:x0=y0
       rotate_left
       ·have HV:=aa (j.out (fun e=>h0 (by injection e)))
        have f0:(x0==y0)=false:=by simpa using h0
        have f1:(x0 != y0)=true:=by simpa using h0
        clear h0
        go_quiet (fail)
        go_wp2_with fail
        go_ret
        exact ⟨by rw [HV.out];rfl,bZ (a.out.trans (l.out.mono a.out.size)) _⟩
       subst h0
       by_cases h1:x1=y1
       rotate_left
       ·have HV:=aa (j.out (fun e=>h1 (by injection e)))
        have f0:(x1==y1)=false:=by simpa using h1
        have f1:(x1 != y1)=true:=by simpa using h1
        have b0:(x0==x0)=true:=CI
        clear h1
        go_quiet (fail)
        go_wp2_with fail
        go_ret
        exact ⟨by rw [HV.out];rfl,bZ (a.out.trans (l.out.mono a.out.size)) _⟩
       subst h1
       by_cases h2:x2=y2
       rotate_left
       ·have HV:=aa (j.out (fun e=>h2 (by injection e)))
        have f0:(x2==y2)=false:=by simpa using h2
        have f1:(x2 != y2)=true:=by simpa using h2
        have b0:(x0==x0)=true:=CI
        have b1:(x1==x1)=true:=CI
        clear h2
        go_quiet (fail)
        go_wp2_with fail
        go_ret
        exact ⟨by rw [HV.out];rfl,bZ (a.out.trans (l.out.mono a.out.size)) _⟩
       subst h2
       by_cases h3:x3=y3
       rotate_left
       ·have HV:=aa (j.out (fun e=>h3 (by injection e)))
        have f0:(x3==y3)=false:=by simpa using h3
        have f1:(x3 != y3)=true:=by simpa using h3
        have b0:(x0==x0)=true:=CI
        have b1:(x1==x1)=true:=CI
        have b2:(x2==x2)=true:=CI
        clear h3
        go_quiet (fail)
        go_wp2_with fail
        go_ret
        exact ⟨by rw [HV.out];rfl,bZ (a.out.trans (l.out.mono a.out.size)) _⟩
       subst h3;have v2:Hid (r.Cz.take (k+1)=q.Cz.take (k+1)):=p.out rfl;have b0:(x0 != x0)=false:=CI
       have b1:(x1 != x1)=false:=CI
       have b2:(x2 != x2)=false:=CI
       have b3:(x3 != x3)=false:=CI
       go_quiet (fail)
       go_wp2_with fail
       go_roundw
       case rel=>exact ⟨k+1,CG,by go_num,v2,bZ l.out _⟩
       case measure=>simp [intOf];omega
      ·have F:¬ (k:Int)<n3:=CG
       have HE:Hid (eqL r.Cz q.Cz=true):=fJ (by have h:=HT.out;rw [List.take_of_length_le (by rw [ab.out];omega),List.take_of_length_le (by rw [ac.out];omega)] at h;exact h)
       have HV:Hid (v=0):=by unfold Hid;rw [ai.out,if_pos HE.out]
       go_wp2_with fail
       go_ret
       exact ⟨by rw [HV.out];rfl,a.out.trans (c.mono a.out.size)⟩
theorem fm {a b c:Int}{o:Option (Int × Option (Int × Int))}(h:eM o = .agg #[.int .i64 a,.int .i64 b,.int .i64 c]):Ending.returned (.agg #[.int .i64 a,.int .i64 b,.int .i64 c])=Ending.returned (eM o):=by rw [h]
theorem mN {rs:List al}(h:rs.length<=300):bD rs=rs.map fun a=>rs.map (b9 a):=by unfold bD;rw [if_neg CG]
theorem rX (pa ja sa ra ta:Option Addr)(pc jc sc rc tc:Nat)(ps:List af)(js:List aj)(ss:List af)(over:Int)(rs:List al)(tt:List (List Int))(w:World)(hp:Hid (ar w pa ps))(hj:Hid (aP w ja js))(hs:Hid (ar w sa ss))(hr:Hid (dG w ra rs))(ht:Hid (gH w ta tt)):
  Calls prog 21 #[.agg #[.slice pa ps.length pc,.slice ja js.length jc],.slice sa ss.length sc,.int .i64 over,.slice ra rs.length rc,.slice ta tt.length tc] w fun e w'=>e = .returned (eM (gp ps js ss over rs tt))/\Cx w w':=by
 have bq:=hr.out.1;have br:=ht.out.1;unfold maxLen at bq br;obtain ⟨O,hO⟩:∃ O,gp ps js ss over rs tt=O:=⟨_,rfl⟩;obtain ⟨n,hn⟩:∃ n,rs.length=n:=⟨_,rfl⟩;obtain ⟨m,hm⟩:∃ m,tt.length=m:=⟨_,rfl⟩;rw [hO];rw [hn] at bq ⊢;rw [hm] at br ⊢;have HO:=aa hO;have HN:=aa hn;have HM:=aa hm;clear hO hn hm
 go_enter func21,ntmps21
 go_upto_region 1 with fail
 generalize hW:World.alloc (World.alloc w _) _=W;have e0:W.cell? ⟨w.heap.size,0,none⟩=some (.slice pa ps.length pc):=by rw [<-hW];simp [go_sem]
 have e1:W.cell? ⟨w.heap.size,1,none⟩=some (.slice ja js.length jc):=by rw [<-hW];simp [go_sem]
 have r0:W.cell? ⟨w.heap.size+1,0,none⟩=some (.int .i64 0):=by rw [<-hW];simp [go_sem]
 have r1:W.cell? ⟨w.heap.size+1,1,none⟩=some (.int .i64 0):=by rw [<-hW];simp [go_sem]
 have r2:W.cell? ⟨w.heap.size+1,2,none⟩=some (.int .i64 0):=by rw [<-hW];simp [go_sem]
 have z:∀ o,W.frozen? ⟨w.heap.size+1,o,none⟩=false:=by intro o;rw [<-hW];simp [go_sem]
 have U:w.heap.size+1<W.heap.size:=by rw [<-hW];simp
 have C:Cx w W:=by rw [<-hW];exact blo
 clear hW;have HP:=aC (hp.out.below C);have HJ:=aC (hj.out.below C);have HS:=aC (hs.out.below C);have HR:=aC (hr.out.below C);have HT:=aC (ht.out.below C);obtain ⟨R,hR⟩:∃ R,w.heap.size+1=R:=⟨_,rfl⟩;have co:w.heap.size<=R:=CG
 rw [hR] at r0 r1 r2 z U ⊢;have HK:Hid (∀ u:World,Cx W u->(u.cell? ⟨R,0,none⟩=some (.int .i64 0)/\u.cell? ⟨R,1,none⟩=some (.int .i64 0)/\u.cell? ⟨R,2,none⟩=some (.int .i64 0))/\(u.frozen? ⟨R,0,none⟩=false/\u.frozen? ⟨R,1,none⟩=false/\u.frozen? ⟨R,2,none⟩=false)/\R<u.heap.size/\Cx w u):=fun u hu=>⟨⟨cell_later hu r0,cell_later hu r1,cell_later hu r2⟩,⟨(hu.frozen (p:=⟨R,0,none⟩) U).trans (z 0),(hu.frozen (p:=⟨R,1,none⟩) U).trans (z 1),(hu.frozen (p:=⟨R,2,none⟩) U).trans (z 2)⟩,Nat.lt_of_lt_of_le U hu.size,C.trans (hu.mono C.size)⟩
 clear hp hj hs hr ht hR r0 r1 r2 z U C;have V:=aa (qV pa ja sa pc jc sc ps js ss W HP HJ HS);cases hc:((cE ps js ss).1==0)
 ·have HE:Hid (eM O = .agg #[.int .i64 1,.int .i64 0,.int .i64 0]):=by
   unfold Hid;rw [<-HO.out,qF (fun e=>by rw [e.1] at hc;simp at hc)]
   rfl
  rw [hc] at V;clear hc
  go_upto_region 2 with (go_at_call 33;refine V.out.mono ?_;rintro e w1 ⟨rfl,j⟩)
  obtain ⟨⟨r0,r1,r2⟩,⟨z0,z1,z2⟩,F,G⟩:=HK.out _ j;clear j
  go_wp2_with fail
  exact bodyPost_ret (v:=.agg #[.int .i64 1,.int .i64 0,.int .i64 0]) (by simp [results,results21,go_sem,r0,r1,r2]) rfl ⟨fm HE.out,blo⟩
 have aR:=aa (tZ (ps:=ps) (js:=js) (ss:=ss) (by simpa using hc))
 rw [hc] at V;clear hc
 by_cases J:0<=over/\over<=100000
 rotate_left
 ·have hi:inB over 0 100000=false:=by
   by_cases h:0<=over
   ·exact pP (fun h2=>J ⟨h,h2⟩)
   ·exact qp h
  have HE:Hid (eM O = .agg #[.int .i64 1,.int .i64 0,.int .i64 0]):=by
   unfold Hid;rw [<-HO.out,qF (fun e=>J e.2)]
   rfl
  have av:Hid (∀ u:World,Calls prog 34 #[.int .i64 over,.int .i64 0,.int .i64 100000] u fun e w'=>e = .returned (.bool false)/\w'=u):=fun u=>by
   have h:=dq over 0 100000 u;rw [hi] at h;exact h
  clear hi J
  go_upto_region 2 with (first
   | (go_at_call 33;refine V.out.mono ?_;rintro e w1 ⟨rfl,j⟩)
   | (go_at_call 34;refine (av.out _).mono ?_;rintro e w2 ⟨rfl,rfl⟩))
  obtain ⟨⟨r0,r1,r2⟩,⟨z0,z1,z2⟩,F,G⟩:=HK.out _ j;clear j
  go_wp2_with fail
  exact bodyPost_ret (v:=.agg #[.int .i64 1,.int .i64 0,.int .i64 0]) (by simp [results,results21,go_sem,r0,r1,r2]) rfl ⟨fm HE.out,blo⟩
 have HG:Hid (cE ps js ss=(0,0)/\0<=over/\over<=100000):=⟨aR.out,J⟩;have av:Hid (∀ u:World,Calls prog 34 #[.int .i64 over,.int .i64 0,.int .i64 100000] u fun e w'=>e = .returned (.bool true)/\w'=u):=fun u=>by
  have h:=dq over 0 100000 u;rw [qi J.1 J.2] at h;exact h
 clear J
 go_upto_region 3 with (first
  | (go_at_call 33;refine V.out.mono ?_;rintro e w1 ⟨rfl,j⟩)
  | (go_at_call 34;refine (av.out _).mono ?_;rintro e w2 ⟨rfl,rfl⟩))
 replace e0:=cell_later j e0;replace e1:=cell_later j e1;have bs:=ai e0;dsimp only at bs;have aw:=aa (kY pa ja sa pc jc sc ps js ss over _ (HP.out.below j) (HJ.out.below j) (HS.out.below j));have ax:=aa (ie ps js ss over);obtain ⟨f,l⟩:∃ q,aX ps js ss over=q:=⟨_,rfl⟩;rw [l] at aw ax;have bt:=aa l;obtain ⟨N,hN⟩:∃ N,f.length=N:=⟨_,rfl⟩;have y:=aa hN;have bS:N<=300:=by rw [<-hN];exact ax.out.1
 rw [hN] at aw;have aS:=aa j;clear l V av hN j
 go_upto_region 4 with (go_at_call 9;refine aw.out.mono ?_;rintro e w3 ⟨wa,wc,rfl,bu,_,H⟩)
 have ay:Hid (Cx W w3):=aS.out.trans (H.mono aS.out.size);have HQ:=aa bu;have bT:=aa (HR.out.below ay.out);have bU:=aa (HT.out.below ay.out);clear bu H e0 e1 bs aw aS HR HT HP HJ HS;obtain ⟨O1,aT⟩:∃ q,dF rs f 0=q:=⟨_,rfl⟩;have bv:=aa aT;have bV:Hid (dF (rs.drop 0) (f.drop 0) 0=O1):=aT;clear aT;have A:Hid (∀ c i,O1=some (c,i)->eM O = .agg #[.int .i64 c,.int .i64 (i:Int),.int .i64 0]):=fun c i h=>by
  rw [<-HO.out,yR HG.out (by rw [bt.out,bv.out];exact h)]
  rfl
 go_wp2_with fail
 go_loopw [34] (fun c wr => ∃ k:Nat,k<=N/\k<=n/\c = .int .i64 k/\Hid (dF (rs.drop k) (f.drop k) k=O1)/\Cx w3 wr) (fun c _=>N-(intOf c).toNat)
 case atStart=>exact ⟨0,Nat.zero_le _,Nat.zero_le _,rfl,bV,Below.refl _ _⟩
 case round =>
  obtain ⟨k,hk,bX,rfl,HI,aU⟩:=hrel;have L:Hid (Cx W wr):=ay.out.trans (aU.mono ay.out.size);have Z:=aa aU;clear aU
  by_cases M:k<N
  ·have aB:(k:Int)<N:=CG
   by_cases aV:k<n
   rotate_left
   ·have f0:(n:Int)<=k:=CG
    have HE:=aa (A.out 2 k (by rw [<-HI.out];exact mc (Or.inl ⟨by rw [HN.out];omega,by rw [y.out];exact M⟩)))
    obtain ⟨⟨r0,r1,r2⟩,⟨z0,z1,z2⟩,F,G⟩:=HK.out _ L.out
    go_wp2_with fail
    exact bodyPost_ret (v:=.agg #[.int .i64 2,.int .i64 k,.int .i64 0]) (by simp [results,results21,go_sem,r0,r1,r2]) rfl ⟨fm HE.out,blo⟩
   have f0:¬ (n:Int)<=k:=CG
   have bY:(k:Int)<n:=CG
   have aD:k<rs.length:=by rw [HN.out];exact aV
   have aE:k<f.length:=by rw [y.out];exact M
   obtain ⟨b,o,ha,I⟩:=(bT.out.below Z.out).2.resolve_left (nz aD);obtain ⟨b',o',ad,ag⟩:=(HQ.out.below Z.out).2.resolve_left (nz aE);obtain ⟨d,aW,rl⟩:=I k aD;obtain ⟨d',qc,ql⟩:=ag k aE;have g:Hid (O1=if dg rs[k] f[k]=0 then dF (rs.drop (k+1)) (f.drop (k+1)) (k+1) else some (dg rs[k] f[k],k)):=by unfold Hid;rw [<-HI.out,vz aD aE]
   generalize rs[k]=r at aW rl g;generalize f[k]=q at qc ql g;have aF:=aa rl;have aG:=aa ql;have aY:=aa aW;have bZ:=aa qc;have HA:=aa ha;have cp:=aa ad;clear I ag rl ql HI aW qc aD aE;subst ha ad
   go_upto_region 9 with fail
   go_cut [13] (fun v wx=>v = .int .i64 (gh r q)/\Cx wr wx)
   case first =>
    obtain ⟨S,hS⟩:∃ S:World->Prop,∀ u,S u↔(aA u b (o+k*8) d r/\aA u b' (o'+k*8) d' q):=⟨_,fun _=>Iff.rfl⟩
    have x0:∀ u:an S,World.cell? u.val ⟨b,o+k*8,none⟩=some (.int .i64 r.start):=fun u=>((hS u.val).1 u.2).1.k0
    have x1:∀ u:an S,World.cell? u.val ⟨b,o+k*8+1,none⟩=some (.int .i64 r.stop):=fun u=>((hS u.val).1 u.2).1.k1
    have x2:∀ u:an S,World.cell? u.val ⟨b,o+k*8+2,none⟩=some (.slice d.a0 r.CE.length d.c0):=fun u=>((hS u.val).1 u.2).1.k2
    have x3:∀ u:an S,World.cell? u.val ⟨b,o+k*8+3,none⟩=some (.slice d.a1 r.CA.length d.c1):=fun u=>((hS u.val).1 u.2).1.k3
    have x4:∀ u:an S,World.cell? u.val ⟨b,o+k*8+4,none⟩=some (.slice d.a2 r.Cy.length d.c2):=fun u=>((hS u.val).1 u.2).1.k4
    have x5:∀ u:an S,World.cell? u.val ⟨b,o+k*8+5,none⟩=some (.slice d.a3 r.CF.length d.c3):=fun u=>((hS u.val).1 u.2).1.k5
    have x6:∀ u:an S,World.cell? u.val ⟨b,o+k*8+6,none⟩=some (.slice d.a4 r.over.length d.c4):=fun u=>((hS u.val).1 u.2).1.k6
    have x7:∀ u:an S,World.cell? u.val ⟨b,o+k*8+7,none⟩=some (.slice d.a5 r.Cz.length d.c5):=fun u=>((hS u.val).1 u.2).1.k7
    have y0:∀ u:an S,World.cell? u.val ⟨b',o'+k*8,none⟩=some (.int .i64 q.start):=fun u=>((hS u.val).1 u.2).2.k0
    have y1:∀ u:an S,World.cell? u.val ⟨b',o'+k*8+1,none⟩=some (.int .i64 q.stop):=fun u=>((hS u.val).1 u.2).2.k1
    have y2:∀ u:an S,World.cell? u.val ⟨b',o'+k*8+2,none⟩=some (.slice d'.a0 q.CE.length d'.c0):=fun u=>((hS u.val).1 u.2).2.k2
    have y3:∀ u:an S,World.cell? u.val ⟨b',o'+k*8+3,none⟩=some (.slice d'.a1 q.CA.length d'.c1):=fun u=>((hS u.val).1 u.2).2.k3
    have y4:∀ u:an S,World.cell? u.val ⟨b',o'+k*8+4,none⟩=some (.slice d'.a2 q.Cy.length d'.c2):=fun u=>((hS u.val).1 u.2).2.k4
    have y5:∀ u:an S,World.cell? u.val ⟨b',o'+k*8+5,none⟩=some (.slice d'.a3 q.CF.length d'.c3):=fun u=>((hS u.val).1 u.2).2.k5
    have y6:∀ u:an S,World.cell? u.val ⟨b',o'+k*8+6,none⟩=some (.slice d'.a4 q.over.length d'.c4):=fun u=>((hS u.val).1 u.2).2.k6
    have y7:∀ u:an S,World.cell? u.val ⟨b',o'+k*8+7,none⟩=some (.slice d'.a5 q.Cz.length d'.c5):=fun u=>((hS u.val).1 u.2).2.k7
    have T:S wr.drew:=(hS _).2 ⟨aY.out.kept rfl,bZ.out.kept rfl⟩;have hne:=aQ T;clear hS;refine bW 8 T ?_
    (refine ae 0 ?_;intro K hK;go_big_quiet_op;go_big_quiet_on);(refine ae 1 ?_;intro K hK;go_big_quiet_op;go_big_quiet_on);(refine ae 2 ?_;intro K hK;go_big_quiet_op;go_big_quiet_on);(refine ae 3 ?_;intro K hK;go_big_quiet_op;go_big_quiet_on);(refine ae 4 ?_;intro K hK;go_big_quiet_op;go_big_quiet_on);(refine ae 5 ?_;intro K hK;go_big_quiet_op;go_big_quiet_on);(refine ae 6 ?_;intro K hK;go_big_quiet_op;go_big_quiet_on);(refine ae 7 ?_;intro K hK;go_big_quiet_op;go_big_quiet_on)
    refine a9 ?_;simp only [List.drop_succ_cons,List.drop_zero];clear hne T x0 x1 x2 x3 x4 x5 x6 x7 y0 y1 y2 y3 y4 y5 y6 y7
    go_wp2_with fail
    refine (vX d d' r q _ (aF.out.below (CV.drew)) (aG.out.below (CV.drew))).mono ?_;rintro e w4 ⟨rfl,bw⟩;have b0:Hid (Cx wr w4):=CV.drew.trans bw;clear bw
    go_wp2_with fail
    go_meet
    exact ⟨rfl,b0.out⟩
   case rest =>
    obtain ⟨rfl,s⟩:=hcut;have ah:Hid (Cx w3 wc):=Z.out.trans (s.mono Z.out.size);have aZ:Hid (Cx W wc):=L.out.trans (s.mono L.out.size);clear s
    by_cases ab:dg r q=0
    ·have g0:(gh r q != 0)=false:=by rw [Bg ab];rfl
     have a6:Hid (dF (rs.drop (k+1)) (f.drop (k+1)) (k+1)=O1):=by have h:=g.out;rw [if_pos ab] at h;exact h.symm
     clear ab g;generalize gh r q=v at g0 ⊢
     go_wp2_with fail
     go_roundw
     case rel=>exact ⟨k+1,CG,CG,by go_num,a6,ah.out⟩
     case measure=>simp [intOf];omega
    ·obtain ⟨bx,bz,b1,b2⟩:=Ba ab;have HE:=aa (A.out (dg r q) k (by have h:=g.out;rw [if_neg ab] at h;exact h))
     rw [<-bx] at HE;have g0:(gh r q != 0)=true:=by simpa using bz
     clear ab bx bz g;generalize gh r q=v at g0 b1 b2 HE ⊢;obtain ⟨⟨r0,r1,r2⟩,⟨z0,z1,z2⟩,F,G⟩:=HK.out _ aZ.out
     go_wp2_with fail
     exact bodyPost_ret (v:=.agg #[.int .i64 (2+v),.int .i64 k,.int .i64 0]) (by simp [results,results21,go_sem,r0,r1,r2]) rfl ⟨fm HE.out,blo⟩
  ·have aB:¬ (k:Int)<N:=CG
   have b3:k=N:=CG
   subst b3
   by_cases bA:k<n
   ·have f0:(k:Int)<n:=CG
    have HE:=aa (A.out 2 k (by rw [<-HI.out];exact mc (Or.inr ⟨by rw [y.out];omega,by rw [HN.out];exact bA⟩)))
    obtain ⟨⟨r0,r1,r2⟩,⟨z0,z1,z2⟩,F,G⟩:=HK.out _ L.out
    go_wp2_with fail
    exact bodyPost_ret (v:=.agg #[.int .i64 2,.int .i64 k,.int .i64 0]) (by simp [results,results21,go_sem,r0,r1,r2]) rfl ⟨fm HE.out,blo⟩
   have b4:n=k:=CG
   subst b4;have bB:Hid (dF rs f 0=none):=by unfold Hid;rw [bv.out,<-HI.out];exact tU (by rw [HN.out];omega) (by rw [y.out];omega)
   have b5:=aa (nD rs f 0 bB.out);have bC:Hid (dF rs (aX ps js ss over) 0=none):=by unfold Hid;rw [bt.out];exact bB.out
   have a7:Hid (bD rs=f.map fun a=>f.map (b9 a)):=by unfold Hid;rw [b5.out];exact mN (by rw [y.out];exact bS)
   obtain ⟨uu,aH⟩:∃ q,(f.map fun a=>f.map (b9 a))=q:=⟨_,rfl⟩
   rw [aH] at a7;have HU:=aa aH;have a8:Hid (uu.length=n):=by unfold Hid;rw [<-aH,List.length_map];exact y.out
   clear aH;obtain ⟨O2,aI⟩:∃ q,iI tt uu=q:=⟨_,rfl⟩;have ba:Hid (∀ i k,O2=some (i,k)->eM O = .agg #[.int .i64 7,.int .i64 (i:Int),.int .i64 (k:Int)]):=fun i k h=>by
    rw [<-HO.out,sY HG.out bC.out (by rw [a7.out,aI];exact h)]
    rfl
   have b6:Hid (O2=none->eM O = .agg #[.int .i64 0,.int .i64 0,.int .i64 0]):=fun h=>by
    rw [<-HO.out,vH HG.out bC.out (by rw [a7.out,aI];exact h)]
    rfl
   have bb:=aa aI;clear aI HI A;have f0:¬ (n:Int)<n:=CG
   by_cases bc:m=n
   rotate_left
   ·have f1:((m:Int) != (n:Int))=true:=by rw [bne_iff_ne];omega
    have HE:=aa (ba.out m 0 (by rw [<-bb.out];unfold iI;rw [if_neg (by rw [HM.out,a8.out];exact bc),HM.out]))
    obtain ⟨⟨r0,r1,r2⟩,⟨z0,z1,z2⟩,F,G⟩:=HK.out _ L.out;clear bc
    go_wp2_with fail
    exact bodyPost_ret (v:=.agg #[.int .i64 7,.int .i64 m,.int .i64 0]) (by simp [results,results21,go_sem,r0,r1,r2]) rfl ⟨fm HE.out,blo⟩
   subst bc;have f1:((m:Int) != (m:Int))=false:=CI
   have b7:Hid (gV (tt.drop 0) (uu.drop 0) 0=O2):=by
    have h:=bb.out;unfold iI at h;rw [if_pos (by rw [HM.out,a8.out])] at h
    exact h
   clear bb
   go_wp2_with fail
   clear f0 f1 aB M bA hk bX;obtain ⟨wq,b8⟩:∃ u,u=wr:=⟨_,rfl⟩;subst b8
   go_loopw [77] (fun c ws => ∃ i:Nat,i<=m/\c = .int .i64 i/\Hid (gV (tt.drop i) (uu.drop i) i=O2)/\Cx wq ws) (fun c _=>m-(intOf c).toNat)
   case atStart=>exact ⟨0,Nat.zero_le _,rfl,b7,Below.refl _ _⟩
   case round =>
    obtain ⟨ws,ca⟩:∃ u,u=wr:=⟨_,rfl⟩;subst ca;obtain ⟨i,hi,rfl,HI,aJ⟩:=hrel;have aK:Hid (Cx W ws):=L.out.trans (aJ.mono L.out.size);have t:Hid (Cx w3 ws):=Z.out.trans (aJ.mono Z.out.size);have bd:=aa aJ;clear aJ
    by_cases be:i<m
    ·have cb:(i:Int)<m:=CG
     have aL:i<tt.length:=by rw [HM.out];exact be
     have bf:i<uu.length:=by rw [a8.out];exact be
     have am:i<f.length:=by rw [y.out];exact be
     obtain ⟨b,o,ha,I⟩:=(HQ.out.below t.out).2.resolve_left (nz am);obtain ⟨tb,cq,cc,bE⟩:=(bU.out.below t.out).2.resolve_left (nz aL);obtain ⟨d,⟨c0,c1,c2,c3,c4,c5,c6,c7⟩,ql⟩:=I i am;obtain ⟨xa,xc,x0,xn⟩:=bE i aL;have g:=aa (HI.out.symm.trans (vJ aL bf));have aM:Hid (uu[i]=f.map (b9 f[i])):=by
      unfold Hid;have h:uu[i]? = some (f.map (b9 f[i])):=by rw [<-HU.out,List.getElem?_map,List.getElem?_eq_getElem am];rfl
      rw [List.getElem?_eq_getElem bf] at h;exact Option.some.inj h
     have bF:=aa (ax.out.2 _ (List.getElem_mem am)).short;generalize tt[i]=X at x0 xn g;generalize uu[i]=Y at g aM;generalize f[i]=r at c0 c1 c2 c3 c4 c5 c6 c7 ql aM bF;obtain ⟨p,hp⟩:∃ p,X.length=p:=⟨_,rfl⟩;have bG:Hid (Y.length=m):=by unfold Hid;rw [aM.out,List.length_map];exact y.out
     rw [hp] at x0 g;rw [bG.out] at g;have bg:=aa hp;have bH:=aa xn;have aF:=aa ql;have bI:=xn.1;unfold maxLen at bI;rw [hp] at bI;rw [ha,cc];clear I bE ql xn HI hp aL bf am
     go_upto_region 20 with fail
     generalize aN:World.alloc ws _=W2;have s:Cx ws W2:=by rw [<-aN];exact blo
     have HX:Hid (aA W2 ws.heap.size 0 d r):=by rw [<-aN];exact fg _ _ _ _
     have bJ:ws.heap.size<W2.heap.size:=by rw [<-aN];simp
     clear aN c0 c1 c2 c3 c4 c5 c6 c7;have ah:Hid (Cx W W2):=aK.out.trans (s.mono aK.out.size);have bK:Hid (Cx w3 W2):=t.out.trans (s.mono t.out.size);have bL:Hid (Cx wq W2):=bd.out.trans (s.mono bd.out.size);replace x0:=cell_later s x0;have cd:=aa x0;have ao:=aa (bH.out.below s);have bh:=aa (aF.out.below s);generalize ws.heap.size=D at HX bJ ⊢;clear s bH aF aK t bd
     by_cases bi:p=m
     rotate_left
     ·have f0:((p:Int) != (m:Int))=true:=by rw [bne_iff_ne];omega
      have HE:=aa (ba.out i p (by have h:=g.out;rw [if_neg bi] at h;exact h))
      obtain ⟨⟨r0,r1,r2⟩,⟨z0,z1,z2⟩,F,G⟩:=HK.out _ ah.out;clear bi
      go_wp2_with fail
      exact bodyPost_ret (v:=.agg #[.int .i64 7,.int .i64 i,.int .i64 p]) (by simp [results,results21,go_sem,r0,r1,r2]) rfl ⟨fm HE.out,blo⟩
     subst bi;have ap:Hid (O2=(match eF (X.drop 0) (Y.drop 0) 0 with
      | none=>gV (tt.drop (i+1)) (uu.drop (i+1)) (i+1)
      | some k=>some (i,k))):=by have h:=g.out;rw [if_pos rfl] at h;exact h
     have f0:((p:Int) != (p:Int))=false:=CI
     have bM:0<X.length:=by rw [bg.out];omega
     obtain ⟨rb,ro,ce,bN⟩:=ao.out.2.resolve_left (nz bM);subst ce;have aY:=aa bN;clear g bM bN ao
     go_wp2_with fail
     clear f0 x0
     go_loopw [99] (fun c wt => ∃ k:Nat,k<=p/\c = .int .i64 k/\Hid (eF (X.drop k) (Y.drop k) k=eF (X.drop 0) (Y.drop 0) 0)/\Cx W2 wt) (fun c _=>p-(intOf c).toNat)
     case atStart=>exact ⟨0,Nat.zero_le _,rfl,rfl,Below.refl _ _⟩
     case round =>
      obtain ⟨k,hk,rfl,bO,bj⟩:=hrel;obtain ⟨wt,cf⟩:∃ u,u=wr:=⟨_,rfl⟩;subst cf;have t:Hid (Cx W2 wt):=bj;have cg:Hid (Cx w3 wt):=bK.out.trans (bj.mono bK.out.size);clear bj
      by_cases M:k<p
      ·have aB:(k:Int)<p:=CG
       have aq:k<f.length:=by rw [y.out];exact M
       have bk:k<X.length:=by rw [bg.out];exact M
       have bl:k<Y.length:=by rw [bG.out];exact M
       obtain ⟨b',o',ad,I⟩:=(HQ.out.below cg.out).2.resolve_left (nz aq);obtain ⟨d',⟨c0,c1,c2,c3,c4,c5,c6,c7⟩,ql⟩:=I k aq;have xk:=cell_later t.out (aY.out k bk);have B:=aa (bO.out.symm.trans (vC bk bl));have bm:Hid (Y[k]=b9 r f[k]):=by
        unfold Hid;have h:Y[k]? = some (b9 r f[k]):=by rw [aM.out,List.getElem?_map,List.getElem?_eq_getElem aq];rfl
        rw [List.getElem?_eq_getElem bl] at h;exact Option.some.inj h
       have bP:=aa (ax.out.2 _ (List.getElem_mem aq)).short;generalize X[k]=xv at xk B;generalize Y[k]=yv at B bm;generalize f[k]=q at c0 c1 c2 c3 c4 c5 c6 c7 ql bm bP;have x0:=cell_later t.out cd.out;have aG:=aa ql;obtain ⟨rfl,rfl⟩:b'=b/\o'=o:=by rw [ad] at ha;simpa using ha
       clear I ql ad
       go_upto_region 25 with fail
       generalize aO:World.alloc wt _=W3;have H:Cx wt W3:=by rw [<-aO];exact blo
       have HY:Hid (aA W3 wt.heap.size 0 d' q):=by rw [<-aO];exact fg _ _ _ _
       have ch:wt.heap.size<W3.heap.size:=by rw [<-aO];simp
       clear aO c0 c1 c2 c3 c4 c5 c6 c7;have x:Hid (Cx W2 W3):=t.out.trans (H.mono t.out.size);have bQ:=aa (HX.out.below x.out);replace x0:=cell_later H x0;replace xk:=cell_later H xk;have bn:=aa (bh.out.below x.out);have bo:=aa (aG.out.below H);have cr:D<W3.heap.size:=Nat.lt_of_lt_of_le bJ x.out.size;generalize wt.heap.size=E at HY ch ⊢;clear H aG aq bk bl;have ci:Hid (∀ u:World,Cx W3 u->Calls prog 43 #[cC d r,cC d' q] u fun e w'=>e = .returned (.int .i64 yv)/\Cx u w'):=fun u hu=>by
        rw [bm.out];exact ky d d' r q u (bn.out.below hu) (bo.out.below hu) bF bP
       obtain ⟨S,hS⟩:∃ S:World->Prop,∀ u,S u↔Cx W3 u:=⟨_,fun _=>Iff.rfl⟩
       have cj:=aa hS;have ck:∀ u:an S,World.cell? u.val _=some _:=fun u=>cell_later ((hS u.val).1 u.2) x0
       have cl:∀ u:an S,World.cell? u.val _=some _:=fun u=>cell_later ((hS u.val).1 u.2) xk
       have xr:∀ u:an S,aA u.val D 0 d r:=fun u=>bQ.out.below ((hS u.val).1 u.2)
       have yr:∀ u:an S,aA u.val E 0 d' q:=fun u=>HY.out.below ((hS u.val).1 u.2)
       have u0:∀ u:an S,World.cell? u.val ⟨D,0,none⟩=some (.int .i64 r.start):=fun u=>(xr u).k0
       have u1:∀ u:an S,World.cell? u.val ⟨D,1,none⟩=some (.int .i64 r.stop):=fun u=>by simpa using (xr u).k1
       have u2:∀ u:an S,World.cell? u.val ⟨D,2,none⟩=some (.slice d.a0 r.CE.length d.c0):=fun u=>by simpa using (xr u).k2
       have u3:∀ u:an S,World.cell? u.val ⟨D,3,none⟩=some (.slice d.a1 r.CA.length d.c1):=fun u=>by simpa using (xr u).k3
       have u4:∀ u:an S,World.cell? u.val ⟨D,4,none⟩=some (.slice d.a2 r.Cy.length d.c2):=fun u=>by simpa using (xr u).k4
       have u5:∀ u:an S,World.cell? u.val ⟨D,5,none⟩=some (.slice d.a3 r.CF.length d.c3):=fun u=>by simpa using (xr u).k5
       have u6:∀ u:an S,World.cell? u.val ⟨D,6,none⟩=some (.slice d.a4 r.over.length d.c4):=fun u=>by simpa using (xr u).k6
       have u7:∀ u:an S,World.cell? u.val ⟨D,7,none⟩=some (.slice d.a5 r.Cz.length d.c5):=fun u=>by simpa using (xr u).k7
       have v0:∀ u:an S,World.cell? u.val ⟨E,0,none⟩=some (.int .i64 q.start):=fun u=>(yr u).k0
       have v1:∀ u:an S,World.cell? u.val ⟨E,1,none⟩=some (.int .i64 q.stop):=fun u=>by simpa using (yr u).k1
       have v2:∀ u:an S,World.cell? u.val ⟨E,2,none⟩=some (.slice d'.a0 q.CE.length d'.c0):=fun u=>by simpa using (yr u).k2
       have v3:∀ u:an S,World.cell? u.val ⟨E,3,none⟩=some (.slice d'.a1 q.CA.length d'.c1):=fun u=>by simpa using (yr u).k3
       have v4:∀ u:an S,World.cell? u.val ⟨E,4,none⟩=some (.slice d'.a2 q.Cy.length d'.c2):=fun u=>by simpa using (yr u).k4
       have v5:∀ u:an S,World.cell? u.val ⟨E,5,none⟩=some (.slice d'.a3 q.CF.length d'.c3):=fun u=>by simpa using (yr u).k5
       have v6:∀ u:an S,World.cell? u.val ⟨E,6,none⟩=some (.slice d'.a4 q.over.length d'.c4):=fun u=>by simpa using (yr u).k6
       have v7:∀ u:an S,World.cell? u.val ⟨E,7,none⟩=some (.slice d'.a5 q.Cz.length d'.c5):=fun u=>by simpa using (yr u).k7
       have T:S W3.drew:=(hS _).2 (CV.drew);have hne:=aQ T;clear hS xr yr x0 xk bQ HY;refine bW 10 T ?_
       (refine ae 0 ?_;intro K hK;go_big_quiet_op;go_big_quiet_on);(refine ae 1 ?_;intro K hK;go_big_quiet_op;go_big_quiet_on);(refine ae 2 ?_;intro K hK;go_big_quiet_op;go_big_quiet_on);(refine ae 3 ?_;intro K hK;go_big_quiet_op;go_big_quiet_on);(refine ae 4 ?_;intro K hK;go_big_quiet_op;go_big_quiet_on);(refine ae 5 ?_;intro K hK;go_big_quiet_op;go_big_quiet_on);(refine ae 6 ?_;intro K hK;go_big_quiet_op;go_big_quiet_on);(refine ae 7 ?_;intro K hK;go_big_quiet_op;go_big_quiet_on);(refine ae 8 ?_;intro K hK;go_big_quiet_op;go_big_quiet_on)
       refine az 9 ?_;intro KK hK
       go_wp2_with (go_at_call 43;refine (ci.out _ (CV.drew)).mono ?_;rintro e w5 ⟨rfl,au⟩)
       have bp:Cx W3 w5:=CV.drew.trans au;refine hK _ _ (ak ((cj.out _).2 bp)) ?_;clear hK KK au ck cl u0 u1 u2 u3 u4 u5 u6 u7 v0 v1 v2 v3 v4 v5 v6 v7 T hne;refine a9 ?_;have bR:Hid (Cx W2 w5):=x.out.trans (bp.mono x.out.size);clear bp
       by_cases ac:xv=yv
       ·have f0:(xv != yv)=false:=by simpa using ac
        have a6:Hid (eF (X.drop (k+1)) (Y.drop (k+1)) (k+1)=eF (X.drop 0) (Y.drop 0) 0):=by have h:=B.out;rw [if_pos ac] at h;exact h.symm
        clear ac
        go_wp2_with fail
        go_roundw
        case rel=>exact ⟨k+1,CG,by go_num,a6,bR.out⟩
        case measure=>simp [intOf];omega
       ·have f0:(xv != yv)=true:=by simpa using ac
        have HE:=aa (ba.out i k (by rw [ap.out,B.out,if_neg ac]))
        obtain ⟨⟨r0,r1,r2⟩,⟨z0,z1,z2⟩,F,G⟩:=HK.out _ (ah.out.trans (bR.out.mono ah.out.size));clear ac
        go_wp2_with fail
        exact bodyPost_ret (v:=.agg #[.int .i64 7,.int .i64 i,.int .i64 k]) (by simp [results,results21,go_sem,r0,r1,r2]) rfl ⟨fm HE.out,blo⟩
      ·have aB:¬ (k:Int)<p:=CG
       have cm:Hid (gV (tt.drop (i+1)) (uu.drop (i+1)) (i+1)=O2):=by
        unfold Hid;rw [ap.out,<-bO.out,ui (by rw [bg.out];omega)]
       have cn:Hid (Cx wq wt):=bL.out.trans (t.out.mono bL.out.size)
       go_wp2_with fail
       go_roundw
       case rel=>exact ⟨i+1,CG,by go_num,cm,cn.out⟩
       case measure=>simp [intOf];omega
    ·have cb:¬ (i:Int)<m:=CG
     have HE:=aa (b6.out (by rw [<-HI.out];exact ug (by rw [HM.out];omega)))
     obtain ⟨⟨r0,r1,r2⟩,⟨z0,z1,z2⟩,F,G⟩:=HK.out _ aK.out
     go_wp2_with fail
     exact bodyPost_ret (v:=.agg #[.int .i64 0,.int .i64 0,.int .i64 0]) (by simp [results,results21,go_sem,r0,r1,r2]) rfl ⟨fm HE.out,blo⟩
end Go.Proofs.YtmkdgnmmebldgaaGreatDoor
