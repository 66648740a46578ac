import Derived.Test.YtmkdgnmmebldgaaGreatDoorPk23
import Derived.Test.YtmkdgnmmebldgaaGreatDoorPk9
import Derived.Deep.RegionHeld3
import Derived.Test.YtmkdgnmmebldgaaGreatDoorPk29
import Derived.Test.YtmkdgnmmebldgaaGreatDoorPk30
import Derived.Test.YtmkdgnmmebldgaaGreatDoorPk31
set_option maxRecDepth 100000
set_option maxHeartbeats 8000000
open Go.Proofs.Tryz
namespace Go.Proofs.YtmkdgnmmebldgaaGreatDoor
open Go.RowKit Go.Deep
variable {js:List aj}{over:Int}{ps ss:List af}
theorem ud (x:aL × al):(gE x).length=8:=rfl
theorem rF {w:World}{F B:Nat}{x:Option Addr}{y:Nat}{pr:List (aL × al)}(h:w.ownsRow B 44 8 (.slice x pr.length y) pr.length (fG pr))(hk:∀ z ∈ pr,fH w F z.1 z.2):dG w x (pr.map Prod.snd)/\(x=none->y=0):=by
 rcases h.2 with ⟨h1,h2⟩ | ⟨g,a,b,h1,h2,h3,h4,h5,_⟩
 ·have:pr=[]:=List.eq_nil_of_length_eq_zero h2;subst this;injection h1 with e1 e2 e3;exact ⟨⟨Nat.zero_le _,Or.inl rfl⟩,fun _=>e3⟩
 ·cases h1;refine ⟨⟨by rw [List.length_map];exact Nat.le_trans h4 h5,Or.inr ⟨g,0,rfl,?_⟩⟩,fun e=>by cases e⟩
  intro i hi;rw [List.length_map] at hi;have hc:=h.cells (g:=g) rfl;have hg:∀ j,j<8->∀ u,(gE pr[i])[j]? = some u->w.cell? ⟨g,0+i*8+j,none⟩=some u:=by
   intro j hj u hu;have:=hc (i*8+j) u ((aZ gE 8 ud pr i j hi hj).trans hu);rw [bH] at this;have e:0+(i*8+j)=0+i*8+j:=CG
   rw [e] at this;exact this
  refine ⟨pr[i].1,?_,?_⟩
  ·rw [List.getElem_map];exact ⟨hg 0 CG _ rfl,hg 1 CG _ rfl,hg 2 CG _ rfl,hg 3 CG _ rfl,hg 4 CG _ rfl,hg 5 CG _ rfl,hg 6 CG _ rfl,hg 7 CG _ rfl⟩
  ·rw [List.getElem_map];exact (hk pr[i] (List.getElem_mem hi)).lists
theorem qV (pa ja sa:Option Addr)(pc jc sc:Nat)(ps:List af)(js:List aj)(ss:List af)(w:World)(hp:Hid (ar w pa ps))(hj:Hid (aP w ja js))(hs:Hid (ar w sa ss)):
  Calls prog 33 #[.agg #[.slice pa ps.length pc,.slice ja js.length jc],.slice sa ss.length sc] w fun e w'=>e = .returned (.bool ((cE ps js ss).1==0))/\Cx w w':=by
 go_enter func33,ntmps33
 go_wp2_with fail
 refine (oh _ _ _ _ _ _ _ _ _ _ (hp.out.below blo) (hj.out.below blo) (hs.out.below blo)).mono ?_;rintro e w1 ⟨rfl,a⟩;have hb:Cx w w1:=Below.trans blo (a.mono CI)
 unfold gK;obtain ⟨c,hc⟩:∃ c,(cE ps js ss).1=c:=⟨_,rfl⟩;obtain ⟨d,hd⟩:∃ d,(cE ps js ss).2=d:=⟨_,rfl⟩;rw [hc,hd];have HC:=aa hc;have hz:=hb.size;clear a hc hd;cases h:(c==0)
 ·go_wp2_with fail
  go_ret
  rw [HC.out,h];exact ⟨rfl,blo⟩
 ·go_wp2_with fail
  go_ret
  rw [HC.out,h];exact ⟨rfl,blo⟩
def qw (w0 Wl wr:World)(F:Nat)(pa ja sa:Option Addr)(pc jc sc:Nat)(ps:List af)(js:List aj)(ss:List af)(over:Int)(vo:Value)(m:Nat):Prop:=
 ∃ xo yo t pr,WS w0 wr F pa ja sa pc jc sc ps.length js.length ss.length over xo yo t pr/\Eff F vo (.slice xo pr.length yo) Wl wr/\eO (dr ps js ss over) 0 [] (cb ps js ss m) t (pr.map Prod.snd)/\t<=20000+cI ps+m/\pr.length<=301
theorem tZ (h:(cE ps js ss).1=0):cE ps js ss=(0,0):=by
 unfold cE at h ⊢
 split at h
 ·rename_i h0;rw [if_pos h0]
  split at h
  ·simp at h
  ·rename_i h1;rw [if_neg h1]
   split at h
   ·simp at h
   ·rename_i h2;rw [if_neg h2]
    split at h
    ·simp at h
    ·rename_i h3;rw [if_neg h3]
 ·simp at h
theorem zG (hs:cE ps js ss=(0,0))(h0:0<=over)(h1:over<=100000){t:Nat}{rs:List al}(h:eO (dr ps js ss over) 0 [] (cb ps js ss ss.length) t rs)(hl:rs.length<=300/\t<=20000):rs=aX ps js ss over:=by
 have hf:vU 0 ([]:List al).length (cb ps js ss ss.length):=by
  refine Classical.byContradiction (fun hn=>?_)
  rcases h.past hn with h2 | h2 <;> omega
 obtain ⟨_,e⟩:=h.fit hf;obtain ⟨f1,f2⟩:=hf;unfold aX;rw [if_pos ⟨hs,h0,h1,by simpa using f1,by simpa using f2⟩,e,List.nil_append]
theorem wI {t:Nat}{rs:List al}(h:eO (dr ps js ss over) 0 [] (cb ps js ss ss.length) t rs)(hl:¬ (rs.length<=300/\t<=20000)):aX ps js ss over=[]:=by
 unfold aX;rw [if_neg];rintro ⟨_,_,_,f1,f2⟩;obtain ⟨e1,e2⟩:=h.fit ⟨by simpa using f1,by simpa using f2⟩
 refine hl ⟨?_,CG⟩
 rw [e2];simpa using f2
theorem ju (h:¬ (cE ps js ss=(0,0)/\0<=over/\over<=100000)):aX ps js ss over=[]:=by
 unfold aX;rw [if_neg (fun e=>h ⟨e.1,e.2.1,e.2.2.1⟩)]
theorem z8 (w:World)(F:Nat)(st sp:Int):fH w F ⟨none,0,none,0,none,0,none,0,none,0,none,0⟩ ⟨st,sp,[],[],[],[],[],[]⟩:=
 ⟨⟨⟨Nat.zero_le _,Or.inl rfl⟩,⟨Nat.zero_le _,Or.inl rfl⟩,⟨Nat.zero_le _,Or.inl rfl⟩,⟨Nat.zero_le _,Or.inl rfl⟩,⟨Nat.zero_le _,Or.inl rfl⟩,⟨Nat.zero_le _,Or.inl rfl⟩,fun _=>rfl⟩,Or.inl rfl,Or.inl rfl,Or.inl rfl,Or.inl rfl,Or.inl rfl,Or.inl rfl⟩
theorem Bn (st sp:Int):ph ⟨none,0,none,0,none,0,none,0,none,0,none,0⟩ ⟨st,sp,[],[],[],[],[],[]⟩:=⟨fun _=>⟨rfl,rfl⟩,fun _=>⟨rfl,rfl⟩,fun _=>⟨rfl,rfl⟩,fun _=>⟨rfl,rfl⟩⟩
def vB (rs:List al)(w:World)(e:Ending)(w':World):Prop:=
 ∃ x y pr F,e = .returned (.slice x (pr:List (aL × al)).length y)/\pr.map Prod.snd=rs/\w'.ownsRow w.heap.size 44 8 (.slice x pr.length y) pr.length (fG pr)/\(∀ z ∈ pr,fH w' F z.1 z.2)/\Cx w w'
theorem qH (pa ja sa:Option Addr)(pc jc sc:Nat)(ps:List af)(js:List aj)(ss:List af)(over:Int)(w:World)(hp:Hid (ar w pa ps))(hj:Hid (aP w ja js))(hs:Hid (ar w sa ss))
  (hw:Hid (∀ F,w.heap.size<=F->bo ps js ss->0<=over->over<=100000->∀ n,iY w F pa ja sa pc jc sc ps js ss over n)) :
  Calls prog 9 #[.agg #[.slice pa ps.length pc,.slice ja js.length jc],.slice sa ss.length sc,.int .i64 over] w (vB (aX ps js ss over) w):=by
 obtain ⟨RS,H⟩:∃ RS,aX ps js ss over=RS:=⟨_,rfl⟩;rw [H];have A:=aa H;clear H
 go_enter func9,ntmps9
 go_wp2_with fail
 refine (qV pa ja sa pc jc sc ps js ss _ (hp.out.below blo) (hj.out.below blo) (hs.out.below blo)).mono ?_;rintro e w1 ⟨rfl,B⟩;have hb:Cx w w1:=Below.trans blo (B.mono CI)
 have n0:w1.cell? ⟨w.heap.size,0,none⟩=some (.slice pa ps.length pc):=cell_later B CO
 have n1:w1.cell? ⟨w.heap.size,1,none⟩=some (.slice ja js.length jc):=cell_later B CO
 have ad:=ai n0;dsimp only at ad;clear B;cases hc:((cE ps js ss).1==0)
 ·have f:Hid (RS=[]):=by
   unfold Hid;rw [<-A.out];exact ju (fun e=>by rw [e.1] at hc;simp at hc)
  go_wp2_with fail
  go_ret
  rw [f.out];exact ⟨none,0,[],0,rfl,rfl,World.ownsRow_nil _ _ _ _,(fun z hz=>by cases hz),hb⟩
 ·have l:=aa (tZ (ps:=ps) (js:=js) (ss:=ss) (by simpa using hc))
  have R:Hid (bo ps js ss):=lX l.out;clear hc
  go_wp2_with fail
  refine (dq over 0 100000 _).mono ?_;rintro e w2 ⟨rfl,rfl⟩
  by_cases j:0<=over/\over<=100000
  rotate_left
  ·have hi:inB over 0 100000=false:=by
    by_cases h:0<=over
    ·exact pP (fun h2=>j ⟨h,h2⟩)
    ·exact qp h
   rw [hi];have f:Hid (RS=[]):=by
    unfold Hid;rw [<-A.out];exact ju (fun e=>j e.2)
   clear hi
   go_wp2_with fail
   go_ret
   rw [f.out];exact ⟨none,0,[],0,rfl,rfl,World.ownsRow_nil _ _ _ _,(fun z hz=>by cases hz),hb⟩
  ·have hi:inB over 0 100000=true:=qi j.1 j.2;rw [hi];clear hi;have C:=aa j;clear j
   go_wp2_with fail
   generalize hW:World.alloc w2 _=W;have I:Hid (WS w W w2.heap.size pa ja sa pc jc sc ps.length js.length ss.length over none 0 0 []):=by
    rw [<-hW];exact ⟨hb.alloc hb.size _,hb.size,CO,CO,CO,CO,CO,CO,CO,CO,⟨.slice none 0 0,CO⟩,CO,World.ownsRow_nil _ _ _ _,fun x hx=>by cases hx⟩
   have J:Cx w2 W:=by rw [<-hW];exact CV.alloc CW _
   have m0:=cell_later J n0;have m1:=cell_later J n1;have aw:w2.heap.size<W.heap.size:=by rw [<-hW];simp
   have O:Hid (qw w W W w2.heap.size pa ja sa pc jc sc ps js ss over (.slice none 0 0) 0):=⟨none,0,0,[],I.out,I.out.eff0 CV,eO.stay,CG,CI⟩
   have ae:=R.out.ns;clear hW n0 n1 J I
   go_loopw [26] (fun c wr => ∃ m:Nat,m<=ss.length/\c = .int .i64 m/\Hid (qw w W wr w2.heap.size pa ja sa pc jc sc ps js ss over (.slice none 0 0) m)) (fun c _=>ss.length-(intOf c).toNat)
   case atStart=>exact ⟨0,Nat.zero_le _,rfl,O⟩
   case round =>
    clear O;obtain ⟨m,hm,rfl,HI⟩:=hrel;obtain ⟨xo,yo,t,pr,T,o,U,ht,ag⟩:=HI.out;have a:=aa T;have D:=aa o;have L:=aa U;clear HI T o U
    by_cases q:m<ss.length
    ·obtain ⟨bs,os,ah,r⟩:=(hs.out.below a.out.base).2.2.resolve_left (nz q);subst ah;obtain ⟨s0,s1,s2,s3⟩:=r m q;obtain ⟨p,V,e1,e2,e3,e4⟩:=R.out.sig m q;have hL:=R.out.plen p V;have n0:wr.cell? ⟨w.heap.size,0,none⟩=some (.slice pa ps.length pc):=(World.cell?_of_block (w:=W) (D.out.block (b:=w.heap.size) CG CG (fun e=>by cases e))).trans m0
     have n1:wr.cell? ⟨w.heap.size,1,none⟩=some (.slice ja js.length jc):=(World.cell?_of_block (w:=W) (D.out.block (b:=w.heap.size) CG CG (fun e=>by cases e))).trans m1
     have g:Hid (cb ps js (ss) (m+1)=cb ps js ss m++evs ps js ss (cI ps) (aF m ([]++[⟨(p:Int),ss[m].CC⟩]) [] []) ss[m].CD):=by
      unfold Hid;have h:cb ps js ss (m+1)=cb ps js ss m++(match ss[m]? with | none=>[] | some s=>evs ps js ss (cI ps) (j6 m s) s.CD):=rfl
      rw [h,List.getElem?_eq_getElem q];have h2:j6 m ss[m]=aF m ([]++[⟨(p:Int),ss[m].CC⟩]) [] []:=by
       unfold j6 aF;rw [e1];rfl
      rw [<-h2]
     have M:Hid (ck ps js ss m [] ⟨p,ss[m].CC⟩ [] [] ss[m].CD):=by
      have h:=ck.begin R.out q;rw [e1] at h;exact h
     rw [e1] at s1;obtain ⟨wy,X⟩:∃ wy,ss[m].CC=wy:=⟨_,rfl⟩;obtain ⟨sp,Y⟩:∃ sp,ss[m].CD=sp:=⟨_,rfl⟩;rw [X] at s3 g M e2;rw [Y] at s2 g M e3 e4;obtain ⟨E,i⟩:∃ E,bu ps p sp wy=E:=⟨_,rfl⟩;have ak:Hid (∀ u:World,Cx wr u->Calls prog 36 #[.agg #[.slice pa ps.length pc,.slice ja js.length jc],.int .i64 p,.int .i64 sp,.int .i64 wy] u fun e w'=>e = .returned (.int .i64 E)/\Cx u w'):=by
      intro u hu;rw [<-i];exact fp pa ja pc js.length jc ps p sp wy u ((hp.out.below a.out.base).below hu) V hL CG CG
     have al:Hid (∀ u:World,Cx wr u->Calls prog 35 #[.pointer (some ⟨w2.heap.size,0,none⟩),.agg #[.int .i64 m,.int .i64 0,.slice none 0 0,.slice none 0 0,.slice none 0 0,.slice none 0 0,.slice none 0 0,.slice none 0 0],.int .i64 p,.int .i64 wy,.int .i64 E] u (fB w u w2.heap.size pa ja (some ⟨bs,os,none⟩) pc jc sc ps js ss over (cI ps) t (.slice xo pr.length yo) (pr.map Prod.snd) (evs ps js ss (cI ps) (aF m ([]++[⟨(p:Int),wy⟩]) [] []) sp))):=by
      intro u hu;rw [<-i];exact hw.out w2.heap.size hb.size R.out C.out.1 C.out.2 (cI ps) none 0 none 0 none 0 none 0 m [] p wy [] [] sp xo yo t pr u M.out (by unfold cI;simp) (a.out.below hu) (z8 _ _ _ _) (Bn _ _) (by have:=R.out.np;unfold cI at ht;omega) ag
     have ax:(m:Int)<ss.length:=CG
     have Z:=ai s0;dsimp only at Z;have ay:=D.out.size;clear r i X Y e1 e2 e3 e4
     go_wp2_with fail
     generalize k:World.alloc wr _=Wb;have v:Cx wr Wb:=by rw [<-k];exact CV.alloc CW _
     have b1:Wb.cell? ⟨wr.heap.size,1,none⟩=some (.int .i64 p):=by rw [<-k];simp [go_sem]
     have b2:Wb.cell? ⟨wr.heap.size,2,none⟩=some (.int .i64 sp):=by rw [<-k];simp [go_sem]
     have b3:Wb.cell? ⟨wr.heap.size,3,none⟩=some (.int .i64 wy):=by rw [<-k];simp [go_sem]
     replace n0:=cell_later v n0;replace n1:=cell_later v n1;have am:=v.size;have an:wr.heap.size<Wb.heap.size:=by rw [<-k];simp
     have ab:=aa v;clear k v s0 s1 s2 s3 Z
     go_region_held3 (fun w'=>w'.cell? ⟨wr.heap.size,1,none⟩=some (.int .i64 p)/\w'.cell? ⟨wr.heap.size,2,none⟩=some (.int .i64 sp)/\w'.cell? ⟨wr.heap.size,3,none⟩=some (.int .i64 wy)/\w'.cell? ⟨w.heap.size,0,none⟩=some (.slice pa ps.length pc)/\w'.cell? ⟨w.heap.size,1,none⟩=some (.slice ja js.length jc)) (first | go_keep | (refine ⟨?_,?_,?_,?_,?_⟩ <;> assumption))
      (first
       | (go_at_call 36;refine (ak.out _ (ab.out.drew)).mono ?_;rintro e w5 ⟨rfl,y⟩;have d:Cx Wb w5:=CV.drew.trans y;replace n0:=cell_later d n0;replace n1:=cell_later d n1;replace b1:=cell_later d b1;replace b2:=cell_later d b2;replace b3:=cell_later d b3;have az:=d.size;have ac:Hid (Cx wr w5):=ab.out.trans (d.mono am);clear y d)
       | (go_at_call 35;refine (al.out w5 ac.out).mono ?_;rintro e w6 ⟨rfl,ao,ap,t6,aq,k1,k2,k3,k4,k5⟩;have G:w6.heap[wr.heap.size]? = w5.heap[wr.heap.size]? := k2.block CG CG (fun e=>by have:=(a.out.own.lt _ e).2;omega);have N:w6.heap[w.heap.size]? = w5.heap[w.heap.size]? := k2.block CG CG (fun e=>by have:=(a.out.own.lt _ e).1;omega);replace n0:=(World.cell?_of_block (w:=w5) N).trans n0;replace n1:=(World.cell?_of_block (w:=w5) N).trans n1;replace b1:=(World.cell?_of_block (w:=w5) G).trans b1;replace b2:=(World.cell?_of_block (w:=w5) G).trans b2;replace b3:=(World.cell?_of_block (w:=w5) G).trans b3;have au:Hid (qw w W w6 w2.heap.size pa ja (some ⟨bs,os,none⟩) pc jc sc ps js ss over (.slice none 0 0) (m+1)):=(by refine ⟨ao,ap,t6,aq,k1,(D.out.later ac.out).trans k2,?_,CG,k5⟩;rw [g.out];exact L.out.app k3);clear k1 k2 k3 k4 k5 G N))
     all_goals
      go_wp2_with fail
      go_roundw
      case rel=>exact ⟨m+1,CG,by go_num,au⟩
      case measure=>simp [intOf];omega
    ·have av:m=ss.length:=CG
     subst av;have c4:=a.out.c4;have c5:=a.out.c5;have aA:=a.out.lt
     by_cases hl:(pr.map Prod.snd).length<=300/\t<=20000
     ·have f:Hid (pr.map Prod.snd=RS):=by
       unfold Hid;rw [<-A.out];exact zG l.out C.out.1 C.out.2 L.out hl
      rw [List.length_map] at hl;have h1:(pr.length:Int)<=300:=CG
      have h2:(t:Int)<=20000:=CG
      clear hl
      go_wp2_with fail
      go_ret
      exact ⟨xo,yo,pr,w2.heap.size,rfl,f.out,aW a.out.own (by have:=hb.size;omega),a.out.keep,a.out.base⟩
     ·have f:Hid (RS=[]):=by
       unfold Hid;rw [<-A.out];exact wI L.out hl
      rw [List.length_map] at hl;have hc:(300:Int)<(pr.length:Int)\/((pr.length:Int)<=300/\(20000:Int)<(t:Int)):=CG
      clear hl;rcases hc with hc | ⟨hc,aB⟩
      all_goals
       go_wp2_with fail
       go_ret
       rw [f.out];exact ⟨none,0,[],0,rfl,rfl,World.ownsRow_nil _ _ _ _,(fun z hz=>by cases hz),a.out.base⟩
theorem zO (w0:World)(F:Nat)(pa ja sa:Option Addr)(pc jc sc:Nat)(ps:List af)(js:List aj)(ss:List af)(over:Int)(n:Nat)(R:Hid (bo ps js ss))(HP:Hid (ar w0 pa ps))(HJ:Hid (aP w0 ja js))(HS:Hid (ar w0 sa ss))(ho0:0<=over)(ho1:over<=100000)
  (hfl:Hid (∀ (B Q:Nat) (la:Option Addr) (lc:Nat) (CA:List bg) (pl:Int) (n:Nat),LB w0 B F Q pa ja sa la ps js ss CA->iz w0 B F Q pa ja sa la pc jc sc lc ps js ss CA pl n))
  (ih:Hid (iY w0 F pa ja sa pc jc sc ps js ss over n))
  (a0:Option Addr) (k0:Nat) (a1:Option Addr) (k1:Nat) (a2:Option Addr) (k2:Nat) (a3:Option Addr) (k3:Nat) (i:Nat) (pre:List aM) (p:Nat) (way:Int) (CA:List bg) (Cy:List Int) (pos:Int) (xo:Option Addr) (yo t:Nat) (pr:List (aL × al)) (w:World) (ok:Hid (ck ps js ss i pre ⟨p,way⟩ CA Cy pos)) (hn:Hid (n+1+pre.length=2*ps.length+2))
  (hs:Hid (WS w0 w F pa ja sa pc jc sc ps.length js.length ss.length over xo yo t pr)) (hk:Hid (fH w F ⟨a0,k0,a1,k1,a2,k2,a3,k3,none,0,none,0⟩ (gG ps ss i pre CA Cy))) (hnil:Hid (ph ⟨a0,k0,a1,k1,a2,k2,a3,k3,none,0,none,0⟩ (gG ps ss i pre CA Cy))) (ht:t<=100000) (hpr:pr.length<=301) :
  Calls prog 35 #[.pointer (some ⟨F,0,none⟩),.agg #[.int .i64 i,.int .i64 0,.slice a0 pre.length k0,.slice a1 CA.length k1,.slice a2 Cy.length k2,.slice a3 pre.length k3,.slice none 0 0,.slice none 0 0],.int .i64 p,.int .i64 way,.int .i64 (bu ps p pos way)] w (fB w0 w F pa ja sa pc jc sc ps js ss over (n+1) t (.slice xo pr.length yo) (pr.map Prod.snd) (evs ps js ss (n+1) (aF i (pre++[⟨p,way⟩]) CA Cy) pos)):=by
 by_cases hl:pr.length<=300/\t+1<=20000
 rotate_left
 ·exact lE w0 F pa ja sa pc jc sc ps js ss over n R HP HJ HS ho0 ho1 hfl ih a0 k0 a1 k1 a2 k2 a3 k3 i pre p way CA Cy pos xo yo t pr w ok hn hs hk hnil ht hpr (Or.inl hl)
 by_cases c:0<=bi ss p way pos ss.length
 ·exact lE w0 F pa ja sa pc jc sc ps js ss over n R HP HJ HS ho0 ho1 hfl ih a0 k0 a1 k1 a2 k2 a3 k3 i pre p way CA Cy pos xo yo t pr w ok hn hs hk hnil ht hpr (Or.inr (Or.inl c))
 by_cases b:(⟨(p:Int),way⟩:aM) ∈ pre
 ·exact lE w0 F pa ja sa pc jc sc ps js ss over n R HP HJ HS ho0 ho1 hfl ih a0 k0 a1 k1 a2 k2 a3 k3 i pre p way CA Cy pos xo yo t pr w ok hn hs hk hnil ht hpr (Or.inr (Or.inr b))
 have a:bi ss p way pos ss.length<0:=CG
 exact Bs w0 F pa ja sa pc jc sc ps js ss over n R HP HJ HS ho0 ho1 hfl ih a0 k0 a1 k1 a2 k2 a3 k3 i pre p way CA Cy pos xo yo t pr w ok hn hs hk hnil ht hpr hl a b
theorem rC (w0:World)(F:Nat)(pa ja sa:Option Addr)(pc jc sc:Nat)(ps:List af)(js:List aj)(ss:List af)(over:Int)(R:Hid (bo ps js ss))(HP:Hid (ar w0 pa ps))(HJ:Hid (aP w0 ja js))(HS:Hid (ar w0 sa ss))(ho0:0<=over)(ho1:over<=100000):∀ n,iY w0 F pa ja sa pc jc sc ps js ss over n
 | 0=>fun a0 k0 a1 k1 a2 k2 a3 k3 i d p f b a g xo yo t pr w ok hn _ _ _ _ _=>absurd hn (by have:=ok.few;omega)
 | n+1=>fun a0 k0 a1 k1 a2 k2 a3 k3 i d p f b a g xo yo t pr w ok hn hs hk c ht h =>
  zO w0 F pa ja sa pc jc sc ps js ss over n R HP HJ HS ho0 ho1 (fun B Q la lc b pl n hb=>rI w0 B F Q pa ja sa la pc jc sc lc ps js ss b pl R hb n) (rC w0 F pa ja sa pc jc sc ps js ss over R HP HJ HS ho0 ho1 n) a0 k0 a1 k1 a2 k2 a3 k3 i d p f b a g xo yo t pr w ok hn hs hk c ht h
theorem ku (pa ja sa:Option Addr)(pc jc sc:Nat)(ps:List af)(js:List aj)(ss:List af)(over:Int)(w:World)(hp:Hid (ar w pa ps))(hj:Hid (aP w ja js))(hs:Hid (ar w sa ss)):
  Calls prog 9 #[.agg #[.slice pa ps.length pc,.slice ja js.length jc],.slice sa ss.length sc,.int .i64 over] w (vB (aX ps js ss over) w):=
 qH pa ja sa pc jc sc ps js ss over w hp hj hs (fun F _ R h0 h1 n=>rC w F pa ja sa pc jc sc ps js ss over R hp hj hs h0 h1 n)
theorem kY (pa ja sa:Option Addr)(pc jc sc:Nat)(ps:List af)(js:List aj)(ss:List af)(over:Int)(w:World)(hp:Hid (ar w pa ps))(hj:Hid (aP w ja js))(hs:Hid (ar w sa ss)):
  Calls prog 9 #[.agg #[.slice pa ps.length pc,.slice ja js.length jc],.slice sa ss.length sc,.int .i64 over] w fun e w' => ∃ a c,e = .returned (.slice a (aX ps js ss over).length c)/\dG w' a (aX ps js ss over)/\(a=none->c=0)/\Cx w w':=
 (ku pa ja sa pc jc sc ps js ss over w hp hj hs).mono (fun e w' ⟨x,y,pr,F,h1,h2,h3,h4,h5⟩=>by
  have h:=rF h3 h4;rw [h2] at h;exact ⟨x,y,by rw [<-h2,List.length_map];exact h1,h.1,h.2,h5⟩)
end Go.Proofs.YtmkdgnmmebldgaaGreatDoor
namespace Go.Proofs.YtmkdgnmmebldgaaGreatDoor
end Go.Proofs.YtmkdgnmmebldgaaGreatDoor
