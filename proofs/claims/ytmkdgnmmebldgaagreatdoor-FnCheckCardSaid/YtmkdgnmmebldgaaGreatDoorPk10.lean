import Derived.Test.YtmkdgnmmebldgaaGreatDoorPk6
import Derived.Test.YtmkdgnmmebldgaaGreatDoorPk9
import Derived.Test.YtmkdgnmmebldgaaGreatDoorPk2
set_option maxRecDepth 100000
set_option maxHeartbeats 8000000
open Go.Proofs.Tryz
namespace Go.Proofs.YtmkdgnmmebldgaaGreatDoor
open Go.RowKit Go.Deep
def bC (e:am):Value:=.agg #[.int .i64 e.CB,.int .i64 e.side]
def jF (p:aI):Value:=.agg #[.int .i64 p.CB,.int .i64 p.lo,.int .i64 p.hi]
theorem jS {e e':am}(h:e=e'):Ending.returned (bC e) = .returned (bC e'):=by rw [h]
theorem lC (p way:Int)(w:World):
  Calls prog 47 #[.int .i64 p,.int .i64 way] w fun e w'=>e = .returned (bC (au ⟨p,way⟩))/\Cx w w':=by
 by_cases h:way=1
 ·have HE:Hid (au ⟨p,way⟩=⟨p,1⟩):=by unfold Hid au;rw [if_pos h]
  have h1:(way==1)=true:=by simp [h]
  clear h
  go_enter func47,ntmps47
  go_wp2_with fail
  exact bodyPost_ret (v:=.agg #[.int .i64 p,.int .i64 1]) (by simp [results,results47,go_sem]) rfl ⟨(jS HE.out).symm,blo⟩
 ·have HE:Hid (au ⟨p,way⟩=⟨p,0⟩):=by unfold Hid au;rw [if_neg h]
  have h1:(way==1)=false:=by simp [h]
  clear h
  go_enter func47,ntmps47
  go_wp2_with fail
  exact bodyPost_ret (v:=.agg #[.int .i64 p,.int .i64 0]) (by simp [results,results47,go_sem]) rfl ⟨(jS HE.out).symm,blo⟩
def bu (ps:List af)(p pos way:Int):Int:=if way=1 then pos else iA ps p-pos
theorem fp (pa ja:Option Addr)(pc jl jc:Nat)(ps:List af)(i:Nat)(pos way:Int)(w:World)(hp:Hid (ar w pa ps))(hi:i<ps.length)(hl:1<=ps[i].len/\ps[i].len<=10000000)(h0:0<=pos)(h1:pos<=10000000):
  Calls prog 36 #[.agg #[.slice pa ps.length pc,.slice ja jl jc],.int .i64 i,.int .i64 pos,.int .i64 way] w fun e w'=>e = .returned (.int .i64 (bu ps i pos way))/\Cx w w':=by
 have a:=hp.out.1;unfold maxLen at a
 by_cases h:way=1
 ·have HE:Hid (bu ps i pos way=pos):=by unfold Hid bu;rw [if_pos h]
  have h1:(way==1)=true:=by simp [h]
  clear h
  go_enter func36,ntmps36
  go_wp2_with fail
  go_ret
  exact ⟨bB HE.out.symm,blo⟩
 ·have HE:Hid (bu ps i pos way=ps[i].len-pos):=by unfold Hid bu;rw [if_neg h,cT hi]
  have h1:(way==1)=false:=by simp [h]
  obtain ⟨b1,c,rfl,b⟩:=hp.out.2.2.resolve_left (nz hi);obtain ⟨c1,c2,c3,c4⟩:=b i hi;have hz:=ai c2;clear h b c1 c3 c4
  go_enter func36,ntmps36
  go_wp2_with fail
  go_ret
  exact ⟨bB HE.out.symm,blo⟩
def cK (ps:List af)(p way a b:Int):aI:=if way = -1 then ⟨p,iA ps p-b,iA ps p-a⟩ else ⟨p,a,b⟩
theorem t7 {e e':aI}(h:e=e'):Ending.returned (jF e) = .returned (jF e'):=by rw [h]
theorem jA (pa ja:Option Addr)(pc jl jc:Nat)(ps:List af)(i:Nat)(way a b:Int)(w:World)(hp:Hid (ar w pa ps))(hi:i<ps.length)(hl:1<=ps[i].len/\ps[i].len<=10000000)(h0:0<=a)(h1:a<=10000000)(h2:0<=b)(h3:b<=10000000):
  Calls prog 76 #[.agg #[.slice pa ps.length pc,.slice ja jl jc],.int .i64 i,.int .i64 way,.int .i64 a,.int .i64 b] w fun e w'=>e = .returned (jF (cK ps i way a b))/\Cx w w':=by
 have c:=hp.out.1;unfold maxLen at c
 by_cases h:way = -1
 ·have HE:Hid (cK ps i way a b=⟨i,ps[i].len-b,ps[i].len-a⟩):=by unfold Hid cK;rw [if_pos h,cT hi]
  have h4:(way == -1)=true:=by simp [h]
  obtain ⟨b1,f,rfl,d⟩:=hp.out.2.2.resolve_left (nz hi);obtain ⟨c1,c2,c3,c4⟩:=d i hi;have hz:=ai c2;clear h d c1 c3 c4
  go_enter func76,ntmps76
  go_wp2_with fail
  exact bodyPost_ret (v:=.agg #[.int .i64 i,.int .i64 (ps[i].len-b),.int .i64 (ps[i].len-a)]) (by simp [results,results76,go_sem]) rfl ⟨(t7 HE.out).symm,blo⟩
 ·have HE:Hid (cK ps i way a b=⟨i,a,b⟩):=by unfold Hid cK;rw [if_neg h]
  have h4:(way == -1)=false:=by simp [h]
  clear h
  go_enter func76,ntmps76
  go_wp2_with fail
  exact bodyPost_ret (v:=.agg #[.int .i64 i,.int .i64 a,.int .i64 b]) (by simp [results,results76,go_sem]) rfl ⟨(t7 HE.out).symm,blo⟩
theorem fA (ss:List af)(p way pos:Int):∀ k,k<=ss.length->bi ss p way pos k = -1\/∃ (b:Nat) (hb:b<ss.length),b<k/\bi ss p way pos k=b/\ss[b].len=p/\ss[b].CC=way
 | 0,_=>Or.inl rfl
 | k+1,h=>by
  have hk:k<ss.length:=CG
  have ih:=fA ss p way pos k CG
  have a:bi ss p way pos k = -1\/∃ (b:Nat) (hb:b<ss.length),b<k+1/\bi ss p way pos k=b/\ss[b].len=p/\ss[b].CC=way:=by
   rcases ih with ih | ⟨b,h1,h2,h3⟩
   ·exact Or.inl ih
   ·exact Or.inr ⟨b,h1,CG,h3⟩
  simp only [bi,List.getElem?_eq_getElem hk]
  split
  ·exact a
  ·split
   ·rename_i h1 _;refine Or.inr ⟨k,hk,CG,rfl,?_⟩
    constructor
    ·by_cases e:ss[k].len=p
     ·exact e
     ·exact absurd (Or.inl e) h1
    ·by_cases e:ss[k].CC=way
     ·exact e
     ·exact absurd (Or.inr (Or.inl e)) h1
   ·exact a
section
variable {ss:List af} {p way pos:Int} {k:Nat}
theorem gc (hk:k<ss.length)(h:ss[k].len≠p\/ss[k].CC≠way\/(ss[k].CD-pos)*way<=0):bi ss p way pos (k+1)=bi ss p way pos k:=by
 simp only [bi,List.getElem?_eq_getElem hk,if_pos h]
theorem iU (hk:k<ss.length)(h:¬ (ss[k].len≠p\/ss[k].CC≠way\/(ss[k].CD-pos)*way<=0))(h2:bi ss p way pos k<0\/(ss[k].CD-bK ss (bi ss p way pos k))*way<0):bi ss p way pos (k+1)=k:=by
 simp only [bi,List.getElem?_eq_getElem hk,if_neg h,if_pos h2]
theorem kU (hk:k<ss.length)(h:¬ (ss[k].len≠p\/ss[k].CC≠way\/(ss[k].CD-pos)*way<=0))(h2:¬ (bi ss p way pos k<0\/(ss[k].CD-bK ss (bi ss p way pos k))*way<0)):bi ss p way pos (k+1)=bi ss p way pos k:=by
 simp only [bi,List.getElem?_eq_getElem hk,if_neg h,if_neg h2]
theorem vN {ps:List af}{q:Int}(h:way=1\/way = -1){a b:Int}:bu ps q a way<=bu ps q b way↔(a-b)*way<=0:=by
 unfold bu;rcases h with rfl | rfl
 ·first | (simp;done) | (simp;omega)
 ·first | (simp;done) | (simp;omega)
theorem vx {ps:List af}{q:Int}(h:way=1\/way = -1){a b:Int}:bu ps q a way<bu ps q b way↔(a-b)*way<0:=by
 unfold bu;rcases h with rfl | rfl
 ·first | (simp;done) | (simp;omega)
 ·first | (simp;done) | (simp;omega)
end
theorem m9 (pa ja sa:Option Addr)(pc jl jc sc:Nat)(ps ss:List af)(i:Nat)(way pos:Int)(w:World)(hp:Hid (ar w pa ps))(hs:Hid (ar w sa ss))(hi:i<ps.length)(hl:1<=ps[i].len/\ps[i].len<=10000000)
  (hw:way=1\/way = -1) (hsp:Hid (∀ k (hk:k<ss.length),0<=ss[k].CD/\ss[k].CD<=10000000)) :
  Calls prog 45 #[.agg #[.slice pa ps.length pc,.slice ja jl jc],.slice sa ss.length sc,.int .i64 i,.int .i64 way,.int .i64 (bu ps i pos way)] w fun e w'=>e = .returned (.int .i64 (bi ss i way pos ss.length))/\Cx w w':=by
 have L:=hs.out.1;unfold maxLen at L;have HW:=aa hw;clear hw;obtain ⟨D,o⟩:∃ D,bu ps i pos way=D:=⟨_,rfl⟩;rw [o];have t:=aa o;clear o
 go_enter func45,ntmps45
 go_wp2_with fail
 generalize hW:w.alloc (Obj.cells #[Value.slice pa ps.length pc,Value.slice ja jl jc] 26)=W;have e0:W.cell? ⟨w.heap.size,0,none⟩=some (.slice pa ps.length pc):=by rw [<-hW];simp [go_sem]
 have e1:W.cell? ⟨w.heap.size,1,none⟩=some (.slice ja jl jc):=by rw [<-hW];simp [go_sem]
 have hz:w.heap.size+1<=W.heap.size:=by rw [<-hW];simp
 have A:Cx w W:=by rw [<-hW];exact blo
 have HP:=aa (hp.out.below A);have HS:=aa (hs.out.below A);clear hW hp hs
 go_loopw [11,16] (fun b c wr => ∃ (k:Nat),k<=ss.length/\c = .int .i64 k/\b = .int .i64 (bi ss i way pos k)/\Cx W wr) (fun _ c _=>ss.length-(intOf c).toNat)
 case atStart=>exact ⟨0,Nat.zero_le _,rfl,rfl,Below.refl _ _⟩
 case round =>
  obtain ⟨k,hk,rfl,rfl,hb⟩:=hrel;have V:=hb.size;have X:w.heap.size<wr.heap.size:=CG
  have G:=cell_later hb e0;have H:=cell_later hb e1
  by_cases m:k<ss.length
  ·obtain ⟨b1,E,rfl,F⟩:=HS.out.2.2.resolve_left (nz m);obtain ⟨c1,c2,c3,c4⟩:=(F.below hb) k m;obtain ⟨u,B⟩:=hsp.out k m;have HR:=aa (fA ss i way pos k hk);have M:=aa F;clear F;cases t1:(ss[k].len != (i:Int))
   rotate_left
   ·have HN:=aa (gc (pos:=pos) (way:=way) m (Or.inl (by simpa using t1)))
    go_wp2_with fail
    go_roundw
    case rel=>exact ⟨k+1,CG,by go_num,by rw [HN.out],blo⟩
    case measure=>simp [intOf];omega
   cases t2:(ss[k].CC != way)
   rotate_left
   ·have HN:=aa (gc (p:=(i:Int)) (pos:=pos) m (Or.inr (Or.inl (by simpa using t2))))
    go_wp2_with fail
    go_roundw
    case rel=>exact ⟨k+1,CG,by go_num,by rw [HN.out],blo⟩
    case measure=>simp [intOf];omega
   obtain ⟨x,hx⟩:∃ x,bu ps i ss[k].CD way=x:=⟨_,rfl⟩;have HX:=aa hx;clear hx;have I:Hid (ss[k].len=(i:Int)/\ss[k].CC=way):=by unfold Hid;simpa using And.intro t1 t2
   by_cases t3:x<=D
   ·have HN:=aa (gc (p:=(i:Int)) m (Or.inr (Or.inr ((vN (ps:=ps) (q:=i) (a:=ss[k].CD) (b:=pos) HW.out).1 (by rw [HX.out,t.out];exact t3)))))
    go_wp2_with (go_at_call 36;refine (fp _ _ _ _ _ _ _ _ _ _ (HP.out.below (hb.trans blo)) hi hl u B).mono ?_;rintro e w2 ⟨rfl,l⟩;rw [HX.out])
    have g:Cx wr w2:=Below.trans blo (l.mono CI)
    have d:=hb.trans (g.mono hb.size)
    go_roundw
    case rel=>exact ⟨k+1,CG,by go_num,by rw [HN.out],blo⟩
    case measure=>simp [intOf];omega
   ·have HT:Hid (¬ (ss[k].len≠(i:Int)\/ss[k].CC≠way\/(ss[k].CD-pos)*way<=0)):=by
     intro h;rcases h with h | h | h
     ·exact h I.out.1
     ·exact h I.out.2
     ·exact t3 (by rw [<-HX.out,<-t.out];exact (vN (ps:=ps) (q:=i) (a:=ss[k].CD) (b:=pos) HW.out).2 h)
    rcases HR.out with hn | ⟨b,C,l,hn,g,d⟩
    ·have HN:=aa (iU (p:=(i:Int)) (pos:=pos) m HT.out (Or.inl (by rw [hn];omega)))
     rw [hn];clear hn
     go_wp2_with (go_at_call 36;refine (fp _ _ _ _ _ _ _ _ _ _ (HP.out.below (hb.trans blo)) hi hl u B).mono ?_;rintro e w2 ⟨rfl,l⟩;rw [HX.out])
     have g:Cx wr w2:=Below.trans blo (l.mono CI)
     have d:=hb.trans (g.mono hb.size);have v:=d.size;clear l
     go_region
     all_goals
      go_wp2_with fail
      go_roundw
      case rel=>exact ⟨k+1,CG,by go_num,by rw [HN.out],blo⟩
      case measure=>simp [intOf];omega
    ·obtain ⟨N,O⟩:=hsp.out b C;obtain ⟨y,hy⟩:∃ y,bu ps i ss[b].CD way=y:=⟨_,rfl⟩;have HY:=aa hy;clear hy;have HN:Hid (bi ss (i:Int) way pos (k+1)=if x<y then (k:Int) else (b:Int)):=by
      unfold Hid
      by_cases r:x<y
      ·rw [if_pos r];exact iU m HT.out (Or.inr (by rw [hn,gL C];exact (vx (ps:=ps) (q:=i) HW.out).1 (by rw [HX.out,HY.out];exact r)))
      ·rw [if_neg r,<-hn];refine kU m HT.out ?_;rw [hn,gL C];rintro (h | h)
       ·omega
       ·exact r (by rw [<-HX.out,<-HY.out];exact (vx (ps:=ps) (q:=i) HW.out).2 h)
     obtain ⟨q1,q2,q3,q4⟩:=(M.out.below hb) b C;rw [hn];clear hn g d l q1 q2 q4 HR
     go_wp2_with (go_at_call 36;refine (fp _ _ _ _ _ _ _ _ _ _ (HP.out.below (hb.trans blo)) hi hl u B).mono ?_;rintro e w2 ⟨rfl,l⟩;rw [HX.out])
     have g:Cx wr w2:=Below.trans blo (l.mono CI)
     have d:=hb.trans (g.mono hb.size);have v:=d.size;have sA:=cell_later l (show (wr.alloc (Obj.cells #[Value.string ss[k].name,Value.int IntKind.i64 ss[k].len,Value.int IntKind.i64 ss[k].CD,Value.int IntKind.i64 ss[k].CC] 62)).cell? ⟨wr.heap.size,2,none⟩=some (.int .i64 ss[k].CD) by simp [go_sem])
     have z:=cell_later g q3;have j:=cell_later g G;have n:=cell_later g H;have zA:=ai sA;have zB:=ai j;have zC:=ai z;clear l g c1 c2 c3 c4 q3 G H;have R:(0:Int)<=(b:Int):=CG
     have T:(b:Int)<(ss.length:Int):=CG
     have gd:decide ((b:Int)<0)=false:=decide_eq_false CG
     by_cases r:x<y
     case' pos =>
      rw [if_pos r] at HN
     case' neg =>
      rw [if_neg r] at HN
     all_goals
      go_region_held3 (fun w'=>w'.cell? ⟨w.heap.size,0,none⟩=some (.slice pa ps.length pc)/\w'.cell? ⟨w.heap.size,1,none⟩=some (.slice ja jl jc)/\w'.cell? ⟨wr.heap.size,2,none⟩=some (.int .i64 ss[k].CD)/\w'.cell? ⟨b1,E+b*4+2,none⟩=some (.int .i64 ss[b].CD)) (first | go_keep | (refine ⟨?_,?_,?_,?_⟩ <;> assumption))
       (first
        | (go_at_call 36;refine (fp pa ja pc jl jc ps i ss[k].CD way w2.drew (HP.out.below d.drew) hi hl u B).mono ?_;rintro e wA ⟨rfl,J⟩;rw [HX.out];have f:Cx w2 wA:=((Below.refl _ w2).drew).trans J;replace sA:=cell_later f sA;replace z:=cell_later f z;replace j:=cell_later f j;replace n:=cell_later f n;replace d:=d.trans (f.mono v);clear J f u)
        | (go_at_call 36;refine (fp pa ja pc jl jc ps i ss[b].CD way wA (HP.out.below d) hi hl N O).mono ?_;rintro e wB ⟨rfl,s⟩;rw [HY.out];replace sA:=cell_later s sA;replace z:=cell_later s z;replace j:=cell_later s j;replace n:=cell_later s n;replace d:=d.trans (s.mono d.size);clear s))
      all_goals
       go_wp2_with fail
       go_roundw
       case rel=>exact ⟨k+1,CG,by go_num,by rw [HN.out],blo⟩
       case measure=>simp [intOf];omega
  ·have U:k=ss.length:=CG
   subst U
   go_wp2
   go_ret
   exact ⟨rfl,A.trans (hb.mono A.size)⟩
theorem lL (pa ja:Option Addr)(pl pc jc:Nat)(js:List aj)(e:am)(i k:Nat)(w:World)(hj:Hid (aP w ja js))(hs:Hid (gw js e 0=some (i,k))):
  Calls prog 46 #[.agg #[.slice pa pl pc,.slice ja js.length jc],bC e] w fun r w'=>r = .returned (.tuple #[.int .i64 i,.int .i64 k])/\Cx w w':=by
 have hl:=hj.out.1;unfold maxLen at hl;obtain ⟨_,hi,hk,h1,h2,h3⟩:=df hs.out;simp only [Nat.sub_zero] at hi hk h1 h2 h3;have H1:=aa h1;have H2:=aa h2;have H3:=aa h3;clear h1 h2 h3 hs;obtain ⟨p,s⟩:=e;unfold bC;dsimp only
 go_enter func46,ntmps46
 go_wp2_with fail
 generalize hW:(w.alloc (Obj.cells #[Value.slice pa pl pc,Value.slice ja js.length jc] 26)).alloc (Obj.cells #[Value.int IntKind.i64 p,Value.int IntKind.i64 s] 114)=W;have e0:W.cell? ⟨w.heap.size+1,0,none⟩=some (.int .i64 p):=by rw [<-hW];simp [go_sem]
 have e1:W.cell? ⟨w.heap.size+1,1,none⟩=some (.int .i64 s):=by rw [<-hW];simp [go_sem]
 have hz:w.heap.size+2=W.heap.size:=by rw [<-hW];simp
 have h:Cx w W:=by rw [<-hW];exact blo
 clear hW
 go_loopw [13] (fun c wr => ∃ (n:Nat),n<=i/\c = .int .i64 n/\Cx W wr) (fun c _=>js.length-(intOf c).toNat)
 case atStart=>exact ⟨0,Nat.zero_le _,rfl,Below.refl _ _⟩
 case round =>
  obtain ⟨n,hn,rfl,hb⟩:=hrel;have j:n<js.length:=CG
  obtain ⟨b1,q,rfl,b⟩:=hj.out.2.2.resolve_left (nz j);obtain ⟨c1,c2,ea,ec,c3,c4⟩:=(b.below h) n j;have C4:=aC c4;replace c1:=cell_later hb c1;replace c2:=cell_later hb c2;replace c3:=cell_later hb c3;have t:=c4.1;unfold maxLen at t;clear b c4;have l:=hb.size
  go_wp2_with fail
  go_loopw [21] (fun c u => ∃ (m:Nat),m<=js[n].ends.length/\(n=i->m<=k)/\c = .int .i64 m/\Cx W u) (fun c _=>js[n].ends.length-(intOf c).toNat)
  case atStart=>exact ⟨0,Nat.zero_le _,fun _=>Nat.zero_le _,rfl,blo⟩
  case round =>
   clear c1 c2 c3 hb l;obtain ⟨m,hm,a,rfl,hb⟩:=hrel;have l:=hb.size
   by_cases f:m<js[n].ends.length
   ·obtain ⟨b2,v,rfl,d⟩:=C4.out.2.resolve_left (nz f);obtain ⟨d1,d2⟩:=(d.below hb) m f;have z:w.heap.size+1<_:=Nat.lt_of_lt_of_le (by omega:w.heap.size+1<W.heap.size) hb.size
    have f0:=cell_later hb e0;have f1:=cell_later hb e1;clear d
    by_cases o:n=i/\m=k
    ·obtain ⟨rfl,rfl⟩:=o;have h1:js[n].ends[m].CB=p/\js[n].ends[m].side=s:=by rw [H1.out];exact ⟨rfl,rfl⟩
     rw [h1.1] at d1;rw [h1.2] at d2;clear h1 a
     go_wp2_with fail
     go_ret2
     exact ⟨rfl,h.trans (Below.mono (show Cx W _ from blo) h.size)⟩
    ·have hne:cR js[n].ends[m] ⟨p,s⟩=false:=by
      by_cases g:n=i
      ·subst g;exact H2.out m f (by have:=a rfl;omega)
      ·exact H3.out n j CG m f
     have x:Hid (n=i->m+1<=k):=by
      intro g;have:=a g;omega
     have y:(js[n].ends[m].CB==p)=false\/(js[n].ends[m].CB==p)=true/\(js[n].ends[m].side==s)=false:=by
      unfold cR at hne
      revert hne
      cases (js[n].ends[m].CB==p) <;> cases (js[n].ends[m].side==s) <;> simp
     clear hne o a;rcases y with h1 | ⟨h1,h2⟩
     all_goals
      go_wp2_with fail
      go_roundw
      case rel=>exact ⟨m+1,CG,x,by go_num,blo⟩
      case measure=>simp [intOf];omega
   ·have g:n<i:=by
     by_cases e:n=i
     ·subst e;have:=a rfl;omega
     ·omega
    clear a
    go_wp2_with fail
    go_roundw
    case rel=>exact ⟨n+1,CG,by go_num,hb⟩
    case measure=>simp [intOf];omega
def vW (w:World)(L:List am)(e:Ending)(w':World):Prop := ∃ g,e = .returned (.slice (some ⟨g,0,none⟩) L.length L.length)/\fC w' g 0 L/\Cx w w'
theorem fv {w:World}{g:Nat}{a:am}(h0:w.cell? ⟨g,0,none⟩=some (.int .i64 a.CB))(h1:w.cell? ⟨g,1,none⟩=some (.int .i64 a.side)):fC w g 0 [a]:=by
 intro i hi;have:i=0:=by simpa using hi
 subst this;exact ⟨h0,h1⟩
theorem we {w:World}{g:Nat}{a b:am}(h0:w.cell? ⟨g,0,none⟩=some (.int .i64 a.CB))(h1:w.cell? ⟨g,1,none⟩=some (.int .i64 a.side))(h2:w.cell? ⟨g,2,none⟩=some (.int .i64 b.CB))(h3:w.cell? ⟨g,3,none⟩=some (.int .i64 b.side)):fC w g 0 [a,b]:=by
 intro i hi;have:i=0\/i=1:=by simp at hi;omega
 rcases this with rfl | rfl
 ·exact ⟨h0,h1⟩
 ·exact ⟨h2,h3⟩
end Go.Proofs.YtmkdgnmmebldgaaGreatDoor
