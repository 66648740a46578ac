import Derived.Test.YtmkdgnmmebldgaaGreatDoorPk19
import Derived.Test.YtmkdgnmmebldgaaGreatDoorPk9
set_option maxRecDepth 100000
set_option maxHeartbeats 8000000
open Go.Proofs.Tryz
namespace Go.Proofs.YtmkdgnmmebldgaaGreatDoor
open Go.RowKit
variable {js:List aj}{k m:Nat}
def fE (es:List am):Value->Int
 | .agg ⟨[.int .i64 p,.int .i64 s]⟩=>bX es p s
 | _=>0
theorem xF (es:List am)(p s:Int):fE es (.agg #[.int .i64 p,.int .i64 s])=bX es p s:=rfl
theorem Ci:fE []=fun _=>0:=by
 funext v
 unfold fE
 split <;> rfl
theorem oA (es:List am)(e:am)(p s:Int):bX (es++[e]) p s=bX es p s+if (e.CB==p&&e.side==s)=true then 1 else 0:=by
 unfold bX;rw [List.countP_append,List.countP_singleton]
theorem Bh (es:List am)(e:am):fE (es++[e]) (.agg #[.int .i64 e.CB,.int .i64 e.side])=fE es (.agg #[.int .i64 e.CB,.int .i64 e.side])+1:=by
 rw [xF,xF,oA,if_pos CI]
 simp
theorem Ai (es:List am)(e:am):∀ k,k≠.agg #[.int .i64 e.CB,.int .i64 e.side]->fE (es++[e]) k=fE es k:=by
 intro k hk;unfold fE
 split
 ·rename_i p s;rw [oA,if_neg]
  ·simp
  ·intro h;simp at h;apply hk;rw [h.1,h.2]
 ·rfl
theorem yc (hk:k<js.length)(hm:m<js[k].ends.length):
  (js.take k).flatMap (·.ends)++js[k].ends.take (m+1)=((js.take k).flatMap (·.ends)++js[k].ends.take m)++[js[k].ends[m]]:=by
 rw [List.take_succ_eq_append_getElem hm,List.append_assoc]
theorem rt (hk:k<js.length):(js.take k).flatMap (·.ends)++js[k].ends=(js.take (k+1)).flatMap (·.ends):=by
 rw [List.take_succ_eq_append_getElem hk,List.flatMap_append];simp
theorem Av (hk:k<js.length):((js.take k).flatMap (·.ends)++js[k].ends.take m).length<=gN js:=by
 have h1:js.flatMap (·.ends)=((js.take k).flatMap (·.ends)++js[k].ends)++(js.drop (k+1)).flatMap (·.ends):=by
  rw [rt hk,<-List.flatMap_append,List.take_append_drop]
 unfold gN;rw [h1];simp only [List.length_append,List.length_take];omega
theorem Cm (L:List am)(k:Value):0<=fE L k/\fE L k<=L.length:=by
 unfold fE
 split
 ·have:=qW L;rename_i p s;have:=this p s;omega
 ·omega
def eY (js:List aj)(k m:Nat):List am:=(js.take k).flatMap (·.ends)++(match js[k]? with | some j=>j.ends.take m | none=>[])
def mL (w:World)(b:Nat)(L:List am):Prop:=bT 114 w b L.length (fE L)
theorem mG (js:List aj)(k:Nat):eY js k 0=(js.take k).flatMap (·.ends):=by
 unfold eY
 split <;> simp
theorem Ax (js:List aj):eY js 0 0=[]:=by rw [mG];rfl
theorem Aa (js:List aj)(k:Nat)(h:js.length<=k):eY js k 0=js.flatMap (·.ends):=by
 rw [mG,List.take_of_length_le h]
theorem nv (hk:k<js.length)(hm:m<js[k].ends.length):eY js k (m+1)=eY js k m++[js[k].ends[m]]:=by
 unfold eY;simp only [List.getElem?_eq_getElem hk];exact yc hk hm
theorem zI (hk:k<js.length)(hm:js[k].ends.length<=m):eY js k m=eY js (k+1) 0:=by
 rw [mG,<-rt hk];unfold eY;simp only [List.getElem?_eq_getElem hk];rw [List.take_of_length_le hm]
theorem AG (hk:k<js.length):(eY js k m).length<=gN js:=by
 unfold eY;simp only [List.getElem?_eq_getElem hk];exact Av hk
theorem mF (pa ja:Option Addr)(pl pc jc:Nat)(js:List aj)(w:World)(hj:Hid (aP w ja js))(hpl:pl<=1000)(hjl:js.length<=1000)(hok:Hid (∀ q (h:q<js.length),ok3 pl js[q]=true)):
  Calls prog 68 #[.agg #[.slice pa pl pc,.slice ja js.length jc]] w fun e w'=>e = .returned (.int .i64 (bh (ew js) pl))/\Cx w w':=by
 have L := @run_makeMap prog;have HE:Hid (gN js<=4000):=by
  have:=ny pl js (fun j hj=>by
   obtain ⟨q,hq,rfl⟩:=List.getElem_of_mem hj;exact hok.out q hq)
  unfold Hid;omega
 have HR:Hid (∀ q (h:q<js.length) m (hm:m<js[q].ends.length),(Lit.int .i64 js[q].ends[m].CB).wf=true/\(Lit.int .i64 js[q].ends[m].side).wf=true):=by
  intro q h m hm;have h1:=hok.out q h;unfold ok3 at h1;simp only [Bool.and_eq_true,List.all_eq_true] at h1;have h2:=h1.2 _ (List.getElem_mem hm);unfold cV inB at h2;simp at h2;exact ⟨iW CG CG,iW CG CG⟩
 go_enter func68,ntmps68
 go_wp2_with fail
 generalize hW:w.alloc (Obj.cells #[Value.slice pa pl pc,Value.slice ja js.length jc] 26)=W;have e0:W.cell? ⟨w.heap.size,0,none⟩=some (.slice pa pl pc):=by rw [<-hW];simp [go_sem]
 have hz:w.heap.size+1=W.heap.size:=by rw [<-hW];simp
 have f:Cx w W:=by rw [<-hW];exact blo
 have HM:Hid (mL (W.alloc (.map #[] 0)) (w.heap.size+1) (eY js 0 0)):=by
  have h:=bT.made 114 W;rw [<-Ci,<-hz] at h;rw [Ax];exact h
 have ac:w.heap.size+1<=W.heap.size:=Nat.le_of_eq hz;have ad:W.heap.size<=w.heap.size+1:=Nat.le_of_eq hz.symm;clear hW hz
 go_loopw [13] (fun c wr => ∃ (k:Nat),k<=js.length/\c = .int .i64 k/\Hid (mL wr (w.heap.size+1) (eY js k 0))/\Cx W wr) (fun c _=>js.length-(intOf c).toNat)
 case atStart=>exact ⟨0,Nat.zero_le _,rfl,HM.out,blo⟩
 case round =>
  clear HM L;obtain ⟨k,hk,rfl,HM,hb⟩:=hrel;have x:=hb.size;have C:w.heap.size<wr.heap.size:=CG
  have D:=cell_later hb e0
  by_cases a:k<js.length
  ·obtain ⟨b1,M,rfl,E⟩:=hj.out.2.2.resolve_left (nz a);obtain ⟨c1,c2,ea,ec,c3,c4⟩:=(E.below f) k a;have C4:=aC c4;replace c1:=cell_later hb c1;replace c2:=cell_later hb c2;replace c3:=cell_later hb c3;have N:=c4.1;unfold maxLen at N;clear E c4;have F:Hid (∀ o,mL (wr.alloc o) (w.heap.size+1) (eY js k 0)):=fun o=>bT.below HM.out (show Cx wr (wr.alloc o) from blo)
   have G:Hid (∀ o,Cx W (wr.alloc o)):=fun o=>blo
   go_wp2_with fail
   go_loopw [20] (fun c wr => ∃ (m:Nat),m<=js[k].ends.length/\c = .int .i64 m/\Hid (mL wr (w.heap.size+1) (eY js k m))/\Cx W wr) (fun c _=>js[k].ends.length-(intOf c).toNat)
   case atStart=>exact ⟨0,Nat.zero_le _,rfl,F.out _,G.out _⟩
   case round =>
    clear F G HM c1 c2 c3 D C x hb;obtain ⟨m,hm,rfl,HM,hb⟩:=hrel;have x:=hb.size
    by_cases g:m<js[k].ends.length
    ·obtain ⟨b2,O,rfl,t⟩:=C4.out.2.resolve_left (nz g);obtain ⟨d1,d2⟩:=(t.below hb) m g;clear t;have y:=AG (m:=m) a;have R:=HE.out;have z:=Cm (eY js k m) (.agg #[.int .i64 js[k].ends[m].CB,.int .i64 js[k].ends[m].side]);obtain ⟨kl,l⟩:=wW (HR.out k a m g).1 (HR.out k a m g).2;have A:bT 114 (wr.alloc (Obj.cells #[Value.int IntKind.i64 js[k].ends[m].CB,Value.int IntKind.i64 js[k].ends[m].side] 114)).drew (w.heap.size+1) _ _:=bT.below HM.out (show Cx wr (wr.alloc _).drew from blo)
     have T:=A.lookup lT underlying196 l;obtain ⟨v0,st,w1,w2,ae,u,U,H,hg⟩:=A.entry xY underlying196 CK l (fE (eY js k m) (.agg #[.int .i64 js[k].ends[m].CB,.int .i64 js[k].ends[m].side])+1) (iW CG CG) (fE (eY js k (m+1))) (by rw [nv a g];exact Bh _ _) (by rw [nv a g];exact Ai _ _)
     have V:Hid (mL w2 (w.heap.size+1) (eY js k (m+1))):=by
      refine H.mono ?_;rw [nv a g,List.length_append];simp
     have X:Cx W w2:=Below.grown (show Cx W (wr.alloc _).drew from blo) hg CN (fun j hj=>by cases hj;omega)
     generalize fE (eY js k m) (.agg #[.int .i64 js[k].ends[m].CB,.int .i64 js[k].ends[m].side])=c0 at T u U z;have Y:=z.1;have Z:c0<=4000:=CG
     clear A H hg l y R HM z
     go_wp2_with fail
     go_region
     all_goals
      go_wp2_with fail
      go_roundw
      case rel=>exact ⟨m+1,CG,by go_num,V,X⟩
      case measure=>simp [intOf];omega
    ·have aa:Hid (mL wr (w.heap.size+1) (eY js (k+1) 0)):=by
      have h:=HM.out;rw [zI a CG] at h
      exact h
     clear HM
     go_wp2_with fail
     go_roundw
     case rel=>exact ⟨k+1,CG,by go_num,aa,hb⟩
     case measure=>simp [intOf];omega
  ·have I:Hid (mL wr (w.heap.size+1) (js.flatMap (·.ends))):=by
    have h:=HM.out;rw [Aa js k CG] at h
    exact h
   have HB:=aC hb;clear HM
   go_wp2_with fail
   clear hb x D C
   go_loopw [35] (fun c wr => ∃ (i:Nat),i<=pl/\c = .int .i64 i/\Hid (∀ q,q<i->ew js q=false)/\Hid (mL wr (w.heap.size+1) (js.flatMap (·.ends)))/\Cx W wr) (fun c _=>pl-(intOf c).toNat)
   case atStart=>exact ⟨0,Nat.zero_le _,rfl,(fun q h=>absurd h (Nat.not_lt_zero q)),I.out,HB.out⟩
   case round =>
    clear I HB;obtain ⟨i,hi,rfl,HQ,HM,hb⟩:=hrel
    by_cases J:i<pl
    ·obtain ⟨af,b⟩:=wW (p:=(i:Int)) (s:=0) (iW CG CG) CJ
     obtain ⟨ag,d⟩:=wW (p:=(i:Int)) (s:=1) (iW CG CG) CJ
     have B:=bT.lookup HM.out lT underlying196 b;have u:=bT.lookup HM.out lT underlying196 d;rw [xF] at B u;clear b d
     by_cases r:bX (js.flatMap (·.ends)) (i:Int) 0=1
     ·rw [r] at B
      by_cases v:bX (js.flatMap (·.ends)) (i:Int) 1=1
      ·rw [v] at u;have ab:Hid (∀ q,q<i+1->ew js q=false):=by
        intro q hq
        by_cases e:q<i
        ·exact HQ.out q e
        ·have:q=i:=CG
         subst this;unfold ew uses;rw [r,v];rfl
       clear r v HQ
       go_wp2_with fail
       go_roundw
       case rel=>exact ⟨i+1,CG,by go_num,ab,HM,hb⟩
       case measure=>simp [intOf];omega
      ·have HX:=aC (co J (by unfold ew uses;simp [v]) HQ.out)
       have hc:(((bX (js.flatMap (·.ends)) (i:Int) 1:Nat):Int)==1)=false:=by rw [beq_eq_false_iff_ne];omega
       generalize ((bX (js.flatMap (·.ends)) (i:Int) 1:Nat):Int)=c0 at hc u
       clear r v HQ
       go_wp2_with fail
       go_ret
       exact ⟨bB HX.out.symm,f.trans (hb.mono f.size)⟩
     ·have HX:=aC (co J (by unfold ew uses;simp [r]) HQ.out)
      have hc:(((bX (js.flatMap (·.ends)) (i:Int) 0:Nat):Int)==1)=false:=by rw [beq_eq_false_iff_ne];omega
      generalize ((bX (js.flatMap (·.ends)) (i:Int) 0:Nat):Int)=c0 at hc B
      have ah:(c0 != 1)=true:=by rw [bne,hc];rfl
      clear r HQ
      go_wp2_with fail
      go_ret
      exact ⟨bB HX.out.symm,f.trans (hb.mono f.size)⟩
    ·have HX:=aC (a8 (bad:=ew js) (n:=pl) (fun q h=>HQ.out q CG))
     clear HQ HM
     go_wp2_with fail
     go_ret
     exact ⟨bB HX.out.symm,f.trans (hb.mono f.size)⟩
end Go.Proofs.YtmkdgnmmebldgaaGreatDoor
namespace Go.Proofs.YtmkdgnmmebldgaaGreatDoor
open Go.RowKit Go.Maps
open Go.WideMaps (KeyLaw)
theorem vR (x:Int):jU x=true/\((x==1)=true\/(x==1)=false/\(x == -1)=true)\/jU x=false/\(x==1)=false/\(x == -1)=false:=by
 unfold jU;cases (x==1) <;> cases (x == -1) <;> simp
theorem s9 (pa:Option Addr)(pc:Nat)(ps:List af)(s:ByteArray)(pi pl wy:Int)(w:World)(hp:Hid (ar w pa ps))(hs:s.size<=maxLen)(hp100:ps.length<=100)(hpl:Hid (∀ k (hk:k<ps.length),1<=ps[k].len/\ps[k].len<=10000000)):
  Calls prog 103 #[.slice pa ps.length pc,.agg #[.string s,.int .i64 pi,.int .i64 pl,.int .i64 wy]] w fun e w'=>e = .returned (.bool (eD ps s pi pl wy))/\Cx w w':=by
 cases q1:cr s
 ·have HX:=aC (uq (ps:=ps) (pi:=pi) (pl:=pl) (wy:=wy) q1)
  go_enter func103,ntmps103
  go_wp2_with (first | (go_at_call 129;refine (dx _ _ hs).mono ?_;rintro e w' ⟨rfl,rfl⟩) | (go_at_call 80;refine (bU _ _ _ _).mono ?_;rintro e w' ⟨rfl,rfl⟩))
  go_ret
  exact ⟨aK HX.out.symm,blo⟩
 cases q2:inB pi 0 ((ps.length:Int)-1)
 ·have HX:=aC (tC (s:=s) (pl:=pl) (wy:=wy) q2)
  go_enter func103,ntmps103
  go_wp2_with (first | (go_at_call 129;refine (dx _ _ hs).mono ?_;rintro e w' ⟨rfl,rfl⟩) | (go_at_call 80;refine (bU _ _ _ _).mono ?_;rintro e w' ⟨rfl,rfl⟩))
  go_ret
  exact ⟨aK HX.out.symm,blo⟩
 rcases vR wy with ⟨q3,hw⟩ | ⟨q3,b,f⟩
 rotate_left
 ·have HX:=aC (tX (ps:=ps) (s:=s) (pi:=pi) (pl:=pl) q3);clear q3
  go_enter func103,ntmps103
  go_wp2_with (first | (go_at_call 129;refine (dx _ _ hs).mono ?_;rintro e w' ⟨rfl,rfl⟩) | (go_at_call 80;refine (bU _ _ _ _).mono ?_;rintro e w' ⟨rfl,rfl⟩))
  go_quiet ((go_at_call 80;exact Calls.quiet_of_same (bU _ _ _ _)))
  go_wp2_with fail
  go_ret
  exact ⟨aK HX.out.symm,blo⟩
 have HO:=aC (uh (ps:=ps) (pl:=pl) q1 q2 q3);have c:0<=pi/\pi<ps.length:=by
  unfold inB at q2;simp at q2;omega
 obtain ⟨k,rfl⟩:=Int.eq_ofNat_of_zero_le c.1;have a:k<ps.length:=CG
 have n:(0:Int)<=(k:Int):=CG
 have o:(k:Int)<(ps.length:Int):=CG
 obtain ⟨g,i⟩:=hpl.out k a;have j:Hid (eD ps s (k:Int) pl wy=inB pl 1 (ps[k].len-1)):=by
  have h:=HO.out
  erw [lK a] at h
  exact h
 obtain ⟨b2,l,rfl,d⟩:=hp.out.2.2.resolve_left (nz a);obtain ⟨d1,d2,d3,d4⟩:=d k a;have m:b2<w.heap.size:=ai d1;clear d d1 d3 d4 c q3 HO;rcases hw with b | ⟨b,f⟩
 all_goals
  go_enter func103,ntmps103
  go_wp2_with (first | (go_at_call 129;refine (dx _ _ hs).mono ?_;rintro e w' ⟨rfl,rfl⟩) | (go_at_call 80;refine (bU _ _ _ _).mono ?_;rintro e w' ⟨rfl,rfl⟩))
  go_quiet ((go_at_call 80;exact Calls.quiet_of_same (bU _ _ _ _)))
  go_wp2_with fail
  go_ret
  exact ⟨aK j.out.symm,blo⟩
theorem lH (pa sa:Option Addr)(pc sc:Nat)(ps ss:List af)(w:World)(hp:Hid (ar w pa ps))(hs:Hid (ar w sa ss))(hp100:ps.length<=100)(hpl:Hid (∀ k (hk:k<ps.length),1<=ps[k].len/\ps[k].len<=10000000)):
  Calls prog 59 #[.slice pa ps.length pc,.slice sa ss.length sc] w fun e w'=>e = .returned (.int .i64 (bh (fx ps ss) ss.length))/\Cx w w':=by
 have hl:=hs.out.1;unfold maxLen at hl
 go_enter func59,ntmps59
 go_wp2_with fail
 go_loopw [9] (fun c wr => ∃ (i:Nat),i<=ss.length/\c = .int .i64 i/\Hid (∀ q,q<i->fx ps ss q=false)/\Cx w wr) (fun c _=>ss.length-(intOf c).toNat)
 case atStart=>exact ⟨0,Nat.zero_le _,rfl,(fun q h=>absurd h (Nat.not_lt_zero q)),blo⟩
 case round =>
  obtain ⟨i,hi,rfl,HQ,hb⟩:=hrel;have m:=hb.size
  by_cases a:i<ss.length
  ·obtain ⟨b1,g,rfl,b⟩:=hs.out.2.2.resolve_left (nz a);obtain ⟨c1,c2,c3,c4⟩:=(b.below hb) i a;have j:ss[i].name.size<=maxLen:=hs.out.2.1 _ (List.getElem_mem a);have HP:=aC (hp.out.below hb);clear b
   go_wp2_with fail
   refine (s9 _ _ _ _ _ _ _ _ (HP.out.below blo) j hp100 hpl).mono ?_;rintro e w2 ⟨rfl,d⟩;have f:Cx w w2:=Below.trans blo (d.mono CN)
   clear hb d c1 c2 c3 c4 HP;cases ho:eD ps ss[i].name ss[i].len ss[i].CD ss[i].CC
   ·have HX:=aC (co a (by rw [i4 a,jM,ho];rfl) HQ.out)
    clear ho
    go_wp2_with fail
    go_ret
    exact ⟨bB HX.out.symm,f⟩
   ·have l:Hid (∀ q,q<i+1->fx ps ss q=false):=by
     intro q hq
     by_cases e:q<i
     ·exact HQ.out q e
     ·have:q=i:=CG
      subst this;rw [i4 a,jM,ho];rfl
    clear ho HQ
    go_wp2_with fail
    go_roundw
    case rel=>exact ⟨i+1,CG,by go_num,l,f⟩
    case measure=>simp [intOf];omega
  ·have HX:=aC (a8 (bad:=fx ps ss) (n:=ss.length) (fun q h=>HQ.out q CG))
   clear HQ
   go_wp2_with fail
   go_ret
   exact ⟨bB HX.out.symm,hb⟩
theorem Tryz.rowPost:(192:TypeId)<prog.types.size:=of_decide_eq_true CH
theorem AW:KeyLaw prog 192:=deep_law_laid Tryz.laidOutB (m:=2) CG Tryz.rowPost CH (by rw [underlying192])
theorem Ce:Keyed prog 192:=Keyed.of_law AW
theorem Tryz.cellsPost:prog.cellsOf 192=3:=CH
theorem Tryz.keyTypePost:prog.keyType 192=true:=CH
theorem Cu {p a v:Int}(hp:(Lit.int .i64 p).wf=true)(ha:(Lit.int .i64 a).wf=true)(hv:(Lit.int .i64 v).wf=true):∃ kl,keyOf prog 192 (.agg #[.int .i64 p,.int .i64 a,.int .i64 v])=some kl:=by
 have hn:∃ m,prog.types.size=m+1:=by
  have h:=Tryz.rowPost
  revert h
  generalize prog.types.size=n;intro h;cases n with
  | zero=>exact absurd h (Nat.not_lt_zero _)
  | succ m=>exact ⟨m,rfl⟩
 obtain ⟨m,hm⟩:=hn;unfold keyOf;simp only [underlying192];rw [if_pos (by simp [Tryz.keyTypePost,Value.formed,underlying192,Tryz.cellsPost]),hm]
 unfold Program.keyLits;simp only [underlying192,Value.cells];rw [if_pos (by rw [Tryz.cellsPost];exact ⟨rfl,CI⟩)]
 simp [Tryz.cellsInt,Program.keyLits,underlying3,hp,ha,hv]
def nB (L:List af)(p a v:Int):Nat:=L.countP fun s=>s.len==p&&s.CD==a&&s.CC==v
def fP (L:List af):Value->Int
 | .agg ⟨[.int .i64 p,.int .i64 a,.int .i64 v]⟩=>nB L p a v
 | _=>0
theorem sN (L:List af)(p a v:Int):fP L (.agg #[.int .i64 p,.int .i64 a,.int .i64 v])=nB L p a v:=rfl
theorem BZ:fP []=fun _=>0:=by
 funext v
 unfold fP
 split <;> rfl
theorem rD (L:List af)(s:af)(p a v:Int):nB (L++[s]) p a v=nB L p a v+if (s.len==p&&s.CD==a&&s.CC==v)=true then 1 else 0:=by
 unfold nB;rw [List.countP_append,List.countP_singleton]
theorem A7 (L:List af)(s:af):fP (L++[s]) (.agg #[.int .i64 s.len,.int .i64 s.CD,.int .i64 s.CC])=fP L (.agg #[.int .i64 s.len,.int .i64 s.CD,.int .i64 s.CC])+1:=by
 rw [sN,sN,rD,if_pos CI]
 simp
theorem Al (L:List af)(s:af):∀ k,k≠.agg #[.int .i64 s.len,.int .i64 s.CD,.int .i64 s.CC]->fP (L++[s]) k=fP L k:=by
 intro k hk;unfold fP
 split
 ·rename_i p a v;rw [rD,if_neg]
  ·simp
  ·intro h;simp at h;apply hk;rw [h.1.1,h.1.2,h.2]
 ·rfl
def sL (w:World)(b:Nat)(L:List af):Prop:=bT 9 w b L.length (fS (cN L))
def wN (w:World)(b:Nat)(L:List af):Prop:=bT 192 w b L.length (fP L)
theorem jj {ss:List af}{i:Nat}(h:i<ss.length):ss.take (i+1)=ss.take i++[ss[i]]:=List.take_succ_eq_append_getElem h
theorem oR (L:List af)(s:af):cN (L++[s])=cN L++[s.name]:=by simp [cN]
theorem l9 (ss:List af)(i:Nat)(s:af):fe ss i s=(decide (eX (cN (ss.take i)) s.name≠0) || decide (nB (ss.take i) s.len s.CD s.CC≠0)):=by
 unfold fe eX nB cN;generalize ss.take i=L;rw [Bool.eq_iff_iff];simp only [List.any_eq_true,jI,Bool.or_eq_true,decide_eq_true_eq,ne_eq,List.countP_eq_zero,List.mem_map,Bool.and_eq_true,beq_iff_eq];constructor
 ·rintro ⟨x,hx,h | h⟩
  ·left;intro h2;exact h2 x.name ⟨x,hx,rfl⟩ h
  ·right;intro h2;exact h2 x hx h
 ·rintro (h | h)
  ·have:∃ t,(∃ a,a ∈ L/\a.name=t)/\t=s.name:=by
    apply Classical.byContradiction;intro hn;exact h (fun t ht e=>hn ⟨t,ht,e⟩)
   obtain ⟨t,⟨x,hx,rfl⟩,e⟩:=this;exact ⟨x,hx,Or.inl e⟩
  ·have:∃ x,x ∈ L/\((x.len=s.len/\x.CD=s.CD)/\x.CC=s.CC):=by
    apply Classical.byContradiction;intro hn;exact h (fun x hx e=>hn ⟨x,hx,e⟩)
   obtain ⟨x,hx,e⟩:=this;exact ⟨x,hx,Or.inr e⟩
theorem lO {w w':World}{b:Nat}(hg:w.grownBy w' (some b)){a:Addr}{v:Value}(h:w.cell? a=some v)(hne:a.block≠b):w'.cell? a=some v:=
 (World.cell?_of_block (w:=w) (hg.block a.block (ai h) (fun e=>hne (by injection e)))).trans h
theorem kX (sa:Option Addr)(sc:Nat)(ss:List af)(w:World)(hs:Hid (ar w sa ss))(hl:ss.length<=1000)
  (hr:Hid (∀ q (h:q<ss.length),0<=ss[q].len/\ss[q].len<=100/\0<=ss[q].CD/\ss[q].CD<=10000000 /\ -1<=ss[q].CC/\ss[q].CC<=1)) :
  Calls prog 60 #[.slice sa ss.length sc] w fun e w'=>e = .returned (.int .i64 (bh (gq ss) ss.length))/\Cx w w':=by
 have E := @run_makeMap prog
 go_enter func60,ntmps60
 go_wp2_with fail
 have HS:Hid (sL ((w.alloc (.map #[] 0)).alloc (.map #[] 0)) w.heap.size (ss.take 0)):=by
  have h:=bT.made 9 w;rw [<-t8] at h;exact h.below (show Below _ _ ((w.alloc (.map #[] 0)).alloc (.map #[] 0)) from CV.alloc CW _)
 have HP:Hid (wN ((w.alloc (.map #[] 0)).alloc (.map #[] 0)) (w.heap.size+1) (ss.take 0)):=by
  have h:=bT.made 192 (w.alloc (.map #[] 0));have h2:(w.alloc (.map #[] 0)).heap.size=w.heap.size+1:=CI
  rw [<-BZ,h2] at h;exact h
 go_loopw [12] (fun c wr => ∃ (i:Nat),i<=ss.length/\c = .int .i64 i/\Hid (∀ q,q<i->gq ss q=false)/\Hid (sL wr w.heap.size (ss.take i))/\Hid (wN wr (w.heap.size+1) (ss.take i))/\Cx w wr) (fun c _=>ss.length-(intOf c).toNat)
 case atStart=>exact ⟨0,Nat.zero_le _,rfl,(fun q h=>absurd h (Nat.not_lt_zero q)),HS.out,HP.out,blo⟩
 case round =>
  clear HS HP E;obtain ⟨i,hi,rfl,HQ,HS,HP,hb⟩:=hrel;have M:=hb.size;have N:w.heap.size+1<wr.heap.size:=bT.lt HP.out
  by_cases b:i<ss.length
  ·obtain ⟨b1,F,rfl,z⟩:=hs.out.2.2.resolve_left (nz b);obtain ⟨c1,c2,c3,c4⟩:=(z.below hb) i b;have A:ss[i].name.size<=maxLen:=hs.out.2.1 _ (List.getElem_mem b);obtain ⟨y1,y2,y3,y4,y5,y6⟩:=hr.out i b;obtain ⟨kl,a⟩:=Cu (iW y1 CG) (iW y3 CG) (show (Lit.int .i64 ss[i].CC).wf=true from WalkArith.wf_i64 CG)
   clear z y1 y2 y3 y4 y5 y6;have p:Hid (fe ss i ss[i]=true->bh (gq ss) ss.length=i):=fun ho=>co b (by rw [lW b,ho]) HQ.out
   have s:Hid (fe ss i ss[i]=false->∀ q,q<i+1->gq ss q=false):=by
    intro ho q hq
    by_cases e:q<i
    ·exact HQ.out q e
    ·have:q=i:=CG
     subst this;rw [lW b,ho]
   clear HQ;generalize hX:(wr.alloc (Obj.cells #[Value.string ss[i].name,Value.int IntKind.i64 ss[i].len,Value.int IntKind.i64 ss[i].CD,Value.int IntKind.i64 ss[i].CC] 62)).alloc (Obj.cells #[Value.int IntKind.i64 ss[i].len,Value.int IntKind.i64 ss[i].CD,Value.int IntKind.i64 ss[i].CC] 192)=X;have l:Cx wr X:=by rw [<-hX];exact blo
   have n0:X.cell? ⟨wr.heap.size,0,none⟩=some (.string ss[i].name):=by rw [<-hX];simp [go_sem]
   have p0:X.cell? ⟨wr.heap.size+1,0,none⟩=some (.int .i64 ss[i].len):=by rw [<-hX];simp [go_sem]
   have p1:X.cell? ⟨wr.heap.size+1,1,none⟩=some (.int .i64 ss[i].CD):=by rw [<-hX];simp [go_sem]
   have p2:X.cell? ⟨wr.heap.size+1,2,none⟩=some (.int .i64 ss[i].CC):=by rw [<-hX];simp [go_sem]
   have r:bT 9 X w.heap.size (ss.take i).length (fS (cN (ss.take i))):=bT.below HS.out l;have m:bT 192 X (w.heap.size+1) (ss.take i).length (fP (ss.take i)):=bT.below HP.out l;have B:=r.lookup qT underlying189 (qu A);have C:=m.lookup Ce underlying190 a;have d:Cx w X:=hb.trans (l.mono hb.size);have g:(ss.take i).length<=1000:=by rw [List.length_take];omega
   have O:wr.heap.size+1<X.heap.size:=by rw [<-hX];simp
   by_cases kS:eX (cN (ss.take i)) ss[i].name=0
   ·have eS:fS (cN (ss.take i)) (.string ss[i].name)=0:=by show ((eX _ _:Nat):Int)=0;rw [kS];rfl
    rw [eS] at B
    by_cases kP:nB (ss.take i) ss[i].len ss[i].CD ss[i].CC=0
    ·have eP:fP (ss.take i) (.agg #[.int .i64 ss[i].len,.int .i64 ss[i].CD,.int .i64 ss[i].CC])=0:=by rw [sN,kP];rfl
     rw [eP] at C;have G:=aC (s.out (by rw [l9,kS,kP];rfl))
     obtain ⟨w2,R,t,o⟩:=r.update qT underlying189 CK (qu A) 1 (iW CG CG) (fS (cN (ss.take (i+1)))) (by rw [jj b,oR,qO,kS];rfl) (by rw [jj b,oR];exact pj _ _)
     have m0:=lO o p0 (by show wr.heap.size+1≠w.heap.size;omega)
     have m1:=lO o p1 (by show wr.heap.size+1≠w.heap.size;omega)
     have m2:=lO o p2 (by show wr.heap.size+1≠w.heap.size;omega)
     have u:bT 192 w2.drew (w.heap.size+1) (ss.take i).length (fP (ss.take i)):=m.of_block (o.block _ (bT.lt m) CI)
     have v:=u.lookup Ce underlying190 a;rw [eP] at v;obtain ⟨v0,st,w3,w4,T,H,U,D,x⟩:=u.entry AW underlying190 CK a 1 (iW CG CG) (fP (ss.take (i+1))) (by rw [jj b,A7,eP];rfl) (by rw [jj b];exact Al _ _)
     rw [eP] at H;have f:(ss.take (i+1)).length=(ss.take i).length+1:=by rw [jj b,List.length_append];rfl
     have I:Hid (wN w4 (w.heap.size+1) (ss.take (i+1))):=by
      unfold Hid wN;rw [f];exact D
     have J:Hid (sL w4 w.heap.size (ss.take (i+1))):=by
      unfold Hid sL;rw [f];refine t.of_block ?_;exact x.block _ (bT.lt t) CI
     have y:Cx w w2:=d.grown o d.size (fun j hj=>by cases hj;exact Nat.le_refl _)
     have L:Cx w w4:=y.drew.grown x y.size (fun j hj=>by cases hj;omega)
     clear r m t u D o x a eS eP kS kP p s HS HP g f y d p0 p1 p2 l;subst hX
     go_wp2_with fail
     go_region
     all_goals
      go_wp2_with fail
      go_roundw
      case rel=>exact ⟨i+1,CG,by go_num,G,J,I,L⟩
      case measure=>simp [intOf];omega
    ·have HX:=aC (p.out (by rw [l9,kS,decide_eq_true kP];rfl))
     have k:0<fP (ss.take i) (.agg #[.int .i64 ss[i].len,.int .i64 ss[i].CD,.int .i64 ss[i].CC]):=by
      rw [sN];omega
     generalize fP (ss.take i) (.agg #[.int .i64 ss[i].len,.int .i64 ss[i].CD,.int .i64 ss[i].CC])=c0 at C k;clear r m a eS kS kP p s HS HP g l p0 p1 p2 n0;subst hX
     go_wp2_with fail
     go_ret
     exact ⟨bB HX.out.symm,d⟩
   ·have HX:=aC (p.out (by rw [l9,decide_eq_true kS];rfl))
    have k:0<fS (cN (ss.take i)) (.string ss[i].name):=by
     show (0:Int)<((eX _ _:Nat):Int)
     omega
    generalize fS (cN (ss.take i)) (.string ss[i].name)=c0 at B k;clear r m a kS p s HS HP g l p0 p1 p2 n0;subst hX
    go_wp2_with fail
    go_ret
    exact ⟨bB HX.out.symm,d⟩
  ·have HX:=aC (a8 (bad:=gq ss) (n:=ss.length) (fun q h=>HQ.out q CG))
   clear HQ HS HP
   go_wp2_with fail
   go_ret
   exact ⟨bB HX.out.symm,hb⟩
end Go.Proofs.YtmkdgnmmebldgaaGreatDoor
namespace Go.Proofs.YtmkdgnmmebldgaaGreatDoor
open Go.RowKit
theorem BT {W w1:World}(hb:Cx W w1):(∀ b o,b<W.heap.size->w1.cell? ⟨b,o,none⟩=W.cell? ⟨b,o,none⟩):=
 fun b o h=>hb.cell (p:=⟨b,o,none⟩) h
theorem um {ps:List af}{i:Nat}(h:i<ps.length)(hp:cM ps[i].name ps[i].len ps[i].CD ps[i].CC=false):dX ps i=true:=by
 rw [gP h];simp [okP,hp]
theorem oX {ps:List af}{i:Nat}(h:i<ps.length):cN (ps.take (i+1))=cN (ps.take i)++[ps[i].name]:=by
 unfold cN;rw [List.take_succ_eq_append_getElem h,List.map_append];rfl
theorem mB (pa:Option Addr)(pc:Nat)(ps:List af)(w:World)(hp:Hid (ar w pa ps))(hl:ps.length<=1000000):
  Calls prog 65 #[.slice pa ps.length pc] w fun e w'=>e = .returned (.int .i64 (bh (dX ps) ps.length))/\Cx w w':=by
 have p := @run_makeMap prog
 go_enter func65,ntmps65
 go_wp2_with fail
 have HM:=aC (bT.made 9 w);rw [<-t8] at HM
 go_loopw [9] (fun c wr => ∃ (i:Nat),i<=ps.length/\c = .int .i64 i/\Hid (∀ q,q<i->dX ps q=false)/\Hid (bT 9 wr w.heap.size i (fS (cN (ps.take i))))/\Cx w wr) (fun c _=>ps.length-(intOf c).toNat)
 case atStart=>exact ⟨0,Nat.zero_le _,rfl,(fun q h=>absurd h (Nat.not_lt_zero q)),HM.out,blo⟩
 case round =>
  clear HM p;obtain ⟨i,hi,rfl,HQ,HM,hb⟩:=hrel;have v:=hb.size
  by_cases a:i<ps.length
  ·obtain ⟨b1,r,rfl,l⟩:=hp.out.2.2.resolve_left (nz a);obtain ⟨c1,c2,c3,c4⟩:=(l.below hb) i a;have g:ps[i].name.size<=maxLen:=hp.out.2.1 _ (List.getElem_mem a);clear l
   go_wp2_with fail
   refine (uz _ _ _ _ _ g).mono ?_;rintro e w2 ⟨rfl,f⟩;have x:=BT f;have b:Cx w w2:=Below.trans blo (f.mono CN)
   have d:bT 9 w2 w.heap.size i (fS (cN (ps.take i))):=(HM.out.below (show Cx wr (wr.alloc _) from blo)).below f
   clear hb f c1 c2 c3 c4 HM;cases hP:cM ps[i].name ps[i].len ps[i].CD ps[i].CC
   ·have HX:=aC (co a (um a hP) HQ.out);clear hP d
    go_wp2_with fail
    go_ret
    exact ⟨bB HX.out.symm,b⟩
   ·have m:=d.lookup qT underlying189 (qu g);cases hA:er (cN (ps.take i)) ps[i].name
    ·have h0:fS (cN (ps.take i)) (.string ps[i].name)=0:=by
      show ((eX _ _:Nat):Int)=0
      rw [(jq _ _).2 hA];rfl
     rw [h0] at m;obtain ⟨w3,y,o,hg⟩:=d.update qT underlying189 CK (qu g) 1 (iW CG CG) (fS (cN (ps.take (i+1)))) (by rw [oX a,qO,(jq _ _).2 hA];rfl) (by rw [oX a];exact pj _ _)
     have s:=aC o;have t:Cx w w3:=b.grown hg b.size (fun j hj=>by cases hj;exact Nat.le_refl _)
     have u:Hid (∀ q,q<i+1->dX ps q=false):=by
      intro q hq
      by_cases e:q<i
      ·exact HQ.out q e
      ·have:q=i:=CG
       subst this;rw [gP a,okP,hP,hA];rfl
     clear hP hA h0 d o hg b HQ
     go_wp2_with fail
     go_roundw
     case rel=>exact ⟨i+1,CG,by go_num,u,s,t⟩
     case measure=>simp [intOf];omega
    ·have HX:=aC (co a (by rw [gP a];simp [okP,hA]) HQ.out)
     have k:0<fS (cN (ps.take i)) (.string ps[i].name):=by
      show (0:Int)<((eX _ _:Nat):Int)
      have:eX (cN (ps.take i)) ps[i].name≠0:=fun h=>by rw [jq,hA] at h;cases h
      omega
     generalize fS (cN (ps.take i)) (.string ps[i].name)=c0 at m k;clear hP hA d
     go_wp2_with fail
     go_ret
     exact ⟨bB HX.out.symm,b⟩
  ·have HX:=aC (a8 (bad:=dX ps) (n:=ps.length) (fun q h=>HQ.out q CG))
   clear HQ HM
   go_wp2_with fail
   go_ret
   exact ⟨bB HX.out.symm,hb⟩
end Go.Proofs.YtmkdgnmmebldgaaGreatDoor
