import Derived.Test.YtmkdgnmmebldgaaGreatDoorPk34
import Derived.Test.YtmkdgnmmebldgaaGreatDoorPk47
import Derived.Laws.OwnMore
import Derived.OneCell
set_option maxRecDepth 100000
set_option maxHeartbeats 8000000
open Go.Proofs.Tryz
namespace Go.Proofs.YtmkdgnmmebldgaaGreatDoor
open Go.RowKit Go.Deep
variable {B n:Nat}{cells:List Value}{w:World}
def dM (n:Nat)(M:Nat->Nat->Int):List (List Int):=(List.range n).map fun p=>(List.range n).map (M p)
def mb (M:Nat->Nat->Int)(i k:Nat)(v:Int)(p q:Nat):Int:=if p=i/\q=k then v else M p q
def eW (f:Nat->Nat->Int)(i m p q:Nat):Int:=if (p<i/\q<i)\/(p=i/\q<m)\/(q=i/\p<m) then f p q else 0
theorem fW (n:Nat)(M:Nat->Nat->Int):(dM n M).length=n:=by simp [dM]
theorem kM (n:Nat)(M:Nat->Nat->Int)(p:Nat)(h:p<(dM n M).length):(dM n M)[p]=(List.range n).map (M p):=by simp [dM]
theorem kO {M M':Nat->Nat->Int}(h:∀ p q,p<n->q<n->M p q=M' p q):dM n M=dM n M':=by
 unfold dM;apply List.map_congr_left;intro p hp;apply List.map_congr_left;intro q hq;exact h p q (List.mem_range.1 hp) (List.mem_range.1 hq)
theorem vV {f:Nat->Nat->Int}(hf:∀ p q,f p q=f q p)(i m:Nat)(p q:Nat):mb (mb (eW f i m) i m (f i m)) m i (f i m) p q=eW f i (m+1) p q:=by
 unfold mb eW
 by_cases h1:p=m/\q=i
 ·obtain ⟨rfl,rfl⟩:=h1;rw [if_pos ⟨rfl,rfl⟩,if_pos CG,hf]
 ·rw [if_neg h1]
  by_cases h2:p=i/\q=m
  ·obtain ⟨rfl,rfl⟩:=h2;rw [if_pos ⟨rfl,rfl⟩,if_pos CG]
  ·rw [if_neg h2]
   by_cases h3:(p<i/\q<i)\/(p=i/\q<m)\/(q=i/\p<m)
   ·rw [if_pos h3,if_pos CG]
   ·rw [if_neg h3,if_neg CG]
theorem xL (f:Nat->Nat->Int)(i:Nat)(p q:Nat):eW f i (i+1) p q=eW f (i+1) 0 p q:=by
 unfold eW
 by_cases h3:(p<i/\q<i)\/(p=i/\q<i+1)\/(q=i/\p<i+1)
 ·rw [if_pos h3,if_pos CG]
 ·rw [if_neg h3,if_neg CG]
theorem wX (f:Nat->Nat->Int)(p q:Nat):eW f 0 0 p q=0:=by
 unfold eW;rw [if_neg CG]
theorem yi (f:Nat->Nat->Int)(n p q:Nat)(hp:p<n)(hq:q<n):eW f n 0 p q=f p q:=by
 unfold eW;rw [if_pos CG]
theorem zT (l:List Int)(k:Nat)(v:Int):(bP l).set k (.int .i64 v)=bP (l.set k v):=by
 have h:∀ l:List Int,bP l=l.map (Value.int .i64):=by
  intro l
  induction l with
  | nil=>rfl
  | cons x r ih=>show lz x++bP r=_;rw [ih];rfl
 rw [h,h,List.map_set]
theorem zF (n i k:Nat)(M:Nat->Nat->Int)(v:Int):((List.range n).map (M i)).set k v=(List.range n).map (mb M i k v i):=by
 apply List.ext_getElem
 ·simp
 ·intro q h1 h2;simp only [List.length_set,List.length_map,List.length_range] at h1;rw [List.getElem_set];unfold mb
  by_cases e:k=q
  ·subst e;simp
  ·have e':¬ q=k:=fun h=>e h.symm
   simp [e,e']
theorem bQ.row {M:Nat->Nat->Int}(h:bQ w B cells (dM n M))(hn:0<n)(i:Nat)(hi:i<n):
  ∃ g cap,cells[i]? = some (.slice (some ⟨g,0,none⟩) n cap)/\w.ownsRow B 3 1 (.slice (some ⟨g,0,none⟩) n cap) n (bP ((List.range n).map (M i))):=by
 obtain ⟨v,h1,h2⟩:=h.2 i (by rw [fW];exact hi)
 rw [kM] at h2;have hl:((List.range n).map (M i)).length=n:=CI
 rw [hl] at h2;rcases h2.2 with ⟨_,h0⟩ | ⟨g,cap,a,hv,_⟩
 ·omega
 ·subst hv;exact ⟨g,cap,h1,h2⟩
theorem bQ.set {M:Nat->Nat->Int}(h:bQ w B cells (dM n M))(hA:ek cells){i k g cap:Nat}(hi:i<n)(hc:cells[i]? = some (.slice (some ⟨g,0,none⟩) n cap))(v:Int):
  bQ (w.setCell ⟨g,k,none⟩ (.int .i64 v)) B cells (dM n (mb M i k v)):=by
 refine ⟨by rw [h.1,fW,fW],fun p hp=>?_⟩
 rw [fW] at hp;obtain ⟨u,h1,h2⟩:=h.2 p (by rw [fW];exact hp)
 refine ⟨u,h1,?_⟩;rw [kM] at h2 ⊢
 by_cases e:p=i
 ·subst e;rw [hc] at h1;cases h1;have hl:((List.range n).map (M p)).length=n:=CI
  have a:((List.range n).map (mb M p k v p)).length=n:=CI
  rw [hl] at h2;rw [a];have h3:=(h2.stored k (.int .i64 v)).1;rw [zT,zF] at h3;exact h3
 ·have hM:(List.range n).map (mb M i k v p)=(List.range n).map (M p):=by
   apply List.map_congr_left;intro q _;unfold mb;rw [if_neg (fun h=>e h.1)]
  rw [hM];exact ownsRow_setCell_other h2 (fun hb=>e (hA p i u _ g h1 hc hb rfl)) _
theorem oW:∀ n:Nat,bP (List.replicate n 0)=List.replicate n (Value.int .i64 0)
 | 0=>rfl
 | n+1=>by
  rw [List.replicate_succ,List.replicate_succ]
  show lz 0++bP _=_
  rw [oW n];rfl
theorem yK (w:World)(n:Nat)(hn:n<=1048576):
  ∃ w',(Instr.makeSlice 40 (.int .i64 (n:Int)) (.int .i64 (n:Int))).run prog w = .ok (.slice (some ⟨w.heap.size,0,none⟩) n n) w' /\
   w'.ownsRow w.heap.size 3 1 (.slice (some ⟨w.heap.size,0,none⟩) n n) n (bP (List.replicate n 0))/\Cx w w':=by
 obtain ⟨i,a,b,c,d⟩:=info_parts Tryz.infoInt;have hr:=run_make (P:=prog) w 40 3 i _ underlying40 a b .i64 .i64 n n CG CG (by rw [d];omega) CG
 simp only [Int.toNat_natCast] at hr;rw [c,Nat.mul_one] at hr;refine ⟨_,hr,?_,blo⟩;have h:=World.ownsRow_lit w (base:=w.heap.size) (e:=3) (size:=1) (n:=n) (cs:=madeCells (Value.int .i64 0).cells n) CW CK (by rw [size_madeCells];omega)
 rw [show (madeCells (Value.int IntKind.i64 0).cells n).toList=List.replicate n (Value.int .i64 0) from toList_madeCells_one _ _] at h
 rw [oW];exact h
theorem yD (n:Nat)(f:Nat->Nat->Int):List.replicate n (List.replicate n 0)=dM n (eW f 0 0):=by
 apply List.ext_getElem
 ·simp [dM]
 ·intro p h1 h2;rw [kM,List.getElem_replicate];apply List.ext_getElem
  ·simp
  ·intro q h3 h4;simp [wX]
def ub (w:World)(a:Option Addr)(cs:List bY):Prop:=cs.length<=maxLen/\(cs=[]\/∃ b off,a=some ⟨b,off,none⟩/\∀ i (h:i<cs.length),∃ d,dn w b (off+i*12) d cs[i]/\iB w d cs[i])
theorem wm (a b:bY):ey a b=ey b a:=by
 unfold ey;rw [oQ a.CF,vi a.Cy,xB a.needs];simp only [Or.comm]
def exM (cs:List bY)(p q:Nat):Int:=match cs[p]?,cs[q]? with
 | some a,some b=>ey a b
 | _,_=>0
theorem yk {cs:List bY}{p q:Nat}(hp:p<cs.length)(hq:q<cs.length):exM cs p q=ey cs[p] cs[q]:=by
 unfold exM;rw [List.getElem?_eq_getElem hp,List.getElem?_eq_getElem hq]
theorem AD (cs:List bY)(p q:Nat):exM cs p q=exM cs q p:=by
 unfold exM;cases cs[p]? <;> cases cs[q]? <;> simp [wm]
theorem vc (rs:List al):dM rs.length (exM (rs.map d5))=rs.map fun a=>rs.map (b9 a):=by
 apply List.ext_getElem
 ·simp [dM]
 ·intro p h1 h2;rw [kM];apply List.ext_getElem
  ·simp
  ·intro q h3 h4;have hp:p<rs.length:=by simpa using h2
   have hq:q<rs.length:=by simpa using h3
   simp only [List.getElem_map,List.getElem_range];rw [yk (by simpa using hp) (by simpa using hq)]
   simp only [List.getElem_map];exact At _ _
theorem vr (a:Option Addr)(cap:Nat)(cs:List bY)(w:World)(ha:Hid (ub w a cs))(hcap:cs.length<=cap)(hn3:cs.length<=300):
  Calls prog 122 #[.slice a cs.length cap,fnV 123] w fun e w' => ∃ x y cells,e = .returned (.slice x cs.length y)/\Hid (w'.ownsRow w.heap.size 40 1 (.slice x cs.length y) cs.length cells)/\Hid (bQ w' w.heap.size cells (dM cs.length (exM cs)))/\Hid (ek cells)/\Cx w w':=by
 unfold fnV
 go_enter func122,ntmps122
 go_wp2_with fail
 go_loopw [5,13] (fun v i wr => ∃ (k:Nat) (x:Option Addr) (y:Nat) (cells:List Value),k<=cs.length/\i = .int .i64 k/\v = .slice x k y/\Hid (wr.ownsRow w.heap.size 40 1 (.slice x k y) k cells)/\Hid (bQ wr w.heap.size cells (List.replicate k (List.replicate cs.length 0)))/\Hid (ek cells)/\Cx w wr) (fun _ i _=>cs.length-(intOf i).toNat)
 case atStart=>exact ⟨0,none,0,[],Nat.zero_le _,rfl,rfl,World.ownsRow_nil _ _ _ _,⟨rfl,fun i h=>absurd h CI⟩,ip,Below.refl _ _⟩
 case round =>
  obtain ⟨k,x,y,cells,hk,rfl,rfl,ho,hR,E,hb⟩:=hrel;have B:=hb.size
  by_cases ao:k<cs.length
  ·obtain ⟨w1,hm,C,M⟩:=yK wr cs.length CG
   have aQ:wr.heap.size<w1.heap.size:=(C.lt wr.heap.size rfl).2;have G:=hb.trans (M.mono hb.size);have R:=aa (aq ho.out M);have ap:=aa (hR.out.below M);have T:Hid (w1.ownsRow w.heap.size 3 1 (.slice (some ⟨wr.heap.size,0,none⟩) cs.length cs.length) (List.replicate cs.length (0:Int)).length (bP (List.replicate cs.length 0))):=by rw [List.length_replicate];exact aW C B
   have ar:=aa (E.out.push hR.out CW (r:=.slice (some ⟨wr.heap.size,0,none⟩) cs.length cs.length) (fun b hb=>by cases hb;exact Nat.le_refl _))
   have au:Hid (List.replicate k (List.replicate cs.length (0:Int))++[List.replicate cs.length 0]=List.replicate (k+1) (List.replicate cs.length 0)):=List.replicate_succ'.symm;have av:=G.size;clear ho hR E C M hb B
   go_wp2_with (at_builtin;refine aU rfl (.tmp 15) (.tmp 19) 36 rfl w.heap.size 40 _ 1 24 underlying36 Tryz.infoInts rfl CJ (.slice x k y) k cells rfl R.out w1.heap.size rfl [.slice (some ⟨wr.heap.size,0,none⟩) cs.length cs.length] rfl rfl CL CK CG CG ?_;intro x' y' w4 af U;have aw:=dw G R.out U CG;have l:=aa af;have F:=aa (ap.out.push R.out T.out U);clear af U)
   go_roundw
   case rel=>exact ⟨k+1,x',y',_,CG,by go_num,rfl,l,by rw [<-au.out];exact F,ar,aw⟩
   case measure=>simp [intOf];omega
  ·have N:k=cs.length:=CG
   have H:Hid (bQ wr w.heap.size cells (dM cs.length (eW (exM cs) 0 0))):=by have h:=hR.out;rw [N,yD cs.length (exM cs)] at h;exact h
   have I:Hid (wr.ownsRow w.heap.size 40 1 (.slice x cs.length y) cs.length cells):=by have h:=ho.out;rw [N] at h;exact h
   have HB:=aa hb;rw [N];clear hR ho hk ao N
   go_wp2_with fail
   clear hb B
   go_loopw [24] (fun i wr => ∃ (i':Nat),i'<=cs.length/\i = .int .i64 i'/\Hid (wr.ownsRow w.heap.size 40 1 (.slice x cs.length y) cs.length cells)/\Hid (bQ wr w.heap.size cells (dM cs.length (eW (exM cs) i' 0)))/\Cx w wr) (fun i _=>cs.length-(intOf i).toNat)
   case atStart=>exact ⟨0,Nat.zero_le _,rfl,I,H,HB.out⟩
   case round =>
    clear I H HB;obtain ⟨i,hi,rfl,ho,hR,hb⟩:=hrel;have B:=hb.size
    by_cases J:i<cs.length
    ·obtain ⟨b1,ax,ay,ag⟩:=ha.out.2.resolve_left (nz J);subst ay;have ah:=aa ag;clear ag;obtain ⟨d1,q1,l1⟩:=ah.out i J;have Q1:=q1.below hb;obtain ⟨c0,c1,c2,c3,c4,c5,c6,c7,c8,c9,V,W⟩:=Q1;have az:=aa l1;clear q1 l1
     go_wp2_with fail
     generalize X:wr.alloc _=W2;have c:Hid (dn W2 wr.heap.size 0 d1 cs[i]):=by rw [<-X];exact jv wr d1 cs[i] _
     have n:Cx wr W2:=by rw [<-X];exact blo
     have I:=aa (aq ho.out n);have H:=aa (hR.out.below n);have G:=hb.trans (n.mono hb.size);have aj:=aa G;have Y:Hid (∀ (p:Nat) (v:Value) (b:Nat),cells[p]? = some v->v.ownBlock=some b->b<wr.heap.size):=by
      intro p v b hv aA;have hp:p<cs.length:=by
       have h1:=(List.getElem?_eq_some_iff.1 hv).1;have h2:=hR.out.1;rw [fW] at h2;omega
      obtain ⟨u,h1,h2⟩:=hR.out.2 p (by rw [fW];exact hp)
      rw [hv] at h1;cases h1;exact (h2.lt b aA).2
     clear X ho hR hb B n c0 c1 c2 c3 c4 c5 c6 c7 c8 c9 V W G;generalize wr.heap.size=Bi at c Y ⊢
     go_loopw [34] (fun j wr => ∃ (m:Nat),m<=i+1/\j = .int .i64 m/\Hid (wr.ownsRow w.heap.size 40 1 (.slice x cs.length y) cs.length cells)/\Hid (bQ wr w.heap.size cells (dM cs.length (eW (exM cs) i m)))/\Hid (dn wr Bi 0 d1 cs[i])/\Cx w wr) (fun j _=>i+1-(intOf j).toNat)
     case atStart=>exact ⟨0,Nat.zero_le _,rfl,I,H,c,aj.out⟩
     case round =>
      clear I H c aj;obtain ⟨m,hm,rfl,ho,hR,c,hb⟩:=hrel;have B:=hb.size
      by_cases aR:m<i+1
      ·have O:m<cs.length:=CG
       obtain ⟨d2,q2,l2⟩:=ah.out m O;have Q2:=q2.below hb;obtain ⟨c0,c1,c2,c3,c4,c5,c6,c7,c8,c9,V,W⟩:=Q2;have aB:=aa l2;have e0:wr.cell? ⟨Bi,0,none⟩=some (.slice d1.pa cs[i].CF.length d1.pc):=c.out.k0;have e1:wr.cell? ⟨Bi,1,none⟩=some (.int .u64 d1.ps.a):=c.out.k1;have e2:wr.cell? ⟨Bi,2,none⟩=some (.int .u64 d1.ps.b):=c.out.k2;have e3:wr.cell? ⟨Bi,3,none⟩=some (.slice d1.oa cs[i].over.length d1.oc):=c.out.k3;have e4:wr.cell? ⟨Bi,4,none⟩=some (.int .u64 d1.os.a):=c.out.k4;have e5:wr.cell? ⟨Bi,5,none⟩=some (.int .u64 d1.os.b):=c.out.k5;have e6:wr.cell? ⟨Bi,6,none⟩=some (.slice d1.xa cs[i].Cy.length d1.xc):=c.out.k6;have e7:wr.cell? ⟨Bi,7,none⟩=some (.int .u64 d1.xs.a):=c.out.k7;have e8:wr.cell? ⟨Bi,8,none⟩=some (.int .u64 d1.xs.b):=c.out.k8;have e9:wr.cell? ⟨Bi,9,none⟩=some (.slice d1.na cs[i].needs.length d1.nc):=c.out.k9;have aC:wr.cell? ⟨Bi,10,none⟩=some (.int .u64 d1.ns.a):=c.out.k10;have aD:wr.cell? ⟨Bi,11,none⟩=some (.int .u64 d1.ns.b):=c.out.k11;have aE:=c.out.lt;clear q2 l2
       go_wp2_with fail
       generalize ak:wr.alloc _=W3;have o:Cx wr W3:=by rw [<-ak];exact blo
       clear ak c0 c1 c2 c3 c4 c5 c6 c7 c8 c9 V W e0 e1 e2 e3 e4 e5 e6 e7 e8 e9 aC aD;have Z:=hb.trans (o.mono hb.size);refine (uR d1 d2 cs[i] cs[m] _ (az.out.below Z) (aB.out.below Z)).mono ?_;rintro e w4 ⟨rfl,L⟩;have f:=o.trans (L.mono o.size);have l:=aa (aq ho.out f);have F:=aa (hR.out.below f);have s:=aa (c.out.below f);have aF:=hb.trans (f.mono hb.size);have HV:Hid (exM cs i m=ey cs[i] cs[m]):=yk J O;generalize ey cs[i] cs[m]=v at HV ⊢;clear ho hR c hb B o L f Z aE;obtain ⟨gi,ci,D,ri⟩:=F.out.row CG i J
       obtain ⟨gm,cm,d,rm⟩:=F.out.row CG m O
       obtain ⟨gT,aG⟩:∃ gT,x=some (⟨gT,0,none⟩:Addr):=by
        rcases l.out.2 with ⟨_,h0⟩ | ⟨g,aH,aS,h1,_⟩
        ·omega
        ·cases h1;exact ⟨g,rfl⟩
       subst aG;have tI:w4.cell? ⟨gT,i,none⟩=some (.slice (some ⟨gi,0,none⟩) cs.length ci):=(l.out.cellAt i CG).trans D
       have tM:w4.cell? ⟨gT,m,none⟩=some (.slice (some ⟨gm,0,none⟩) cs.length cm):=(l.out.cellAt m CG).trans d
       have uI:∃ u,w4.cell? ⟨gi,m,none⟩=some u:=by
        rw [ri.cellAt m CG]
        exact ⟨_,List.getElem?_eq_getElem (by rw [gS];simp;omega)⟩
       have uM:∃ u,w4.cell? ⟨gm,i,none⟩=some u:=by
        rw [rm.cellAt i CG]
        exact ⟨_,List.getElem?_eq_getElem (by rw [gS];simp;omega)⟩
       obtain ⟨uI,aI⟩:=uI;obtain ⟨uM,aJ⟩:=uM;have fI:=ri.frozenAt m;have fM:=rm.frozenAt i;have aK:=ai tI;have aL:=ai aI;have aM:=ai aJ;dsimp only at aK aL aM;have t:Hid (bQ ((w4.setCell ⟨gi,m,none⟩ (.int .i64 v)).setCell ⟨gm,i,none⟩ (.int .i64 v)) w.heap.size cells (dM cs.length (eW (exM cs) i (m+1)))):=by
        have h:=(F.out.set E.out J D v (k:=m)).set E.out O d v (k:=i);rw [kO (M':=eW (exM cs) i (m+1)) (fun p q _ _=>by rw [<-HV.out];exact vV (AD cs) i m p q)] at h
        exact h
       have aN:gi≠gT:=by
        have h:=aV CJ ri l.out
        simp only [Value.ownBlock] at h;rcases h with h | h
        ·cases h
        ·exact fun e=>h (by rw [e])
       have aO:gm≠gT:=by
        have h:=aV CJ rm l.out
        simp only [Value.ownBlock] at h;rcases h with h | h
        ·cases h
        ·exact fun e=>h (by rw [e])
       have ab:gi<Bi:=Y.out i _ gi D rfl;have ac:gm<Bi:=Y.out m _ gm d rfl;have ad:w.heap.size<=gi:=(ri.lt gi rfl).1;have ae:w.heap.size<=gm:=(rm.lt gm rfl).1;have z:Hid (((w4.setCell ⟨gi,m,none⟩ (.int .i64 v)).setCell ⟨gm,i,none⟩ (.int .i64 v)).ownsRow w.heap.size 40 1 (.slice (some ⟨gT,0,none⟩) cs.length y) cs.length cells):=ownsRow_setCell_other (ownsRow_setCell_other l.out (a:=⟨gi,m,none⟩) (by simp only [Value.ownBlock];intro e;cases e;exact aN rfl) _) (a:=⟨gm,i,none⟩) (by simp only [Value.ownBlock];intro e;cases e;exact aO rfl) _
       have A:Hid (dn ((w4.setCell ⟨gi,m,none⟩ (.int .i64 v)).setCell ⟨gm,i,none⟩ (.int .i64 v)) Bi 0 d1 cs[i]):=s.out.kept (by rw [Below.heap_setCell _ _ _ _ CR,Below.heap_setCell _ _ _ _ CR])
       have al:Cx w ((w4.setCell ⟨gi,m,none⟩ (.int .i64 v)).setCell ⟨gm,i,none⟩ (.int .i64 v)):=(aF.setCell (p:=⟨gi,m,none⟩) ad _).setCell (p:=⟨gm,i,none⟩) ae _;have am:=aa al;clear l F s ri rm ab ac al
       by_cases an:m=i
       ·subst an;rw [D] at d;cases d;clear D
        go_wp2_with fail
        go_region
        all_goals
         go_wp2_with fail
         go_roundw
         case rel=>exact ⟨m+1,CG,by go_num,z,t,A.out.kept rfl,am.out.drew⟩
         case measure=>first | (simp [intOf];done) | (simp [intOf];omega)
       ·have aT:gi≠gm:=fun e=>an (E.out m i _ _ gm d D rfl (congrArg some e))
        clear D d
        go_wp2_with fail
        go_region
        all_goals
         go_wp2_with fail
         go_roundw
         case rel=>exact ⟨m+1,CG,by go_num,z,t,A.out.kept rfl,am.out.drew⟩
         case measure=>first | (simp [intOf];done) | (simp [intOf];omega)
      ·have aP:Hid (bQ wr w.heap.size cells (dM cs.length (eW (exM cs) (i+1) 0))):=by
        have h:=hR.out;have e:m=i+1:=CG
        rw [e,kO (M':=eW (exM cs) (i+1) 0) (fun p q _ _=>xL (exM cs) i p q)] at h
        exact h
       clear hR c
       go_wp2_with fail
       go_roundw
       case rel=>exact ⟨i+1,CG,by go_num,ho,aP,hb⟩
       case measure=>simp [intOf];omega
    ·have HT:Hid (bQ wr w.heap.size cells (dM cs.length (exM cs))):=by
      have h:=hR.out;have e:i=cs.length:=CG
      rw [e,kO (fun p q hp hq=>yi (exM cs) cs.length p q hp hq)] at h
      exact h
     clear hR
     go_wp2_with fail
     go_ret
     exact ⟨x,y,cells,rfl,ho,HT,E,hb⟩
theorem Tryz.infoClaim:(prog.info? 234).map (fun i=>(i.zero,i.size,i.bytes))=some (some (.agg #[.slice none 0 0,.int .u64 0,.int .u64 0,.slice none 0 0,.int .u64 0,.int .u64 0,.slice none 0 0,.int .u64 0,.int .u64 0,.slice none 0 0,.int .u64 0,.int .u64 0]),12,160):=CH
def pm (p:ef × bY):List Value:=
 [.slice p.1.pa p.2.CF.length p.1.pc,.int .u64 p.1.ps.a,.int .u64 p.1.ps.b,.slice p.1.oa p.2.over.length p.1.oc,.int .u64 p.1.os.a,.int .u64 p.1.os.b,
  .slice p.1.xa p.2.Cy.length p.1.xc,.int .u64 p.1.xs.a,.int .u64 p.1.xs.b,.slice p.1.na p.2.needs.length p.1.nc,.int .u64 p.1.ns.a,.int .u64 p.1.ns.b]
def kK (ps:List (ef × bY)):List Value:=ps.flatMap pm
theorem xi (ps:List (ef × bY))(p:ef × bY):kK (ps++[p])=kK ps++pm p:=by simp [kK]
theorem uQ {x:Option Addr}{y:Nat}{ps:List (ef × bY)}{cs:List bY}(ho:w.ownsRow B 234 12 (.slice x n y) n (kK ps))(hn:ps.length=n)(hc:ps.map (·.2)=cs)(hm:n<=maxLen)(hp:∀ p ∈ ps,iB w p.1 p.2):ub w x cs/\n<=y:=by
 have hl:cs.length=n:=by rw [<-hc,List.length_map,hn]
 rcases ho.2 with ⟨h1,h2⟩ | ⟨g,d,f,h1,_,_,h4,_⟩
 ·refine ⟨⟨by rw [hl];exact hm,Or.inl (List.eq_nil_of_length_eq_zero CG)⟩,CG⟩
 ·cases h1;refine ⟨⟨by rw [hl];exact hm,Or.inr ⟨g,0,rfl,fun i hi=>?_⟩⟩,h4⟩
  have b:i<ps.length:=CG
  have c:cs[i]=ps[i].2:=by simp [<-hc]
  refine ⟨ps[i].1,?_,by rw [c];exact hp _ (List.getElem_mem b)⟩
  rw [c];have a:∀ j,j<12->w.cell? ⟨g,i*12+j,none⟩=(pm ps[i])[j]? := by
   intro j hj;rw [ho.cellAt (i*12+j) CG]
   exact aZ pm 12 (fun _=>rfl) ps i j b hj
  simp only [Nat.zero_add];exact ⟨a 0 CG,a 1 CG,a 2 CG,a 3 CG,a 4 CG,a 5 CG,a 6 CG,a 7 CG,a 8 CG,a 9 CG,a 10 CG,a 11 CG⟩
theorem bQ.base {B':Nat}{tt:List (List Int)}(h:bQ w B cells tt)(hB:B'<=B):bQ w B' cells tt:=by
 refine ⟨h.1,fun i hi=>?_⟩
 obtain ⟨v,h1,h2⟩:=h.2 i hi;exact ⟨v,h1,aW h2 hB⟩
theorem rZ (a:Option Addr)(cap:Nat)(rs:List al)(w:World)(hr:Hid (dG w a rs))(hs:Hid (od rs))(hwf:Hid (Ch rs)):
  Calls prog 88 #[.slice a rs.length cap] w fun e w' => ∃ x y cells,e = .returned (.slice x (bD rs).length y)/\w'.ownsRow w.heap.size 40 1 (.slice x (bD rs).length y) (bD rs).length cells/\bQ w' w.heap.size cells (bD rs)/\ek cells/\Cx w w':=by
 have hl:=hr.out.1;unfold maxLen at hl
 by_cases h3:300<rs.length
 ·have HE:Hid (bD rs=[]):=by unfold Hid bD;rw [if_pos h3]
  rw [HE.out]
  go_enter func88,ntmps88
  go_wp2_with fail
  go_ret
  exact ⟨none,0,[],rfl,World.ownsRow_nil _ _ _ _,⟨rfl,fun i h=>absurd h CI⟩,ip,Below.refl _ _⟩
 have HE:Hid (bD rs=dM rs.length (exM (rs.map d5))):=by unfold Hid bD;rw [if_neg h3,vc]
 rw [HE.out];have r:rs.length<=300:=CG
 have n:Hid ((dM rs.length (exM (rs.map d5))).length=rs.length):=fW _ _;rw [n.out];clear h3 HE n
 go_enter func88,ntmps88
 go_wp2_with fail
 go_loopw [3,11] (fun v i wr => ∃ (k:Nat) (x:Option Addr) (y:Nat) (ps:List (ef × bY)),k<=rs.length/\i = .int .i64 k/\v = .slice x k y/\Hid (wr.ownsRow w.heap.size 234 12 (.slice x k y) k (kK ps))/\Hid (ps.length=k/\ps.map (·.2)=(rs.take k).map d5/\∀ p ∈ ps,dH w wr p.1 p.2)/\Cx w wr) (fun _ i _=>rs.length-(intOf i).toNat)
 case atStart=>exact ⟨0,none,0,[],Nat.zero_le _,rfl,rfl,World.ownsRow_nil _ _ _ _,⟨rfl,rfl,fun p h=>absurd h CI⟩,Below.refl _ _⟩
 case round =>
  obtain ⟨k,x,y,ps,hk,rfl,rfl,ho,hP,hb⟩:=hrel;have d:=hb.size
  by_cases b:k<rs.length
  ·obtain ⟨b1,s,rfl,o⟩:=hr.out.2.resolve_left (nz b);obtain ⟨d1,q1,l1⟩:=o k b;obtain ⟨c0,c1,c2,c3,c4,c5,c6,c7⟩:=q1.below hb;have L1:=aa l1;clear o l1 q1;have t:=aa (hs.out _ (List.getElem_mem b));have u:=aa (hwf.out k b)
   go_wp2_with fail
   generalize hW:wr.alloc _=W;have f:Cx wr W:=by rw [<-hW];exact blo
   clear hW c0 c1 c2 c3 c4 c5 c6 c7;refine (vb d1 rs[k] W (L1.out.below (hb.trans (f.mono hb.size))) t u).mono ?_;rintro e w2 ⟨dc,rfl,z,A,c⟩;have g:=f.trans (c.mono f.size);have j:=aa (aq ho.out g);have q:=hb.trans (g.mono hb.size);have B:=q.size;have C:Hid (∀ p ∈ ps++[(dc,d5 rs[k])],dH w w2 p.1 p.2):=fun p hp=>by
    rcases List.mem_append.1 hp with h | h
    ·exact (hP.out.2.2 p h).below g
    ·rw [List.mem_singleton.1 h];obtain ⟨e1,e2,e3⟩:=A.out;exact z.out.base (by show bw w dc.pa _;rw [e1];exact L1.out.CF) (by show bw w dc.oa _;rw [e2];exact L1.out.over) (by show bV w dc.xa _;rw [e3];exact L1.out.Cy)
   have D:=aa hP.out.1;have E:=aa hP.out.2.1;have F:Hid (kK ps++pm (dc,d5 rs[k])=kK (ps++[(dc,d5 rs[k])])):=(xi _ _).symm;clear ho hP hb d g c f;unfold jY
   go_wp2_with (at_builtin;refine aU rfl (.tmp 15) (.tmp 18) 224 rfl w.heap.size 234 _ 12 160 underlying224 Tryz.infoClaim rfl CJ (.slice x k y) k (kK ps) rfl j.out w2.heap.size rfl (pm (dc,d5 rs[k])) rfl rfl (by simp [pm,Value.oneCell']) CK CG CG ?_;intro x' y' w4 l m;have G:=dw q j.out m CG;have H:Hid (∀ p ∈ ps++[(dc,d5 rs[k])],dH w w4 p.1 p.2):=(fun p hp=>(C.out p hp).grown j.out CJ m);rw [F.out] at l;have I:=aa l;clear l m)
   go_roundw
   case rel=>exact ⟨k+1,x',y',ps++[(dc,d5 rs[k])],CG,by go_num,rfl,I,⟨by rw [List.length_append,D.out];rfl,by rw [List.map_append,E.out,List.take_succ_eq_append_getElem b,List.map_append];rfl,H.out⟩,G⟩
   case measure=>simp [intOf];omega
  ·have J:k=rs.length:=CG
   have HT:Hid (rs.take k=rs):=List.take_of_length_le CG
   obtain ⟨hC,hy⟩:=uQ ho.out hP.out.1 (hP.out.2.1.trans (by rw [HT.out])) CK (fun p hp=>(hP.out.2.2 p hp).at hb)
   have HC:=aa hC;clear ho hP hC HT;subst J
   go_wp2_with fail
   have T:=vr x y (rs.map d5) wr HC (by rw [List.length_map];exact hy) (by rw [List.length_map];exact r)
   simp only [List.length_map] at T;refine T.mono ?_;rintro e w5 ⟨x5,y5,cells,rfl,L,M,N,O⟩;clear T
   go_wp2_with fail
   go_ret
   exact ⟨x5,y5,cells,rfl,aW L.out d,M.out.base d,N.out,hb.trans (O.mono d)⟩
theorem qk (rs:List al):(bD rs).length<=300/\∀ i (h:i<(bD rs).length),(bD rs)[i].length<=300:=by
 by_cases h:300<rs.length
 ·have e:bD rs=[]:=by unfold bD;rw [if_pos h]
  rw [e];exact ⟨CI,fun i h=>absurd h CI⟩
 ·have e:bD rs=rs.map fun a=>rs.map (b9 a):=by unfold bD;rw [if_neg h]
  rw [e];exact ⟨by rw [List.length_map];omega,fun i hi=>by rw [List.getElem_map,List.length_map];omega⟩
end Go.Proofs.YtmkdgnmmebldgaaGreatDoor
