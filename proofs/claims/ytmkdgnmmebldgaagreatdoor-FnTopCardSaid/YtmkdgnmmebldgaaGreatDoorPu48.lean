import Derived.Test.YtmkdgnmmebldgaaGreatDoorPu45
import Derived.Test.YtmkdgnmmebldgaaGreatDoorPu47
import Derived.Laws.OwnMore
import Derived.OneCell
set_option maxRecDepth 100000
set_option maxHeartbeats 8000000
namespace Go.Proofs.YtmkdgnmmebldgaaGreatDoor
open Go.RowKit Go.Deep
def rowsM (n:Nat)(M:Nat→Nat→Int):List (List Int):=(List.range n).map fun p=>(List.range n).map (M p)
def updM (M:Nat→Nat→Int)(i k:Nat)(v:Int)(p q:Nat):Int:=if p=i∧q=k then v else M p q
def cellM (f:Nat→Nat→Int)(i m p q:Nat):Int:=if (p<i∧q<i)∨(p=i∧q<m)∨(q=i∧p<m) then f p q else 0
theorem rowsM_len (n:Nat)(M:Nat→Nat→Int):(rowsM n M).length=n:=by simp [rowsM]
theorem rowsM_row (n:Nat)(M:Nat→Nat→Int)(p:Nat)(h:p<(rowsM n M).length):(rowsM n M)[p]=(List.range n).map (M p):=by simp [rowsM]
theorem rowsM_congr {n:Nat}{M M':Nat→Nat→Int}(h:∀ p q,p<n→q<n→M p q=M' p q):rowsM n M=rowsM n M':=by
 unfold rowsM
 apply List.map_congr_left
 intro p hp
 apply List.map_congr_left
 intro q hq
 exact h p q (List.mem_range.1 hp) (List.mem_range.1 hq)
theorem cellM_step {f:Nat→Nat→Int}(hf:∀ p q,f p q=f q p)(i m:Nat)(p q:Nat):updM (updM (cellM f i m) i m (f i m)) m i (f i m) p q=cellM f i (m+1) p q:=by
 unfold updM cellM
 by_cases h1:p=m∧q=i
 ·obtain ⟨rfl,rfl⟩:=h1
  rw [if_pos ⟨rfl,rfl⟩,if_pos (by omega),hf]
 ·rw [if_neg h1]
  by_cases h2:p=i∧q=m
  ·obtain ⟨rfl,rfl⟩:=h2
   rw [if_pos ⟨rfl,rfl⟩,if_pos (by omega)]
  ·rw [if_neg h2]
   by_cases h3:(p<i∧q<i)∨(p=i∧q<m)∨(q=i∧p<m)
   ·rw [if_pos h3,if_pos (by omega)]
   ·rw [if_neg h3,if_neg (by omega)]
theorem cellM_next (f:Nat→Nat→Int)(i:Nat)(p q:Nat):cellM f i (i+1) p q=cellM f (i+1) 0 p q:=by
 unfold cellM
 by_cases h3:(p<i∧q<i)∨(p=i∧q<i+1)∨(q=i∧p<i+1)
 ·rw [if_pos h3,if_pos (by omega)]
 ·rw [if_neg h3,if_neg (by omega)]
theorem cellM_zero (f:Nat→Nat→Int)(p q:Nat):cellM f 0 0 p q=0:=by
 unfold cellM
 rw [if_neg (by omega)]
theorem cellM_all (f:Nat→Nat→Int)(n p q:Nat)(hp:p<n)(hq:q<n):cellM f n 0 p q=f p q:=by
 unfold cellM
 rw [if_pos (by omega)]
theorem flatN_set (l:List Int)(k:Nat)(v:Int):(flatN l).set k (.int .i64 v)=flatN (l.set k v):=by
 have h:∀ l:List Int,flatN l=l.map (Value.int .i64):=by
  intro l
  induction l with
  | nil=>rfl
  | cons x r ih=>show encN x++flatN r=_;rw [ih];rfl
 rw [h,h,List.map_set]
theorem range_set (n i k:Nat)(M:Nat→Nat→Int)(v:Int):((List.range n).map (M i)).set k v=(List.range n).map (updM M i k v i):=by
 apply List.ext_getElem
 ·simp
 ·intro q h1 h2
  simp only [List.length_set,List.length_map,List.length_range] at h1
  rw [List.getElem_set]
  unfold updM
  by_cases e:k=q
  ·subst e;simp
  ·have e':¬ q=k:=fun h=>e h.symm
   simp [e,e']
theorem RowsOwn.row {w:World}{B n:Nat}{cells:List Value}{M:Nat→Nat→Int}(h:RowsOwn w B cells (rowsM n M))(hn:0<n)(i:Nat)(hi:i<n):
  ∃ g cap,cells[i]? = some (.slice (some ⟨g,0,none⟩) n cap)∧w.ownsRow B 3 1 (.slice (some ⟨g,0,none⟩) n cap) n (flatN ((List.range n).map (M i))):=by
 obtain ⟨v,h1,h2⟩:=h.2 i (by rw [rowsM_len];exact hi)
 rw [rowsM_row] at h2
 have hl:((List.range n).map (M i)).length=n:=by simp
 rw [hl] at h2
 rcases h2.2 with ⟨_,h0⟩ | ⟨g,cap,cur,hv,_⟩
 ·omega
 ·subst hv
  exact ⟨g,cap,h1,h2⟩
theorem RowsOwn.set {w:World}{B n:Nat}{cells:List Value}{M:Nat→Nat→Int}(h:RowsOwn w B cells (rowsM n M))(hA:RowsApart cells){i k g cap:Nat}(hi:i<n)(hc:cells[i]? = some (.slice (some ⟨g,0,none⟩) n cap))(v:Int):
  RowsOwn (w.setCell ⟨g,k,none⟩ (.int .i64 v)) B cells (rowsM n (updM M i k v)):=by
 refine ⟨by rw [h.1,rowsM_len,rowsM_len],fun p hp=>?_⟩
 rw [rowsM_len] at hp
 obtain ⟨u,h1,h2⟩:=h.2 p (by rw [rowsM_len];exact hp)
 refine ⟨u,h1,?_⟩
 rw [rowsM_row] at h2 ⊢
 by_cases e:p=i
 ·subst e
  rw [hc] at h1
  cases h1
  have hl:((List.range n).map (M p)).length=n:=by simp
  have hl2:((List.range n).map (updM M p k v p)).length=n:=by simp
  rw [hl] at h2
  rw [hl2]
  have h3:=(h2.stored k (.int .i64 v)).1
  rw [flatN_set,range_set] at h3
  exact h3
 ·have hM:(List.range n).map (updM M i k v p)=(List.range n).map (M p):=by
   apply List.map_congr_left
   intro q _
   unfold updM
   rw [if_neg (fun h=>e h.1)]
  rw [hM]
  exact ownsRow_setCell_other h2 (fun hb=>e (hA p i u _ g h1 hc hb rfl)) _
theorem flatN_zeros:∀ n:Nat,flatN (List.replicate n 0)=List.replicate n (Value.int .i64 0)
 | 0=>rfl
 | n+1=>by
  rw [List.replicate_succ,List.replicate_succ]
  show encN 0++flatN _=_
  rw [flatN_zeros n]
  rfl
theorem make_zero (w:World)(n:Nat)(hn:n≤1048576):
  ∃ w',(Instr.makeSlice 40 (.int .i64 (n:Int)) (.int .i64 (n:Int))).run Tryz.prog w = .ok (.slice (some ⟨w.heap.size,0,none⟩) n n) w' ∧
   w'.ownsRow w.heap.size 3 1 (.slice (some ⟨w.heap.size,0,none⟩) n n) n (flatN (List.replicate n 0))∧Below w.heap.size w w':=by
 obtain ⟨i,hi1,hi2,hi3,hi4⟩:=info_parts Tryz.infoInt
 have hr:=run_make (P:=Tryz.prog) w 40 3 i _ Tryz.underlying40 hi1 hi2 .i64 .i64 n n (by omega) (by omega) (by rw [hi4];omega) (by omega)
 simp only [Int.toNat_natCast] at hr
 rw [hi3,Nat.mul_one] at hr
 refine ⟨_,hr,?_,blo⟩
 have h:=World.ownsRow_lit w (base:=w.heap.size) (e:=3) (size:=1) (n:=n) (cs:=madeCells (Value.int .i64 0).cells n) (Nat.le_refl _) (by unfold maxLen;omega) (by rw [size_madeCells];omega)
 rw [show (madeCells (Value.int IntKind.i64 0).cells n).toList=List.replicate n (Value.int .i64 0) from toList_madeCells_one _ _] at h
 rw [flatN_zeros]
 exact h
theorem rows_zero (n:Nat)(f:Nat→Nat→Int):List.replicate n (List.replicate n 0)=rowsM n (cellM f 0 0):=by
 apply List.ext_getElem
 ·simp [rowsM]
 ·intro p h1 h2
  rw [rowsM_row,List.getElem_replicate]
  apply List.ext_getElem
  ·simp
  ·intro q h3 h4
   simp [cellM_zero]
def ClaimsAt (w:World)(a:Option Addr)(cs:List MClaim):Prop:=cs.length≤maxLen∧(cs=[]∨∃ b off,a=some ⟨b,off,none⟩∧∀ i (h:i<cs.length),∃ d,ClaimCell w b (off+i*12) d cs[i]∧ClaimAt w d cs[i])
theorem exclC_symm (a b:MClaim):exclC a b=exclC b a:=by
 unfold exclC
 rw [touchL_symm a.parts,crossL_symm a.crosses,wantL_symm a.needs]
 simp only [Or.comm]
def exM (cs:List MClaim)(p q:Nat):Int:=match cs[p]?,cs[q]? with
 | some a,some b=>exclC a b
 | _,_=>0
theorem exM_at {cs:List MClaim}{p q:Nat}(hp:p<cs.length)(hq:q<cs.length):exM cs p q=exclC cs[p] cs[q]:=by
 unfold exM
 rw [List.getElem?_eq_getElem hp,List.getElem?_eq_getElem hq]
theorem exM_symm (cs:List MClaim)(p q:Nat):exM cs p q=exM cs q p:=by
 unfold exM
 cases cs[p]? <;> cases cs[q]? <;> simp [exclC_symm]
theorem table_rowsM (rs:List MRoute):rowsM rs.length (exM (rs.map claimF))=rs.map fun a=>rs.map (exclF a):=by
 apply List.ext_getElem
 ·simp [rowsM]
 ·intro p h1 h2
  rw [rowsM_row]
  apply List.ext_getElem
  ·simp
  ·intro q h3 h4
   have hp:p<rs.length:=by simpa using h2
   have hq:q<rs.length:=by simpa using h3
   simp only [List.getElem_map,List.getElem_range]
   rw [exM_at (by simpa using hp) (by simpa using hq)]
   simp only [List.getElem_map]
   exact exclC_eq _ _
theorem tableOf_any (a:Option Addr)(cap:Nat)(cs:List MClaim)(w:World)(ha:Hid (ClaimsAt w a cs))(hcap:cs.length≤cap)(hn3:cs.length≤300):
  Calls Tryz.prog 122 #[.slice a cs.length cap,fnV 123] w fun e w' => ∃ x y cells,e = .returned (.slice x cs.length y)∧Hid (w'.ownsRow w.heap.size 40 1 (.slice x cs.length y) cs.length cells)∧Hid (RowsOwn w' w.heap.size cells (rowsM cs.length (exM cs)))∧Hid (RowsApart cells)∧Below w.heap.size w w':=by
 unfold fnV
 go_enter Tryz.func122,Tryz.ntmps122
 go_wp2_with fail
 go_loopw [5,13] (fun v i wr => ∃ (k:Nat) (x:Option Addr) (y:Nat) (cells:List Value),k≤cs.length∧i = .int .i64 k∧v = .slice x k y∧Hid (wr.ownsRow w.heap.size 40 1 (.slice x k y) k cells)∧Hid (RowsOwn wr w.heap.size cells (List.replicate k (List.replicate cs.length 0)))∧Hid (RowsApart cells)∧Below w.heap.size w wr) (fun _ i _=>cs.length-(intOf i).toNat)
 case atStart=>exact ⟨0,none,0,[],Nat.zero_le _,rfl,rfl,World.ownsRow_nil _ _ _ _,⟨rfl,fun i h=>absurd h (by simp)⟩,rowsApart_nil,Below.refl _ _⟩
 case round =>
  obtain ⟨k,x,y,cells,hk,rfl,rfl,ho,hR,hAp,hb⟩:=hrel
  have hbs:=hb.size
  by_cases hk':k<cs.length
  ·obtain ⟨w1,hm,hrow,hb1⟩:=make_zero wr cs.length (by omega)
   have hz1:wr.heap.size<w1.heap.size:=(hrow.lt wr.heap.size rfl).2
   have hb2:=hb.trans (hb1.mono hb.size)
   have HO1:=hidP (owns_below ho.out hb1)
   have HR1:=hidP (hR.out.below hb1)
   have HNew:Hid (w1.ownsRow w.heap.size 3 1 (.slice (some ⟨wr.heap.size,0,none⟩) cs.length cs.length) (List.replicate cs.length (0:Int)).length (flatN (List.replicate cs.length 0))):=by rw [List.length_replicate];exact owns_base hrow hbs
   have HAp:=hidP (hAp.out.push hR.out (Nat.le_refl _) (r:=.slice (some ⟨wr.heap.size,0,none⟩) cs.length cs.length) (fun b hb=>by cases hb;exact Nat.le_refl _))
   have HRS:Hid (List.replicate k (List.replicate cs.length (0:Int))++[List.replicate cs.length 0]=List.replicate (k+1) (List.replicate cs.length 0)):=List.replicate_succ'.symm
   have hbs2:=hb2.size
   clear ho hR hAp hrow hb1 hb hbs
   go_wp2_with (at_builtin;refine wpList_push rfl (.tmp 15) (.tmp 19) 36 rfl w.heap.size 40 _ 1 24 Tryz.underlying36 Tryz.infoInts rfl (by decide) (.slice x k y) k cells rfl HO1.out w1.heap.size rfl [.slice (some ⟨wr.heap.size,0,none⟩) cs.length cs.length] rfl rfl (by simp [Value.oneCell']) (by unfold maxLen;omega) (by omega) (by omega) ?_;intro x' y' w4 ho4 hg4;have hb6:=push_below hb2 HO1.out hg4 (by omega);have HO4:=hidP ho4;have HR4:=hidP (HR1.out.push HO1.out HNew.out hg4);clear ho4 hg4)
   go_roundw
   case rel=>exact ⟨k+1,x',y',_,by omega,by go_num,rfl,HO4,by rw [← HRS.out];exact HR4,HAp,hb6⟩
   case measure=>simp [intOf];omega
  ·have hkk:k=cs.length:=by omega
   have HR2:Hid (RowsOwn wr w.heap.size cells (rowsM cs.length (cellM (exM cs) 0 0))):=by have h:=hR.out;rw [hkk,rows_zero cs.length (exM cs)] at h;exact h
   have HO2:Hid (wr.ownsRow w.heap.size 40 1 (.slice x cs.length y) cs.length cells):=by have h:=ho.out;rw [hkk] at h;exact h
   have HB:=hidP hb
   rw [hkk]
   clear hR ho hk hk' hkk
   go_wp2_with fail
   clear hb hbs
   go_loopw [24] (fun i wr => ∃ (i':Nat),i'≤cs.length∧i = .int .i64 i'∧Hid (wr.ownsRow w.heap.size 40 1 (.slice x cs.length y) cs.length cells)∧Hid (RowsOwn wr w.heap.size cells (rowsM cs.length (cellM (exM cs) i' 0)))∧Below w.heap.size w wr) (fun i _=>cs.length-(intOf i).toNat)
   case atStart=>exact ⟨0,Nat.zero_le _,rfl,HO2,HR2,HB.out⟩
   case round =>
    clear HO2 HR2 HB
    obtain ⟨i,hi,rfl,ho,hR,hb⟩:=hrel
    have hbs:=hb.size
    by_cases hi':i<cs.length
    ·obtain ⟨b1,off1,hba,hpc⟩:=ha.out.2.resolve_left (nz hi')
     subst hba
     have HPC:=hidP hpc
     clear hpc
     obtain ⟨d1,q1,l1⟩:=HPC.out i hi'
     have Q1:=q1.below hb
     obtain ⟨c0,c1,c2,c3,c4,c5,c6,c7,c8,c9,c10,c11⟩:=Q1
     have HL1:=hidP l1
     clear q1 l1
     go_wp2_with fail
     generalize hW2:wr.alloc _=W2
     have HBox:Hid (ClaimCell W2 wr.heap.size 0 d1 cs[i]):=by rw [← hW2];exact claimCell_box wr d1 cs[i] _
     have hbw2:Below wr.heap.size wr W2:=by rw [← hW2];exact blo
     have HO2:=hidP (owns_below ho.out hbw2)
     have HR2:=hidP (hR.out.below hbw2)
     have hb2:=hb.trans (hbw2.mono hb.size)
     have HB2:=hidP hb2
     have HLt:Hid (∀ (p:Nat) (v:Value) (b:Nat),cells[p]? = some v→v.ownBlock=some b→b<wr.heap.size):=by
      intro p v b hv hvb
      have hp:p<cs.length:=by
       have h1:=(List.getElem?_eq_some_iff.1 hv).1
       have h2:=hR.out.1
       rw [rowsM_len] at h2
       omega
      obtain ⟨u,h1,h2⟩:=hR.out.2 p (by rw [rowsM_len];exact hp)
      rw [hv] at h1
      cases h1
      exact (h2.lt b hvb).2
     clear hW2 ho hR hb hbs hbw2 c0 c1 c2 c3 c4 c5 c6 c7 c8 c9 c10 c11 hb2
     generalize wr.heap.size=Bi at HBox HLt ⊢
     go_loopw [34] (fun j wr => ∃ (m:Nat),m≤i+1∧j = .int .i64 m∧Hid (wr.ownsRow w.heap.size 40 1 (.slice x cs.length y) cs.length cells)∧Hid (RowsOwn wr w.heap.size cells (rowsM cs.length (cellM (exM cs) i m)))∧Hid (ClaimCell wr Bi 0 d1 cs[i])∧Below w.heap.size w wr) (fun j _=>i+1-(intOf j).toNat)
     case atStart=>exact ⟨0,Nat.zero_le _,rfl,HO2,HR2,HBox,HB2.out⟩
     case round =>
      clear HO2 HR2 HBox HB2
      obtain ⟨m,hm,rfl,ho,hR,HBox,hb⟩:=hrel
      have hbs:=hb.size
      by_cases hm':m<i+1
      ·have hmc:m<cs.length:=by omega
       obtain ⟨d2,q2,l2⟩:=HPC.out m hmc
       have Q2:=q2.below hb
       obtain ⟨c0,c1,c2,c3,c4,c5,c6,c7,c8,c9,c10,c11⟩:=Q2
       have HL2:=hidP l2
       have e0:wr.cell? ⟨Bi,0,none⟩=some (.slice d1.pa cs[i].parts.length d1.pc):=HBox.out.k0
       have e1:wr.cell? ⟨Bi,1,none⟩=some (.int .u64 d1.ps.a):=HBox.out.k1
       have e2:wr.cell? ⟨Bi,2,none⟩=some (.int .u64 d1.ps.b):=HBox.out.k2
       have e3:wr.cell? ⟨Bi,3,none⟩=some (.slice d1.oa cs[i].over.length d1.oc):=HBox.out.k3
       have e4:wr.cell? ⟨Bi,4,none⟩=some (.int .u64 d1.os.a):=HBox.out.k4
       have e5:wr.cell? ⟨Bi,5,none⟩=some (.int .u64 d1.os.b):=HBox.out.k5
       have e6:wr.cell? ⟨Bi,6,none⟩=some (.slice d1.xa cs[i].crosses.length d1.xc):=HBox.out.k6
       have e7:wr.cell? ⟨Bi,7,none⟩=some (.int .u64 d1.xs.a):=HBox.out.k7
       have e8:wr.cell? ⟨Bi,8,none⟩=some (.int .u64 d1.xs.b):=HBox.out.k8
       have e9:wr.cell? ⟨Bi,9,none⟩=some (.slice d1.na cs[i].needs.length d1.nc):=HBox.out.k9
       have e10:wr.cell? ⟨Bi,10,none⟩=some (.int .u64 d1.ns.a):=HBox.out.k10
       have e11:wr.cell? ⟨Bi,11,none⟩=some (.int .u64 d1.ns.b):=HBox.out.k11
       have hzB:=HBox.out.lt
       clear q2 l2
       go_wp2_with fail
       generalize hW3:wr.alloc _=W3
       have hbw3:Below wr.heap.size wr W3:=by rw [← hW3];exact blo
       clear hW3 c0 c1 c2 c3 c4 c5 c6 c7 c8 c9 c10 c11 e0 e1 e2 e3 e4 e5 e6 e7 e8 e9 e10 e11
       have hb3:=hb.trans (hbw3.mono hb.size)
       refine (against_any d1 d2 cs[i] cs[m] _ (HL1.out.below hb3) (HL2.out.below hb3)).mono ?_
       rintro e w4 ⟨rfl,hb4'⟩
       have hb34:=hbw3.trans (hb4'.mono hbw3.size)
       have HO4:=hidP (owns_below ho.out hb34)
       have HR4:=hidP (hR.out.below hb34)
       have HBox4:=hidP (HBox.out.below hb34)
       have hb4:=hb.trans (hb34.mono hb.size)
       have HV:Hid (exM cs i m=exclC cs[i] cs[m]):=exM_at hi' hmc
       generalize exclC cs[i] cs[m]=v at HV ⊢
       clear ho hR HBox hb hbs hbw3 hb4' hb34 hb3 hzB
       obtain ⟨gi,ci,hci,ri⟩:=HR4.out.row (by omega) i hi'
       obtain ⟨gm,cm,hcmm,rm⟩:=HR4.out.row (by omega) m hmc
       obtain ⟨gT,hxT⟩:∃ gT,x=some (⟨gT,0,none⟩:Addr):=by
        rcases HO4.out.2 with ⟨_,h0⟩ | ⟨g,cap',cur,h1,_⟩
        ·omega
        ·cases h1;exact ⟨g,rfl⟩
       subst hxT
       have tI:w4.cell? ⟨gT,i,none⟩=some (.slice (some ⟨gi,0,none⟩) cs.length ci):=(HO4.out.cellAt i (by omega)).trans hci
       have tM:w4.cell? ⟨gT,m,none⟩=some (.slice (some ⟨gm,0,none⟩) cs.length cm):=(HO4.out.cellAt m (by omega)).trans hcmm
       have uI:∃ u,w4.cell? ⟨gi,m,none⟩=some u:=by
        rw [ri.cellAt m (by omega)]
        exact ⟨_,List.getElem?_eq_getElem (by rw [flatN_len];simp;omega)⟩
       have uM:∃ u,w4.cell? ⟨gm,i,none⟩=some u:=by
        rw [rm.cellAt i (by omega)]
        exact ⟨_,List.getElem?_eq_getElem (by rw [flatN_len];simp;omega)⟩
       obtain ⟨uI,huI⟩:=uI
       obtain ⟨uM,huM⟩:=uM
       have fI:=ri.frozenAt m
       have fM:=rm.frozenAt i
       have hzT:=cellLt tI
       have hzI:=cellLt huI
       have hzM:=cellLt huM
       dsimp only at hzT hzI hzM
       have HStep:Hid (RowsOwn ((w4.setCell ⟨gi,m,none⟩ (.int .i64 v)).setCell ⟨gm,i,none⟩ (.int .i64 v)) w.heap.size cells (rowsM cs.length (cellM (exM cs) i (m+1)))):=by
        have h:=(HR4.out.set hAp.out hi' hci v (k:=m)).set hAp.out hmc hcmm v (k:=i)
        rw [rowsM_congr (M':=cellM (exM cs) i (m+1)) (fun p q _ _=>by rw [← HV.out];exact cellM_step (exM_symm cs) i m p q)] at h
        exact h
       have hgI:gi≠gT:=by
        have h:=owns_ne (by decide) ri HO4.out
        simp only [Value.ownBlock] at h
        rcases h with h | h
        ·cases h
        ·exact fun e=>h (by rw [e])
       have hgM:gm≠gT:=by
        have h:=owns_ne (by decide) rm HO4.out
        simp only [Value.ownBlock] at h
        rcases h with h | h
        ·cases h
        ·exact fun e=>h (by rw [e])
       have hgI1:gi<Bi:=HLt.out i _ gi hci rfl
       have hgM1:gm<Bi:=HLt.out m _ gm hcmm rfl
       have hgI0:w.heap.size≤gi:=(ri.lt gi rfl).1
       have hgM0:w.heap.size≤gm:=(rm.lt gm rfl).1
       have HNext:Hid (((w4.setCell ⟨gi,m,none⟩ (.int .i64 v)).setCell ⟨gm,i,none⟩ (.int .i64 v)).ownsRow w.heap.size 40 1 (.slice (some ⟨gT,0,none⟩) cs.length y) cs.length cells):=ownsRow_setCell_other (ownsRow_setCell_other HO4.out (a:=⟨gi,m,none⟩) (by simp only [Value.ownBlock];intro e;cases e;exact hgI rfl) _) (a:=⟨gm,i,none⟩) (by simp only [Value.ownBlock];intro e;cases e;exact hgM rfl) _
       have HBoxN:Hid (ClaimCell ((w4.setCell ⟨gi,m,none⟩ (.int .i64 v)).setCell ⟨gm,i,none⟩ (.int .i64 v)) Bi 0 d1 cs[i]):=HBox4.out.kept (by rw [Below.heap_setCell _ _ _ _ (by simp only [ne_eq];omega),Below.heap_setCell _ _ _ _ (by simp only [ne_eq];omega)])
       have hbN:Below w.heap.size w ((w4.setCell ⟨gi,m,none⟩ (.int .i64 v)).setCell ⟨gm,i,none⟩ (.int .i64 v)):=(hb4.setCell (p:=⟨gi,m,none⟩) hgI0 _).setCell (p:=⟨gm,i,none⟩) hgM0 _
       have HBN:=hidP hbN
       clear HO4 HR4 HBox4 ri rm hgI1 hgM1 hbN
       by_cases him:m=i
       ·subst him
        rw [hci] at hcmm
        cases hcmm
        clear hci
        go_wp2_with fail
        go_region
        all_goals
         go_wp2_with fail
         go_roundw
         case rel=>exact ⟨m+1,by omega,by go_num,HNext,HStep,HBoxN.out.kept rfl,HBN.out.drew⟩
         case measure=>first | (simp [intOf];done) | (simp [intOf];omega)
       ·have hgg:gi≠gm:=fun e=>him (hAp.out m i _ _ gm hcmm hci rfl (congrArg some e))
        clear hci hcmm
        go_wp2_with fail
        go_region
        all_goals
         go_wp2_with fail
         go_roundw
         case rel=>exact ⟨m+1,by omega,by go_num,HNext,HStep,HBoxN.out.kept rfl,HBN.out.drew⟩
         case measure=>first | (simp [intOf];done) | (simp [intOf];omega)
      ·have HR5:Hid (RowsOwn wr w.heap.size cells (rowsM cs.length (cellM (exM cs) (i+1) 0))):=by
        have h:=hR.out
        have e:m=i+1:=by omega
        rw [e,rowsM_congr (M':=cellM (exM cs) (i+1) 0) (fun p q _ _=>cellM_next (exM cs) i p q)] at h
        exact h
       clear hR HBox
       go_wp2_with fail
       go_roundw
       case rel=>exact ⟨i+1,by omega,by go_num,ho,HR5,hb⟩
       case measure=>simp [intOf];omega
    ·have HT:Hid (RowsOwn wr w.heap.size cells (rowsM cs.length (exM cs))):=by
      have h:=hR.out
      have e:i=cs.length:=by omega
      rw [e,rowsM_congr (fun p q hp hq=>cellM_all (exM cs) cs.length p q hp hq)] at h
      exact h
     clear hR
     go_wp2_with fail
     go_ret
     exact ⟨x,y,cells,rfl,ho,HT,hAp,hb⟩
theorem Tryz.infoClaim:(Tryz.prog.info? 234).map (fun i=>(i.zero,i.size,i.bytes))=some (some (.agg #[.slice none 0 0,.int .u64 0,.int .u64 0,.slice none 0 0,.int .u64 0,.int .u64 0,.slice none 0 0,.int .u64 0,.int .u64 0,.slice none 0 0,.int .u64 0,.int .u64 0]),12,160):=by kernel_rfl
def encC (p:CAddr × MClaim):List Value:=
 [.slice p.1.pa p.2.parts.length p.1.pc,.int .u64 p.1.ps.a,.int .u64 p.1.ps.b,.slice p.1.oa p.2.over.length p.1.oc,.int .u64 p.1.os.a,.int .u64 p.1.os.b,
  .slice p.1.xa p.2.crosses.length p.1.xc,.int .u64 p.1.xs.a,.int .u64 p.1.xs.b,.slice p.1.na p.2.needs.length p.1.nc,.int .u64 p.1.ns.a,.int .u64 p.1.ns.b]
def flatC (ps:List (CAddr × MClaim)):List Value:=ps.flatMap encC
theorem flatC_snoc (ps:List (CAddr × MClaim))(p:CAddr × MClaim):flatC (ps++[p])=flatC ps++encC p:=by simp [flatC]
theorem claimsAt_of {w:World}{B:Nat}{x:Option Addr}{y n:Nat}{ps:List (CAddr × MClaim)}{cs:List MClaim}(ho:w.ownsRow B 234 12 (.slice x n y) n (flatC ps))(hn:ps.length=n)(hc:ps.map (·.2)=cs)(hm:n≤maxLen)(hp:∀ p ∈ ps,ClaimAt w p.1 p.2):ClaimsAt w x cs∧n≤y:=by
 have hl:cs.length=n:=by rw [← hc,List.length_map,hn]
 rcases ho.2 with ⟨h1,h2⟩ | ⟨g,cap,cur,h1,_,_,h4,_⟩
 ·refine ⟨⟨by rw [hl];exact hm,Or.inl (List.eq_nil_of_length_eq_zero (by omega))⟩,by omega⟩
 ·cases h1
  refine ⟨⟨by rw [hl];exact hm,Or.inr ⟨g,0,rfl,fun i hi=>?_⟩⟩,h4⟩
  have hi2:i<ps.length:=by omega
  have hcs:cs[i]=ps[i].2:=by simp [← hc]
  refine ⟨ps[i].1,?_,by rw [hcs];exact hp _ (List.getElem_mem hi2)⟩
  rw [hcs]
  have key:∀ j,j<12→w.cell? ⟨g,i*12+j,none⟩=(encC ps[i])[j]? := by
   intro j hj
   rw [ho.cellAt (i*12+j) (by omega)]
   exact flat_get encC 12 (fun _=>rfl) ps i j hi2 hj
  simp only [Nat.zero_add]
  exact ⟨key 0 (by omega),key 1 (by omega),key 2 (by omega),key 3 (by omega),key 4 (by omega),key 5 (by omega),key 6 (by omega),key 7 (by omega),key 8 (by omega),key 9 (by omega),key 10 (by omega),key 11 (by omega)⟩
theorem RowsOwn.base {w:World}{B B':Nat}{cells:List Value}{tt:List (List Int)}(h:RowsOwn w B cells tt)(hB:B'≤B):RowsOwn w B' cells tt:=by
 refine ⟨h.1,fun i hi=>?_⟩
 obtain ⟨v,h1,h2⟩:=h.2 i hi
 exact ⟨v,h1,owns_base h2 hB⟩
theorem implTable_any (a:Option Addr)(cap:Nat)(rs:List MRoute)(w:World)(hr:Hid (RoutesAt w a rs))(hs:Hid (ShortRs rs))(hwf:Hid (WfRs rs)):
  Calls Tryz.prog 88 #[.slice a rs.length cap] w fun e w' => ∃ x y cells,e = .returned (.slice x (tableF rs).length y)∧w'.ownsRow w.heap.size 40 1 (.slice x (tableF rs).length y) (tableF rs).length cells∧RowsOwn w' w.heap.size cells (tableF rs)∧RowsApart cells∧Below w.heap.size w w':=by
 have hl:=hr.out.1
 unfold maxLen at hl
 by_cases h3:300<rs.length
 ·have HE:Hid (tableF rs=[]):=by unfold Hid tableF;rw [if_pos h3]
  rw [HE.out]
  go_enter Tryz.func88,Tryz.ntmps88
  go_wp2_with fail
  go_ret
  exact ⟨none,0,[],rfl,World.ownsRow_nil _ _ _ _,⟨rfl,fun i h=>absurd h (by simp)⟩,rowsApart_nil,Below.refl _ _⟩
 have HE:Hid (tableF rs=rowsM rs.length (exM (rs.map claimF))):=by unfold Hid tableF;rw [if_neg h3,table_rowsM]
 rw [HE.out]
 have h3':rs.length≤300:=by omega
 have HLn:Hid ((rowsM rs.length (exM (rs.map claimF))).length=rs.length):=rowsM_len _ _
 rw [HLn.out]
 clear h3 HE HLn
 go_enter Tryz.func88,Tryz.ntmps88
 go_wp2_with fail
 go_loopw [3,11] (fun v i wr => ∃ (k:Nat) (x:Option Addr) (y:Nat) (ps:List (CAddr × MClaim)),k≤rs.length∧i = .int .i64 k∧v = .slice x k y∧Hid (wr.ownsRow w.heap.size 234 12 (.slice x k y) k (flatC ps))∧Hid (ps.length=k∧ps.map (·.2)=(rs.take k).map claimF∧∀ p ∈ ps,ClaimOwn w wr p.1 p.2)∧Below w.heap.size w wr) (fun _ i _=>rs.length-(intOf i).toNat)
 case atStart=>exact ⟨0,none,0,[],Nat.zero_le _,rfl,rfl,World.ownsRow_nil _ _ _ _,⟨rfl,rfl,fun p h=>absurd h (by simp)⟩,Below.refl _ _⟩
 case round =>
  obtain ⟨k,x,y,ps,hk,rfl,rfl,ho,hP,hb⟩:=hrel
  have hbs:=hb.size
  by_cases hk':k<rs.length
  ·obtain ⟨b1,off1,rfl,hpc⟩:=hr.out.2.resolve_left (nz hk')
   obtain ⟨d1,q1,l1⟩:=hpc k hk'
   obtain ⟨c0,c1,c2,c3,c4,c5,c6,c7⟩:=q1.below hb
   have L1:=hidP l1
   clear hpc l1 q1
   have HS1:=hidP (hs.out _ (List.getElem_mem hk'))
   have HW1:=hidP (hwf.out k hk')
   go_wp2_with fail
   generalize hW:wr.alloc _=W
   have hbW:Below wr.heap.size wr W:=by rw [← hW];exact blo
   clear hW c0 c1 c2 c3 c4 c5 c6 c7
   refine (claimOf_any d1 rs[k] W (L1.out.below (hb.trans (hbW.mono hb.size))) HS1 HW1).mono ?_
   rintro e w2 ⟨dc,rfl,hc2,hdc,hb2'⟩
   have hb2:=hbW.trans (hb2'.mono hbW.size)
   have HO2:=hidP (owns_below ho.out hb2)
   have hb3:=hb.trans (hb2.mono hb.size)
   have hbs3:=hb3.size
   have HP2:Hid (∀ p ∈ ps++[(dc,claimF rs[k])],ClaimOwn w w2 p.1 p.2):=fun p hp=>by
    rcases List.mem_append.1 hp with h | h
    ·exact (hP.out.2.2 p h).below hb2
    ·rw [List.mem_singleton.1 h]
     obtain ⟨e1,e2,e3⟩:=hdc.out
     exact hc2.out.base (by show PartsAt w dc.pa _;rw [e1];exact L1.out.parts) (by show PartsAt w dc.oa _;rw [e2];exact L1.out.over) (by show NumsAt w dc.xa _;rw [e3];exact L1.out.crosses)
   have HPl:=hidP hP.out.1
   have HPm:=hidP hP.out.2.1
   have HFl:Hid (flatC ps++encC (dc,claimF rs[k])=flatC (ps++[(dc,claimF rs[k])])):=(flatC_snoc _ _).symm
   clear ho hP hb hbs hb2 hb2' hbW
   unfold claimV
   go_wp2_with (at_builtin;refine wpList_push rfl (.tmp 15) (.tmp 18) 224 rfl w.heap.size 234 _ 12 160 Tryz.underlying224 Tryz.infoClaim rfl (by decide) (.slice x k y) k (flatC ps) rfl HO2.out w2.heap.size rfl (encC (dc,claimF rs[k])) rfl rfl (by simp [encC,Value.oneCell']) (by unfold maxLen;omega) (by omega) (by omega) ?_;intro x' y' w4 ho4 hg4;have hb6:=push_below hb3 HO2.out hg4 (by omega);have HP4:Hid (∀ p ∈ ps++[(dc,claimF rs[k])],ClaimOwn w w4 p.1 p.2):=(fun p hp=>(HP2.out p hp).grown HO2.out (by decide) hg4);rw [HFl.out] at ho4;have HO4:=hidP ho4;clear ho4 hg4)
   go_roundw
   case rel=>exact ⟨k+1,x',y',ps++[(dc,claimF rs[k])],by omega,by go_num,rfl,HO4,⟨by rw [List.length_append,HPl.out];rfl,by rw [List.map_append,HPm.out,List.take_succ_eq_append_getElem hk',List.map_append];rfl,HP4.out⟩,hb6⟩
   case measure=>simp [intOf];omega
  ·have hkk:k=rs.length:=by omega
   have HT:Hid (rs.take k=rs):=List.take_of_length_le (by omega)
   obtain ⟨hC,hy⟩:=claimsAt_of ho.out hP.out.1 (hP.out.2.1.trans (by rw [HT.out])) (by unfold maxLen;omega) (fun p hp=>(hP.out.2.2 p hp).at hb)
   have HC:=hidP hC
   clear ho hP hC HT
   subst hkk
   go_wp2_with fail
   have T:=tableOf_any x y (rs.map claimF) wr HC (by rw [List.length_map];exact hy) (by rw [List.length_map];exact h3')
   simp only [List.length_map] at T
   refine T.mono ?_
   rintro e w5 ⟨x5,y5,cells,rfl,HO5,HR5,HA5,hb5⟩
   clear T
   go_wp2_with fail
   go_ret
   exact ⟨x5,y5,cells,rfl,owns_base HO5.out hbs,HR5.out.base hbs,HA5.out,hb.trans (hb5.mono hbs)⟩
end Go.Proofs.YtmkdgnmmebldgaaGreatDoor
