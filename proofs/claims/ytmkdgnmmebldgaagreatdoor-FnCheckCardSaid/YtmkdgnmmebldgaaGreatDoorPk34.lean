import Derived.Test.YtmkdgnmmebldgaaGreatDoorPk33
import Derived.Test.YtmkdgnmmebldgaaGreatDoorPk2
set_option maxRecDepth 100000
set_option maxHeartbeats 8000000
open Go.Proofs.Tryz
namespace Go.Proofs.YtmkdgnmmebldgaaGreatDoor
open Go.RowKit Go.Deep
variable {B:Nat}{cells:List Value}{w w':World}
theorem Tryz.infoInts:(prog.info? 40).map (fun i=>(i.zero,i.size,i.bytes))=some (some (.slice none 0 0),1,24):=CH
def bQ (w:World)(B:Nat)(cells:List Value)(tt:List (List Int)):Prop:=
 cells.length=tt.length/\∀ i (h:i<tt.length),∃ v,cells[i]? = some v/\w.ownsRow B 3 1 v tt[i].length (bP tt[i])
theorem bQ.below {tt:List (List Int)}(h:bQ w B cells tt)(hb:Cx w w'):bQ w' B cells tt:=by
 refine ⟨h.1,fun i hi=>?_⟩
 obtain ⟨v,h1,h2⟩:=h.2 i hi;exact ⟨v,h1,aq h2 hb⟩
theorem bQ.push {B' n:Nat}{v r:Value}{xs:List Value}{tt:List (List Int)}{row:List Int}(h:bQ w B cells tt)(ho:w.ownsRow B' 40 1 v n xs)(hr:w.ownsRow B 3 1 r row.length (bP row))(hg:w.grownBy w' v.ownBlock):bQ w' B (cells++[r]) (tt++[row]):=by
 refine ⟨by simp [h.1],fun i hi=>?_⟩
 by_cases e:i<tt.length
 ·obtain ⟨u,h1,h2⟩:=h.2 i e;refine ⟨u,by rw [List.getElem?_append_left (by rw [h.1];exact e)];exact h1,?_⟩
  rw [List.getElem_append_left e];exact h2.kept hg (aV CJ h2 ho)
 ·have:i=tt.length:=by simp at hi;omega
  subst this;refine ⟨r,by rw [<-h.1];simp,?_⟩
  rw [List.getElem_append_right CW];simp only [Nat.sub_self,List.getElem_cons_zero];exact hr.kept hg (aV CJ hr ho)
def ek (cells:List Value):Prop := ∀ (i j:Nat) (u v:Value) (b:Nat),cells[i]? = some u->cells[j]? = some v->u.ownBlock=some b->v.ownBlock=some b->i=j
theorem ip:ek []:=by
 intro i j u v b h;simp at h
theorem ek.push {M:Nat}{tt:List (List Int)}{r:Value}(h:ek cells)(ho:bQ w B cells tt)(hM:w.heap.size<=M)(hr:∀ b,r.ownBlock=some b->M<=b):ek (cells++[r]):=by
 have d:∀ i u b,i<cells.length->cells[i]? = some u->u.ownBlock=some b->b<w.heap.size:=by
  intro i u b hi hu hb;obtain ⟨v,h1,h2⟩:=ho.2 i (by rw [<-ho.1];exact hi)
  rw [hu] at h1;cases h1;exact (h2.lt b hb).2
 intro i j u v b hu hv a c
 by_cases hi:i<cells.length <;> by_cases hj:j<cells.length
 ·rw [List.getElem?_append_left hi] at hu;rw [List.getElem?_append_left hj] at hv;exact h i j u v b hu hv a c
 ·rw [List.getElem?_append_left hi] at hu;have h1:=d i u b hi hu a;rw [List.getElem?_append_right CG] at hv
  have f:j-cells.length=0:=by have:=(List.getElem?_eq_some_iff.1 hv).1;simp at this;omega
  rw [f] at hv;simp at hv;subst hv;have:=hr b c;omega
 ·rw [List.getElem?_append_left hj] at hv;have h1:=d j v b hj hv c;rw [List.getElem?_append_right CG] at hu
  have g:i-cells.length=0:=by have:=(List.getElem?_eq_some_iff.1 hu).1;simp at this;omega
  rw [g] at hu;simp at hu;subst hu;have:=hr b a;omega
 ·have h1:=(List.getElem?_eq_some_iff.1 hu).1;have h2:=(List.getElem?_eq_some_iff.1 hv).1;simp at h1 h2;omega
def od (rs:List al):Prop := ∀ r,r ∈ rs->nf r
theorem mo (a:Option Addr)(cap:Nat)(rs:List al)(w:World)(hr:Hid (dG w a rs))(hs:Hid (od rs)):
  Calls prog 13 #[.slice a rs.length cap] w fun e w' => ∃ x y cells,e = .returned (.slice x (bD rs).length y)/\w'.ownsRow w.heap.size 40 1 (.slice x (bD rs).length y) (bD rs).length cells/\bQ w' w.heap.size cells (bD rs)/\ek cells/\Cx w w':=by
 have hl:=hr.out.1;unfold maxLen at hl
 by_cases h3:300<rs.length
 ·have HE:Hid (bD rs=[]):=by unfold Hid bD;rw [if_pos h3]
  rw [HE.out]
  go_enter func13,ntmps13
  go_wp2_with fail
  go_ret
  exact ⟨none,0,[],rfl,World.ownsRow_nil _ _ _ _,⟨rfl,fun i h=>absurd h CI⟩,ip,Below.refl _ _⟩
 have HE:Hid (bD rs=rs.map fun a=>rs.map (b9 a)):=by unfold Hid bD;rw [if_neg h3]
 rw [HE.out];have ac:rs.length<=300:=CG
 clear h3 HE
 go_enter func13,ntmps13
 go_wp2_with fail
 go_loopw [3,14] (fun v i wr => ∃ (k:Nat) (x:Option Addr) (y:Nat) (cells:List Value),k<=rs.length/\i = .int .i64 k/\v = .slice x k y/\Hid (wr.ownsRow w.heap.size 40 1 (.slice x k y) k cells)/\Hid (bQ wr w.heap.size cells ((rs.take k).map fun a=>rs.map (b9 a)))/\Hid (ek cells)/\Cx w wr) (fun _ i _=>rs.length-(intOf i).toNat)
 case atStart=>exact ⟨0,none,0,[],Nat.zero_le _,rfl,rfl,World.ownsRow_nil _ _ _ _,⟨rfl,fun i h=>absurd h CI⟩,ip,Below.refl _ _⟩
 case round =>
  obtain ⟨k,x,y,cells,hk,rfl,rfl,ho,hR,o,hb⟩:=hrel;have ad:=hb.size
  by_cases l:k<rs.length
  ·have G:Hid ((rs.take (k+1)).map (fun a=>rs.map (b9 a))=(rs.take k).map (fun a=>rs.map (b9 a))++[rs.map (b9 rs[k])]):=by unfold Hid;rw [List.take_succ_eq_append_getElem l,List.map_append];rfl
   obtain ⟨b1,H,rfl,p⟩:=hr.out.2.resolve_left (nz l);have I:=aa p;obtain ⟨d1,⟨c0,c1,c2,c3,c4,c5,c6,c7⟩,l1⟩:=(p.below hb) k l;have L1:=aa l1;clear p l1
   go_wp2_with fail
   generalize hW:wr.alloc _=W;have HX:Hid (aA W wr.heap.size 0 d1 rs[k]):=by rw [<-hW];exact fg _ _ _ _
   have n:Cx wr W:=by rw [<-hW];exact blo
   have z:wr.heap.size<W.heap.size:=by rw [<-hW];simp
   clear hW c0 c1 c2 c3 c4 c5 c6 c7;have L2:=aa (L1.out.below n);have g:=hb.trans (n.mono hb.size)
   go_loopw [6,20] (fun v i A => ∃ (m:Nat) (x2:Option Addr) (y2:Nat),m<=rs.length/\i = .int .i64 m/\v = .slice x2 m y2/\Hid (A.ownsRow W.heap.size 3 1 (.slice x2 m y2) m (bP ((rs.take m).map (b9 rs[k]))))/\Cx W A) (fun _ i _=>rs.length-(intOf i).toNat)
   case atStart=>exact ⟨0,none,0,Nat.zero_le _,rfl,rfl,World.ownsRow_nil _ _ _ _,Below.refl _ _⟩
   case round =>
    obtain ⟨m,x2,y2,hm,rfl,rfl,j,c⟩:=hrel;have J:=c.size;have q:=g.trans (c.mono g.size);have L:=q.size
    by_cases r:m<rs.length
    ·obtain ⟨d2,⟨c0,c1,c2,c3,c4,c5,c6,c7⟩,l2⟩:=(I.out.below q) m r;have L3:=aa l2;have q0:=(HX.out.below c).k0;have q1:=(HX.out.below c).k1;have q2:=(HX.out.below c).k2;have q3:=(HX.out.below c).k3;have q4:=(HX.out.below c).k4;have q5:=(HX.out.below c).k5;have q6:=(HX.out.below c).k6;have q7:=(HX.out.below c).k7;simp only [Nat.zero_add] at q0 q1 q2 q3 q4 q5 q6 q7;have ae:=Nat.lt_of_lt_of_le z c.size;have M:=aa (hs.out _ (List.getElem_mem l));have N:=aa (hs.out _ (List.getElem_mem r));have O:=aa (L2.out.below c);have R:Hid (bP ((rs.take m).map (b9 rs[k]))++[.int .i64 (b9 rs[k] rs[m])]=bP ((rs.take (m+1)).map (b9 rs[k]))):=by
      unfold Hid;rw [List.take_succ_eq_append_getElem r,List.map_append,List.map_cons,List.map_nil,pD];rfl
     clear l2
     go_wp2_with (first
      | (go_at_call 43;refine (ky d1 d2 rs[k] rs[m] _ (O.out.below blo) (L3.out.below blo) M N).mono ?_;rintro e w3 ⟨rfl,B⟩;have C:Cx wr w3:=Below.trans (show Cx wr _ from blo) (B.mono CI);have D:=aa (aq j.out C);have E:=c.trans (C.mono c.size);have T:=E.size;clear B)
      | (at_builtin;refine aU rfl (.tmp 24) (.tmp 28) 40 rfl W.heap.size 3 _ 1 8 underlying40 Tryz.infoInt rfl CJ (.slice x2 m y2) m _ rfl D.out w3.heap.size rfl [.int .i64 (b9 rs[k] rs[m])] rfl rfl CL CK CG CG ?_;intro x' y' w4 d f;have s:=dw E D.out f CG;rw [R.out] at d;have t:=aa d;clear d f))
     go_roundw
     case rel=>exact ⟨m+1,x',y',CG,by go_num,rfl,t,s⟩
     case measure=>simp [intOf];omega
    ·have F:Hid (rs.take m=rs):=List.take_of_length_le CG
     rw [F.out] at j;have U:Hid ((rs.map (b9 rs[k])).length=m):=by unfold Hid;rw [List.length_map];omega
     have u:=aa (aq (aq ho.out n) c);have V:=aa ((hR.out.below n).below c);have X:Hid (wr.ownsRow w.heap.size 3 1 (.slice x2 m y2) (rs.map (b9 rs[k])).length (bP (rs.map (b9 rs[k])))):=by rw [U.out];exact aW j.out CG
     have Y:=aa (o.out.push hR.out (Nat.le_of_lt z) (fun b hb=>(j.out.lt b hb).1))
     clear ho hR j c F o
     go_wp2_with (at_builtin;refine aU rfl (.tmp 31) (.tmp 33) 36 rfl w.heap.size 40 _ 1 24 underlying36 Tryz.infoInts rfl CJ (.slice x k y) k cells rfl u.out wr.heap.size rfl [.slice x2 m y2] rfl rfl CL CK CG CG ?_;intro x' y' w4 d f;have s:=dw q u.out f CG;have t:=aa d;have Z:=aa (V.out.push u.out X.out f);clear d f)
     go_roundw
     case rel=>exact ⟨k+1,x',y',_,CG,by go_num,rfl,t,by rw [G.out];exact Z,Y,s⟩
     case measure=>simp [intOf];omega
  ·have HT:Hid (rs.take k=rs):=List.take_of_length_le CG
   rw [HT.out] at hR;clear HT
   go_wp2_with fail
   go_ret
   have ab:k=rs.length:=CG
   subst ab;exact ⟨x,y,cells,CI,by simpa using ho.out,hR.out,o.out,hb⟩
def gH (w:World)(a:Option Addr)(tt:List (List Int)):Prop:=
 tt.length<=maxLen/\(tt=[]\/∃ b off,a=some ⟨b,off,none⟩/\∀ i (h:i<tt.length),∃ ra rc,w.cell? ⟨b,off+i,none⟩=some (.slice ra tt[i].length rc)/\bV w ra tt[i])
theorem gH.below {a:Option Addr}{tt:List (List Int)}(h:gH w a tt)(hb:Cx w w'):gH w' a tt:=by
 refine ⟨h.1,?_⟩;rcases h.2 with h2 | ⟨b,off,h2,h3⟩
 ·exact Or.inl h2
 ·refine Or.inr ⟨b,off,h2,fun i hi=>?_⟩
  obtain ⟨ra,rc,h4,h5⟩:=h3 i hi;exact ⟨ra,rc,cell_later hb h4,h5.below hb⟩
theorem i9 {B':Nat}{x:Option Addr}{y:Nat}{tt:List (List Int)}(ho:w.ownsRow B 40 1 (.slice x tt.length y) tt.length cells)(hr:bQ w B' cells tt)(hm:tt.length<=maxLen)(hm2:∀ i (h:i<tt.length),tt[i].length<=maxLen):gH w x tt:=by
 refine ⟨hm,?_⟩;rcases ho.2 with ⟨_,h0⟩ | ⟨g,a,b,h1,_,h3,_⟩
 ·exact Or.inl (List.eq_nil_of_length_eq_zero h0)
 ·cases h1;refine Or.inr ⟨g,0,rfl,fun i hi=>?_⟩
  obtain ⟨v,h4,h5⟩:=hr.2 i hi;obtain ⟨ra,rc,rfl,h6,_⟩:=Ca h5 (hm2 i hi);have:=ho.cells rfl i _ h4;rw [bH] at this;exact ⟨ra,rc,by simpa using this,h6⟩
end Go.Proofs.YtmkdgnmmebldgaaGreatDoor
