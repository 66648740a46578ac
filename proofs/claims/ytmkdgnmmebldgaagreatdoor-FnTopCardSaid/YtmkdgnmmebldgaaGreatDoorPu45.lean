import Derived.Test.YtmkdgnmmebldgaaGreatDoorPu44
import Derived.Test.YtmkdgnmmebldgaaGreatDoorPt35
import Derived.Test.YtmkdgnmmebldgaaGreatDoorPt2
import Derived.Test.YtmkdgnmmebldgaaGreatDoorPu42
import Derived.Test.YtmkdgnmmebldgaaGreatDoorPt6
import Derived.Test.YtmkdgnmmebldgaaGreatDoorPt5
set_option maxRecDepth 100000
set_option maxHeartbeats 8000000
namespace Go.Proofs.YtmkdgnmmebldgaaGreatDoor
open Go.RowKit Go.Deep
theorem Tryz.infoInts:(Tryz.prog.info? 40).map (fun i=>(i.zero,i.size,i.bytes))=some (some (.slice none 0 0),1,24):=by kernel_rfl
def RowsOwn (w:World)(B:Nat)(cells:List Value)(tt:List (List Int)):Prop:=
 cells.length=tt.length∧∀ i (h:i<tt.length),∃ v,cells[i]? = some v∧w.ownsRow B 3 1 v tt[i].length (flatN tt[i])
theorem RowsOwn.below {w w':World}{B:Nat}{cells:List Value}{tt:List (List Int)}(h:RowsOwn w B cells tt)(hb:Below w.heap.size w w'):RowsOwn w' B cells tt:=by
 refine ⟨h.1,fun i hi=>?_⟩
 obtain ⟨v,h1,h2⟩:=h.2 i hi
 exact ⟨v,h1,owns_below h2 hb⟩
theorem RowsOwn.push {w w':World}{B B' n:Nat}{v r:Value}{cells xs:List Value}{tt:List (List Int)}{row:List Int}(h:RowsOwn w B cells tt)(ho:w.ownsRow B' 40 1 v n xs)(hr:w.ownsRow B 3 1 r row.length (flatN row))(hg:w.grownBy w' v.ownBlock):RowsOwn w' B (cells++[r]) (tt++[row]):=by
 refine ⟨by simp [h.1],fun i hi=>?_⟩
 by_cases e:i<tt.length
 ·obtain ⟨u,h1,h2⟩:=h.2 i e
  refine ⟨u,by rw [List.getElem?_append_left (by rw [h.1];exact e)];exact h1,?_⟩
  rw [List.getElem_append_left e]
  exact h2.kept hg (owns_ne (by decide) h2 ho)
 ·have:i=tt.length:=by simp at hi;omega
  subst this
  refine ⟨r,by rw [← h.1];simp,?_⟩
  rw [List.getElem_append_right (Nat.le_refl _)]
  simp only [Nat.sub_self,List.getElem_cons_zero]
  exact hr.kept hg (owns_ne (by decide) hr ho)
def RowsApart (cells:List Value):Prop := ∀ (i j:Nat) (u v:Value) (b:Nat),cells[i]? = some u→cells[j]? = some v→u.ownBlock=some b→v.ownBlock=some b→i=j
theorem rowsApart_nil:RowsApart []:=by
 intro i j u v b h
 simp at h
theorem RowsApart.push {w:World}{B M:Nat}{cells:List Value}{tt:List (List Int)}{r:Value}(h:RowsApart cells)(ho:RowsOwn w B cells tt)(hM:w.heap.size≤M)(hr:∀ b,r.ownBlock=some b→M≤b):RowsApart (cells++[r]):=by
 have old:∀ i u b,i<cells.length→cells[i]? = some u→u.ownBlock=some b→b<w.heap.size:=by
  intro i u b hi hu hb
  obtain ⟨v,h1,h2⟩:=ho.2 i (by rw [← ho.1];exact hi)
  rw [hu] at h1
  cases h1
  exact (h2.lt b hb).2
 intro i j u v b hu hv hub hvb
 by_cases hi:i<cells.length <;> by_cases hj:j<cells.length
 ·rw [List.getElem?_append_left hi] at hu
  rw [List.getElem?_append_left hj] at hv
  exact h i j u v b hu hv hub hvb
 ·rw [List.getElem?_append_left hi] at hu
  have h1:=old i u b hi hu hub
  rw [List.getElem?_append_right (by omega)] at hv
  have hj0:j-cells.length=0:=by have:=(List.getElem?_eq_some_iff.1 hv).1;simp at this;omega
  rw [hj0] at hv
  simp at hv
  subst hv
  have:=hr b hvb
  omega
 ·rw [List.getElem?_append_left hj] at hv
  have h1:=old j v b hj hv hvb
  rw [List.getElem?_append_right (by omega)] at hu
  have hi0:i-cells.length=0:=by have:=(List.getElem?_eq_some_iff.1 hu).1;simp at this;omega
  rw [hi0] at hu
  simp at hu
  subst hu
  have:=hr b hub
  omega
 ·have h1:=(List.getElem?_eq_some_iff.1 hu).1
  have h2:=(List.getElem?_eq_some_iff.1 hv).1
  simp at h1 h2
  omega
def ShortRs (rs:List MRoute):Prop := ∀ r,r ∈ rs→ShortN r
theorem specTable_any (a:Option Addr)(cap:Nat)(rs:List MRoute)(w:World)(hr:Hid (RoutesAt w a rs))(hs:Hid (ShortRs rs)):
  Calls Tryz.prog 13 #[.slice a rs.length cap] w fun e w' => ∃ x y cells,e = .returned (.slice x (tableF rs).length y)∧w'.ownsRow w.heap.size 40 1 (.slice x (tableF rs).length y) (tableF rs).length cells∧RowsOwn w' w.heap.size cells (tableF rs)∧RowsApart cells∧Below w.heap.size w w':=by
 have hl:=hr.out.1
 unfold maxLen at hl
 by_cases h3:300<rs.length
 ·have HE:Hid (tableF rs=[]):=by unfold Hid tableF;rw [if_pos h3]
  rw [HE.out]
  go_enter Tryz.func13,Tryz.ntmps13
  go_wp2_with fail
  go_ret
  exact ⟨none,0,[],rfl,World.ownsRow_nil _ _ _ _,⟨rfl,fun i h=>absurd h (by simp)⟩,rowsApart_nil,Below.refl _ _⟩
 have HE:Hid (tableF rs=rs.map fun a=>rs.map (exclF a)):=by unfold Hid tableF;rw [if_neg h3]
 rw [HE.out]
 have h3':rs.length≤300:=by omega
 clear h3 HE
 go_enter Tryz.func13,Tryz.ntmps13
 go_wp2_with fail
 go_loopw [3,14] (fun v i wr => ∃ (k:Nat) (x:Option Addr) (y:Nat) (cells:List Value),k≤rs.length∧i = .int .i64 k∧v = .slice x k y∧Hid (wr.ownsRow w.heap.size 40 1 (.slice x k y) k cells)∧Hid (RowsOwn wr w.heap.size cells ((rs.take k).map fun a=>rs.map (exclF a)))∧Hid (RowsApart cells)∧Below w.heap.size w wr) (fun _ i _=>rs.length-(intOf i).toNat)
 case atStart=>exact ⟨0,none,0,[],Nat.zero_le _,rfl,rfl,World.ownsRow_nil _ _ _ _,⟨rfl,fun i h=>absurd h (by simp)⟩,rowsApart_nil,Below.refl _ _⟩
 case round =>
  obtain ⟨k,x,y,cells,hk,rfl,rfl,ho,hR,hAp,hb⟩:=hrel
  have hbs:=hb.size
  by_cases hk':k<rs.length
  ·have HTS:Hid ((rs.take (k+1)).map (fun a=>rs.map (exclF a))=(rs.take k).map (fun a=>rs.map (exclF a))++[rs.map (exclF rs[k])]):=by unfold Hid;rw [List.take_succ_eq_append_getElem hk',List.map_append];rfl
   obtain ⟨b1,off1,rfl,hpc⟩:=hr.out.2.resolve_left (nz hk')
   have HPC:=hidP hpc
   obtain ⟨d1,⟨c0,c1,c2,c3,c4,c5,c6,c7⟩,l1⟩:=(hpc.below hb) k hk'
   have L1:=hidP l1
   clear hpc l1
   go_wp2_with fail
   generalize hW:wr.alloc _=W
   have HX:Hid (RouteCell W wr.heap.size 0 d1 rs[k]):=by rw [← hW];exact routeCell_box _ _ _ _
   have hbW:Below wr.heap.size wr W:=by rw [← hW];exact blo
   have hzW:wr.heap.size<W.heap.size:=by rw [← hW];simp
   clear hW c0 c1 c2 c3 c4 c5 c6 c7
   have L2:=hidP (L1.out.below hbW)
   have hbw2:=hb.trans (hbW.mono hb.size)
   go_loopw [6,20] (fun v i wr2 => ∃ (m:Nat) (x2:Option Addr) (y2:Nat),m≤rs.length∧i = .int .i64 m∧v = .slice x2 m y2∧Hid (wr2.ownsRow W.heap.size 3 1 (.slice x2 m y2) m (flatN ((rs.take m).map (exclF rs[k]))))∧Below W.heap.size W wr2) (fun _ i _=>rs.length-(intOf i).toNat)
   case atStart=>exact ⟨0,none,0,Nat.zero_le _,rfl,rfl,World.ownsRow_nil _ _ _ _,Below.refl _ _⟩
   case round =>
    obtain ⟨m,x2,y2,hm,rfl,rfl,ho2,hb2⟩:=hrel
    have hbs2:=hb2.size
    have hbF:=hbw2.trans (hb2.mono hbw2.size)
    have hbsF:=hbF.size
    by_cases hm':m<rs.length
    ·obtain ⟨d2,⟨c0,c1,c2,c3,c4,c5,c6,c7⟩,l2⟩:=(HPC.out.below hbF) m hm'
     have L3:=hidP l2
     have q0:=(HX.out.below hb2).k0
     have q1:=(HX.out.below hb2).k1
     have q2:=(HX.out.below hb2).k2
     have q3:=(HX.out.below hb2).k3
     have q4:=(HX.out.below hb2).k4
     have q5:=(HX.out.below hb2).k5
     have q6:=(HX.out.below hb2).k6
     have q7:=(HX.out.below hb2).k7
     simp only [Nat.zero_add] at q0 q1 q2 q3 q4 q5 q6 q7
     have hz2:=Nat.lt_of_lt_of_le hzW hb2.size
     have HS1:=hidP (hs.out _ (List.getElem_mem hk'))
     have HS2:=hidP (hs.out _ (List.getElem_mem hm'))
     have HL2:=hidP (L2.out.below hb2)
     have HFT:Hid (flatN ((rs.take m).map (exclF rs[k]))++[.int .i64 (exclF rs[k] rs[m])]=flatN ((rs.take (m+1)).map (exclF rs[k]))):=by
      unfold Hid;rw [List.take_succ_eq_append_getElem hm',List.map_append,List.map_cons,List.map_nil,flatN_snoc];rfl
     clear l2
     go_wp2_with (first
      | (go_at_call 43;refine (specExclude_any d1 d2 rs[k] rs[m] _ (HL2.out.below blo) (L3.out.below blo) HS1 HS2).mono ?_;rintro e w3 ⟨rfl,hb3⟩;have hb4:Below wr.heap.size wr w3:=Below.trans (show Below wr.heap.size wr _ from blo) (hb3.mono (by simp));have HO3:=hidP (owns_below ho2.out hb4);have hb5:=hb2.trans (hb4.mono hb2.size);have hbs5:=hb5.size;clear hb3)
      | (at_builtin;refine wpList_push rfl (.tmp 24) (.tmp 28) 40 rfl W.heap.size 3 _ 1 8 Tryz.underlying40 Tryz.infoInt rfl (by decide) (.slice x2 m y2) m _ rfl HO3.out w3.heap.size rfl [.int .i64 (exclF rs[k] rs[m])] rfl rfl (by simp [Value.oneCell']) (by unfold maxLen;omega) (by omega) (by omega) ?_;intro x' y' w4 ho4 hg4;have hb6:=push_below hb5 HO3.out hg4 (by omega);rw [HFT.out] at ho4;have HO4:=hidP ho4;clear ho4 hg4))
     go_roundw
     case rel=>exact ⟨m+1,x',y',by omega,by go_num,rfl,HO4,hb6⟩
     case measure=>simp [intOf];omega
    ·have HTk:Hid (rs.take m=rs):=List.take_of_length_le (by omega)
     rw [HTk.out] at ho2
     have HLn:Hid ((rs.map (exclF rs[k])).length=m):=by unfold Hid;rw [List.length_map];omega
     have HOo:=hidP (owns_below (owns_below ho.out hbW) hb2)
     have HRo:=hidP ((hR.out.below hbW).below hb2)
     have HOr:Hid (wr.ownsRow w.heap.size 3 1 (.slice x2 m y2) (rs.map (exclF rs[k])).length (flatN (rs.map (exclF rs[k])))):=by rw [HLn.out];exact owns_base ho2.out (by omega)
     have HAp:=hidP (hAp.out.push hR.out (Nat.le_of_lt hzW) (fun b hb=>(ho2.out.lt b hb).1))
     clear ho hR ho2 hb2 HTk hAp
     go_wp2_with (at_builtin;refine wpList_push rfl (.tmp 31) (.tmp 33) 36 rfl w.heap.size 40 _ 1 24 Tryz.underlying36 Tryz.infoInts rfl (by decide) (.slice x k y) k cells rfl HOo.out wr.heap.size rfl [.slice x2 m y2] rfl rfl (by simp [Value.oneCell']) (by unfold maxLen;omega) (by omega) (by omega) ?_;intro x' y' w4 ho4 hg4;have hb6:=push_below hbF HOo.out hg4 (by omega);have HO4:=hidP ho4;have HR4:=hidP (HRo.out.push HOo.out HOr.out hg4);clear ho4 hg4)
     go_roundw
     case rel=>exact ⟨k+1,x',y',_,by omega,by go_num,rfl,HO4,by rw [HTS.out];exact HR4,HAp,hb6⟩
     case measure=>simp [intOf];omega
  ·have HT:Hid (rs.take k=rs):=List.take_of_length_le (by omega)
   rw [HT.out] at hR
   clear HT
   go_wp2_with fail
   go_ret
   have hkk:k=rs.length:=by omega
   subst hkk
   exact ⟨x,y,cells,by simp,by simpa using ho.out,hR.out,hAp.out,hb⟩
def TabAt (w:World)(a:Option Addr)(tt:List (List Int)):Prop:=
 tt.length≤maxLen∧(tt=[]∨∃ b off,a=some ⟨b,off,none⟩∧∀ i (h:i<tt.length),∃ ra rc,w.cell? ⟨b,off+i,none⟩=some (.slice ra tt[i].length rc)∧NumsAt w ra tt[i])
theorem TabAt.below {w w':World}{a:Option Addr}{tt:List (List Int)}(h:TabAt w a tt)(hb:Below w.heap.size w w'):TabAt w' a tt:=by
 refine ⟨h.1,?_⟩
 rcases h.2 with h2 | ⟨b,off,h2,h3⟩
 ·exact Or.inl h2
 ·refine Or.inr ⟨b,off,h2,fun i hi=>?_⟩
  obtain ⟨ra,rc,h4,h5⟩:=h3 i hi
  exact ⟨ra,rc,cell_later hb h4,h5.below hb⟩
def rowT:List Int→List Int→Nat→Option Nat
 | x::xs,y::ys,k=>if x=y then rowT xs ys (k+1) else some k
 | _,_,_=>none
def tabT:List (List Int)→List (List Int)→Nat→Option (Nat × Nat)
 | a::ta,b::tb,i=>if a.length=b.length then (match rowT a b 0 with
  | none=>tabT ta tb (i+1)
  | some k=>some (i,k)) else some (i,a.length)
 | _,_,_=>none
def chkT (tt uu:List (List Int)):Option (Nat × Nat):=if tt.length=uu.length then tabT tt uu 0 else some (tt.length,0)
def tabV (o:Option (Nat × Nat)):Value:=match o with
 | none=>.nilIface
 | some (i,k)=>errV 7 i k
theorem rowT_on {xs ys:List Int}{k:Nat}(h1:k<xs.length)(h2:k<ys.length):rowT (xs.drop k) (ys.drop k) k=if xs[k]=ys[k] then rowT (xs.drop (k+1)) (ys.drop (k+1)) (k+1) else some k:=by
 rw [List.drop_eq_getElem_cons h1,List.drop_eq_getElem_cons h2]
 rfl
theorem rowT_end {xs ys:List Int}{k:Nat}(h1:xs.length≤k):rowT (xs.drop k) (ys.drop k) k=none:=by
 rw [List.drop_eq_nil_of_le h1]
 unfold rowT
 rfl
theorem tabT_on {tt uu:List (List Int)}{i:Nat}(h1:i<tt.length)(h2:i<uu.length):tabT (tt.drop i) (uu.drop i) i=if tt[i].length=uu[i].length then (match rowT tt[i] uu[i] 0 with
  | none=>tabT (tt.drop (i+1)) (uu.drop (i+1)) (i+1)
  | some k=>some (i,k)) else some (i,tt[i].length):=by
 rw [List.drop_eq_getElem_cons h1,List.drop_eq_getElem_cons h2]
 rfl
theorem tabT_end {tt uu:List (List Int)}{i:Nat}(h1:tt.length≤i):tabT (tt.drop i) (uu.drop i) i=none:=by
 rw [List.drop_eq_nil_of_le h1]
 unfold tabT
 rfl
theorem checkTable_any (a a':Option Addr)(c c':Nat)(tt uu:List (List Int))(w:World)(ht:Hid (TabAt w a tt))(hu:Hid (TabAt w a' uu)):
  Calls Tryz.prog 87 #[.slice a tt.length c,.slice a' uu.length c'] w fun e w'=>e = .returned (tabV (chkT tt uu))∧Below w.heap.size w w':=by
 have hl1:=ht.out.1
 have hl2:=hu.out.1
 unfold maxLen at hl1 hl2
 obtain ⟨n,hn⟩:∃ n,tt.length=n:=⟨_,rfl⟩
 obtain ⟨m,hm⟩:∃ m,uu.length=m:=⟨_,rfl⟩
 obtain ⟨O,hO⟩:∃ O,chkT tt uu=O:=⟨_,rfl⟩
 rw [hO]
 rw [hn] at hl1 ⊢
 rw [hm] at hl2 ⊢
 have HN:=hidP hn
 have HM:=hidP hm
 have HO:=hidP hO
 clear hn hm hO
 go_enter Tryz.func87,Tryz.ntmps87
 by_cases hnm:n=m
 rotate_left
 ·have hb:((n:Int) != (m:Int))=true:=by rw [bne_iff_ne];omega
  have HE:Hid (tabV O=errV 7 n ((0:Nat):Int)):=by
   unfold Hid
   rw [← HO.out]
   unfold chkT
   rw [if_neg (by rw [HN.out,HM.out];exact hnm),HN.out]
   rfl
  clear hnm
  go_wp2_with fail
  refine (partsAt_any 7 n 0 _).mono ?_
  rintro e w1 ⟨rfl,rfl⟩
  go_wp2_with fail
  go_ret
  exact ⟨by rw [HE.out];rfl,Below.refl _ _⟩
 subst hnm
 have HO1:Hid (tabT (tt.drop 0) (uu.drop 0) 0=O):=by
  have h:=HO.out
  unfold chkT at h
  rw [if_pos (by rw [HN.out,HM.out])] at h
  exact h
 have hbb:((n:Int) != (n:Int))=false:=by simp
 clear HO
 go_wp2_with fail
 clear hbb
 go_loopw [19] (fun c wr => ∃ i:Nat,i≤n∧c = .int .i64 i∧Hid (tabT (tt.drop i) (uu.drop i) i=O)∧Below w.heap.size w wr) (fun c _=>n-(intOf c).toNat)
 case atStart=>exact ⟨0,Nat.zero_le _,rfl,HO1,Below.refl _ _⟩
 case round =>
  obtain ⟨i,hi,rfl,HI,hbr⟩:=hrel
  by_cases hi':i<n
  ·have hii:(i:Int)<n:=by omega
   have hit:i<tt.length:=by rw [HN.out];exact hi'
   have hiu:i<uu.length:=by rw [HM.out];exact hi'
   obtain ⟨b,o,ha,hc⟩:=(ht.out.below hbr).2.resolve_left (nz hit)
   obtain ⟨b',o',ha',hc'⟩:=(hu.out.below hbr).2.resolve_left (nz hiu)
   subst ha ha'
   obtain ⟨ra,rc,r0,rn⟩:=hc i hit
   obtain ⟨sa,sc,s0,sn⟩:=hc' i hiu
   have HST:=hidP (HI.out.symm.trans (tabT_on hit hiu))
   generalize tt[i]=X at r0 rn HST
   generalize uu[i]=Y at s0 sn HST
   obtain ⟨p,hp⟩:∃ p,X.length=p:=⟨_,rfl⟩
   obtain ⟨q,hq⟩:∃ q,Y.length=q:=⟨_,rfl⟩
   rw [hp] at r0 HST
   rw [hq] at s0 HST
   have hlp:=rn.1
   unfold maxLen at hlp
   rw [hp] at hlp
   have HP:=hidP hp
   have HQ:=hidP hq
   have HRN:=hidP rn
   have HSN:=hidP sn
   have HBr:=hidP hbr
   have HS0:=hidP s0
   clear hc hc' rn sn HI hp hq hit hiu hbr
   by_cases hpq:p=q
   rotate_left
   ·have f0:((p:Int) != (q:Int))=true:=by rw [bne_iff_ne];omega
    have HE:Hid (tabV O=errV 7 i p):=by unfold Hid;rw [HST.out,if_neg hpq];rfl
    clear hpq
    go_wp2_with fail
    refine (partsAt_any 7 i p _).mono ?_
    rintro e w1 ⟨rfl,rfl⟩
    go_wp2_with fail
    go_ret
    exact ⟨by rw [HE.out];rfl,HBr.out⟩
   subst hpq
   have HST2:Hid (O=(match rowT (X.drop 0) (Y.drop 0) 0 with
    | none=>tabT (tt.drop (i+1)) (uu.drop (i+1)) (i+1)
    | some k=>some (i,k))):=by have h:=HST.out;rw [if_pos rfl] at h;exact h
   have f0:((p:Int) != (p:Int))=false:=by simp
   clear HST
   go_wp2_with fail
   clear f0 r0 s0
   go_loopw [38] (fun c wq => ∃ k:Nat,k≤p∧c = .int .i64 k∧Hid (rowT (X.drop k) (Y.drop k) k=rowT (X.drop 0) (Y.drop 0) 0)∧wq=wr) (fun c _=>p-(intOf c).toNat)
   case atStart=>exact ⟨0,Nat.zero_le _,rfl,rfl,rfl⟩
   case round =>
    obtain ⟨k,hk,rfl,HK,hwq⟩:=hrel
    subst hwq
    by_cases hk':k<p
    ·have hki:(k:Int)<p:=by omega
     have hkx:k<X.length:=by rw [HP.out];exact hk'
     have hky:k<Y.length:=by rw [HQ.out];exact hk'
     obtain ⟨rb,ro,hra,hrc⟩:=HRN.out.2.resolve_left (nz hkx)
     obtain ⟨sb,so,hsa,hsc⟩:=HSN.out.2.resolve_left (nz hky)
     subst hra hsa
     have x0:=hrc k hkx
     have y0:=hsc k hky
     have HST3:=hidP (HK.out.symm.trans (rowT_on hkx hky))
     generalize X[k]=xv at x0 HST3
     generalize Y[k]=yv at y0 HST3
     have s0:=HS0.out
     clear hrc hsc HK hkx hky
     by_cases hxy:xv=yv
     ·have f0:(xv != yv)=false:=by simpa using hxy
      have HK2:Hid (rowT (X.drop (k+1)) (Y.drop (k+1)) (k+1)=rowT (X.drop 0) (Y.drop 0) 0):=by have h:=HST3.out;rw [if_pos hxy] at h;exact h.symm
      clear hxy
      go_wp2_with fail
      go_roundw
      case rel=>exact ⟨k+1,by omega,by go_num,HK2,by first | rfl | trivial⟩
      case measure=>simp [intOf];omega
     ·have f0:(xv != yv)=true:=by simpa using hxy
      have HE:Hid (tabV O=errV 7 i k):=by
       unfold Hid
       rw [HST2.out,HST3.out,if_neg hxy]
       rfl
      clear hxy
      go_wp2_with fail
      refine (partsAt_any 7 i k _).mono ?_
      rintro e w1 ⟨rfl,rfl⟩
      go_wp2_with fail
      go_ret
      exact ⟨by rw [HE.out];rfl,HBr.out⟩
    ·have hki:¬ (k:Int)<p:=by omega
     have HI2:Hid (tabT (tt.drop (i+1)) (uu.drop (i+1)) (i+1)=O):=by
      unfold Hid
      rw [HST2.out,← HK.out,rowT_end (by rw [HP.out];omega)]
     go_wp2_with fail
     go_roundw
     case rel=>exact ⟨i+1,by omega,by go_num,HI2,HBr.out⟩
     case measure=>simp [intOf];omega
  ·have hii:¬ (i:Int)<n:=by omega
   have HE:Hid (tabV O = .nilIface):=by
    unfold Hid
    rw [← HI.out,tabT_end (by rw [HN.out];omega)]
    rfl
   go_wp2_with fail
   go_ret
   exact ⟨by rw [HE.out];rfl,hbr⟩
theorem eqL_eq {α:Type}{xs ys:List α}(h:eqL xs ys=true):xs=ys:=by
 simpa [eqL] using h
theorem wrongF_zero {r q:MRoute}(h:wrongF r q=0):r=q:=by
 unfold wrongF at h
 by_cases h1:r.start=q.start∧r.stop=q.stop∧eqL r.steps q.steps=true
 ·rw [if_pos h1] at h
  by_cases h2:eqL r.lies q.lies=true∧eqL r.crosses q.crosses=true
  ·rw [if_pos h2] at h
   by_cases h3:eqL r.parts q.parts=true∧eqL r.over q.over=true
   ·rw [if_pos h3] at h
    by_cases h4:eqL r.flanks q.flanks=true
    ·obtain ⟨a0,a1,a2⟩:=h1
     obtain ⟨a3,a4⟩:=h2
     obtain ⟨a5,a6⟩:=h3
     replace a2:=eqL_eq a2
     replace a3:=eqL_eq a3
     replace a4:=eqL_eq a4
     replace a5:=eqL_eq a5
     replace a6:=eqL_eq a6
     have a7:=eqL_eq h4
     cases r
     cases q
     simp only at a0 a1 a2 a3 a4 a5 a6 a7
     subst a0 a1 a2 a3 a4 a5 a6 a7
     rfl
    ·rw [if_neg h4] at h
     omega
   ·rw [if_neg h3] at h
    omega
  ·rw [if_neg h2] at h
   omega
 ·rw [if_neg h1] at h
  omega
theorem chkR_none:∀ (rs qs:List MRoute)(i:Nat),chkR rs qs i=none→rs=qs
 | [],[],_,_=>rfl
 | [],_::_,_,h=>by simp [chkR] at h
 | _::_,[],_,h=>by simp [chkR] at h
 | r::rs,q::qs,i,h=>by
  unfold chkR at h
  by_cases h0:wrongF r q=0
  ·rw [if_pos h0] at h
   rw [wrongF_zero h0,chkR_none rs qs (i+1) h]
  ·rw [if_neg h0] at h
   cases h
def allF (ps:List MPiece)(js:List MJoint)(ss:List MPiece)(over:Int)(rs:List MRoute)(tt:List (List Int))(D : Prop → Bool := fun p => @decide p (Classical.propDecidable p)) : Option (Int × Option (Int × Int)) :=
 if sigF ps js ss=(0,0)∧0≤over∧over≤100000 then
  match chkR rs (routesF ps js ss over) 0 D with
  | some (c,i)=>some (c,some ((i:Int),0))
  | none=>(match chkT tt (tableF rs) with
   | some (i,k)=>some (7,some ((i:Int),(k:Int)))
   | none=>none)
 else some (1,none)
theorem allF_no {ps:List MPiece}{js:List MJoint}{ss:List MPiece}{over:Int}{rs:List MRoute}{tt:List (List Int)}(h:¬ (sigF ps js ss=(0,0)∧0≤over∧over≤100000)):allF ps js ss over rs tt=some (1,none):=by
 unfold allF
 rw [if_neg h]
theorem allF_r {ps:List MPiece}{js:List MJoint}{ss:List MPiece}{over:Int}{rs:List MRoute}{tt:List (List Int)}(h:sigF ps js ss=(0,0)∧0≤over∧over≤100000){c:Int}{i:Nat}(hc:chkR rs (routesF ps js ss over) 0=some (c,i)):allF ps js ss over rs tt=some (c,some ((i:Int),0)):=by
 unfold allF
 rw [if_pos h,hc]
theorem allF_t {ps:List MPiece}{js:List MJoint}{ss:List MPiece}{over:Int}{rs:List MRoute}{tt:List (List Int)}(h:sigF ps js ss=(0,0)∧0≤over∧over≤100000)(hc:chkR rs (routesF ps js ss over) 0=none){i k:Nat}(ht:chkT tt (tableF rs)=some (i,k)):allF ps js ss over rs tt=some (7,some ((i:Int),(k:Int))):=by
 unfold allF
 rw [if_pos h,hc]
 dsimp only
 rw [ht]
theorem allF_ok {ps:List MPiece}{js:List MJoint}{ss:List MPiece}{over:Int}{rs:List MRoute}{tt:List (List Int)}(h:sigF ps js ss=(0,0)∧0≤over∧over≤100000)(hc:chkR rs (routesF ps js ss over) 0=none)(ht:chkT tt (tableF rs)=none):allF ps js ss over rs tt=none:=by
 unfold allF
 rw [if_pos h,hc]
 dsimp only
 rw [ht]
end Go.Proofs.YtmkdgnmmebldgaaGreatDoor
