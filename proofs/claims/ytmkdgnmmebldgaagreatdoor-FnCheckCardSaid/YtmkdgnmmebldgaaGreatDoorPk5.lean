import Derived.Test.YtmkdgnmmebldgaaGreatDoorPk1
set_option maxRecDepth 100000
set_option maxHeartbeats 8000000
open Go.Proofs.Tryz
namespace Go.Proofs.YtmkdgnmmebldgaaGreatDoor
open Go.RowKit
variable {i m np:Nat}{j:aj}{js:List aj}{pi pl wy:Int}{ps ss:List af}{s:ByteArray}
theorem aC {p:Prop}(h:p):Hid p:=h
def bh (bad:Nat->Bool)(n:Nat):Int:=
 match (List.range n).find? bad with
 | some i=>i
 | none => -1
theorem a8 {bad:Nat->Bool}{n:Nat}(h:∀ i,i<n->bad i=false):bh bad n = -1:=by
 have e:(List.range n).find? bad=none:=by
  rw [List.find?_eq_none];intro i hi;rw [h i (List.mem_range.1 hi)];simp
 simp [bh,e]
theorem qj {bad:Nat->Bool}:∀ (n i:Nat),i<n->bad i=true->(∀ k,k<i->bad k=false)->(List.range n).find? bad=some i
 | 0,i,h,_,_=>absurd h (Nat.not_lt_zero i)
 | n+1,i,h,hb,hk=>by
  rw [List.range_succ,List.find?_append]
  by_cases e:i<n
  ·rw [qj n i e hb hk];rfl
  ·have:i=n:=CG
   subst this;have:(List.range i).find? bad=none:=by
    rw [List.find?_eq_none];intro j hj;rw [hk j (List.mem_range.1 hj)];simp
   rw [this];simp [hb]
theorem co {bad:Nat->Bool}{n:Nat}(h:i<n)(hb:bad i=true)(hk:∀ k,k<i->bad k=false):bh bad n=i:=by
 simp [bh,qj n i h hb hk]
theorem hH (bad:Nat->Bool)(n:Nat):(bh bad n = -1/\∀ i,i<n->bad i=false)\/∃ i,i<n/\bh bad n=(i:Int)/\bad i=true/\∀ k,k<i->bad k=false:=by
 induction n with
 | zero=>exact Or.inl ⟨rfl,fun i h=>absurd h (Nat.not_lt_zero i)⟩
 | succ n ih =>
  rcases ih with ⟨_,h⟩ | ⟨i,hi,_,hb,hk⟩
  ·cases hb:bad n
   ·have h':∀ i,i<n+1->bad i=false:=by
     intro i hi
     by_cases e:i<n
     ·exact h i e
     ·have:i=n:=CG
      subst this;exact hb
    exact Or.inl ⟨a8 h',h'⟩
   ·exact Or.inr ⟨n,CG,co CG hb h,hb,h⟩
  ·exact Or.inr ⟨i,CG,co CG hb hk,hb,hk⟩
def bX (es:List am)(p s:Int):Nat:=es.countP fun e=>e.CB==p&&e.side==s
def uses (js:List aj)(p s:Int):Nat:=bX (js.flatMap (·.ends)) p s
theorem qW (es:List am)(p s:Int):bX es p s<=es.length:=List.countP_le_length
theorem uN (es:List am)(p s:Int)(k:Nat)(h:k<es.length):bX (es.take (k+1)) p s=bX (es.take k) p s+if (es[k].CB==p&&es[k].side==s)=true then 1 else 0:=by
 unfold bX;rw [List.take_succ_eq_append_getElem h,List.countP_append,List.countP_singleton]
theorem zR (js:List aj)(p s:Int)(k:Nat)(h:k<js.length):uses (js.take (k+1)) p s=uses (js.take k) p s+bX js[k].ends p s:=by
 unfold uses bX;rw [List.take_succ_eq_append_getElem h,List.flatMap_append,List.countP_append];simp
def gN (js:List aj):Nat:=(js.flatMap (·.ends)).length
theorem BG (js:List aj)(p s:Int)(k:Nat):uses (js.take k) p s<=gN js:=by
 unfold uses gN;refine Nat.le_trans (qW _ p s) ?_;have:(js.flatMap (·.ends))=(js.take k).flatMap (·.ends)++(js.drop k).flatMap (·.ends):=by
  rw [<-List.flatMap_append,List.take_append_drop]
 rw [this];simp
def ok3 (np:Nat)(j:aj):Bool:=inB j.kind 1 4&&((j.ends.length:Int)==j.kind)&&j.ends.all fun e=>cV np e.CB e.side
def er (dA:List ByteArray)(s:ByteArray):Bool:=dA.any fun t=>decide (t=s)
def dA (js:List aj):List ByteArray:=js.map (·.name)
def ok4 (js:List aj)(i:Nat)(j:aj):Bool:=if j.kind<3 then decide (j.name=⟨#[]⟩) else cr j.name && !er (dA (js.take i)) j.name
def cX (js:List aj)(np i:Nat)(j:aj):Int:=if ok3 np j=false then 3 else if ok4 js i j=false then 4 else 0
theorem yC (h:inB j.kind 1 4=false):cX js np i j=3:=by simp [cX,ok3,h]
theorem zv (h:((j.ends.length:Int)==j.kind)=false):cX js np i j=3:=by simp only [cX,ok3,h];simp
theorem zr (m:Nat)(hm:m<j.ends.length)(h:cV np j.ends[m].CB j.ends[m].side=false):cX js np i j=3:=by
 have:(j.ends.all fun e=>cV np e.CB e.side)=false:=List.all_eq_false.2 ⟨_,List.getElem_mem hm,by simp [h]⟩
 simp only [cX,ok3,this];simp
theorem ng (h1:inB j.kind 1 4=true)(h2:((j.ends.length:Int)==j.kind)=true)(h3:∀ m (hm:m<j.ends.length),cV np j.ends[m].CB j.ends[m].side=true):ok3 np j=true:=by
 have:(j.ends.all fun e=>cV np e.CB e.side)=true:=by
  rw [List.all_eq_true];intro e he;obtain ⟨m,hm,rfl⟩:=List.getElem_of_mem he;exact h3 m hm
 simp only [ok3,h1,h2,this];simp
theorem zd (h:ok3 np j=true)(hk:j.kind<3)(hn:j.name≠⟨#[]⟩):cX js np i j=4:=by
 simp [cX,h,ok4,hk,hn]
theorem zK (h:ok3 np j=true)(hk:j.kind<3)(hn:j.name=⟨#[]⟩):cX js np i j=0:=by
 simp [cX,h,ok4,hk,hn]
theorem yF (h:ok3 np j=true)(hk:¬ j.kind<3)(hn:cr j.name=false):cX js np i j=4:=by
 simp [cX,h,ok4,hk,hn]
theorem xS (hm:m<i)(hi:m<js.length)(h:js[m].name=s):er (dA (js.take i)) s=true:=by
 unfold er dA;rw [List.any_eq_true];refine ⟨js[m].name,?_,by simp [h]⟩
 rw [List.mem_map];refine ⟨js[m],?_,rfl⟩;rw [List.mem_take_iff_getElem];exact ⟨m,CG,rfl⟩
theorem uA (h:∀ m (hm:m<js.length),m<i->js[m].name≠s):er (dA (js.take i)) s=false:=by
 unfold er dA;rw [List.any_eq_false];intro t ht;rw [List.mem_map] at ht;obtain ⟨j,hj,rfl⟩:=ht;rw [List.mem_take_iff_getElem] at hj;obtain ⟨m,hm,rfl⟩:=hj;have:=h m CG CG
 simpa using this
theorem zn (h:ok3 np j=true)(hk:¬ j.kind<3)(hn:er (dA (js.take i)) j.name=true):cX js np i j=4:=by
 simp [cX,h,ok4,hk,hn]
theorem yP (h:ok3 np j=true)(hk:¬ j.kind<3)(hn:cr j.name=true)(ha:er (dA (js.take i)) j.name=false):cX js np i j=0:=by
 simp [cX,h,ok4,hk,hn,ha]
def cN (ps:List af):List ByteArray:=ps.map (·.name)
def okP (ps:List af)(i:Nat)(p:af):Bool:=cM p.name p.len p.CD p.CC && !er (cN (ps.take i)) p.name
def dX (ps:List af)(i:Nat):Bool:=match ps[i]? with | some p => !okP ps i p | none=>false
def eA (np:Nat)(js:List aj)(i:Nat):Bool:=match js[i]? with | some j => !ok3 np j | none=>false
def eI (js:List aj)(i:Nat):Bool:=match js[i]? with | some j => !ok4 js i j | none=>false
def ew (js:List aj)(i:Nat):Bool := !(decide (uses js i 0=1)&&decide (uses js i 1=1))
theorem gP (h:i<ps.length):dX ps i = !okP ps i ps[i]:=by simp [dX,h]
theorem gx (h:i<js.length):eA np js i = !ok3 np js[i]:=by simp [eA,h]
theorem lY (h:i<js.length):eI js i = !ok4 js i js[i]:=by simp [eI,h]
theorem wH {js:List af}(hm:m<i)(hi:m<js.length)(h:js[m].name=s):er (cN (js.take i)) s=true:=by
 unfold er cN;rw [List.any_eq_true];refine ⟨js[m].name,?_,by simp [h]⟩
 rw [List.mem_map];refine ⟨js[m],?_,rfl⟩;rw [List.mem_take_iff_getElem];exact ⟨m,CG,rfl⟩
theorem uY {js:List af}(h:∀ m (hm:m<js.length),m<i->js[m].name≠s):er (cN (js.take i)) s=false:=by
 unfold er cN;rw [List.any_eq_false];intro t ht;rw [List.mem_map] at ht;obtain ⟨j,hj,rfl⟩:=ht;rw [List.mem_take_iff_getElem] at hj;obtain ⟨m,hm,rfl⟩:=hj;have:=h m CG CG
 simpa using this
def dt (ps:List af)(js:List aj):Int × Int:=
 if dR ps.length js.length=false then (1,0)
 else if 0<=bh (dX ps) ps.length then (2,bh (dX ps) ps.length)
 else if 0<=bh (eA ps.length js) js.length then (3,bh (eA ps.length js) js.length)
 else if 0<=bh (eI js) js.length then (4,bh (eI js) js.length)
 else if 0<=bh (ew js) ps.length then (5,bh (ew js) ps.length)
 else (0,0)
section
variable {ps:List af} {js:List aj}
theorem tF (h:dR ps.length js.length=false):dt ps js=(1,0):=by simp [dt,h]
theorem qr (h:dR ps.length js.length=true){i:Nat}(hi:i<ps.length)(hb:dX ps i=true)(hk:∀ k,k<i->dX ps k=false):dt ps js=(2,(i:Int)):=by
 have e:=co hi hb hk;unfold dt;rw [h,if_neg CI,e,if_pos CG]
theorem zz (h:dR ps.length js.length=true)(h2:∀ k,k<ps.length->dX ps k=false){i:Nat}(hi:i<js.length)(hb:eA ps.length js i=true)(hk:∀ k,k<i->eA ps.length js k=false):dt ps js=(3,(i:Int)):=by
 have e:=co hi hb hk;unfold dt;rw [h,if_neg CI,a8 h2,if_neg CG,e,if_pos CG]
theorem yB (h:dR ps.length js.length=true)(h2:∀ k,k<ps.length->dX ps k=false)(h3:∀ k,k<js.length->eA ps.length js k=false){i:Nat}(hi:i<js.length)(hb:eI js i=true)(hk:∀ k,k<i->eI js k=false):dt ps js=(4,(i:Int)):=by
 have e:=co hi hb hk;unfold dt;rw [h,if_neg CI,a8 h2,if_neg CG,a8 h3,if_neg CG,e,if_pos CG]
theorem up (h:dR ps.length js.length=true)(h2:∀ k,k<ps.length->dX ps k=false)(h3:∀ k,k<js.length->eA ps.length js k=false)(h4:∀ k,k<js.length->eI js k=false){i:Nat}(hi:i<ps.length)(hb:ew js i=true)(hk:∀ k,k<i->ew js k=false):dt ps js=(5,(i:Int)):=by
 have e:=co hi hb hk;unfold dt;rw [h,if_neg CI,a8 h2,if_neg CG,a8 h3,if_neg CG,a8 h4,if_neg CG,e,if_pos CG]
theorem yJ (h:dR ps.length js.length=true)(h2:∀ k,k<ps.length->dX ps k=false)(h3:∀ k,k<js.length->eA ps.length js k=false)(h4:∀ k,k<js.length->eI js k=false)(h5:∀ k,k<ps.length->ew js k=false):dt ps js=(0,0):=by
 unfold dt;rw [h,if_neg CI,a8 h2,if_neg CG,a8 h3,if_neg CG,a8 h4,if_neg CG,a8 h5,if_neg CG]
end
theorem ny (np:Nat):∀ (js:List aj),(∀ j,j ∈ js->ok3 np j=true)->gN js<=4*js.length
 | [],_=>by simp [gN]
 | j::r,h=>by
  have h1:=h j List.mem_cons_self;have h2:=ny np r (fun x hx=>h x (List.mem_cons_of_mem _ hx))
  have h3:j.ends.length<=4:=by
   unfold ok3 inB at h1;simp at h1;omega
  unfold gN at h2 ⊢;simp only [List.flatMap_cons,List.length_append,List.length_cons];omega
def sQ (ps:List af)(i:Int):Int:=match ps[i.toNat]? with | some p=>p.len | none=>0
theorem lK {k:Nat}(h:k<ps.length):sQ ps (k:Int)=ps[k].len:=by simp [sQ,h]
def jU (x:Int):Bool:=(x==1) || (x == -1)
def eD (ps:List af)(s:ByteArray)(pi pl wy:Int):Bool:=cr s&&inB pi 0 ((ps.length:Int)-1)&&jU wy&&inB pl 1 (sQ ps pi-1)
def jM (ps:List af)(s:af):Bool:=eD ps s.name s.len s.CD s.CC
def fx (ps ss:List af)(i:Nat):Bool:=match ss[i]? with | some s => !jM ps s | none=>false
def jI (a b:af):Bool:=decide (a.name=b.name) || (a.len==b.len&&a.CD==b.CD&&a.CC==b.CC)
def fe (ss:List af)(i:Nat)(s:af):Bool:=(ss.take i).any fun a=>jI a s
def gq (ss:List af)(i:Nat):Bool:=match ss[i]? with | some s=>fe ss i s | none=>false
theorem i4 (h:i<ss.length):fx ps ss i = !jM ps ss[i]:=by simp [fx,h]
theorem lW (h:i<ss.length):gq ss i=fe ss i ss[i]:=by simp [gq,h]
theorem uK {s:af}(hm:m<i)(hi:m<ss.length)(h:jI ss[m] s=true):fe ss i s=true:=by
 unfold fe;rw [List.any_eq_true];refine ⟨ss[m],?_,h⟩;rw [List.mem_take_iff_getElem];exact ⟨m,CG,rfl⟩
theorem uk {s:af}(h:∀ m (hm:m<ss.length),m<i->jI ss[m] s=false):fe ss i s=false:=by
 unfold fe;rw [List.any_eq_false];intro t ht;rw [List.mem_take_iff_getElem] at ht;obtain ⟨m,hm,rfl⟩:=ht;rw [h m CG CG]
 simp
def cE (ps:List af)(js:List aj)(ss:List af):Int × Int:=
 if dt ps js=(0,0) then
  if 60<ss.length then (2,0)
  else if 0<=bh (fx ps ss) ss.length then (3,bh (fx ps ss) ss.length)
  else if 0<=bh (gq ss) ss.length then (4,bh (gq ss) ss.length)
  else (0,0)
 else (1,0)
theorem rz (ps:List af)(js:List aj):dt ps js=(0,0)\/((dt ps js).1==0)=false:=by
 unfold dt
 repeat' split
 all_goals first | (left;rfl) | (right;rfl)
section
variable {ps ss:List af} {js:List aj}
theorem uf (h:dt ps js≠(0,0)):cE ps js ss=(1,0):=by simp [cE,h]
theorem zo (h:dt ps js=(0,0))(h2:60<ss.length):cE ps js ss=(2,0):=by simp [cE,h,h2]
theorem yV (h:dt ps js=(0,0))(h2:¬ 60<ss.length){i:Nat}(hi:i<ss.length)(hb:fx ps ss i=true)(hk:∀ k,k<i->fx ps ss k=false):cE ps js ss=(3,(i:Int)):=by
 have e:=co hi hb hk;unfold cE;rw [if_pos h,if_neg h2,e,if_pos CG]
theorem yT (h:dt ps js=(0,0))(h2:¬ 60<ss.length)(h3:∀ k,k<ss.length->fx ps ss k=false){i:Nat}(hi:i<ss.length)(hb:gq ss i=true)(hk:∀ k,k<i->gq ss k=false):cE ps js ss=(4,(i:Int)):=by
 have e:=co hi hb hk;unfold cE;rw [if_pos h,if_neg h2,a8 h3,if_neg CG,e,if_pos CG]
theorem zH (h:dt ps js=(0,0))(h2:¬ 60<ss.length)(h3:∀ k,k<ss.length->fx ps ss k=false)(h4:∀ k,k<ss.length->gq ss k=false):cE ps js ss=(0,0):=by
 unfold cE;rw [if_pos h,if_neg h2,a8 h3,if_neg CG,a8 h4,if_neg CG]
end
theorem mu (h:dt ps js=(0,0)):ps.length<=100/\∀ k (hk:k<ps.length),1<=ps[k].len/\ps[k].len<=10000000:=by
 cases hs:dR ps.length js.length
 ·rw [tF hs] at h;simp at h
 ·refine ⟨?_,fun k hk=>?_⟩
  ·unfold dR at hs;simp at hs;omega
  ·rcases hH (dX ps) ps.length with ⟨_,h2⟩ | ⟨i,hi,_,hb,hm⟩
   ·have h3:=h2 k hk;rw [gP hk] at h3;simp [okP,cM,inB] at h3;omega
   ·rw [qr hs hi hb hm] at h;simp at h
theorem uq (h:cr s=false):eD ps s pi pl wy=false:=by simp [eD,h]
theorem tC (h:inB pi 0 ((ps.length:Int)-1)=false):eD ps s pi pl wy=false:=by simp [eD,h]
theorem tX (h:jU wy=false):eD ps s pi pl wy=false:=by simp [eD,h]
theorem uh (h1:cr s=true)(h2:inB pi 0 ((ps.length:Int)-1)=true)(h3:jU wy=true):eD ps s pi pl wy=inB pl 1 (sQ ps pi-1):=by simp [eD,h1,h2,h3]
theorem uO {s:af}(hps:ps.length<=100)(hpl:∀ k (hk:k<ps.length),1<=ps[k].len/\ps[k].len<=10000000)(h:jM ps s=true):
  0<=s.len/\s.len<=100/\0<=s.CD/\s.CD<=10000000 /\ -1<=s.CC/\s.CC<=1:=by
 unfold jM eD at h;simp only [Bool.and_eq_true] at h;obtain ⟨⟨⟨_,h2⟩,h3⟩,h4⟩:=h;unfold inB at h2 h4;unfold jU at h3;simp at h2 h3 h4;obtain ⟨k,hk⟩:=Int.eq_ofNat_of_zero_le h2.1;have a:k<ps.length:=CG
 rw [hk,lK a] at h4;have:=hpl k a;omega
end Go.Proofs.YtmkdgnmmebldgaaGreatDoor
