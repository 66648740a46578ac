import Derived.Test.YtmkdgnmmebldgaaGreatDoorPt1
set_option maxRecDepth 100000
set_option maxHeartbeats 8000000
namespace Go.Proofs.YtmkdgnmmebldgaaGreatDoor
open Go.RowKit
theorem hidQ {p:Prop}(h:p):Hid p:=h
def firstBad (bad:Nat→Bool)(n:Nat):Int:=
 match (List.range n).find? bad with
 | some i=>i
 | none => -1
theorem firstBad_none {bad:Nat→Bool}{n:Nat}(h:∀ i,i<n→bad i=false):firstBad bad n = -1:=by
 have e:(List.range n).find? bad=none:=by
  rw [List.find?_eq_none]
  intro i hi
  rw [h i (List.mem_range.1 hi)]
  simp
 simp [firstBad,e]
theorem find_first {bad:Nat→Bool}:∀ (n i:Nat),i<n→bad i=true→(∀ k,k<i→bad k=false)→(List.range n).find? bad=some i
 | 0,i,h,_,_=>absurd h (Nat.not_lt_zero i)
 | n+1,i,h,hb,hk=>by
  rw [List.range_succ,List.find?_append]
  by_cases e:i<n
  ·rw [find_first n i e hb hk];rfl
  ·have:i=n:=by omega
   subst this
   have:(List.range i).find? bad=none:=by
    rw [List.find?_eq_none]
    intro j hj
    rw [hk j (List.mem_range.1 hj)]
    simp
   rw [this]
   simp [hb]
theorem firstBad_hit {bad:Nat→Bool}{n i:Nat}(h:i<n)(hb:bad i=true)(hk:∀ k,k<i→bad k=false):firstBad bad n=i:=by
 simp [firstBad,find_first n i h hb hk]
theorem firstBad_cases (bad:Nat→Bool)(n:Nat):(firstBad bad n = -1∧∀ i,i<n→bad i=false)∨∃ i,i<n∧firstBad bad n=(i:Int)∧bad i=true∧∀ k,k<i→bad k=false:=by
 induction n with
 | zero=>exact Or.inl ⟨rfl,fun i h=>absurd h (Nat.not_lt_zero i)⟩
 | succ n ih =>
  rcases ih with ⟨_,h⟩ | ⟨i,hi,_,hb,hk⟩
  ·cases hb:bad n
   ·have h':∀ i,i<n+1→bad i=false:=by
     intro i hi
     by_cases e:i<n
     ·exact h i e
     ·have:i=n:=by omega
      subst this;exact hb
    exact Or.inl ⟨firstBad_none h',h'⟩
   ·exact Or.inr ⟨n,by omega,firstBad_hit (by omega) hb h,hb,h⟩
  ·exact Or.inr ⟨i,by omega,firstBad_hit (by omega) hb hk,hb,hk⟩
def usesIn (es:List MEnd)(p s:Int):Nat:=es.countP fun e=>e.piece==p&&e.side==s
def uses (js:List MJoint)(p s:Int):Nat:=usesIn (js.flatMap (·.ends)) p s
theorem usesIn_le (es:List MEnd)(p s:Int):usesIn es p s≤es.length:=List.countP_le_length
theorem usesIn_succ (es:List MEnd)(p s:Int)(k:Nat)(h:k<es.length):usesIn (es.take (k+1)) p s=usesIn (es.take k) p s+if (es[k].piece==p&&es[k].side==s)=true then 1 else 0:=by
 unfold usesIn
 rw [List.take_succ_eq_append_getElem h,List.countP_append,List.countP_singleton]
theorem uses_succ (js:List MJoint)(p s:Int)(k:Nat)(h:k<js.length):uses (js.take (k+1)) p s=uses (js.take k) p s+usesIn js[k].ends p s:=by
 unfold uses usesIn
 rw [List.take_succ_eq_append_getElem h,List.flatMap_append,List.countP_append]
 simp
def endsNo (js:List MJoint):Nat:=(js.flatMap (·.ends)).length
theorem uses_le (js:List MJoint)(p s:Int)(k:Nat):uses (js.take k) p s≤endsNo js:=by
 unfold uses endsNo
 refine Nat.le_trans (usesIn_le _ p s) ?_
 have:(js.flatMap (·.ends))=(js.take k).flatMap (·.ends)++(js.drop k).flatMap (·.ends):=by
  rw [← List.flatMap_append,List.take_append_drop]
 rw [this];simp
def ok3 (np:Nat)(j:MJoint):Bool:=inB j.kind 1 4&&((j.ends.length:Int)==j.kind)&&j.ends.all fun e=>endB np e.piece e.side
def aheadB (names:List ByteArray)(s:ByteArray):Bool:=names.any fun t=>decide (t=s)
def names (js:List MJoint):List ByteArray:=js.map (·.name)
def ok4 (js:List MJoint)(i:Nat)(j:MJoint):Bool:=if j.kind<3 then decide (j.name=⟨#[]⟩) else nameB j.name && !aheadB (names (js.take i)) j.name
def jointC (js:List MJoint)(np i:Nat)(j:MJoint):Int:=if ok3 np j=false then 3 else if ok4 js i j=false then 4 else 0
theorem jointC_3a {js:List MJoint}{np i:Nat}{j:MJoint}(h:inB j.kind 1 4=false):jointC js np i j=3:=by simp [jointC,ok3,h]
theorem jointC_3b {js:List MJoint}{np i:Nat}{j:MJoint}(h:((j.ends.length:Int)==j.kind)=false):jointC js np i j=3:=by simp only [jointC,ok3,h];simp
theorem jointC_3c {js:List MJoint}{np i:Nat}{j:MJoint}(m:Nat)(hm:m<j.ends.length)(h:endB np j.ends[m].piece j.ends[m].side=false):jointC js np i j=3:=by
 have:(j.ends.all fun e=>endB np e.piece e.side)=false:=List.all_eq_false.2 ⟨_,List.getElem_mem hm,by simp [h]⟩
 simp only [jointC,ok3,this];simp
theorem ok3_of {np:Nat}{j:MJoint}(h1:inB j.kind 1 4=true)(h2:((j.ends.length:Int)==j.kind)=true)(h3:∀ m (hm:m<j.ends.length),endB np j.ends[m].piece j.ends[m].side=true):ok3 np j=true:=by
 have:(j.ends.all fun e=>endB np e.piece e.side)=true:=by
  rw [List.all_eq_true]
  intro e he
  obtain ⟨m,hm,rfl⟩:=List.getElem_of_mem he
  exact h3 m hm
 simp only [ok3,h1,h2,this];simp
theorem jointC_4a {js:List MJoint}{np i:Nat}{j:MJoint}(h:ok3 np j=true)(hk:j.kind<3)(hn:j.name≠⟨#[]⟩):jointC js np i j=4:=by
 simp [jointC,h,ok4,hk,hn]
theorem jointC_0a {js:List MJoint}{np i:Nat}{j:MJoint}(h:ok3 np j=true)(hk:j.kind<3)(hn:j.name=⟨#[]⟩):jointC js np i j=0:=by
 simp [jointC,h,ok4,hk,hn]
theorem jointC_4b {js:List MJoint}{np i:Nat}{j:MJoint}(h:ok3 np j=true)(hk:¬ j.kind<3)(hn:nameB j.name=false):jointC js np i j=4:=by
 simp [jointC,h,ok4,hk,hn]
theorem aheadB_hit {js:List MJoint}{i m:Nat}{s:ByteArray}(hm:m<i)(hi:m<js.length)(h:js[m].name=s):aheadB (names (js.take i)) s=true:=by
 unfold aheadB names
 rw [List.any_eq_true]
 refine ⟨js[m].name,?_,by simp [h]⟩
 rw [List.mem_map]
 refine ⟨js[m],?_,rfl⟩
 rw [List.mem_take_iff_getElem]
 exact ⟨m,by omega,rfl⟩
theorem aheadB_none {js:List MJoint}{i:Nat}{s:ByteArray}(h:∀ m (hm:m<js.length),m<i→js[m].name≠s):aheadB (names (js.take i)) s=false:=by
 unfold aheadB names
 rw [List.any_eq_false]
 intro t ht
 rw [List.mem_map] at ht
 obtain ⟨j,hj,rfl⟩:=ht
 rw [List.mem_take_iff_getElem] at hj
 obtain ⟨m,hm,rfl⟩:=hj
 have:=h m (by omega) (by omega)
 simpa using this
theorem jointC_4c {js:List MJoint}{np i:Nat}{j:MJoint}(h:ok3 np j=true)(hk:¬ j.kind<3)(hn:aheadB (names (js.take i)) j.name=true):jointC js np i j=4:=by
 simp [jointC,h,ok4,hk,hn]
theorem jointC_0b {js:List MJoint}{np i:Nat}{j:MJoint}(h:ok3 np j=true)(hk:¬ j.kind<3)(hn:nameB j.name=true)(ha:aheadB (names (js.take i)) j.name=false):jointC js np i j=0:=by
 simp [jointC,h,ok4,hk,hn,ha]
def namesP (ps:List MPiece):List ByteArray:=ps.map (·.name)
def okP (ps:List MPiece)(i:Nat)(p:MPiece):Bool:=pieceB p.name p.len p.speed p.brake && !aheadB (namesP (ps.take i)) p.name
def badPi (ps:List MPiece)(i:Nat):Bool:=match ps[i]? with | some p => !okP ps i p | none=>false
def bad3i (np:Nat)(js:List MJoint)(i:Nat):Bool:=match js[i]? with | some j => !ok3 np j | none=>false
def bad4i (js:List MJoint)(i:Nat):Bool:=match js[i]? with | some j => !ok4 js i j | none=>false
def bad5i (js:List MJoint)(i:Nat):Bool := !(decide (uses js i 0=1)&&decide (uses js i 1=1))
theorem badPi_at {ps:List MPiece}{i:Nat}(h:i<ps.length):badPi ps i = !okP ps i ps[i]:=by simp [badPi,h]
theorem bad3i_at {np:Nat}{js:List MJoint}{i:Nat}(h:i<js.length):bad3i np js i = !ok3 np js[i]:=by simp [bad3i,h]
theorem bad4i_at {js:List MJoint}{i:Nat}(h:i<js.length):bad4i js i = !ok4 js i js[i]:=by simp [bad4i,h]
theorem aheadP_hit {js:List MPiece}{i m:Nat}{s:ByteArray}(hm:m<i)(hi:m<js.length)(h:js[m].name=s):aheadB (namesP (js.take i)) s=true:=by
 unfold aheadB namesP
 rw [List.any_eq_true]
 refine ⟨js[m].name,?_,by simp [h]⟩
 rw [List.mem_map]
 refine ⟨js[m],?_,rfl⟩
 rw [List.mem_take_iff_getElem]
 exact ⟨m,by omega,rfl⟩
theorem aheadP_none {js:List MPiece}{i:Nat}{s:ByteArray}(h:∀ m (hm:m<js.length),m<i→js[m].name≠s):aheadB (namesP (js.take i)) s=false:=by
 unfold aheadB namesP
 rw [List.any_eq_false]
 intro t ht
 rw [List.mem_map] at ht
 obtain ⟨j,hj,rfl⟩:=ht
 rw [List.mem_take_iff_getElem] at hj
 obtain ⟨m,hm,rfl⟩:=hj
 have:=h m (by omega) (by omega)
 simpa using this
def netF (ps:List MPiece)(js:List MJoint):Int × Int:=
 if sizeB ps.length js.length=false then (1,0)
 else if 0≤firstBad (badPi ps) ps.length then (2,firstBad (badPi ps) ps.length)
 else if 0≤firstBad (bad3i ps.length js) js.length then (3,firstBad (bad3i ps.length js) js.length)
 else if 0≤firstBad (bad4i js) js.length then (4,firstBad (bad4i js) js.length)
 else if 0≤firstBad (bad5i js) ps.length then (5,firstBad (bad5i js) ps.length)
 else (0,0)
section
variable {ps:List MPiece} {js:List MJoint}
theorem netF_1 (h:sizeB ps.length js.length=false):netF ps js=(1,0):=by simp [netF,h]
theorem netF_2 (h:sizeB ps.length js.length=true){i:Nat}(hi:i<ps.length)(hb:badPi ps i=true)(hk:∀ k,k<i→badPi ps k=false):netF ps js=(2,(i:Int)):=by
 have e:=firstBad_hit hi hb hk
 unfold netF
 rw [h,if_neg (by simp),e,if_pos (by omega)]
theorem netF_3 (h:sizeB ps.length js.length=true)(h2:∀ k,k<ps.length→badPi ps k=false){i:Nat}(hi:i<js.length)(hb:bad3i ps.length js i=true)(hk:∀ k,k<i→bad3i ps.length js k=false):netF ps js=(3,(i:Int)):=by
 have e:=firstBad_hit hi hb hk
 unfold netF
 rw [h,if_neg (by simp),firstBad_none h2,if_neg (by omega),e,if_pos (by omega)]
theorem netF_4 (h:sizeB ps.length js.length=true)(h2:∀ k,k<ps.length→badPi ps k=false)(h3:∀ k,k<js.length→bad3i ps.length js k=false){i:Nat}(hi:i<js.length)(hb:bad4i js i=true)(hk:∀ k,k<i→bad4i js k=false):netF ps js=(4,(i:Int)):=by
 have e:=firstBad_hit hi hb hk
 unfold netF
 rw [h,if_neg (by simp),firstBad_none h2,if_neg (by omega),firstBad_none h3,if_neg (by omega),e,if_pos (by omega)]
theorem netF_5 (h:sizeB ps.length js.length=true)(h2:∀ k,k<ps.length→badPi ps k=false)(h3:∀ k,k<js.length→bad3i ps.length js k=false)(h4:∀ k,k<js.length→bad4i js k=false){i:Nat}(hi:i<ps.length)(hb:bad5i js i=true)(hk:∀ k,k<i→bad5i js k=false):netF ps js=(5,(i:Int)):=by
 have e:=firstBad_hit hi hb hk
 unfold netF
 rw [h,if_neg (by simp),firstBad_none h2,if_neg (by omega),firstBad_none h3,if_neg (by omega),firstBad_none h4,if_neg (by omega),e,if_pos (by omega)]
theorem netF_0 (h:sizeB ps.length js.length=true)(h2:∀ k,k<ps.length→badPi ps k=false)(h3:∀ k,k<js.length→bad3i ps.length js k=false)(h4:∀ k,k<js.length→bad4i js k=false)(h5:∀ k,k<ps.length→bad5i js k=false):netF ps js=(0,0):=by
 unfold netF
 rw [h,if_neg (by simp),firstBad_none h2,if_neg (by omega),firstBad_none h3,if_neg (by omega),firstBad_none h4,if_neg (by omega),firstBad_none h5,if_neg (by omega)]
end
theorem endsNo_le (np:Nat):∀ (js:List MJoint),(∀ j,j ∈ js→ok3 np j=true)→endsNo js≤4*js.length
 | [],_=>by simp [endsNo]
 | j::r,h=>by
  have h1:=h j List.mem_cons_self
  have h2:=endsNo_le np r (fun x hx=>h x (List.mem_cons_of_mem _ hx))
  have h3:j.ends.length≤4:=by
   unfold ok3 inB at h1
   simp at h1
   omega
  unfold endsNo at h2 ⊢
  simp only [List.flatMap_cons,List.length_append,List.length_cons]
  omega
def lenAt (ps:List MPiece)(i:Int):Int:=match ps[i.toNat]? with | some p=>p.len | none=>0
theorem lenAt_at {ps:List MPiece}{k:Nat}(h:k<ps.length):lenAt ps (k:Int)=ps[k].len:=by simp [lenAt,h]
def wayB (x:Int):Bool:=(x==1) || (x == -1)
def okSigC (ps:List MPiece)(s:ByteArray)(pi pl wy:Int):Bool:=nameB s&&inB pi 0 ((ps.length:Int)-1)&&wayB wy&&inB pl 1 (lenAt ps pi-1)
def okSig (ps:List MPiece)(s:MPiece):Bool:=okSigC ps s.name s.len s.speed s.brake
def badS3 (ps ss:List MPiece)(i:Nat):Bool:=match ss[i]? with | some s => !okSig ps s | none=>false
def same4 (a b:MPiece):Bool:=decide (a.name=b.name) || (a.len==b.len&&a.speed==b.speed&&a.brake==b.brake)
def beforeB (ss:List MPiece)(i:Nat)(s:MPiece):Bool:=(ss.take i).any fun a=>same4 a s
def badS4 (ss:List MPiece)(i:Nat):Bool:=match ss[i]? with | some s=>beforeB ss i s | none=>false
theorem badS3_at {ps ss:List MPiece}{i:Nat}(h:i<ss.length):badS3 ps ss i = !okSig ps ss[i]:=by simp [badS3,h]
theorem badS4_at {ss:List MPiece}{i:Nat}(h:i<ss.length):badS4 ss i=beforeB ss i ss[i]:=by simp [badS4,h]
theorem beforeB_hit {ss:List MPiece}{i m:Nat}{s:MPiece}(hm:m<i)(hi:m<ss.length)(h:same4 ss[m] s=true):beforeB ss i s=true:=by
 unfold beforeB
 rw [List.any_eq_true]
 refine ⟨ss[m],?_,h⟩
 rw [List.mem_take_iff_getElem]
 exact ⟨m,by omega,rfl⟩
theorem beforeB_none {ss:List MPiece}{i:Nat}{s:MPiece}(h:∀ m (hm:m<ss.length),m<i→same4 ss[m] s=false):beforeB ss i s=false:=by
 unfold beforeB
 rw [List.any_eq_false]
 intro t ht
 rw [List.mem_take_iff_getElem] at ht
 obtain ⟨m,hm,rfl⟩:=ht
 rw [h m (by omega) (by omega)]
 simp
def sigF (ps:List MPiece)(js:List MJoint)(ss:List MPiece):Int × Int:=
 if netF ps js=(0,0) then
  if 60<ss.length then (2,0)
  else if 0≤firstBad (badS3 ps ss) ss.length then (3,firstBad (badS3 ps ss) ss.length)
  else if 0≤firstBad (badS4 ss) ss.length then (4,firstBad (badS4 ss) ss.length)
  else (0,0)
 else (1,0)
theorem netF_code (ps:List MPiece)(js:List MJoint):netF ps js=(0,0)∨((netF ps js).1==0)=false:=by
 unfold netF
 repeat' split
 all_goals first | (left;rfl) | (right;rfl)
section
variable {ps ss:List MPiece} {js:List MJoint}
theorem sigF_1 (h:netF ps js≠(0,0)):sigF ps js ss=(1,0):=by simp [sigF,h]
theorem sigF_2 (h:netF ps js=(0,0))(h2:60<ss.length):sigF ps js ss=(2,0):=by simp [sigF,h,h2]
theorem sigF_3 (h:netF ps js=(0,0))(h2:¬ 60<ss.length){i:Nat}(hi:i<ss.length)(hb:badS3 ps ss i=true)(hk:∀ k,k<i→badS3 ps ss k=false):sigF ps js ss=(3,(i:Int)):=by
 have e:=firstBad_hit hi hb hk
 unfold sigF
 rw [if_pos h,if_neg h2,e,if_pos (by omega)]
theorem sigF_4 (h:netF ps js=(0,0))(h2:¬ 60<ss.length)(h3:∀ k,k<ss.length→badS3 ps ss k=false){i:Nat}(hi:i<ss.length)(hb:badS4 ss i=true)(hk:∀ k,k<i→badS4 ss k=false):sigF ps js ss=(4,(i:Int)):=by
 have e:=firstBad_hit hi hb hk
 unfold sigF
 rw [if_pos h,if_neg h2,firstBad_none h3,if_neg (by omega),e,if_pos (by omega)]
theorem sigF_0 (h:netF ps js=(0,0))(h2:¬ 60<ss.length)(h3:∀ k,k<ss.length→badS3 ps ss k=false)(h4:∀ k,k<ss.length→badS4 ss k=false):sigF ps js ss=(0,0):=by
 unfold sigF
 rw [if_pos h,if_neg h2,firstBad_none h3,if_neg (by omega),firstBad_none h4,if_neg (by omega)]
end
theorem net_ok_pieces {ps:List MPiece}{js:List MJoint}(h:netF ps js=(0,0)):ps.length≤100∧∀ k (hk:k<ps.length),1≤ps[k].len∧ps[k].len≤10000000:=by
 cases hs:sizeB ps.length js.length
 ·rw [netF_1 hs] at h
  simp at h
 ·refine ⟨?_,fun k hk=>?_⟩
  ·unfold sizeB at hs
   simp at hs
   omega
  ·rcases firstBad_cases (badPi ps) ps.length with ⟨_,h2⟩ | ⟨i,hi,_,hb,hm⟩
   ·have h3:=h2 k hk
    rw [badPi_at hk] at h3
    simp [okP,pieceB,inB] at h3
    omega
   ·rw [netF_2 hs hi hb hm] at h
    simp at h
theorem okSigC_1 {ps:List MPiece}{s:ByteArray}{pi pl wy:Int}(h:nameB s=false):okSigC ps s pi pl wy=false:=by simp [okSigC,h]
theorem okSigC_2 {ps:List MPiece}{s:ByteArray}{pi pl wy:Int}(h:inB pi 0 ((ps.length:Int)-1)=false):okSigC ps s pi pl wy=false:=by simp [okSigC,h]
theorem okSigC_3 {ps:List MPiece}{s:ByteArray}{pi pl wy:Int}(h:wayB wy=false):okSigC ps s pi pl wy=false:=by simp [okSigC,h]
theorem okSigC_4 {ps:List MPiece}{s:ByteArray}{pi pl wy:Int}(h1:nameB s=true)(h2:inB pi 0 ((ps.length:Int)-1)=true)(h3:wayB wy=true):okSigC ps s pi pl wy=inB pl 1 (lenAt ps pi-1):=by simp [okSigC,h1,h2,h3]
theorem okSig_range {ps:List MPiece}{s:MPiece}(hps:ps.length≤100)(hpl:∀ k (hk:k<ps.length),1≤ps[k].len∧ps[k].len≤10000000)(h:okSig ps s=true):
  0≤s.len∧s.len≤100∧0≤s.speed∧s.speed≤10000000 ∧ -1≤s.brake∧s.brake≤1:=by
 unfold okSig okSigC at h
 simp only [Bool.and_eq_true] at h
 obtain ⟨⟨⟨_,h2⟩,h3⟩,h4⟩:=h
 unfold inB at h2 h4
 unfold wayB at h3
 simp at h2 h3 h4
 obtain ⟨k,hk⟩:=Int.eq_ofNat_of_zero_le h2.1
 have hkl:k<ps.length:=by omega
 rw [hk,lenAt_at hkl] at h4
 have:=hpl k hkl
 omega
end Go.Proofs.YtmkdgnmmebldgaaGreatDoor
