import Derived.Test.YtmkdgnmmebldgaaGreatDoorPw44
import Derived.Test.YtmkdgnmmebldgaaGreatDoorPt5
import Derived.Test.YtmkdgnmmebldgaaGreatDoorPt14
import Derived.Laws.ShiftsVarLaws
import Derived.Laws.IdiomStrings
import Derived.Test.YtmkdgnmmebldgaaGreatDoorPt16
import Derived.Test.YtmkdgnmmebldgaaGreatDoorPt18
set_option maxRecDepth 100000
set_option maxHeartbeats 8000000
namespace Go.Proofs.YtmkdgnmmebldgaaGreatDoor
open Go.RowKit
def NmOk (i:Nat)(s:ByteArray):Prop := ∃ t:List UInt8,s.data.toList=UInt8.ofNat (97+i % 26)::t/\t.length<=8/\∀ b ∈ t,48<=b.toNat/\b.toNat<=57
theorem letter_nat (i:Nat):(UInt8.ofNat (97+i % 26)).toNat=97+i % 26:=by
 rw [UInt8.toNat_ofNat'];omega
theorem NmOk.nameB {i:Nat}{s:ByteArray}(h:NmOk i s):nameB s=true:=by
 obtain ⟨t,ht,hl,hd⟩:=h;have hz:s.size=t.length+1:=by
  have:s.data.toList.length=t.length+1:=by rw [ht];simp
  simpa using this
 unfold Go.Proofs.YtmkdgnmmebldgaaGreatDoor.nameB nameTo;rw [Bool.and_eq_true];refine ⟨by simp;omega,?_⟩
 rw [List.all_eq_true];intro c hc;have hc:=List.mem_of_mem_take hc;rw [ht] at hc;rcases List.mem_cons.1 hc with rfl | hc
 ·have:=letter_nat i;unfold signI;rw [decide_eq_true_eq,this];omega
 ·have:=hd c hc;unfold signI;rw [decide_eq_true_eq];omega
theorem NmOk.ne {i k:Nat}{s t:ByteArray}(h:NmOk i s)(h':NmOk k t)(hik:i % 26≠k % 26):s≠t:=by
 rintro rfl;obtain ⟨a,ha,_⟩:=h;obtain ⟨b,hb,_⟩:=h';rw [ha] at hb;injection hb with hb _;have:=congrArg UInt8.toNat hb;rw [letter_nat,letter_nat] at this;omega
theorem NmOk.some {i:Nat}{s:ByteArray}(h:NmOk i s):(⟨#[]⟩:ByteArray)≠s:=by
 rintro rfl;obtain ⟨a,ha,_⟩:=h;cases ha
theorem NmOk.size {i:Nat}{s:ByteArray}(h:NmOk i s):s.size<=1000002:=by
 obtain ⟨t,ht,hl,_⟩:=h;have:s.data.toList.length=t.length+1:=by rw [ht];simp
 have h2:s.size=t.length+1:=by simpa using this
 omega
def PcOk (i:Nat)(p:MPiece):Prop:=NmOk i p.name/\1<=p.len/\p.len<=400/\1<=p.speed/\p.speed<=200/\1<=p.brake/\p.brake<=90
def PsOk (ps:List MPiece):Prop := ∀ i (h:i<ps.length),PcOk i ps[i]
theorem PsOk.nil:PsOk []:=fun i h=>absurd h (Nat.not_lt_zero i)
theorem PsOk.push {ps:List MPiece}{p:MPiece}(h:PsOk ps)(hp:PcOk ps.length p):PsOk (ps++[p]):=by
 intro i hi
 by_cases e:i<ps.length
 ·rw [List.getElem_append_left e];exact h i e
 ·have e2:i=ps.length:=by simp at hi;omega
  subst e2;simpa using hp
def JnOk (i:Nat)(j:MJoint):Prop:=1<=j.kind/\j.kind<=4/\(j.ends.length:Int)=j.kind/\(j.kind<3->j.name=⟨#[]⟩)/\(3<=j.kind->NmOk (100+i) j.name)
def JsOk (js:List MJoint):Prop := ∀ i (h:i<js.length),JnOk i js[i]
theorem JsOk.nil:JsOk []:=fun i h=>absurd h (Nat.not_lt_zero i)
theorem JsOk.push {js:List MJoint}{j:MJoint}(h:JsOk js)(hj:JnOk js.length j):JsOk (js++[j]):=by
 intro i hi
 by_cases e:i<js.length
 ·rw [List.getElem_append_left e];exact h i e
 ·have e2:i=js.length:=by simp at hi;omega
  subst e2;simpa using hj
def want1 (np:Nat)(p s:Int):Nat:=if 0<=p/\p<np/\(s=0\/s=1) then 1 else 0
def JInv (np:Nat)(js:List MJoint)(es:List MEnd):Prop := ∀ p s:Int,uses js p s+usesIn es p s=want1 np p s
theorem usesIn_app (a b:List MEnd)(p s:Int):usesIn (a++b) p s=usesIn a p s+usesIn b p s:=List.countP_append
theorem uses_push (js:List MJoint)(j:MJoint)(p s:Int):uses (js++[j]) p s=uses js p s+usesIn j.ends p s:=by
 unfold uses;rw [List.flatMap_append,usesIn_app];simp
theorem usesIn_cons (e:MEnd)(a:List MEnd)(p s:Int):usesIn (e::a) p s=(if e.piece=p/\e.side=s then 1 else 0)+usesIn a p s:=by
 unfold usesIn;rw [List.countP_cons];simp only [Bool.and_eq_true,beq_iff_eq];omega
theorem usesIn_nil (p s:Int):usesIn [] p s=0:=rfl
theorem usesIn_perm {a b:List MEnd}(h:a.Perm b)(p s:Int):usesIn a p s=usesIn b p s:=h.countP_eq _
theorem JInv.take {np:Nat}{js:List MJoint}{es:List MEnd}(h:JInv np js es)(k:Nat)(kd:Int)(nm:ByteArray):JInv np (js++[⟨kd,nm,es.take k⟩]) (es.drop k):=by
 intro p s;rw [uses_push,<-h p s];have:usesIn es p s=usesIn (es.take k) p s+usesIn (es.drop k) p s:=by rw [<-usesIn_app,List.take_append_drop]
 show uses js p s+usesIn (es.take k) p s+_=_
 omega
theorem JInv.perm {np:Nat}{js:List MJoint}{es es':List MEnd}(h:JInv np js es)(hp:es.Perm es'):JInv np js es':=fun p s=>by rw [<-usesIn_perm hp];exact h p s
theorem JInv.zero:JInv 0 .nil .nil:=fun p s=>by
 unfold want1;rw [if_neg (by omega)]
 rfl
theorem JInv.more {np:Nat}{es:List MEnd}(h:JInv np [] es):JInv (np+1) [] (es++[⟨np,0⟩,⟨np,1⟩]):=by
 intro p s;have h1:=h p s;rw [usesIn_app,usesIn_cons,usesIn_cons,usesIn_nil];unfold want1 at h1 ⊢;have e0:uses [] p s=0:=rfl;rw [e0] at h1 ⊢;dsimp only
 by_cases hp:p=np
 ·subst hp;rw [if_neg (by omega)] at h1
  by_cases hs0:s=0
  ·subst hs0;rw [if_pos ⟨rfl,rfl⟩,if_neg (by omega),if_pos (by omega)]
   omega
  ·by_cases hs1:s=1
   ·subst hs1;rw [if_neg (by omega),if_pos ⟨rfl,rfl⟩,if_pos (by omega)]
    omega
   ·rw [if_neg (by omega),if_neg (by omega),if_neg (by omega)]
    omega
 ·rw [if_neg (by omega),if_neg (by omega)]
  by_cases hq:0<=p/\p<np/\(s=0\/s=1)
  ·rw [if_pos hq] at h1;rw [if_pos (by omega)]
   omega
  ·rw [if_neg hq] at h1;rw [if_neg (by omega)]
   omega
theorem JInv.round {q:Nat}{js:List MJoint}(h:JInv (q+1) js [⟨q,1⟩])(s1 s2:ByteArray):JInv (q+4) (js++[⟨3,s1,[⟨q,1⟩,⟨(q+1:Nat),0⟩,⟨(q+2:Nat),0⟩]⟩]++[⟨3,s2,[⟨(q+3:Nat),0⟩,⟨(q+1:Nat),1⟩,⟨(q+2:Nat),1⟩]⟩]) [⟨(q+3:Nat),1⟩]:=by
 intro p s;have h1:=h p s;rw [uses_push,uses_push];simp only [usesIn_cons,usesIn_nil] at h1 ⊢;unfold want1 at h1 ⊢;generalize uses js p s=u at h1 ⊢
 repeat' (first | omega | split at h1 | split)
theorem JInv.base (nm:ByteArray):JInv 1 [⟨1,nm,[⟨0,0⟩]⟩] [⟨0,1⟩]:=by
 intro p s;have e:uses [⟨1,nm,[⟨0,0⟩]⟩] p s=usesIn [⟨0,0⟩] p s:=by simp [uses]
 rw [e];simp only [usesIn_cons,usesIn_nil];unfold want1
 repeat' (first | omega | split)
theorem JInv.range {np:Nat}{js:List MJoint}(h:JInv np js []){j:MJoint}(hj:j ∈ js){e:MEnd}(he:e ∈ j.ends):endB np e.piece e.side=true:=by
 have h1:=h e.piece e.side;have h2:0<uses js e.piece e.side:=by
  unfold uses usesIn;rw [List.countP_pos_iff];exact ⟨e,List.mem_flatMap.2 ⟨j,hj,he⟩,by simp⟩
 rw [usesIn_nil] at h1;unfold want1 at h1
 by_cases hc:0<=e.piece/\e.piece<np/\(e.side=0\/e.side=1)
 ·unfold endB;rw [inB_t (by omega) (by omega),inB_t (by omega) (by omega)]
  rfl
 ·rw [if_neg hc] at h1;omega
theorem netF_drawn {ps:List MPiece}{js:List MJoint}(h1:1<=ps.length)(h2:ps.length<=26)(h3:js.length<=26)(hP:PsOk ps)(hJ:JsOk js)(hI:JInv ps.length js []):netF ps js=(0,0):=by
 refine netF_0 (by unfold sizeB;rw [decide_eq_true_eq];omega) (fun k hk=>?_) (fun k hk=>?_) (fun k hk=>?_) (fun k hk=>?_)
 ·rw [badPi_at hk];obtain ⟨n1,n2,n3,n4,n5,n6,n7⟩:=hP k hk;have e1:pieceB ps[k].name ps[k].len ps[k].speed ps[k].brake=true:=by
   unfold pieceB;rw [n1.nameB,inB_t (by omega) (by omega),inB_t (by omega) (by omega),inB_t (by omega) (by omega)]
   rfl
  have e2:aheadB (namesP (ps.take k)) ps[k].name=false:=aheadP_none (fun m hm hmk=>(hP m hm).1.ne n1 (by omega))
  unfold okP;rw [e1,e2];rfl
 ·rw [bad3i_at hk];obtain ⟨n1,n2,n3,_,_⟩:=hJ k hk;unfold ok3;have e3:(js[k].ends.all fun e=>endB ps.length e.piece e.side)=true:=by
   rw [List.all_eq_true];intro e he;exact hI.range (List.getElem_mem hk) he
  rw [inB_t n1 n2,e3,n3];simp
 ·rw [bad4i_at hk];obtain ⟨n1,n2,n3,n4,n5⟩:=hJ k hk;unfold ok4
  by_cases c:js[k].kind<3
  ·rw [if_pos c,n4 c];rfl
  ·rw [if_neg c,(n5 (by omega)).nameB]
   have e2:aheadB (names (js.take k)) js[k].name=false:=by
    unfold aheadB names;rw [List.any_eq_false];intro t ht;rw [List.mem_map] at ht;obtain ⟨j,hj,rfl⟩:=ht;rw [List.mem_take_iff_getElem] at hj;obtain ⟨m,hm,rfl⟩:=hj;obtain ⟨_,_,_,m4,m5⟩:=hJ m (by omega)
    have:js[m].name≠js[k].name:=by
     by_cases cm:js[m].kind<3
     ·rw [m4 cm];exact (n5 (by omega)).some
     ·exact (m5 (by omega)).ne (n5 (by omega)) (by omega)
    simpa using this
   rw [e2];rfl
 ·have a0:=hI k 0;have a1:=hI k 1;rw [usesIn_nil] at a0 a1;unfold want1 at a0 a1;rw [if_pos (by omega)] at a0 a1
  unfold bad5i;rw [show uses js (k:Int) 0=1 by omega,show uses js (k:Int) 1=1 by omega]
  rfl
def SgOk (ps:List MPiece)(i:Nat)(s:MPiece):Prop:=NmOk i s.name/\okSig ps s=true
def SsOk (ps ss:List MPiece):Prop:=(∀ i (h:i<ss.length),SgOk ps i ss[i])/\∀ i (h:i<ss.length),beforeB ss i ss[i]=false
theorem SsOk.nil (ps:List MPiece):SsOk ps []:=⟨fun i h=>absurd h (Nat.not_lt_zero i),fun i h=>absurd h (Nat.not_lt_zero i)⟩
theorem SsOk.push {ps ss:List MPiece}{s:MPiece}(h:SsOk ps ss)(hs:SgOk ps ss.length s)(hb:beforeB (ss++[s]) ss.length s=false):SsOk ps (ss++[s]):=by
 refine ⟨fun i hi=>?_,fun i hi=>?_⟩
 ·by_cases e:i<ss.length
  ·rw [List.getElem_append_left e];exact h.1 i e
  ·have e2:i=ss.length:=by simp at hi;omega
   subst e2;simpa using hs
 ·by_cases e:i<ss.length
  ·rw [List.getElem_append_left e];have:=h.2 i e;unfold beforeB at this ⊢;rw [List.take_append_of_le_length (by omega)]
   exact this
  ·have e2:i=ss.length:=by simp at hi;omega
   subst e2;simpa using hb
theorem sigF_drawn {ps:List MPiece}{js:List MJoint}{ss:List MPiece}(hn:netF ps js=(0,0))(hl:ss.length<=60)(h:SsOk ps ss):sigF ps js ss=(0,0):=by
 refine sigF_0 hn (by omega) (fun k hk=>?_) (fun k hk=>?_)
 ·simp [badS3,hk,(h.1 k hk).2]
 ·simp [badS4,hk,h.2 k hk]
end Go.Proofs.YtmkdgnmmebldgaaGreatDoor
namespace Go.Proofs.YtmkdgnmmebldgaaGreatDoor
open Go.RowKit Go.Deep
def ByteCells (w:World)(b off:Nat)(bs:List Int):Prop := ∀ i (h:i<bs.length),w.cell? ⟨b,off+i,none⟩=some (.int .u8 bs[i])
structure Cur (w:World)(C:Nat)(ca:Option Addr)(cc:Nat)(bs:List Int)(at_:Nat):Prop where
 c0:w.cell? ⟨C,0,none⟩=some (.slice ca bs.length cc)
 c1:w.cell? ⟨C,1,none⟩=some (.int .i64 (at_:Int))
 c2:∃ s,w.cell? ⟨C,2,none⟩=some (.int .u64 s)
 z:∀ o,w.frozen? ⟨C,o,none⟩=false
 lie:bs=[]\/∃ b off,ca=some ⟨b,off,none⟩/\b≠C/\ByteCells w b off bs
 small:∀ x ∈ bs,0<=x/\x<256
 len:bs.length<=1048576
 sz:∀ o,3<=o->w.cell? ⟨C,o,none⟩=none
section
variable {w w':World} {C:Nat} {ca:Option Addr} {cc:Nat} {bs:List Int} {at_:Nat}
theorem Cur.lt (h:Cur w C ca cc bs at_):C<w.heap.size:=cellLt h.c0
theorem Cur.below (h:Cur w C ca cc bs at_)(hb:Below w.heap.size w w'):Cur w' C ca cc bs at_:=by
 obtain ⟨s,hs⟩:=h.c2;refine ⟨cell_later hb h.c0,cell_later hb h.c1,⟨s,cell_later hb hs⟩,fun o=>(hb.frozen (p:=⟨C,o,none⟩) h.lt).trans (h.z o),?_,h.small,h.len,fun o ho=>(World.cell?_of_block (w:=w) (hb.block C h.lt)).trans (h.sz o ho)⟩
 rcases h.lie with h1 | ⟨b,off,h1,h2,h3⟩
 ·exact Or.inl h1
 ·exact Or.inr ⟨b,off,h1,h2,fun i hi=>cell_later hb (h3 i hi)⟩
theorem Cur.bytes_set (h:Cur w C ca cc bs at_)(o:Nat)(v:Value):bs=[]\/∃ b off,ca=some ⟨b,off,none⟩/\b≠C/\ByteCells (w.setCell ⟨C,o,none⟩ v) b off bs:=by
 rcases h.lie with h1 | ⟨b,off,h1,h2,h3⟩
 ·exact Or.inl h1
 ·refine Or.inr ⟨b,off,h1,h2,fun i hi=>?_⟩
  refine (World.cell?_of_block (w:=w) ?_).trans (h3 i hi);exact Below.heap_setCell _ _ _ _ h2
theorem Cur.set1 (h:Cur w C ca cc bs at_)(n:Nat):Cur (w.setCell ⟨C,1,none⟩ (.int .i64 (n:Int))) C ca cc bs n:=by
 obtain ⟨s0,hs⟩:=h.c2;refine ⟨?_,World.cell?_setCell_same _ _ _ h.c1,⟨s0,?_⟩,fun o=>by rw [World.frozen?_setCell];exact h.z o,h.bytes_set _ _,h.small,h.len,fun o ho=>by rw [World.cell?_setCell_other _ _ _ _ (by intro e;injection e;omega)];exact h.sz o ho⟩
 ·rw [World.cell?_setCell_other _ _ _ _ (by simp)];exact h.c0
 ·rw [World.cell?_setCell_other _ _ _ _ (by simp)];exact hs
theorem Cur.set2 (h:Cur w C ca cc bs at_)(s:Int):Cur (w.setCell ⟨C,2,none⟩ (.int .u64 s)) C ca cc bs at_:=by
 obtain ⟨s0,hs⟩:=h.c2;refine ⟨?_,?_,⟨s,World.cell?_setCell_same _ _ _ hs⟩,fun o=>by rw [World.frozen?_setCell];exact h.z o,h.bytes_set _ _,h.small,h.len,fun o ho=>by rw [World.cell?_setCell_other _ _ _ _ (by intro e;injection e;omega)];exact h.sz o ho⟩
 ·rw [World.cell?_setCell_other _ _ _ _ (by simp)];exact h.c0
 ·rw [World.cell?_setCell_other _ _ _ _ (by simp)];exact h.c1
end
theorem and255 (a:Int)(h0:0<=a)(h1:a<18446744073709551616):∃ x:Nat,x<256/\wrap64 (bits .and .u64 a 255)=(x:Int):=by
 obtain ⟨n,rfl⟩:∃ n:Nat,a=n:=⟨a.toNat,by omega⟩
 have e:bits .and .u64 (n:Int) 255=((n &&& 255:Nat):Int):=u64_and_nat n 255 (by omega) (by omega)
 have hl:n &&& 255<=255:=Nat.and_le_right;refine ⟨n &&& 255,by omega,?_⟩
 rw [e];generalize n &&& 255=m at hl;unfold wrap64;omega
theorem u64_range (x:Int):0<=IntKind.u64.wrap x / 1099511627776/\IntKind.u64.wrap x / 1099511627776<18446744073709551616:=by
 rw [IntKind.wrap_u64];omega
theorem next_any (C:Nat)(ca:Option Addr)(cc:Nat)(bs:List Int)(at_:Nat)(w:World)(h:Hid (Cur w C ca cc bs at_))(ha:at_<=1000000000):
  Calls Tryz.prog 74 #[.pointer (some ⟨C,0,none⟩)] w fun e w' => ∃ x:Nat,x<256/\e = .returned (.int .i64 (x:Int))/\Cur w' C ca cc bs (at_+1)/\Only (fun k=>k=C) w w':=by
 have c0:=h.out.c0;have c1:=h.out.c1;obtain ⟨s,c2⟩:=h.out.c2;have z1:=h.out.z 1;have z2:=h.out.z 2;have hlen:=h.out.len
 go_enter Tryz.func74,Tryz.ntmps74
 by_cases hc:at_<bs.length
 ·obtain ⟨b,off,hca,hne,hcl⟩:=h.out.lie.resolve_left (nz hc);subst hca;have d0:=hcl at_ hc;have hsm:=h.out.small _ (List.getElem_mem hc);have hci:(at_:Int)<bs.length:=by omega
  have hCz:=h.out.lt;have hbz:=cellLt d0;dsimp only at hbz;generalize bs[at_]=bv at d0 hsm;obtain ⟨bn,hbn⟩:∃ bn:Nat,bv=bn:=⟨bv.toNat,by omega⟩
  subst hbn;clear hcl
  go_wp2_with fail
  go_quiet (fail)
  go_wp2_with fail
  go_quiet (fail)
  go_wp2_with fail
  refine bodyPost_ret (v:=.int .i64 (bn:Int)) (by simp [results,Tryz.results74,go_sem]) rfl ⟨bn,by omega,rfl,?_,?_⟩
  ·refine Cur.set2 (Cur.set1 (h.out.below ?_) (at_+1)) _;exact blo
  ·refine Only.setCell (S:=fun k=>k=C) (p:=⟨C,2,none⟩) (Only.setCell (S:=fun k=>k=C) (p:=⟨C,1,none⟩) (Only.of_below ?_) (Or.inl rfl) _) (Or.inl rfl) _
   exact blo
 ·have hci:¬ (at_:Int)<bs.length:=by omega
  go_wp2_with fail
  go_quiet (fail)
  go_wp2_with fail
  obtain ⟨x,hx,e⟩:=and255 (IntKind.u64.wrap (IntKind.u64.wrap (s*6364136223846793005)+1442695040888963407) / 1099511627776) (u64_range _).1 (u64_range _).2;rw [e];refine bodyPost_ret (v:=.int .i64 (x:Int)) (by simp [results,Tryz.results74,go_sem]) rfl ⟨x,hx,rfl,?_,?_⟩
  ·refine Cur.set1 (Cur.set2 (h.out.below ?_) _) (at_+1);exact blo
  ·refine Only.setCell (S:=fun k=>k=C) (p:=⟨C,1,none⟩) (Only.setCell (S:=fun k=>k=C) (p:=⟨C,2,none⟩) (Only.of_below ?_) (Or.inl rfl) _) (Or.inl rfl) _
   exact blo
theorem rem_nat (z:Nat){n:Int}(h:0<n):∃ r:Nat,(z:Int) % n=r/\(r:Int)<n:=by
 have h1:=Int.emod_nonneg (z:Int) (show n≠0 by omega)
 have h2:=Int.emod_lt_of_pos (z:Int) h;exact ⟨((z:Int) % n).toNat,by omega,by omega⟩
def Drew (C:Nat)(ca:Option Addr)(cc:Nat)(bs:List Int)(at_ k:Nat)(n:Int)(w:World)(e:Ending)(w':World):Prop:=
 ∃ (x at':Nat),(x:Int)<n/\e = .returned (.int .i64 (x:Int))/\at'<=at_+k/\Cur w' C ca cc bs at'/\Only (fun k=>k=C) w w'
theorem pick_any (C:Nat)(ca:Option Addr)(cc:Nat)(bs:List Int)(at_:Nat)(n:Int)(w:World)(h:Hid (Cur w C ca cc bs at_))(ha:at_<=900000000)(hn:n<=100000):
  Calls Tryz.prog 32 #[.pointer (some ⟨C,0,none⟩),.int .i64 n] w (Drew C ca cc bs at_ 2 (max n 1) w):=by
 go_enter Tryz.func32,Tryz.ntmps32
 by_cases h1:n<=1
 ·go_wp2_with fail
  refine bodyPost_ret (v:=.int .i64 ((0:Nat):Int)) (by simp [results,Tryz.results32,go_sem]) rfl ⟨0,at_,by omega,rfl,by omega,h.out,Only.refl _ _⟩
 ·have h1':¬ n<=1:=h1
  go_wp2_with fail
  refine (next_any C ca cc bs at_ w h (by omega)).mono ?_
  rintro e w1 ⟨x,hx,rfl,hc1,ho1⟩;have HC1:=hidP hc1;clear hc1
  by_cases h2:200<n
  ·go_wp2_with fail
   refine (next_any C ca cc bs (at_+1) w1 HC1 (by omega)).mono ?_
   rintro e w2 ⟨y,hy,rfl,hc2,ho2⟩;have HC2:=hidP hc2;clear hc2;have hxy:∃ z:Nat,(x:Int)*256+y=z/\z<65536:=⟨x*256+y,by omega,by omega⟩
   obtain ⟨z,hz,hzl⟩:=hxy
   go_wp2_with fail
   obtain ⟨r,hr,hrl⟩:=rem_nat z (show 0<n by omega)
   rw [hr];refine bodyPost_ret (v:=.int .i64 (r:Int)) (by simp [results,Tryz.results32,go_sem]) rfl ⟨r,at_+1+1,by omega,rfl,by omega,HC2.out,ho1.trans ho2⟩
  ·go_wp2_with fail
   obtain ⟨r,hr,hrl⟩:=rem_nat x (show 0<n by omega)
   rw [hr];refine bodyPost_ret (v:=.int .i64 (r:Int)) (by simp [results,Tryz.results32,go_sem]) rfl ⟨r,at_+1,by omega,rfl,by omega,HC1.out,ho1⟩
theorem wide_any (C:Nat)(ca:Option Addr)(cc:Nat)(bs:List Int)(at_:Nat)(n:Int)(w:World)(h:Hid (Cur w C ca cc bs at_))(ha:at_<=900000000)(hn:1<=n):
  Calls Tryz.prog 31 #[.pointer (some ⟨C,0,none⟩),.int .i64 n] w (Drew C ca cc bs at_ 2 n w):=by
 go_enter Tryz.func31,Tryz.ntmps31
 go_wp2_with fail
 refine (next_any C ca cc bs at_ w h (by omega)).mono ?_
 rintro e w1 ⟨x,hx,rfl,hc1,ho1⟩;have HC1:=hidP hc1;clear hc1
 go_wp2_with fail
 refine (next_any C ca cc bs (at_+1) w1 HC1 (by omega)).mono ?_
 rintro e w2 ⟨y,hy,rfl,hc2,ho2⟩;have HC2:=hidP hc2;clear hc2;have hxy:∃ z:Nat,(x:Int)*256+y=z/\z<65536:=⟨x*256+y,by omega,by omega⟩
 obtain ⟨z,hz,hzl⟩:=hxy;have hn0:n≠0:=by omega
 go_wp2_with fail
 obtain ⟨r,hr,hrl⟩:=rem_nat z (show 0<n by omega)
 rw [hr];refine bodyPost_ret (v:=.int .i64 (r:Int)) (by simp [results,Tryz.results31,go_sem]) rfl ⟨r,at_+1+1,hrl,rfl,by omega,HC2.out,ho1.trans ho2⟩
def signB (n:Int):ByteArray:=ByteArray.empty.push (UInt8.ofNat n.toNat)
theorem signB_size (n:Int):(signB n).size=1:=rfl
theorem conv_signB (w:World)(n:Int):
  (convert 22 9 (.slice (some ⟨w.heap.size,0,none⟩) 1 1)).run Tryz.prog (w.alloc (.cells #[.int .u8 n] 5)) = .ok (.string (signB n)) (w.alloc (.cells #[.int .u8 n] 5)):=by
 rw [run_convert_bytes_string _ _ _ 5 _ _ _ Tryz.underlying22 Tryz.underlying5 Tryz.underlying9];have hl:=run_loadCells_list (P:=Tryz.prog) (w.alloc (.cells #[.int .u8 n] 5)) ⟨w.heap.size,0,none⟩ ([n].map (Value.int .u8)) (fun j v hj=>by
  match j,hj with
  | 0,hj=>simp at hj;subst hj;simp [Addr.add,go_sem])
 exact run_bytesToString _ _ 1 1 [n] hl
theorem conv_at (W:World)(g:Nat)(n:Int)(h:W.cell? ⟨g,0,none⟩=some (.int .u8 n)):
  (convert 22 9 (.slice (some ⟨g,0,none⟩) 1 1)).run Tryz.prog W = .ok (.string (signB n)) W:=by
 rw [run_convert_bytes_string _ _ _ 5 _ _ _ Tryz.underlying22 Tryz.underlying5 Tryz.underlying9];have hl:=run_loadCells_list (P:=Tryz.prog) W ⟨g,0,none⟩ ([n].map (Value.int .u8)) (fun j v hj=>by
  match j,hj with
  | 0,hj=>simp at hj;subst hj;simpa [Addr.add] using h)
 exact run_bytesToString _ _ 1 1 [n] hl
def DgOk (s:ByteArray):Prop:=s.size<=8/\∀ b ∈ s.data.toList,48<=b.toNat/\b.toNat<=57
theorem cat_sign (n:Int)(s:ByteArray):(signB n++s).data.toList=UInt8.ofNat n.toNat::s.data.toList:=by
 rw [show signB n=(⟨#[UInt8.ofNat n.toNat]⟩:ByteArray) from rfl]
 simp
theorem DgOk.push {s:ByteArray}(h:DgOk s)(h8:s.size<=7){n:Int}(h0:48<=n)(h1:n<=57):DgOk (signB n++s):=by
 refine ⟨by simp only [ByteArray.size_append,signB_size];omega,fun b hb=>?_⟩
 rw [cat_sign] at hb;rcases List.mem_cons.1 hb with rfl | hb
 ·rw [UInt8.toNat_ofNat'];omega
 ·exact h.2 b hb
theorem DgOk.name {s:ByteArray}(h:DgOk s){n:Int}{i:Nat}(hn:n=97+(i:Int) % 26):NmOk i (signB n++s):=by
 refine ⟨s.data.toList,?_,by have:=h.1;simpa using this,h.2⟩
 rw [cat_sign,hn];congr 2
theorem decimalV_any (k:Int)(w:World)(h0:0<=k)(h1:k<=1000):
  Calls Tryz.prog 55 #[.int .i64 k] w fun e w'=>(∃ s:ByteArray,e = .returned (.string s)/\DgOk s)/\Below w.heap.size w w':=by
 by_cases hk:k=0
 ·subst hk
  go_enter Tryz.func55,Tryz.ntmps55
  go_wp2_with fail
  go_ret
  exact ⟨⟨_,rfl,by decide,by decide⟩,Below.refl _ _⟩
 ·have hk1:(k==0)=false:=by simp [hk]
  have hk2:¬ k<0:=by omega
  go_enter Tryz.func55,Tryz.ntmps55
  go_wp2_with fail
  go_loopw [0,4] (fun kk o wr => ∃ (m:Int) (s:ByteArray),kk = .int .i64 m/\o = .string s/\0<=m/\m<=1000/\Hid ((s.size=0/\m<=1000)\/(s.size=1/\m<=100)\/(s.size=2/\m<=10)\/(s.size=3/\m<=1)\/(s.size=4/\m=0))/\Hid (DgOk s)/\Below w.heap.size w wr) (fun kk _ _=>(intOf kk).toNat)
  case atStart=>exact ⟨k,_,rfl,rfl,by omega,by omega,Or.inl ⟨rfl,h1⟩,⟨by decide,by decide⟩,Below.refl _ _⟩
  case round =>
   obtain ⟨m,s,rfl,rfl,hm0,hm1,HS,HD,hb⟩:=hrel
   by_cases hm:0<m
   ·have hcv:=conv_signB;have hsz:=signB_size;have hs8:s.size<=4611686018427387904:=by have:=HS.out;omega
    have HD2:Hid (DgOk (signB (48+m % 10)++s)):=HD.out.push (by have:=HS.out;omega) (by omega) (by omega)
    have HS2:Hid (((signB (48+m % 10)++s).size=0/\m / 10<=1000)\/((signB (48+m % 10)++s).size=1/\m / 10<=100)\/((signB (48+m % 10)++s).size=2/\m / 10<=10)\/((signB (48+m % 10)++s).size=3/\m / 10<=1)\/((signB (48+m % 10)++s).size=4/\m / 10=0)):=by
     have h3:=HS.out;unfold Hid;rw [ByteArray.size_append,signB_size];omega
    go_wp2_with fail
    go_roundw
    case rel =>
     have hbs:=hb.size;exact ⟨_,_,rfl,rfl,by omega,by omega,HS2,HD2,blo⟩
    case measure=>simp [intOf];omega
   ·go_wp2_with fail
    go_ret
    exact ⟨⟨_,rfl,HD.out⟩,hb⟩
theorem nameV_any (c:Value)(i:Nat)(w:World)(h1:i<=1000):
  Calls Tryz.prog 73 #[c,.int .i64 i] w fun e w'=>(∃ s:ByteArray,e = .returned (.string s)/\NmOk i s)/\Below w.heap.size w w':=by
 obtain ⟨r0,hr0⟩:∃ r0:Int,(i:Int).tmod 26=r0:=⟨_,rfl⟩;have hr1:0<=r0/\r0<26/\r0=(i:Int) % 26:=by
  rw [<-hr0,Int.tmod_eq_emod_of_nonneg (by omega)]
  omega
 obtain ⟨n0,hn0⟩:∃ n0:Int,IntKind.i64.wrap (97+r0)=n0:=⟨_,rfl⟩;have hn1:97<=n0/\n0<123/\n0=97+(i:Int) % 26:=by
  rw [<-hn0,IntKind.wrap_i64];omega
 have hn2:IntKind.u8.wrap n0=n0:=by
  rw [IntKind.wrap_u8];omega
 have HN:=hidP hn1.2.2;have HDa:Hid (Calls Tryz.prog 55 #[.int .i64 i] ((w.alloc (.cells #[.int .u8 n0] 5)).drew) fun e w'=>(∃ s:ByteArray,e = .returned (.string s)/\DgOk s)/\w'.cell? ⟨w.heap.size,0,none⟩=some (.int .u8 n0)/\Below w.heap.size w w'):=
  (decimalV_any i _ (by omega) (by omega)).mono (fun e w' h=>⟨h.1,cell_later h.2 (by simp [go_sem]),Below.trans (((Below.refl _ _).alloc (Nat.le_refl _) _).drew) (h.2.mono (by simp))⟩)
 have HDb:Hid (Calls Tryz.prog 55 #[.int .i64 i] w.drew fun e w'=>(∃ s:ByteArray,e = .returned (.string s)/\DgOk s)/\Below w.heap.size w w'):=
  (decimalV_any i _ (by omega) (by omega)).mono (fun e w' h=>⟨h.1,Below.trans ((Below.refl _ _).drew) (h.2.mono (by simp))⟩)
 have hcv:∀ (W:World) (g:Nat),W.cell? ⟨g,0,none⟩=some (.int .u8 n0)->(convert 22 9 (.slice (some ⟨g,0,none⟩) 1 1)).run Tryz.prog W = .ok (.string (signB n0)) W:=fun W g h=>conv_at W g _ h
 have hsz:=signB_size;have hi0:(0:Int)<=i:=by omega
 have hn3:97<=n0/\n0<123:=⟨hn1.1,hn1.2.1⟩;replace hr1:0<=r0/\r0<26:=⟨hr1.1,hr1.2.1⟩;clear hn1
 go_enter Tryz.func73,Tryz.ntmps73
 go_wp2_with fail
 go_region_with (go_at_call 55;first | (refine HDa.out.mono ?_;rintro e w1 ⟨⟨s,rfl,hs⟩,k0,hb1⟩;have hz1:=hb1.size;have hs9:s.size<=8:=hs.1;have HDs:=hidP hs;clear hs) | (refine HDb.out.mono ?_;rintro e w1 ⟨⟨s,rfl,hs⟩,hb1⟩;have hz1:=hb1.size;have hs9:s.size<=8:=hs.1;have HDs:=hidP hs;clear hs))
 all_goals
  go_wp2_with fail
  go_ret
  refine ⟨⟨_,rfl,HDs.out.name HN.out⟩,?_⟩
  first
   | exact hb1
   | exact hb1.alloc (by omega) _
   | exact blo
theorem Tryz.infoPiece:(Tryz.prog.info? 133).map (fun i=>(i.zero,i.size,i.bytes))=some (some (.agg #[.string ⟨#[]⟩,.int .i64 0,.int .i64 0,.int .i64 0]),4,40):=by kernel_rfl
theorem Tryz.infoJoint:(Tryz.prog.info? 109).map (fun i=>(i.zero,i.size,i.bytes))=some (some (.agg #[.int .i64 0,.string ⟨#[]⟩,.slice none 0 0]),3,48):=by kernel_rfl
theorem Tryz.infoEnd:(Tryz.prog.info? 114).map (fun i=>(i.zero,i.size,i.bytes))=some (some (.agg #[.int .i64 0,.int .i64 0]),2,16):=by kernel_rfl
def encPc (p:MPiece):List Value:=[.string p.name,.int .i64 p.len,.int .i64 p.speed,.int .i64 p.brake]
def flatPc (ps:List MPiece):List Value:=ps.flatMap encPc
theorem flatPc_push (ps:List MPiece)(p:MPiece):flatPc ps++[.string p.name,.int .i64 p.len,.int .i64 p.speed,.int .i64 p.brake]=flatPc (ps++[p]):=by simp [flatPc,encPc]
abbrev MJ:=Option Addr × Nat × MJoint
def encJ (x:MJ):List Value:=[.int .i64 x.2.2.kind,.string x.2.2.name,.slice x.1 x.2.2.ends.length x.2.1]
def flatJ (js:List MJ):List Value:=js.flatMap encJ
theorem flatJ_push (js:List MJ)(x:MJ):flatJ js++[.int .i64 x.2.2.kind,.string x.2.2.name,.slice x.1 x.2.2.ends.length x.2.1]=flatJ (js++[x]):=by simp [flatJ,encJ]
def IsT (w:World)(t b:Nat):Prop := ∃ cur,w.heap[b]? = some (.cells cur t (0,0))
theorem IsT.lt {w:World}{t b:Nat}(h:IsT w t b):b<w.heap.size:=by
 obtain ⟨cur,h⟩:=h;exact (Array.getElem?_eq_some_iff.1 h).1
theorem IsT.kept {w w':World}{t b:Nat}(h:IsT w t b)(e:w'.heap[b]? = w.heap[b]?):IsT w' t b:=by
 obtain ⟨cur,h⟩:=h;exact ⟨cur,e.trans h⟩
theorem IsT.ne {w:World}{t b B e s n:Nat}{v:Value}{xs:List Value}(h:IsT w t b)(ho:w.ownsRow B e s v n xs)(he:e≠t):v.ownBlock≠some b:=by
 rcases ho.2 with ⟨rfl,_⟩ | ⟨g,cap,cur,rfl,_,hg,_⟩
 ·simp [Value.ownBlock]
 ·simp only [Value.ownBlock,ne_eq,Option.some.injEq];rintro rfl;obtain ⟨cur',h⟩:=h;rw [hg] at h;simp only [Option.some.injEq,Obj.cells.injEq] at h;exact he h.2.1
def EndsIn (w:World)(N:Nat)(x:MJ):Prop:=EndsAt w x.1 x.2.2.ends/\(x.2.2.ends=[]\/∀ b off,x.1=some ⟨b,off,none⟩->N<b/\IsT w 114 b)/\x.2.2.ends.length<=4
theorem EndsIn.kept {w w':World}{N:Nat}{x:MJ}(h:EndsIn w N x)(hk:∀ b,N<b->IsT w 114 b->w'.heap[b]? = w.heap[b]?):EndsIn w' N x:=by
 obtain ⟨h1,h2,h3⟩:=h;refine ⟨h1.kept (h2.imp id (fun h2 b off e=>hk b (h2 b off e).1 (h2 b off e).2)),h2.imp id (fun h2 b off e=>⟨(h2 b off e).1,(h2 b off e).2.kept (hk b (h2 b off e).1 (h2 b off e).2)⟩),h3⟩
structure NetS (w:World)(C N:Nat)(xp:Option Addr)(yp:Nat)(xj:Option Addr)(yj:Nat)(ps:List MPiece)(js:List MJ):Prop where
 cn:C<N
 c0:w.cell? ⟨N,0,none⟩=some (.slice xp ps.length yp)
 c1:w.cell? ⟨N,1,none⟩=some (.slice xj js.length yj)
 z:∀ o,w.frozen? ⟨N,o,none⟩=false
 op:w.ownsRow (N+1) 133 4 (.slice xp ps.length yp) ps.length (flatPc ps)
 oj:w.ownsRow (N+1) 109 3 (.slice xj js.length yj) js.length (flatJ js)
 je:∀ x ∈ js,EndsIn w N x
 pn:∀ p ∈ ps,p.name.size<=1000002/\1<=p.len/\p.len<=400
 jn:∀ x ∈ js,x.2.2.name.size<=1000002
section
variable {w w':World} {C N:Nat} {xp xj:Option Addr} {yp yj:Nat} {ps:List MPiece} {js:List MJ}
theorem NetS.lt (h:NetS w C N xp yp xj yj ps js):N<w.heap.size:=cellLt h.c0
theorem NetS.kept (h:NetS w C N xp yp xj yj ps js)(hk:∀ b,N<=b->b<w.heap.size->w'.heap[b]? = w.heap[b]?):NetS w' C N xp yp xj yj ps js:=by
 have hN:=hk N (Nat.le_refl _) h.lt;refine ⟨h.cn,(World.cell?_of_block (w:=w) hN).trans h.c0,(World.cell?_of_block (w:=w) hN).trans h.c1,fun o=>?_,owns_kept2 h.op (fun b hb=>hk b (by have:=(h.op.lt b hb).1;omega) (h.op.lt b hb).2),owns_kept2 h.oj (fun b hb=>hk b (by have:=(h.oj.lt b hb).1;omega) (h.oj.lt b hb).2),fun x hx=>(h.je x hx).kept (fun b h1 h2=>hk b (by omega) h2.lt),h.pn,h.jn⟩
 exact (World.frozen?_of_block (w:=w) hN).trans (h.z o)
theorem NetS.below (h:NetS w C N xp yp xj yj ps js)(hb:Below w.heap.size w w'):NetS w' C N xp yp xj yj ps js:=h.kept (fun b _ hz=>hb.block b hz)
theorem NetS.only (h:NetS w C N xp yp xj yj ps js)(hb:Only (fun k=>k=C) w w'):NetS w' C N xp yp xj yj ps js:=h.kept (fun b h1 hz=>hb.block b hz (by have:=h.cn;omega))
theorem NetS.pushP (h:NetS w C N xp yp xj yj ps js){p:MPiece}{x':Option Addr}{y':Nat}(hg:w.grownBy w' (Value.slice xp ps.length yp).ownBlock)(ho:w'.ownsRow (N+1) 133 4 (.slice x' (ps.length+1) y') (ps.length+1) (flatPc (ps++[p])))(hp:p.name.size<=1000002/\1<=p.len/\p.len<=400):
  NetS (w'.setCell ⟨N,0,none⟩ (.slice x' (ps.length+1) y')) C N x' y' xj yj (ps++[p]) js:=by
 have hl:=h.lt;have hN:w'.heap[N]? = w.heap[N]? := hg.block N h.lt (fun e=>by have:=(h.op.lt N e.symm).1;omega)
 have el:(ps++[p]).length=ps.length+1:=by simp
 have hset:∀ b,N≠b->(w'.setCell ⟨N,0,none⟩ (.slice x' (ps.length+1) y')).heap[b]? = w'.heap[b]? := fun b hb=>Below.heap_setCell _ _ _ _ (fun e=>hb e.symm)
 refine ⟨h.cn,?_,?_,fun o=>?_,?_,?_,fun x hx=>?_,?_,h.jn⟩
 ·rw [el];exact World.cell?_setCell_same _ _ _ ((World.cell?_of_block (w:=w) hN).trans h.c0)
 ·rw [World.cell?_setCell_other _ _ _ _ (by simp)]
  exact (World.cell?_of_block (w:=w) hN).trans h.c1
 ·rw [World.frozen?_setCell];exact (World.frozen?_of_block (w:=w) hN).trans (h.z o)
 ·rw [el];exact ownsRow_setCell_below ho (Nat.lt_succ_self N) _
 ·refine ownsRow_setCell_below (owns_kept2 h.oj (fun b hb=>hg.block b (h.oj.lt b hb).2 (fun e=>?_))) (Nat.lt_succ_self N) _
  rcases owns_ne (e:=109) (e':=133) (by decide) h.oj h.op with h1 | h1
  ·rw [h1] at hb;cases hb
  ·exact h1 (hb.trans e)
 ·refine (h.je x hx).kept (fun b h1 h2=>(hset b (by omega)).trans (hg.block b h2.lt (fun e=>h2.ne h.op (by decide) e.symm)))
 ·intro q hq;rcases List.mem_append.1 hq with hq | hq
  ·exact h.pn q hq
  ·have:q=p:=by simpa using hq
   rw [this];exact hp
theorem NetS.pushJ (h:NetS w C N xp yp xj yj ps js){x:MJ}{x':Option Addr}{y':Nat}(hg:w.grownBy w' (Value.slice xj js.length yj).ownBlock)(ho:w'.ownsRow (N+1) 109 3 (.slice x' (js.length+1) y') (js.length+1) (flatJ (js++[x])))(hx:x.2.2.name.size<=1000002)(hE:EndsIn w N x):
  NetS (w'.setCell ⟨N,1,none⟩ (.slice x' (js.length+1) y')) C N xp yp x' y' ps (js++[x]):=by
 have hl:=h.lt;have hN:w'.heap[N]? = w.heap[N]? := hg.block N h.lt (fun e=>by have:=(h.oj.lt N e.symm).1;omega)
 have el:(js++[x]).length=js.length+1:=by simp
 have hset:∀ b,N≠b->(w'.setCell ⟨N,1,none⟩ (.slice x' (js.length+1) y')).heap[b]? = w'.heap[b]? := fun b hb=>Below.heap_setCell _ _ _ _ (fun e=>hb e.symm)
 have hend:∀ b,N<b->IsT w 114 b->(w'.setCell ⟨N,1,none⟩ (.slice x' (js.length+1) y')).heap[b]? = w.heap[b]? := fun b h1 h2=>(hset b (by omega)).trans (hg.block b h2.lt (fun e=>h2.ne h.oj (by decide) e.symm))
 refine ⟨h.cn,?_,?_,fun o=>?_,?_,?_,fun z hz=>?_,h.pn,?_⟩
 ·rw [World.cell?_setCell_other _ _ _ _ (by simp)]
  exact (World.cell?_of_block (w:=w) hN).trans h.c0
 ·rw [el];exact World.cell?_setCell_same _ _ _ ((World.cell?_of_block (w:=w) hN).trans h.c1)
 ·rw [World.frozen?_setCell];exact (World.frozen?_of_block (w:=w) hN).trans (h.z o)
 ·refine ownsRow_setCell_below (owns_kept2 h.op (fun b hb=>hg.block b (h.op.lt b hb).2 (fun e=>?_))) (Nat.lt_succ_self N) _
  rcases owns_ne (e:=133) (e':=109) (by decide) h.op h.oj with h1 | h1
  ·rw [h1] at hb;cases hb
  ·exact h1 (hb.trans e)
 ·rw [el];exact ownsRow_setCell_below ho (Nat.lt_succ_self N) _
 ·rcases List.mem_append.1 hz with hz | hz
  ·exact (h.je z hz).kept hend
  ·have:z=x:=by simpa using hz
   rw [this];exact hE.kept hend
 ·intro q hq;rcases List.mem_append.1 hq with hq | hq
  ·exact h.jn q hq
  ·have:q=x:=by simpa using hq
   rw [this];exact hx
end
def LowB (C:Nat)(ca:Option Addr)(bs:List Int):Prop:=bs=[]\/∀ b off,ca=some ⟨b,off,none⟩->b<C
theorem Cur.above {w w':World}{C:Nat}{ca:Option Addr}{cc:Nat}{bs:List Int}{at_:Nat}(h:Cur w C ca cc bs at_)(hl:LowB C ca bs)(hk:∀ k,k<=C->w'.heap[k]? = w.heap[k]?):Cur w' C ca cc bs at_:=by
 have hC:=hk C (Nat.le_refl _);obtain ⟨s,hs⟩:=h.c2;refine ⟨(World.cell?_of_block (w:=w) hC).trans h.c0,(World.cell?_of_block (w:=w) hC).trans h.c1,⟨s,(World.cell?_of_block (w:=w) hC).trans hs⟩,fun o=>(World.frozen?_of_block (w:=w) hC).trans (h.z o),?_,h.small,h.len,fun o ho=>(World.cell?_of_block (w:=w) hC).trans (h.sz o ho)⟩
 rcases h.lie with h1 | ⟨b,off,h1,h2,h3⟩
 ·exact Or.inl h1
 ·rcases hl with hl | hl
  ·exact Or.inl hl
  ·exact Or.inr ⟨b,off,h1,h2,fun i hi=>(World.cell?_of_block (w:=w) (hk b (by have:=hl b off h1;omega))).trans (h3 i hi)⟩
theorem pieceV_any (D C N:Nat)(ca:Option Addr)(cc:Nat)(bs:List Int)(at_:Nat)(xp:Option Addr)(yp:Nat)(xj:Option Addr)(yj:Nat)(ps:List MPiece)(js:List MJ)(w:World)(h:Hid (NetS w C N xp yp xj yj ps js))(hc:Hid (Cur w C ca cc bs at_))(hlow:Hid (LowB C ca bs))(d0:w.cell? ⟨D,0,none⟩=some (.pointer (some ⟨C,0,none⟩)))(hD:Hid (C<D/\D≠N/\IsT w 257 D))(ha:at_<=800000000)(hl:ps.length<=1000):
  Calls Tryz.prog 109 #[.pointer (some ⟨D,0,none⟩),.pointer (some ⟨N,0,none⟩)] w fun e w'=>e = .returned (.int .i64 ps.length)/\∃ xp' yp' p at',NetS w' C N xp' yp' xj yj (ps++[p]) js/\Cur w' C ca cc bs at'/\at'<=at_+2/\w'.cell? ⟨D,0,none⟩=some (.pointer (some ⟨C,0,none⟩))/\IsT w' 257 D/\Only (fun k=>k=C\/N<=k) w w'/\PcOk ps.length p:=by
 have c0:=h.out.c0;have hNz:=h.out.lt;have hDz:=cellLt d0;dsimp only at hDz;have hcn:=h.out.cn
 go_enter Tryz.func109,Tryz.ntmps109
 go_wp2_with fail
 obtain ⟨S,hS⟩:∃ S:World->Prop,∀ u,S u↔(u.cell? ⟨N,0,none⟩=some (.slice xp ps.length yp)/\u.cell? ⟨D,0,none⟩=some (.pointer (some ⟨C,0,none⟩))):=⟨_,fun _=>Iff.rfl⟩
 have HS0:=hidP hS;have r0:∀ u:Held S,World.cell? u.val ⟨N,0,none⟩=some (.slice xp ps.length yp):=fun u=>((hS u.val).1 u.2).1
 have r1:∀ u:Held S,World.cell? u.val ⟨D,0,none⟩=some (.pointer (some ⟨C,0,none⟩)):=fun u=>((hS u.val).1 u.2).2
 have hS1:S w.drew:=(hS _).2 ⟨c0,d0⟩;have hne:=held_ne hS1;clear hS;refine wp_region_tree (fun w' => ∃ u:Held S,w'=u.val) 20 (by kernel_rfl) (by kernel_rfl) (held_some hS1) ?_
 (refine wpT_sea 0 ?_;intro K hK;go_big_quiet_op;go_big_quiet_on);(refine wpT_sea 1 ?_;intro K hK;go_big_quiet_op;go_big_quiet_on);(refine wpT_sea 2 ?_;intro K hK;go_big_quiet_op;go_big_quiet_on);(refine wpT_sea 3 ?_;intro K hK;go_big_quiet_op;go_big_quiet_on);(refine wpT_sea 4 ?_;intro K hK;go_big_quiet_op;go_big_quiet_on);(refine wpT_sea 5 ?_;intro K hK;go_big_quiet_op;go_big_quiet_on);(refine wpT_sea 6 ?_;intro K hK;go_big_quiet_op;go_big_quiet_on);(refine wpT_sea 7 ?_;intro K hK;go_big_quiet_op;go_big_quiet_on);(refine wpT_sea 8 ?_;intro K hK;go_big_quiet_op;go_big_quiet_on);(refine wpT_sea 9 ?_;intro K hK;go_big_quiet_op;go_big_quiet_on)
 (refine wpT_sea 11 ?_;intro K hK;go_big_quiet_op;go_big_quiet_on);(refine wpT_sea 12 ?_;intro K hK;go_big_quiet_op;go_big_quiet_on);(refine wpT_sea 13 ?_;intro K hK;go_big_quiet_op;go_big_quiet_on);(refine wpT_sea 14 ?_;intro K hK;go_big_quiet_op;go_big_quiet_on)
 refine wpT_loud 10 (by rfl) (by kernel_rfl) (by kernel_rfl) ?_
 intro K hK
 go_wp2_with (go_at_call 73;refine (nameV_any _ ps.length _ (by omega)).mono ?_;rintro e w2 ⟨⟨s,rfl,hsz0⟩,hb2'⟩)
 have HNM:=hidP hsz0;clear hsz0;have hb2:Below w.heap.size w w2:=(Below.refl _ _).drew.trans hb2';have hS2:S w2:=(HS0.out _).2 ⟨cell_later hb2 c0,cell_later hb2 d0⟩;have hN2:=hidP (h.out.below hb2);have hC2:=hidP (hc.out.below hb2);have hD2:Hid (IsT w2 257 D):=hD.out.2.2.kept (hb2.block D hDz);have hz2:=hb2.size;have HB2:=hidP hb2;clear hb2' hb2;refine hK _ _ (held_some hS2) ?_;clear hK K;refine wpT_loud 15 (by rfl) (by kernel_rfl) (by kernel_rfl) ?_
 intro K hK
 go_wp2_with (go_at_call 31;refine (wide_any C ca cc bs at_ 300 w2 hC2 (by omega) (by omega)).mono ?_;rintro e w3 ⟨x,at',hx,rfl,hat,hc3,ho3⟩)
 have hS3:S w3:=by
  obtain ⟨s1,s2⟩:=(HS0.out _).1 hS2;exact (HS0.out _).2 ⟨ho3.cell s1 (by show ¬ N=C;omega),ho3.cell s2 (by have:=hD.out.1;show ¬ D=C;omega)⟩
 have hN3:=hidP (hN2.out.only ho3);have hC3:=hidP hc3;have hD3:Hid (IsT w3 257 D):=hD2.out.kept (ho3.block D (by omega) (by have:=hD.out.1;omega))
 have hz3:=ho3.size;have HB3:Hid (Only (fun k=>k=C\/N<=k) w w3):=(Only.of_below HB2.out).trans (ho3.mono (fun k hk=>Or.inl hk))
 clear hc3 ho3;refine hK _ _ (held_some hS3) ?_;clear hK K
 (refine wpT_sea 16 ?_;intro K hK;go_big_quiet_op;go_big_quiet_on);(refine wpT_sea 17 ?_;intro K hK;go_big_quiet_op;go_big_quiet_on)
 refine wpT_loud 18 (by rfl) (by kernel_rfl) (by kernel_rfl) ?_
 intro K hK
 go_wp2_with fail
 obtain ⟨p,hp⟩:∃ p:MPiece,p=⟨s,20+(x:Int),100,20⟩:=⟨_,rfl⟩;have hS4:∀ o,S (World.alloc w3 o):=fun o=>by
  obtain ⟨s1,s2⟩:=(HS0.out _).1 hS3;have hb:=(Below.refl w3.heap.size w3).alloc (Nat.le_refl _) o;exact (HS0.out _).2 ⟨cell_later hb s1,cell_later hb s2⟩
 refine hK _ _ (held_some (hS4 _)) ?_;clear hK K hS4;refine wpT_loud 19 (by rfl) (by kernel_rfl) (by kernel_rfl) ?_
 intro K hK;refine wpList_push rfl (.tmp 15) (.tmp 29) 23 rfl (N+1) 133 _ 4 40 Tryz.underlying23 Tryz.infoPiece rfl (by decide) (.slice xp ps.length yp) ps.length (flatPc ps) rfl hN3.out.op w3.heap.size rfl [.string s,.int .i64 (20+(x:Int)),.int .i64 100,.int .i64 20] rfl rfl (by simp [Value.oneCell']) (by unfold maxLen;omega) (by omega) (by omega) ?_
 intro xp' yp' w4 ho4 hg4;have ho4':w4.ownsRow (N+1) 133 4 (.slice xp' (ps.length+1) yp') (ps.length+1) (flatPc (ps++[p])):=by rw [<-flatPc_push,hp];exact ho4
 have hNN:=hidP (hN3.out.pushP hg4 ho4' (by rw [hp];exact ⟨HNM.out.size,by show (1:Int)<=20+x;omega,by show (20:Int)+x<=400;omega⟩))
 have hrow:∀ k,k<=N->(Value.slice xp ps.length yp).ownBlock≠some k:=fun k hk e=>by have:=(hN3.out.op.lt k e).1;omega
 have hN4:w4.heap[N]? = w3.heap[N]? := hg4.block N hN3.out.lt (fun e=>hrow N (Nat.le_refl _) e.symm)
 have hD4:w4.heap[D]? = w3.heap[D]? := hg4.block D (by omega) (fun e=>hD3.out.ne hN3.out.op (by decide) e.symm)
 have hS4:S w4:=by
  obtain ⟨s1,s2⟩:=(HS0.out _).1 hS3;exact (HS0.out _).2 ⟨(World.cell?_of_block (w:=w3) hN4).trans s1,(World.cell?_of_block (w:=w3) hD4).trans s2⟩
 have n4:w4.cell? ⟨N,0,none⟩=some (.slice xp ps.length yp):=((HS0.out _).1 hS4).1;have d4:w4.cell? ⟨D,0,none⟩=some (.pointer (some ⟨C,0,none⟩)):=((HS0.out _).1 hS4).2;have z4:w4.frozen? ⟨N,0,none⟩=false:=(World.frozen?_of_block (w:=w3) hN4).trans (hN3.out.z 0);have hz4:=hg4.size;have hDN:=hD.out.2.1;have hlowk:∀ k,k<N->(w4.setCell ⟨N,0,none⟩ (.slice xp' (ps.length+1) yp')).heap[k]? = w3.heap[k]? := fun k hk=>(Below.heap_setCell _ _ _ _ (show k≠N by omega)).trans (hg4.block k (by omega) (fun e=>hrow k (by omega) e.symm))
 have HC5:Hid (Cur (w4.setCell ⟨N,0,none⟩ (.slice xp' (ps.length+1) yp')) C ca cc bs at'):=hC3.out.above hlow.out (fun k hk=>hlowk k (by omega))
 have HD5:Hid (IsT (w4.setCell ⟨N,0,none⟩ (.slice xp' (ps.length+1) yp')) 257 D):=hD3.out.kept ((Below.heap_setCell _ _ _ _ hDN).trans hD4);have HB5:Hid (Only (fun k=>k=C\/N<=k) w (w4.setCell ⟨N,0,none⟩ (.slice xp' (ps.length+1) yp'))):=HB3.out.trans ⟨hg4.os,hg4.tape,hg4.output,(by simpa using hz4),fun k _ hn=>hlowk k (Nat.lt_of_not_le (fun h=>hn (Or.inr h)))⟩
 refine wpList_nil ⟨rfl,?_⟩;refine hK _ _ (held_some hS4) ?_;clear hK K hne r0 r1 hS4 hS3 hS2 hS1 hg4 ho4 ho4' hlowk;refine wpT_done (by kernel_rfl) ?_
 simp only [List.drop_succ_cons,List.drop_zero]
 go_wp2_with fail
 go_ret
 refine ⟨rfl,xp',yp',p,at',hNN.out,HC5.out,hat,?_,HD5.out,HB5.out,by rw [hp];exact ⟨HNM.out,by show (1:Int)<=20+x;omega,by show (20:Int)+x<=400;omega,by show (1:Int)<=100;omega,by show (100:Int)<=200;omega,by show (1:Int)<=20;omega,by show (20:Int)<=90;omega⟩⟩
 rw [World.cell?_setCell_other _ _ _ _ (by simp)]
 exact d4
end Go.Proofs.YtmkdgnmmebldgaaGreatDoor
