import Derived.Test.YtmkdgnmmebldgaaGreatDoorPk5
import Derived.Maps.Own
import Derived.Maps.OwnOps
import Derived.Maps.Views
import Derived.WideKeyEntry
import Derived.DeepKeys4
import Derived.StringKeys
import Derived.RegionTactic
import Derived.Deep.RegionWith
import Derived.Deep.QuietTactic
import Derived.BigQuiet
import Derived.Test.YtmkdgnmmebldgaaGreatDoorPk18
set_option maxRecDepth 100000
set_option maxHeartbeats 8000000
open Go.Proofs.Tryz
namespace Go.Proofs.YtmkdgnmmebldgaaGreatDoor
open Go.RowKit Go.Maps
open Go.ChangeMaps (setBlock heap_setBlock_same)
variable {b n:Nat}{kt:TypeId}{w:World}
theorem A4 (w:World):(zeroValue 3).run prog w = .ok (.int .i64 0) w:=CH
def bT (kt:TypeId)(w:World)(b n:Nat)(f:Value->Int):Prop:=
 ∃ D:DataW Unit,w.ownsMap prog kt (plainElem prog 3) b n D/\IsMap D/\∀ key kl,keyOf prog kt key=some kl->D.atKey kl (.lit (.int .i64 0)) = .lit (.int .i64 (f key))
theorem bT.made (kt:TypeId)(w:World):bT kt (w.alloc (.map #[] 0)) w.heap.size 0 (fun _=>0):=
 ⟨.map [],World.ownsMap_made w _ _ _,isMap_empty,fun _ _ _=>rfl⟩
theorem bT.of_block {w':World}{f:Value->Int}(h:bT kt w b n f)(e:w'.heap[b]? = w.heap[b]?):bT kt w' b n f:=by
 obtain ⟨D,⟨es,a,hb,r⟩,h2,h3⟩:=h;exact ⟨D,⟨es,a,e.trans hb,r⟩,h2,h3⟩
theorem bT.lt {f:Value->Int}(h:bT kt w b n f):b<w.heap.size:=by
 obtain ⟨D,h1,_⟩:=h;exact h1.lt
theorem bT.below {w':World}{f:Value->Int}(h:bT kt w b n f)(hb:Cx w w'):bT kt w' b n f:=h.of_block (hb.block _ h.lt)
theorem bT.lookup {t:TypeId}{f:Value->Int}(h:bT kt w b n f)(K:Keyed prog kt)(ht:prog.underlying t=some (.map kt 3)){key:Value}{kl:Lit}(hkey:keyOf prog kt key=some kl):
  (Instr.lookup t (.map (some b)) key false).run prog w = .ok (.int .i64 (f key)) w:=by
 obtain ⟨D,h1,_,h3⟩:=h;obtain ⟨c,a,d,_⟩:=h1.lookup_int K ht underlying3 (A4 w) hkey;have e:=(h3 key kl hkey).symm.trans d;simp only [DataW.lit.injEq,Lit.int.injEq,true_and] at e;rw [a,e]
theorem bT.update {t:TypeId}{f:Value->Int}(h:bT kt w b n f)(K:Keyed prog kt)(ht:prog.underlying t=some (.map kt 3))(hn:n<maxLen){key:Value}{kl:Lit}(hkey:keyOf prog kt key=some kl)
  (v:Int) (hv:(Lit.int .i64 v).wf=true) (f':Value->Int) (h1:f' key=v) (h2:∀ k,k≠key->f' k=f k) :
  ∃ w',(Instr.mapUpdate t (.map (some b)) key (.int .i64 v)).run prog w = .ok () w'/\bT kt w' b (n+1) f'/\w.grownBy w' (some b):=by
 obtain ⟨D,ho,hm,h3⟩:=h;obtain ⟨w',a,c,hg⟩:=ho.update K ht hn hkey (plainElem_int underlying3 hv);refine ⟨w',a,⟨_,c,hm.put _ _,fun k l hk=>?_⟩,hg⟩
 by_cases e:k=key
 ·subst e;have:l=kl:=by rw [hk] at hkey;injection hkey
  subst this;rw [atKey_put_same hm (K.key hk),h1]
 ·have hl:l≠kl:=by
   intro el;rw [el] at hk;exact e (K.inj hk hkey)
  rw [atKey_put_other hl,h3 k l hk,h2 k e]
theorem qT:Keyed prog 9:=string_keyed underlying9
theorem qu {s:ByteArray}(h:s.size<=maxLen):keyOf prog 9 (.string s)=some (.string s.data.toList):=Go.WideMaps.keyOf_string_mk underlying9 h
def eX (l:List ByteArray)(s:ByteArray):Nat:=l.countP fun t=>decide (t=s)
def fS (l:List ByteArray):Value->Int
 | .string s=>eX l s
 | _=>0
theorem t8:fS []=fun _=>0:=by
 funext v
 cases v <;> rfl
theorem qO (l:List ByteArray)(s:ByteArray):fS (l++[s]) (.string s)=eX l s+1:=by
 show ((eX (l++[s]) s:Nat):Int)=_
 unfold eX;rw [List.countP_append];simp
theorem pj (l:List ByteArray)(s:ByteArray):∀ k,k≠.string s->fS (l++[s]) k=fS l k:=by
 intro k hk;cases k <;> try rfl
 rename_i t;have hne:¬ s=t:=fun e=>hk (by rw [e])
 show ((eX (l++[s]) t:Nat):Int)=((eX l t:Nat):Int)
 unfold eX;rw [List.countP_append];simp [hne]
theorem BC (l:List ByteArray)(s:ByteArray):eX l s<=l.length:=List.countP_le_length
theorem jq (l:List ByteArray)(s:ByteArray):eX l s=0↔er l s=false:=by
 unfold eX er;rw [List.countP_eq_zero,List.any_eq_false]
theorem iW {v:Int}(h0:0<=v)(h1:v<=1000000000):(Lit.int .i64 v).wf=true:=WalkArith.wf_i64 CG
end Go.Proofs.YtmkdgnmmebldgaaGreatDoor
namespace Go.Proofs.YtmkdgnmmebldgaaGreatDoor
open Go.RowKit Go.Maps
open Go.WideMaps (KeyLaw)
open Go.ChangeMaps (setBlock heap_setBlock_same)
variable {b:Nat}{kt:TypeId}{w:World}
theorem Tryz.laidOutB:laidOutB prog=true:=CH
theorem Tryz.rowEnd:(114:TypeId)<prog.types.size:=of_decide_eq_true CH
theorem xY:KeyLaw prog 114:=deep_law_laid Tryz.laidOutB (m:=2) CG Tryz.rowEnd CH (by rw [underlying114])
theorem lT:Keyed prog 114:=Keyed.of_law xY
theorem Tryz.cellsEnd:prog.cellsOf 114=2:=CH
theorem Tryz.cellsInt:prog.cellsOf 3=1:=CH
theorem Tryz.keyTypeEnd:prog.keyType 114=true:=CH
theorem wW {p s:Int}(hp:(Lit.int .i64 p).wf=true)(hs:(Lit.int .i64 s).wf=true):∃ kl,keyOf prog 114 (.agg #[.int .i64 p,.int .i64 s])=some kl:=by
 have hn:∃ m,prog.types.size=m+1:=by
  have h:=Tryz.rowEnd
  revert h
  generalize prog.types.size=n;intro h;cases n with
  | zero=>exact absurd h (Nat.not_lt_zero _)
  | succ m=>exact ⟨m,rfl⟩
 obtain ⟨m,hm⟩:=hn;unfold keyOf;simp only [underlying114];rw [if_pos (by simp [Tryz.keyTypeEnd,Value.formed,underlying114,Tryz.cellsEnd]),hm]
 unfold Program.keyLits;simp only [underlying114,Value.cells];rw [if_pos (by rw [Tryz.cellsEnd];exact ⟨rfl,CI⟩)]
 simp [Tryz.cellsInt,Program.keyLits,underlying3,hp,hs]
theorem qI (w:World)(b:Nat)(x y:Obj):setBlock (setBlock w b x) b y=setBlock w b y:=by
 unfold setBlock;simp
theorem lF {α:Type}{a a':α}{w':World}(h:Result.ok a w=Result.ok a' w'):w=w':=by injection h
theorem Ay {α:Type}{a a':α}{w':World}(h:Result.ok a w=Result.ok a' w'):a=a':=by injection h
theorem yA {a b:Int}(h:Value.int .i64 a=Value.int .i64 b):a=b:=by injection h
theorem xA {H:Type}{P:Program}{it t:TypeId}{es:Array MapEntry}{clock:Nat}{R:Value->Option (DataW H × List MemPlace)}(K:KeyLaw P kt)(ht:P.underlying t=some (.map kt it)){z:Value}(hz:∀ u:World,(zeroValue it).run P u = .ok z u)
  (hb:w.heap[b]? = some (.map es clock)) (F:WideElems.Fit P kt R es clock) {key:Value} {kl:Lit} (hkey:keyOf P kt key=some kl) :
  ∃ (v0:Value) (st:Nat) (w1:World),(Instr.mapEntry t (.map (some b)) key).run P w = .ok (.tuple #[v0,goInt st]) w1 /\
   (w1.heap[b]? = w.heap[b]? \/ (Instr.mapUpdate t (.map (some b)) key z).run P w = .ok () w1/\(Instr.lookup t (.map (some b)) key false).run P w = .ok z w) /\
   ∀ val,∃ w2,(Instr.entryStore t (.map (some b)) (goInt st) val).run P w1 = .ok () w2/\(Instr.mapUpdate t (.map (some b)) key val).run P w = .ok () w2:=by
 obtain ⟨v0,st,g,a,d,_,k⟩:=WideElems.entry_then_store K ht hz hb F hkey;refine ⟨v0,st,setBlock w b (.map g a),d,?_,fun val=>?_⟩
 ·rcases K.find w hkey es.toList F.keys with ⟨g1,g2⟩ | ⟨j,e0,g1,g2,g3⟩
  ·right;have r1:(Instr.mapEntry t (.map (some b)) key).run P w = .ok (.tuple #[z,goInt clock]) (setBlock w b (.map (es.push ⟨key,z,clock⟩) (clock+1))):=by
    simp [Instr.mapEntry,run_underlying ht,MapKept.run_getObj_map hb,K.check w false hkey,g1,hz,MapKept.run_setObj_map _ hb,Result.andThen,setBlock]
   have r2:(Instr.mapUpdate t (.map (some b)) key z).run P w = .ok () (setBlock w b (.map (es.push ⟨key,z,clock⟩) (clock+1))):=by
    simp [Instr.mapUpdate,run_underlying ht,MapKept.run_getObj_map hb,K.check w false hkey,g1,MapKept.run_setObj_map _ hb,Result.andThen,setBlock]
   have e1:=lF (r1.symm.trans d);rw [<-e1];refine ⟨r2,?_⟩;simp [Instr.lookup,run_underlying ht,MapKept.run_getObj_map hb,K.check w es.isEmpty hkey,g1,hz,Result.andThen]
  ·left;have hj:es[j]? = some e0:=by simpa using g2
   have c:es.modify j (fun e=>{ e with key:=key })=es:=by
    apply Array.ext';rw [Array.toList_modify];apply List.ext_getElem?;intro i;rw [List.getElem?_modify]
    by_cases e:j=i
    ·subst e;rw [g2];simp [<-g3]
    ·simp [e]
   have r1:(Instr.mapEntry t (.map (some b)) key).run P w = .ok (.tuple #[e0.val,goInt e0.born]) (setBlock w b (.map es clock)):=by
    simp [Instr.mapEntry,run_underlying ht,MapKept.run_getObj_map hb,K.check w false hkey,g1,hj,g3,K.stays w hkey,c,MapKept.run_setObj_map _ hb,Result.andThen,setBlock]
   have e1:=lF (r1.symm.trans d);rw [<-e1,heap_setBlock_same hb,hb]
 ·obtain ⟨m,f,h,l⟩:=k (setBlock w b (.map g a)) val (heap_setBlock_same hb _);rw [qI] at h;exact ⟨_,h,l⟩
theorem bT.mono {n n':Nat}{f:Value->Int}(h:bT kt w b n f)(hn:n<=n'):bT kt w b n' f:=by
 obtain ⟨D,h1,h2⟩:=h;exact ⟨D,h1.mono hn,h2⟩
theorem bT.entry {t:TypeId}{n:Nat}{f:Value->Int}(h:bT kt w b n f)(K:KeyLaw prog kt)(ht:prog.underlying t=some (.map kt 3))(hn:n<maxLen){key:Value}{kl:Lit}(hkey:keyOf prog kt key=some kl)
  (v:Int) (hv:(Lit.int .i64 v).wf=true) (f':Value->Int) (h1:f' key=v) (h2:∀ k,k≠key->f' k=f k) :
  ∃ (v0:Value) (st:Nat) (w1 w2:World),(Instr.mapEntry t (.map (some b)) key).run prog w = .ok (.tuple #[v0,.int .i64 st]) w1 /\
   (Instr.lookup t (.map (some b)) key false).run prog w1 = .ok (.int .i64 (f key)) w1 /\
   (Instr.entryStore t (.map (some b)) (.int .i64 st) (.int .i64 v)).run prog w1 = .ok () w2/\bT kt w2 b (n+1) f'/\w.grownBy w2 (some b):=by
 have Kd:=Keyed.of_law K;have a:=h.lookup Kd ht hkey;obtain ⟨w',g,hC,hg⟩:=h.update Kd ht hn hkey v hv f' h1 h2;have h0:=h;obtain ⟨D,⟨es,d,hb,F,hs,hD⟩,hm,h3⟩:=h;obtain ⟨v0,st,w1,i,j,l⟩:=xA K ht A4 hb F hkey;obtain ⟨w2,m,o⟩:=l (.int .i64 v);have e2:=lF (o.symm.trans g);refine ⟨v0,st,w1,w',i,?_,e2 ▸ m,hC,hg⟩;have p:bT kt w1 b (n+1) f:=by
  rcases j with e | ⟨r2,r3⟩
  ·exact (h0.of_block e).mono (Nat.le_succ n)
  ·have hz:f key=0:=yA (Ay (a.symm.trans r3));obtain ⟨w3,c,q,_⟩:=h0.update Kd ht hn hkey 0 CJ f hz (fun _ _=>rfl)
   have e3:=lF (c.symm.trans r2);exact e3 ▸ q
 exact p.lookup Kd ht hkey
end Go.Proofs.YtmkdgnmmebldgaaGreatDoor
namespace Go.Proofs.YtmkdgnmmebldgaaGreatDoor
open Go.RowKit
section
variable {P:Program} (w:World)
theorem dK (xt t:TypeId)(v:Value)(fs:Array Field)(hu:P.underlying t=some (.struct fs)):
  (Instr.typeAssert (.iface t v) xt t true).run P w = .ok (.tuple #[v,.bool true]) w:=by
 simp [Instr.typeAssert,run_underlying hu]
theorem eU (xt t t':TypeId)(v z:Value)(i:TypeInfo)(fs:Array Field)(hu:P.underlying t=some (.struct fs))(hne:t'≠t)(hi:P.info? t=some i)(hz:i.zero=some z):
  (Instr.typeAssert (.iface t' v) xt t true).run P w = .ok (.tuple #[z,.bool false]) w:=by
 simp [Instr.typeAssert,run_underlying hu,hne,zeroValue,typeInfo,hi,hz]
end
theorem Tryz.zeroS:(prog.info? 207).map (·.zero)=some (some (.agg #[])):=CH
theorem Tryz.zeroC:(prog.info? 208).map (·.zero)=some (some (.agg #[])):=CH
theorem nY (w:World)(xt t':TypeId)(hne:t'≠207):(Instr.typeAssert (.iface t' (.agg #[])) xt 207 true).run prog w = .ok (.tuple #[.agg #[],.bool false]) w:=by
 obtain ⟨i,hi,hz⟩:=Option.map_eq_some_iff.1 Tryz.zeroS;exact eU w xt _ t' _ _ i _ underlying207 hne hi hz
theorem nT (w:World)(xt t':TypeId)(hne:t'≠208):(Instr.typeAssert (.iface t' (.agg #[])) xt 208 true).run prog w = .ok (.tuple #[.agg #[],.bool false]) w:=by
 obtain ⟨i,hi,hz⟩:=Option.map_eq_some_iff.1 Tryz.zeroC;exact eU w xt _ t' _ _ i _ underlying208 hne hi hz
def cj (k:Int):Nat:=if k=1 then 205 else if k=2 then 206 else if k=3 then 207 else 208
theorem jV (w:World):Calls prog 81 #[.int .i64 1] w fun e w'=>e = .returned (.tuple #[.iface 205 (.agg #[]),.bool true])/\w'=w:=by
 go_enter func81,ntmps81
 go_wp2
 go_ret2
 exact ⟨rfl,rfl⟩
theorem ka (w:World):Calls prog 81 #[.int .i64 2] w fun e w'=>e = .returned (.tuple #[.iface 206 (.agg #[]),.bool true])/\w'=w:=by
 go_enter func81,ntmps81
 go_wp2
 go_ret2
 exact ⟨rfl,rfl⟩
theorem jZ (w:World):Calls prog 81 #[.int .i64 3] w fun e w'=>e = .returned (.tuple #[.iface 207 (.agg #[]),.bool true])/\w'=w:=by
 go_enter func81,ntmps81
 go_wp2
 go_ret2
 exact ⟨rfl,rfl⟩
theorem j8 (w:World):Calls prog 81 #[.int .i64 4] w fun e w'=>e = .returned (.tuple #[.iface 208 (.agg #[]),.bool true])/\w'=w:=by
 go_enter func81,ntmps81
 go_wp2
 go_ret2
 exact ⟨rfl,rfl⟩
theorem zs (k:Int)(h:inB k 1 4=false)(w:World):Calls prog 81 #[.int .i64 k] w fun e w'=>e = .returned (.tuple #[.nilIface,.bool false])/\w'=w:=by
 have h1:(k==1)=false/\(k==2)=false/\(k==3)=false/\(k==4)=false:=by
  unfold inB at h;simp only [decide_eq_false_iff_not,beq_eq_false_iff_ne] at h ⊢;omega
 obtain ⟨h1,h2,h3,h4⟩:=h1;clear h
 go_enter func81,ntmps81
 go_wp2
 go_ret2
 exact ⟨rfl,rfl⟩
theorem qh (w:World):Calls prog 217 #[.agg #[]] w fun e w'=>e = .returned (.int .i64 1)/\Cx w w':=by
 go_enter func217,ntmps217
 go_wp2
 go_ret
 exact ⟨rfl,blo⟩
theorem pQ (w:World):Calls prog 219 #[.agg #[]] w fun e w'=>e = .returned (.int .i64 2)/\Cx w w':=by
 go_enter func219,ntmps219
 go_wp2
 go_ret
 exact ⟨rfl,blo⟩
theorem pW (w:World):Calls prog 221 #[.agg #[]] w fun e w'=>e = .returned (.int .i64 3)/\Cx w w':=by
 go_enter func221,ntmps221
 go_wp2
 go_ret
 exact ⟨rfl,blo⟩
theorem p8 (w:World):Calls prog 223 #[.agg #[]] w fun e w'=>e = .returned (.int .i64 4)/\Cx w w':=by
 go_enter func223,ntmps223
 go_wp2
 go_ret
 exact ⟨rfl,blo⟩
theorem rJ (w:World):Calls prog 130 #[.iface 205 (.agg #[])] w fun e w'=>e = .returned (.bool false)/\w'=w:=by
 have hs:=nY w 149 205 CJ
 have hc:=nT w 149 205 CJ
 go_enter func130,ntmps130
 go_wp2
 go_ret
 exact ⟨rfl,rfl⟩
theorem ry (w:World):Calls prog 130 #[.iface 206 (.agg #[])] w fun e w'=>e = .returned (.bool false)/\w'=w:=by
 have hs:=nY w 149 206 CJ
 have hc:=nT w 149 206 CJ
 go_enter func130,ntmps130
 go_wp2
 go_ret
 exact ⟨rfl,rfl⟩
theorem rB (w:World):Calls prog 130 #[.iface 207 (.agg #[])] w fun e w'=>e = .returned (.bool true)/\w'=w:=by
 have hs:=dK (P:=prog) w 149 207 (.agg #[]) _ underlying207;have hc:=nT w 149 207 CJ
 go_enter func130,ntmps130
 go_wp2
 go_ret
 exact ⟨rfl,rfl⟩
theorem qX (w:World):Calls prog 130 #[.iface 208 (.agg #[])] w fun e w'=>e = .returned (.bool true)/\w'=w:=by
 have hs:=nY w 149 208 CJ
 have hc:=dK (P:=prog) w 149 208 (.agg #[]) _ underlying208
 go_enter func130,ntmps130
 go_wp2
 go_ret
 exact ⟨rfl,rfl⟩
end Go.Proofs.YtmkdgnmmebldgaaGreatDoor
namespace Go.Proofs.YtmkdgnmmebldgaaGreatDoor
open Go.RowKit Go.Deep Go.Maps
open Go.ChangeMaps (setBlock heap_setBlock_same)
variable {b k m n:Nat}{js:List aj}{ps ss:List af}{w w':World}
def eV (j t:Nat)(k:Int):Value:=.agg #[.int .i64 (j:Int),.int .i64 (t:Int),.iface (cj k) (.agg #[])]
def sK:Value:=.agg #[.int .i64 0,.int .i64 0,.nilIface]
theorem BM (w:World):(zeroValue 153).run prog w = .ok sK w:=CH
theorem sU {a b:am}(h:bC a=bC b):a=b:=by
 cases a;cases b;simpa [bC] using h
def gW (w:World)(b n:Nat)(f:Value->Value):Prop:=
 ∃ D:DataW Value,w.ownsMap prog 114 (fun v=>some (.held v,[])) b n D/\IsMap D/\∀ key kl,keyOf prog 114 key=some kl->D.atKey kl (.held sK) = .held (f key)
theorem gW.made (w:World):gW (w.alloc (.map #[] 0)) w.heap.size 0 (fun _=>sK):=
 ⟨.map [],World.ownsMap_made w _ _ _,isMap_empty,fun _ _ _=>rfl⟩
theorem gW.of_block {f:Value->Value}(h:gW w b n f)(e:w'.heap[b]? = w.heap[b]?):gW w' b n f:=by
 obtain ⟨D,⟨es,a,hb,r⟩,h2,h3⟩:=h;exact ⟨D,⟨es,a,e.trans hb,r⟩,h2,h3⟩
theorem gW.lt {f:Value->Value}(h:gW w b n f):b<w.heap.size:=by
 obtain ⟨D,h1,_⟩:=h;exact h1.lt
theorem gW.below {f:Value->Value}(h:gW w b n f)(hb:Cx w w'):gW w' b n f:=h.of_block (hb.block _ h.lt)
theorem gW.lookup {f:Value->Value}(h:gW w b n f){key:Value}{kl:Lit}(hkey:keyOf prog 114 key=some kl):
  (Instr.lookup 145 (.map (some b)) key false).run prog w = .ok (f key) w:=by
 obtain ⟨D,h1,_,h3⟩:=h;obtain ⟨v,q,a,hv⟩:=h1.lookup lT underlying145 (BM w) rfl hkey;have e:=h3 key kl hkey;simp only [Option.some.injEq,Prod.mk.injEq] at hv;rw [a];have e2:=hv.1.trans e;simp only [DataW.held.injEq] at e2;rw [e2]
open Classical in
theorem gW.update {f:Value->Value}(h:gW w b n f)(hn:n<maxLen){key:Value}{kl:Lit}(hkey:keyOf prog 114 key=some kl)(v:Value):
  ∃ w' f',(Instr.mapUpdate 145 (.map (some b)) key v).run prog w = .ok () w'/\gW w' b (n+1) f'/\f' key=v/\(∀ k,k≠key->f' k=f k)/\w.grownBy w' (some b):=by
 obtain ⟨D,ho,hm,h3⟩:=h;obtain ⟨w',a,c,hg⟩:=ho.update lT underlying145 hn hkey (val:=v) rfl;refine ⟨w',fun k=>if k=key then v else f k,a,⟨_,c,hm.put _ _,fun k l hk=>?_⟩,CI,fun k hk=>by simp [hk],hg⟩
 by_cases e:k=key
 ·subst e;have:l=kl:=by rw [hk] at hkey;injection hkey
  subst this;rw [atKey_put_same hm (lT.key hk)];simp
 ·have hl:l≠kl:=by
   intro el;rw [el] at hk;exact e (lT.inj hk hkey)
  rw [atKey_put_other hl,h3 k l hk];simp [e]
theorem rp {α:Type}{f:α->Bool}:∀ {l:List α} {i j:Nat} (hi:i<l.length) (hj:j<l.length),l.countP f<=1->f l[i]=true->f l[j]=true->i=j
 | [],i,_,hi,_,_,_,_=>absurd hi (Nat.not_lt_zero i)
 | a::r,0,0,_,_,_,_,_=>rfl
 | a::r,0,j+1,_,hj,h,h1,h2=>by
  simp only [List.getElem_cons_zero] at h1;simp only [List.getElem_cons_succ] at h2;rw [List.countP_cons,if_pos h1] at h;have h0:r.countP f=0:=CG
  rw [List.countP_eq_zero] at h0;exact absurd h2 (h0 _ (List.getElem_mem _))
 | a::r,i+1,0,hi,_,h,h1,h2=>by
  simp only [List.getElem_cons_zero] at h2;simp only [List.getElem_cons_succ] at h1;rw [List.countP_cons,if_pos h2] at h;have h0:r.countP f=0:=CG
  rw [List.countP_eq_zero] at h0;exact absurd h1 (h0 _ (List.getElem_mem _))
 | a::r,i+1,j+1,hi,hj,h,h1,h2=>by
  simp only [List.getElem_cons_succ] at h1 h2;rw [List.countP_cons] at h;have:=rp (l:=r) (i:=i) (j:=j) (by simpa using hi) (by simpa using hj) (by split at h <;> omega) h1 h2
  rw [this]
theorem lU (e:am):cR e e=true:=iD.2 rfl
theorem oN (l:List am)(e:am):bX l e.CB e.side=l.countP (fun x=>cR x e):=by
 unfold bX cR;rfl
theorem p7 (e:am):∀ (js:List aj) (n:Nat),bX (js.flatMap (·.ends)) e.CB e.side=1->∀ (j k:Nat) (hj:j<js.length) (hk:k<js[j].ends.length),js[j].ends[k]=e->gw js e n=some (n+j,k)
 | [],_,_,j,_,hj,_,_=>absurd hj (Nat.not_lt_zero j)
 | a::r,n,h,j,k,hj,hk,he=>by
  rw [oN,List.flatMap_cons,List.countP_append] at h;simp only [gw];cases hf:a.ends.findIdx? (fun x=>cR x e) with
  | some k0 =>
   obtain ⟨g1,g2,_⟩:=List.findIdx?_eq_some_iff_getElem.1 hf;have hp:0<a.ends.countP (fun x=>cR x e):=List.countP_pos_iff.2 ⟨_,List.getElem_mem g1,g2⟩
   have hr:(r.flatMap (·.ends)).countP (fun x=>cR x e)=0:=CG
   cases j with
   | zero =>
    simp only [List.getElem_cons_zero] at hk he;have:=rp (f:=fun x=>cR x e) g1 hk CG g2 (by rw [he];exact lU e)
    simp [this]
   | succ j =>
    simp only [List.getElem_cons_succ] at hk he;rw [List.countP_eq_zero] at hr;exact absurd (lU e) (hr e (List.mem_flatMap.2 ⟨_,List.getElem_mem _,by rw [<-he];exact List.getElem_mem hk⟩))
  | none =>
   have hn:=List.findIdx?_eq_none_iff.1 hf;have h0:a.ends.countP (fun x=>cR x e)=0:=by
    rw [List.countP_eq_zero];intro x hx;rw [hn x hx];simp
   cases j with
   | zero =>
    simp only [List.getElem_cons_zero] at hk he;have:=hn _ (List.getElem_mem hk);rw [he,lU] at this;simp at this
   | succ j =>
    simp only [List.getElem_cons_succ] at hk he;have:=p7 e r (n+1) (by rw [oN];omega) j k (by simpa using hj) hk he
    show gw r e (n+1)=_
    rw [this];congr 2;omega
theorem bo.uniq (R:bo ps js ss){j:Nat}(hj:j<js.length)(hk:k<js[j].ends.length):gw js js[j].ends[k] 0=some (j,k):=by
 obtain ⟨p,hp,h1,h2⟩:=R.ends j hj k hk;have hu:bX (js.flatMap (·.ends)) js[j].ends[k].CB js[j].ends[k].side=1:=by
  rw [h1];rcases h2 with h2 | h2 <;> rw [h2]
  ·exact (R.uses p hp).1
  ·exact (R.uses p hp).2
 have:=p7 _ js 0 hu j k hj hk rfl;simpa using this
def d8 (w:World)(b:Nat)(js:List aj)(k m:Nat):Prop:=
 ∃ (f:Value->Value) (n:Nat),n<=4*k+m/\gW w b n f/\∀ i q (hi:i<js.length) (hq:q<js[i].ends.length),i<k\/(i=k/\q<m)->f (bC js[i].ends[q])=eV i q js[i].kind
theorem d8.below (h:d8 w b js k m)(hb:Cx w w'):d8 w' b js k m:=by
 obtain ⟨f,n,h1,h2,h3⟩:=h;exact ⟨f,n,h1,h2.below hb,h3⟩
theorem d8.next (h:d8 w b js k m)(hk:k<js.length)(hm:m=js[k].ends.length)(h4:m<=4):d8 w b js (k+1) 0:=by
 obtain ⟨f,n,h1,h2,h3⟩:=h;refine ⟨f,n,CG,h2,fun i q hi hq h=>h3 i q hi hq ?_⟩
 by_cases e:i=k
 ·subst e;exact Or.inr ⟨rfl,CG⟩
 ·exact Or.inl CG
theorem un {e:am}(he:bM ps e)(hn:ps.length<=100):∃ kl,keyOf prog 114 (bC e)=some kl:=by
 obtain ⟨p,hp,h1,h2⟩:=he;unfold bC;rw [h1];exact wW (iW CG CG) (by rcases h2 with h2 | h2 <;> rw [h2] <;> decide)
theorem d8.put (R:bo ps js ss)(h:d8 w b js k m)(hk:k<js.length)(hm:m<js[k].ends.length):
  ∃ w',(Instr.mapUpdate 145 (.map (some b)) (bC js[k].ends[m]) (eV k m js[k].kind)).run prog w = .ok () w'/\d8 w' b js k (m+1)/\w.grownBy w' (some b):=by
 obtain ⟨f,n,h1,h2,h3⟩:=h;obtain ⟨kl,a⟩:=un (R.ends k hk m hm) R.np;have h4:=(R.kind k hk).2;have h5:=R.nj;obtain ⟨w',f',g1,g2,g3,g4,g5⟩:=h2.update CK a (eV k m js[k].kind)
 refine ⟨w',g1,⟨f',n+1,CG,g2,fun i q hi hq hh=>?_⟩,g5⟩
 by_cases e:i=k/\q=m
 ·obtain ⟨rfl,rfl⟩:=e;exact g3
 ·rw [g4 _ (fun e2=>?_)]
  ·exact h3 i q hi hq CG
  ·have e3:=sU e2;have u1:=R.uniq hi hq;have u2:=R.uniq hk hm;rw [e3] at u1;have:=u1.symm.trans u2;simp at this;exact e this
theorem wL (k:Int)(h1:1<=k)(h4:k<=4)(w:World):Calls prog 81 #[.int .i64 k] w fun e w'=>e = .returned (.tuple #[.iface (cj k) (.agg #[]),.bool true])/\w'=w:=by
 have:k=1\/k=2\/k=3\/k=4:=CG
 rcases this with rfl | rfl | rfl | rfl
 ·exact jV w
 ·exact ka w
 ·exact jZ w
 ·exact j8 w
structure cB (w:World)(K M:Nat)(pa ja sa:Option Addr)(pc jc sc:Nat)(ps:List af)(js:List aj)(ss:List af):Prop where
 net:kT w K pa ja sa pc jc sc ps js ss
 c3:w.cell? ⟨K,3,none⟩=some (.map (some M))
 sp:d8 w M js js.length 0
theorem cB.below {K M:Nat}{pa ja sa:Option Addr}{pc jc sc:Nat}(h:cB w K M pa ja sa pc jc sc ps js ss)(hb:Cx w w'):cB w' K M pa ja sa pc jc sc ps js ss:=
 ⟨h.net.below hb,cell_later hb h.c3,h.sp.below hb⟩
theorem cB.lookup {K M:Nat}{pa ja sa:Option Addr}{pc jc sc:Nat}(h:cB w K M pa ja sa pc jc sc ps js ss)(R:bo ps js ss){e:am}(he:bM ps e):
  (Instr.lookup 145 (.map (some M)) (bC e) false).run prog w = .ok (eV (aO js e).1 (aO js e).2 (aH js (aO js e).1)) w:=by
 obtain ⟨f,n,h1,h2,h3⟩:=h.sp;obtain ⟨kl,a⟩:=un he R.np;rw [h2.lookup a];obtain ⟨j,k,g1,g2⟩:=R.spot he;rw [g2];obtain ⟨_,hj,hk,g3,_⟩:=df g1;simp only [Nat.sub_zero] at hj hk g3;have:=h3 j k hj hk (Or.inl hj);rw [g3] at this;rw [this,cu hj]
end Go.Proofs.YtmkdgnmmebldgaaGreatDoor
