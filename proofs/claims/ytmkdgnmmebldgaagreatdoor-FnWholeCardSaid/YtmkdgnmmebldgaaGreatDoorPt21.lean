import Derived.Test.YtmkdgnmmebldgaaGreatDoorPt5
import Derived.Maps.Own
import Derived.Maps.OwnOps
import Derived.Maps.Views
import Derived.WideKeyEntry
import Derived.DeepKeys4
import Derived.StringKeys
import Derived.RegionTactic
import Derived.Deep.RegionWith
import Derived.Deep.QuietTactic
import Derived.BigQuiet
import Derived.Test.YtmkdgnmmebldgaaGreatDoorPt20
set_option maxRecDepth 100000
set_option maxHeartbeats 8000000
namespace Go.Proofs.YtmkdgnmmebldgaaGreatDoor
open Go.RowKit Go.Maps
open Go.ChangeMaps (setBlock heap_setBlock_same)
theorem zeroI (w:World):(zeroValue 3).run Tryz.prog w = .ok (.int .i64 0) w:=by kernel_rfl
def CMap (kt:TypeId)(w:World)(b n:Nat)(f:Value→Int):Prop:=
 ∃ D:DataW Unit,w.ownsMap Tryz.prog kt (plainElem Tryz.prog 3) b n D∧IsMap D∧∀ key kl,keyOf Tryz.prog kt key=some kl→D.atKey kl (.lit (.int .i64 0)) = .lit (.int .i64 (f key))
theorem CMap.made (kt:TypeId)(w:World):CMap kt (w.alloc (.map #[] 0)) w.heap.size 0 (fun _=>0):=
 ⟨.map [],World.ownsMap_made w _ _ _,isMap_empty,fun _ _ _=>rfl⟩
theorem CMap.of_block {kt:TypeId}{w w':World}{b n:Nat}{f:Value→Int}(h:CMap kt w b n f)(e:w'.heap[b]? = w.heap[b]?):CMap kt w' b n f:=by
 obtain ⟨D,⟨es,clock,hb,r⟩,h2,h3⟩:=h
 exact ⟨D,⟨es,clock,e.trans hb,r⟩,h2,h3⟩
theorem CMap.lt {kt:TypeId}{w:World}{b n:Nat}{f:Value→Int}(h:CMap kt w b n f):b<w.heap.size:=by
 obtain ⟨D,h1,_⟩:=h
 exact h1.lt
theorem CMap.below {kt:TypeId}{w w':World}{b n:Nat}{f:Value→Int}(h:CMap kt w b n f)(hb:Below w.heap.size w w'):CMap kt w' b n f:=h.of_block (hb.block _ h.lt)
theorem CMap.lookup {kt t:TypeId}{w:World}{b n:Nat}{f:Value→Int}(h:CMap kt w b n f)(K:Keyed Tryz.prog kt)(ht:Tryz.prog.underlying t=some (.map kt 3)){key:Value}{kl:Lit}(hkey:keyOf Tryz.prog kt key=some kl):
  (Instr.lookup t (.map (some b)) key false).run Tryz.prog w = .ok (.int .i64 (f key)) w:=by
 obtain ⟨D,h1,_,h3⟩:=h
 obtain ⟨c,hrun,hat,_⟩:=h1.lookup_int K ht Tryz.underlying3 (zeroI w) hkey
 have e:=(h3 key kl hkey).symm.trans hat
 simp only [DataW.lit.injEq,Lit.int.injEq,true_and] at e
 rw [hrun,e]
theorem CMap.update {kt t:TypeId}{w:World}{b n:Nat}{f:Value→Int}(h:CMap kt w b n f)(K:Keyed Tryz.prog kt)(ht:Tryz.prog.underlying t=some (.map kt 3))(hn:n<maxLen){key:Value}{kl:Lit}(hkey:keyOf Tryz.prog kt key=some kl)
  (v:Int) (hv:(Lit.int .i64 v).wf=true) (f':Value→Int) (h1:f' key=v) (h2:∀ k,k≠key→f' k=f k) :
  ∃ w',(Instr.mapUpdate t (.map (some b)) key (.int .i64 v)).run Tryz.prog w = .ok () w'∧CMap kt w' b (n+1) f'∧w.grownBy w' (some b):=by
 obtain ⟨D,ho,hm,h3⟩:=h
 obtain ⟨w',hrun,hown,hg⟩:=ho.update K ht hn hkey (plainElem_int Tryz.underlying3 hv)
 refine ⟨w',hrun,⟨_,hown,hm.put _ _,fun k l hk=>?_⟩,hg⟩
 by_cases e:k=key
 ·subst e
  have:l=kl:=by rw [hk] at hkey;injection hkey
  subst this
  rw [atKey_put_same hm (K.key hk),h1]
 ·have hl:l≠kl:=by
   intro el
   rw [el] at hk
   exact e (K.inj hk hkey)
  rw [atKey_put_other hl,h3 k l hk,h2 k e]
theorem lawS:Keyed Tryz.prog 9:=string_keyed Tryz.underlying9
theorem keyS {s:ByteArray}(h:s.size≤maxLen):keyOf Tryz.prog 9 (.string s)=some (.string s.data.toList):=Go.WideMaps.keyOf_string_mk Tryz.underlying9 h
def cntS (l:List ByteArray)(s:ByteArray):Nat:=l.countP fun t=>decide (t=s)
def fS (l:List ByteArray):Value→Int
 | .string s=>cntS l s
 | _=>0
theorem fS_nil:fS []=fun _=>0:=by
 funext v
 cases v <;> rfl
theorem fS_same (l:List ByteArray)(s:ByteArray):fS (l++[s]) (.string s)=cntS l s+1:=by
 show ((cntS (l++[s]) s:Nat):Int)=_
 unfold cntS
 rw [List.countP_append]
 simp
theorem fS_other (l:List ByteArray)(s:ByteArray):∀ k,k≠.string s→fS (l++[s]) k=fS l k:=by
 intro k hk
 cases k <;> try rfl
 rename_i t
 have hne:¬ s=t:=fun e=>hk (by rw [e])
 show ((cntS (l++[s]) t:Nat):Int)=((cntS l t:Nat):Int)
 unfold cntS
 rw [List.countP_append]
 simp [hne]
theorem cntS_le (l:List ByteArray)(s:ByteArray):cntS l s≤l.length:=List.countP_le_length
theorem cntS_zero (l:List ByteArray)(s:ByteArray):cntS l s=0↔aheadB l s=false:=by
 unfold cntS aheadB
 rw [List.countP_eq_zero,List.any_eq_false]
theorem wf64 {v:Int}(h0:0≤v)(h1:v≤1000000000):(Lit.int .i64 v).wf=true:=WalkArith.wf_i64 (by omega)
end Go.Proofs.YtmkdgnmmebldgaaGreatDoor
namespace Go.Proofs.YtmkdgnmmebldgaaGreatDoor
open Go.RowKit Go.Maps
open Go.WideMaps (KeyLaw)
open Go.ChangeMaps (setBlock heap_setBlock_same)
theorem Tryz.laidOutB:laidOutB Tryz.prog=true:=by kernel_rfl
theorem Tryz.rowEnd:(114:TypeId)<Tryz.prog.types.size:=of_decide_eq_true (by kernel_rfl)
theorem lawKE:KeyLaw Tryz.prog 114:=deep_law_laid Tryz.laidOutB (m:=2) (by omega) Tryz.rowEnd (by kernel_rfl) (by rw [Tryz.underlying114])
theorem lawE:Keyed Tryz.prog 114:=Keyed.of_law lawKE
theorem Tryz.cellsEnd:Tryz.prog.cellsOf 114=2:=by kernel_rfl
theorem Tryz.cellsInt:Tryz.prog.cellsOf 3=1:=by kernel_rfl
theorem Tryz.keyTypeEnd:Tryz.prog.keyType 114=true:=by kernel_rfl
theorem keyE {p s:Int}(hp:(Lit.int .i64 p).wf=true)(hs:(Lit.int .i64 s).wf=true):∃ kl,keyOf Tryz.prog 114 (.agg #[.int .i64 p,.int .i64 s])=some kl:=by
 have hn:∃ m,Tryz.prog.types.size=m+1:=by
  have h:=Tryz.rowEnd
  revert h
  generalize Tryz.prog.types.size=n
  intro h
  cases n with
  | zero=>exact absurd h (Nat.not_lt_zero _)
  | succ m=>exact ⟨m,rfl⟩
 obtain ⟨m,hm⟩:=hn
 unfold keyOf
 simp only [Tryz.underlying114]
 rw [if_pos (by simp [Tryz.keyTypeEnd,Value.formed,Tryz.underlying114,Tryz.cellsEnd]),hm]
 unfold Program.keyLits
 simp only [Tryz.underlying114,Value.cells]
 rw [if_pos (by rw [Tryz.cellsEnd];exact ⟨rfl,by simp⟩)]
 simp [Tryz.cellsInt,Program.keyLits,Tryz.underlying3,hp,hs]
theorem setBlock_twice (w:World)(b:Nat)(x y:Obj):setBlock (setBlock w b x) b y=setBlock w b y:=by
 unfold setBlock
 simp
theorem ok_world {α:Type}{a a':α}{w w':World}(h:Result.ok a w=Result.ok a' w'):w=w':=by injection h
theorem ok_value {α:Type}{a a':α}{w w':World}(h:Result.ok a w=Result.ok a' w'):a=a':=by injection h
theorem int_value {a b:Int}(h:Value.int .i64 a=Value.int .i64 b):a=b:=by injection h
theorem entry_core {H:Type}{P:Program}{kt it t:TypeId}{w:World}{b:Nat}{es:Array MapEntry}{clock:Nat}{R:Value→Option (DataW H × List MemPlace)}(K:KeyLaw P kt)(ht:P.underlying t=some (.map kt it)){z:Value}(hz:∀ u:World,(zeroValue it).run P u = .ok z u)
  (hb:w.heap[b]? = some (.map es clock)) (F:WideElems.Fit P kt R es clock) {key:Value} {kl:Lit} (hkey:keyOf P kt key=some kl) :
  ∃ (v0:Value) (st:Nat) (w1:World),(Instr.mapEntry t (.map (some b)) key).run P w = .ok (.tuple #[v0,goInt st]) w1 ∧
   (w1.heap[b]? = w.heap[b]? ∨ (Instr.mapUpdate t (.map (some b)) key z).run P w = .ok () w1∧(Instr.lookup t (.map (some b)) key false).run P w = .ok z w) ∧
   ∀ val,∃ w2,(Instr.entryStore t (.map (some b)) (goInt st) val).run P w1 = .ok () w2∧(Instr.mapUpdate t (.map (some b)) key val).run P w = .ok () w2:=by
 obtain ⟨v0,st,es1,clock1,hme,_,hst⟩:=WideElems.entry_then_store K ht hz hb F hkey
 refine ⟨v0,st,setBlock w b (.map es1 clock1),hme,?_,fun val=>?_⟩
 ·rcases K.find w hkey es.toList F.keys with ⟨g1,g2⟩ | ⟨j,e0,g1,g2,g3⟩
  ·right
   have r1:(Instr.mapEntry t (.map (some b)) key).run P w = .ok (.tuple #[z,goInt clock]) (setBlock w b (.map (es.push ⟨key,z,clock⟩) (clock+1))):=by
    simp [Instr.mapEntry,run_underlying ht,MapKept.run_getObj_map hb,K.check w false hkey,g1,hz,MapKept.run_setObj_map _ hb,Result.andThen,setBlock]
   have r2:(Instr.mapUpdate t (.map (some b)) key z).run P w = .ok () (setBlock w b (.map (es.push ⟨key,z,clock⟩) (clock+1))):=by
    simp [Instr.mapUpdate,run_underlying ht,MapKept.run_getObj_map hb,K.check w false hkey,g1,MapKept.run_setObj_map _ hb,Result.andThen,setBlock]
   have e1:=ok_world (r1.symm.trans hme)
   rw [← e1]
   refine ⟨r2,?_⟩
   simp [Instr.lookup,run_underlying ht,MapKept.run_getObj_map hb,K.check w es.isEmpty hkey,g1,hz,Result.andThen]
  ·left
   have hj:es[j]? = some e0:=by simpa using g2
   have hsame:es.modify j (fun e=>{ e with key:=key })=es:=by
    apply Array.ext'
    rw [Array.toList_modify]
    apply List.ext_getElem?
    intro i
    rw [List.getElem?_modify]
    by_cases e:j=i
    ·subst e
     rw [g2]
     simp [← g3]
    ·simp [e]
   have r1:(Instr.mapEntry t (.map (some b)) key).run P w = .ok (.tuple #[e0.val,goInt e0.born]) (setBlock w b (.map es clock)):=by
    simp [Instr.mapEntry,run_underlying ht,MapKept.run_getObj_map hb,K.check w false hkey,g1,hj,g3,K.stays w hkey,hsame,MapKept.run_setObj_map _ hb,Result.andThen,setBlock]
   have e1:=ok_world (r1.symm.trans hme)
   rw [← e1,heap_setBlock_same hb,hb]
 ·obtain ⟨es',clock',hes,hmu⟩:=hst (setBlock w b (.map es1 clock1)) val (heap_setBlock_same hb _)
  rw [setBlock_twice] at hes
  exact ⟨_,hes,hmu⟩
theorem CMap.mono {kt:TypeId}{w:World}{b n n':Nat}{f:Value→Int}(h:CMap kt w b n f)(hn:n≤n'):CMap kt w b n' f:=by
 obtain ⟨D,h1,h2⟩:=h
 exact ⟨D,h1.mono hn,h2⟩
theorem CMap.entry {kt t:TypeId}{w:World}{b n:Nat}{f:Value→Int}(h:CMap kt w b n f)(K:KeyLaw Tryz.prog kt)(ht:Tryz.prog.underlying t=some (.map kt 3))(hn:n<maxLen){key:Value}{kl:Lit}(hkey:keyOf Tryz.prog kt key=some kl)
  (v:Int) (hv:(Lit.int .i64 v).wf=true) (f':Value→Int) (h1:f' key=v) (h2:∀ k,k≠key→f' k=f k) :
  ∃ (v0:Value) (st:Nat) (w1 w2:World),(Instr.mapEntry t (.map (some b)) key).run Tryz.prog w = .ok (.tuple #[v0,.int .i64 st]) w1 ∧
   (Instr.lookup t (.map (some b)) key false).run Tryz.prog w1 = .ok (.int .i64 (f key)) w1 ∧
   (Instr.entryStore t (.map (some b)) (.int .i64 st) (.int .i64 v)).run Tryz.prog w1 = .ok () w2∧CMap kt w2 b (n+1) f'∧w.grownBy w2 (some b):=by
 have Kd:=Keyed.of_law K
 have hlook:=h.lookup Kd ht hkey
 obtain ⟨w',hup,hC,hg⟩:=h.update Kd ht hn hkey v hv f' h1 h2
 have h0:=h
 obtain ⟨D,⟨es,clock,hb,F,hs,hD⟩,hm,h3⟩:=h
 obtain ⟨v0,st,w1,hme,hor,hst⟩:=entry_core K ht zeroI hb F hkey
 obtain ⟨w2,hes,hmu⟩:=hst (.int .i64 v)
 have e2:=ok_world (hmu.symm.trans hup)
 refine ⟨v0,st,w1,w',hme,?_,e2 ▸ hes,hC,hg⟩
 have hC1:CMap kt w1 b (n+1) f:=by
  rcases hor with e | ⟨r2,r3⟩
  ·exact (h0.of_block e).mono (Nat.le_succ n)
  ·have hz:f key=0:=int_value (ok_value (hlook.symm.trans r3))
   obtain ⟨w3,hup3,hC3,_⟩:=h0.update Kd ht hn hkey 0 (by decide) f hz (fun _ _=>rfl)
   have e3:=ok_world (hup3.symm.trans r2)
   exact e3 ▸ hC3
 exact hC1.lookup Kd ht hkey
end Go.Proofs.YtmkdgnmmebldgaaGreatDoor
namespace Go.Proofs.YtmkdgnmmebldgaaGreatDoor
open Go.RowKit
section
variable {P:Program} (w:World)
theorem run_typeAssert_hit (xt t:TypeId)(v:Value)(fs:Array Field)(hu:P.underlying t=some (.struct fs)):
  (Instr.typeAssert (.iface t v) xt t true).run P w = .ok (.tuple #[v,.bool true]) w:=by
 simp [Instr.typeAssert,run_underlying hu]
theorem run_typeAssert_miss (xt t t':TypeId)(v z:Value)(i:TypeInfo)(fs:Array Field)(hu:P.underlying t=some (.struct fs))(hne:t'≠t)(hi:P.info? t=some i)(hz:i.zero=some z):
  (Instr.typeAssert (.iface t' v) xt t true).run P w = .ok (.tuple #[z,.bool false]) w:=by
 simp [Instr.typeAssert,run_underlying hu,hne,zeroValue,typeInfo,hi,hz]
end
theorem Tryz.zeroS:(Tryz.prog.info? 207).map (·.zero)=some (some (.agg #[])):=by kernel_rfl
theorem Tryz.zeroC:(Tryz.prog.info? 208).map (·.zero)=some (some (.agg #[])):=by kernel_rfl
theorem missS (w:World)(xt t':TypeId)(hne:t'≠207):(Instr.typeAssert (.iface t' (.agg #[])) xt 207 true).run Tryz.prog w = .ok (.tuple #[.agg #[],.bool false]) w:=by
 obtain ⟨i,hi,hz⟩:=Option.map_eq_some_iff.1 Tryz.zeroS
 exact run_typeAssert_miss w xt _ t' _ _ i _ Tryz.underlying207 hne hi hz
theorem missC (w:World)(xt t':TypeId)(hne:t'≠208):(Instr.typeAssert (.iface t' (.agg #[])) xt 208 true).run Tryz.prog w = .ok (.tuple #[.agg #[],.bool false]) w:=by
 obtain ⟨i,hi,hz⟩:=Option.map_eq_some_iff.1 Tryz.zeroC
 exact run_typeAssert_miss w xt _ t' _ _ i _ Tryz.underlying208 hne hi hz
def kindT (k:Int):Nat:=if k=1 then 205 else if k=2 then 206 else if k=3 then 207 else 208
theorem kindOf_1 (w:World):Calls Tryz.prog 81 #[.int .i64 1] w fun e w'=>e = .returned (.tuple #[.iface 205 (.agg #[]),.bool true])∧w'=w:=by
 go_enter Tryz.func81,Tryz.ntmps81
 go_wp2
 go_ret2
 exact ⟨rfl,rfl⟩
theorem kindOf_2 (w:World):Calls Tryz.prog 81 #[.int .i64 2] w fun e w'=>e = .returned (.tuple #[.iface 206 (.agg #[]),.bool true])∧w'=w:=by
 go_enter Tryz.func81,Tryz.ntmps81
 go_wp2
 go_ret2
 exact ⟨rfl,rfl⟩
theorem kindOf_3 (w:World):Calls Tryz.prog 81 #[.int .i64 3] w fun e w'=>e = .returned (.tuple #[.iface 207 (.agg #[]),.bool true])∧w'=w:=by
 go_enter Tryz.func81,Tryz.ntmps81
 go_wp2
 go_ret2
 exact ⟨rfl,rfl⟩
theorem kindOf_4 (w:World):Calls Tryz.prog 81 #[.int .i64 4] w fun e w'=>e = .returned (.tuple #[.iface 208 (.agg #[]),.bool true])∧w'=w:=by
 go_enter Tryz.func81,Tryz.ntmps81
 go_wp2
 go_ret2
 exact ⟨rfl,rfl⟩
theorem kindOf_no (k:Int)(h:inB k 1 4=false)(w:World):Calls Tryz.prog 81 #[.int .i64 k] w fun e w'=>e = .returned (.tuple #[.nilIface,.bool false])∧w'=w:=by
 have h1:(k==1)=false∧(k==2)=false∧(k==3)=false∧(k==4)=false:=by
  unfold inB at h
  simp only [decide_eq_false_iff_not,beq_eq_false_iff_ne] at h ⊢
  omega
 obtain ⟨h1,h2,h3,h4⟩:=h1
 clear h
 go_enter Tryz.func81,Tryz.ntmps81
 go_wp2
 go_ret2
 exact ⟨rfl,rfl⟩
theorem endCount_1 (w:World):Calls Tryz.prog 217 #[.agg #[]] w fun e w'=>e = .returned (.int .i64 1)∧Below w.heap.size w w':=by
 go_enter Tryz.func217,Tryz.ntmps217
 go_wp2
 go_ret
 exact ⟨rfl,blo⟩
theorem endCount_2 (w:World):Calls Tryz.prog 219 #[.agg #[]] w fun e w'=>e = .returned (.int .i64 2)∧Below w.heap.size w w':=by
 go_enter Tryz.func219,Tryz.ntmps219
 go_wp2
 go_ret
 exact ⟨rfl,blo⟩
theorem endCount_3 (w:World):Calls Tryz.prog 221 #[.agg #[]] w fun e w'=>e = .returned (.int .i64 3)∧Below w.heap.size w w':=by
 go_enter Tryz.func221,Tryz.ntmps221
 go_wp2
 go_ret
 exact ⟨rfl,blo⟩
theorem endCount_4 (w:World):Calls Tryz.prog 223 #[.agg #[]] w fun e w'=>e = .returned (.int .i64 4)∧Below w.heap.size w w':=by
 go_enter Tryz.func223,Tryz.ntmps223
 go_wp2
 go_ret
 exact ⟨rfl,blo⟩
theorem hasName_1 (w:World):Calls Tryz.prog 130 #[.iface 205 (.agg #[])] w fun e w'=>e = .returned (.bool false)∧w'=w:=by
 have hs:=missS w 149 205 (by decide)
 have hc:=missC w 149 205 (by decide)
 go_enter Tryz.func130,Tryz.ntmps130
 go_wp2
 go_ret
 exact ⟨rfl,rfl⟩
theorem hasName_2 (w:World):Calls Tryz.prog 130 #[.iface 206 (.agg #[])] w fun e w'=>e = .returned (.bool false)∧w'=w:=by
 have hs:=missS w 149 206 (by decide)
 have hc:=missC w 149 206 (by decide)
 go_enter Tryz.func130,Tryz.ntmps130
 go_wp2
 go_ret
 exact ⟨rfl,rfl⟩
theorem hasName_3 (w:World):Calls Tryz.prog 130 #[.iface 207 (.agg #[])] w fun e w'=>e = .returned (.bool true)∧w'=w:=by
 have hs:=run_typeAssert_hit (P:=Tryz.prog) w 149 207 (.agg #[]) _ Tryz.underlying207
 have hc:=missC w 149 207 (by decide)
 go_enter Tryz.func130,Tryz.ntmps130
 go_wp2
 go_ret
 exact ⟨rfl,rfl⟩
theorem hasName_4 (w:World):Calls Tryz.prog 130 #[.iface 208 (.agg #[])] w fun e w'=>e = .returned (.bool true)∧w'=w:=by
 have hs:=missS w 149 208 (by decide)
 have hc:=run_typeAssert_hit (P:=Tryz.prog) w 149 208 (.agg #[]) _ Tryz.underlying208
 go_enter Tryz.func130,Tryz.ntmps130
 go_wp2
 go_ret
 exact ⟨rfl,rfl⟩
end Go.Proofs.YtmkdgnmmebldgaaGreatDoor
namespace Go.Proofs.YtmkdgnmmebldgaaGreatDoor
open Go.RowKit Go.Deep Go.Maps
open Go.ChangeMaps (setBlock heap_setBlock_same)
def spotV (j t:Nat)(k:Int):Value:=.agg #[.int .i64 (j:Int),.int .i64 (t:Int),.iface (kindT k) (.agg #[])]
def zspot:Value:=.agg #[.int .i64 0,.int .i64 0,.nilIface]
theorem zeroSp (w:World):(zeroValue 153).run Tryz.prog w = .ok zspot w:=by kernel_rfl
theorem endV_inj {a b:MEnd}(h:endV a=endV b):a=b:=by
 cases a
 cases b
 simpa [endV] using h
def SMap (w:World)(b n:Nat)(f:Value→Value):Prop:=
 ∃ D:DataW Value,w.ownsMap Tryz.prog 114 (fun v=>some (.held v,[])) b n D∧IsMap D∧∀ key kl,keyOf Tryz.prog 114 key=some kl→D.atKey kl (.held zspot) = .held (f key)
theorem SMap.made (w:World):SMap (w.alloc (.map #[] 0)) w.heap.size 0 (fun _=>zspot):=
 ⟨.map [],World.ownsMap_made w _ _ _,isMap_empty,fun _ _ _=>rfl⟩
theorem SMap.of_block {w w':World}{b n:Nat}{f:Value→Value}(h:SMap w b n f)(e:w'.heap[b]? = w.heap[b]?):SMap w' b n f:=by
 obtain ⟨D,⟨es,clock,hb,r⟩,h2,h3⟩:=h
 exact ⟨D,⟨es,clock,e.trans hb,r⟩,h2,h3⟩
theorem SMap.lt {w:World}{b n:Nat}{f:Value→Value}(h:SMap w b n f):b<w.heap.size:=by
 obtain ⟨D,h1,_⟩:=h
 exact h1.lt
theorem SMap.below {w w':World}{b n:Nat}{f:Value→Value}(h:SMap w b n f)(hb:Below w.heap.size w w'):SMap w' b n f:=h.of_block (hb.block _ h.lt)
theorem SMap.lookup {w:World}{b n:Nat}{f:Value→Value}(h:SMap w b n f){key:Value}{kl:Lit}(hkey:keyOf Tryz.prog 114 key=some kl):
  (Instr.lookup 145 (.map (some b)) key false).run Tryz.prog w = .ok (f key) w:=by
 obtain ⟨D,h1,_,h3⟩:=h
 obtain ⟨v,q,hrun,hv⟩:=h1.lookup lawE Tryz.underlying145 (zeroSp w) rfl hkey
 have e:=h3 key kl hkey
 simp only [Option.some.injEq,Prod.mk.injEq] at hv
 rw [hrun]
 have e2:=hv.1.trans e
 simp only [DataW.held.injEq] at e2
 rw [e2]
open Classical in
theorem SMap.update {w:World}{b n:Nat}{f:Value→Value}(h:SMap w b n f)(hn:n<maxLen){key:Value}{kl:Lit}(hkey:keyOf Tryz.prog 114 key=some kl)(v:Value):
  ∃ w' f',(Instr.mapUpdate 145 (.map (some b)) key v).run Tryz.prog w = .ok () w'∧SMap w' b (n+1) f'∧f' key=v∧(∀ k,k≠key→f' k=f k)∧w.grownBy w' (some b):=by
 obtain ⟨D,ho,hm,h3⟩:=h
 obtain ⟨w',hrun,hown,hg⟩:=ho.update lawE Tryz.underlying145 hn hkey (val:=v) rfl
 refine ⟨w',fun k=>if k=key then v else f k,hrun,⟨_,hown,hm.put _ _,fun k l hk=>?_⟩,by simp,fun k hk=>by simp [hk],hg⟩
 by_cases e:k=key
 ·subst e
  have:l=kl:=by rw [hk] at hkey;injection hkey
  subst this
  rw [atKey_put_same hm (lawE.key hk)]
  simp
 ·have hl:l≠kl:=by
   intro el
   rw [el] at hk
   exact e (lawE.inj hk hkey)
  rw [atKey_put_other hl,h3 k l hk]
  simp [e]
theorem count_one {α:Type}{f:α→Bool}:∀ {l:List α} {i j:Nat} (hi:i<l.length) (hj:j<l.length),l.countP f≤1→f l[i]=true→f l[j]=true→i=j
 | [],i,_,hi,_,_,_,_=>absurd hi (Nat.not_lt_zero i)
 | a::r,0,0,_,_,_,_,_=>rfl
 | a::r,0,j+1,_,hj,h,h1,h2=>by
  simp only [List.getElem_cons_zero] at h1
  simp only [List.getElem_cons_succ] at h2
  rw [List.countP_cons,if_pos h1] at h
  have h0:r.countP f=0:=by omega
  rw [List.countP_eq_zero] at h0
  exact absurd h2 (h0 _ (List.getElem_mem _))
 | a::r,i+1,0,hi,_,h,h1,h2=>by
  simp only [List.getElem_cons_zero] at h2
  simp only [List.getElem_cons_succ] at h1
  rw [List.countP_cons,if_pos h2] at h
  have h0:r.countP f=0:=by omega
  rw [List.countP_eq_zero] at h0
  exact absurd h1 (h0 _ (List.getElem_mem _))
 | a::r,i+1,j+1,hi,hj,h,h1,h2=>by
  simp only [List.getElem_cons_succ] at h1 h2
  rw [List.countP_cons] at h
  have:=count_one (l:=r) (i:=i) (j:=j) (by simpa using hi) (by simpa using hj) (by split at h <;> omega) h1 h2
  rw [this]
theorem sameE_refl (e:MEnd):sameE e e=true:=sameE_iff.2 rfl
theorem usesIn_same (l:List MEnd)(e:MEnd):usesIn l e.piece e.side=l.countP (fun x=>sameE x e):=by
 unfold usesIn sameE
 rfl
theorem spotF_uniq (e:MEnd):∀ (js:List MJoint) (n:Nat),usesIn (js.flatMap (·.ends)) e.piece e.side=1→∀ (j k:Nat) (hj:j<js.length) (hk:k<js[j].ends.length),js[j].ends[k]=e→spotF js e n=some (n+j,k)
 | [],_,_,j,_,hj,_,_=>absurd hj (Nat.not_lt_zero j)
 | a::r,n,h,j,k,hj,hk,he=>by
  rw [usesIn_same,List.flatMap_cons,List.countP_append] at h
  simp only [spotF]
  cases hf:a.ends.findIdx? (fun x=>sameE x e) with
  | some k0 =>
   obtain ⟨g1,g2,_⟩:=List.findIdx?_eq_some_iff_getElem.1 hf
   have hp:0<a.ends.countP (fun x=>sameE x e):=List.countP_pos_iff.2 ⟨_,List.getElem_mem g1,g2⟩
   have hr:(r.flatMap (·.ends)).countP (fun x=>sameE x e)=0:=by omega
   cases j with
   | zero =>
    simp only [List.getElem_cons_zero] at hk he
    have:=count_one (f:=fun x=>sameE x e) g1 hk (by omega) g2 (by rw [he];exact sameE_refl e)
    simp [this]
   | succ j =>
    simp only [List.getElem_cons_succ] at hk he
    rw [List.countP_eq_zero] at hr
    exact absurd (sameE_refl e) (hr e (List.mem_flatMap.2 ⟨_,List.getElem_mem _,by rw [← he];exact List.getElem_mem hk⟩))
  | none =>
   have hn:=List.findIdx?_eq_none_iff.1 hf
   have h0:a.ends.countP (fun x=>sameE x e)=0:=by
    rw [List.countP_eq_zero]
    intro x hx
    rw [hn x hx]
    simp
   cases j with
   | zero =>
    simp only [List.getElem_cons_zero] at hk he
    have:=hn _ (List.getElem_mem hk)
    rw [he,sameE_refl] at this
    simp at this
   | succ j =>
    simp only [List.getElem_cons_succ] at hk he
    have:=spotF_uniq e r (n+1) (by rw [usesIn_same];omega) j k (by simpa using hj) hk he
    show spotF r e (n+1)=_
    rw [this]
    congr 2
    omega
theorem Right.uniq {ps:List MPiece}{js:List MJoint}{ss:List MPiece}(R:Right ps js ss){j k:Nat}(hj:j<js.length)(hk:k<js[j].ends.length):spotF js js[j].ends[k] 0=some (j,k):=by
 obtain ⟨p,hp,h1,h2⟩:=R.ends j hj k hk
 have hu:usesIn (js.flatMap (·.ends)) js[j].ends[k].piece js[j].ends[k].side=1:=by
  rw [h1]
  rcases h2 with h2 | h2 <;> rw [h2]
  ·exact (R.uses p hp).1
  ·exact (R.uses p hp).2
 have:=spotF_uniq _ js 0 hu j k hj hk rfl
 simpa using this
def SpotsTo (w:World)(b:Nat)(js:List MJoint)(k m:Nat):Prop:=
 ∃ (f:Value→Value) (n:Nat),n≤4*k+m∧SMap w b n f∧∀ i q (hi:i<js.length) (hq:q<js[i].ends.length),i<k∨(i=k∧q<m)→f (endV js[i].ends[q])=spotV i q js[i].kind
theorem SpotsTo.below {w w':World}{b:Nat}{js:List MJoint}{k m:Nat}(h:SpotsTo w b js k m)(hb:Below w.heap.size w w'):SpotsTo w' b js k m:=by
 obtain ⟨f,n,h1,h2,h3⟩:=h
 exact ⟨f,n,h1,h2.below hb,h3⟩
theorem SpotsTo.next {w:World}{b:Nat}{js:List MJoint}{k m:Nat}(h:SpotsTo w b js k m)(hk:k<js.length)(hm:m=js[k].ends.length)(h4:m≤4):SpotsTo w b js (k+1) 0:=by
 obtain ⟨f,n,h1,h2,h3⟩:=h
 refine ⟨f,n,by omega,h2,fun i q hi hq h=>h3 i q hi hq ?_⟩
 by_cases e:i=k
 ·subst e
  exact Or.inr ⟨rfl,by omega⟩
 ·exact Or.inl (by omega)
theorem keyEnd {ps:List MPiece}{e:MEnd}(he:ValidE ps e)(hn:ps.length≤100):∃ kl,keyOf Tryz.prog 114 (endV e)=some kl:=by
 obtain ⟨p,hp,h1,h2⟩:=he
 unfold endV
 rw [h1]
 exact keyE (wf64 (by omega) (by omega)) (by rcases h2 with h2 | h2 <;> rw [h2] <;> decide)
theorem SpotsTo.put {ps:List MPiece}{js:List MJoint}{ss:List MPiece}(R:Right ps js ss){w:World}{b k m:Nat}(h:SpotsTo w b js k m)(hk:k<js.length)(hm:m<js[k].ends.length):
  ∃ w',(Instr.mapUpdate 145 (.map (some b)) (endV js[k].ends[m]) (spotV k m js[k].kind)).run Tryz.prog w = .ok () w'∧SpotsTo w' b js k (m+1)∧w.grownBy w' (some b):=by
 obtain ⟨f,n,h1,h2,h3⟩:=h
 obtain ⟨kl,hkey⟩:=keyEnd (R.ends k hk m hm) R.np
 have h4:=(R.kind k hk).2
 have h5:=R.nj
 obtain ⟨w',f',g1,g2,g3,g4,g5⟩:=h2.update (by unfold maxLen;omega) hkey (spotV k m js[k].kind)
 refine ⟨w',g1,⟨f',n+1,by omega,g2,fun i q hi hq hh=>?_⟩,g5⟩
 by_cases e:i=k∧q=m
 ·obtain ⟨rfl,rfl⟩:=e
  exact g3
 ·rw [g4 _ (fun e2=>?_)]
  ·exact h3 i q hi hq (by omega)
  ·have e3:=endV_inj e2
   have u1:=R.uniq hi hq
   have u2:=R.uniq hk hm
   rw [e3] at u1
   have:=u1.symm.trans u2
   simp at this
   exact e this
theorem kindOf_any (k:Int)(h1:1≤k)(h4:k≤4)(w:World):Calls Tryz.prog 81 #[.int .i64 k] w fun e w'=>e = .returned (.tuple #[.iface (kindT k) (.agg #[]),.bool true])∧w'=w:=by
 have:k=1∨k=2∨k=3∨k=4:=by omega
 rcases this with rfl | rfl | rfl | rfl
 ·exact kindOf_1 w
 ·exact kindOf_2 w
 ·exact kindOf_3 w
 ·exact kindOf_4 w
structure TTrack (w:World)(K M:Nat)(pa ja sa:Option Addr)(pc jc sc:Nat)(ps:List MPiece)(js:List MJoint)(ss:List MPiece):Prop where
 net:TNet w K pa ja sa pc jc sc ps js ss
 c3:w.cell? ⟨K,3,none⟩=some (.map (some M))
 sp:SpotsTo w M js js.length 0
theorem TTrack.below {w w':World}{K M:Nat}{pa ja sa:Option Addr}{pc jc sc:Nat}{ps:List MPiece}{js:List MJoint}{ss:List MPiece}(h:TTrack w K M pa ja sa pc jc sc ps js ss)(hb:Below w.heap.size w w'):TTrack w' K M pa ja sa pc jc sc ps js ss:=
 ⟨h.net.below hb,cell_later hb h.c3,h.sp.below hb⟩
theorem TTrack.lookup {w:World}{K M:Nat}{pa ja sa:Option Addr}{pc jc sc:Nat}{ps:List MPiece}{js:List MJoint}{ss:List MPiece}(h:TTrack w K M pa ja sa pc jc sc ps js ss)(R:Right ps js ss){e:MEnd}(he:ValidE ps e):
  (Instr.lookup 145 (.map (some M)) (endV e) false).run Tryz.prog w = .ok (spotV (spotE js e).1 (spotE js e).2 (kindE js (spotE js e).1)) w:=by
 obtain ⟨f,n,h1,h2,h3⟩:=h.sp
 obtain ⟨kl,hkey⟩:=keyEnd he R.np
 rw [h2.lookup hkey]
 obtain ⟨j,k,g1,g2⟩:=R.spot he
 rw [g2]
 obtain ⟨_,hj,hk,g3,_⟩:=spotF_some g1
 simp only [Nat.sub_zero] at hj hk g3
 have:=h3 j k hj hk (Or.inl hj)
 rw [g3] at this
 rw [this,kindE_at hj]
end Go.Proofs.YtmkdgnmmebldgaaGreatDoor
