import Derived.Test.YtmkdgnmmebldgaaGreatDoorPt53
import Derived.Test.YtmkdgnmmebldgaaGreatDoorPt1
import Derived.Test.YtmkdgnmmebldgaaGreatDoorPt2
import Derived.BigQuiet
import Derived.Deep.DeepCutAuto
import Derived.LaidEql
import Derived.Stop.Asserts
import Derived.RowKitTokens
set_option maxRecDepth 100000
set_option maxHeartbeats 8000000
namespace Go.Proofs.YtmkdgnmmebldgaaGreatDoor
open Go.RowKit
def errV (code row col:Int):Value:=.iface 100 (.agg #[.int .i64 code,.iface 104 (.agg #[.int .i64 row,.int .i64 col])])
def errsV:Option (Int × Option (Int × Int))→Value
 | none=>.nilIface
 | some (c,none)=>.iface 100 (.agg #[.int .i64 c,.nilIface])
 | some (c,some (a,b))=>errV c a b
def wrongV:Option (Int × Option (Int × Int))→Value
 | none=>.agg #[.int .i64 0,.int .i64 0,.int .i64 0]
 | some (c,none)=>.agg #[.int .i64 c,.int .i64 0,.int .i64 0]
 | some (c,some (a,b))=>.agg #[.int .i64 c,.int .i64 a,.int .i64 b]
end Go.Proofs.YtmkdgnmmebldgaaGreatDoor
namespace Go.Proofs.YtmkdgnmmebldgaaGreatDoor
open Go.RowKit Go.Extern.Stop Go.Stop Go.Extern
def setTail:{g:Option (TypeId × Addr × Nat)→Option (TypeId × Addr × Nat)→Sem Value // ∀ v x,ReflectliteValue.set #[v,x]=(ReflectliteValue.parts v >>= fun p=>ReflectliteValue.parts x >>= fun q=>g p q)}:=⟨_,fun _ _=>rfl⟩
def metTail:{g:Sem Value→(TypeId→Addr→Nat→Nat→Sem Value)→Option (TypeId × Addr × Nat)→Sem Value // ∀ z f v,ReflectliteValue.method z f #[v]=(ReflectliteValue.parts v >>= fun p=>g z f p)}:=⟨_,fun _ _ _=>rfl⟩
theorem met_some (z:Sem Value)(f:TypeId→Addr→Nat→Nat→Sem Value)(t:TypeId)(a:Addr)(fl:Nat):metTail.1 z f (some (t,a,fl))=f t a fl (fl % 32):=rfl
theorem Tryz.methodKind (h : Value) (w : World) : (Go.method 448 240 (.agg #[h]) "Kind").run Tryz.prog w = .ok (206, h) w := by kernel_rfl
theorem Tryz.methodElem (h : Value) (w : World) : (Go.method 448 240 (.agg #[h]) "Elem").run Tryz.prog w = .ok (227, .agg #[h]) w := by kernel_rfl
theorem Tryz.methodImplements (h : Value) (w : World) : (Go.method 448 240 (.agg #[h]) "Implements").run Tryz.prog w = .ok (228, .agg #[h]) w := by kernel_rfl
theorem Tryz.methodAssignableTo (h : Value) (w : World) : (Go.method 448 240 (.agg #[h]) "AssignableTo").run Tryz.prog w = .ok (225, .agg #[h]) w := by kernel_rfl
theorem Tryz.valueOfAP (t:Addr)(w:World):(ReflectliteValue.unpack (.iface 102 (.pointer (some t)))).run Tryz.prog w = .ok (.agg #[.pointer (some ⟨4,102,none⟩),.pointer (some ⟨w.heap.size,0,none⟩),.int .u64 150]) (w.alloc (.cells #[.pointer (some t)] 102)):=by kernel_rfl
theorem Tryz.typeAP (a : Addr) (w : World) : (ReflectliteValue.methodAny (ReflectliteValue.valueError "reflectlite.Value.Type" 0) (fun t _ _ _ => ReflectliteType.toType t) #[.agg #[.pointer (some ⟨4, 102, none⟩), .pointer (some a), .int .u64 150]]).run Tryz.prog w = .ok (.iface 240 (.agg #[.pointer (some ⟨4, 102, none⟩)])) w := by kernel_rfl
theorem Tryz.kindAP (w:World):((ReflectliteType.abiMethod fun t=>Functor.map (fun a : Nat => Value.int IntKind.u8 (a : Int)) (Rtype.kind t)) #[.pointer (some ⟨4,102,none⟩)]).run Tryz.prog w = .ok (.int .u8 22) w:=by kernel_rfl
theorem Tryz.kindAE (w:World):((ReflectliteType.abiMethod fun t=>Functor.map (fun a : Nat => Value.int IntKind.u8 (a : Int)) (Rtype.kind t)) #[.pointer (some ⟨4,100,none⟩)]).run Tryz.prog w = .ok (.int .u8 25) w:=by kernel_rfl
theorem Tryz.partsAP (a:Addr)(w:World):(ReflectliteValue.parts (.agg #[.pointer (some ⟨4,102,none⟩),.pointer (some a),.int .u64 150])).run Tryz.prog w = .ok (some (102,a,150)) w:=by kernel_rfl
theorem Tryz.isNilAP (a p : Addr) (W : World) (ha : W.cell? a = some (.pointer (some p))) : (ReflectliteValue.method (ReflectliteValue.valueError "reflectlite.Value.IsNil" 0) ReflectliteValue.isNil #[.agg #[.pointer (some ⟨4, 102, none⟩), .pointer (some a), .int .u64 150]]).run Tryz.prog W = .ok (.bool false) W := by
 rw [metTail.2]
 simp only [Sem.run_bind,Tryz.partsAP,Result.andThen,met_some]
 simp [ReflectliteValue.isNil,loadVar,isAgg,underlying,Tryz.underlying102,ha,Result.andThen]
theorem Tryz.elemAP (w:World):(ReflectliteType.method ReflectliteType.elem #[.agg #[.pointer (some ⟨4,102,none⟩)]]).run Tryz.prog w = .ok (.iface 240 (.agg #[.pointer (some ⟨4,100,none⟩)])) w:=by kernel_rfl
theorem Tryz.implementsAE (w : World) : (ReflectliteType.relation "Implements" ReflectliteType.implements_ #[.agg #[.pointer (some ⟨4, 100, none⟩)], .iface 240 (.agg #[.pointer (some ⟨4, 97, none⟩)])]).run Tryz.prog w = .ok (.bool true) w := by kernel_rfl
theorem Tryz.typeOfAE (v:Value)(w:World):(ReflectliteType.typeOf #[.iface 100 v]).run Tryz.prog w = .ok (.iface 240 (.agg #[.pointer (some ⟨4,100,none⟩)])) w:=by kernel_rfl
theorem Tryz.assignableAE (w : World) : (ReflectliteType.relation "AssignableTo" ReflectliteType.assignableTo #[.agg #[.pointer (some ⟨4, 100, none⟩)], .iface 240 (.agg #[.pointer (some ⟨4, 100, none⟩)])]).run Tryz.prog w = .ok (.bool true) w := by kernel_rfl
theorem Tryz.valueOfAE (a b:Value)(w:World):(ReflectliteValue.unpack (.iface 100 (.agg #[a,b]))).run Tryz.prog w = .ok (.agg #[.pointer (some ⟨4,100,none⟩),.pointer (some ⟨w.heap.size,0,none⟩),.int .u64 153]) (w.alloc (.cells #[a,b] 100)):=by kernel_rfl
theorem Tryz.elemOfAP (w:World):(Rtype.elem? 102).run Tryz.prog w = .ok (some 100) w:=by kernel_rfl
theorem Tryz.mkAE (p:Addr)(w:World):(ReflectliteValue.mk 100 p ReflectliteValue.flagAddr).run Tryz.prog w = .ok (.agg #[.pointer (some ⟨4,100,none⟩),.pointer (some p),.int .u64 409]) w:=by kernel_rfl
theorem Tryz.elemVAP (a p : Addr) (W : World) (ha : W.cell? a = some (.pointer (some p))) : (ReflectliteValue.method (ReflectliteValue.valueError "reflectlite.Value.Elem" 0) ReflectliteValue.elem #[.agg #[.pointer (some ⟨4, 102, none⟩), .pointer (some a), .int .u64 150]]).run Tryz.prog W = .ok (.agg #[.pointer (some ⟨4, 100, none⟩), .pointer (some p), .int .u64 409]) W := by
 rw [metTail.2]
 simp only [Sem.run_bind,Tryz.partsAP,Result.andThen,met_some]
 simp [ReflectliteValue.elem,loadVar,isAgg,underlying,Tryz.underlying102,ha,Result.andThen,Tryz.elemOfAP,Tryz.mkAE]
theorem Tryz.partsAEa (a:Addr)(w:World):(ReflectliteValue.parts (.agg #[.pointer (some ⟨4,100,none⟩),.pointer (some a),.int .u64 409])).run Tryz.prog w = .ok (some (100,a,409)) w:=by kernel_rfl
theorem Tryz.partsAE (a:Addr)(w:World):(ReflectliteValue.parts (.agg #[.pointer (some ⟨4,100,none⟩),.pointer (some a),.int .u64 153])).run Tryz.prog w = .ok (some (100,a,153)) w:=by kernel_rfl
theorem Tryz.directAE (w:World):(Rtype.directlyAssignable 100 100).run Tryz.prog w = .ok true w:=by kernel_rfl
theorem Tryz.valueOfBP (t:Addr)(w:World):(ReflectliteValue.unpack (.iface 105 (.pointer (some t)))).run Tryz.prog w = .ok (.agg #[.pointer (some ⟨4,105,none⟩),.pointer (some ⟨w.heap.size,0,none⟩),.int .u64 150]) (w.alloc (.cells #[.pointer (some t)] 105)):=by kernel_rfl
theorem Tryz.typeBP (a : Addr) (w : World) : (ReflectliteValue.methodAny (ReflectliteValue.valueError "reflectlite.Value.Type" 0) (fun t _ _ _ => ReflectliteType.toType t) #[.agg #[.pointer (some ⟨4, 105, none⟩), .pointer (some a), .int .u64 150]]).run Tryz.prog w = .ok (.iface 240 (.agg #[.pointer (some ⟨4, 105, none⟩)])) w := by kernel_rfl
theorem Tryz.kindBP (w:World):((ReflectliteType.abiMethod fun t=>Functor.map (fun a : Nat => Value.int IntKind.u8 (a : Int)) (Rtype.kind t)) #[.pointer (some ⟨4,105,none⟩)]).run Tryz.prog w = .ok (.int .u8 22) w:=by kernel_rfl
theorem Tryz.kindBE (w:World):((ReflectliteType.abiMethod fun t=>Functor.map (fun a : Nat => Value.int IntKind.u8 (a : Int)) (Rtype.kind t)) #[.pointer (some ⟨4,104,none⟩)]).run Tryz.prog w = .ok (.int .u8 25) w:=by kernel_rfl
theorem Tryz.partsBP (a:Addr)(w:World):(ReflectliteValue.parts (.agg #[.pointer (some ⟨4,105,none⟩),.pointer (some a),.int .u64 150])).run Tryz.prog w = .ok (some (105,a,150)) w:=by kernel_rfl
theorem Tryz.isNilBP (a p : Addr) (W : World) (ha : W.cell? a = some (.pointer (some p))) : (ReflectliteValue.method (ReflectliteValue.valueError "reflectlite.Value.IsNil" 0) ReflectliteValue.isNil #[.agg #[.pointer (some ⟨4, 105, none⟩), .pointer (some a), .int .u64 150]]).run Tryz.prog W = .ok (.bool false) W := by
 rw [metTail.2]
 simp only [Sem.run_bind,Tryz.partsBP,Result.andThen,met_some]
 simp [ReflectliteValue.isNil,loadVar,isAgg,underlying,Tryz.underlying105,ha,Result.andThen]
theorem Tryz.elemBP (w:World):(ReflectliteType.method ReflectliteType.elem #[.agg #[.pointer (some ⟨4,105,none⟩)]]).run Tryz.prog w = .ok (.iface 240 (.agg #[.pointer (some ⟨4,104,none⟩)])) w:=by kernel_rfl
theorem Tryz.implementsBE (w : World) : (ReflectliteType.relation "Implements" ReflectliteType.implements_ #[.agg #[.pointer (some ⟨4, 104, none⟩)], .iface 240 (.agg #[.pointer (some ⟨4, 97, none⟩)])]).run Tryz.prog w = .ok (.bool true) w := by kernel_rfl
theorem Tryz.typeOfBE (v:Value)(w:World):(ReflectliteType.typeOf #[.iface 104 v]).run Tryz.prog w = .ok (.iface 240 (.agg #[.pointer (some ⟨4,104,none⟩)])) w:=by kernel_rfl
theorem Tryz.assignableBE (w : World) : (ReflectliteType.relation "AssignableTo" ReflectliteType.assignableTo #[.agg #[.pointer (some ⟨4, 104, none⟩)], .iface 240 (.agg #[.pointer (some ⟨4, 104, none⟩)])]).run Tryz.prog w = .ok (.bool true) w := by kernel_rfl
theorem Tryz.valueOfBE (a b:Value)(w:World):(ReflectliteValue.unpack (.iface 104 (.agg #[a,b]))).run Tryz.prog w = .ok (.agg #[.pointer (some ⟨4,104,none⟩),.pointer (some ⟨w.heap.size,0,none⟩),.int .u64 153]) (w.alloc (.cells #[a,b] 104)):=by kernel_rfl
theorem Tryz.elemOfBP (w:World):(Rtype.elem? 105).run Tryz.prog w = .ok (some 104) w:=by kernel_rfl
theorem Tryz.mkBE (p:Addr)(w:World):(ReflectliteValue.mk 104 p ReflectliteValue.flagAddr).run Tryz.prog w = .ok (.agg #[.pointer (some ⟨4,104,none⟩),.pointer (some p),.int .u64 409]) w:=by kernel_rfl
theorem Tryz.elemVBP (a p : Addr) (W : World) (ha : W.cell? a = some (.pointer (some p))) : (ReflectliteValue.method (ReflectliteValue.valueError "reflectlite.Value.Elem" 0) ReflectliteValue.elem #[.agg #[.pointer (some ⟨4, 105, none⟩), .pointer (some a), .int .u64 150]]).run Tryz.prog W = .ok (.agg #[.pointer (some ⟨4, 104, none⟩), .pointer (some p), .int .u64 409]) W := by
 rw [metTail.2]
 simp only [Sem.run_bind,Tryz.partsBP,Result.andThen,met_some]
 simp [ReflectliteValue.elem,loadVar,isAgg,underlying,Tryz.underlying105,ha,Result.andThen,Tryz.elemOfBP,Tryz.mkBE]
theorem Tryz.partsBEa (a:Addr)(w:World):(ReflectliteValue.parts (.agg #[.pointer (some ⟨4,104,none⟩),.pointer (some a),.int .u64 409])).run Tryz.prog w = .ok (some (104,a,409)) w:=by kernel_rfl
theorem Tryz.partsBE (a:Addr)(w:World):(ReflectliteValue.parts (.agg #[.pointer (some ⟨4,104,none⟩),.pointer (some a),.int .u64 153])).run Tryz.prog w = .ok (some (104,a,153)) w:=by kernel_rfl
theorem Tryz.directBE (w:World):(Rtype.directlyAssignable 104 104).run Tryz.prog w = .ok true w:=by kernel_rfl
theorem Tryz.assignableAB (w : World) : (ReflectliteType.relation "AssignableTo" ReflectliteType.assignableTo #[.agg #[.pointer (some ⟨4, 100, none⟩)], .iface 240 (.agg #[.pointer (some ⟨4, 104, none⟩)])]).run Tryz.prog w = .ok (.bool false) w := by kernel_rfl
theorem Tryz.setA (tg b:Nat)(x y o0 o1:Value)(W:World)(hx:x.oneCell'=true)(hy:y.oneCell'=true)(hb0:W.cell? ⟨b,0,none⟩=some x)(hb1:W.cell? ⟨b,1,none⟩=some y)(h0:W.cell? ⟨tg,0,none⟩=some o0)(h1:W.cell? ⟨tg,1,none⟩=some o1)(f0:W.frozen? ⟨tg,0,none⟩=false)(f1:W.frozen? ⟨tg,1,none⟩=false):
  (ReflectliteValue.set #[.agg #[.pointer (some ⟨4,100,none⟩),.pointer (some ⟨tg,0,none⟩),.int .u64 409],.agg #[.pointer (some ⟨4,100,none⟩),.pointer (some ⟨b,0,none⟩),.int .u64 153]]).run Tryz.prog W = .ok (.tuple #[]) ((W.setCell ⟨tg,0,none⟩ x).setCell ⟨tg,1,none⟩ y):=by
 rw [setTail.2]
 simp only [Sem.run_bind,Tryz.partsAEa,Tryz.partsAE,Result.andThen]
 simp [setTail,ReflectliteValue.flagAddr,loadVar,isAgg,underlying,Tryz.underlying100,Result.andThen,Tryz.directAE,storeVar,Value.cells,storeCells,Addr.add]
 simp [loadCells,loadCellsFrom,hb0,hb1,Addr.add]
 simp only [storeCells,Sem.run_bind,run_store _ _ _ _ _ hx,run_store _ _ _ _ _ hy,Result.andThen]
 simp [h0,f0,h1,f1,go_sem,Addr.add]
theorem Tryz.setB (tg b:Nat)(x y o0 o1:Value)(W:World)(hx:x.oneCell'=true)(hy:y.oneCell'=true)(hb0:W.cell? ⟨b,0,none⟩=some x)(hb1:W.cell? ⟨b,1,none⟩=some y)(h0:W.cell? ⟨tg,0,none⟩=some o0)(h1:W.cell? ⟨tg,1,none⟩=some o1)(f0:W.frozen? ⟨tg,0,none⟩=false)(f1:W.frozen? ⟨tg,1,none⟩=false):
  (ReflectliteValue.set #[.agg #[.pointer (some ⟨4,104,none⟩),.pointer (some ⟨tg,0,none⟩),.int .u64 409],.agg #[.pointer (some ⟨4,104,none⟩),.pointer (some ⟨b,0,none⟩),.int .u64 153]]).run Tryz.prog W = .ok (.tuple #[]) ((W.setCell ⟨tg,0,none⟩ x).setCell ⟨tg,1,none⟩ y):=by
 rw [setTail.2]
 simp only [Sem.run_bind,Tryz.partsBEa,Tryz.partsBE,Result.andThen]
 simp [setTail,ReflectliteValue.flagAddr,loadVar,isAgg,underlying,Tryz.underlying104,Result.andThen,Tryz.directBE,storeVar,Value.cells,storeCells,Addr.add]
 simp [loadCells,loadCellsFrom,hb0,hb1,Addr.add]
 simp only [storeCells,Sem.run_bind,run_store _ _ _ _ _ hx,run_store _ _ _ _ _ hy,Result.andThen]
 simp [h0,f0,h1,f1,go_sem,Addr.add]
theorem as_none (t:Value)(w:World):Calls Tryz.prog 42 #[.nilIface,t] w fun e w'=>e = .returned (.bool false)∧w'=w:=by
 go_enter Tryz.func42,Tryz.ntmps42
 go_wp2_with fail
 go_ret
 exact ⟨rfl,rfl⟩
theorem asInA (x y o0 o1:Value)(tg V:Nat)(w:World)(hx:x.oneCell'=true)(hy:y.oneCell'=true)(hv:w.cell? ⟨V,0,none⟩=some (.pointer (some ⟨tg,0,none⟩)))(h0:w.cell? ⟨tg,0,none⟩=some o0)(h1:w.cell? ⟨tg,1,none⟩=some o1)(f0:w.frozen? ⟨tg,0,none⟩=false)(f1:w.frozen? ⟨tg,1,none⟩=false):
  Calls Tryz.prog 92 #[.iface 100 (.agg #[x,y]),.iface 102 (.pointer (some ⟨tg,0,none⟩)),.agg #[.pointer (some ⟨4,102,none⟩),.pointer (some ⟨V,0,none⟩),.int .u64 150],.iface 240 (.agg #[.pointer (some ⟨4,100,none⟩)])] w fun e w'=>e = .returned (.bool true)∧w'.cell? ⟨tg,0,none⟩=some x∧w'.cell? ⟨tg,1,none⟩=some y∧Only (fun k=>k=tg) w w':=by
 have q1 := @run_callFunc_extern Tryz.prog 89 _ (fun args=>ReflectliteValue.unpack (args.getD 0 (.tuple #[]))) Tryz.func89 (by kernel_rfl) (by kernel_rfl) (by kernel_rfl) (by kernel_rfl)
 have q7 := @run_callFunc_extern Tryz.prog 124 _ ReflectliteType.typeOf Tryz.func124 (by kernel_rfl) (by kernel_rfl) (by kernel_rfl) (by kernel_rfl)
 have q8 := @run_callFunc_extern Tryz.prog 225 _ (ReflectliteType.relation "AssignableTo" ReflectliteType.assignableTo) Tryz.func225 (by kernel_rfl) (by kernel_rfl) (by kernel_rfl) (by kernel_rfl)
 have q9 := @run_callFunc_extern Tryz.prog 125 _ (ReflectliteValue.method (ReflectliteValue.valueError "reflectlite.Value.Elem" 0) ReflectliteValue.elem) Tryz.func125 (by kernel_rfl) (by kernel_rfl) (by kernel_rfl) (by kernel_rfl)
 have q10 := @run_callFunc_extern Tryz.prog 126 _ ReflectliteValue.set Tryz.func126 (by kernel_rfl) (by kernel_rfl) (by kernel_rfl) (by kernel_rfl)
 have tO:=Tryz.typeOfAE
 have mA:=Tryz.methodAssignableTo
 have aE:=Tryz.assignableAE
 have vE:=Tryz.valueOfAE
 have hvl:=cellLt hv
 have htl:=cellLt h0
 dsimp only at hvl htl
 obtain ⟨W1,hW1⟩:∃ W1,World.alloc w (.cells #[.pointer (some ⟨4,102,none⟩),.pointer (some ⟨V,0,none⟩),.int .u64 150] 163)=W1:=⟨_,rfl⟩
 have hb1:Below w.heap.size w W1:=by rw [← hW1];exact (Below.refl _ _).alloc (Nat.le_refl _) _
 have hz1:W1.heap.size=w.heap.size+1:=by rw [← hW1];simp
 obtain ⟨W2,hW2⟩:∃ W2,World.alloc W1 (.cells #[x,y] 100)=W2:=⟨_,rfl⟩
 have hb2:Below W1.heap.size W1 W2:=by rw [← hW2];exact (Below.refl _ _).alloc (Nat.le_refl _) _
 have el:=Tryz.elemVAP ⟨V,0,none⟩ ⟨tg,0,none⟩ W1 (cell_later hb1 hv)
 have st:=Tryz.setA tg W1.heap.size x y o0 o1 W2 hx hy (by rw [← hW2];simp [go_sem]) (by rw [← hW2];simp [go_sem]) (cell_later hb2 (cell_later hb1 h0)) (cell_later hb2 (cell_later hb1 h1)) ((hb2.frozen (p:=⟨tg,0,none⟩) (by show tg<W1.heap.size;omega)).trans ((hb1.frozen (p:=⟨tg,0,none⟩) htl).trans f0)) ((hb2.frozen (p:=⟨tg,1,none⟩) (by show tg<W1.heap.size;omega)).trans ((hb1.frozen (p:=⟨tg,1,none⟩) htl).trans f1))
 rw [hz1] at st
 rw [← hW2,← hW1] at st
 rw [← hW1] at el
 clear hb1 hb2 hz1 hW2 hW1
 clear W2 W1
 go_enter Tryz.func92,Tryz.ntmps92
 go_wp2_with fail
 refine wp_loop_rounds 1 ?_
 rw [rounds_succ]
 go_wp2_with fail
 go_ret
 refine ⟨rfl,?_,?_,(((Only.setCell (S:=fun k=>k=tg) (Only.refl _ _) (p:=⟨tg,0,none⟩) (Or.inl rfl) _).setCell (p:=⟨tg,1,none⟩) (Or.inl rfl) _).alloc _).alloc _⟩
 ·rw [World.cell?_alloc_lt _ _ ⟨tg,0,none⟩ (by simp;omega),World.cell?_alloc_lt _ _ ⟨tg,0,none⟩ (by simpa using htl),World.cell?_setCell_other _ _ _ _ (by simp)]
  exact World.cell?_setCell_same _ _ _ h0
 ·rw [World.cell?_alloc_lt _ _ ⟨tg,1,none⟩ (by simp;omega),World.cell?_alloc_lt _ _ ⟨tg,1,none⟩ (by simpa using htl)]
  exact World.cell?_setCell_same _ _ _ ((World.cell?_setCell_other _ _ _ _ (by simp)).trans h1)
theorem asA_hit (x y o0 o1:Value)(tg:Nat)(w:World)(hx:x.oneCell'=true)(hy:y.oneCell'=true)(hg:w.cell? ⟨0,0,none⟩=some (.iface 240 (.agg #[.pointer (some ⟨4,97,none⟩)])))(h0:w.cell? ⟨tg,0,none⟩=some o0)(h1:w.cell? ⟨tg,1,none⟩=some o1)(f0:w.frozen? ⟨tg,0,none⟩=false)(f1:w.frozen? ⟨tg,1,none⟩=false):
  Calls Tryz.prog 42 #[.iface 100 (.agg #[x,y]),.iface 102 (.pointer (some ⟨tg,0,none⟩))] w fun e w'=>e = .returned (.bool true)∧w'.cell? ⟨tg,0,none⟩=some x∧w'.cell? ⟨tg,1,none⟩=some y∧Only (fun k=>k=tg) w w':=by
 have q1 := @run_callFunc_extern Tryz.prog 89 _ (fun args=>ReflectliteValue.unpack (args.getD 0 (.tuple #[]))) Tryz.func89 (by kernel_rfl) (by kernel_rfl) (by kernel_rfl) (by kernel_rfl)
 have q2 := @run_callFunc_extern Tryz.prog 90 _ (ReflectliteValue.methodAny (ReflectliteValue.valueError "reflectlite.Value.Type" 0) (fun t _ _ _ => ReflectliteType.toType t)) Tryz.func90 (by kernel_rfl) (by kernel_rfl) (by kernel_rfl) (by kernel_rfl)
 have q3 := @run_callFunc_extern Tryz.prog 91 _ (ReflectliteValue.method (ReflectliteValue.valueError "reflectlite.Value.IsNil" 0) ReflectliteValue.isNil) Tryz.func91 (by kernel_rfl) (by kernel_rfl) (by kernel_rfl) (by kernel_rfl)
 have q4 := @run_callFunc_extern Tryz.prog 206 _ (ReflectliteType.abiMethod fun t=>do pure (.int .u8 (← Rtype.kind t))) Tryz.func206 (by kernel_rfl) (by kernel_rfl) (by kernel_rfl) (by kernel_rfl)
 have q5 := @run_callFunc_extern Tryz.prog 227 _ (ReflectliteType.method ReflectliteType.elem) Tryz.func227 (by kernel_rfl) (by kernel_rfl) (by kernel_rfl) (by kernel_rfl)
 have q6 := @run_callFunc_extern Tryz.prog 228 _ (ReflectliteType.relation "Implements" ReflectliteType.implements_) Tryz.func228 (by kernel_rfl) (by kernel_rfl) (by kernel_rfl) (by kernel_rfl)
 have mK:=Tryz.methodKind
 have mE:=Tryz.methodElem
 have mI:=Tryz.methodImplements
 have v0:=Tryz.valueOfAP
 have t0:=Tryz.typeAP
 have kP:=Tryz.kindAP
 have kE:=Tryz.kindAE
 have eP:=Tryz.elemAP
 have iE:=Tryz.implementsAE
 have hlt:=cellLt hg
 have htl:=cellLt h0
 dsimp only at hlt htl
 obtain ⟨W2,hW2⟩:∃ W2,World.alloc (World.alloc w (.cells #[.pointer (some ⟨tg,0,none⟩)] 102)) (.cells #[.pointer (some ⟨4,102,none⟩),.pointer (some ⟨w.heap.size,0,none⟩),.int .u64 150] 163)=W2:=⟨_,rfl⟩
 have hb2:Below w.heap.size w W2:=by rw [← hW2];exact ((Below.refl _ _).alloc (Nat.le_refl _) _).alloc (by simp) _
 have hvc:W2.cell? ⟨w.heap.size,0,none⟩=some (.pointer (some ⟨tg,0,none⟩)):=by rw [← hW2];simp [go_sem]
 have n8:=Tryz.isNilAP ⟨w.heap.size,0,none⟩ ⟨tg,0,none⟩ W2 hvc
 have hg2:=cell_later hb2 hg
 have HAS:=hidP (asInA x y o0 o1 tg w.heap.size W2 hx hy hvc (cell_later hb2 h0) (cell_later hb2 h1) ((hb2.frozen (p:=⟨tg,0,none⟩) htl).trans f0) ((hb2.frozen (p:=⟨tg,1,none⟩) htl).trans f1))
 have HB2:=hidP hb2
 rw [← hW2] at n8 hg2 HAS HB2
 clear hvc hb2 hW2
 clear W2
 go_enter Tryz.func42,Tryz.ntmps42
 go_wp2_with fail
 refine HAS.out.mono ?_
 clear HAS
 rintro e w3 ⟨rfl,c0,c1,ho⟩
 have HO:=hidP ho
 clear ho
 go_wp2_with fail
 go_ret
 exact ⟨rfl,c0,c1,(Only.of_below HB2.out).trans HO.out⟩
end Go.Proofs.YtmkdgnmmebldgaaGreatDoor
