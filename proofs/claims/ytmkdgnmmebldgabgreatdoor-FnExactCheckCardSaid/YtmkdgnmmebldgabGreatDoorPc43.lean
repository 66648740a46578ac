import Derived.Test.YtmkdgnmmebldgabGreatDoorPc42
import Derived.LaidEql
import Derived.Stop.Asserts
import Derived.RowKitTokens
set_option maxRecDepth 100000
set_option maxHeartbeats 8000000
namespace Go.Proofs.YtmkdgnmmebldgabGreatDoor
open Go.RowKit Go.Extern.Stop Go.Stop Go.Extern
def setTail:{g:Option (TypeId × Addr × Nat)→Option (TypeId × Addr × Nat)→Sem Value // ∀ v x,ReflectliteValue.set #[v,x]=(ReflectliteValue.parts v >>= fun p=>ReflectliteValue.parts x >>= fun q=>g p q)}:=⟨_,fun _ _=>rfl⟩
def metTail:{g:Sem Value→(TypeId→Addr→Nat→Nat→Sem Value)→Option (TypeId × Addr × Nat)→Sem Value // ∀ z f v,ReflectliteValue.method z f #[v]=(ReflectliteValue.parts v >>= fun p=>g z f p)}:=⟨_,fun _ _ _=>rfl⟩
theorem met_some (z:Sem Value)(f:TypeId→Addr→Nat→Nat→Sem Value)(t:TypeId)(a:Addr)(fl:Nat):metTail.1 z f (some (t,a,fl))=f t a fl (fl % 32):=rfl
theorem Tryz.methodKind (h : Value) (w : World) : (Go.method 494 231 (.agg #[h]) "Kind").run Tryz.prog w = .ok (237, h) w := by kernel_rfl
theorem Tryz.methodElem (h : Value) (w : World) : (Go.method 494 231 (.agg #[h]) "Elem").run Tryz.prog w = .ok (250, .agg #[h]) w := by kernel_rfl
theorem Tryz.methodImplements (h : Value) (w : World) : (Go.method 494 231 (.agg #[h]) "Implements").run Tryz.prog w = .ok (251, .agg #[h]) w := by kernel_rfl
theorem Tryz.methodAssignableTo (h : Value) (w : World) : (Go.method 494 231 (.agg #[h]) "AssignableTo").run Tryz.prog w = .ok (248, .agg #[h]) w := by kernel_rfl
theorem Tryz.valueOfAP (t:Addr)(w:World):(ReflectliteValue.unpack (.iface 93 (.pointer (some t)))).run Tryz.prog w = .ok (.agg #[.pointer (some ⟨4,93,none⟩),.pointer (some ⟨w.heap.size,0,none⟩),.int .u64 150]) (w.alloc (.cells #[.pointer (some t)] 93)):=by kernel_rfl
theorem Tryz.typeAP (a : Addr) (w : World) : (ReflectliteValue.methodAny (ReflectliteValue.valueError "reflectlite.Value.Type" 0) (fun t _ _ _ => ReflectliteType.toType t) #[.agg #[.pointer (some ⟨4, 93, none⟩), .pointer (some a), .int .u64 150]]).run Tryz.prog w = .ok (.iface 231 (.agg #[.pointer (some ⟨4, 93, none⟩)])) w := by kernel_rfl
theorem Tryz.kindAP (w:World):((ReflectliteType.abiMethod fun t=>Functor.map (fun a : Nat => Value.int IntKind.u8 (a : Int)) (Rtype.kind t)) #[.pointer (some ⟨4,93,none⟩)]).run Tryz.prog w = .ok (.int .u8 22) w:=by kernel_rfl
theorem Tryz.kindAE (w:World):((ReflectliteType.abiMethod fun t=>Functor.map (fun a : Nat => Value.int IntKind.u8 (a : Int)) (Rtype.kind t)) #[.pointer (some ⟨4,91,none⟩)]).run Tryz.prog w = .ok (.int .u8 25) w:=by kernel_rfl
theorem Tryz.partsAP (a:Addr)(w:World):(ReflectliteValue.parts (.agg #[.pointer (some ⟨4,93,none⟩),.pointer (some a),.int .u64 150])).run Tryz.prog w = .ok (some (93,a,150)) w:=by kernel_rfl
theorem Tryz.isNilAP (a p : Addr) (W : World) (ha : W.cell? a = some (.pointer (some p))) : (ReflectliteValue.method (ReflectliteValue.valueError "reflectlite.Value.IsNil" 0) ReflectliteValue.isNil #[.agg #[.pointer (some ⟨4, 93, none⟩), .pointer (some a), .int .u64 150]]).run Tryz.prog W = .ok (.bool false) W := by
 rw [metTail.2]
 simp only [Sem.run_bind,Tryz.partsAP,Result.andThen,met_some]
 simp [ReflectliteValue.isNil,loadVar,isAgg,underlying,Tryz.underlying93,ha,Result.andThen]
theorem Tryz.elemAP (w:World):(ReflectliteType.method ReflectliteType.elem #[.agg #[.pointer (some ⟨4,93,none⟩)]]).run Tryz.prog w = .ok (.iface 231 (.agg #[.pointer (some ⟨4,91,none⟩)])) w:=by kernel_rfl
theorem Tryz.implementsAE (w : World) : (ReflectliteType.relation "Implements" ReflectliteType.implements_ #[.agg #[.pointer (some ⟨4, 91, none⟩)], .iface 231 (.agg #[.pointer (some ⟨4, 88, none⟩)])]).run Tryz.prog w = .ok (.bool true) w := by kernel_rfl
theorem Tryz.typeOfAE (v:Value)(w:World):(ReflectliteType.typeOf #[.iface 91 v]).run Tryz.prog w = .ok (.iface 231 (.agg #[.pointer (some ⟨4,91,none⟩)])) w:=by kernel_rfl
theorem Tryz.assignableAE (w : World) : (ReflectliteType.relation "AssignableTo" ReflectliteType.assignableTo #[.agg #[.pointer (some ⟨4, 91, none⟩)], .iface 231 (.agg #[.pointer (some ⟨4, 91, none⟩)])]).run Tryz.prog w = .ok (.bool true) w := by kernel_rfl
theorem Tryz.valueOfAE (a b:Value)(w:World):(ReflectliteValue.unpack (.iface 91 (.agg #[a,b]))).run Tryz.prog w = .ok (.agg #[.pointer (some ⟨4,91,none⟩),.pointer (some ⟨w.heap.size,0,none⟩),.int .u64 153]) (w.alloc (.cells #[a,b] 91)):=by kernel_rfl
theorem Tryz.elemOfAP (w:World):(Rtype.elem? 93).run Tryz.prog w = .ok (some 91) w:=by kernel_rfl
theorem Tryz.mkAE (p:Addr)(w:World):(ReflectliteValue.mk 91 p ReflectliteValue.flagAddr).run Tryz.prog w = .ok (.agg #[.pointer (some ⟨4,91,none⟩),.pointer (some p),.int .u64 409]) w:=by kernel_rfl
theorem Tryz.elemVAP (a p : Addr) (W : World) (ha : W.cell? a = some (.pointer (some p))) : (ReflectliteValue.method (ReflectliteValue.valueError "reflectlite.Value.Elem" 0) ReflectliteValue.elem #[.agg #[.pointer (some ⟨4, 93, none⟩), .pointer (some a), .int .u64 150]]).run Tryz.prog W = .ok (.agg #[.pointer (some ⟨4, 91, none⟩), .pointer (some p), .int .u64 409]) W := by
 rw [metTail.2]
 simp only [Sem.run_bind,Tryz.partsAP,Result.andThen,met_some]
 simp [ReflectliteValue.elem,loadVar,isAgg,underlying,Tryz.underlying93,ha,Result.andThen,Tryz.elemOfAP,Tryz.mkAE]
theorem Tryz.partsAEa (a:Addr)(w:World):(ReflectliteValue.parts (.agg #[.pointer (some ⟨4,91,none⟩),.pointer (some a),.int .u64 409])).run Tryz.prog w = .ok (some (91,a,409)) w:=by kernel_rfl
theorem Tryz.partsAE (a:Addr)(w:World):(ReflectliteValue.parts (.agg #[.pointer (some ⟨4,91,none⟩),.pointer (some a),.int .u64 153])).run Tryz.prog w = .ok (some (91,a,153)) w:=by kernel_rfl
theorem Tryz.directAE (w:World):(Rtype.directlyAssignable 91 91).run Tryz.prog w = .ok true w:=by kernel_rfl
theorem Tryz.valueOfBP (t:Addr)(w:World):(ReflectliteValue.unpack (.iface 96 (.pointer (some t)))).run Tryz.prog w = .ok (.agg #[.pointer (some ⟨4,96,none⟩),.pointer (some ⟨w.heap.size,0,none⟩),.int .u64 150]) (w.alloc (.cells #[.pointer (some t)] 96)):=by kernel_rfl
theorem Tryz.typeBP (a : Addr) (w : World) : (ReflectliteValue.methodAny (ReflectliteValue.valueError "reflectlite.Value.Type" 0) (fun t _ _ _ => ReflectliteType.toType t) #[.agg #[.pointer (some ⟨4, 96, none⟩), .pointer (some a), .int .u64 150]]).run Tryz.prog w = .ok (.iface 231 (.agg #[.pointer (some ⟨4, 96, none⟩)])) w := by kernel_rfl
theorem Tryz.kindBP (w:World):((ReflectliteType.abiMethod fun t=>Functor.map (fun a : Nat => Value.int IntKind.u8 (a : Int)) (Rtype.kind t)) #[.pointer (some ⟨4,96,none⟩)]).run Tryz.prog w = .ok (.int .u8 22) w:=by kernel_rfl
theorem Tryz.kindBE (w:World):((ReflectliteType.abiMethod fun t=>Functor.map (fun a : Nat => Value.int IntKind.u8 (a : Int)) (Rtype.kind t)) #[.pointer (some ⟨4,95,none⟩)]).run Tryz.prog w = .ok (.int .u8 25) w:=by kernel_rfl
theorem Tryz.partsBP (a:Addr)(w:World):(ReflectliteValue.parts (.agg #[.pointer (some ⟨4,96,none⟩),.pointer (some a),.int .u64 150])).run Tryz.prog w = .ok (some (96,a,150)) w:=by kernel_rfl
theorem Tryz.isNilBP (a p : Addr) (W : World) (ha : W.cell? a = some (.pointer (some p))) : (ReflectliteValue.method (ReflectliteValue.valueError "reflectlite.Value.IsNil" 0) ReflectliteValue.isNil #[.agg #[.pointer (some ⟨4, 96, none⟩), .pointer (some a), .int .u64 150]]).run Tryz.prog W = .ok (.bool false) W := by
 rw [metTail.2]
 simp only [Sem.run_bind,Tryz.partsBP,Result.andThen,met_some]
 simp [ReflectliteValue.isNil,loadVar,isAgg,underlying,Tryz.underlying96,ha,Result.andThen]
theorem Tryz.elemBP (w:World):(ReflectliteType.method ReflectliteType.elem #[.agg #[.pointer (some ⟨4,96,none⟩)]]).run Tryz.prog w = .ok (.iface 231 (.agg #[.pointer (some ⟨4,95,none⟩)])) w:=by kernel_rfl
theorem Tryz.implementsBE (w : World) : (ReflectliteType.relation "Implements" ReflectliteType.implements_ #[.agg #[.pointer (some ⟨4, 95, none⟩)], .iface 231 (.agg #[.pointer (some ⟨4, 88, none⟩)])]).run Tryz.prog w = .ok (.bool true) w := by kernel_rfl
theorem Tryz.typeOfBE (v:Value)(w:World):(ReflectliteType.typeOf #[.iface 95 v]).run Tryz.prog w = .ok (.iface 231 (.agg #[.pointer (some ⟨4,95,none⟩)])) w:=by kernel_rfl
theorem Tryz.assignableBE (w : World) : (ReflectliteType.relation "AssignableTo" ReflectliteType.assignableTo #[.agg #[.pointer (some ⟨4, 95, none⟩)], .iface 231 (.agg #[.pointer (some ⟨4, 95, none⟩)])]).run Tryz.prog w = .ok (.bool true) w := by kernel_rfl
theorem Tryz.valueOfBE (a b:Value)(w:World):(ReflectliteValue.unpack (.iface 95 (.agg #[a,b]))).run Tryz.prog w = .ok (.agg #[.pointer (some ⟨4,95,none⟩),.pointer (some ⟨w.heap.size,0,none⟩),.int .u64 153]) (w.alloc (.cells #[a,b] 95)):=by kernel_rfl
theorem Tryz.elemOfBP (w:World):(Rtype.elem? 96).run Tryz.prog w = .ok (some 95) w:=by kernel_rfl
theorem Tryz.mkBE (p:Addr)(w:World):(ReflectliteValue.mk 95 p ReflectliteValue.flagAddr).run Tryz.prog w = .ok (.agg #[.pointer (some ⟨4,95,none⟩),.pointer (some p),.int .u64 409]) w:=by kernel_rfl
theorem Tryz.elemVBP (a p : Addr) (W : World) (ha : W.cell? a = some (.pointer (some p))) : (ReflectliteValue.method (ReflectliteValue.valueError "reflectlite.Value.Elem" 0) ReflectliteValue.elem #[.agg #[.pointer (some ⟨4, 96, none⟩), .pointer (some a), .int .u64 150]]).run Tryz.prog W = .ok (.agg #[.pointer (some ⟨4, 95, none⟩), .pointer (some p), .int .u64 409]) W := by
 rw [metTail.2]
 simp only [Sem.run_bind,Tryz.partsBP,Result.andThen,met_some]
 simp [ReflectliteValue.elem,loadVar,isAgg,underlying,Tryz.underlying96,ha,Result.andThen,Tryz.elemOfBP,Tryz.mkBE]
theorem Tryz.partsBEa (a:Addr)(w:World):(ReflectliteValue.parts (.agg #[.pointer (some ⟨4,95,none⟩),.pointer (some a),.int .u64 409])).run Tryz.prog w = .ok (some (95,a,409)) w:=by kernel_rfl
theorem Tryz.partsBE (a:Addr)(w:World):(ReflectliteValue.parts (.agg #[.pointer (some ⟨4,95,none⟩),.pointer (some a),.int .u64 153])).run Tryz.prog w = .ok (some (95,a,153)) w:=by kernel_rfl
theorem Tryz.directBE (w:World):(Rtype.directlyAssignable 95 95).run Tryz.prog w = .ok true w:=by kernel_rfl
theorem Tryz.assignableAB (w : World) : (ReflectliteType.relation "AssignableTo" ReflectliteType.assignableTo #[.agg #[.pointer (some ⟨4, 91, none⟩)], .iface 231 (.agg #[.pointer (some ⟨4, 95, none⟩)])]).run Tryz.prog w = .ok (.bool false) w := by kernel_rfl
end Go.Proofs.YtmkdgnmmebldgabGreatDoor
