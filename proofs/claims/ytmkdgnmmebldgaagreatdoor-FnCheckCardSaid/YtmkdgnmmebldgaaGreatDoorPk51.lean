import Derived.Test.YtmkdgnmmebldgaaGreatDoorPk49
import Derived.LaidEql
import Derived.Stop.Asserts
import Derived.RowKitTokens
set_option maxRecDepth 100000
set_option maxHeartbeats 8000000
open Go.Proofs.Tryz
namespace Go.Proofs.YtmkdgnmmebldgaaGreatDoor
open Go.RowKit Go.Extern.Stop Go.Stop Go.Extern
def n6:{g:Option (TypeId × Addr × Nat)->Option (TypeId × Addr × Nat)->Sem Value // ∀ v x,ReflectliteValue.set #[v,x]=(ReflectliteValue.parts v >>= fun p=>ReflectliteValue.parts x >>= fun q=>g p q)}:=⟨_,fun _ _=>rfl⟩
def lq:{g:Sem Value->(TypeId->Addr->Nat->Nat->Sem Value)->Option (TypeId × Addr × Nat)->Sem Value // ∀ z f v,ReflectliteValue.method z f #[v]=(ReflectliteValue.parts v >>= fun p=>g z f p)}:=⟨_,fun _ _ _=>rfl⟩
theorem lJ (z:Sem Value)(f:TypeId->Addr->Nat->Nat->Sem Value)(t:TypeId)(a:Addr)(fl:Nat):lq.1 z f (some (t,a,fl))=f t a fl (fl % 32):=rfl
theorem Tryz.methodKind (h : Value) (w : World) : (Go.method 448 240 (.agg #[h]) "Kind").run prog w = .ok (206, h) w := by kernel_rfl
theorem Tryz.methodElem (h : Value) (w : World) : (Go.method 448 240 (.agg #[h]) "Elem").run prog w = .ok (227, .agg #[h]) w := by kernel_rfl
theorem Tryz.methodImplements (h : Value) (w : World) : (Go.method 448 240 (.agg #[h]) "Implements").run prog w = .ok (228, .agg #[h]) w := by kernel_rfl
theorem Tryz.methodAssignableTo (h : Value) (w : World) : (Go.method 448 240 (.agg #[h]) "AssignableTo").run prog w = .ok (225, .agg #[h]) w := by kernel_rfl
theorem Tryz.valueOfAP (t:Addr)(w:World):(ReflectliteValue.unpack (.iface 102 (.pointer (some t)))).run prog w = .ok (.agg #[.pointer (some ⟨4,102,none⟩),.pointer (some ⟨w.heap.size,0,none⟩),.int .u64 150]) (w.alloc (.cells #[.pointer (some t)] 102)):=CH
theorem Tryz.typeAP (a : Addr) (w : World) : (ReflectliteValue.methodAny (ReflectliteValue.valueError "reflectlite.Value.Type" 0) (fun t _ _ _ => ReflectliteType.toType t) #[.agg #[.pointer (some ⟨4, 102, none⟩), .pointer (some a), .int .u64 150]]).run prog w = .ok (.iface 240 (.agg #[.pointer (some ⟨4, 102, none⟩)])) w := by kernel_rfl
theorem Tryz.kindAP (w:World):((ReflectliteType.abiMethod fun t=>Functor.map (fun a:Nat=>Value.int IntKind.u8 (a:Int)) (Rtype.kind t)) #[.pointer (some ⟨4,102,none⟩)]).run prog w = .ok (.int .u8 22) w:=CH
theorem Tryz.kindAE (w:World):((ReflectliteType.abiMethod fun t=>Functor.map (fun a:Nat=>Value.int IntKind.u8 (a:Int)) (Rtype.kind t)) #[.pointer (some ⟨4,100,none⟩)]).run prog w = .ok (.int .u8 25) w:=CH
theorem Tryz.partsAP (a:Addr)(w:World):(ReflectliteValue.parts (.agg #[.pointer (some ⟨4,102,none⟩),.pointer (some a),.int .u64 150])).run prog w = .ok (some (102,a,150)) w:=CH
theorem Tryz.isNilAP (a p : Addr) (W : World) (ha : W.cell? a = some (.pointer (some p))) : (ReflectliteValue.method (ReflectliteValue.valueError "reflectlite.Value.IsNil" 0) ReflectliteValue.isNil #[.agg #[.pointer (some ⟨4, 102, none⟩), .pointer (some a), .int .u64 150]]).run prog W = .ok (.bool false) W := by
 rw [lq.2];simp only [Sem.run_bind,Tryz.partsAP,Result.andThen,lJ];simp [ReflectliteValue.isNil,loadVar,isAgg,underlying,underlying102,ha,Result.andThen]
theorem Tryz.elemAP (w:World):(ReflectliteType.method ReflectliteType.elem #[.agg #[.pointer (some ⟨4,102,none⟩)]]).run prog w = .ok (.iface 240 (.agg #[.pointer (some ⟨4,100,none⟩)])) w:=CH
theorem Tryz.implementsAE (w : World) : (ReflectliteType.relation "Implements" ReflectliteType.implements_ #[.agg #[.pointer (some ⟨4, 100, none⟩)], .iface 240 (.agg #[.pointer (some ⟨4, 97, none⟩)])]).run prog w = .ok (.bool true) w := by kernel_rfl
theorem Tryz.typeOfAE (v:Value)(w:World):(ReflectliteType.typeOf #[.iface 100 v]).run prog w = .ok (.iface 240 (.agg #[.pointer (some ⟨4,100,none⟩)])) w:=CH
theorem Tryz.assignableAE (w : World) : (ReflectliteType.relation "AssignableTo" ReflectliteType.assignableTo #[.agg #[.pointer (some ⟨4, 100, none⟩)], .iface 240 (.agg #[.pointer (some ⟨4, 100, none⟩)])]).run prog w = .ok (.bool true) w := by kernel_rfl
theorem Tryz.valueOfAE (a b:Value)(w:World):(ReflectliteValue.unpack (.iface 100 (.agg #[a,b]))).run prog w = .ok (.agg #[.pointer (some ⟨4,100,none⟩),.pointer (some ⟨w.heap.size,0,none⟩),.int .u64 153]) (w.alloc (.cells #[a,b] 100)):=CH
theorem Tryz.elemOfAP (w:World):(Rtype.elem? 102).run prog w = .ok (some 100) w:=CH
theorem Tryz.mkAE (p:Addr)(w:World):(ReflectliteValue.mk 100 p ReflectliteValue.flagAddr).run prog w = .ok (.agg #[.pointer (some ⟨4,100,none⟩),.pointer (some p),.int .u64 409]) w:=CH
theorem Tryz.elemVAP (a p : Addr) (W : World) (ha : W.cell? a = some (.pointer (some p))) : (ReflectliteValue.method (ReflectliteValue.valueError "reflectlite.Value.Elem" 0) ReflectliteValue.elem #[.agg #[.pointer (some ⟨4, 102, none⟩), .pointer (some a), .int .u64 150]]).run prog W = .ok (.agg #[.pointer (some ⟨4, 100, none⟩), .pointer (some p), .int .u64 409]) W := by
 rw [lq.2];simp only [Sem.run_bind,Tryz.partsAP,Result.andThen,lJ];simp [ReflectliteValue.elem,loadVar,isAgg,underlying,underlying102,ha,Result.andThen,Tryz.elemOfAP,Tryz.mkAE]
theorem Tryz.partsAEa (a:Addr)(w:World):(ReflectliteValue.parts (.agg #[.pointer (some ⟨4,100,none⟩),.pointer (some a),.int .u64 409])).run prog w = .ok (some (100,a,409)) w:=CH
theorem Tryz.partsAE (a:Addr)(w:World):(ReflectliteValue.parts (.agg #[.pointer (some ⟨4,100,none⟩),.pointer (some a),.int .u64 153])).run prog w = .ok (some (100,a,153)) w:=CH
theorem Tryz.directAE (w:World):(Rtype.directlyAssignable 100 100).run prog w = .ok true w:=CH
theorem Tryz.valueOfBP (t:Addr)(w:World):(ReflectliteValue.unpack (.iface 105 (.pointer (some t)))).run prog w = .ok (.agg #[.pointer (some ⟨4,105,none⟩),.pointer (some ⟨w.heap.size,0,none⟩),.int .u64 150]) (w.alloc (.cells #[.pointer (some t)] 105)):=CH
theorem Tryz.typeBP (a : Addr) (w : World) : (ReflectliteValue.methodAny (ReflectliteValue.valueError "reflectlite.Value.Type" 0) (fun t _ _ _ => ReflectliteType.toType t) #[.agg #[.pointer (some ⟨4, 105, none⟩), .pointer (some a), .int .u64 150]]).run prog w = .ok (.iface 240 (.agg #[.pointer (some ⟨4, 105, none⟩)])) w := by kernel_rfl
theorem Tryz.kindBP (w:World):((ReflectliteType.abiMethod fun t=>Functor.map (fun a:Nat=>Value.int IntKind.u8 (a:Int)) (Rtype.kind t)) #[.pointer (some ⟨4,105,none⟩)]).run prog w = .ok (.int .u8 22) w:=CH
theorem Tryz.kindBE (w:World):((ReflectliteType.abiMethod fun t=>Functor.map (fun a:Nat=>Value.int IntKind.u8 (a:Int)) (Rtype.kind t)) #[.pointer (some ⟨4,104,none⟩)]).run prog w = .ok (.int .u8 25) w:=CH
theorem Tryz.partsBP (a:Addr)(w:World):(ReflectliteValue.parts (.agg #[.pointer (some ⟨4,105,none⟩),.pointer (some a),.int .u64 150])).run prog w = .ok (some (105,a,150)) w:=CH
theorem Tryz.isNilBP (a p : Addr) (W : World) (ha : W.cell? a = some (.pointer (some p))) : (ReflectliteValue.method (ReflectliteValue.valueError "reflectlite.Value.IsNil" 0) ReflectliteValue.isNil #[.agg #[.pointer (some ⟨4, 105, none⟩), .pointer (some a), .int .u64 150]]).run prog W = .ok (.bool false) W := by
 rw [lq.2];simp only [Sem.run_bind,Tryz.partsBP,Result.andThen,lJ];simp [ReflectliteValue.isNil,loadVar,isAgg,underlying,underlying105,ha,Result.andThen]
theorem Tryz.elemBP (w:World):(ReflectliteType.method ReflectliteType.elem #[.agg #[.pointer (some ⟨4,105,none⟩)]]).run prog w = .ok (.iface 240 (.agg #[.pointer (some ⟨4,104,none⟩)])) w:=CH
theorem Tryz.implementsBE (w : World) : (ReflectliteType.relation "Implements" ReflectliteType.implements_ #[.agg #[.pointer (some ⟨4, 104, none⟩)], .iface 240 (.agg #[.pointer (some ⟨4, 97, none⟩)])]).run prog w = .ok (.bool true) w := by kernel_rfl
theorem Tryz.typeOfBE (v:Value)(w:World):(ReflectliteType.typeOf #[.iface 104 v]).run prog w = .ok (.iface 240 (.agg #[.pointer (some ⟨4,104,none⟩)])) w:=CH
theorem Tryz.assignableBE (w : World) : (ReflectliteType.relation "AssignableTo" ReflectliteType.assignableTo #[.agg #[.pointer (some ⟨4, 104, none⟩)], .iface 240 (.agg #[.pointer (some ⟨4, 104, none⟩)])]).run prog w = .ok (.bool true) w := by kernel_rfl
theorem Tryz.valueOfBE (a b:Value)(w:World):(ReflectliteValue.unpack (.iface 104 (.agg #[a,b]))).run prog w = .ok (.agg #[.pointer (some ⟨4,104,none⟩),.pointer (some ⟨w.heap.size,0,none⟩),.int .u64 153]) (w.alloc (.cells #[a,b] 104)):=CH
theorem Tryz.elemOfBP (w:World):(Rtype.elem? 105).run prog w = .ok (some 104) w:=CH
theorem Tryz.mkBE (p:Addr)(w:World):(ReflectliteValue.mk 104 p ReflectliteValue.flagAddr).run prog w = .ok (.agg #[.pointer (some ⟨4,104,none⟩),.pointer (some p),.int .u64 409]) w:=CH
theorem Tryz.elemVBP (a p : Addr) (W : World) (ha : W.cell? a = some (.pointer (some p))) : (ReflectliteValue.method (ReflectliteValue.valueError "reflectlite.Value.Elem" 0) ReflectliteValue.elem #[.agg #[.pointer (some ⟨4, 105, none⟩), .pointer (some a), .int .u64 150]]).run prog W = .ok (.agg #[.pointer (some ⟨4, 104, none⟩), .pointer (some p), .int .u64 409]) W := by
 rw [lq.2];simp only [Sem.run_bind,Tryz.partsBP,Result.andThen,lJ];simp [ReflectliteValue.elem,loadVar,isAgg,underlying,underlying105,ha,Result.andThen,Tryz.elemOfBP,Tryz.mkBE]
theorem Tryz.partsBEa (a:Addr)(w:World):(ReflectliteValue.parts (.agg #[.pointer (some ⟨4,104,none⟩),.pointer (some a),.int .u64 409])).run prog w = .ok (some (104,a,409)) w:=CH
theorem Tryz.partsBE (a:Addr)(w:World):(ReflectliteValue.parts (.agg #[.pointer (some ⟨4,104,none⟩),.pointer (some a),.int .u64 153])).run prog w = .ok (some (104,a,153)) w:=CH
theorem Tryz.directBE (w:World):(Rtype.directlyAssignable 104 104).run prog w = .ok true w:=CH
theorem Tryz.assignableAB (w : World) : (ReflectliteType.relation "AssignableTo" ReflectliteType.assignableTo #[.agg #[.pointer (some ⟨4, 100, none⟩)], .iface 240 (.agg #[.pointer (some ⟨4, 104, none⟩)])]).run prog w = .ok (.bool false) w := by kernel_rfl
theorem Tryz.setA (tg b:Nat)(x y o0 o1:Value)(W:World)(hx:x.oneCell'=true)(hy:y.oneCell'=true)(hb0:W.cell? ⟨b,0,none⟩=some x)(hb1:W.cell? ⟨b,1,none⟩=some y)(h0:W.cell? ⟨tg,0,none⟩=some o0)(h1:W.cell? ⟨tg,1,none⟩=some o1)(f0:W.frozen? ⟨tg,0,none⟩=false)(f1:W.frozen? ⟨tg,1,none⟩=false):
  (ReflectliteValue.set #[.agg #[.pointer (some ⟨4,100,none⟩),.pointer (some ⟨tg,0,none⟩),.int .u64 409],.agg #[.pointer (some ⟨4,100,none⟩),.pointer (some ⟨b,0,none⟩),.int .u64 153]]).run prog W = .ok (.tuple #[]) ((W.setCell ⟨tg,0,none⟩ x).setCell ⟨tg,1,none⟩ y):=by
 rw [n6.2];simp only [Sem.run_bind,Tryz.partsAEa,Tryz.partsAE,Result.andThen];simp [n6,ReflectliteValue.flagAddr,loadVar,isAgg,underlying,underlying100,Result.andThen,Tryz.directAE,storeVar,Value.cells,storeCells,Addr.add];simp [loadCells,loadCellsFrom,hb0,hb1,Addr.add];simp only [storeCells,Sem.run_bind,run_store _ _ _ _ _ hx,run_store _ _ _ _ _ hy,Result.andThen];simp [h0,f0,h1,f1,go_sem,Addr.add]
theorem Tryz.setB (tg b:Nat)(x y o0 o1:Value)(W:World)(hx:x.oneCell'=true)(hy:y.oneCell'=true)(hb0:W.cell? ⟨b,0,none⟩=some x)(hb1:W.cell? ⟨b,1,none⟩=some y)(h0:W.cell? ⟨tg,0,none⟩=some o0)(h1:W.cell? ⟨tg,1,none⟩=some o1)(f0:W.frozen? ⟨tg,0,none⟩=false)(f1:W.frozen? ⟨tg,1,none⟩=false):
  (ReflectliteValue.set #[.agg #[.pointer (some ⟨4,104,none⟩),.pointer (some ⟨tg,0,none⟩),.int .u64 409],.agg #[.pointer (some ⟨4,104,none⟩),.pointer (some ⟨b,0,none⟩),.int .u64 153]]).run prog W = .ok (.tuple #[]) ((W.setCell ⟨tg,0,none⟩ x).setCell ⟨tg,1,none⟩ y):=by
 rw [n6.2];simp only [Sem.run_bind,Tryz.partsBEa,Tryz.partsBE,Result.andThen];simp [n6,ReflectliteValue.flagAddr,loadVar,isAgg,underlying,underlying104,Result.andThen,Tryz.directBE,storeVar,Value.cells,storeCells,Addr.add];simp [loadCells,loadCellsFrom,hb0,hb1,Addr.add];simp only [storeCells,Sem.run_bind,run_store _ _ _ _ _ hx,run_store _ _ _ _ _ hy,Result.andThen];simp [h0,f0,h1,f1,go_sem,Addr.add]
theorem Bk (t:Value)(w:World):Calls prog 42 #[.nilIface,t] w fun e w'=>e = .returned (.bool false)/\w'=w:=by
 go_enter func42,ntmps42
 go_wp2_with fail
 go_ret
 exact ⟨rfl,rfl⟩
theorem Cr (x y o0 o1:Value)(tg V:Nat)(w:World)(hx:x.oneCell'=true)(hy:y.oneCell'=true)(hv:w.cell? ⟨V,0,none⟩=some (.pointer (some ⟨tg,0,none⟩)))(h0:w.cell? ⟨tg,0,none⟩=some o0)(h1:w.cell? ⟨tg,1,none⟩=some o1)(f0:w.frozen? ⟨tg,0,none⟩=false)(f1:w.frozen? ⟨tg,1,none⟩=false):
  Calls prog 92 #[.iface 100 (.agg #[x,y]),.iface 102 (.pointer (some ⟨tg,0,none⟩)),.agg #[.pointer (some ⟨4,102,none⟩),.pointer (some ⟨V,0,none⟩),.int .u64 150],.iface 240 (.agg #[.pointer (some ⟨4,100,none⟩)])] w fun e w'=>e = .returned (.bool true)/\w'.cell? ⟨tg,0,none⟩=some x/\w'.cell? ⟨tg,1,none⟩=some y/\ag (fun k=>k=tg) w w':=by
 have q1 := @run_callFunc_extern prog 89 _ (fun g=>ReflectliteValue.unpack (g.getD 0 (.tuple #[]))) func89 CH CH CH CH
 have q7 := @run_callFunc_extern prog 124 _ ReflectliteType.typeOf func124 CH CH CH CH
 have q8 := @run_callFunc_extern prog 225 _ (ReflectliteType.relation "AssignableTo" ReflectliteType.assignableTo) func225 CH CH CH CH
 have q9 := @run_callFunc_extern prog 125 _ (ReflectliteValue.method (ReflectliteValue.valueError "reflectlite.Value.Elem" 0) ReflectliteValue.elem) func125 CH CH CH CH
 have j := @run_callFunc_extern prog 126 _ ReflectliteValue.set func126 CH CH CH CH
 have tO:=Tryz.typeOfAE;have mA:=Tryz.methodAssignableTo;have aE:=Tryz.assignableAE;have vE:=Tryz.valueOfAE;have i:=ai hv;have b:=ai h0;dsimp only at i b;obtain ⟨W1,c⟩:∃ W1,World.alloc w (.cells #[.pointer (some ⟨4,102,none⟩),.pointer (some ⟨V,0,none⟩),.int .u64 150] 163)=W1:=⟨_,rfl⟩;have a:Cx w W1:=by rw [<-c];exact CV.alloc CW _
 have h:W1.heap.size=w.heap.size+1:=by rw [<-c];simp
 obtain ⟨W2,d⟩:∃ W2,World.alloc W1 (.cells #[x,y] 100)=W2:=⟨_,rfl⟩;have f:Cx W1 W2:=by rw [<-d];exact CV.alloc CW _
 have el:=Tryz.elemVAP ⟨V,0,none⟩ ⟨tg,0,none⟩ W1 (cell_later a hv);have st:=Tryz.setA tg W1.heap.size x y o0 o1 W2 hx hy (by rw [<-d];simp [go_sem]) (by rw [<-d];simp [go_sem]) (cell_later f (cell_later a h0)) (cell_later f (cell_later a h1)) ((f.frozen (p:=⟨tg,0,none⟩) (by show tg<W1.heap.size;omega)).trans ((a.frozen (p:=⟨tg,0,none⟩) b).trans f0)) ((f.frozen (p:=⟨tg,1,none⟩) (by show tg<W1.heap.size;omega)).trans ((a.frozen (p:=⟨tg,1,none⟩) b).trans f1))
 rw [h] at st;rw [<-d,<-c] at st;rw [<-c] at el;clear a f h d c;clear W2 W1
 go_enter func92,ntmps92
 go_wp2_with fail
 refine wp_loop_rounds 1 ?_;rw [rounds_succ]
 go_wp2_with fail
 go_ret
 refine ⟨rfl,?_,?_,(((ag.setCell (S:=fun k=>k=tg) (ag.refl _ _) (p:=⟨tg,0,none⟩) (Or.inl rfl) _).setCell (p:=⟨tg,1,none⟩) (Or.inl rfl) _).alloc _).alloc _⟩
 ·rw [World.cell?_alloc_lt _ _ ⟨tg,0,none⟩ CN,World.cell?_alloc_lt _ _ ⟨tg,0,none⟩ (by simpa using b),World.cell?_setCell_other _ _ _ _ CI]
  exact World.cell?_setCell_same _ _ _ h0
 ·rw [World.cell?_alloc_lt _ _ ⟨tg,1,none⟩ CN,World.cell?_alloc_lt _ _ ⟨tg,1,none⟩ (by simpa using b)]
  exact World.cell?_setCell_same _ _ _ ((World.cell?_setCell_other _ _ _ _ CI).trans h1)
theorem Bl (x y o0 o1:Value)(tg:Nat)(w:World)(hx:x.oneCell'=true)(hy:y.oneCell'=true)(hg:w.cell? ⟨0,0,none⟩=some (.iface 240 (.agg #[.pointer (some ⟨4,97,none⟩)])))(h0:w.cell? ⟨tg,0,none⟩=some o0)(h1:w.cell? ⟨tg,1,none⟩=some o1)(f0:w.frozen? ⟨tg,0,none⟩=false)(f1:w.frozen? ⟨tg,1,none⟩=false):
  Calls prog 42 #[.iface 100 (.agg #[x,y]),.iface 102 (.pointer (some ⟨tg,0,none⟩))] w fun e w'=>e = .returned (.bool true)/\w'.cell? ⟨tg,0,none⟩=some x/\w'.cell? ⟨tg,1,none⟩=some y/\ag (fun k=>k=tg) w w':=by
 have q1 := @run_callFunc_extern prog 89 _ (fun c=>ReflectliteValue.unpack (c.getD 0 (.tuple #[]))) func89 CH CH CH CH
 have q2 := @run_callFunc_extern prog 90 _ (ReflectliteValue.methodAny (ReflectliteValue.valueError "reflectlite.Value.Type" 0) (fun t _ _ _ => ReflectliteType.toType t)) func90 CH CH CH CH
 have q3 := @run_callFunc_extern prog 91 _ (ReflectliteValue.method (ReflectliteValue.valueError "reflectlite.Value.IsNil" 0) ReflectliteValue.isNil) func91 CH CH CH CH
 have q4 := @run_callFunc_extern prog 206 _ (ReflectliteType.abiMethod fun t=>do pure (.int .u8 (<-Rtype.kind t))) func206 CH CH CH CH
 have q5 := @run_callFunc_extern prog 227 _ (ReflectliteType.method ReflectliteType.elem) func227 CH CH CH CH
 have q6 := @run_callFunc_extern prog 228 _ (ReflectliteType.relation "Implements" ReflectliteType.implements_) func228 CH CH CH CH
 have mK:=Tryz.methodKind;have mE:=Tryz.methodElem;have mI:=Tryz.methodImplements;have v0:=Tryz.valueOfAP;have t0:=Tryz.typeAP;have kP:=Tryz.kindAP;have kE:=Tryz.kindAE;have eP:=Tryz.elemAP;have iE:=Tryz.implementsAE;have i:=ai hg;have d:=ai h0;dsimp only at i d;obtain ⟨W2,b⟩:∃ W2,World.alloc (World.alloc w (.cells #[.pointer (some ⟨tg,0,none⟩)] 102)) (.cells #[.pointer (some ⟨4,102,none⟩),.pointer (some ⟨w.heap.size,0,none⟩),.int .u64 150] 163)=W2:=⟨_,rfl⟩;have a:Cx w W2:=by rw [<-b];exact CU.alloc CI _
 have f:W2.cell? ⟨w.heap.size,0,none⟩=some (.pointer (some ⟨tg,0,none⟩)):=by rw [<-b];simp [go_sem]
 have n8:=Tryz.isNilAP ⟨w.heap.size,0,none⟩ ⟨tg,0,none⟩ W2 f;have j:=cell_later a hg;have g:=aa (Cr x y o0 o1 tg w.heap.size W2 hx hy f (cell_later a h0) (cell_later a h1) ((a.frozen (p:=⟨tg,0,none⟩) d).trans f0) ((a.frozen (p:=⟨tg,1,none⟩) d).trans f1));have h:=aa a;rw [<-b] at n8 j g h;clear f a b;clear W2
 go_enter func42,ntmps42
 go_wp2_with fail
 refine g.out.mono ?_;clear g;rintro e w3 ⟨rfl,c0,c1,ho⟩;have HO:=aa ho;clear ho
 go_wp2_with fail
 go_ret
 exact ⟨rfl,c0,c1,(ag.of_below h.out).trans HO.out⟩
end Go.Proofs.YtmkdgnmmebldgaaGreatDoor
