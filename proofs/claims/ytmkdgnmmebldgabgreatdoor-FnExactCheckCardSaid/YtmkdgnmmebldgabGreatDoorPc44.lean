import Derived.Test.YtmkdgnmmebldgabGreatDoorPc43
set_option maxRecDepth 100000
set_option maxHeartbeats 8000000
namespace Go.Proofs.YtmkdgnmmebldgabGreatDoor
open Go.RowKit Go.Extern.Stop Go.Stop Go.Extern
theorem Tryz.setA (tg b:Nat)(x y o0 o1:Value)(W:World)(hx:x.oneCell'=true)(hy:y.oneCell'=true)(hb0:W.cell? ⟨b,0,none⟩=some x)(hb1:W.cell? ⟨b,1,none⟩=some y)(h0:W.cell? ⟨tg,0,none⟩=some o0)(h1:W.cell? ⟨tg,1,none⟩=some o1)(f0:W.frozen? ⟨tg,0,none⟩=false)(f1:W.frozen? ⟨tg,1,none⟩=false):
  (ReflectliteValue.set #[.agg #[.pointer (some ⟨4,91,none⟩),.pointer (some ⟨tg,0,none⟩),.int .u64 409],.agg #[.pointer (some ⟨4,91,none⟩),.pointer (some ⟨b,0,none⟩),.int .u64 153]]).run Tryz.prog W = .ok (.tuple #[]) ((W.setCell ⟨tg,0,none⟩ x).setCell ⟨tg,1,none⟩ y):=by
 rw [setTail.2]
 simp only [Sem.run_bind,Tryz.partsAEa,Tryz.partsAE,Result.andThen]
 simp [setTail,ReflectliteValue.flagAddr,loadVar,isAgg,underlying,Tryz.underlying91,Result.andThen,Tryz.directAE,storeVar,Value.cells,storeCells,Addr.add]
 simp [loadCells,loadCellsFrom,hb0,hb1,Addr.add]
 simp only [storeCells,Sem.run_bind,run_store _ _ _ _ _ hx,run_store _ _ _ _ _ hy,Result.andThen]
 simp [h0,f0,h1,f1,go_sem,Addr.add]
theorem Tryz.setB (tg b:Nat)(x y o0 o1:Value)(W:World)(hx:x.oneCell'=true)(hy:y.oneCell'=true)(hb0:W.cell? ⟨b,0,none⟩=some x)(hb1:W.cell? ⟨b,1,none⟩=some y)(h0:W.cell? ⟨tg,0,none⟩=some o0)(h1:W.cell? ⟨tg,1,none⟩=some o1)(f0:W.frozen? ⟨tg,0,none⟩=false)(f1:W.frozen? ⟨tg,1,none⟩=false):
  (ReflectliteValue.set #[.agg #[.pointer (some ⟨4,95,none⟩),.pointer (some ⟨tg,0,none⟩),.int .u64 409],.agg #[.pointer (some ⟨4,95,none⟩),.pointer (some ⟨b,0,none⟩),.int .u64 153]]).run Tryz.prog W = .ok (.tuple #[]) ((W.setCell ⟨tg,0,none⟩ x).setCell ⟨tg,1,none⟩ y):=by
 rw [setTail.2]
 simp only [Sem.run_bind,Tryz.partsBEa,Tryz.partsBE,Result.andThen]
 simp [setTail,ReflectliteValue.flagAddr,loadVar,isAgg,underlying,Tryz.underlying95,Result.andThen,Tryz.directBE,storeVar,Value.cells,storeCells,Addr.add]
 simp [loadCells,loadCellsFrom,hb0,hb1,Addr.add]
 simp only [storeCells,Sem.run_bind,run_store _ _ _ _ _ hx,run_store _ _ _ _ _ hy,Result.andThen]
 simp [h0,f0,h1,f1,go_sem,Addr.add]
theorem as_none (t:Value)(w:World):Calls Tryz.prog 42 #[.nilIface,t] w fun e w'=>e = .returned (.bool false)∧w'=w:=by
 go_enter Tryz.func42,Tryz.ntmps42
 go_wp2_with fail
 go_ret
 exact ⟨rfl,rfl⟩
theorem asInA (x y o0 o1:Value)(tg V:Nat)(w:World)(hx:x.oneCell'=true)(hy:y.oneCell'=true)(hv:w.cell? ⟨V,0,none⟩=some (.pointer (some ⟨tg,0,none⟩)))(h0:w.cell? ⟨tg,0,none⟩=some o0)(h1:w.cell? ⟨tg,1,none⟩=some o1)(f0:w.frozen? ⟨tg,0,none⟩=false)(f1:w.frozen? ⟨tg,1,none⟩=false):
  Calls Tryz.prog 78 #[.iface 91 (.agg #[x,y]),.iface 93 (.pointer (some ⟨tg,0,none⟩)),.agg #[.pointer (some ⟨4,93,none⟩),.pointer (some ⟨V,0,none⟩),.int .u64 150],.iface 231 (.agg #[.pointer (some ⟨4,91,none⟩)])] w fun e w'=>e = .returned (.bool true)∧w'.cell? ⟨tg,0,none⟩=some x∧w'.cell? ⟨tg,1,none⟩=some y∧Only (fun k=>k=tg) w w':=by
 have q1 := @run_callFunc_extern Tryz.prog 75 _ (fun args=>ReflectliteValue.unpack (args.getD 0 (.tuple #[]))) Tryz.func75 (by kernel_rfl) (by kernel_rfl) (by kernel_rfl) (by kernel_rfl)
 have q7 := @run_callFunc_extern Tryz.prog 118 _ ReflectliteType.typeOf Tryz.func118 (by kernel_rfl) (by kernel_rfl) (by kernel_rfl) (by kernel_rfl)
 have q8 := @run_callFunc_extern Tryz.prog 248 _ (ReflectliteType.relation "AssignableTo" ReflectliteType.assignableTo) Tryz.func248 (by kernel_rfl) (by kernel_rfl) (by kernel_rfl) (by kernel_rfl)
 have q9 := @run_callFunc_extern Tryz.prog 119 _ (ReflectliteValue.method (ReflectliteValue.valueError "reflectlite.Value.Elem" 0) ReflectliteValue.elem) Tryz.func119 (by kernel_rfl) (by kernel_rfl) (by kernel_rfl) (by kernel_rfl)
 have q10 := @run_callFunc_extern Tryz.prog 120 _ ReflectliteValue.set Tryz.func120 (by kernel_rfl) (by kernel_rfl) (by kernel_rfl) (by kernel_rfl)
 have tO:=Tryz.typeOfAE
 have mA:=Tryz.methodAssignableTo
 have aE:=Tryz.assignableAE
 have vE:=Tryz.valueOfAE
 have hvl:=cellLt hv
 have htl:=cellLt h0
 dsimp only at hvl htl
 obtain ⟨W1,hW1⟩:∃ W1,World.alloc w (.cells #[.pointer (some ⟨4,93,none⟩),.pointer (some ⟨V,0,none⟩),.int .u64 150] 151)=W1:=⟨_,rfl⟩
 have hb1:Below w.heap.size w W1:=by rw [← hW1];exact (Below.refl _ _).alloc (Nat.le_refl _) _
 have hz1:W1.heap.size=w.heap.size+1:=by rw [← hW1];simp
 obtain ⟨W2,hW2⟩:∃ W2,World.alloc W1 (.cells #[x,y] 91)=W2:=⟨_,rfl⟩
 have hb2:Below W1.heap.size W1 W2:=by rw [← hW2];exact (Below.refl _ _).alloc (Nat.le_refl _) _
 have el:=Tryz.elemVAP ⟨V,0,none⟩ ⟨tg,0,none⟩ W1 (cell_later hb1 hv)
 have st:=Tryz.setA tg W1.heap.size x y o0 o1 W2 hx hy (by rw [← hW2];simp [go_sem]) (by rw [← hW2];simp [go_sem]) (cell_later hb2 (cell_later hb1 h0)) (cell_later hb2 (cell_later hb1 h1)) ((hb2.frozen (p:=⟨tg,0,none⟩) (by show tg<W1.heap.size;omega)).trans ((hb1.frozen (p:=⟨tg,0,none⟩) htl).trans f0)) ((hb2.frozen (p:=⟨tg,1,none⟩) (by show tg<W1.heap.size;omega)).trans ((hb1.frozen (p:=⟨tg,1,none⟩) htl).trans f1))
 rw [hz1] at st
 rw [← hW2,← hW1] at st
 rw [← hW1] at el
 clear hb1 hb2 hz1 hW2 hW1
 clear W2 W1
 go_enter Tryz.func78,Tryz.ntmps78
 go_wp2_with fail
 refine wp_loop_rounds 1 ?_
 rw [rounds_succ]
 go_wp2_with fail
 go_ret
 refine ⟨rfl,?_,?_,(((Only.setCell (S:=fun k=>k=tg) (Only.refl _ _) (p:=⟨tg,0,none⟩) (Or.inl rfl) _).setCell (p:=⟨tg,1,none⟩) (Or.inl rfl) _).alloc _).alloc _⟩
 ·rw [World.cell?_alloc_lt _ _ ⟨tg,0,none⟩ (by simp;omega),World.cell?_alloc_lt _ _ ⟨tg,0,none⟩ (by simpa using htl),World.cell?_setCell_other _ _ _ _ (by simp)]
  exact World.cell?_setCell_same _ _ _ h0
 ·rw [World.cell?_alloc_lt _ _ ⟨tg,1,none⟩ (by simp;omega),World.cell?_alloc_lt _ _ ⟨tg,1,none⟩ (by simpa using htl)]
  exact World.cell?_setCell_same _ _ _ ((World.cell?_setCell_other _ _ _ _ (by simp)).trans h1)
theorem asA_hit (x y o0 o1:Value)(tg:Nat)(w:World)(hx:x.oneCell'=true)(hy:y.oneCell'=true)(hg:w.cell? ⟨0,0,none⟩=some (.iface 231 (.agg #[.pointer (some ⟨4,88,none⟩)])))(h0:w.cell? ⟨tg,0,none⟩=some o0)(h1:w.cell? ⟨tg,1,none⟩=some o1)(f0:w.frozen? ⟨tg,0,none⟩=false)(f1:w.frozen? ⟨tg,1,none⟩=false):
  Calls Tryz.prog 42 #[.iface 91 (.agg #[x,y]),.iface 93 (.pointer (some ⟨tg,0,none⟩))] w fun e w'=>e = .returned (.bool true)∧w'.cell? ⟨tg,0,none⟩=some x∧w'.cell? ⟨tg,1,none⟩=some y∧Only (fun k=>k=tg) w w':=by
 have q1 := @run_callFunc_extern Tryz.prog 75 _ (fun args=>ReflectliteValue.unpack (args.getD 0 (.tuple #[]))) Tryz.func75 (by kernel_rfl) (by kernel_rfl) (by kernel_rfl) (by kernel_rfl)
 have q2 := @run_callFunc_extern Tryz.prog 76 _ (ReflectliteValue.methodAny (ReflectliteValue.valueError "reflectlite.Value.Type" 0) (fun t _ _ _ => ReflectliteType.toType t)) Tryz.func76 (by kernel_rfl) (by kernel_rfl) (by kernel_rfl) (by kernel_rfl)
 have q3 := @run_callFunc_extern Tryz.prog 77 _ (ReflectliteValue.method (ReflectliteValue.valueError "reflectlite.Value.IsNil" 0) ReflectliteValue.isNil) Tryz.func77 (by kernel_rfl) (by kernel_rfl) (by kernel_rfl) (by kernel_rfl)
 have q4 := @run_callFunc_extern Tryz.prog 237 _ (ReflectliteType.abiMethod fun t=>do pure (.int .u8 (← Rtype.kind t))) Tryz.func237 (by kernel_rfl) (by kernel_rfl) (by kernel_rfl) (by kernel_rfl)
 have q5 := @run_callFunc_extern Tryz.prog 250 _ (ReflectliteType.method ReflectliteType.elem) Tryz.func250 (by kernel_rfl) (by kernel_rfl) (by kernel_rfl) (by kernel_rfl)
 have q6 := @run_callFunc_extern Tryz.prog 251 _ (ReflectliteType.relation "Implements" ReflectliteType.implements_) Tryz.func251 (by kernel_rfl) (by kernel_rfl) (by kernel_rfl) (by kernel_rfl)
 have mK:=Tryz.methodKind
 have mE:=Tryz.methodElem
 have mI:=Tryz.methodImplements
 have v0:=Tryz.valueOfAP
 have t0:=Tryz.typeAP
 have kP:=Tryz.kindAP
 have kE:=Tryz.kindAE
 have eP:=Tryz.elemAP
 have iE:=Tryz.implementsAE
 have hlt:=cellLt hg
 have htl:=cellLt h0
 dsimp only at hlt htl
 obtain ⟨W2,hW2⟩:∃ W2,World.alloc (World.alloc w (.cells #[.pointer (some ⟨tg,0,none⟩)] 93)) (.cells #[.pointer (some ⟨4,93,none⟩),.pointer (some ⟨w.heap.size,0,none⟩),.int .u64 150] 151)=W2:=⟨_,rfl⟩
 have hb2:Below w.heap.size w W2:=by rw [← hW2];exact ((Below.refl _ _).alloc (Nat.le_refl _) _).alloc (by simp) _
 have hvc:W2.cell? ⟨w.heap.size,0,none⟩=some (.pointer (some ⟨tg,0,none⟩)):=by rw [← hW2];simp [go_sem]
 have n8:=Tryz.isNilAP ⟨w.heap.size,0,none⟩ ⟨tg,0,none⟩ W2 hvc
 have hg2:=cell_later hb2 hg
 have HAS:=hidP (asInA x y o0 o1 tg w.heap.size W2 hx hy hvc (cell_later hb2 h0) (cell_later hb2 h1) ((hb2.frozen (p:=⟨tg,0,none⟩) htl).trans f0) ((hb2.frozen (p:=⟨tg,1,none⟩) htl).trans f1))
 have HB2:=hidP hb2
 rw [← hW2] at n8 hg2 HAS HB2
 clear hvc hb2 hW2
 clear W2
 go_enter Tryz.func42,Tryz.ntmps42
 go_wp2_with fail
 refine HAS.out.mono ?_
 clear HAS
 rintro e w3 ⟨rfl,c0,c1,ho⟩
 have HO:=hidP ho
 clear ho
 go_wp2_with fail
 go_ret
 exact ⟨rfl,c0,c1,(Only.of_below HB2.out).trans HO.out⟩
end Go.Proofs.YtmkdgnmmebldgabGreatDoor
