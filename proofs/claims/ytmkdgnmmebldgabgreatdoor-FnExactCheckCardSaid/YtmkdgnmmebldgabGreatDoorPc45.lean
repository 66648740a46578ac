import Derived.Test.YtmkdgnmmebldgabGreatDoorPc44
set_option maxRecDepth 100000
set_option maxHeartbeats 8000000
namespace Go.Proofs.YtmkdgnmmebldgabGreatDoor
open Go.RowKit Go.Extern.Stop Go.Stop Go.Extern
theorem unwrap_any (x y:Value)(w:World):Calls Tryz.prog 241 #[.agg #[x,y]] w fun e w'=>e = .returned y∧Below w.heap.size w w':=by
 go_enter Tryz.func241,Tryz.ntmps241
 go_wp2_with fail
 go_ret
 exact ⟨rfl,blo⟩
theorem Tryz.noAsA (v:Value)(xT:TypeId)(w:World):(Instr.typeAssert (.iface 91 v) xT 236 true).run Tryz.prog w = .ok (.tuple #[.nilIface,.bool false]) w:=run_typeAssert_lacksB Tryz.underlying236 (by kernel_rfl) (by kernel_rfl) v xT w
theorem Tryz.hasUnA (v:Value)(xT:TypeId)(w:World):(Instr.typeAssert (.iface 91 v) xT 239 true).run Tryz.prog w = .ok (.tuple #[.iface 91 v,.bool true]) w:=run_typeAssert_hasB Tryz.underlying239 (by kernel_rfl) v xT w
theorem Tryz.methodUnwrap (v : Value) (w : World) : (Go.method 494 91 v "Unwrap").run Tryz.prog w = .ok (241, v) w := by kernel_rfl
theorem asInB_none (x:Value)(tg V:Nat)(w:World):
  Calls Tryz.prog 78 #[.iface 91 (.agg #[x,.nilIface]),.iface 96 (.pointer (some ⟨tg,0,none⟩)),.agg #[.pointer (some ⟨4,96,none⟩),.pointer (some ⟨V,0,none⟩),.int .u64 150],.iface 231 (.agg #[.pointer (some ⟨4,95,none⟩)])] w fun e w'=>e = .returned (.bool false)∧Below w.heap.size w w':=by
 have q7 := @run_callFunc_extern Tryz.prog 118 _ ReflectliteType.typeOf Tryz.func118 (by kernel_rfl) (by kernel_rfl) (by kernel_rfl) (by kernel_rfl)
 have q8 := @run_callFunc_extern Tryz.prog 248 _ (ReflectliteType.relation "AssignableTo" ReflectliteType.assignableTo) Tryz.func248 (by kernel_rfl) (by kernel_rfl) (by kernel_rfl) (by kernel_rfl)
 have tO:=Tryz.typeOfAE
 have mA:=Tryz.methodAssignableTo
 have aE:=Tryz.assignableAB
 have nA:=Tryz.noAsA
 have hU:=Tryz.hasUnA
 have mU:=Tryz.methodUnwrap
 go_enter Tryz.func78,Tryz.ntmps78
 go_wp2_with fail
 refine wp_loop_rounds 1 ?_
 rw [rounds_succ]
 go_wp2_with (go_at_call 241;refine (unwrap_any _ _ _).mono ?_;rintro e w2 ⟨rfl,hb2⟩)
 go_ret
 exact ⟨rfl,((Below.refl _ _).alloc (Nat.le_refl _) _).trans (hb2.mono (by simp))⟩
theorem asInB (x a b o0 o1:Value)(tg V:Nat)(w:World)(ha:a.oneCell'=true)(hb:b.oneCell'=true)(hv:w.cell? ⟨V,0,none⟩=some (.pointer (some ⟨tg,0,none⟩)))(h0:w.cell? ⟨tg,0,none⟩=some o0)(h1:w.cell? ⟨tg,1,none⟩=some o1)(f0:w.frozen? ⟨tg,0,none⟩=false)(f1:w.frozen? ⟨tg,1,none⟩=false):
  Calls Tryz.prog 78 #[.iface 91 (.agg #[x,.iface 95 (.agg #[a,b])]),.iface 96 (.pointer (some ⟨tg,0,none⟩)),.agg #[.pointer (some ⟨4,96,none⟩),.pointer (some ⟨V,0,none⟩),.int .u64 150],.iface 231 (.agg #[.pointer (some ⟨4,95,none⟩)])] w fun e w'=>e = .returned (.bool true)∧w'.cell? ⟨tg,0,none⟩=some a∧w'.cell? ⟨tg,1,none⟩=some b∧Only (fun k=>k=tg) w w':=by
 have q1 := @run_callFunc_extern Tryz.prog 75 _ (fun args=>ReflectliteValue.unpack (args.getD 0 (.tuple #[]))) Tryz.func75 (by kernel_rfl) (by kernel_rfl) (by kernel_rfl) (by kernel_rfl)
 have q7 := @run_callFunc_extern Tryz.prog 118 _ ReflectliteType.typeOf Tryz.func118 (by kernel_rfl) (by kernel_rfl) (by kernel_rfl) (by kernel_rfl)
 have q8 := @run_callFunc_extern Tryz.prog 248 _ (ReflectliteType.relation "AssignableTo" ReflectliteType.assignableTo) Tryz.func248 (by kernel_rfl) (by kernel_rfl) (by kernel_rfl) (by kernel_rfl)
 have q9 := @run_callFunc_extern Tryz.prog 119 _ (ReflectliteValue.method (ReflectliteValue.valueError "reflectlite.Value.Elem" 0) ReflectliteValue.elem) Tryz.func119 (by kernel_rfl) (by kernel_rfl) (by kernel_rfl) (by kernel_rfl)
 have q10 := @run_callFunc_extern Tryz.prog 120 _ ReflectliteValue.set Tryz.func120 (by kernel_rfl) (by kernel_rfl) (by kernel_rfl) (by kernel_rfl)
 have tO:=Tryz.typeOfAE
 have tO2:=Tryz.typeOfBE
 have mA:=Tryz.methodAssignableTo
 have aE:=Tryz.assignableAB
 have aE2:=Tryz.assignableBE
 have nA:=Tryz.noAsA
 have hU:=Tryz.hasUnA
 have mU:=Tryz.methodUnwrap
 have vE:=Tryz.valueOfBE
 have hvl:=cellLt hv
 have htl:=cellLt h0
 dsimp only at hvl htl
 go_enter Tryz.func78,Tryz.ntmps78
 go_wp2_with fail
 generalize hW1:World.alloc w _=W1
 have hb1:Below w.heap.size w W1:=by rw [← hW1];exact blo
 have v0:W1.cell? ⟨w.heap.size,0,none⟩=some (.pointer (some ⟨4,96,none⟩)):=by rw [← hW1];simp [go_sem]
 have v1:W1.cell? ⟨w.heap.size,1,none⟩=some (.pointer (some ⟨V,0,none⟩)):=by rw [← hW1];simp [go_sem]
 have v2:W1.cell? ⟨w.heap.size,2,none⟩=some (.int .u64 150):=by rw [← hW1];simp [go_sem]
 have HB1:=hidP hb1
 have hz1:=hb1.size
 clear hW1 hb1
 refine wp_loop_rounds 2 ?_
 rw [rounds_succ]
 go_wp2_with (go_at_call 241;refine (unwrap_any _ _ _).mono ?_;rintro e w2 ⟨rfl,hb2⟩;replace v0:=cell_later hb2 v0;replace v1:=cell_later hb2 v1;replace v2:=cell_later hb2 v2;have HB2:=hidP (HB1.out.trans (hb2.mono hz1));clear hb2)
 have hz2:=HB2.out.size
 have el:=Tryz.elemVBP ⟨V,0,none⟩ ⟨tg,0,none⟩ w2 (cell_later HB2.out hv)
 have st:=Tryz.setB tg w2.heap.size a b o0 o1 (w2.alloc (.cells #[a,b] 95)) ha hb (by simp [go_sem]) (by simp [go_sem]) (cell_later ((Below.refl _ _).alloc (Nat.le_refl _) _) (cell_later HB2.out h0)) (cell_later ((Below.refl _ _).alloc (Nat.le_refl _) _) (cell_later HB2.out h1)) (by rw [World.frozen?_alloc_old _ _ ⟨tg,0,none⟩ (by show tg≠_;omega)];exact (HB2.out.frozen (p:=⟨tg,0,none⟩) htl).trans f0) (by rw [World.frozen?_alloc_old _ _ ⟨tg,1,none⟩ (by show tg≠_;omega)];exact (HB2.out.frozen (p:=⟨tg,1,none⟩) htl).trans f1)
 rw [rounds_succ]
 go_wp2_with fail
 go_ret
 refine ⟨rfl,?_,?_,(Only.setCell (S:=fun k=>k=tg) ((Only.of_below HB2.out).alloc _) (p:=⟨tg,0,none⟩) (Or.inl rfl) _).setCell (p:=⟨tg,1,none⟩) (Or.inl rfl) _⟩
 ·rw [World.cell?_setCell_other _ _ _ _ (by simp)]
  exact World.cell?_setCell_same _ _ _ (cell_later ((Below.refl _ _).alloc (Nat.le_refl _) _) (cell_later HB2.out h0))
 ·exact World.cell?_setCell_same _ _ _ ((World.cell?_setCell_other _ _ _ _ (by simp)).trans (cell_later ((Below.refl _ _).alloc (Nat.le_refl _) _) (cell_later HB2.out h1)))
theorem asB_hit (x a b o0 o1:Value)(tg:Nat)(w:World)(ha:a.oneCell'=true)(hb:b.oneCell'=true)(hg:w.cell? ⟨0,0,none⟩=some (.iface 231 (.agg #[.pointer (some ⟨4,88,none⟩)])))(h0:w.cell? ⟨tg,0,none⟩=some o0)(h1:w.cell? ⟨tg,1,none⟩=some o1)(f0:w.frozen? ⟨tg,0,none⟩=false)(f1:w.frozen? ⟨tg,1,none⟩=false):
  Calls Tryz.prog 42 #[.iface 91 (.agg #[x,.iface 95 (.agg #[a,b])]),.iface 96 (.pointer (some ⟨tg,0,none⟩))] w fun e w'=>e = .returned (.bool true)∧w'.cell? ⟨tg,0,none⟩=some a∧w'.cell? ⟨tg,1,none⟩=some b∧Only (fun k=>k=tg) w w':=by
 have q1 := @run_callFunc_extern Tryz.prog 75 _ (fun args=>ReflectliteValue.unpack (args.getD 0 (.tuple #[]))) Tryz.func75 (by kernel_rfl) (by kernel_rfl) (by kernel_rfl) (by kernel_rfl)
 have q2 := @run_callFunc_extern Tryz.prog 76 _ (ReflectliteValue.methodAny (ReflectliteValue.valueError "reflectlite.Value.Type" 0) (fun t _ _ _ => ReflectliteType.toType t)) Tryz.func76 (by kernel_rfl) (by kernel_rfl) (by kernel_rfl) (by kernel_rfl)
 have q3 := @run_callFunc_extern Tryz.prog 77 _ (ReflectliteValue.method (ReflectliteValue.valueError "reflectlite.Value.IsNil" 0) ReflectliteValue.isNil) Tryz.func77 (by kernel_rfl) (by kernel_rfl) (by kernel_rfl) (by kernel_rfl)
 have q4 := @run_callFunc_extern Tryz.prog 237 _ (ReflectliteType.abiMethod fun t=>do pure (.int .u8 (← Rtype.kind t))) Tryz.func237 (by kernel_rfl) (by kernel_rfl) (by kernel_rfl) (by kernel_rfl)
 have q5 := @run_callFunc_extern Tryz.prog 250 _ (ReflectliteType.method ReflectliteType.elem) Tryz.func250 (by kernel_rfl) (by kernel_rfl) (by kernel_rfl) (by kernel_rfl)
 have q6 := @run_callFunc_extern Tryz.prog 251 _ (ReflectliteType.relation "Implements" ReflectliteType.implements_) Tryz.func251 (by kernel_rfl) (by kernel_rfl) (by kernel_rfl) (by kernel_rfl)
 have mK:=Tryz.methodKind
 have mE:=Tryz.methodElem
 have mI:=Tryz.methodImplements
 have v0:=Tryz.valueOfBP
 have t0:=Tryz.typeBP
 have kP:=Tryz.kindBP
 have kE:=Tryz.kindBE
 have eP:=Tryz.elemBP
 have iE:=Tryz.implementsBE
 have hlt:=cellLt hg
 have htl:=cellLt h0
 dsimp only at hlt htl
 obtain ⟨W2,hW2⟩:∃ W2,World.alloc (World.alloc w (.cells #[.pointer (some ⟨tg,0,none⟩)] 96)) (.cells #[.pointer (some ⟨4,96,none⟩),.pointer (some ⟨w.heap.size,0,none⟩),.int .u64 150] 151)=W2:=⟨_,rfl⟩
 have hb2:Below w.heap.size w W2:=by rw [← hW2];exact ((Below.refl _ _).alloc (Nat.le_refl _) _).alloc (by simp) _
 have hvc:W2.cell? ⟨w.heap.size,0,none⟩=some (.pointer (some ⟨tg,0,none⟩)):=by rw [← hW2];simp [go_sem]
 have n8:=Tryz.isNilBP ⟨w.heap.size,0,none⟩ ⟨tg,0,none⟩ W2 hvc
 have hg2:=cell_later hb2 hg
 have HAS:=hidP (asInB x a b o0 o1 tg w.heap.size W2 ha hb hvc (cell_later hb2 h0) (cell_later hb2 h1) ((hb2.frozen (p:=⟨tg,0,none⟩) htl).trans f0) ((hb2.frozen (p:=⟨tg,1,none⟩) htl).trans f1))
 have HB2:=hidP hb2
 rw [← hW2] at n8 hg2 HAS HB2
 clear hvc hb2 hW2
 clear W2
 go_enter Tryz.func42,Tryz.ntmps42
 go_wp2_with fail
 refine HAS.out.mono ?_
 clear HAS
 rintro e w3 ⟨rfl,c0,c1,ho⟩
 have HO:=hidP ho
 clear ho
 go_wp2_with fail
 go_ret
 exact ⟨rfl,c0,c1,(Only.of_below HB2.out).trans HO.out⟩
theorem asB_none (x o0:Value)(tg:Nat)(w:World)(hg:w.cell? ⟨0,0,none⟩=some (.iface 231 (.agg #[.pointer (some ⟨4,88,none⟩)])))(h0:w.cell? ⟨tg,0,none⟩=some o0):
  Calls Tryz.prog 42 #[.iface 91 (.agg #[x,.nilIface]),.iface 96 (.pointer (some ⟨tg,0,none⟩))] w fun e w'=>e = .returned (.bool false)∧Below w.heap.size w w':=by
 have q1 := @run_callFunc_extern Tryz.prog 75 _ (fun args=>ReflectliteValue.unpack (args.getD 0 (.tuple #[]))) Tryz.func75 (by kernel_rfl) (by kernel_rfl) (by kernel_rfl) (by kernel_rfl)
 have q2 := @run_callFunc_extern Tryz.prog 76 _ (ReflectliteValue.methodAny (ReflectliteValue.valueError "reflectlite.Value.Type" 0) (fun t _ _ _ => ReflectliteType.toType t)) Tryz.func76 (by kernel_rfl) (by kernel_rfl) (by kernel_rfl) (by kernel_rfl)
 have q3 := @run_callFunc_extern Tryz.prog 77 _ (ReflectliteValue.method (ReflectliteValue.valueError "reflectlite.Value.IsNil" 0) ReflectliteValue.isNil) Tryz.func77 (by kernel_rfl) (by kernel_rfl) (by kernel_rfl) (by kernel_rfl)
 have q4 := @run_callFunc_extern Tryz.prog 237 _ (ReflectliteType.abiMethod fun t=>do pure (.int .u8 (← Rtype.kind t))) Tryz.func237 (by kernel_rfl) (by kernel_rfl) (by kernel_rfl) (by kernel_rfl)
 have q5 := @run_callFunc_extern Tryz.prog 250 _ (ReflectliteType.method ReflectliteType.elem) Tryz.func250 (by kernel_rfl) (by kernel_rfl) (by kernel_rfl) (by kernel_rfl)
 have q6 := @run_callFunc_extern Tryz.prog 251 _ (ReflectliteType.relation "Implements" ReflectliteType.implements_) Tryz.func251 (by kernel_rfl) (by kernel_rfl) (by kernel_rfl) (by kernel_rfl)
 have mK:=Tryz.methodKind
 have mE:=Tryz.methodElem
 have mI:=Tryz.methodImplements
 have v0:=Tryz.valueOfBP
 have t0:=Tryz.typeBP
 have kP:=Tryz.kindBP
 have kE:=Tryz.kindBE
 have eP:=Tryz.elemBP
 have iE:=Tryz.implementsBE
 have hlt:=cellLt hg
 have htl:=cellLt h0
 dsimp only at hlt htl
 obtain ⟨W2,hW2⟩:∃ W2,World.alloc (World.alloc w (.cells #[.pointer (some ⟨tg,0,none⟩)] 96)) (.cells #[.pointer (some ⟨4,96,none⟩),.pointer (some ⟨w.heap.size,0,none⟩),.int .u64 150] 151)=W2:=⟨_,rfl⟩
 have hb2:Below w.heap.size w W2:=by rw [← hW2];exact ((Below.refl _ _).alloc (Nat.le_refl _) _).alloc (by simp) _
 have hvc:W2.cell? ⟨w.heap.size,0,none⟩=some (.pointer (some ⟨tg,0,none⟩)):=by rw [← hW2];simp [go_sem]
 have n8:=Tryz.isNilBP ⟨w.heap.size,0,none⟩ ⟨tg,0,none⟩ W2 hvc
 have hg2:=cell_later hb2 hg
 have HAS:=hidP (asInB_none x tg w.heap.size W2)
 have HB2:=hidP hb2
 rw [← hW2] at n8 hg2 HAS HB2
 clear hvc hb2 hW2
 clear W2
 go_enter Tryz.func42,Tryz.ntmps42
 go_wp2_with fail
 refine HAS.out.mono ?_
 clear HAS
 rintro e w3 ⟨rfl,ho⟩
 have HO:=hidP ho
 clear ho
 go_wp2_with fail
 go_ret
 exact ⟨rfl,HB2.out.trans (HO.out.mono HB2.out.size)⟩
end Go.Proofs.YtmkdgnmmebldgabGreatDoor
