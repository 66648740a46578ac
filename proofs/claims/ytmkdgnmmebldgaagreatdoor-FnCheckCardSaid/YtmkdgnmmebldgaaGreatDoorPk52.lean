import Derived.Test.YtmkdgnmmebldgaaGreatDoorPk51
set_option maxRecDepth 100000
set_option maxHeartbeats 8000000
open Go.Proofs.Tryz
namespace Go.Proofs.YtmkdgnmmebldgaaGreatDoor
open Go.RowKit Go.Extern.Stop Go.Stop Go.Extern
theorem pK (x y:Value)(w:World):Calls prog 210 #[.agg #[x,y]] w fun e w'=>e = .returned y/\Cx w w':=by
 go_enter func210,ntmps210
 go_wp2_with fail
 go_ret
 exact ⟨rfl,blo⟩
theorem Tryz.noAsA (v:Value)(xT:TypeId)(w:World):(Instr.typeAssert (.iface 100 v) xT 245 true).run prog w = .ok (.tuple #[.nilIface,.bool false]) w:=run_typeAssert_lacksB underlying245 CH CH v xT w
theorem Tryz.hasUnA (v:Value)(xT:TypeId)(w:World):(Instr.typeAssert (.iface 100 v) xT 248 true).run prog w = .ok (.tuple #[.iface 100 v,.bool true]) w:=run_typeAssert_hasB underlying248 CH v xT w
theorem Tryz.methodUnwrap (v : Value) (w : World) : (Go.method 448 100 v "Unwrap").run prog w = .ok (210, v) w := by kernel_rfl
theorem wh (x:Value)(tg V:Nat)(w:World):
  Calls prog 92 #[.iface 100 (.agg #[x,.nilIface]),.iface 105 (.pointer (some ⟨tg,0,none⟩)),.agg #[.pointer (some ⟨4,105,none⟩),.pointer (some ⟨V,0,none⟩),.int .u64 150],.iface 240 (.agg #[.pointer (some ⟨4,104,none⟩)])] w fun e w'=>e = .returned (.bool false)/\Cx w w':=by
 have q7 := @run_callFunc_extern prog 124 _ ReflectliteType.typeOf func124 CH CH CH CH
 have q8 := @run_callFunc_extern prog 225 _ (ReflectliteType.relation "AssignableTo" ReflectliteType.assignableTo) func225 CH CH CH CH
 have tO:=Tryz.typeOfAE;have mA:=Tryz.methodAssignableTo;have aE:=Tryz.assignableAB;have nA:=Tryz.noAsA;have hU:=Tryz.hasUnA;have mU:=Tryz.methodUnwrap
 go_enter func92,ntmps92
 go_wp2_with fail
 refine wp_loop_rounds 1 ?_;rw [rounds_succ]
 go_wp2_with (go_at_call 210;refine (pK _ _ _).mono ?_;rintro e w2 ⟨rfl,a⟩)
 go_ret
 exact ⟨rfl,CU.trans (a.mono CI)⟩
theorem Co (x a b o0 o1:Value)(tg V:Nat)(w:World)(ha:a.oneCell'=true)(hb:b.oneCell'=true)(hv:w.cell? ⟨V,0,none⟩=some (.pointer (some ⟨tg,0,none⟩)))(h0:w.cell? ⟨tg,0,none⟩=some o0)(h1:w.cell? ⟨tg,1,none⟩=some o1)(f0:w.frozen? ⟨tg,0,none⟩=false)(f1:w.frozen? ⟨tg,1,none⟩=false):
  Calls prog 92 #[.iface 100 (.agg #[x,.iface 104 (.agg #[a,b])]),.iface 105 (.pointer (some ⟨tg,0,none⟩)),.agg #[.pointer (some ⟨4,105,none⟩),.pointer (some ⟨V,0,none⟩),.int .u64 150],.iface 240 (.agg #[.pointer (some ⟨4,104,none⟩)])] w fun e w'=>e = .returned (.bool true)/\w'.cell? ⟨tg,0,none⟩=some a/\w'.cell? ⟨tg,1,none⟩=some b/\ag (fun k=>k=tg) w w':=by
 have q1 := @run_callFunc_extern prog 89 _ (fun g=>ReflectliteValue.unpack (g.getD 0 (.tuple #[]))) func89 CH CH CH CH
 have q7 := @run_callFunc_extern prog 124 _ ReflectliteType.typeOf func124 CH CH CH CH
 have q8 := @run_callFunc_extern prog 225 _ (ReflectliteType.relation "AssignableTo" ReflectliteType.assignableTo) func225 CH CH CH CH
 have q9 := @run_callFunc_extern prog 125 _ (ReflectliteValue.method (ReflectliteValue.valueError "reflectlite.Value.Elem" 0) ReflectliteValue.elem) func125 CH CH CH CH
 have n := @run_callFunc_extern prog 126 _ ReflectliteValue.set func126 CH CH CH CH
 have tO:=Tryz.typeOfAE;have o:=Tryz.typeOfBE;have mA:=Tryz.methodAssignableTo;have aE:=Tryz.assignableAB;have q:=Tryz.assignableBE;have nA:=Tryz.noAsA;have hU:=Tryz.hasUnA;have mU:=Tryz.methodUnwrap;have vE:=Tryz.valueOfBE;have j:=ai hv;have h:=ai h0;dsimp only at j h
 go_enter func92,ntmps92
 go_wp2_with fail
 generalize d:World.alloc w _=W1;have i:Cx w W1:=by rw [<-d];exact blo
 have v0:W1.cell? ⟨w.heap.size,0,none⟩=some (.pointer (some ⟨4,105,none⟩)):=by rw [<-d];simp [go_sem]
 have v1:W1.cell? ⟨w.heap.size,1,none⟩=some (.pointer (some ⟨V,0,none⟩)):=by rw [<-d];simp [go_sem]
 have v2:W1.cell? ⟨w.heap.size,2,none⟩=some (.int .u64 150):=by rw [<-d];simp [go_sem]
 have l:=aa i;have m:=i.size;clear d i;refine wp_loop_rounds 2 ?_;rw [rounds_succ]
 go_wp2_with (go_at_call 210;refine (pK _ _ _).mono ?_;rintro e w2 ⟨rfl,f⟩;replace v0:=cell_later f v0;replace v1:=cell_later f v1;replace v2:=cell_later f v2;have c:=aa (l.out.trans (f.mono m));clear f)
 have r:=c.out.size;have el:=Tryz.elemVBP ⟨V,0,none⟩ ⟨tg,0,none⟩ w2 (cell_later c.out hv);have st:=Tryz.setB tg w2.heap.size a b o0 o1 (w2.alloc (.cells #[a,b] 104)) ha hb CO CO (cell_later CU (cell_later c.out h0)) (cell_later CU (cell_later c.out h1)) (by rw [World.frozen?_alloc_old _ _ ⟨tg,0,none⟩ (by show tg≠_;omega)];exact (c.out.frozen (p:=⟨tg,0,none⟩) h).trans f0) (by rw [World.frozen?_alloc_old _ _ ⟨tg,1,none⟩ (by show tg≠_;omega)];exact (c.out.frozen (p:=⟨tg,1,none⟩) h).trans f1)
 rw [rounds_succ]
 go_wp2_with fail
 go_ret
 refine ⟨rfl,?_,?_,(ag.setCell (S:=fun k=>k=tg) ((ag.of_below c.out).alloc _) (p:=⟨tg,0,none⟩) (Or.inl rfl) _).setCell (p:=⟨tg,1,none⟩) (Or.inl rfl) _⟩
 ·rw [World.cell?_setCell_other _ _ _ _ CI]
  exact World.cell?_setCell_same _ _ _ (cell_later CU (cell_later c.out h0))
 ·exact World.cell?_setCell_same _ _ _ ((World.cell?_setCell_other _ _ _ _ CI).trans (cell_later CU (cell_later c.out h1)))
theorem BD (x a b o0 o1:Value)(tg:Nat)(w:World)(ha:a.oneCell'=true)(hb:b.oneCell'=true)(hg:w.cell? ⟨0,0,none⟩=some (.iface 240 (.agg #[.pointer (some ⟨4,97,none⟩)])))(h0:w.cell? ⟨tg,0,none⟩=some o0)(h1:w.cell? ⟨tg,1,none⟩=some o1)(f0:w.frozen? ⟨tg,0,none⟩=false)(f1:w.frozen? ⟨tg,1,none⟩=false):
  Calls prog 42 #[.iface 100 (.agg #[x,.iface 104 (.agg #[a,b])]),.iface 105 (.pointer (some ⟨tg,0,none⟩))] w fun e w'=>e = .returned (.bool true)/\w'.cell? ⟨tg,0,none⟩=some a/\w'.cell? ⟨tg,1,none⟩=some b/\ag (fun k=>k=tg) w w':=by
 have q1 := @run_callFunc_extern prog 89 _ (fun f=>ReflectliteValue.unpack (f.getD 0 (.tuple #[]))) func89 CH CH CH CH
 have q2 := @run_callFunc_extern prog 90 _ (ReflectliteValue.methodAny (ReflectliteValue.valueError "reflectlite.Value.Type" 0) (fun t _ _ _ => ReflectliteType.toType t)) func90 CH CH CH CH
 have q3 := @run_callFunc_extern prog 91 _ (ReflectliteValue.method (ReflectliteValue.valueError "reflectlite.Value.IsNil" 0) ReflectliteValue.isNil) func91 CH CH CH CH
 have q4 := @run_callFunc_extern prog 206 _ (ReflectliteType.abiMethod fun t=>do pure (.int .u8 (<-Rtype.kind t))) func206 CH CH CH CH
 have q5 := @run_callFunc_extern prog 227 _ (ReflectliteType.method ReflectliteType.elem) func227 CH CH CH CH
 have q6 := @run_callFunc_extern prog 228 _ (ReflectliteType.relation "Implements" ReflectliteType.implements_) func228 CH CH CH CH
 have mK:=Tryz.methodKind;have mE:=Tryz.methodElem;have mI:=Tryz.methodImplements;have v0:=Tryz.valueOfBP;have t0:=Tryz.typeBP;have kP:=Tryz.kindBP;have kE:=Tryz.kindBE;have eP:=Tryz.elemBP;have iE:=Tryz.implementsBE;have l:=ai hg;have g:=ai h0;dsimp only at l g;obtain ⟨W2,d⟩:∃ W2,World.alloc (World.alloc w (.cells #[.pointer (some ⟨tg,0,none⟩)] 105)) (.cells #[.pointer (some ⟨4,105,none⟩),.pointer (some ⟨w.heap.size,0,none⟩),.int .u64 150] 163)=W2:=⟨_,rfl⟩;have c:Cx w W2:=by rw [<-d];exact CU.alloc CI _
 have h:W2.cell? ⟨w.heap.size,0,none⟩=some (.pointer (some ⟨tg,0,none⟩)):=by rw [<-d];simp [go_sem]
 have n8:=Tryz.isNilBP ⟨w.heap.size,0,none⟩ ⟨tg,0,none⟩ W2 h;have m:=cell_later c hg;have i:=aa (Co x a b o0 o1 tg w.heap.size W2 ha hb h (cell_later c h0) (cell_later c h1) ((c.frozen (p:=⟨tg,0,none⟩) g).trans f0) ((c.frozen (p:=⟨tg,1,none⟩) g).trans f1));have j:=aa c;rw [<-d] at n8 m i j;clear h c d;clear W2
 go_enter func42,ntmps42
 go_wp2_with fail
 refine i.out.mono ?_;clear i;rintro e w3 ⟨rfl,c0,c1,ho⟩;have HO:=aa ho;clear ho
 go_wp2_with fail
 go_ret
 exact ⟨rfl,c0,c1,(ag.of_below j.out).trans HO.out⟩
theorem AO (x o0:Value)(tg:Nat)(w:World)(hg:w.cell? ⟨0,0,none⟩=some (.iface 240 (.agg #[.pointer (some ⟨4,97,none⟩)])))(h0:w.cell? ⟨tg,0,none⟩=some o0):
  Calls prog 42 #[.iface 100 (.agg #[x,.nilIface]),.iface 105 (.pointer (some ⟨tg,0,none⟩))] w fun e w'=>e = .returned (.bool false)/\Cx w w':=by
 have q1 := @run_callFunc_extern prog 89 _ (fun b=>ReflectliteValue.unpack (b.getD 0 (.tuple #[]))) func89 CH CH CH CH
 have q2 := @run_callFunc_extern prog 90 _ (ReflectliteValue.methodAny (ReflectliteValue.valueError "reflectlite.Value.Type" 0) (fun t _ _ _ => ReflectliteType.toType t)) func90 CH CH CH CH
 have q3 := @run_callFunc_extern prog 91 _ (ReflectliteValue.method (ReflectliteValue.valueError "reflectlite.Value.IsNil" 0) ReflectliteValue.isNil) func91 CH CH CH CH
 have q4 := @run_callFunc_extern prog 206 _ (ReflectliteType.abiMethod fun t=>do pure (.int .u8 (<-Rtype.kind t))) func206 CH CH CH CH
 have q5 := @run_callFunc_extern prog 227 _ (ReflectliteType.method ReflectliteType.elem) func227 CH CH CH CH
 have q6 := @run_callFunc_extern prog 228 _ (ReflectliteType.relation "Implements" ReflectliteType.implements_) func228 CH CH CH CH
 have mK:=Tryz.methodKind;have mE:=Tryz.methodElem;have mI:=Tryz.methodImplements;have v0:=Tryz.valueOfBP;have t0:=Tryz.typeBP;have kP:=Tryz.kindBP;have kE:=Tryz.kindBE;have eP:=Tryz.elemBP;have iE:=Tryz.implementsBE;have h:=ai hg;have i:=ai h0;dsimp only at h i;obtain ⟨W2,a⟩:∃ W2,World.alloc (World.alloc w (.cells #[.pointer (some ⟨tg,0,none⟩)] 105)) (.cells #[.pointer (some ⟨4,105,none⟩),.pointer (some ⟨w.heap.size,0,none⟩),.int .u64 150] 163)=W2:=⟨_,rfl⟩;have c:Cx w W2:=by rw [<-a];exact CU.alloc CI _
 have g:W2.cell? ⟨w.heap.size,0,none⟩=some (.pointer (some ⟨tg,0,none⟩)):=by rw [<-a];simp [go_sem]
 have n8:=Tryz.isNilBP ⟨w.heap.size,0,none⟩ ⟨tg,0,none⟩ W2 g;have j:=cell_later c hg;have d:=aa (wh x tg w.heap.size W2);have f:=aa c;rw [<-a] at n8 j d f;clear g c a;clear W2
 go_enter func42,ntmps42
 go_wp2_with fail
 refine d.out.mono ?_;clear d;rintro e w3 ⟨rfl,ho⟩;have HO:=aa ho;clear ho
 go_wp2_with fail
 go_ret
 exact ⟨rfl,f.out.trans (HO.out.mono f.out.size)⟩
end Go.Proofs.YtmkdgnmmebldgaaGreatDoor
