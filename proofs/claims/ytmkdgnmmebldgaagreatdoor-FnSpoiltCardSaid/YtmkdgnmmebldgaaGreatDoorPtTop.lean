import Derived.Test.YtmkdgnmmebldgaaGreatDoorTie
import Derived.Test.YtmkdgnmmebldgaaGreatDoorCards
import Derived.Test.YtmkdgnmmebldgaaGreatDoorPt41
import Derived.Test.YtmkdgnmmebldgaaGreatDoorPt51
import Derived.Stop.LaidErr
import Derived.ChangeSame
import Derived.ChangeVars
import Derived.JoinedOf
import Derived.RowKitTokens
import Derived.LaidLaws
import Derived.LaidHandle
import Derived.Stop.Joined
set_option maxRecDepth 100000
set_option maxHeartbeats 8000000
namespace Go.Proofs.YtmkdgnmmebldgaaGreatDoor
open Go.ChangeShapes Go.WideShapes Go.ChangeAt Go.RowKit Go.Deep
theorem Tryz.et : Tryz.prog.globalNamed "errors.errorType" = some 0 := by kernel_rfl
theorem Tryz.rtOf : (Tryz.prog.cutTypes.find? (·.1 == "internal/reflectlite.rtype")).map (·.2) = some 240 := by kernel_rfl
theorem Tryz.oneError:((List.range 348).filter fun t=>Tryz.prog.rowNamed t [101,114,114,111,114])=[97]:=by kernel_rfl
theorem Tryz.typesSize:Tryz.prog.types.size=348:=by kernel_rfl
theorem handle_of_laidS {W:World}(h:laidMetH Tryz.prog Rows.fnSpoiltRow.laid W):W.cell? ⟨0,0,none⟩=some (.iface 240 (.agg #[.pointer (some ⟨4,97,none⟩)])):=by
 have h' : laidMet Tryz.prog [("math/bits.deBruijn32tab", Rows.laid_math_bits_deBruijn32tab), ("math/bits.deBruijn64tab", Rows.laid_math_bits_deBruijn64tab), ("internal/strconv.uint64pow10", Rows.laid_internal_strconv_uint64pow10)] W ∧ handlesMet Tryz.prog [("errors.errorType", Rows.laid_errors_errorType)] W := h
 obtain ⟨name,u,ty,e1,e2,e3,e4,e5⟩:=h'.2 _ (List.mem_singleton.2 rfl)
 have en:name=[101,114,114,111,114]:=(Option.some.inj e1).symm
 subst en
 obtain rfl:=Option.some.inj (Tryz.rtOf.symm.trans e2)
 have hm:ty ∈ (List.range 348).filter fun t=>Tryz.prog.rowNamed t [101,114,114,111,114]:=List.mem_filter.2 ⟨List.mem_range.2 (by rw [← Tryz.typesSize];exact e3),e4⟩
 rw [Tryz.oneError] at hm
 obtain rfl:=List.mem_singleton.1 hm
 have hh:typeHandle Tryz.prog 97 = .pointer (some ⟨4,97,none⟩):=by kernel_rfl
 rw [hh] at e5
 simpa using World.var?_cell Tryz.et e5 0
def tabCells:DataW Unit→Array Value
 | .agg l=>(l.map fun
  | .lit (.int k z)=>Value.int k z
  | _=>.nilIface).toArray
 | _=>#[]
def laidWorld (P : Program) (os : Os) : World :=
 let w0:=World.holding P os ⟨#[],#[],[]⟩
 let put:=fun (h:Array Obj) (g:Nat) (d:DataW Unit)=>h.modify g fun
   | .cells _ t frozen=>.cells (tabCells d) t frozen
   | o=>o
 { w0 with heap:=(put (put (put w0.heap 1 Rows.laid_internal_strconv_uint64pow10) 2 Rows.laid_math_bits_deBruijn32tab) 3 Rows.laid_math_bits_deBruijn64tab).modify 0 fun
   | .cells _ t frozen=>.cells #[.iface 240 (.agg #[.pointer (some ⟨4,97,none⟩)])] t frozen
   | o=>o }
theorem laidWorld_met (os:Os)(args:Array Value):laidMetH Tryz.prog Rows.fnSpoiltRow.laid ((laidWorld Tryz.prog os).forCall (fun _ _=>0) ⟨#[],args,[]⟩).memory:=
 laidMetH_of_parts (laidMet_of_run' 100 (by kernel_rfl) (by kernel_rfl)) (by kernel_rfl)
theorem spoilt_lifted (os:Os)(started:os.Started)(H:Type)(enc:TypeId × Value→H):
  ReturnsInHanded {} Tryz.checked os 7 .any (fun w args=>(Rows.fnSpoiltSpec.pre enc Tryz.prog Tryz.f7 [] false w args∧laidMetH Tryz.prog Rows.fnSpoiltRow.laid w)∧sizedMet enc Tryz.prog Tryz.f7 (OpenSpec.ofChange Rows.fnSpoiltSpec) false w args)
   (Rows.fnSpoiltSpec.post enc Tryz.prog Tryz.f7 false true false false):=by
 refine returnsInHanded_of_change_and (C:=Tryz.checked) (X:=fun w _=>laidMetH Tryz.prog Rows.fnSpoiltRow.laid w) (fun _ _ _ hh h=>h.of_heap hh) ownDraws started (by kernel_rfl) Tryz.func7
  (ChangeSpec.witness_at (enc:=enc) (C:=Tryz.checked) (os:=os) (X:=fun w _=>laidMetH Tryz.prog Rows.fnSpoiltRow.laid w) false (laidWorld Tryz.prog os) #[.slice none 0 0] 8 rfl (by kernel_rfl) (by kernel_rfl) (by kernel_rfl) (by kernel_rfl) (by kernel_rfl) (laidWorld_met os _)) ?_
 intro W base args ds gs before hval0 hW _ _ hL _
 have hval:∀ (j:Nat) t v,Tryz.f7.params[j]? = some t→args[j]? = some v→Value.okWide Tryz.prog W .any base t v:=hval0
 have hW':=hW
 obtain ⟨p,q,hA0,hV,rfl,hfz,hnd⟩:=hW
 have hA:DataW.TrodAll enc Tryz.prog W 0 (fun _=>true) true Tryz.f7.params.toList args.toList ds p:=hA0
 rw [Tryz.params7] at hA hval
 obtain ⟨v0,vs0,d0,ds0,p0,q0,hargs,rfl,rfl,h0,r0⟩:=trodAll_cons hA
 obtain ⟨rfl,rfl,rfl⟩:=trodAll_nil r0
 obtain rfl:args = #[v0]:=by cases args;simp_all
 obtain ⟨rfl,rfl⟩:=trodVars_none hV
 have k0:=h0
 have lt0:∀ x ∈ p0,x.block<W.heap.size:=by obtain ⟨m,hm⟩:=k0;exact DataW.trod_lt m _ _ _ hm
 obtain ⟨ca,cc,bs,hv0,hb0⟩:=openBytesV (hval 0 22 v0 rfl rfl) h0
 subst hv0
 clear hA0 hval0
 refine (lawSpoilt_any ca cc bs W hb0 (handle_of_laidS hL)).mono fun e W' ⟨he,bel⟩=>?_
 subst he
 exact ⟨_,rfl,_,_,_,[],_,[],hW',trodAll_mk1 (shut_bool Tryz.underlying4 _),(trodAll_cons_mk (Below.trod Tryz.laidOutD (by kernel_rfl) (of_decide_eq_true (by kernel_rfl)) k0 bel lt0) trodAll_mk0),rfl,bel.frame _,fun h=>by cases h⟩
theorem spoilt_card:Rows.FnSpoiltCardSaid:=spoilt_card_of (spoilt_holds_of (fun os started H enc=>spoilt_lifted os started H enc))
#print axioms spoilt_card
end Go.Proofs.YtmkdgnmmebldgaaGreatDoor
