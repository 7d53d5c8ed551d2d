/- errors.As at the program's own error of a deed that strays: nil does not fit, such an error does, and its number is laid at the target; leans on what errors.errorType holds. -/
import Derived.Test.YtblahkhniabhiaaGreatDoorFA01
import Derived.LaidEql
import Derived.Stop.Asserts
import Derived.RowKitTokens
namespace Go.Proofs.YtblahkhniabhiaaGreatDoor
open Go.RowKit Go.Extern.Stop Go.Stop Go.Extern
set_option linter.unusedVariables false
set_option linter.unusedSimpArgs false
set_option maxRecDepth 100000

abbrev hStr : Value:=.pointer (some ⟨2,65,none⟩)
abbrev hStrP : Value:=.pointer (some ⟨2,67,none⟩)
abbrev hErr : Value:=.pointer (some ⟨2,61,none⟩)
theorem as_nil (t : Value) (w : World) :
  Calls Tryz.prog 19 #[.nilIface,t] w fun e w' => e = .returned (.bool false) ∧ w' = w:=by
 go_enter Tryz.func19,Tryz.ntmps19
 go_wp2
 go_ret
 exact ⟨rfl,rfl⟩
theorem Tryz.valueOfP (t : Addr) (w : World) : (ReflectliteValue.unpack (.iface 67 (.pointer (some t)))).run Tryz.prog w
  = .ok (.agg #[hStrP,.pointer (some ⟨w.heap.size,0,none⟩),.int .u64 150]) (w.alloc (.cells #[.pointer (some t)] 67)):=by kernel_rfl
theorem Tryz.typeP (a : Addr) (w : World) : (ReflectliteValue.methodAny (ReflectliteValue.valueError "reflectlite.Value.Type" 0) (fun t _ _ _ => ReflectliteType.toType t) #[.agg #[hStrP, .pointer (some a), .int .u64 150]]).run Tryz.prog w
  = .ok (.iface 126 (.agg #[hStrP])) w:=by kernel_rfl
theorem Tryz.methodKind (h : Value) (w : World) : (Go.method 343 126 (.agg #[h]) "Kind").run Tryz.prog w = .ok (181, h) w := by kernel_rfl
theorem Tryz.kindP (w : World) : ((ReflectliteType.abiMethod fun t => (fun a : Nat => Value.int IntKind.u8 (a : Int)) <$> Rtype.kind t) #[hStrP]).run Tryz.prog w = .ok (.int .u8 22) w:=by kernel_rfl
theorem Tryz.kindS (w : World) : ((ReflectliteType.abiMethod fun t => (fun a : Nat => Value.int IntKind.u8 (a : Int)) <$> Rtype.kind t) #[hStr]).run Tryz.prog w = .ok (.int .u8 25) w:=by kernel_rfl
theorem rlm (z : Sem Value) (f : TypeId → Addr → Nat → Nat → Sem Value) (v : Value) :
  ReflectliteValue.method z f #[v] = (do match ← ReflectliteValue.parts v with | none => z | some (t,a,fl) => f t a fl (fl % 32)):=rfl
theorem Tryz.partsP (a : Addr) (w : World) : (ReflectliteValue.parts (.agg #[hStrP,.pointer (some a),.int .u64 150])).run Tryz.prog w = .ok (some (67,a,150)) w:=by kernel_rfl
theorem Tryz.isNilP (a p : Addr) (W : World) (ha : W.cell? a = some (.pointer (some p))) :
  (ReflectliteValue.method (ReflectliteValue.valueError "reflectlite.Value.IsNil" 0) ReflectliteValue.isNil #[.agg #[hStrP, .pointer (some a), .int .u64 150]]).run Tryz.prog W = .ok (.bool false) W := by
 rw [rlm]
 simp only [Sem.run_bind,Tryz.partsP,Result.andThen]
 simp [ReflectliteValue.isNil,loadVar,isAgg,underlying,Tryz.underlying67,ha,Result.andThen]
theorem Tryz.methodElem (h : Value) (w : World) : (Go.method 343 126 (.agg #[h]) "Elem").run Tryz.prog w = .ok (191, .agg #[h]) w := by kernel_rfl
theorem Tryz.methodImplements (h : Value) (w : World) : (Go.method 343 126 (.agg #[h]) "Implements").run Tryz.prog w = .ok (192, .agg #[h]) w := by kernel_rfl
theorem Tryz.methodAssignableTo (h : Value) (w : World) : (Go.method 343 126 (.agg #[h]) "AssignableTo").run Tryz.prog w = .ok (189, .agg #[h]) w := by kernel_rfl
theorem Tryz.elemP (w : World) : (ReflectliteType.method ReflectliteType.elem #[.agg #[hStrP]]).run Tryz.prog w = .ok (.iface 126 (.agg #[hStr])) w:=by kernel_rfl
theorem Tryz.implementsS (w : World) : (ReflectliteType.relation "Implements" ReflectliteType.implements_ #[.agg #[hStr], .iface 126 (.agg #[hErr])]).run Tryz.prog w = .ok (.bool true) w := by kernel_rfl
theorem Tryz.typeOfS (v : Value) (w : World) : (ReflectliteType.typeOf #[.iface 65 v]).run Tryz.prog w = .ok (.iface 126 (.agg #[hStr])) w:=by kernel_rfl
theorem Tryz.assignableS (w : World) : (ReflectliteType.relation "AssignableTo" ReflectliteType.assignableTo #[.agg #[hStr], .iface 126 (.agg #[hStr])]).run Tryz.prog w = .ok (.bool true) w := by kernel_rfl
theorem Tryz.valueOfS (i : Int) (w : World) : (ReflectliteValue.unpack (.iface 65 (.agg #[.i i]))).run Tryz.prog w
  = .ok (.agg #[hStr,.pointer (some ⟨w.heap.size,0,none⟩),.int .u64 153]) (w.alloc (.cells #[.i i] 65)):=by kernel_rfl
theorem Tryz.elemOfP (w : World) : (Rtype.elem? 67).run Tryz.prog w = .ok (some 65) w:=by kernel_rfl
theorem Tryz.mkS (p : Addr) (w : World) : (ReflectliteValue.mk 65 p ReflectliteValue.flagAddr).run Tryz.prog w = .ok (.agg #[hStr,.pointer (some p),.int .u64 409]) w:=by kernel_rfl
theorem Tryz.elemVP (a p : Addr) (W : World) (ha : W.cell? a = some (.pointer (some p))) :
  (ReflectliteValue.method (ReflectliteValue.valueError "reflectlite.Value.Elem" 0) ReflectliteValue.elem #[.agg #[hStrP, .pointer (some a), .int .u64 150]]).run Tryz.prog W
   = .ok (.agg #[hStr,.pointer (some p),.int .u64 409]) W:=by
 rw [rlm]
 simp only [Sem.run_bind,Tryz.partsP,Result.andThen]
 simp [ReflectliteValue.elem,loadVar,isAgg,underlying,Tryz.underlying67,ha,Result.andThen,Tryz.elemOfP,Tryz.mkS]
theorem rls (v x : Value) : ReflectliteValue.set #[v,x] = (do
  let (some (dst,a,fl),some (src,b,_)):=(← ReflectliteValue.parts v,← ReflectliteValue.parts x)
   | unsupported (.noEntry "extern/(internal/reflectlite.Value).Set.zeroValue")
  if fl / ReflectliteValue.flagAddr % 2 == 0 then unsupported (.noEntry "extern/(internal/reflectlite.Value).Set.unaddressable")
  let val ← loadVar src b
  if ← Rtype.directlyAssignable dst src then storeVar dst a val
  else if ← Rtype.implements dst src then
   if (← Rtype.kind src) == 20 then
    match val with
    | .nilIface => unsupported (.noEntry "extern/reflectlite: a nil value of one interface type handed on as a value of another")
    | _ => storeVar dst a val
   else storeVar dst a (.iface src val)
  else panicString ("reflectlite.Set: value of type " ++ (← Rtype.spelt src) ++ " is not assignable to type " ++ (← Rtype.spelt dst))
  pure (.tuple #[])):=rfl
theorem Tryz.partsSa (a : Addr) (w : World) : (ReflectliteValue.parts (.agg #[hStr,.pointer (some a),.int .u64 409])).run Tryz.prog w = .ok (some (65,a,409)) w:=by kernel_rfl
theorem Tryz.partsS (a : Addr) (w : World) : (ReflectliteValue.parts (.agg #[hStr,.pointer (some a),.int .u64 153])).run Tryz.prog w = .ok (some (65,a,153)) w:=by kernel_rfl
theorem Tryz.directS (w : World) : (Rtype.directlyAssignable 65 65).run Tryz.prog w = .ok true w:=by kernel_rfl
theorem Tryz.setS (t b : Nat) (i : Int) (old : Value) (W : World) (hb : VarA W b 65 #[.i i]) (ht : VarA W t 65 #[old]) :
  (ReflectliteValue.set #[.agg #[hStr,.pointer (some ⟨t,0,none⟩),.int .u64 409],.agg #[hStr,.pointer (some ⟨b,0,none⟩),.int .u64 153]]).run Tryz.prog W
   = .ok (.tuple #[]) (W.setCell ⟨t,0,none⟩ (.i i)):=by
 have hl:=loadA_run hb Tryz.underlying65 rfl (by kernel_rfl)
 have c1 : W.cell? ⟨t,0,none⟩ = some old:=ht.c 0 rfl
 have f1:=ht.f 0
 have hs : (sizeOf 65).run Tryz.prog W = .ok 1 W:=by kernel_rfl
 rw [rls]
 simp only [Sem.run_bind,Tryz.partsSa,Tryz.partsS,Result.andThen]
 simp [ReflectliteValue.flagAddr,hl,Result.andThen,Tryz.directS,storeVar,Value.cells,storeCells,Addr.add]
 rw [run_store Tryz.prog W _ _ _ (by rfl)]
 simp [c1,f1]
set_option maxHeartbeats 4000000 in
theorem as_hit (i : Int) (t : Nat) (old : Value) (w : World) (hg : w.cell? ⟨0,0,none⟩ = some (.iface 126 (.agg #[hErr]))) (ht : VarA w t 65 #[old]) (hgt : 0 < w.heap.size) :
  Calls Tryz.prog 19 #[.iface 65 (.agg #[.i i]),.iface 67 (.pointer (some ⟨t,0,none⟩))] w fun ev w' => ev = .returned (.bool true) ∧ VarA w' t 65 #[.i i] ∧ w.heap.size ≤ w'.heap.size ∧ (∀ k,k < w.heap.size → k ≠ t → w'.heap[k]? = w.heap[k]?) ∧ w'.os = w.os ∧ w'.tape = w.tape ∧ w'.output = w.output:=by
 have h6:=@run_callFunc_extern Tryz.prog 39 _ (fun args => ReflectliteValue.unpack (args.getD 0 (.tuple #[]))) Tryz.func39 (by kernel_rfl) (by kernel_rfl) (by kernel_rfl) (by kernel_rfl)
 have h7 := @run_callFunc_extern Tryz.prog 40 _ (ReflectliteValue.methodAny (ReflectliteValue.valueError "reflectlite.Value.Type" 0) (fun t _ _ _ => ReflectliteType.toType t)) Tryz.func40 (by kernel_rfl) (by kernel_rfl) (by kernel_rfl) (by kernel_rfl)
 have h8 := @run_callFunc_extern Tryz.prog 41 _ (ReflectliteValue.method (ReflectliteValue.valueError "reflectlite.Value.IsNil" 0) ReflectliteValue.isNil) Tryz.func41 (by kernel_rfl) (by kernel_rfl) (by kernel_rfl) (by kernel_rfl)
 have h27:=@run_callFunc_extern Tryz.prog 181 _ (ReflectliteType.abiMethod fun t => do pure (.int .u8 (← Rtype.kind t))) Tryz.func181 (by kernel_rfl) (by kernel_rfl) (by kernel_rfl) (by kernel_rfl)
 have h37:=@run_callFunc_extern Tryz.prog 191 _ (ReflectliteType.method ReflectliteType.elem) Tryz.func191 (by kernel_rfl) (by kernel_rfl) (by kernel_rfl) (by kernel_rfl)
 have h38 := @run_callFunc_extern Tryz.prog 192 _ (ReflectliteType.relation "Implements" ReflectliteType.implements_) Tryz.func192 (by kernel_rfl) (by kernel_rfl) (by kernel_rfl) (by kernel_rfl)
 have h10:=@run_callFunc_extern Tryz.prog 70 _ ReflectliteType.typeOf Tryz.func70 (by kernel_rfl) (by kernel_rfl) (by kernel_rfl) (by kernel_rfl)
 have h35 := @run_callFunc_extern Tryz.prog 189 _ (ReflectliteType.relation "AssignableTo" ReflectliteType.assignableTo) Tryz.func189 (by kernel_rfl) (by kernel_rfl) (by kernel_rfl) (by kernel_rfl)
 have h11 := @run_callFunc_extern Tryz.prog 71 _ (ReflectliteValue.method (ReflectliteValue.valueError "reflectlite.Value.Elem" 0) ReflectliteValue.elem) Tryz.func71 (by kernel_rfl) (by kernel_rfl) (by kernel_rfl) (by kernel_rfl)
 have h12:=@run_callFunc_extern Tryz.prog 72 _ ReflectliteValue.set Tryz.func72 (by kernel_rfl) (by kernel_rfl) (by kernel_rfl) (by kernel_rfl)
 have tO:=Tryz.typeOfS
 have mA:=Tryz.methodAssignableTo
 have a25:=Tryz.assignableS
 have v25:=Tryz.valueOfS
 have f6:=Tryz.valueOfP
 have f7:=Tryz.typeP
 have mK:=Tryz.methodKind
 have mE:=Tryz.methodElem
 have mI:=Tryz.methodImplements
 have k27:=Tryz.kindP
 have k25:=Tryz.kindS
 have e27:=Tryz.elemP
 have i25:=Tryz.implementsS
 have htl:=ht.lt
 obtain ⟨V,hV⟩ : ∃ V : Array Value,V = #[hStrP,.pointer (some ⟨w.heap.size,0,none⟩),.int .u64 150]:=⟨_,rfl⟩
 have n8:=Tryz.isNilP ⟨w.heap.size,0,none⟩ ⟨t,0,none⟩ ((w.alloc (.cells #[.pointer (some ⟨t,0,none⟩)] 67)).alloc (.cells #[hStrP,.pointer (some ⟨w.heap.size,0,none⟩),.int .u64 150] 95)) (by simp)
 have hg2 : ((w.alloc (.cells #[.pointer (some ⟨t,0,none⟩)] 67)).alloc (.cells #[hStrP,.pointer (some ⟨w.heap.size,0,none⟩),.int .u64 150] 95)).cell? ⟨0,0,none⟩ = some (.iface 126 (.agg #[hErr])):=by
  rw [World.cell?_alloc_lt _ _ ⟨0,0,none⟩ (by simp),World.cell?_alloc_lt _ _ ⟨0,0,none⟩ hgt]; exact hg
 have el:=Tryz.elemVP ⟨w.heap.size,0,none⟩ ⟨t,0,none⟩ (((w.alloc (.cells #[.pointer (some ⟨t,0,none⟩)] 67)).alloc (.cells #[hStrP,.pointer (some ⟨w.heap.size,0,none⟩),.int .u64 150] 95)).alloc (.cells #[hStrP,.pointer (some ⟨w.heap.size,0,none⟩),.int .u64 150] 95)) (by rw [World.cell?_alloc_lt _ _ ⟨w.heap.size,0,none⟩ (by simp; omega)]; simp)
 have hv4 : VarA ((((w.alloc (.cells #[.pointer (some ⟨t,0,none⟩)] 67)).alloc (.cells #[hStrP,.pointer (some ⟨w.heap.size,0,none⟩),.int .u64 150] 95)).alloc (.cells #[hStrP,.pointer (some ⟨w.heap.size,0,none⟩),.int .u64 150] 95)).alloc (.cells #[.i i] 65)) (w.heap.size + 1 + 1 + 1) 65 #[.i i]:=by
  have h:=VarA.new (((w.alloc (.cells #[.pointer (some ⟨t,0,none⟩)] 67)).alloc (.cells #[hStrP,.pointer (some ⟨w.heap.size,0,none⟩),.int .u64 150] 95)).alloc (.cells #[hStrP,.pointer (some ⟨w.heap.size,0,none⟩),.int .u64 150] 95)) 65 #[.i i]
  rw [World.size_alloc,World.size_alloc,World.size_alloc] at h
  exact h
 have ht4:=(((ht.alloc (.cells #[.pointer (some ⟨t,0,none⟩)] 67)).alloc (.cells #[hStrP,.pointer (some ⟨w.heap.size,0,none⟩),.int .u64 150] 95)).alloc (.cells #[hStrP,.pointer (some ⟨w.heap.size,0,none⟩),.int .u64 150] 95)).alloc (.cells #[.i i] 65)
 have st:=Tryz.setS t (w.heap.size + 1 + 1 + 1) i old _ hv4 ht4
 have HT : Hid (VarA _ t 65 #[.i i]):=ht4.set 0 (.i i)
 clear hv4 ht4 ht hV
 go_enter Tryz.func19,Tryz.ntmps19
 go_wp2
 refine wp_loop_rounds 1 ?_
 rw [rounds_succ]
 go_wp2
 go_ret
 refine ⟨rfl,HT.out,by simp only [World.size_setCell,World.size_alloc]; omega,fun k hk hkt => ?_,rfl,rfl,rfl⟩
 rw [heap_setCell_other _ _ _ _ hkt]
 rw [Below.heap_alloc _ _ _ (by simp; omega),Below.heap_alloc _ _ _ (by simp; omega),Below.heap_alloc _ _ _ (by simp; omega),Below.heap_alloc _ _ _ hk]
end Go.Proofs.YtblahkhniabhiaaGreatDoor
