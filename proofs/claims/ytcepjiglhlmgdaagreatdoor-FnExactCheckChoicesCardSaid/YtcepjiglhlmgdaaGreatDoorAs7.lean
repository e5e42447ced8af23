import Derived.Test.YtcepjiglhlmgdaaGreatDoorUne
import Derived.Stop.Asserts
import Derived.LaidEql
namespace Go.Proofs.YtcepjiglhlmgdaaGreatDoor
open Go.RowKit Go.Extern.Stop Go.Stop Go.Extern
theorem as_nil (t : Value) (w : World) : Calls Tryz.prog 25 #[.nilIface, t] w fun e w' => e = .returned (.bool false) ∧ w' = w := by
  go_enter Tryz.func25, Tryz.ntmps25
  go_wp2
  go_ret
  exact ⟨rfl, rfl⟩
theorem rlm (z : Sem Value) (f : TypeId → Addr → Nat → Nat → Sem Value) (v : Value) :
    ReflectliteValue.method z f #[v] = (do match ← ReflectliteValue.parts v with | none => z | some (t, a, fl) => f t a fl (fl % 32)) := rfl
theorem rls (v x : Value) : ReflectliteValue.set #[v, x] = (do
    let (some (dst, a, fl), some (src, b, _)) := (← ReflectliteValue.parts v, ← ReflectliteValue.parts x)
      | unsupported (.noEntry "extern/(internal/reflectlite.Value).Set.zeroValue")
    if fl / ReflectliteValue.flagAddr % 2 == 0 then unsupported (.noEntry "extern/(internal/reflectlite.Value).Set.unaddressable")
    let val ← loadVar src b
    if ← Rtype.directlyAssignable dst src then storeVar dst a val
    else if ← Rtype.implements dst src then
      if (← Rtype.kind src) == 20 then
        match val with
        | .nilIface => unsupported (.noEntry "extern/reflectlite: a nil value of one interface type handed on as a value of another")
        | _ => storeVar dst a val
      else storeVar dst a (.iface src val)
    else panicString ("reflectlite.Set: value of type " ++ (← Rtype.spelt src) ++ " is not assignable to type " ++ (← Rtype.spelt dst))
    pure (.tuple #[])) := rfl
theorem asM_kind (h : Value) (w : World) : (Go.method (311 + 1) 137 (.agg #[h]) "Kind").run Tryz.prog w = .ok (106, h) w := by kernel_rfl
theorem asM_elem (h : Value) (w : World) : (Go.method (311 + 1) 137 (.agg #[h]) "Elem").run Tryz.prog w = .ok (124, .agg #[h]) w := by kernel_rfl
theorem asM_impl (h : Value) (w : World) : (Go.method (311 + 1) 137 (.agg #[h]) "Implements").run Tryz.prog w = .ok (125, .agg #[h]) w := by kernel_rfl
theorem asM_assn (h : Value) (w : World) : (Go.method (311 + 1) 137 (.agg #[h]) "AssignableTo").run Tryz.prog w = .ok (122, .agg #[h]) w := by kernel_rfl
theorem asT_kind (a : Addr) (w : World) : True := trivial

theorem uf_valueOf (t : Addr) (w : World) : (ReflectliteValue.unpack (.iface 73 (.pointer (some t)))).run Tryz.prog w = .ok (.agg #[.pointer (some ⟨8, 73, none⟩), .pointer (some ⟨w.heap.size, 0, none⟩), .int .u64 150]) (w.alloc (.cells #[.pointer (some t)] 73)) := by kernel_rfl
theorem uf_type (a : Addr) (w : World) : ((ReflectliteValue.methodAny (ReflectliteValue.valueError "reflectlite.Value.Type" 0) (fun t _ _ _ => ReflectliteType.toType t)) #[.agg #[.pointer (some ⟨8, 73, none⟩), .pointer (some a), .int .u64 150]]).run Tryz.prog w = .ok (.iface 137 (.agg #[.pointer (some ⟨8, 73, none⟩)])) w := by kernel_rfl
theorem uf_kindP  (w : World) : ((ReflectliteType.abiMethod fun t => (fun a : Nat => Value.int IntKind.u8 (a : Int)) <$> Rtype.kind t) #[.pointer (some ⟨8, 73, none⟩)]).run Tryz.prog w = .ok (.int .u8 22) w := by kernel_rfl
theorem uf_kindT  (w : World) : ((ReflectliteType.abiMethod fun t => (fun a : Nat => Value.int IntKind.u8 (a : Int)) <$> Rtype.kind t) #[.pointer (some ⟨8, 71, none⟩)]).run Tryz.prog w = .ok (.int .u8 25) w := by kernel_rfl
theorem uf_parts (a : Addr) (w : World) : (ReflectliteValue.parts (.agg #[.pointer (some ⟨8, 73, none⟩), .pointer (some a), .int .u64 150])).run Tryz.prog w = .ok (some (73, a, 150)) w := by kernel_rfl
theorem uf_isNil (a p : Addr) (W : World) (ha : W.cell? a = some (.pointer (some p))) : ((ReflectliteValue.method (ReflectliteValue.valueError "reflectlite.Value.IsNil" 0) ReflectliteValue.isNil) #[.agg #[.pointer (some ⟨8, 73, none⟩), .pointer (some a), .int .u64 150]]).run Tryz.prog W = .ok (.bool false) W := by
  rw [rlm]
  simp only [Sem.run_bind, uf_parts, Result.andThen]
  simp [ReflectliteValue.isNil, loadVar, isAgg, underlying, Tryz.underlying73, ha, Result.andThen]
theorem uf_elemT  (w : World) : ((ReflectliteType.method ReflectliteType.elem) #[.agg #[.pointer (some ⟨8, 73, none⟩)]]).run Tryz.prog w = .ok (.iface 137 (.agg #[.pointer (some ⟨8, 71, none⟩)])) w := by kernel_rfl
theorem uf_elemOf  (w : World) : (Rtype.elem? 73).run Tryz.prog w = .ok (some 71) w := by kernel_rfl
theorem uf_mk (p : Addr) (w : World) : (ReflectliteValue.mk 71 p ReflectliteValue.flagAddr).run Tryz.prog w = .ok (.agg #[.pointer (some ⟨8, 71, none⟩), .pointer (some p), .int .u64 409]) w := by kernel_rfl
theorem uf_elemV (a p : Addr) (W : World) (ha : W.cell? a = some (.pointer (some p))) : ((ReflectliteValue.method (ReflectliteValue.valueError "reflectlite.Value.Elem" 0) ReflectliteValue.elem) #[.agg #[.pointer (some ⟨8, 73, none⟩), .pointer (some a), .int .u64 150]]).run Tryz.prog W = .ok (.agg #[.pointer (some ⟨8, 71, none⟩), .pointer (some p), .int .u64 409]) W := by
  rw [rlm]
  simp only [Sem.run_bind, uf_parts, Result.andThen]
  simp [ReflectliteValue.elem, loadVar, isAgg, underlying, Tryz.underlying73, ha, Result.andThen, uf_elemOf, uf_mk]
theorem uf_partsT (a : Addr) (w : World) : (ReflectliteValue.parts (.agg #[.pointer (some ⟨8, 71, none⟩), .pointer (some a), .int .u64 409])).run Tryz.prog w = .ok (some (71, a, 409)) w := by kernel_rfl
theorem uf_assnE  (w : World) : ((ReflectliteType.relation "AssignableTo" ReflectliteType.assignableTo) #[.agg #[.pointer (some ⟨8, 175, none⟩)], .iface 137 (.agg #[.pointer (some ⟨8, 71, none⟩)])]).run Tryz.prog w = .ok (.bool false) w := by kernel_rfl
theorem uf_assnN  (w : World) : ((ReflectliteType.relation "AssignableTo" ReflectliteType.assignableTo) #[.agg #[.pointer (some ⟨8, 97, none⟩)], .iface 137 (.agg #[.pointer (some ⟨8, 71, none⟩)])]).run Tryz.prog w = .ok (.bool false) w := by kernel_rfl
theorem uf_assnF  (w : World) : ((ReflectliteType.relation "AssignableTo" ReflectliteType.assignableTo) #[.agg #[.pointer (some ⟨8, 71, none⟩)], .iface 137 (.agg #[.pointer (some ⟨8, 71, none⟩)])]).run Tryz.prog w = .ok (.bool true) w := by kernel_rfl
theorem ob_valueOf (t : Addr) (w : World) : (ReflectliteValue.unpack (.iface 80 (.pointer (some t)))).run Tryz.prog w = .ok (.agg #[.pointer (some ⟨8, 80, none⟩), .pointer (some ⟨w.heap.size, 0, none⟩), .int .u64 150]) (w.alloc (.cells #[.pointer (some t)] 80)) := by kernel_rfl
theorem ob_type (a : Addr) (w : World) : ((ReflectliteValue.methodAny (ReflectliteValue.valueError "reflectlite.Value.Type" 0) (fun t _ _ _ => ReflectliteType.toType t)) #[.agg #[.pointer (some ⟨8, 80, none⟩), .pointer (some a), .int .u64 150]]).run Tryz.prog w = .ok (.iface 137 (.agg #[.pointer (some ⟨8, 80, none⟩)])) w := by kernel_rfl
theorem ob_kindP  (w : World) : ((ReflectliteType.abiMethod fun t => (fun a : Nat => Value.int IntKind.u8 (a : Int)) <$> Rtype.kind t) #[.pointer (some ⟨8, 80, none⟩)]).run Tryz.prog w = .ok (.int .u8 22) w := by kernel_rfl
theorem ob_kindT  (w : World) : ((ReflectliteType.abiMethod fun t => (fun a : Nat => Value.int IntKind.u8 (a : Int)) <$> Rtype.kind t) #[.pointer (some ⟨8, 79, none⟩)]).run Tryz.prog w = .ok (.int .u8 20) w := by kernel_rfl
theorem ob_parts (a : Addr) (w : World) : (ReflectliteValue.parts (.agg #[.pointer (some ⟨8, 80, none⟩), .pointer (some a), .int .u64 150])).run Tryz.prog w = .ok (some (80, a, 150)) w := by kernel_rfl
theorem ob_isNil (a p : Addr) (W : World) (ha : W.cell? a = some (.pointer (some p))) : ((ReflectliteValue.method (ReflectliteValue.valueError "reflectlite.Value.IsNil" 0) ReflectliteValue.isNil) #[.agg #[.pointer (some ⟨8, 80, none⟩), .pointer (some a), .int .u64 150]]).run Tryz.prog W = .ok (.bool false) W := by
  rw [rlm]
  simp only [Sem.run_bind, ob_parts, Result.andThen]
  simp [ReflectliteValue.isNil, loadVar, isAgg, underlying, Tryz.underlying80, ha, Result.andThen]
theorem ob_elemT  (w : World) : ((ReflectliteType.method ReflectliteType.elem) #[.agg #[.pointer (some ⟨8, 80, none⟩)]]).run Tryz.prog w = .ok (.iface 137 (.agg #[.pointer (some ⟨8, 79, none⟩)])) w := by kernel_rfl
theorem ob_elemOf  (w : World) : (Rtype.elem? 80).run Tryz.prog w = .ok (some 79) w := by kernel_rfl
theorem ob_mk (p : Addr) (w : World) : (ReflectliteValue.mk 79 p ReflectliteValue.flagAddr).run Tryz.prog w = .ok (.agg #[.pointer (some ⟨8, 79, none⟩), .pointer (some p), .int .u64 404]) w := by kernel_rfl
theorem ob_elemV (a p : Addr) (W : World) (ha : W.cell? a = some (.pointer (some p))) : ((ReflectliteValue.method (ReflectliteValue.valueError "reflectlite.Value.Elem" 0) ReflectliteValue.elem) #[.agg #[.pointer (some ⟨8, 80, none⟩), .pointer (some a), .int .u64 150]]).run Tryz.prog W = .ok (.agg #[.pointer (some ⟨8, 79, none⟩), .pointer (some p), .int .u64 404]) W := by
  rw [rlm]
  simp only [Sem.run_bind, ob_parts, Result.andThen]
  simp [ReflectliteValue.elem, loadVar, isAgg, underlying, Tryz.underlying80, ha, Result.andThen, ob_elemOf, ob_mk]
theorem ob_partsT (a : Addr) (w : World) : (ReflectliteValue.parts (.agg #[.pointer (some ⟨8, 79, none⟩), .pointer (some a), .int .u64 404])).run Tryz.prog w = .ok (some (79, a, 404)) w := by kernel_rfl
theorem ob_test : (match Tryz.prog.info? 78, Tryz.prog.info? 175 with | some j, some i => (match j.desc, i.desc with | .interface want, .pointer _ => !(lacking want i.methods).isEmpty | _, _ => false) | _, _ => false) = true := by kernel_rfl
theorem ob_test2 : (match Tryz.prog.info? 79 with | some k => (match k.desc with | .named _ u => u == 78 | _ => false) | _ => false) = true := by kernel_rfl
theorem ob_impE (w : World) : (Rtype.implements 79 175).run Tryz.prog w = .ok false w := by
  have ht := ob_test
  have ht2 := ob_test2
  split at ht
  · rename_i j i hj hi
    split at ht
    · rename_i want e hdj hdi
      obtain ⟨m, hm⟩ := missingMethod_some (want := want) (got := i.methods) (by intro e; rw [e] at ht; cases ht)
      have h1 : (Rtype.noPackMethods "a method set held against an interface's list" 175).run Tryz.prog w = .ok () w := by kernel_rfl
      have h2 : (Rtype.noPackMethods "a method set held against an interface's list" 79).run Tryz.prog w = .ok () w := by kernel_rfl
      split at ht2
      · rename_i k hk
        split at ht2
        · rename_i n u hkd
          have hu : u = 78 := by simpa using ht2
          subst hu
          have hu1 : (Rtype.under 79).run Tryz.prog w = .ok (78, j) w := by simp [Rtype.under, typeInfo, hk, hkd, hj, Result.andThen]
          have hu2 : (Rtype.under 175).run Tryz.prog w = .ok (175, i) w := by simp [Rtype.under, typeInfo, hi, hdi, Result.andThen]
          simp [Rtype.implements, h1, h2, hu1, hu2, hdj, hdi, typeInfo, hi, hm, Result.andThen]
        · cases ht2
      · cases ht2
    · cases ht
  · cases ht
theorem ob_assnE (w : World) : ((ReflectliteType.relation "AssignableTo" ReflectliteType.assignableTo) #[.agg #[.pointer (some ⟨8, 175, none⟩)], .iface 137 (.agg #[.pointer (some ⟨8, 79, none⟩)])]).run Tryz.prog w = .ok (.bool false) w := by
  have h0 : ((ReflectliteType.relation "AssignableTo" ReflectliteType.assignableTo) #[.agg #[.pointer (some ⟨8, 175, none⟩)], .iface 137 (.agg #[.pointer (some ⟨8, 79, none⟩)])]) = (do pure (.bool (← ReflectliteType.assignableTo (← ReflectliteType.ofRtype (.agg #[.pointer (some ⟨8, 79, none⟩)])) (← ReflectliteType.ofRtype (.agg #[.pointer (some ⟨8, 175, none⟩)]))))) := rfl
  have h1 : (ReflectliteType.ofRtype (.agg #[.pointer (some ⟨8, 175, none⟩)])).run Tryz.prog w = .ok 175 w := by kernel_rfl
  have h2 : (ReflectliteType.ofRtype (.agg #[.pointer (some ⟨8, 79, none⟩)])).run Tryz.prog w = .ok 79 w := by kernel_rfl
  have h3 : (Rtype.noPackMethods "AssignableTo" 175).run Tryz.prog w = .ok () w := by kernel_rfl
  have h4 : (Rtype.noPackMethods "AssignableTo" 79).run Tryz.prog w = .ok () w := by kernel_rfl
  have h5 : (Rtype.directlyAssignable 79 175).run Tryz.prog w = .ok false w := by kernel_rfl
  have h6 := ob_impE w
  rw [h0]
  simp [h1, h2, ReflectliteType.assignableTo, h3, h4, h5, h6, Result.andThen]

theorem ob_assnN  (w : World) : ((ReflectliteType.relation "AssignableTo" ReflectliteType.assignableTo) #[.agg #[.pointer (some ⟨8, 97, none⟩)], .iface 137 (.agg #[.pointer (some ⟨8, 79, none⟩)])]).run Tryz.prog w = .ok (.bool true) w := by kernel_rfl
theorem ob_assnF  (w : World) : ((ReflectliteType.relation "AssignableTo" ReflectliteType.assignableTo) #[.agg #[.pointer (some ⟨8, 71, none⟩)], .iface 137 (.agg #[.pointer (some ⟨8, 79, none⟩)])]).run Tryz.prog w = .ok (.bool true) w := by kernel_rfl
theorem uf_impl (w : World) : ((ReflectliteType.relation "Implements" ReflectliteType.implements_) #[.agg #[.pointer (some ⟨8, 71, none⟩)], .iface 137 (.agg #[.pointer (some ⟨8, 67, none⟩)])]).run Tryz.prog w = .ok (.bool true) w := by kernel_rfl
theorem tyOfE (v : Value) (w : World) : (ReflectliteType.typeOf #[.iface 175 v]).run Tryz.prog w = .ok (.iface 137 (.agg #[.pointer (some ⟨8, 175, none⟩)])) w := by kernel_rfl
theorem noAsE (v : Value) (x : TypeId) (w : World) : (Instr.typeAssert (.iface 175 v) x 142 true).run Tryz.prog w = .ok (.tuple #[.nilIface, .bool false]) w := run_typeAssert_lacksB Tryz.underlying142 (by kernel_rfl) (by kernel_rfl) _ x w
theorem tyOfN (v : Value) (w : World) : (ReflectliteType.typeOf #[.iface 97 v]).run Tryz.prog w = .ok (.iface 137 (.agg #[.pointer (some ⟨8, 97, none⟩)])) w := by kernel_rfl
theorem noAsN (v : Value) (x : TypeId) (w : World) : (Instr.typeAssert (.iface 97 v) x 142 true).run Tryz.prog w = .ok (.tuple #[.nilIface, .bool false]) w := run_typeAssert_lacksB Tryz.underlying142 (by kernel_rfl) (by kernel_rfl) _ x w
theorem tyOfF (v : Value) (w : World) : (ReflectliteType.typeOf #[.iface 71 v]).run Tryz.prog w = .ok (.iface 137 (.agg #[.pointer (some ⟨8, 71, none⟩)])) w := by kernel_rfl
theorem noAsF (v : Value) (x : TypeId) (w : World) : (Instr.typeAssert (.iface 71 v) x 142 true).run Tryz.prog w = .ok (.tuple #[.nilIface, .bool false]) w := run_typeAssert_lacksB Tryz.underlying142 (by kernel_rfl) (by kernel_rfl) _ x w
theorem uf_val (ix : Int) (w : World) : (ReflectliteValue.unpack (unfitV ix)).run Tryz.prog w = .ok (.agg #[.pointer (some ⟨8, 71, none⟩), .pointer (some ⟨w.heap.size, 0, none⟩), .int .u64 153]) (w.alloc (.cells #[.int .i64 ix] 71)) := by kernel_rfl
theorem un_val (w : World) : (ReflectliteValue.unpack unevenV).run Tryz.prog w = .ok (.agg #[.pointer (some ⟨8, 97, none⟩), .pointer (some ⟨w.heap.size, 0, none⟩), .int .u64 153]) (w.alloc (.cells #[] 97)) := by kernel_rfl

end Go.Proofs.YtcepjiglhlmgdaaGreatDoor
