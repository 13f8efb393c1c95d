/- errors.As at a nil error, and at an error that is a tooLong, the target a tooLong's place: by contracts. errors.As at an error that is a tooLong, the target a tooLong's place: true, and the place holds it. -/
import Derived.Test.YthnkmjkgcnhlfaaGreatDoorProg
import Derived.WalkKit
import Derived.LaidEql
import Derived.Stop.Asserts
import Derived.RowKitTokens
import Derived.Test.YthnkmjkgcnhlfaaGreatDoorH01
import Derived.WalkSpells
namespace Go.Proofs.YthnkmjkgcnhlfaaGreatDoor
open Go.RowKit Go.Extern.Stop Go.Stop Go.Extern

/-- errors.As(nil, target). -/
theorem as_nil (t : Value) (w : World) :
    Calls Tryz.prog 85 #[.nilIface, t] w fun e w' => e = .returned (.bool false) ∧ w' = w := by
  go_enter Tryz.func85, Tryz.ntmps85
  go_wp2
  go_ret
  exact ⟨rfl, rfl⟩

/-- The handle of a type. -/
abbrev hdl (t : Nat) : Value := .pointer (some ⟨4, t, none⟩)
/-- A reflectlite Value of the target's pointer, of the error, and of the place that the target points to. -/
abbrev rvP (k : Nat) : Value := .agg #[hdl 82, .pointer (some ⟨k, 0, none⟩), .int .u64 150]
abbrev rvE (k : Nat) : Value := .agg #[hdl 80, .pointer (some ⟨k, 0, none⟩), .int .u64 153]
abbrev rvT (k : Nat) : Value := .agg #[hdl 80, .pointer (some ⟨k, 0, none⟩), .int .u64 409]
/-- A type as reflectlite hands it out. -/
abbrev rty (t : Nat) : Value := .iface 134 (.agg #[hdl t])

theorem Tryz.valueOfP (k : Nat) (w : World) : (ReflectliteValue.unpack (.iface 82 (.pointer (some ⟨k, 0, none⟩)))).run Tryz.prog w
    = .ok (rvP w.heap.size) (w.alloc (.cells #[.pointer (some ⟨k, 0, none⟩)] 82)) := by kernel_rfl
theorem Tryz.typeP (k : Nat) (w : World) : (ReflectliteValue.methodAny (ReflectliteValue.valueError "reflectlite.Value.Type" 0) (fun t _ _ _ => ReflectliteType.toType t) #[rvP k]).run Tryz.prog w
    = .ok (rty 82) w := by kernel_rfl
theorem Tryz.methodKind (h : Value) (w : World) : (Go.method 293 134 (.agg #[h]) "Kind").run Tryz.prog w = .ok (169, h) w := by kernel_rfl
theorem Tryz.kindP (w : World) : ((ReflectliteType.abiMethod fun t => (fun a : Nat => Value.int IntKind.u8 (a : Int)) <$> Rtype.kind t) #[hdl 82]).run Tryz.prog w = .ok (.int .u8 22) w := by kernel_rfl
theorem Tryz.kindT (w : World) : ((ReflectliteType.abiMethod fun t => (fun a : Nat => Value.int IntKind.u8 (a : Int)) <$> Rtype.kind t) #[hdl 80]).run Tryz.prog w = .ok (.int .u8 25) w := by kernel_rfl

theorem rlm (z : Sem Value) (f : TypeId → Addr → Nat → Nat → Sem Value) (v : Value) :
    ReflectliteValue.method z f #[v] = (do match ← ReflectliteValue.parts v with | none => z | some (t, a, fl) => f t a fl (fl % 32)) := rfl
theorem Tryz.partsP (k : Nat) (w : World) : (ReflectliteValue.parts (rvP k)).run Tryz.prog w = .ok (some (82, ⟨k, 0, none⟩, 150)) w := by kernel_rfl
/-- (Value).IsNil at the Value of a pointer that is not nil. -/
theorem Tryz.isNilP (k t : Nat) (W : World) (ha : W.cell? ⟨k, 0, none⟩ = some (.pointer (some ⟨t, 0, none⟩))) :
    (ReflectliteValue.method (ReflectliteValue.valueError "reflectlite.Value.IsNil" 0) ReflectliteValue.isNil #[rvP k]).run Tryz.prog W = .ok (.bool false) W := by
  rw [rlm]
  simp only [Sem.run_bind, Tryz.partsP, Result.andThen]
  simp [ReflectliteValue.isNil, loadVar, isAgg, underlying, Tryz.underlying82, ha, Result.andThen]

theorem Tryz.methodElem (h : Value) (w : World) : (Go.method 293 134 (.agg #[h]) "Elem").run Tryz.prog w = .ok (180, .agg #[h]) w := by kernel_rfl
theorem Tryz.methodImplements (h : Value) (w : World) : (Go.method 293 134 (.agg #[h]) "Implements").run Tryz.prog w = .ok (181, .agg #[h]) w := by kernel_rfl
theorem Tryz.methodAssignableTo (h : Value) (w : World) : (Go.method 293 134 (.agg #[h]) "AssignableTo").run Tryz.prog w = .ok (178, .agg #[h]) w := by kernel_rfl
theorem Tryz.elemP (w : World) : (ReflectliteType.method ReflectliteType.elem #[.agg #[hdl 82]]).run Tryz.prog w = .ok (rty 80) w := by kernel_rfl
theorem Tryz.implementsT (w : World) : (ReflectliteType.relation "Implements" ReflectliteType.implements_ #[.agg #[hdl 80], rty 54]).run Tryz.prog w = .ok (.bool true) w := by kernel_rfl
theorem Tryz.typeOfT (v : Value) (w : World) : (ReflectliteType.typeOf #[.iface 80 v]).run Tryz.prog w = .ok (rty 80) w := by kernel_rfl
theorem Tryz.assignableT (w : World) : (ReflectliteType.relation "AssignableTo" ReflectliteType.assignableTo #[.agg #[hdl 80], rty 80]).run Tryz.prog w = .ok (.bool true) w := by kernel_rfl
theorem Tryz.valueOfT (x y : Value) (w : World) : (ReflectliteValue.unpack (.iface 80 (.agg #[x, y]))).run Tryz.prog w
    = .ok (rvE w.heap.size) (w.alloc (.cells #[x, y] 80)) := by kernel_rfl

theorem Tryz.elemOfP (w : World) : (Rtype.elem? 82).run Tryz.prog w = .ok (some 80) w := by kernel_rfl
theorem Tryz.mkT (k : Nat) (w : World) : (ReflectliteValue.mk 80 ⟨k, 0, none⟩ ReflectliteValue.flagAddr).run Tryz.prog w = .ok (rvT k) w := by kernel_rfl
/-- (Value).Elem at the Value of a pointer that is not nil: the Value of the place that it points to. -/
theorem Tryz.elemVP (k t : Nat) (W : World) (ha : W.cell? ⟨k, 0, none⟩ = some (.pointer (some ⟨t, 0, none⟩))) :
    (ReflectliteValue.method (ReflectliteValue.valueError "reflectlite.Value.Elem" 0) ReflectliteValue.elem #[rvP k]).run Tryz.prog W = .ok (rvT t) W := by
  rw [rlm]
  simp only [Sem.run_bind, Tryz.partsP, Result.andThen]
  simp [ReflectliteValue.elem, loadVar, isAgg, underlying, Tryz.underlying82, ha, Result.andThen, Tryz.elemOfP, Tryz.mkT]
theorem rls (v x : Value) : ReflectliteValue.set #[v, x] = (do
    let (some (dst, a, fl), some (src, b, _)) := (← ReflectliteValue.parts v, ← ReflectliteValue.parts x)
      | unsupported (.noEntry "extern/(internal/reflectlite.Value).Set.zeroValue")
    if fl / ReflectliteValue.flagAddr % 2 == 0 then unsupported (.noEntry "extern/(internal/reflectlite.Value).Set.unaddressable")
    let val ← loadVar src b
    if ← Rtype.directlyAssignable dst src then storeVar dst a val
    else if ← Rtype.implements dst src then
      if (← Rtype.kind src) == 20 then
        match val with
        | .nilIface => unsupported (.noEntry "extern/reflectlite: a nil value of one interface type handed on as a value of another")
        | _ => storeVar dst a val
      else storeVar dst a (.iface src val)
    else panicString ("reflectlite.Set: value of type " ++ (← Rtype.spelt src) ++ " is not assignable to type " ++ (← Rtype.spelt dst))
    pure (.tuple #[])) := rfl
theorem Tryz.partsT (k : Nat) (w : World) : (ReflectliteValue.parts (rvT k)).run Tryz.prog w = .ok (some (80, ⟨k, 0, none⟩, 409)) w := by kernel_rfl
theorem Tryz.partsE (k : Nat) (w : World) : (ReflectliteValue.parts (rvE k)).run Tryz.prog w = .ok (some (80, ⟨k, 0, none⟩, 153)) w := by kernel_rfl
theorem Tryz.directT (w : World) : (Rtype.directlyAssignable 80 80).run Tryz.prog w = .ok true w := by kernel_rfl
theorem Tryz.aggT (w : World) : (isAgg 80).run Tryz.prog w = .ok true w := by kernel_rfl
theorem Tryz.loadT (k : Nat) (x y : Int) (W : World) (h0 : W.cell? ⟨k, 0, none⟩ = some (.int .i64 x)) (h1 : W.cell? ⟨k, 1, none⟩ = some (.int .i64 y)) :
    (loadVar 80 ⟨k, 0, none⟩).run Tryz.prog W = .ok (.agg #[.int .i64 x, .int .i64 y]) W := by
  unfold loadVar
  simp only [Sem.run_bind, Tryz.aggT, Result.andThen]
  simp [loadCells, loadCellsFrom, Result.andThen, Addr.add, h0, h1]
theorem Tryz.storeT (t : Nat) (x y : Int) (o0 o1 : Value) (W : World) (h0 : W.cell? ⟨t, 0, none⟩ = some o0) (h1 : W.cell? ⟨t, 1, none⟩ = some o1) (f0 : W.frozen? ⟨t, 0, none⟩ = false) (f1 : W.frozen? ⟨t, 1, none⟩ = false) :
    (storeVar 80 ⟨t, 0, none⟩ (.agg #[.int .i64 x, .int .i64 y])).run Tryz.prog W = .ok () ((W.setCell ⟨t, 0, none⟩ (.int .i64 x)).setCell ⟨t, 1, none⟩ (.int .i64 y)) := by
  have h1' : (W.setCell ⟨t, 0, none⟩ (.int .i64 x)).cell? ⟨t, 1, none⟩ = some o1 := by go_simp
  have f1' : (W.setCell ⟨t, 0, none⟩ (.int .i64 x)).frozen? ⟨t, 1, none⟩ = false := by go_simp
  unfold storeVar
  simp [Value.cells, storeCells, Addr.add, Result.andThen]
  rw [run_store Tryz.prog W ⟨t, 0, none⟩ _ _ (by rfl)]
  simp [h0, f0]
  rw [run_store Tryz.prog _ ⟨t, 1, none⟩ _ _ (by rfl)]
  simp [h1', f1']

/-- (Value).Set: the tooLong's place at t gets what the Value's own variable k holds. -/
theorem Tryz.setT (t k : Nat) (x y : Int) (o0 o1 : Value) (W : World) (b0 : W.cell? ⟨k, 0, none⟩ = some (.int .i64 x)) (b1 : W.cell? ⟨k, 1, none⟩ = some (.int .i64 y)) (h0 : W.cell? ⟨t, 0, none⟩ = some o0) (h1 : W.cell? ⟨t, 1, none⟩ = some o1) (f0 : W.frozen? ⟨t, 0, none⟩ = false) (f1 : W.frozen? ⟨t, 1, none⟩ = false) :
    (ReflectliteValue.set #[rvT t, rvE k]).run Tryz.prog W = .ok (.tuple #[]) ((W.setCell ⟨t, 0, none⟩ (.int .i64 x)).setCell ⟨t, 1, none⟩ (.int .i64 y)) := by
  rw [rls]
  simp only [Sem.run_bind, Tryz.partsT, Tryz.partsE, Result.andThen]
  simp [ReflectliteValue.flagAddr, Result.andThen, Tryz.directT, Tryz.loadT k x y W b0 b1, Tryz.storeT t x y o0 o1 W h0 h1 f0 f1]

end Go.Proofs.YthnkmjkgcnhlfaaGreatDoor

namespace Go.Proofs.YthnkmjkgcnhlfaaGreatDoor
open Go.RowKit Go.Extern.Stop Go.Stop Go.Extern

/-- What errors.errorType holds. -/
def Hd (w : World) : Prop := w.cell? ⟨0, 0, none⟩ = some (rty 54)
theorem Hd.later {w w' : World} (h : Hd w) (b : Below w.heap.size w w') : Hd w' := cell_later b h

set_option maxHeartbeats 4000000 in
theorem as_world (t : Nat) (x y : Int) (o0 o1 : Value) (w : World) (hg : Hd w) (h0 : w.cell? ⟨t, 0, none⟩ = some o0) (h1 : w.cell? ⟨t, 1, none⟩ = some o1) (f0 : w.frozen? ⟨t, 0, none⟩ = false) (f1 : w.frozen? ⟨t, 1, none⟩ = false) :
    Calls Tryz.prog 85 #[.iface 80 (.agg #[.int .i64 x, .int .i64 y]), .iface 82 (.pointer (some ⟨t, 0, none⟩))] w fun ev w' => ev = .returned (.bool true) ∧
      w' = (((((w.alloc (.cells #[.pointer (some ⟨t, 0, none⟩)] 82)).alloc (.cells #[hdl 82, .pointer (some ⟨w.heap.size, 0, none⟩), .int .u64 150] 112)).alloc (.cells #[hdl 82, .pointer (some ⟨w.heap.size, 0, none⟩), .int .u64 150] 112)).alloc (.cells #[.int .i64 x, .int .i64 y] 80)).setCell ⟨t, 0, none⟩ (.int .i64 x)).setCell ⟨t, 1, none⟩ (.int .i64 y) := by
  have h6 := @run_callFunc_extern Tryz.prog 111 _ (fun args => ReflectliteValue.unpack (args.getD 0 (.tuple #[]))) Tryz.func111 (by kernel_rfl) (by kernel_rfl) (by kernel_rfl) (by kernel_rfl)
  have h7 := @run_callFunc_extern Tryz.prog 112 _ (ReflectliteValue.methodAny (ReflectliteValue.valueError "reflectlite.Value.Type" 0) (fun t _ _ _ => ReflectliteType.toType t)) Tryz.func112 (by kernel_rfl) (by kernel_rfl) (by kernel_rfl) (by kernel_rfl)
  have h8 := @run_callFunc_extern Tryz.prog 113 _ (ReflectliteValue.method (ReflectliteValue.valueError "reflectlite.Value.IsNil" 0) ReflectliteValue.isNil) Tryz.func113 (by kernel_rfl) (by kernel_rfl) (by kernel_rfl) (by kernel_rfl)
  have h27 := @run_callFunc_extern Tryz.prog 169 _ (ReflectliteType.abiMethod fun t => do pure (.int .u8 (← Rtype.kind t))) Tryz.func169 (by kernel_rfl) (by kernel_rfl) (by kernel_rfl) (by kernel_rfl)
  have h37 := @run_callFunc_extern Tryz.prog 180 _ (ReflectliteType.method ReflectliteType.elem) Tryz.func180 (by kernel_rfl) (by kernel_rfl) (by kernel_rfl) (by kernel_rfl)
  have h38 := @run_callFunc_extern Tryz.prog 181 _ (ReflectliteType.relation "Implements" ReflectliteType.implements_) Tryz.func181 (by kernel_rfl) (by kernel_rfl) (by kernel_rfl) (by kernel_rfl)
  have h10 := @run_callFunc_extern Tryz.prog 134 _ ReflectliteType.typeOf Tryz.func134 (by kernel_rfl) (by kernel_rfl) (by kernel_rfl) (by kernel_rfl)
  have h35 := @run_callFunc_extern Tryz.prog 178 _ (ReflectliteType.relation "AssignableTo" ReflectliteType.assignableTo) Tryz.func178 (by kernel_rfl) (by kernel_rfl) (by kernel_rfl) (by kernel_rfl)
  have h11 := @run_callFunc_extern Tryz.prog 135 _ (ReflectliteValue.method (ReflectliteValue.valueError "reflectlite.Value.Elem" 0) ReflectliteValue.elem) Tryz.func135 (by kernel_rfl) (by kernel_rfl) (by kernel_rfl) (by kernel_rfl)
  have h12 := @run_callFunc_extern Tryz.prog 136 _ ReflectliteValue.set Tryz.func136 (by kernel_rfl) (by kernel_rfl) (by kernel_rfl) (by kernel_rfl)
  have tO := Tryz.typeOfT
  have mA := Tryz.methodAssignableTo
  have a25 := Tryz.assignableT
  have v25 := Tryz.valueOfT
  have f6 := Tryz.valueOfP
  have f7 := Tryz.typeP
  have mK := Tryz.methodKind
  have mE := Tryz.methodElem
  have mI := Tryz.methodImplements
  have k27 := Tryz.kindP
  have k25 := Tryz.kindT
  have e27 := Tryz.elemP
  have i25 := Tryz.implementsT
  unfold Hd at hg
  have htl : t < w.heap.size := World.block_lt_of_cell? _ _ h0
  have hlt : 0 < w.heap.size := World.block_lt_of_cell? _ _ hg
  have n8 := Tryz.isNilP w.heap.size t ((w.alloc (.cells #[.pointer (some ⟨t, 0, none⟩)] 82)).alloc (.cells #[hdl 82, .pointer (some ⟨w.heap.size, 0, none⟩), .int .u64 150] 112)) (by simp)
  have hg2 : ((w.alloc (.cells #[.pointer (some ⟨t, 0, none⟩)] 82)).alloc (.cells #[hdl 82, .pointer (some ⟨w.heap.size, 0, none⟩), .int .u64 150] 112)).cell? ⟨0, 0, none⟩ = some (rty 54) := by
    rw [World.cell?_alloc_lt _ _ ⟨0, 0, none⟩ (by simp), World.cell?_alloc_lt _ _ ⟨0, 0, none⟩ hlt]; exact hg
  have el := Tryz.elemVP w.heap.size t (((w.alloc (.cells #[.pointer (some ⟨t, 0, none⟩)] 82)).alloc (.cells #[hdl 82, .pointer (some ⟨w.heap.size, 0, none⟩), .int .u64 150] 112)).alloc (.cells #[hdl 82, .pointer (some ⟨w.heap.size, 0, none⟩), .int .u64 150] 112)) (by rw [World.cell?_alloc_lt _ _ ⟨w.heap.size, 0, none⟩ (by simp; omega)]; simp)
  have old : ∀ (o1 o2 o3 o4 : Obj) (i : Nat) (v : Value), w.cell? ⟨t, i, none⟩ = some v → ((((w.alloc o1).alloc o2).alloc o3).alloc o4).cell? ⟨t, i, none⟩ = some v := by
    intro o1 o2 o3 o4 i v h
    rw [World.cell?_alloc_lt _ _ ⟨t, i, none⟩ (by simp; omega), World.cell?_alloc_lt _ _ ⟨t, i, none⟩ (by simp; omega), World.cell?_alloc_lt _ _ ⟨t, i, none⟩ (by simp; omega), World.cell?_alloc_lt _ _ ⟨t, i, none⟩ htl]; exact h
  have oldf : ∀ (o1 o2 o3 o4 : Obj) (i : Nat), w.frozen? ⟨t, i, none⟩ = false → ((((w.alloc o1).alloc o2).alloc o3).alloc o4).frozen? ⟨t, i, none⟩ = false := by
    intro o1 o2 o3 o4 i h
    rw [World.frozen?_alloc_old _ _ ⟨t, i, none⟩ (by simp; omega), World.frozen?_alloc_old _ _ ⟨t, i, none⟩ (by simp; omega), World.frozen?_alloc_old _ _ ⟨t, i, none⟩ (by simp; omega), World.frozen?_alloc_old _ _ ⟨t, i, none⟩ (Nat.ne_of_lt htl)]; exact h
  have st := Tryz.setT t (w.heap.size + 1 + 1 + 1) x y o0 o1 ((((w.alloc (.cells #[.pointer (some ⟨t, 0, none⟩)] 82)).alloc (.cells #[hdl 82, .pointer (some ⟨w.heap.size, 0, none⟩), .int .u64 150] 112)).alloc (.cells #[hdl 82, .pointer (some ⟨w.heap.size, 0, none⟩), .int .u64 150] 112)).alloc (.cells #[.int .i64 x, .int .i64 y] 80))
    (by rw [World.cell?_alloc_at _ _ _ _ (by simp)]; rfl) (by rw [World.cell?_alloc_at _ _ _ _ (by simp)]; rfl)
    (old _ _ _ _ 0 _ h0) (old _ _ _ _ 1 _ h1) (oldf _ _ _ _ 0 f0) (oldf _ _ _ _ 1 f1)
  clear old oldf
  go_enter Tryz.func85, Tryz.ntmps85
  go_wp2
  refine wp_loop_rounds 1 ?_
  rw [rounds_succ]
  go_wp2
  go_ret
  exact ⟨rfl, rfl⟩

/-- errors.As at a tooLong: the place at t holds it; no block below t has changed. -/
theorem as_hit (t : Nat) (x y : Int) (o0 o1 : Value) (w : World) (hg : Hd w) (h0 : w.cell? ⟨t, 0, none⟩ = some o0) (h1 : w.cell? ⟨t, 1, none⟩ = some o1) (f0 : w.frozen? ⟨t, 0, none⟩ = false) (f1 : w.frozen? ⟨t, 1, none⟩ = false) :
    Calls Tryz.prog 85 #[.iface 80 (.agg #[.int .i64 x, .int .i64 y]), .iface 82 (.pointer (some ⟨t, 0, none⟩))] w fun ev w' => ev = .returned (.bool true) ∧
      w'.cell? ⟨t, 1, none⟩ = some (.int .i64 y) ∧ Below t w w' := by
  have htl : t < w.heap.size := World.block_lt_of_cell? _ _ h0
  refine (as_world t x y o0 o1 w hg h0 h1 f0 f1).mono ?_
  rintro e w' ⟨rfl, rfl⟩
  refine ⟨rfl, ?_, ?_⟩
  · have old : ∀ (q1 q2 q3 q4 : Obj), ((((w.alloc q1).alloc q2).alloc q3).alloc q4).cell? ⟨t, 1, none⟩ = some o1 := by
      intro q1 q2 q3 q4
      rw [World.cell?_alloc_lt _ _ ⟨t, 1, none⟩ (by simp; omega), World.cell?_alloc_lt _ _ ⟨t, 1, none⟩ (by simp; omega), World.cell?_alloc_lt _ _ ⟨t, 1, none⟩ (by simp; omega), World.cell?_alloc_lt _ _ ⟨t, 1, none⟩ htl]; exact h1
    have h := old (.cells #[.pointer (some ⟨t, 0, none⟩)] 82) (.cells #[hdl 82, .pointer (some ⟨w.heap.size, 0, none⟩), .int .u64 150] 112) (.cells #[hdl 82, .pointer (some ⟨w.heap.size, 0, none⟩), .int .u64 150] 112) (.cells #[.int .i64 x, .int .i64 y] 80)
    generalize ((((w.alloc (.cells #[.pointer (some ⟨t, 0, none⟩)] 82)).alloc (.cells #[hdl 82, .pointer (some ⟨w.heap.size, 0, none⟩), .int .u64 150] 112)).alloc (.cells #[hdl 82, .pointer (some ⟨w.heap.size, 0, none⟩), .int .u64 150] 112)).alloc (.cells #[.int .i64 x, .int .i64 y] 80)) = W at *
    go_simp
  · exact ((((((Below.refl _ _).alloc (Nat.le_of_lt htl) _).alloc (by simp; omega) _).alloc (by simp; omega) _).alloc (by simp; omega) _).setCell (by simp) _).setCell (by simp) _

end Go.Proofs.YthnkmjkgcnhlfaaGreatDoor
