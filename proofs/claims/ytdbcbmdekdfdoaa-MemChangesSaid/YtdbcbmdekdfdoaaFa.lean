/- WHAT IS PROVED: mem.visit, mem.faultOf: a fault that leaves by a panic is recovered. CONDITIONS: a contract of the function that is called. -/
import Derived.Test.YtdbcbmdekdfdoaaVi
import Derived.Recover
import Derived.Laws.Pointers
namespace Go.Proofs.Ytdbcbmdekdfdoaa
open Go Go.RowKit Go.QrBits Go.QrMem

theorem visit_c (v1 v2 : Value) (t n need : Int) (w : World) : Calls Try.prog 67 #[.agg #[v1, v2], .int .i64 t, .int .i64 n, .int .i64 need] w fun e w' =>
    e = .returned (.func (.func 78) #[] #[.pointer (some ⟨w.heap.size + 2, 0, none⟩), .pointer (some ⟨w.heap.size + 1, 0, none⟩), .pointer (some ⟨w.heap.size, 0, none⟩), .pointer (some ⟨w.heap.size + 3, 0, none⟩)]) ∧
    w' = (((w.alloc (.cells #[v1, v2] 25)).alloc (.cells #[.int .i64 t] 2)).alloc (.cells #[.int .i64 n] 3)).alloc (.cells #[.int .i64 need] 3) := by
  have hmf : ∀ (fn : Fn) (first cap : Array Value) (w : World), (Instr.makeFunc fn first cap).run Try.prog w = .ok (.func fn first cap) w := fun _ _ _ _ => rfl
  go_enter Try.func67, Try.ntmps67
  go_wp2
  go_ret
  exact ⟨rfl, rfl⟩

set_option maxHeartbeats 1000000 in
set_option maxRecDepth 100000 in
theorem catch_p (b : Nat) (k x : Int) (o1 o2 : Value) (w : World) (hc1 : w.cell? ⟨b, 0, none⟩ = some o1) (hc2 : w.cell? ⟨b, 1, none⟩ = some o2) (hz1 : w.frozen? ⟨b, 0, none⟩ = false) (hz2 : w.frozen? ⟨b, 1, none⟩ = false) :
    CallsD Try.prog 82 #[.pointer (some ⟨b, 0, none⟩)] (.panicking [{ v := .iface 34 (.agg #[.int .i64 k, .int .i64 x]), recovered := false }]) w fun e u' w' =>
      e = .returned (.tuple #[]) ∧ u' = .panicking [{ v := .iface 34 (.agg #[.int .i64 k, .int .i64 x]), recovered := true }] ∧ w' = (w.setCell ⟨b, 0, none⟩ (.int .i64 k)).setCell ⟨b, 1, none⟩ (.int .i64 x) := by
  refine callsD_of_wpS Try.func82 rfl fun c₀ cs hu => ?_
  apply wpS_seq
  apply wpS_region
  simp [wpOpsS, go_sem, recoverD, hu, Try.ntmps82, Exit.thenS]
  refine wpS_of_wp ?_
  have hlit : (#[Value.pointer (some ⟨b, 0, none⟩)] ++ ((Array.replicate 6 undef).setIfInBounds 1 (Value.iface 34 (Value.agg #[Value.int IntKind.i64 k, Value.int IntKind.i64 x]))).setIfInBounds 0 (Value.iface 34 (Value.agg #[Value.int IntKind.i64 k, Value.int IntKind.i64 x])) : Array Value) =
    #[Value.pointer (some ⟨b, 0, none⟩), Value.iface 34 (Value.agg #[Value.int IntKind.i64 k, Value.int IntKind.i64 x]), Value.iface 34 (Value.agg #[Value.int IntKind.i64 k, Value.int IntKind.i64 x]), undef, undef, undef, undef] := by rfl
  rw [hlit]
  clear hlit
  have hta : ∀ w : World, (Instr.typeAssert (Value.iface 34 (Value.agg #[Value.int IntKind.i64 k, Value.int IntKind.i64 x])) 20 34 false).run Try.prog w = .ok (Value.agg #[Value.int IntKind.i64 k, Value.int IntKind.i64 x]) w := fun _ => by kernel_rfl
  go_wp2
  simp [bodyPostS, results, Try.results82]

set_option maxHeartbeats 1000000 in
set_option maxRecDepth 100000 in
theorem catch_r (p : Value) (w : World) : CallsD Try.prog 82 #[p] .returning w fun e u' w' => e = .returned (.tuple #[]) ∧ u' = .returning ∧ w' = w := by
  refine callsD_of_wpS Try.func82 rfl fun c₀ cs hu => ?_
  apply wpS_seq
  apply wpS_region
  simp [wpOpsS, go_sem, recoverD, hu, Try.ntmps82, Exit.thenS]
  refine wpS_of_wp ?_
  have hlit : (#[p] ++ ((Array.replicate 6 undef).setIfInBounds 1 Value.nilIface).setIfInBounds 0 Value.nilIface : Array Value) =
    #[p, Value.nilIface, Value.nilIface, undef, undef, undef, undef] := by rfl
  rw [hlit]
  clear hlit
  go_wp2
  cases c₀
  simp_all [bodyPostS, results, Try.results82]

theorem row2 {w : World} {b : Nat} {x y : Value} {t : TypeId} (h : w.heap[b]? = some (.cells #[x, y] t (0, 0))) : w.cell? ⟨b, 0, none⟩ = some x ∧ w.cell? ⟨b, 1, none⟩ = some y ∧ w.frozen? ⟨b, 0, none⟩ = false ∧ w.frozen? ⟨b, 1, none⟩ = false ∧ b < w.heap.size :=
  ⟨by simp [World.cell?, h], by simp [World.cell?, h], by simp [World.frozen?, h], by simp [World.frozen?, h], (Array.getElem?_eq_some_iff.1 h).1⟩
set_option maxHeartbeats 4000000 in
set_option maxRecDepth 100000 in
/-- faultOf over a function that returns. -/
theorem faultOf_r (f : Nat) (caps : Array Value) (w : World) (R : World → Prop) (hef : ∀ args w, (callFunc f args).run Try.prog w = .ok (.enter f args) w)
    (hc : Calls Try.prog f caps (w.alloc (.cells #[.int .i64 0, .int .i64 0] 34)) fun e w' => (∃ v, e = .returned v) ∧ R w' ∧ w'.heap[w.heap.size]? = some (.cells #[.int .i64 0, .int .i64 0] 34 (0, 0))) :
    Calls Try.prog 70 #[.func (.func f) #[] caps] w fun e w' => e = .returned (.agg #[.int .i64 0, .int .i64 0]) ∧ ∃ w1, R w1 ∧ w' = (w1.setCell ⟨w.heap.size, 0, none⟩ (.int .i64 0)).setCell ⟨w.heap.size, 1, none⟩ (.int .i64 0) := by
  have hmf : ∀ (fn : Fn) (first cap : Array Value) (w : World), (Instr.makeFunc fn first cap).run Try.prog w = .ok (.func fn first cap) w := fun _ _ _ _ => rfl
  go_enter_defers Try.func70, Try.ntmps70
  go_wp2_with fail
  refine hc.mono ?_
  rintro e w1 ⟨⟨v, rfl⟩, hR, hrow⟩
  obtain ⟨c0, c1, f0, f1, hlt⟩ := row2 hrow
  obtain ⟨g1, g2⟩ := put2 (.int .i64 0) (.int .i64 0) c0 c1
  have HR := Lib.hid hR
  clear hc hrow hR
  go_wp2
  refine leaves_cons (f := 82) (args := #[.pointer (some ⟨w.heap.size, 0, none⟩)]) (by simp) (by simp [go_sem]) ?_
  refine (catch_r _ _).mono ?_
  rintro e u' w'' ⟨rfl, rfl, rfl⟩
  refine ⟨.agg #[.int .i64 0, .int .i64 0], by simp [results, Try.results70, go_sem, g1, g2], rfl, w1, HR.out, rfl⟩

set_option maxHeartbeats 4000000 in
set_option maxRecDepth 100000 in
/-- faultOf over a function that panics with a fault. -/
theorem faultOf_d (f : Nat) (caps : Array Value) (k x : Int) (w : World) (R : World → Prop) (hef : ∀ args w, (callFunc f args).run Try.prog w = .ok (.enter f args) w)
    (hc : Calls Try.prog f caps (w.alloc (.cells #[.int .i64 0, .int .i64 0] 34)) fun e w' => e = died k x ∧ R w' ∧ w'.heap[w.heap.size]? = some (.cells #[.int .i64 0, .int .i64 0] 34 (0, 0))) :
    Calls Try.prog 70 #[.func (.func f) #[] caps] w fun e w' => e = .returned (.agg #[.int .i64 k, .int .i64 x]) ∧ ∃ w1, R w1 ∧ w' = (w1.setCell ⟨w.heap.size, 0, none⟩ (.int .i64 k)).setCell ⟨w.heap.size, 1, none⟩ (.int .i64 x) := by
  have hmf : ∀ (fn : Fn) (first cap : Array Value) (w : World), (Instr.makeFunc fn first cap).run Try.prog w = .ok (.func fn first cap) w := fun _ _ _ _ => rfl
  go_enter_defers Try.func70, Try.ntmps70
  go_wp2_with fail
  refine hc.mono ?_
  rintro e w1 ⟨rfl, hR, hrow⟩
  obtain ⟨c0, c1, f0, f1, hlt⟩ := row2 hrow
  obtain ⟨g1, g2⟩ := put2 (.int .i64 k) (.int .i64 x) c0 c1
  have HR := Lib.hid hR
  clear hc hrow hR
  refine leaves_cons (f := 82) (args := #[.pointer (some ⟨w.heap.size, 0, none⟩)]) (by simp) (by simp [go_sem]) ?_
  refine (catch_p w.heap.size k x _ _ _ c0 c1 f0 f1).mono ?_
  rintro e u' w'' ⟨rfl, rfl, rfl⟩
  refine ⟨.agg #[.int .i64 k, .int .i64 x], by simp [results, Try.results70, go_sem, g1, g2], rfl, w1, HR.out, rfl⟩
end Go.Proofs.Ytdbcbmdekdfdoaa
