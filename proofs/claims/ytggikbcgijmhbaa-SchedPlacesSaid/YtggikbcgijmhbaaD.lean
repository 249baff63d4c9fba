/- WHAT IS PROVED: sched's board.demand: it comes back if the condition holds, and panics with the error if not. CONDITIONS: none. -/
import Derived.Test.YtggikbcgijmhbaaC
namespace Go.Proofs.Ytggikbcgijmhbaa
open Go Go.RowKit Go.QrBits Go.QrMem
theorem demand_y (vs : Array Value) (e0 : Int) (w : World) : Calls Try.prog 59 #[.agg vs, .bool true, .int .i64 e0] w fun e w' => e = .returned (.tuple #[]) ∧ Below w.heap.size w w' := by
  go_enter Try.func59, Try.ntmps59
  go_wp2
  refine bodyPost_end (results_none rfl _ _ _) rfl ?_
  exact ⟨rfl, b_alloc (Below.refl _ _)⟩
theorem demand_n (vs : Array Value) (e0 : Int) (w : World) : Calls Try.prog 59 #[.agg vs, .bool false, .int .i64 e0] w fun e w' => e = .panicked [{ v := .iface 98 (.int .i64 e0), recovered := false }] ∧ Below w.heap.size w w' := by
  go_enter Try.func59, Try.ntmps59
  go_wp2
  exact ⟨rfl, rfl, b_alloc (Below.refl _ _)⟩
end Go.Proofs.Ytggikbcgijmhbaa
