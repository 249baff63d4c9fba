/- WHAT IS PROVED: mem.New, for every number of pages. CONDITIONS: an int. -/
import Derived.Test.YtdbcbmdekdfdoaaCl
import Derived.RegionTactic
import Derived.ChangeAlike
namespace Go.Proofs.Ytdbcbmdekdfdoaa
open Go Go.RowKit Go.QrBits

def zL (n : Nat) : List Int := List.replicate n 0
set_option maxRecDepth 100000 in
theorem mkI (n : Nat) (hn : n ≤ 4096) (w : World) : (Instr.makeSlice 22 (.int .i64 (n : Int)) (.int .i64 (n : Int))).run Try.prog w = .ok (.slice (some ⟨w.heap.size, 0, none⟩) n n) (w.alloc (.cells (iV (zL n)).toArray 3)) := by
  obtain ⟨i0, hi, hz0, hz1, hz2⟩ := info_parts Try.info3
  have h := run_make (P := Try.prog) w 22 3 i0 (.int .i64 0) Try.underlying22 hi hz0 .i64 .i64 n n (by omega) (Int.le_refl _) (by rw [hz2]; omega) (by omega)
  rw [h, hz1]
  congr 3
  apply Array.ext'
  simp [zL, iV, Value.cells, toList_madeCells_one]
set_option maxRecDepth 100000 in
theorem mkB (n : Nat) (hn : n ≤ 4096) (w : World) : (Instr.makeSlice 23 (.int .i64 (n : Int)) (.int .i64 (n : Int))).run Try.prog w = .ok (.slice (some ⟨w.heap.size, 0, none⟩) n n) (w.alloc (.cells (bV (zL n)).toArray 5)) := by
  obtain ⟨i0, hi, hz0, hz1, hz2⟩ := info_parts Try.info5
  have h := run_make (P := Try.prog) w 23 5 i0 (.int .u8 0) Try.underlying23 hi hz0 .i64 .i64 n n (by omega) (Int.le_refl _) (by rw [hz2]; omega) (by omega)
  rw [h, hz1]
  congr 3
  apply Array.ext'
  simp [zL, bV, Value.cells, toList_madeCells_one]

theorem row_lit {w : World} {base B n : Nat} {e : TypeId} {vs : List Value} (hb : base ≤ B) (hn : n ≤ 4096) (hl : vs.length = n) (h : w.heap[B]? = some (.cells vs.toArray e (0, 0))) : w.ownsRow base e 1 (.slice (some ⟨B, 0, none⟩) n n) n vs :=
  ⟨by omega, .inr ⟨B, n, vs.toArray, rfl, hb, h, Nat.le_refl _, by unfold maxLen; omega, by simp [hl], by simp [← hl]⟩⟩
theorem heap_3b (w : World) (A B C : Obj) : (((w.alloc A).alloc B).alloc C).drew.heap[w.heap.size + 1]? = some B := by
  show (((w.alloc A).alloc B).alloc C).heap[w.heap.size + 1]? = some B
  rw [Below.heap_alloc _ _ _ (by simp)]; exact heap_alloc2_new _ _ _
theorem heap_3c (w : World) (A B C : Obj) : (((w.alloc A).alloc B).alloc C).drew.heap[w.heap.size + 1 + 1]? = some C := by
  show (((w.alloc A).alloc B).alloc C).heap[w.heap.size + 1 + 1]? = some C
  have := heap_alloc_new ((w.alloc A).alloc B) C
  simpa using this
theorem zL_len (n : Nat) : (zL n).length = n := by simp [zL]
theorem own_new {w w' : World} {n B1 B2 : Nat} (h1 : w'.heap[B1]? = some (.cells (iV (zL n)).toArray 3 (0, 0))) (h2 : w'.heap[B2]? = some (.cells (bV (zL (n * 64))).toArray 5 (0, 0))) (hb1 : w.heap.size ≤ B1) (hb2 : w.heap.size ≤ B2) (hn : n ≤ 32) :
    OwnSp w.heap.size w' (.agg #[.slice (some ⟨B1, 0, none⟩) n n, .slice (some ⟨B2, 0, none⟩) (n * 64) (n * 64)]) (zL n) (zL (n * 64)) := by
  refine ⟨some ⟨B1, 0, none⟩, n, some ⟨B2, 0, none⟩, n * 64, by rw [zL_len, zL_len], ?_, ?_⟩
  · rw [zL_len]; exact row_lit hb1 (by omega) (by rw [iV_len, zL_len]) h1
  · rw [zL_len]; exact row_lit hb2 (by omega) (by rw [bV_len, zL_len]) h2
def NewPost (n : Nat) (w : World) (e : Ending) (w' : World) : Prop := ∃ v : Value, e = .returned (.tuple #[v, .int .i64 0]) ∧ OwnSp w.heap.size w' v (zL n) (zL (n * 64)) ∧ Below w.heap.size w w'
set_option maxHeartbeats 4000000 in
set_option maxRecDepth 100000 in
theorem new_y (n : Nat) (w : World) (hn : n ≤ 32) : Calls Try.prog 15 #[.int .i64 (n : Int)] w (NewPost n w) := by
  have h1 := mkI n (by omega)
  have h2 := mkB (n * 64) (by omega)
  rw [show ((n * 64 : Nat) : Int) = (n : Int) * 64 by omega] at h2
  have n0 : (0 : Int) ≤ n := by omega
  go_enter Try.func15, Try.ntmps15
  go_wp2
  go_region
  all_goals go_wp2
  all_goals go_returns
  · exact ⟨_, rfl, own_new (heap_3b _ _ _ _) (heap_3c _ _ _ _) (by omega) (by omega) hn, (b_alloc (b_alloc (b_alloc (Below.refl _ _)))).drew⟩
  · exact ⟨_, rfl, own_new (heap_3c _ _ _ _) (heap_3b _ _ _ _) (by omega) (by omega) hn, (b_alloc (b_alloc (b_alloc (Below.refl _ _)))).drew⟩

theorem new_n (p : Int) (w : World) (hp : p < 0 ∨ 32 < p) : Calls Try.prog 15 #[.int .i64 p] w fun e w' => e = .returned (.tuple #[.agg #[.slice none 0 0, .slice none 0 0], .int .i64 1]) ∧ Below w.heap.size w w' := by
  rcases hp with hp | hp
  · go_enter Try.func15, Try.ntmps15
    go_wp2
    go_returns
    exact ⟨rfl, by go_grown⟩
  · have hp' : decide (p < 0) = false := by simp; omega
    go_enter Try.func15, Try.ntmps15
    go_wp2
    go_returns
    exact ⟨rfl, by go_grown⟩
end Go.Proofs.Ytdbcbmdekdfdoaa
