/- WHAT IS PROVED: bits.Bytes and bits.FromBytes, for each valid size, over the cells of the bytes. CONDITIONS: a value is an int64; bytes are numbers from 0 to 255. -/
import Derived.Test.YtdbcbmdekdfdoaaBd
import Derived.Test.YtdbcbmdekdfdoaaSl
namespace Go.Proofs.Ytdbcbmdekdfdoaa
open Go Go.RowKit Go.QrBits
attribute [local go_sem] reg_cell reg_frozen reg_setCell reg_lt reg_lt_add reg_reg reg_drew reg_of_drew

theorem valid_y (s : Int) (g : Bool) (w : World) (h : vB s = true) : Calls Try.prog 75 #[.agg #[.int .i64 s, .bool g]] w fun e w' => e = .returned (.bool true) ∧ Below w.heap.size w w' := by have := valid_c s g w; rwa [h] at this
theorem valid_n (s : Int) (g : Bool) (w : World) (h : vB s = false) : Calls Try.prog 75 #[.agg #[.int .i64 s, .bool g]] w fun e w' => e = .returned (.bool false) ∧ Below w.heap.size w w' := by have := valid_c s g w; rwa [h] at this
/-- A row of one's own, out of its block. -/
theorem ownsRow_of {w : World} {base B n : Nat} {xs : List Value} (hb : base ≤ B) (hn : xs.length = n) (hm : n ≤ 8) (h : w.heap[B]? = some (.cells xs.toArray 5 (0, 0))) : w.ownsRow base 5 1 (.slice (some ⟨B, 0, none⟩) n n) n xs :=
  ⟨by omega, .inr ⟨B, n, xs.toArray, rfl, hb, h, Nat.le_refl _, by unfold maxLen; omega, by simp [hn], by simp [← hn]⟩⟩
theorem heap_new (w : World) (o : Obj) : (w.alloc o).heap[w.heap.size]? = some o := by show (w.heap.push o)[w.heap.size]? = some o; simp
theorem mk_1 (w : World) : (Instr.makeSlice 23 (.int .i64 1) (.int .i64 1)).run Try.prog w = .ok (.slice (some ⟨w.heap.size, 0, none⟩) 1 1) (w.alloc (.cells #[.int .u8 0] 5)) := by kernel_rfl
set_option maxHeartbeats 2000000 in
set_option maxRecDepth 100000 in
theorem bytes_1 (g : Bool) (v : Int) (w : World) : Calls Try.prog 63 #[.agg #[.int .i64 1, .bool g], .int .i64 v] w fun e w' => ∃ B : Nat, e = .returned (.tuple #[.slice (some ⟨B, 0, none⟩) 1 1, .int .i64 0]) ∧ w'.ownsRow w.heap.size 5 1 (.slice (some ⟨B, 0, none⟩) 1 1) 1 (bV [v % 256]) ∧ Below w.heap.size w w' := by
  have hmk := mk_1
  go_enter Try.func63, Try.ntmps63
  go_wp2_with (go_at_call 75; refine (valid_y 1 g _ rfl).mono ?_; rintro e w' ⟨rfl, hb⟩; obtain ⟨p, rfl⟩ := regrown hb; clear hb)
  go_rounds 2
  go_ret2
  have hb := Below.tail (b_alloc (o := .cells #[.int .i64 1, .bool g] 64) (Below.refl w.heap.size w)) (below_reg _ p)
  exact ⟨_, rfl, ownsRow_of hb.size rfl (by omega) (heap_new _ _), b_alloc hb⟩
theorem mk_2 (w : World) : (Instr.makeSlice 23 (.int .i64 2) (.int .i64 2)).run Try.prog w = .ok (.slice (some ⟨w.heap.size, 0, none⟩) 2 2) (w.alloc (.cells #[.int .u8 0, .int .u8 0] 5)) := by kernel_rfl
set_option maxHeartbeats 2000000 in
set_option maxRecDepth 100000 in
theorem bytes_2 (g : Bool) (v : Int) (w : World) : Calls Try.prog 63 #[.agg #[.int .i64 2, .bool g], .int .i64 v] w fun e w' => ∃ B : Nat, e = .returned (.tuple #[.slice (some ⟨B, 0, none⟩) 2 2, .int .i64 0]) ∧ w'.ownsRow w.heap.size 5 1 (.slice (some ⟨B, 0, none⟩) 2 2) 2 (bV [v % 256, v / 256 % 256]) ∧ Below w.heap.size w w' := by
  have hmk := mk_2
  go_enter Try.func63, Try.ntmps63
  go_wp2_with (go_at_call 75; refine (valid_y 2 g _ rfl).mono ?_; rintro e w' ⟨rfl, hb⟩; obtain ⟨p, rfl⟩ := regrown hb; clear hb)
  go_rounds 3
  go_ret2
  have hb := Below.tail (b_alloc (o := .cells #[.int .i64 2, .bool g] 64) (Below.refl w.heap.size w)) (below_reg _ p)
  exact ⟨_, rfl, ownsRow_of hb.size rfl (by omega) (heap_new _ _), b_alloc hb⟩
theorem mk_4 (w : World) : (Instr.makeSlice 23 (.int .i64 4) (.int .i64 4)).run Try.prog w = .ok (.slice (some ⟨w.heap.size, 0, none⟩) 4 4) (w.alloc (.cells #[.int .u8 0, .int .u8 0, .int .u8 0, .int .u8 0] 5)) := by kernel_rfl
set_option maxHeartbeats 2000000 in
set_option maxRecDepth 100000 in
theorem bytes_4 (g : Bool) (v : Int) (w : World) : Calls Try.prog 63 #[.agg #[.int .i64 4, .bool g], .int .i64 v] w fun e w' => ∃ B : Nat, e = .returned (.tuple #[.slice (some ⟨B, 0, none⟩) 4 4, .int .i64 0]) ∧ w'.ownsRow w.heap.size 5 1 (.slice (some ⟨B, 0, none⟩) 4 4) 4 (bV [v % 256, v / 256 % 256, v / 65536 % 256, v / 16777216 % 256]) ∧ Below w.heap.size w w' := by
  have hmk := mk_4
  go_enter Try.func63, Try.ntmps63
  go_wp2_with (go_at_call 75; refine (valid_y 4 g _ rfl).mono ?_; rintro e w' ⟨rfl, hb⟩; obtain ⟨p, rfl⟩ := regrown hb; clear hb)
  go_rounds 5
  go_ret2
  have hb := Below.tail (b_alloc (o := .cells #[.int .i64 4, .bool g] 64) (Below.refl w.heap.size w)) (below_reg _ p)
  exact ⟨_, rfl, ownsRow_of hb.size rfl (by omega) (heap_new _ _), b_alloc hb⟩
theorem mk_8 (w : World) : (Instr.makeSlice 23 (.int .i64 8) (.int .i64 8)).run Try.prog w = .ok (.slice (some ⟨w.heap.size, 0, none⟩) 8 8) (w.alloc (.cells #[.int .u8 0, .int .u8 0, .int .u8 0, .int .u8 0, .int .u8 0, .int .u8 0, .int .u8 0, .int .u8 0] 5)) := by kernel_rfl
set_option maxHeartbeats 2000000 in
set_option maxRecDepth 100000 in
theorem bytes_8 (g : Bool) (v : Int) (w : World) : Calls Try.prog 63 #[.agg #[.int .i64 8, .bool g], .int .i64 v] w fun e w' => ∃ B : Nat, e = .returned (.tuple #[.slice (some ⟨B, 0, none⟩) 8 8, .int .i64 0]) ∧ w'.ownsRow w.heap.size 5 1 (.slice (some ⟨B, 0, none⟩) 8 8) 8 (bV [v % 256, v / 256 % 256, v / 65536 % 256, v / 16777216 % 256, v / 4294967296 % 256, v / 1099511627776 % 256, v / 281474976710656 % 256, v / 72057594037927936 % 256]) ∧ Below w.heap.size w w' := by
  have hmk := mk_8
  go_enter Try.func63, Try.ntmps63
  go_wp2_with (go_at_call 75; refine (valid_y 8 g _ rfl).mono ?_; rintro e w' ⟨rfl, hb⟩; obtain ⟨p, rfl⟩ := regrown hb; clear hb)
  go_rounds 9
  go_ret2
  have hb := Below.tail (b_alloc (o := .cells #[.int .i64 8, .bool g] 64) (Below.refl w.heap.size w)) (below_reg _ p)
  exact ⟨_, rfl, ownsRow_of hb.size rfl (by omega) (heap_new _ _), b_alloc hb⟩
theorem bytes_no (s : Int) (g : Bool) (v : Int) (w : World) (h : vB s = false) : Calls Try.prog 63 #[.agg #[.int .i64 s, .bool g], .int .i64 v] w fun e w' => e = .returned (.tuple #[.slice none 0 0, .int .i64 10]) ∧ Below w.heap.size w w' := by
  go_enter Try.func63, Try.ntmps63
  go_wp2_with (go_at_call 75; refine (valid_n s g _ h).mono ?_; rintro e w' ⟨rfl, hb⟩)
  go_ret2
  exact ⟨rfl, Below.tail (b_alloc (Below.refl _ _)) hb⟩
theorem from_no (s : Int) (g : Bool) (a : Option Addr) (n cap : Nat) (w : World) (h : vB s = false) : Calls Try.prog 62 #[.agg #[.int .i64 s, .bool g], .slice a n cap] w fun e w' => e = .returned (.tuple #[.int .i64 0, .int .i64 10]) ∧ Below w.heap.size w w' := by
  go_enter Try.func62, Try.ntmps62
  go_wp2_with (go_at_call 75; refine (valid_n s g _ h).mono ?_; rintro e w' ⟨rfl, hb⟩)
  go_ret2
  exact ⟨rfl, Below.tail (b_alloc (Below.refl _ _)) hb⟩
theorem from_len (s : Int) (g : Bool) (a : Option Addr) (n cap : Nat) (w : World) (h : vB s = true) (hn : ((n : Int) == s) = false) : Calls Try.prog 62 #[.agg #[.int .i64 s, .bool g], .slice a n cap] w fun e w' => e = .returned (.tuple #[.int .i64 0, .int .i64 1]) ∧ Below w.heap.size w w' := by
  have hne : ¬ (n : Int) = s := beq_eq_false_iff_ne.1 hn
  go_enter Try.func62, Try.ntmps62
  go_wp2_with (go_at_call 75; refine (valid_y s g _ h).mono ?_; rintro e w' ⟨rfl, hb⟩; obtain ⟨p, rfl⟩ := regrown hb; clear hb)
  go_ret2
  exact ⟨rfl, b_reg (b_alloc (Below.refl _ _))⟩
set_option maxHeartbeats 4000000 in
set_option maxRecDepth 100000 in
theorem from_1 (g : Bool) (b cap : Nat) (c0 : Int) (w : World) (hb : b < w.heap.size) (h0 : w.cell? ⟨b, 0, none⟩ = some (.int .u8 c0)) (d0 : 0 ≤ c0 ∧ c0 ≤ 255) :
    Calls Try.prog 62 #[.agg #[.int .i64 1, .bool g], .slice (some ⟨b, 0, none⟩) 1 cap] w fun e w' => e = .returned (.tuple #[.int .i64 (wr 1 g (bits .or .i64 0 c0)), .int .i64 0]) ∧ Below w.heap.size w w' := by
  obtain ⟨a0, e0⟩ := d0
  go_enter Try.func62, Try.ntmps62
  go_wp2_with (go_at_call 75; refine (valid_y 1 g _ rfl).mono ?_; rintro e w' ⟨rfl, hb⟩; obtain ⟨p, rfl⟩ := regrown hb; clear hb)
  refine wp_loop_rounds 2 ?_
  repeat any_goals (rw [rounds_succ]; go_wp2_with (go_at_call 76; refine (wrap_c 1 g _ _ rfl (bits_I64 _ _ _)).mono ?_; rintro e w' ⟨rfl, hq⟩))
  go_ret2
  exact ⟨rfl, Below.tail (b_reg (b_alloc (Below.refl _ _))) hq⟩
set_option maxHeartbeats 4000000 in
set_option maxRecDepth 100000 in
theorem from_2 (g : Bool) (b cap : Nat) (c0 c1 : Int) (w : World) (hb : b < w.heap.size) (h0 : w.cell? ⟨b, 0, none⟩ = some (.int .u8 c0)) (d0 : 0 ≤ c0 ∧ c0 ≤ 255) (h1 : w.cell? ⟨b, 1, none⟩ = some (.int .u8 c1)) (d1 : 0 ≤ c1 ∧ c1 ≤ 255) :
    Calls Try.prog 62 #[.agg #[.int .i64 2, .bool g], .slice (some ⟨b, 0, none⟩) 2 cap] w fun e w' => e = .returned (.tuple #[.int .i64 (wr 2 g (bits .or .i64 (bits .or .i64 0 c0) (c1 * 256))), .int .i64 0]) ∧ Below w.heap.size w w' := by
  obtain ⟨a0, e0⟩ := d0
  obtain ⟨a1, e1⟩ := d1
  go_enter Try.func62, Try.ntmps62
  go_wp2_with (go_at_call 75; refine (valid_y 2 g _ rfl).mono ?_; rintro e w' ⟨rfl, hb⟩; obtain ⟨p, rfl⟩ := regrown hb; clear hb)
  refine wp_loop_rounds 3 ?_
  repeat any_goals (rw [rounds_succ]; go_wp2_with (go_at_call 76; refine (wrap_c 2 g _ _ rfl (bits_I64 _ _ _)).mono ?_; rintro e w' ⟨rfl, hq⟩))
  go_ret2
  exact ⟨rfl, Below.tail (b_reg (b_alloc (Below.refl _ _))) hq⟩
set_option maxHeartbeats 4000000 in
set_option maxRecDepth 100000 in
theorem from_4 (g : Bool) (b cap : Nat) (c0 c1 c2 c3 : Int) (w : World) (hb : b < w.heap.size) (h0 : w.cell? ⟨b, 0, none⟩ = some (.int .u8 c0)) (d0 : 0 ≤ c0 ∧ c0 ≤ 255) (h1 : w.cell? ⟨b, 1, none⟩ = some (.int .u8 c1)) (d1 : 0 ≤ c1 ∧ c1 ≤ 255) (h2 : w.cell? ⟨b, 2, none⟩ = some (.int .u8 c2)) (d2 : 0 ≤ c2 ∧ c2 ≤ 255) (h3 : w.cell? ⟨b, 3, none⟩ = some (.int .u8 c3)) (d3 : 0 ≤ c3 ∧ c3 ≤ 255) :
    Calls Try.prog 62 #[.agg #[.int .i64 4, .bool g], .slice (some ⟨b, 0, none⟩) 4 cap] w fun e w' => e = .returned (.tuple #[.int .i64 (wr 4 g (bits .or .i64 (bits .or .i64 (bits .or .i64 (bits .or .i64 0 c0) (c1 * 256)) (c2 * 65536)) (c3 * 16777216))), .int .i64 0]) ∧ Below w.heap.size w w' := by
  obtain ⟨a0, e0⟩ := d0
  obtain ⟨a1, e1⟩ := d1
  obtain ⟨a2, e2⟩ := d2
  obtain ⟨a3, e3⟩ := d3
  go_enter Try.func62, Try.ntmps62
  go_wp2_with (go_at_call 75; refine (valid_y 4 g _ rfl).mono ?_; rintro e w' ⟨rfl, hb⟩; obtain ⟨p, rfl⟩ := regrown hb; clear hb)
  refine wp_loop_rounds 5 ?_
  repeat any_goals (rw [rounds_succ]; go_wp2_with (go_at_call 76; refine (wrap_c 4 g _ _ rfl (bits_I64 _ _ _)).mono ?_; rintro e w' ⟨rfl, hq⟩))
  go_ret2
  exact ⟨rfl, Below.tail (b_reg (b_alloc (Below.refl _ _))) hq⟩
set_option maxHeartbeats 4000000 in
set_option maxRecDepth 100000 in
theorem from_8 (g : Bool) (b cap : Nat) (c0 c1 c2 c3 c4 c5 c6 c7 : Int) (w : World) (hb : b < w.heap.size) (h0 : w.cell? ⟨b, 0, none⟩ = some (.int .u8 c0)) (d0 : 0 ≤ c0 ∧ c0 ≤ 255) (h1 : w.cell? ⟨b, 1, none⟩ = some (.int .u8 c1)) (d1 : 0 ≤ c1 ∧ c1 ≤ 255) (h2 : w.cell? ⟨b, 2, none⟩ = some (.int .u8 c2)) (d2 : 0 ≤ c2 ∧ c2 ≤ 255) (h3 : w.cell? ⟨b, 3, none⟩ = some (.int .u8 c3)) (d3 : 0 ≤ c3 ∧ c3 ≤ 255) (h4 : w.cell? ⟨b, 4, none⟩ = some (.int .u8 c4)) (d4 : 0 ≤ c4 ∧ c4 ≤ 255) (h5 : w.cell? ⟨b, 5, none⟩ = some (.int .u8 c5)) (d5 : 0 ≤ c5 ∧ c5 ≤ 255) (h6 : w.cell? ⟨b, 6, none⟩ = some (.int .u8 c6)) (d6 : 0 ≤ c6 ∧ c6 ≤ 255) (h7 : w.cell? ⟨b, 7, none⟩ = some (.int .u8 c7)) (d7 : 0 ≤ c7 ∧ c7 ≤ 255) :
    Calls Try.prog 62 #[.agg #[.int .i64 8, .bool g], .slice (some ⟨b, 0, none⟩) 8 cap] w fun e w' => e = .returned (.tuple #[.int .i64 (wr 8 g (bits .or .i64 (bits .or .i64 (bits .or .i64 (bits .or .i64 (bits .or .i64 (bits .or .i64 (bits .or .i64 (bits .or .i64 0 c0) (c1 * 256)) (c2 * 65536)) (c3 * 16777216)) (c4 * 4294967296)) (c5 * 1099511627776)) (c6 * 281474976710656)) (wrap64 (c7 * 72057594037927936)))), .int .i64 0]) ∧ Below w.heap.size w w' := by
  obtain ⟨a0, e0⟩ := d0
  obtain ⟨a1, e1⟩ := d1
  obtain ⟨a2, e2⟩ := d2
  obtain ⟨a3, e3⟩ := d3
  obtain ⟨a4, e4⟩ := d4
  obtain ⟨a5, e5⟩ := d5
  obtain ⟨a6, e6⟩ := d6
  obtain ⟨a7, e7⟩ := d7
  go_enter Try.func62, Try.ntmps62
  go_wp2_with (go_at_call 75; refine (valid_y 8 g _ rfl).mono ?_; rintro e w' ⟨rfl, hb⟩; obtain ⟨p, rfl⟩ := regrown hb; clear hb)
  refine wp_loop_rounds 9 ?_
  repeat any_goals (rw [rounds_succ]; go_wp2_with (go_at_call 76; refine (wrap_c 8 g _ _ rfl (bits_I64 _ _ _)).mono ?_; rintro e w' ⟨rfl, hq⟩))
  go_ret2
  exact ⟨rfl, Below.tail (b_reg (b_alloc (Below.refl _ _))) hq⟩
end Go.Proofs.Ytdbcbmdekdfdoaa
