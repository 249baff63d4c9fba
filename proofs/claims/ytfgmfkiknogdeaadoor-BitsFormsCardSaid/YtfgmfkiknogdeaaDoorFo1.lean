/- WHAT IS PROVED: the reference's Compare, Bytes, FromBytes, Digits and Text. CONDITIONS: int64 operands; bytes are numbers from 0 to 255. -/
import Derived.Test.YtfgmfkiknogdeaaDoorOp1
import Derived.Test.YtfgmfkiknogdeaaDoorBz
import Derived.Test.YtfgmfkiknogdeaaDoorBt
namespace Go.Proofs.YtfgmfkiknogdeaaDoor
open Go Go.RowKit Go.QrBits
attribute [local go_sem] reg_cell reg_frozen reg_setCell reg_lt reg_lt_add reg_drew reg_of_drew

set_option maxHeartbeats 4000000 in
set_option maxRecDepth 100000 in
theorem rCompare_c (s : Int) (g : Bool) (a b : Int) (w : World) (h : vB s = true) (ha : I64 a) (hb : I64 b) : Calls Tryd.prog 31 #[.agg #[.int .i64 s, .bool g], .int .i64 a, .int .i64 b] w fun e w' => e = .returned (.tuple #[.int .i64 (ordV g (wr s g a) (wr s g b)), .int .i64 0]) ∧ Below w.heap.size w w' := by
  have i1 := wr_I64 (g := g) h ha
  have i2 := wr_I64 (g := g) h hb
  go_enter Tryd.func31, Tryd.ntmps31
  go_wp2_with (go_at_call 25; refine (rCheck_c _ _ _ h).mono ?_; rintro e w' ⟨rfl, hq⟩; (first | obtain ⟨p, rfl⟩ := regrown2 hq | obtain ⟨p, rfl⟩ := regrown hq); clear hq)
  with_reducible first | refine wp_quietR (by kernel_rfl) (by kernel_rfl) ?_ | refine wp_quiet (by kernel_rfl) (by kernel_rfl) ?_
  repeat (quiet_step ((first | (go_at_call 47; exact reg_call (rWrapped_c _ _ _ _ h)) | (go_at_call 62; exact reg_call (rOrder_c _ _ _ _ _ i1 i2)))))
  refine wpQuiet_nil ?_
  intro _ hw'; obtain ⟨p, rfl⟩ := hw'
  go_wp2
  go_returns
  exact ⟨rfl, by repeat (first | exact Below.refl _ _ | apply b_alloc | apply b_reg)⟩
set_option maxHeartbeats 4000000 in
set_option maxRecDepth 100000 in
theorem rCompare_no (s : Int) (g : Bool) (a b : Int) (w : World) (h : vB s = false) : Calls Tryd.prog 31 #[.agg #[.int .i64 s, .bool g], .int .i64 a, .int .i64 b] w fun e w' => e = .returned (.tuple #[.int .i64 0, .int .i64 10]) ∧ Below w.heap.size w w' := by
  go_enter Tryd.func31, Tryd.ntmps31
  go_wp2_with (go_at_call 25; refine (rCheck_no _ _ _ h).mono ?_; rintro e w' ⟨rfl, hq⟩; (first | obtain ⟨p, rfl⟩ := regrown2 hq | obtain ⟨p, rfl⟩ := regrown hq); clear hq)
  go_returns
  exact ⟨rfl, by repeat (first | exact Below.refl _ _ | apply b_alloc | apply b_reg)⟩
set_option maxHeartbeats 4000000 in
set_option maxRecDepth 100000 in
theorem rBytes_no (s : Int) (g : Bool) (a : Int) (w : World) (h : vB s = false) : Calls Tryd.prog 33 #[.agg #[.int .i64 s, .bool g], .int .i64 a] w fun e w' => e = .returned (.tuple #[.slice none 0 0, .int .i64 10]) ∧ Below w.heap.size w w' := by
  go_enter Tryd.func33, Tryd.ntmps33
  go_wp2_with (go_at_call 25; refine (rCheck_no _ _ _ h).mono ?_; rintro e w' ⟨rfl, hq⟩; (first | obtain ⟨p, rfl⟩ := regrown2 hq | obtain ⟨p, rfl⟩ := regrown hq); clear hq)
  go_returns
  exact ⟨rfl, by repeat (first | exact Below.refl _ _ | apply b_alloc | apply b_reg)⟩
set_option maxHeartbeats 4000000 in
set_option maxRecDepth 100000 in
theorem rText_no (s : Int) (g : Bool) (a : Int) (w : World) (h : vB s = false) : Calls Tryd.prog 37 #[.agg #[.int .i64 s, .bool g], .int .i64 a] w fun e w' => e = .returned (.tuple #[.string ByteArray.empty, .int .i64 10]) ∧ Below w.heap.size w w' := by
  go_enter Tryd.func37, Tryd.ntmps37
  go_wp2_with (go_at_call 25; refine (rCheck_no _ _ _ h).mono ?_; rintro e w' ⟨rfl, hq⟩; (first | obtain ⟨p, rfl⟩ := regrown2 hq | obtain ⟨p, rfl⟩ := regrown hq); clear hq)
  go_returns
  exact ⟨rfl, by repeat (first | exact Below.refl _ _ | apply b_alloc | apply b_reg)⟩
set_option maxHeartbeats 4000000 in
set_option maxRecDepth 100000 in
theorem rFrom_no (s : Int) (g : Bool) (a : Option Addr) (n cap : Nat) (w : World) (h : vB s = false) : Calls Tryd.prog 35 #[.agg #[.int .i64 s, .bool g], .slice a n cap] w fun e w' => e = .returned (.tuple #[.int .i64 0, .int .i64 10]) ∧ Below w.heap.size w w' := by
  go_enter Tryd.func35, Tryd.ntmps35
  go_wp2_with (go_at_call 25; refine (rCheck_no _ _ _ h).mono ?_; rintro e w' ⟨rfl, hq⟩; (first | obtain ⟨p, rfl⟩ := regrown2 hq | obtain ⟨p, rfl⟩ := regrown hq); clear hq)
  go_returns
  exact ⟨rfl, by repeat (first | exact Below.refl _ _ | apply b_alloc | apply b_reg)⟩
set_option maxHeartbeats 4000000 in
set_option maxRecDepth 100000 in
theorem rFrom_len (s : Int) (g : Bool) (a : Option Addr) (n cap : Nat) (w : World) (h : vB s = true) (hn : ((n : Int) == s) = false) : Calls Tryd.prog 35 #[.agg #[.int .i64 s, .bool g], .slice a n cap] w fun e w' => e = .returned (.tuple #[.int .i64 0, .int .i64 1]) ∧ Below w.heap.size w w' := by
  have hne : ¬ (n : Int) = s := beq_eq_false_iff_ne.1 hn
  go_enter Tryd.func35, Tryd.ntmps35
  go_wp2_with (go_at_call 25; refine (rCheck_c _ _ _ h).mono ?_; rintro e w' ⟨rfl, hq⟩; (first | obtain ⟨p, rfl⟩ := regrown2 hq | obtain ⟨p, rfl⟩ := regrown hq); clear hq)
  go_returns
  exact ⟨rfl, by repeat (first | exact Below.refl _ _ | apply b_alloc | apply b_reg)⟩
theorem ret2_wr {s : Int} {g : Bool} {x y : Int} (h : x = y) : Ending.returned (.tuple #[.int .i64 (wr s g x), .int .i64 0]) = .returned (.tuple #[.int .i64 (wr s g y), .int .i64 0]) := by rw [h]
set_option maxHeartbeats 4000000 in
set_option maxRecDepth 100000 in
theorem rfrom_1 (g : Bool) (b cap : Nat) (c0 : Int) (w : World) (hb : b < w.heap.size) (h0 : w.cell? ⟨b, 0, none⟩ = some (.int .u8 c0)) (d0 : 0 ≤ c0 ∧ c0 ≤ 255) :
    Calls Tryd.prog 35 #[.agg #[.int .i64 1, .bool g], .slice (some ⟨b, 0, none⟩) 1 cap] w fun e w' => e = .returned (.tuple #[.int .i64 (wr 1 g (wrap64 (fbS [c0]))), .int .i64 0]) ∧ Below w.heap.size w w' := by
  obtain ⟨a0, e0⟩ := d0
  go_enter Tryd.func35, Tryd.ntmps35
  go_wp2_with (go_at_call 25; refine (rCheck_c 1 g _ rfl).mono ?_; rintro e w' ⟨rfl, hq⟩; (first | obtain ⟨p, rfl⟩ := regrown2 hq | obtain ⟨p, rfl⟩ := regrown hq); clear hq)
  refine wp_loop_rounds 2 ?_
  repeat any_goals (rw [rounds_succ]; go_wp2_with (go_at_call 47; refine (rWrapped_c 1 g _ _ rfl).mono ?_; rintro e w' ⟨rfl, hq⟩))
  go_ret2
  exact ⟨ret2_wr (by simp only [fbS]; unfold wrap64; omega), Below.tail (b_reg (b_alloc (Below.refl _ _))) hq⟩
set_option maxHeartbeats 4000000 in
set_option maxRecDepth 100000 in
theorem rfrom_2 (g : Bool) (b cap : Nat) (c0 c1 : Int) (w : World) (hb : b < w.heap.size) (h0 : w.cell? ⟨b, 0, none⟩ = some (.int .u8 c0)) (d0 : 0 ≤ c0 ∧ c0 ≤ 255) (h1 : w.cell? ⟨b, 1, none⟩ = some (.int .u8 c1)) (d1 : 0 ≤ c1 ∧ c1 ≤ 255) :
    Calls Tryd.prog 35 #[.agg #[.int .i64 2, .bool g], .slice (some ⟨b, 0, none⟩) 2 cap] w fun e w' => e = .returned (.tuple #[.int .i64 (wr 2 g (wrap64 (fbS [c0, c1]))), .int .i64 0]) ∧ Below w.heap.size w w' := by
  obtain ⟨a0, e0⟩ := d0
  obtain ⟨a1, e1⟩ := d1
  go_enter Tryd.func35, Tryd.ntmps35
  go_wp2_with (go_at_call 25; refine (rCheck_c 2 g _ rfl).mono ?_; rintro e w' ⟨rfl, hq⟩; (first | obtain ⟨p, rfl⟩ := regrown2 hq | obtain ⟨p, rfl⟩ := regrown hq); clear hq)
  refine wp_loop_rounds 3 ?_
  repeat any_goals (rw [rounds_succ]; go_wp2_with (go_at_call 47; refine (rWrapped_c 2 g _ _ rfl).mono ?_; rintro e w' ⟨rfl, hq⟩))
  go_ret2
  exact ⟨ret2_wr (by simp only [fbS]; unfold wrap64; omega), Below.tail (b_reg (b_alloc (Below.refl _ _))) hq⟩
set_option maxHeartbeats 4000000 in
set_option maxRecDepth 100000 in
theorem rfrom_4 (g : Bool) (b cap : Nat) (c0 c1 c2 c3 : Int) (w : World) (hb : b < w.heap.size) (h0 : w.cell? ⟨b, 0, none⟩ = some (.int .u8 c0)) (d0 : 0 ≤ c0 ∧ c0 ≤ 255) (h1 : w.cell? ⟨b, 1, none⟩ = some (.int .u8 c1)) (d1 : 0 ≤ c1 ∧ c1 ≤ 255) (h2 : w.cell? ⟨b, 2, none⟩ = some (.int .u8 c2)) (d2 : 0 ≤ c2 ∧ c2 ≤ 255) (h3 : w.cell? ⟨b, 3, none⟩ = some (.int .u8 c3)) (d3 : 0 ≤ c3 ∧ c3 ≤ 255) :
    Calls Tryd.prog 35 #[.agg #[.int .i64 4, .bool g], .slice (some ⟨b, 0, none⟩) 4 cap] w fun e w' => e = .returned (.tuple #[.int .i64 (wr 4 g (wrap64 (fbS [c0, c1, c2, c3]))), .int .i64 0]) ∧ Below w.heap.size w w' := by
  obtain ⟨a0, e0⟩ := d0
  obtain ⟨a1, e1⟩ := d1
  obtain ⟨a2, e2⟩ := d2
  obtain ⟨a3, e3⟩ := d3
  go_enter Tryd.func35, Tryd.ntmps35
  go_wp2_with (go_at_call 25; refine (rCheck_c 4 g _ rfl).mono ?_; rintro e w' ⟨rfl, hq⟩; (first | obtain ⟨p, rfl⟩ := regrown2 hq | obtain ⟨p, rfl⟩ := regrown hq); clear hq)
  refine wp_loop_rounds 5 ?_
  repeat any_goals (rw [rounds_succ]; go_wp2_with (go_at_call 47; refine (rWrapped_c 4 g _ _ rfl).mono ?_; rintro e w' ⟨rfl, hq⟩))
  go_ret2
  exact ⟨ret2_wr (by simp only [fbS]; unfold wrap64; omega), Below.tail (b_reg (b_alloc (Below.refl _ _))) hq⟩
set_option maxHeartbeats 4000000 in
set_option maxRecDepth 100000 in
theorem rfrom_8 (g : Bool) (b cap : Nat) (c0 c1 c2 c3 c4 c5 c6 c7 : Int) (w : World) (hb : b < w.heap.size) (h0 : w.cell? ⟨b, 0, none⟩ = some (.int .u8 c0)) (d0 : 0 ≤ c0 ∧ c0 ≤ 255) (h1 : w.cell? ⟨b, 1, none⟩ = some (.int .u8 c1)) (d1 : 0 ≤ c1 ∧ c1 ≤ 255) (h2 : w.cell? ⟨b, 2, none⟩ = some (.int .u8 c2)) (d2 : 0 ≤ c2 ∧ c2 ≤ 255) (h3 : w.cell? ⟨b, 3, none⟩ = some (.int .u8 c3)) (d3 : 0 ≤ c3 ∧ c3 ≤ 255) (h4 : w.cell? ⟨b, 4, none⟩ = some (.int .u8 c4)) (d4 : 0 ≤ c4 ∧ c4 ≤ 255) (h5 : w.cell? ⟨b, 5, none⟩ = some (.int .u8 c5)) (d5 : 0 ≤ c5 ∧ c5 ≤ 255) (h6 : w.cell? ⟨b, 6, none⟩ = some (.int .u8 c6)) (d6 : 0 ≤ c6 ∧ c6 ≤ 255) (h7 : w.cell? ⟨b, 7, none⟩ = some (.int .u8 c7)) (d7 : 0 ≤ c7 ∧ c7 ≤ 255) :
    Calls Tryd.prog 35 #[.agg #[.int .i64 8, .bool g], .slice (some ⟨b, 0, none⟩) 8 cap] w fun e w' => e = .returned (.tuple #[.int .i64 (wr 8 g (wrap64 (fbS [c0, c1, c2, c3, c4, c5, c6, c7]))), .int .i64 0]) ∧ Below w.heap.size w w' := by
  obtain ⟨a0, e0⟩ := d0
  obtain ⟨a1, e1⟩ := d1
  obtain ⟨a2, e2⟩ := d2
  obtain ⟨a3, e3⟩ := d3
  obtain ⟨a4, e4⟩ := d4
  obtain ⟨a5, e5⟩ := d5
  obtain ⟨a6, e6⟩ := d6
  obtain ⟨a7, e7⟩ := d7
  go_enter Tryd.func35, Tryd.ntmps35
  go_wp2_with (go_at_call 25; refine (rCheck_c 8 g _ rfl).mono ?_; rintro e w' ⟨rfl, hq⟩; (first | obtain ⟨p, rfl⟩ := regrown2 hq | obtain ⟨p, rfl⟩ := regrown hq); clear hq)
  refine wp_loop_rounds 9 ?_
  repeat any_goals (rw [rounds_succ]; go_wp2_with (go_at_call 47; refine (rWrapped_c 8 g _ _ rfl).mono ?_; rintro e w' ⟨rfl, hq⟩))
  go_ret2
  exact ⟨ret2_wr (by simp only [fbS]; unfold wrap64; omega), Below.tail (b_reg (b_alloc (Below.refl _ _))) hq⟩
end Go.Proofs.YtfgmfkiknogdeaaDoor
