/- WHAT IS PROVED: the reference's Binary, for all operators. CONDITIONS: int64 operands; the package variable 'promoted' holds what its initialiser lays. -/
import Derived.Test.YtfgmfkiknogdeaaDoorOp3
namespace Go.Proofs.YtfgmfkiknogdeaaDoor
open Go Go.RowKit Go.QrBits
attribute [local go_sem] reg_cell reg_frozen reg_setCell reg_lt reg_lt_add reg_drew reg_of_drew

set_option maxHeartbeats 4000000 in
set_option maxRecDepth 100000 in
theorem rbin_1 (s1 : Int) (g1 : Bool) (a s2 : Int) (g2 : Bool) (b : Int) (w : World) (hr : PromAt w) (h1 : vB s1 = true) (h2 : vB s2 = true) (ha : I64 a) (hb : I64 b) : Calls Tryd.prog 29 #[.int .i64 1, .agg #[.int .i64 s1, .bool g1], .int .i64 a, .agg #[.int .i64 s2, .bool g2], .int .i64 b] w fun e w' => e = .returned (.agg #[.int .i64 (cS s1 g1 s2), .bool (cG s1 g1 s2 g2), .int .i64 (wr (cS s1 g1 s2) (cG s1 g1 s2 g2) (wrap64 (wr (cS s1 g1 s2) (cG s1 g1 s2 g2) (wr s1 g1 a) + wr (cS s1 g1 s2) (cG s1 g1 s2 g2) (wr s2 g2 b)))), .int .i64 0]) ∧ Below w.heap.size w w' := by
  have i1 := wr_I64 (g := g1) h1 ha
  have i2 := wr_I64 (g := g2) h2 hb
  have hc := cS_ok (g1 := g1) h1 h2
  have j1 := wr_I64 (g := cG s1 g1 s2 g2) hc i1
  have j2 := wr_I64 (g := cG s1 g1 s2 g2) hc i2
  go_enter Tryd.func29, Tryd.ntmps29
  go_wp2_with (first
    | (go_at_call 51; refine (both_c _ _ _ _ _ h1 h2).mono ?_; rintro e w' ⟨rfl, hq⟩; (first | obtain ⟨p, rfl⟩ := regrown2 hq | obtain ⟨p, rfl⟩ := regrown hq); clear hq)
    | (go_at_call 47; (first | (with_reducible refine (rWrapped_c s1 g1 a _ h1).mono ?_) | (with_reducible refine (rWrapped_c s2 g2 b _ h2).mono ?_) | (with_reducible refine (rWrapped_c _ _ _ _ hc).mono ?_)); rintro e w' ⟨rfl, hq⟩; (first | obtain ⟨p, rfl⟩ := regrown2 hq | obtain ⟨p, rfl⟩ := regrown hq); clear hq)
    | (go_at_call 52; refine (rCommon_c _ _ _ _ _ (hr.below (by repeat (first | exact Below.refl _ _ | apply b_alloc | apply b_reg))) h1 h2).mono ?_; rintro e w' ⟨rfl, hq⟩; (first | obtain ⟨p, rfl⟩ := regrown2 hq | obtain ⟨p, rfl⟩ := regrown hq); clear hq)
    | (go_at_call 62; refine (rOrder_c _ _ _ _ _ j1 j2).mono ?_; rintro e w' ⟨rfl, hq⟩; (first | obtain ⟨p, rfl⟩ := regrown2 hq | obtain ⟨p, rfl⟩ := regrown hq); clear hq)
    | (go_at_call 63; refine (rarith_1 _ _ _ _ _ hc).mono ?_; rintro e w' ⟨rfl, hq⟩; (first | obtain ⟨p, rfl⟩ := regrown2 hq | obtain ⟨p, rfl⟩ := regrown hq); clear hq))
  go_returns
  exact ⟨rfl, by repeat (first | exact Below.refl _ _ | apply b_alloc | apply b_reg)⟩
set_option maxHeartbeats 4000000 in
set_option maxRecDepth 100000 in
theorem rbin_2 (s1 : Int) (g1 : Bool) (a s2 : Int) (g2 : Bool) (b : Int) (w : World) (hr : PromAt w) (h1 : vB s1 = true) (h2 : vB s2 = true) (ha : I64 a) (hb : I64 b) : Calls Tryd.prog 29 #[.int .i64 2, .agg #[.int .i64 s1, .bool g1], .int .i64 a, .agg #[.int .i64 s2, .bool g2], .int .i64 b] w fun e w' => e = .returned (.agg #[.int .i64 (cS s1 g1 s2), .bool (cG s1 g1 s2 g2), .int .i64 (wr (cS s1 g1 s2) (cG s1 g1 s2 g2) (wrap64 (wr (cS s1 g1 s2) (cG s1 g1 s2 g2) (wr s1 g1 a) - wr (cS s1 g1 s2) (cG s1 g1 s2 g2) (wr s2 g2 b)))), .int .i64 0]) ∧ Below w.heap.size w w' := by
  have i1 := wr_I64 (g := g1) h1 ha
  have i2 := wr_I64 (g := g2) h2 hb
  have hc := cS_ok (g1 := g1) h1 h2
  have j1 := wr_I64 (g := cG s1 g1 s2 g2) hc i1
  have j2 := wr_I64 (g := cG s1 g1 s2 g2) hc i2
  go_enter Tryd.func29, Tryd.ntmps29
  go_wp2_with (first
    | (go_at_call 51; refine (both_c _ _ _ _ _ h1 h2).mono ?_; rintro e w' ⟨rfl, hq⟩; (first | obtain ⟨p, rfl⟩ := regrown2 hq | obtain ⟨p, rfl⟩ := regrown hq); clear hq)
    | (go_at_call 47; (first | (with_reducible refine (rWrapped_c s1 g1 a _ h1).mono ?_) | (with_reducible refine (rWrapped_c s2 g2 b _ h2).mono ?_) | (with_reducible refine (rWrapped_c _ _ _ _ hc).mono ?_)); rintro e w' ⟨rfl, hq⟩; (first | obtain ⟨p, rfl⟩ := regrown2 hq | obtain ⟨p, rfl⟩ := regrown hq); clear hq)
    | (go_at_call 52; refine (rCommon_c _ _ _ _ _ (hr.below (by repeat (first | exact Below.refl _ _ | apply b_alloc | apply b_reg))) h1 h2).mono ?_; rintro e w' ⟨rfl, hq⟩; (first | obtain ⟨p, rfl⟩ := regrown2 hq | obtain ⟨p, rfl⟩ := regrown hq); clear hq)
    | (go_at_call 62; refine (rOrder_c _ _ _ _ _ j1 j2).mono ?_; rintro e w' ⟨rfl, hq⟩; (first | obtain ⟨p, rfl⟩ := regrown2 hq | obtain ⟨p, rfl⟩ := regrown hq); clear hq)
    | (go_at_call 63; refine (rarith_2 _ _ _ _ _ hc).mono ?_; rintro e w' ⟨rfl, hq⟩; (first | obtain ⟨p, rfl⟩ := regrown2 hq | obtain ⟨p, rfl⟩ := regrown hq); clear hq))
  go_returns
  exact ⟨rfl, by repeat (first | exact Below.refl _ _ | apply b_alloc | apply b_reg)⟩
set_option maxHeartbeats 4000000 in
set_option maxRecDepth 100000 in
theorem rbin_3 (s1 : Int) (g1 : Bool) (a s2 : Int) (g2 : Bool) (b : Int) (w : World) (hr : PromAt w) (h1 : vB s1 = true) (h2 : vB s2 = true) (ha : I64 a) (hb : I64 b) : Calls Tryd.prog 29 #[.int .i64 3, .agg #[.int .i64 s1, .bool g1], .int .i64 a, .agg #[.int .i64 s2, .bool g2], .int .i64 b] w fun e w' => e = .returned (.agg #[.int .i64 (cS s1 g1 s2), .bool (cG s1 g1 s2 g2), .int .i64 (wr (cS s1 g1 s2) (cG s1 g1 s2 g2) (wrap64 (wr (cS s1 g1 s2) (cG s1 g1 s2 g2) (wr s1 g1 a) * wr (cS s1 g1 s2) (cG s1 g1 s2 g2) (wr s2 g2 b)))), .int .i64 0]) ∧ Below w.heap.size w w' := by
  have i1 := wr_I64 (g := g1) h1 ha
  have i2 := wr_I64 (g := g2) h2 hb
  have hc := cS_ok (g1 := g1) h1 h2
  have j1 := wr_I64 (g := cG s1 g1 s2 g2) hc i1
  have j2 := wr_I64 (g := cG s1 g1 s2 g2) hc i2
  go_enter Tryd.func29, Tryd.ntmps29
  go_wp2_with (first
    | (go_at_call 51; refine (both_c _ _ _ _ _ h1 h2).mono ?_; rintro e w' ⟨rfl, hq⟩; (first | obtain ⟨p, rfl⟩ := regrown2 hq | obtain ⟨p, rfl⟩ := regrown hq); clear hq)
    | (go_at_call 47; (first | (with_reducible refine (rWrapped_c s1 g1 a _ h1).mono ?_) | (with_reducible refine (rWrapped_c s2 g2 b _ h2).mono ?_) | (with_reducible refine (rWrapped_c _ _ _ _ hc).mono ?_)); rintro e w' ⟨rfl, hq⟩; (first | obtain ⟨p, rfl⟩ := regrown2 hq | obtain ⟨p, rfl⟩ := regrown hq); clear hq)
    | (go_at_call 52; refine (rCommon_c _ _ _ _ _ (hr.below (by repeat (first | exact Below.refl _ _ | apply b_alloc | apply b_reg))) h1 h2).mono ?_; rintro e w' ⟨rfl, hq⟩; (first | obtain ⟨p, rfl⟩ := regrown2 hq | obtain ⟨p, rfl⟩ := regrown hq); clear hq)
    | (go_at_call 62; refine (rOrder_c _ _ _ _ _ j1 j2).mono ?_; rintro e w' ⟨rfl, hq⟩; (first | obtain ⟨p, rfl⟩ := regrown2 hq | obtain ⟨p, rfl⟩ := regrown hq); clear hq)
    | (go_at_call 63; refine (rarith_3 _ _ _ _ _ hc).mono ?_; rintro e w' ⟨rfl, hq⟩; (first | obtain ⟨p, rfl⟩ := regrown2 hq | obtain ⟨p, rfl⟩ := regrown hq); clear hq))
  go_returns
  exact ⟨rfl, by repeat (first | exact Below.refl _ _ | apply b_alloc | apply b_reg)⟩
set_option maxHeartbeats 4000000 in
set_option maxRecDepth 100000 in
theorem rbin_6 (s1 : Int) (g1 : Bool) (a s2 : Int) (g2 : Bool) (b : Int) (w : World) (hr : PromAt w) (h1 : vB s1 = true) (h2 : vB s2 = true) (ha : I64 a) (hb : I64 b) : Calls Tryd.prog 29 #[.int .i64 6, .agg #[.int .i64 s1, .bool g1], .int .i64 a, .agg #[.int .i64 s2, .bool g2], .int .i64 b] w fun e w' => e = .returned (.agg #[.int .i64 (cS s1 g1 s2), .bool (cG s1 g1 s2 g2), .int .i64 (wr (cS s1 g1 s2) (cG s1 g1 s2 g2) (bits .and .i64 (wr (cS s1 g1 s2) (cG s1 g1 s2 g2) (wr s1 g1 a)) (wr (cS s1 g1 s2) (cG s1 g1 s2 g2) (wr s2 g2 b)))), .int .i64 0]) ∧ Below w.heap.size w w' := by
  have i1 := wr_I64 (g := g1) h1 ha
  have i2 := wr_I64 (g := g2) h2 hb
  have hc := cS_ok (g1 := g1) h1 h2
  have j1 := wr_I64 (g := cG s1 g1 s2 g2) hc i1
  have j2 := wr_I64 (g := cG s1 g1 s2 g2) hc i2
  go_enter Tryd.func29, Tryd.ntmps29
  go_wp2_with (first
    | (go_at_call 51; refine (both_c _ _ _ _ _ h1 h2).mono ?_; rintro e w' ⟨rfl, hq⟩; (first | obtain ⟨p, rfl⟩ := regrown2 hq | obtain ⟨p, rfl⟩ := regrown hq); clear hq)
    | (go_at_call 47; (first | (with_reducible refine (rWrapped_c s1 g1 a _ h1).mono ?_) | (with_reducible refine (rWrapped_c s2 g2 b _ h2).mono ?_) | (with_reducible refine (rWrapped_c _ _ _ _ hc).mono ?_)); rintro e w' ⟨rfl, hq⟩; (first | obtain ⟨p, rfl⟩ := regrown2 hq | obtain ⟨p, rfl⟩ := regrown hq); clear hq)
    | (go_at_call 52; refine (rCommon_c _ _ _ _ _ (hr.below (by repeat (first | exact Below.refl _ _ | apply b_alloc | apply b_reg))) h1 h2).mono ?_; rintro e w' ⟨rfl, hq⟩; (first | obtain ⟨p, rfl⟩ := regrown2 hq | obtain ⟨p, rfl⟩ := regrown hq); clear hq)
    | (go_at_call 62; refine (rOrder_c _ _ _ _ _ j1 j2).mono ?_; rintro e w' ⟨rfl, hq⟩; (first | obtain ⟨p, rfl⟩ := regrown2 hq | obtain ⟨p, rfl⟩ := regrown hq); clear hq)
    | (go_at_call 63; refine (rarith_6 _ _ _ _ _ hc).mono ?_; rintro e w' ⟨rfl, hq⟩; (first | obtain ⟨p, rfl⟩ := regrown2 hq | obtain ⟨p, rfl⟩ := regrown hq); clear hq))
  go_returns
  exact ⟨rfl, by repeat (first | exact Below.refl _ _ | apply b_alloc | apply b_reg)⟩
set_option maxHeartbeats 4000000 in
set_option maxRecDepth 100000 in
theorem rbin_7 (s1 : Int) (g1 : Bool) (a s2 : Int) (g2 : Bool) (b : Int) (w : World) (hr : PromAt w) (h1 : vB s1 = true) (h2 : vB s2 = true) (ha : I64 a) (hb : I64 b) : Calls Tryd.prog 29 #[.int .i64 7, .agg #[.int .i64 s1, .bool g1], .int .i64 a, .agg #[.int .i64 s2, .bool g2], .int .i64 b] w fun e w' => e = .returned (.agg #[.int .i64 (cS s1 g1 s2), .bool (cG s1 g1 s2 g2), .int .i64 (wr (cS s1 g1 s2) (cG s1 g1 s2 g2) (bits .or .i64 (wr (cS s1 g1 s2) (cG s1 g1 s2 g2) (wr s1 g1 a)) (wr (cS s1 g1 s2) (cG s1 g1 s2 g2) (wr s2 g2 b)))), .int .i64 0]) ∧ Below w.heap.size w w' := by
  have i1 := wr_I64 (g := g1) h1 ha
  have i2 := wr_I64 (g := g2) h2 hb
  have hc := cS_ok (g1 := g1) h1 h2
  have j1 := wr_I64 (g := cG s1 g1 s2 g2) hc i1
  have j2 := wr_I64 (g := cG s1 g1 s2 g2) hc i2
  go_enter Tryd.func29, Tryd.ntmps29
  go_wp2_with (first
    | (go_at_call 51; refine (both_c _ _ _ _ _ h1 h2).mono ?_; rintro e w' ⟨rfl, hq⟩; (first | obtain ⟨p, rfl⟩ := regrown2 hq | obtain ⟨p, rfl⟩ := regrown hq); clear hq)
    | (go_at_call 47; (first | (with_reducible refine (rWrapped_c s1 g1 a _ h1).mono ?_) | (with_reducible refine (rWrapped_c s2 g2 b _ h2).mono ?_) | (with_reducible refine (rWrapped_c _ _ _ _ hc).mono ?_)); rintro e w' ⟨rfl, hq⟩; (first | obtain ⟨p, rfl⟩ := regrown2 hq | obtain ⟨p, rfl⟩ := regrown hq); clear hq)
    | (go_at_call 52; refine (rCommon_c _ _ _ _ _ (hr.below (by repeat (first | exact Below.refl _ _ | apply b_alloc | apply b_reg))) h1 h2).mono ?_; rintro e w' ⟨rfl, hq⟩; (first | obtain ⟨p, rfl⟩ := regrown2 hq | obtain ⟨p, rfl⟩ := regrown hq); clear hq)
    | (go_at_call 62; refine (rOrder_c _ _ _ _ _ j1 j2).mono ?_; rintro e w' ⟨rfl, hq⟩; (first | obtain ⟨p, rfl⟩ := regrown2 hq | obtain ⟨p, rfl⟩ := regrown hq); clear hq)
    | (go_at_call 63; refine (rarith_7 _ _ _ _ _ hc).mono ?_; rintro e w' ⟨rfl, hq⟩; (first | obtain ⟨p, rfl⟩ := regrown2 hq | obtain ⟨p, rfl⟩ := regrown hq); clear hq))
  go_returns
  exact ⟨rfl, by repeat (first | exact Below.refl _ _ | apply b_alloc | apply b_reg)⟩
set_option maxHeartbeats 4000000 in
set_option maxRecDepth 100000 in
theorem rbin_8 (s1 : Int) (g1 : Bool) (a s2 : Int) (g2 : Bool) (b : Int) (w : World) (hr : PromAt w) (h1 : vB s1 = true) (h2 : vB s2 = true) (ha : I64 a) (hb : I64 b) : Calls Tryd.prog 29 #[.int .i64 8, .agg #[.int .i64 s1, .bool g1], .int .i64 a, .agg #[.int .i64 s2, .bool g2], .int .i64 b] w fun e w' => e = .returned (.agg #[.int .i64 (cS s1 g1 s2), .bool (cG s1 g1 s2 g2), .int .i64 (wr (cS s1 g1 s2) (cG s1 g1 s2 g2) (bits .xor .i64 (wr (cS s1 g1 s2) (cG s1 g1 s2 g2) (wr s1 g1 a)) (wr (cS s1 g1 s2) (cG s1 g1 s2 g2) (wr s2 g2 b)))), .int .i64 0]) ∧ Below w.heap.size w w' := by
  have i1 := wr_I64 (g := g1) h1 ha
  have i2 := wr_I64 (g := g2) h2 hb
  have hc := cS_ok (g1 := g1) h1 h2
  have j1 := wr_I64 (g := cG s1 g1 s2 g2) hc i1
  have j2 := wr_I64 (g := cG s1 g1 s2 g2) hc i2
  go_enter Tryd.func29, Tryd.ntmps29
  go_wp2_with (first
    | (go_at_call 51; refine (both_c _ _ _ _ _ h1 h2).mono ?_; rintro e w' ⟨rfl, hq⟩; (first | obtain ⟨p, rfl⟩ := regrown2 hq | obtain ⟨p, rfl⟩ := regrown hq); clear hq)
    | (go_at_call 47; (first | (with_reducible refine (rWrapped_c s1 g1 a _ h1).mono ?_) | (with_reducible refine (rWrapped_c s2 g2 b _ h2).mono ?_) | (with_reducible refine (rWrapped_c _ _ _ _ hc).mono ?_)); rintro e w' ⟨rfl, hq⟩; (first | obtain ⟨p, rfl⟩ := regrown2 hq | obtain ⟨p, rfl⟩ := regrown hq); clear hq)
    | (go_at_call 52; refine (rCommon_c _ _ _ _ _ (hr.below (by repeat (first | exact Below.refl _ _ | apply b_alloc | apply b_reg))) h1 h2).mono ?_; rintro e w' ⟨rfl, hq⟩; (first | obtain ⟨p, rfl⟩ := regrown2 hq | obtain ⟨p, rfl⟩ := regrown hq); clear hq)
    | (go_at_call 62; refine (rOrder_c _ _ _ _ _ j1 j2).mono ?_; rintro e w' ⟨rfl, hq⟩; (first | obtain ⟨p, rfl⟩ := regrown2 hq | obtain ⟨p, rfl⟩ := regrown hq); clear hq)
    | (go_at_call 63; refine (rarith_8 _ _ _ _ _ hc).mono ?_; rintro e w' ⟨rfl, hq⟩; (first | obtain ⟨p, rfl⟩ := regrown2 hq | obtain ⟨p, rfl⟩ := regrown hq); clear hq))
  go_returns
  exact ⟨rfl, by repeat (first | exact Below.refl _ _ | apply b_alloc | apply b_reg)⟩
set_option maxHeartbeats 4000000 in
set_option maxRecDepth 100000 in
theorem rbin_4 (s1 : Int) (g1 : Bool) (a s2 : Int) (g2 : Bool) (b : Int) (w : World) (hr : PromAt w) (h1 : vB s1 = true) (h2 : vB s2 = true) (ha : I64 a) (hb : I64 b) (h0 : ¬ wr (cS s1 g1 s2) (cG s1 g1 s2 g2) (wr s2 g2 b) = 0) : Calls Tryd.prog 29 #[.int .i64 4, .agg #[.int .i64 s1, .bool g1], .int .i64 a, .agg #[.int .i64 s2, .bool g2], .int .i64 b] w fun e w' => e = .returned (.agg #[.int .i64 (cS s1 g1 s2), .bool (cG s1 g1 s2 g2), .int .i64 (wr (cS s1 g1 s2) (cG s1 g1 s2 g2) (qV (cG s1 g1 s2 g2) (wr (cS s1 g1 s2) (cG s1 g1 s2 g2) (wr s1 g1 a)) (wr (cS s1 g1 s2) (cG s1 g1 s2 g2) (wr s2 g2 b)))), .int .i64 0]) ∧ Below w.heap.size w w' := by
  have i1 := wr_I64 (g := g1) h1 ha
  have i2 := wr_I64 (g := g2) h2 hb
  have hc := cS_ok (g1 := g1) h1 h2
  have j1 := wr_I64 (g := cG s1 g1 s2 g2) hc i1
  have j2 := wr_I64 (g := cG s1 g1 s2 g2) hc i2
  go_enter Tryd.func29, Tryd.ntmps29
  go_wp2_with (first
    | (go_at_call 51; refine (both_c _ _ _ _ _ h1 h2).mono ?_; rintro e w' ⟨rfl, hq⟩; (first | obtain ⟨p, rfl⟩ := regrown2 hq | obtain ⟨p, rfl⟩ := regrown hq); clear hq)
    | (go_at_call 47; (first | (with_reducible refine (rWrapped_c s1 g1 a _ h1).mono ?_) | (with_reducible refine (rWrapped_c s2 g2 b _ h2).mono ?_) | (with_reducible refine (rWrapped_c _ _ _ _ hc).mono ?_)); rintro e w' ⟨rfl, hq⟩; (first | obtain ⟨p, rfl⟩ := regrown2 hq | obtain ⟨p, rfl⟩ := regrown hq); clear hq)
    | (go_at_call 52; refine (rCommon_c _ _ _ _ _ (hr.below (by repeat (first | exact Below.refl _ _ | apply b_alloc | apply b_reg))) h1 h2).mono ?_; rintro e w' ⟨rfl, hq⟩; (first | obtain ⟨p, rfl⟩ := regrown2 hq | obtain ⟨p, rfl⟩ := regrown hq); clear hq)
    | (go_at_call 62; refine (rOrder_c _ _ _ _ _ j1 j2).mono ?_; rintro e w' ⟨rfl, hq⟩; (first | obtain ⟨p, rfl⟩ := regrown2 hq | obtain ⟨p, rfl⟩ := regrown hq); clear hq)
    | (go_at_call 63; refine (rarith_4 _ _ _ _ _ hc j2 h0).mono ?_; rintro e w' ⟨rfl, hq⟩; (first | obtain ⟨p, rfl⟩ := regrown2 hq | obtain ⟨p, rfl⟩ := regrown hq); clear hq))
  go_returns
  exact ⟨rfl, by repeat (first | exact Below.refl _ _ | apply b_alloc | apply b_reg)⟩
set_option maxHeartbeats 4000000 in
set_option maxRecDepth 100000 in
theorem rbin_5 (s1 : Int) (g1 : Bool) (a s2 : Int) (g2 : Bool) (b : Int) (w : World) (hr : PromAt w) (h1 : vB s1 = true) (h2 : vB s2 = true) (ha : I64 a) (hb : I64 b) (h0 : ¬ wr (cS s1 g1 s2) (cG s1 g1 s2 g2) (wr s2 g2 b) = 0) : Calls Tryd.prog 29 #[.int .i64 5, .agg #[.int .i64 s1, .bool g1], .int .i64 a, .agg #[.int .i64 s2, .bool g2], .int .i64 b] w fun e w' => e = .returned (.agg #[.int .i64 (cS s1 g1 s2), .bool (cG s1 g1 s2 g2), .int .i64 (wr (cS s1 g1 s2) (cG s1 g1 s2 g2) (rV (cG s1 g1 s2 g2) (wr (cS s1 g1 s2) (cG s1 g1 s2 g2) (wr s1 g1 a)) (wr (cS s1 g1 s2) (cG s1 g1 s2 g2) (wr s2 g2 b)))), .int .i64 0]) ∧ Below w.heap.size w w' := by
  have i1 := wr_I64 (g := g1) h1 ha
  have i2 := wr_I64 (g := g2) h2 hb
  have hc := cS_ok (g1 := g1) h1 h2
  have j1 := wr_I64 (g := cG s1 g1 s2 g2) hc i1
  have j2 := wr_I64 (g := cG s1 g1 s2 g2) hc i2
  go_enter Tryd.func29, Tryd.ntmps29
  go_wp2_with (first
    | (go_at_call 51; refine (both_c _ _ _ _ _ h1 h2).mono ?_; rintro e w' ⟨rfl, hq⟩; (first | obtain ⟨p, rfl⟩ := regrown2 hq | obtain ⟨p, rfl⟩ := regrown hq); clear hq)
    | (go_at_call 47; (first | (with_reducible refine (rWrapped_c s1 g1 a _ h1).mono ?_) | (with_reducible refine (rWrapped_c s2 g2 b _ h2).mono ?_) | (with_reducible refine (rWrapped_c _ _ _ _ hc).mono ?_)); rintro e w' ⟨rfl, hq⟩; (first | obtain ⟨p, rfl⟩ := regrown2 hq | obtain ⟨p, rfl⟩ := regrown hq); clear hq)
    | (go_at_call 52; refine (rCommon_c _ _ _ _ _ (hr.below (by repeat (first | exact Below.refl _ _ | apply b_alloc | apply b_reg))) h1 h2).mono ?_; rintro e w' ⟨rfl, hq⟩; (first | obtain ⟨p, rfl⟩ := regrown2 hq | obtain ⟨p, rfl⟩ := regrown hq); clear hq)
    | (go_at_call 62; refine (rOrder_c _ _ _ _ _ j1 j2).mono ?_; rintro e w' ⟨rfl, hq⟩; (first | obtain ⟨p, rfl⟩ := regrown2 hq | obtain ⟨p, rfl⟩ := regrown hq); clear hq)
    | (go_at_call 63; refine (rarith_5 _ _ _ _ _ hc j2 h0).mono ?_; rintro e w' ⟨rfl, hq⟩; (first | obtain ⟨p, rfl⟩ := regrown2 hq | obtain ⟨p, rfl⟩ := regrown hq); clear hq))
  go_returns
  exact ⟨rfl, by repeat (first | exact Below.refl _ _ | apply b_alloc | apply b_reg)⟩
set_option maxHeartbeats 4000000 in
set_option maxRecDepth 100000 in
theorem rbin_4z (s1 : Int) (g1 : Bool) (a s2 : Int) (g2 : Bool) (b : Int) (w : World) (hr : PromAt w) (h1 : vB s1 = true) (h2 : vB s2 = true) (ha : I64 a) (hb : I64 b) (h0 : wr (cS s1 g1 s2) (cG s1 g1 s2 g2) (wr s2 g2 b) = 0) : Calls Tryd.prog 29 #[.int .i64 4, .agg #[.int .i64 s1, .bool g1], .int .i64 a, .agg #[.int .i64 s2, .bool g2], .int .i64 b] w fun e w' => e = .returned (.agg #[.int .i64 0, .bool false, .int .i64 0, .int .i64 12]) ∧ Below w.heap.size w w' := by
  have i1 := wr_I64 (g := g1) h1 ha
  have i2 := wr_I64 (g := g2) h2 hb
  have hc := cS_ok (g1 := g1) h1 h2
  have j1 := wr_I64 (g := cG s1 g1 s2 g2) hc i1
  have j2 := wr_I64 (g := cG s1 g1 s2 g2) hc i2
  have H0 := Lib.hid h0
  clear h0
  go_enter Tryd.func29, Tryd.ntmps29
  go_wp2_with (first
    | (go_at_call 51; refine (both_c _ _ _ _ _ h1 h2).mono ?_; rintro e w' ⟨rfl, hq⟩; (first | obtain ⟨p, rfl⟩ := regrown2 hq | obtain ⟨p, rfl⟩ := regrown hq); clear hq)
    | (go_at_call 47; (first | (with_reducible refine (rWrapped_c s1 g1 a _ h1).mono ?_) | (with_reducible refine (rWrapped_c s2 g2 b _ h2).mono ?_) | (with_reducible refine (rWrapped_c _ _ _ _ hc).mono ?_)); rintro e w' ⟨rfl, hq⟩; (first | obtain ⟨p, rfl⟩ := regrown2 hq | obtain ⟨p, rfl⟩ := regrown hq); clear hq)
    | (go_at_call 52; refine (rCommon_c _ _ _ _ _ (hr.below (by repeat (first | exact Below.refl _ _ | apply b_alloc | apply b_reg))) h1 h2).mono ?_; rintro e w' ⟨rfl, hq⟩; (first | obtain ⟨p, rfl⟩ := regrown2 hq | obtain ⟨p, rfl⟩ := regrown hq); clear hq)
    | (go_at_call 62; refine (rOrder_c _ _ _ _ _ j1 j2).mono ?_; rintro e w' ⟨rfl, hq⟩; (first | obtain ⟨p, rfl⟩ := regrown2 hq | obtain ⟨p, rfl⟩ := regrown hq); clear hq)
    | (go_at_call 63; rw [H0.out]; refine (rarith_4z _ _ _ _).mono ?_; rintro e w' ⟨rfl, hq⟩; (first | obtain ⟨p, rfl⟩ := regrown2 hq | obtain ⟨p, rfl⟩ := regrown hq); clear hq))
  go_returns
  exact ⟨rfl, by repeat (first | exact Below.refl _ _ | apply b_alloc | apply b_reg)⟩
set_option maxHeartbeats 4000000 in
set_option maxRecDepth 100000 in
theorem rbin_5z (s1 : Int) (g1 : Bool) (a s2 : Int) (g2 : Bool) (b : Int) (w : World) (hr : PromAt w) (h1 : vB s1 = true) (h2 : vB s2 = true) (ha : I64 a) (hb : I64 b) (h0 : wr (cS s1 g1 s2) (cG s1 g1 s2 g2) (wr s2 g2 b) = 0) : Calls Tryd.prog 29 #[.int .i64 5, .agg #[.int .i64 s1, .bool g1], .int .i64 a, .agg #[.int .i64 s2, .bool g2], .int .i64 b] w fun e w' => e = .returned (.agg #[.int .i64 0, .bool false, .int .i64 0, .int .i64 12]) ∧ Below w.heap.size w w' := by
  have i1 := wr_I64 (g := g1) h1 ha
  have i2 := wr_I64 (g := g2) h2 hb
  have hc := cS_ok (g1 := g1) h1 h2
  have j1 := wr_I64 (g := cG s1 g1 s2 g2) hc i1
  have j2 := wr_I64 (g := cG s1 g1 s2 g2) hc i2
  have H0 := Lib.hid h0
  clear h0
  go_enter Tryd.func29, Tryd.ntmps29
  go_wp2_with (first
    | (go_at_call 51; refine (both_c _ _ _ _ _ h1 h2).mono ?_; rintro e w' ⟨rfl, hq⟩; (first | obtain ⟨p, rfl⟩ := regrown2 hq | obtain ⟨p, rfl⟩ := regrown hq); clear hq)
    | (go_at_call 47; (first | (with_reducible refine (rWrapped_c s1 g1 a _ h1).mono ?_) | (with_reducible refine (rWrapped_c s2 g2 b _ h2).mono ?_) | (with_reducible refine (rWrapped_c _ _ _ _ hc).mono ?_)); rintro e w' ⟨rfl, hq⟩; (first | obtain ⟨p, rfl⟩ := regrown2 hq | obtain ⟨p, rfl⟩ := regrown hq); clear hq)
    | (go_at_call 52; refine (rCommon_c _ _ _ _ _ (hr.below (by repeat (first | exact Below.refl _ _ | apply b_alloc | apply b_reg))) h1 h2).mono ?_; rintro e w' ⟨rfl, hq⟩; (first | obtain ⟨p, rfl⟩ := regrown2 hq | obtain ⟨p, rfl⟩ := regrown hq); clear hq)
    | (go_at_call 62; refine (rOrder_c _ _ _ _ _ j1 j2).mono ?_; rintro e w' ⟨rfl, hq⟩; (first | obtain ⟨p, rfl⟩ := regrown2 hq | obtain ⟨p, rfl⟩ := regrown hq); clear hq)
    | (go_at_call 63; rw [H0.out]; refine (rarith_5z _ _ _ _).mono ?_; rintro e w' ⟨rfl, hq⟩; (first | obtain ⟨p, rfl⟩ := regrown2 hq | obtain ⟨p, rfl⟩ := regrown hq); clear hq))
  go_returns
  exact ⟨rfl, by repeat (first | exact Below.refl _ _ | apply b_alloc | apply b_reg)⟩
set_option maxHeartbeats 4000000 in
set_option maxRecDepth 100000 in
theorem rbin_11 (s1 : Int) (g1 : Bool) (a s2 : Int) (g2 : Bool) (b : Int) (w : World) (hr : PromAt w) (h1 : vB s1 = true) (h2 : vB s2 = true) (ha : I64 a) (hb : I64 b) : Calls Tryd.prog 29 #[.int .i64 11, .agg #[.int .i64 s1, .bool g1], .int .i64 a, .agg #[.int .i64 s2, .bool g2], .int .i64 b] w fun e w' => e = .returned (.agg #[.int .i64 4, .bool true, .int .i64 (tV (relV 0 (ordV (cG s1 g1 s2 g2) (wr (cS s1 g1 s2) (cG s1 g1 s2 g2) (wr s1 g1 a)) (wr (cS s1 g1 s2) (cG s1 g1 s2 g2) (wr s2 g2 b))))), .int .i64 0]) ∧ Below w.heap.size w w' := by
  have i1 := wr_I64 (g := g1) h1 ha
  have i2 := wr_I64 (g := g2) h2 hb
  have hc := cS_ok (g1 := g1) h1 h2
  have j1 := wr_I64 (g := cG s1 g1 s2 g2) hc i1
  have j2 := wr_I64 (g := cG s1 g1 s2 g2) hc i2
  go_enter Tryd.func29, Tryd.ntmps29
  go_wp2_with (first
    | (go_at_call 51; refine (both_c _ _ _ _ _ h1 h2).mono ?_; rintro e w' ⟨rfl, hq⟩; (first | obtain ⟨p, rfl⟩ := regrown2 hq | obtain ⟨p, rfl⟩ := regrown hq); clear hq)
    | (go_at_call 47; (first | (with_reducible refine (rWrapped_c s1 g1 a _ h1).mono ?_) | (with_reducible refine (rWrapped_c s2 g2 b _ h2).mono ?_) | (with_reducible refine (rWrapped_c _ _ _ _ hc).mono ?_)); rintro e w' ⟨rfl, hq⟩; (first | obtain ⟨p, rfl⟩ := regrown2 hq | obtain ⟨p, rfl⟩ := regrown hq); clear hq)
    | (go_at_call 52; refine (rCommon_c _ _ _ _ _ (hr.below (by repeat (first | exact Below.refl _ _ | apply b_alloc | apply b_reg))) h1 h2).mono ?_; rintro e w' ⟨rfl, hq⟩; (first | obtain ⟨p, rfl⟩ := regrown2 hq | obtain ⟨p, rfl⟩ := regrown hq); clear hq)
    | (go_at_call 62; refine (rOrder_c _ _ _ _ _ j1 j2).mono ?_; rintro e w' ⟨rfl, hq⟩; (first | obtain ⟨p, rfl⟩ := regrown2 hq | obtain ⟨p, rfl⟩ := regrown hq); clear hq)
    | (go_at_call 54; refine (rtruth_c _ _ (hr.below (by repeat (first | exact Below.refl _ _ | apply b_alloc | apply b_reg)))).mono ?_; rintro e w' ⟨rfl, hq⟩; (first | obtain ⟨p, rfl⟩ := regrown2 hq | obtain ⟨p, rfl⟩ := regrown hq); clear hq))
  go_returns
  exact ⟨rfl, by repeat (first | exact Below.refl _ _ | apply b_alloc | apply b_reg)⟩
set_option maxHeartbeats 4000000 in
set_option maxRecDepth 100000 in
theorem rbin_12 (s1 : Int) (g1 : Bool) (a s2 : Int) (g2 : Bool) (b : Int) (w : World) (hr : PromAt w) (h1 : vB s1 = true) (h2 : vB s2 = true) (ha : I64 a) (hb : I64 b) : Calls Tryd.prog 29 #[.int .i64 12, .agg #[.int .i64 s1, .bool g1], .int .i64 a, .agg #[.int .i64 s2, .bool g2], .int .i64 b] w fun e w' => e = .returned (.agg #[.int .i64 4, .bool true, .int .i64 (tV (relV 1 (ordV (cG s1 g1 s2 g2) (wr (cS s1 g1 s2) (cG s1 g1 s2 g2) (wr s1 g1 a)) (wr (cS s1 g1 s2) (cG s1 g1 s2 g2) (wr s2 g2 b))))), .int .i64 0]) ∧ Below w.heap.size w w' := by
  have i1 := wr_I64 (g := g1) h1 ha
  have i2 := wr_I64 (g := g2) h2 hb
  have hc := cS_ok (g1 := g1) h1 h2
  have j1 := wr_I64 (g := cG s1 g1 s2 g2) hc i1
  have j2 := wr_I64 (g := cG s1 g1 s2 g2) hc i2
  go_enter Tryd.func29, Tryd.ntmps29
  go_wp2_with (first
    | (go_at_call 51; refine (both_c _ _ _ _ _ h1 h2).mono ?_; rintro e w' ⟨rfl, hq⟩; (first | obtain ⟨p, rfl⟩ := regrown2 hq | obtain ⟨p, rfl⟩ := regrown hq); clear hq)
    | (go_at_call 47; (first | (with_reducible refine (rWrapped_c s1 g1 a _ h1).mono ?_) | (with_reducible refine (rWrapped_c s2 g2 b _ h2).mono ?_) | (with_reducible refine (rWrapped_c _ _ _ _ hc).mono ?_)); rintro e w' ⟨rfl, hq⟩; (first | obtain ⟨p, rfl⟩ := regrown2 hq | obtain ⟨p, rfl⟩ := regrown hq); clear hq)
    | (go_at_call 52; refine (rCommon_c _ _ _ _ _ (hr.below (by repeat (first | exact Below.refl _ _ | apply b_alloc | apply b_reg))) h1 h2).mono ?_; rintro e w' ⟨rfl, hq⟩; (first | obtain ⟨p, rfl⟩ := regrown2 hq | obtain ⟨p, rfl⟩ := regrown hq); clear hq)
    | (go_at_call 62; refine (rOrder_c _ _ _ _ _ j1 j2).mono ?_; rintro e w' ⟨rfl, hq⟩; (first | obtain ⟨p, rfl⟩ := regrown2 hq | obtain ⟨p, rfl⟩ := regrown hq); clear hq)
    | (go_at_call 54; refine (rtruth_c _ _ (hr.below (by repeat (first | exact Below.refl _ _ | apply b_alloc | apply b_reg)))).mono ?_; rintro e w' ⟨rfl, hq⟩; (first | obtain ⟨p, rfl⟩ := regrown2 hq | obtain ⟨p, rfl⟩ := regrown hq); clear hq))
  go_returns
  exact ⟨rfl, by repeat (first | exact Below.refl _ _ | apply b_alloc | apply b_reg)⟩
set_option maxHeartbeats 4000000 in
set_option maxRecDepth 100000 in
theorem rbin_13 (s1 : Int) (g1 : Bool) (a s2 : Int) (g2 : Bool) (b : Int) (w : World) (hr : PromAt w) (h1 : vB s1 = true) (h2 : vB s2 = true) (ha : I64 a) (hb : I64 b) : Calls Tryd.prog 29 #[.int .i64 13, .agg #[.int .i64 s1, .bool g1], .int .i64 a, .agg #[.int .i64 s2, .bool g2], .int .i64 b] w fun e w' => e = .returned (.agg #[.int .i64 4, .bool true, .int .i64 (tV (relV 2 (ordV (cG s1 g1 s2 g2) (wr (cS s1 g1 s2) (cG s1 g1 s2 g2) (wr s1 g1 a)) (wr (cS s1 g1 s2) (cG s1 g1 s2 g2) (wr s2 g2 b))))), .int .i64 0]) ∧ Below w.heap.size w w' := by
  have i1 := wr_I64 (g := g1) h1 ha
  have i2 := wr_I64 (g := g2) h2 hb
  have hc := cS_ok (g1 := g1) h1 h2
  have j1 := wr_I64 (g := cG s1 g1 s2 g2) hc i1
  have j2 := wr_I64 (g := cG s1 g1 s2 g2) hc i2
  go_enter Tryd.func29, Tryd.ntmps29
  go_wp2_with (first
    | (go_at_call 51; refine (both_c _ _ _ _ _ h1 h2).mono ?_; rintro e w' ⟨rfl, hq⟩; (first | obtain ⟨p, rfl⟩ := regrown2 hq | obtain ⟨p, rfl⟩ := regrown hq); clear hq)
    | (go_at_call 47; (first | (with_reducible refine (rWrapped_c s1 g1 a _ h1).mono ?_) | (with_reducible refine (rWrapped_c s2 g2 b _ h2).mono ?_) | (with_reducible refine (rWrapped_c _ _ _ _ hc).mono ?_)); rintro e w' ⟨rfl, hq⟩; (first | obtain ⟨p, rfl⟩ := regrown2 hq | obtain ⟨p, rfl⟩ := regrown hq); clear hq)
    | (go_at_call 52; refine (rCommon_c _ _ _ _ _ (hr.below (by repeat (first | exact Below.refl _ _ | apply b_alloc | apply b_reg))) h1 h2).mono ?_; rintro e w' ⟨rfl, hq⟩; (first | obtain ⟨p, rfl⟩ := regrown2 hq | obtain ⟨p, rfl⟩ := regrown hq); clear hq)
    | (go_at_call 62; refine (rOrder_c _ _ _ _ _ j1 j2).mono ?_; rintro e w' ⟨rfl, hq⟩; (first | obtain ⟨p, rfl⟩ := regrown2 hq | obtain ⟨p, rfl⟩ := regrown hq); clear hq)
    | (go_at_call 54; refine (rtruth_c _ _ (hr.below (by repeat (first | exact Below.refl _ _ | apply b_alloc | apply b_reg)))).mono ?_; rintro e w' ⟨rfl, hq⟩; (first | obtain ⟨p, rfl⟩ := regrown2 hq | obtain ⟨p, rfl⟩ := regrown hq); clear hq))
  go_returns
  exact ⟨rfl, by repeat (first | exact Below.refl _ _ | apply b_alloc | apply b_reg)⟩
set_option maxHeartbeats 4000000 in
set_option maxRecDepth 100000 in
theorem rbin_14 (s1 : Int) (g1 : Bool) (a s2 : Int) (g2 : Bool) (b : Int) (w : World) (hr : PromAt w) (h1 : vB s1 = true) (h2 : vB s2 = true) (ha : I64 a) (hb : I64 b) : Calls Tryd.prog 29 #[.int .i64 14, .agg #[.int .i64 s1, .bool g1], .int .i64 a, .agg #[.int .i64 s2, .bool g2], .int .i64 b] w fun e w' => e = .returned (.agg #[.int .i64 4, .bool true, .int .i64 (tV (relV 3 (ordV (cG s1 g1 s2 g2) (wr (cS s1 g1 s2) (cG s1 g1 s2 g2) (wr s1 g1 a)) (wr (cS s1 g1 s2) (cG s1 g1 s2 g2) (wr s2 g2 b))))), .int .i64 0]) ∧ Below w.heap.size w w' := by
  have i1 := wr_I64 (g := g1) h1 ha
  have i2 := wr_I64 (g := g2) h2 hb
  have hc := cS_ok (g1 := g1) h1 h2
  have j1 := wr_I64 (g := cG s1 g1 s2 g2) hc i1
  have j2 := wr_I64 (g := cG s1 g1 s2 g2) hc i2
  go_enter Tryd.func29, Tryd.ntmps29
  go_wp2_with (first
    | (go_at_call 51; refine (both_c _ _ _ _ _ h1 h2).mono ?_; rintro e w' ⟨rfl, hq⟩; (first | obtain ⟨p, rfl⟩ := regrown2 hq | obtain ⟨p, rfl⟩ := regrown hq); clear hq)
    | (go_at_call 47; (first | (with_reducible refine (rWrapped_c s1 g1 a _ h1).mono ?_) | (with_reducible refine (rWrapped_c s2 g2 b _ h2).mono ?_) | (with_reducible refine (rWrapped_c _ _ _ _ hc).mono ?_)); rintro e w' ⟨rfl, hq⟩; (first | obtain ⟨p, rfl⟩ := regrown2 hq | obtain ⟨p, rfl⟩ := regrown hq); clear hq)
    | (go_at_call 52; refine (rCommon_c _ _ _ _ _ (hr.below (by repeat (first | exact Below.refl _ _ | apply b_alloc | apply b_reg))) h1 h2).mono ?_; rintro e w' ⟨rfl, hq⟩; (first | obtain ⟨p, rfl⟩ := regrown2 hq | obtain ⟨p, rfl⟩ := regrown hq); clear hq)
    | (go_at_call 62; refine (rOrder_c _ _ _ _ _ j1 j2).mono ?_; rintro e w' ⟨rfl, hq⟩; (first | obtain ⟨p, rfl⟩ := regrown2 hq | obtain ⟨p, rfl⟩ := regrown hq); clear hq)
    | (go_at_call 54; refine (rtruth_c _ _ (hr.below (by repeat (first | exact Below.refl _ _ | apply b_alloc | apply b_reg)))).mono ?_; rintro e w' ⟨rfl, hq⟩; (first | obtain ⟨p, rfl⟩ := regrown2 hq | obtain ⟨p, rfl⟩ := regrown hq); clear hq))
  go_returns
  exact ⟨rfl, by repeat (first | exact Below.refl _ _ | apply b_alloc | apply b_reg)⟩
set_option maxHeartbeats 4000000 in
set_option maxRecDepth 100000 in
theorem rbin_15 (s1 : Int) (g1 : Bool) (a s2 : Int) (g2 : Bool) (b : Int) (w : World) (hr : PromAt w) (h1 : vB s1 = true) (h2 : vB s2 = true) (ha : I64 a) (hb : I64 b) : Calls Tryd.prog 29 #[.int .i64 15, .agg #[.int .i64 s1, .bool g1], .int .i64 a, .agg #[.int .i64 s2, .bool g2], .int .i64 b] w fun e w' => e = .returned (.agg #[.int .i64 4, .bool true, .int .i64 (tV (relV 4 (ordV (cG s1 g1 s2 g2) (wr (cS s1 g1 s2) (cG s1 g1 s2 g2) (wr s1 g1 a)) (wr (cS s1 g1 s2) (cG s1 g1 s2 g2) (wr s2 g2 b))))), .int .i64 0]) ∧ Below w.heap.size w w' := by
  have i1 := wr_I64 (g := g1) h1 ha
  have i2 := wr_I64 (g := g2) h2 hb
  have hc := cS_ok (g1 := g1) h1 h2
  have j1 := wr_I64 (g := cG s1 g1 s2 g2) hc i1
  have j2 := wr_I64 (g := cG s1 g1 s2 g2) hc i2
  go_enter Tryd.func29, Tryd.ntmps29
  go_wp2_with (first
    | (go_at_call 51; refine (both_c _ _ _ _ _ h1 h2).mono ?_; rintro e w' ⟨rfl, hq⟩; (first | obtain ⟨p, rfl⟩ := regrown2 hq | obtain ⟨p, rfl⟩ := regrown hq); clear hq)
    | (go_at_call 47; (first | (with_reducible refine (rWrapped_c s1 g1 a _ h1).mono ?_) | (with_reducible refine (rWrapped_c s2 g2 b _ h2).mono ?_) | (with_reducible refine (rWrapped_c _ _ _ _ hc).mono ?_)); rintro e w' ⟨rfl, hq⟩; (first | obtain ⟨p, rfl⟩ := regrown2 hq | obtain ⟨p, rfl⟩ := regrown hq); clear hq)
    | (go_at_call 52; refine (rCommon_c _ _ _ _ _ (hr.below (by repeat (first | exact Below.refl _ _ | apply b_alloc | apply b_reg))) h1 h2).mono ?_; rintro e w' ⟨rfl, hq⟩; (first | obtain ⟨p, rfl⟩ := regrown2 hq | obtain ⟨p, rfl⟩ := regrown hq); clear hq)
    | (go_at_call 62; refine (rOrder_c _ _ _ _ _ j1 j2).mono ?_; rintro e w' ⟨rfl, hq⟩; (first | obtain ⟨p, rfl⟩ := regrown2 hq | obtain ⟨p, rfl⟩ := regrown hq); clear hq)
    | (go_at_call 54; refine (rtruth_c _ _ (hr.below (by repeat (first | exact Below.refl _ _ | apply b_alloc | apply b_reg)))).mono ?_; rintro e w' ⟨rfl, hq⟩; (first | obtain ⟨p, rfl⟩ := regrown2 hq | obtain ⟨p, rfl⟩ := regrown hq); clear hq))
  go_returns
  exact ⟨rfl, by repeat (first | exact Below.refl _ _ | apply b_alloc | apply b_reg)⟩
set_option maxHeartbeats 4000000 in
set_option maxRecDepth 100000 in
theorem rbin_16 (s1 : Int) (g1 : Bool) (a s2 : Int) (g2 : Bool) (b : Int) (w : World) (hr : PromAt w) (h1 : vB s1 = true) (h2 : vB s2 = true) (ha : I64 a) (hb : I64 b) : Calls Tryd.prog 29 #[.int .i64 16, .agg #[.int .i64 s1, .bool g1], .int .i64 a, .agg #[.int .i64 s2, .bool g2], .int .i64 b] w fun e w' => e = .returned (.agg #[.int .i64 4, .bool true, .int .i64 (tV (relV 5 (ordV (cG s1 g1 s2 g2) (wr (cS s1 g1 s2) (cG s1 g1 s2 g2) (wr s1 g1 a)) (wr (cS s1 g1 s2) (cG s1 g1 s2 g2) (wr s2 g2 b))))), .int .i64 0]) ∧ Below w.heap.size w w' := by
  have i1 := wr_I64 (g := g1) h1 ha
  have i2 := wr_I64 (g := g2) h2 hb
  have hc := cS_ok (g1 := g1) h1 h2
  have j1 := wr_I64 (g := cG s1 g1 s2 g2) hc i1
  have j2 := wr_I64 (g := cG s1 g1 s2 g2) hc i2
  go_enter Tryd.func29, Tryd.ntmps29
  go_wp2_with (first
    | (go_at_call 51; refine (both_c _ _ _ _ _ h1 h2).mono ?_; rintro e w' ⟨rfl, hq⟩; (first | obtain ⟨p, rfl⟩ := regrown2 hq | obtain ⟨p, rfl⟩ := regrown hq); clear hq)
    | (go_at_call 47; (first | (with_reducible refine (rWrapped_c s1 g1 a _ h1).mono ?_) | (with_reducible refine (rWrapped_c s2 g2 b _ h2).mono ?_) | (with_reducible refine (rWrapped_c _ _ _ _ hc).mono ?_)); rintro e w' ⟨rfl, hq⟩; (first | obtain ⟨p, rfl⟩ := regrown2 hq | obtain ⟨p, rfl⟩ := regrown hq); clear hq)
    | (go_at_call 52; refine (rCommon_c _ _ _ _ _ (hr.below (by repeat (first | exact Below.refl _ _ | apply b_alloc | apply b_reg))) h1 h2).mono ?_; rintro e w' ⟨rfl, hq⟩; (first | obtain ⟨p, rfl⟩ := regrown2 hq | obtain ⟨p, rfl⟩ := regrown hq); clear hq)
    | (go_at_call 62; refine (rOrder_c _ _ _ _ _ j1 j2).mono ?_; rintro e w' ⟨rfl, hq⟩; (first | obtain ⟨p, rfl⟩ := regrown2 hq | obtain ⟨p, rfl⟩ := regrown hq); clear hq)
    | (go_at_call 54; refine (rtruth_c _ _ (hr.below (by repeat (first | exact Below.refl _ _ | apply b_alloc | apply b_reg)))).mono ?_; rintro e w' ⟨rfl, hq⟩; (first | obtain ⟨p, rfl⟩ := regrown2 hq | obtain ⟨p, rfl⟩ := regrown hq); clear hq))
  go_returns
  exact ⟨rfl, by repeat (first | exact Below.refl _ _ | apply b_alloc | apply b_reg)⟩
end Go.Proofs.YtfgmfkiknogdeaaDoor
