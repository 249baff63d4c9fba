/- WHAT IS PROVED: the reference's Wrapped, Wrap, Bytes and FromBytes of layer 1, on valid sizes. CONDITIONS: a value is an int64; bytes are numbers from 0 to 255. -/
import Derived.Test.YtdbcbmdekdfdoaaRg
import Derived.Test.YtdbcbmdekdfdoaaAr
namespace Go.Proofs.Ytdbcbmdekdfdoaa
open Go Go.RowKit Go.QrBits Go.QrMem

theorem own_form {w : World} {B e n : Nat} {v : Value} {xs : List Value} (h : w.ownsRow B e 1 v (n + 1) xs) : ∃ g cap, v = .slice (some ⟨g, 0, none⟩) (n + 1) cap ∧ B ≤ g := by
  obtain ⟨_, (⟨_, h0⟩ | ⟨g, cap, cur, rfl, hb, _⟩)⟩ := h
  · cases h0
  · exact ⟨g, cap, rfl, hb⟩
set_option maxHeartbeats 2000000 in
theorem rWrapped_c (s : Int) (g : Bool) (v : Int) (w : World) (h : vB s = true) : Calls Try.prog 68 #[.agg #[.int .i64 s, .bool g], .int .i64 v] w fun e w' => e = .returned (.int .i64 (wr s g v)) ∧ Below w.heap.size w w' := by
  rcases vB_cases h with rfl | rfl | rfl | rfl
  all_goals clear h
  all_goals cases g
  all_goals
    go_enter Try.func68, Try.ntmps68
    go_wp2
    go_ret
    exact ⟨by first | exact rfl | exact ret_int (w64_i8 v) | exact ret_int (w64_i16 v) | exact ret_int (w64_u16 v) | exact ret_int (w64_w32 v), by go_grown⟩
theorem nat_mask8' (n : Nat) : n &&& 255 = n % 256 := Nat.and_two_pow_sub_one_eq_mod n 8
theorem and_255 (x : Int) : bits .and .i64 x 255 = x % 256 := by
  refine I64_eq (bits_I64 _ _ _) (by unfold I64; omega) ?_
  rw [and_mod (by omega)]
  have e : rs 64 255 = 255 := rfl
  have h3 : rs 64 x % 2 ^ 8 = rs 8 x := rs_mod (k := 8) (m := 64) (by omega) x
  rw [e, nat_mask8']
  have h4 : rs 64 x % 256 = rs 8 x := h3
  rw [h4, rs_cast]
  show x % 256 = x % 256 % 18446744073709551616
  omega
theorem byte_step {x : Int} (hx : I64 x) : wrap64 ((wrap64 (x - bits .and .i64 x 255)).tdiv 256) = x / 256 := by
  rw [and_255]
  unfold I64 at hx
  have e : wrap64 (x - x % 256) = x - x % 256 := w64_in (by unfold I64; omega)
  rw [e]
  have h2 : x - x % 256 = 256 * (x / 256) := by omega
  rw [h2, Int.mul_tdiv_cancel_left _ (by omega)]
  exact w64_in (by unfold I64; omega)
set_option maxHeartbeats 4000000 in
set_option maxRecDepth 100000 in
theorem rbytes_c (n : Nat) (g : Bool) (v : Int) (w : World) (h : vB (n : Int) = true) (hv : I64 v) : Calls Try.prog 65 #[.agg #[.int .i64 n, .bool g], .int .i64 v] w fun e w' => ∃ (B cap : Nat), e = .returned (.tuple #[.slice (some ⟨B, 0, none⟩) n cap, .int .i64 0]) ∧ w'.ownsRow w.heap.size 5 1 (.slice (some ⟨B, 0, none⟩) n cap) n (bV (byL n v)) ∧ Below w.heap.size w w' := by
  have hn8 : n ≤ 8 ∧ 1 ≤ n := by rcases size_cases h with e | e | e | e <;> omega
  obtain ⟨hn8, hn1⟩ := hn8
  have HH := Lib.hid h
  clear h
  have HK := (Kw.start w).box (vs := [.int .i64 n, .bool g]) (t := 64)
  go_enter Try.func65, Try.ntmps65
  go_wp2_with fail
  refine (rcheck_y _ _ _ HH.out).mono ?_
  rintro e w1 ⟨rfl, hq⟩
  replace HK := HK.below hq
  clear hq
  have A0 := HK.get 0 0 rfl rfl
  have A1 := HK.get 0 1 rfl rfl
  have As := HK.lt 0 rfl
  go_wp2_with fail
  clear A0 A1 As
  go_loopw [1, 7, 8] (fun v1 v7 v8 wr => ∃ (k : Nat) (u : Int) (xs : List Int) (w5 : World), w5 = wr ∧ k ≤ n ∧ v8 = .int .i64 k ∧ v1 = .int .i64 u ∧ Hid (I64 u) ∧ Hid (xs ++ byL (n - k) u = byL n v ∧ xs.length = k) ∧ Hid (w5.ownsRow (w.heap.size + 1) 5 1 v7 k (bV xs)) ∧ Kw [(w.heap.size, [.int .i64 n, .bool g], 64)] w w5) (fun _ _ v8 _ => n - (intOf v8).toNat)
  case atStart => exact ⟨0, v, [], _, rfl, by omega, rfl, rfl, hv, ⟨by simp, rfl⟩, World.ownsRow_nil _ _ _ _, HK⟩
  case round =>
  clear HK hv
  obtain ⟨k, u, xs, w5, hw5, hk, hv8, hv1, hu, hx, hown, HK⟩ := hrel
  subst hw5; subst hv8; subst hv1
  have A0 := HK.get 0 0 rfl rfl
  have A1 := HK.get 0 1 rfl rfl
  have As := HK.lt 0 rfl
  by_cases hlt : (k : Int) < n
  · have hlt' : k < n := by omega
    have e255 := and_255 u
    have HU := Lib.hid (byte_step hu.out)
    rw [and_255] at HU
    have hsz := HK.size
    have HKh := Lib.hid HK
    clear HK
    go_wp2_with (at_builtin; refine wpList_app1 rfl _ _ rfl (w.heap.size + 1) _ k xs rfl (hown.out.alloc _) w5.heap.size (u % 256) rfl (by simp [go_sem]) (by omega) HKh.out.alloc (by omega) (by simp; omega) (by intro f hf; simp only [List.mem_cons, List.not_mem_nil, or_false] at hf; subst hf; dsimp only; omega) ?_; intro v' w6 ho6 HK6; have HO6 := Lib.hid ho6; clear ho6 A0 A1 As; have A0 := HK6.get 0 0 rfl rfl; have A1 := HK6.get 0 1 rfl rfl)
    go_roundw
    case rel =>
      obtain ⟨hx1, hx2⟩ := hx.out
      have hsub : n - k = (n - (k + 1)) + 1 := by omega
      have hu2 := hu.out
      refine ⟨k + 1, u / 256, xs ++ [u % 256], _, rfl, by omega, by go_num, congrArg (Value.int .i64) HU.out, (by unfold I64 at hu2; show I64 _; unfold I64; omega), ⟨?_, ?_⟩, HO6.out, HK6⟩
      · rw [← hx1, hsub, byL, List.append_assoc]; rfl
      · simp [hx2]
    case measure => simp [intOf]; omega
  · have hk2 : k = n := by omega
    subst hk2
    obtain ⟨hx1, hx2⟩ := hx.out
    have hxs : xs = byL k v := by rw [← hx1]; simp [byL]
    clear hx hu
    obtain ⟨k', rfl⟩ : ∃ k', k = k' + 1 := ⟨k - 1, by omega⟩
    obtain ⟨g2, cap2, rfl, hg2⟩ := own_form hown.out
    have HX := Lib.hid hxs
    clear hxs hx1 hx2
    go_wp2
    go_ret2
    refine ⟨g2, cap2, rfl, ?_, HK.base⟩
    have := hown.out
    rw [HX.out] at this
    exact ownsRow_base this (by omega)
theorem ret2_wr {s : Int} {g : Bool} {x y : Int} (h : x = y) : Ending.returned (.tuple #[.int .i64 (wr s g x), .int .i64 0]) = .returned (.tuple #[.int .i64 (wr s g y), .int .i64 0]) := by rw [h]
set_option maxHeartbeats 4000000 in
set_option maxRecDepth 100000 in
theorem rfrom_1 (g : Bool) (b cap : Nat) (c0 : Int) (w : World) (hb : b < w.heap.size) (h0 : w.cell? ⟨b, 0, none⟩ = some (.int .u8 c0)) (d0 : 0 ≤ c0 ∧ c0 ≤ 255) :
    Calls Try.prog 43 #[.agg #[.int .i64 1, .bool g], .slice (some ⟨b, 0, none⟩) 1 cap] w fun e w' => e = .returned (.tuple #[.int .i64 (wr 1 g (wrap64 (fbS [c0]))), .int .i64 0]) ∧ Below w.heap.size w w' := by
  obtain ⟨a0, e0⟩ := d0
  have HK := (Kw.start w).box (vs := [.int .i64 1, .bool g]) (t := 64)
  go_enter Try.func43, Try.ntmps43
  go_wp2_with fail
  refine (rcheck_y 1 g _ rfl).mono ?_
  rintro e w1 ⟨rfl, hq⟩
  replace HK := HK.below hq
  have hq2 := Below.tail (b_alloc (Below.refl _ w)) hq
  have k0 := (below_cell hq2 b 0 hb).trans h0
  have hb1 : b < w1.heap.size := Nat.lt_of_lt_of_le hb hq2.size
  clear h0 hq
  have A0 := HK.get 0 0 rfl rfl
  have A1 := HK.get 0 1 rfl rfl
  have hKB := HK.base
  clear HK
  go_wp2_with fail
  refine wp_loop_rounds 2 ?_
  repeat any_goals (rw [rounds_succ]; go_wp2_with (go_at_call 68; refine (rWrapped_c 1 g _ _ rfl).mono ?_; rintro e w' ⟨rfl, hq⟩))
  go_ret2
  exact ⟨ret2_wr (by simp only [fbS]; unfold wrap64; omega), Below.tail hKB hq⟩
set_option maxHeartbeats 4000000 in
set_option maxRecDepth 100000 in
theorem rfrom_2 (g : Bool) (b cap : Nat) (c0 c1 : Int) (w : World) (hb : b < w.heap.size) (h0 : w.cell? ⟨b, 0, none⟩ = some (.int .u8 c0)) (d0 : 0 ≤ c0 ∧ c0 ≤ 255) (h1 : w.cell? ⟨b, 1, none⟩ = some (.int .u8 c1)) (d1 : 0 ≤ c1 ∧ c1 ≤ 255) :
    Calls Try.prog 43 #[.agg #[.int .i64 2, .bool g], .slice (some ⟨b, 0, none⟩) 2 cap] w fun e w' => e = .returned (.tuple #[.int .i64 (wr 2 g (wrap64 (fbS [c0, c1]))), .int .i64 0]) ∧ Below w.heap.size w w' := by
  obtain ⟨a0, e0⟩ := d0
  obtain ⟨a1, e1⟩ := d1
  have HK := (Kw.start w).box (vs := [.int .i64 2, .bool g]) (t := 64)
  go_enter Try.func43, Try.ntmps43
  go_wp2_with fail
  refine (rcheck_y 2 g _ rfl).mono ?_
  rintro e w1 ⟨rfl, hq⟩
  replace HK := HK.below hq
  have hq2 := Below.tail (b_alloc (Below.refl _ w)) hq
  have k0 := (below_cell hq2 b 0 hb).trans h0
  have k1 := (below_cell hq2 b 1 hb).trans h1
  have hb1 : b < w1.heap.size := Nat.lt_of_lt_of_le hb hq2.size
  clear h0 h1 hq
  have A0 := HK.get 0 0 rfl rfl
  have A1 := HK.get 0 1 rfl rfl
  have hKB := HK.base
  clear HK
  go_wp2_with fail
  refine wp_loop_rounds 3 ?_
  repeat any_goals (rw [rounds_succ]; go_wp2_with (go_at_call 68; refine (rWrapped_c 2 g _ _ rfl).mono ?_; rintro e w' ⟨rfl, hq⟩))
  go_ret2
  exact ⟨ret2_wr (by simp only [fbS]; unfold wrap64; omega), Below.tail hKB hq⟩
set_option maxHeartbeats 4000000 in
set_option maxRecDepth 100000 in
theorem rfrom_4 (g : Bool) (b cap : Nat) (c0 c1 c2 c3 : Int) (w : World) (hb : b < w.heap.size) (h0 : w.cell? ⟨b, 0, none⟩ = some (.int .u8 c0)) (d0 : 0 ≤ c0 ∧ c0 ≤ 255) (h1 : w.cell? ⟨b, 1, none⟩ = some (.int .u8 c1)) (d1 : 0 ≤ c1 ∧ c1 ≤ 255) (h2 : w.cell? ⟨b, 2, none⟩ = some (.int .u8 c2)) (d2 : 0 ≤ c2 ∧ c2 ≤ 255) (h3 : w.cell? ⟨b, 3, none⟩ = some (.int .u8 c3)) (d3 : 0 ≤ c3 ∧ c3 ≤ 255) :
    Calls Try.prog 43 #[.agg #[.int .i64 4, .bool g], .slice (some ⟨b, 0, none⟩) 4 cap] w fun e w' => e = .returned (.tuple #[.int .i64 (wr 4 g (wrap64 (fbS [c0, c1, c2, c3]))), .int .i64 0]) ∧ Below w.heap.size w w' := by
  obtain ⟨a0, e0⟩ := d0
  obtain ⟨a1, e1⟩ := d1
  obtain ⟨a2, e2⟩ := d2
  obtain ⟨a3, e3⟩ := d3
  have HK := (Kw.start w).box (vs := [.int .i64 4, .bool g]) (t := 64)
  go_enter Try.func43, Try.ntmps43
  go_wp2_with fail
  refine (rcheck_y 4 g _ rfl).mono ?_
  rintro e w1 ⟨rfl, hq⟩
  replace HK := HK.below hq
  have hq2 := Below.tail (b_alloc (Below.refl _ w)) hq
  have k0 := (below_cell hq2 b 0 hb).trans h0
  have k1 := (below_cell hq2 b 1 hb).trans h1
  have k2 := (below_cell hq2 b 2 hb).trans h2
  have k3 := (below_cell hq2 b 3 hb).trans h3
  have hb1 : b < w1.heap.size := Nat.lt_of_lt_of_le hb hq2.size
  clear h0 h1 h2 h3 hq
  have A0 := HK.get 0 0 rfl rfl
  have A1 := HK.get 0 1 rfl rfl
  have hKB := HK.base
  clear HK
  go_wp2_with fail
  refine wp_loop_rounds 5 ?_
  repeat any_goals (rw [rounds_succ]; go_wp2_with (go_at_call 68; refine (rWrapped_c 4 g _ _ rfl).mono ?_; rintro e w' ⟨rfl, hq⟩))
  go_ret2
  exact ⟨ret2_wr (by simp only [fbS]; unfold wrap64; omega), Below.tail hKB hq⟩
set_option maxHeartbeats 4000000 in
set_option maxRecDepth 100000 in
theorem rfrom_8 (g : Bool) (b cap : Nat) (c0 c1 c2 c3 c4 c5 c6 c7 : Int) (w : World) (hb : b < w.heap.size) (h0 : w.cell? ⟨b, 0, none⟩ = some (.int .u8 c0)) (d0 : 0 ≤ c0 ∧ c0 ≤ 255) (h1 : w.cell? ⟨b, 1, none⟩ = some (.int .u8 c1)) (d1 : 0 ≤ c1 ∧ c1 ≤ 255) (h2 : w.cell? ⟨b, 2, none⟩ = some (.int .u8 c2)) (d2 : 0 ≤ c2 ∧ c2 ≤ 255) (h3 : w.cell? ⟨b, 3, none⟩ = some (.int .u8 c3)) (d3 : 0 ≤ c3 ∧ c3 ≤ 255) (h4 : w.cell? ⟨b, 4, none⟩ = some (.int .u8 c4)) (d4 : 0 ≤ c4 ∧ c4 ≤ 255) (h5 : w.cell? ⟨b, 5, none⟩ = some (.int .u8 c5)) (d5 : 0 ≤ c5 ∧ c5 ≤ 255) (h6 : w.cell? ⟨b, 6, none⟩ = some (.int .u8 c6)) (d6 : 0 ≤ c6 ∧ c6 ≤ 255) (h7 : w.cell? ⟨b, 7, none⟩ = some (.int .u8 c7)) (d7 : 0 ≤ c7 ∧ c7 ≤ 255) :
    Calls Try.prog 43 #[.agg #[.int .i64 8, .bool g], .slice (some ⟨b, 0, none⟩) 8 cap] w fun e w' => e = .returned (.tuple #[.int .i64 (wr 8 g (wrap64 (fbS [c0, c1, c2, c3, c4, c5, c6, c7]))), .int .i64 0]) ∧ Below w.heap.size w w' := by
  obtain ⟨a0, e0⟩ := d0
  obtain ⟨a1, e1⟩ := d1
  obtain ⟨a2, e2⟩ := d2
  obtain ⟨a3, e3⟩ := d3
  obtain ⟨a4, e4⟩ := d4
  obtain ⟨a5, e5⟩ := d5
  obtain ⟨a6, e6⟩ := d6
  obtain ⟨a7, e7⟩ := d7
  have HK := (Kw.start w).box (vs := [.int .i64 8, .bool g]) (t := 64)
  go_enter Try.func43, Try.ntmps43
  go_wp2_with fail
  refine (rcheck_y 8 g _ rfl).mono ?_
  rintro e w1 ⟨rfl, hq⟩
  replace HK := HK.below hq
  have hq2 := Below.tail (b_alloc (Below.refl _ w)) hq
  have k0 := (below_cell hq2 b 0 hb).trans h0
  have k1 := (below_cell hq2 b 1 hb).trans h1
  have k2 := (below_cell hq2 b 2 hb).trans h2
  have k3 := (below_cell hq2 b 3 hb).trans h3
  have k4 := (below_cell hq2 b 4 hb).trans h4
  have k5 := (below_cell hq2 b 5 hb).trans h5
  have k6 := (below_cell hq2 b 6 hb).trans h6
  have k7 := (below_cell hq2 b 7 hb).trans h7
  have hb1 : b < w1.heap.size := Nat.lt_of_lt_of_le hb hq2.size
  clear h0 h1 h2 h3 h4 h5 h6 h7 hq
  have A0 := HK.get 0 0 rfl rfl
  have A1 := HK.get 0 1 rfl rfl
  have hKB := HK.base
  clear HK
  go_wp2_with fail
  refine wp_loop_rounds 9 ?_
  repeat any_goals (rw [rounds_succ]; go_wp2_with (go_at_call 68; refine (rWrapped_c 8 g _ _ rfl).mono ?_; rintro e w' ⟨rfl, hq⟩))
  go_ret2
  exact ⟨ret2_wr (by simp only [fbS]; unfold wrap64; omega), Below.tail hKB hq⟩
theorem rfrom_c (n : Nat) (g : Bool) (b cap : Nat) (cs : List Int) (w : World) (h : vB (n : Int) = true) (hl : cs.length = n) (hb : BytesAt w b cs) :
    Calls Try.prog 43 #[.agg #[.int .i64 n, .bool g], .slice (some ⟨b, 0, none⟩) n cap] w fun e w' => e = .returned (.tuple #[.int .i64 (wr n g (wrap64 (fbS cs))), .int .i64 0]) ∧ Below w.heap.size w w' := by
  obtain ⟨hlt, hc, ok⟩ := hb
  rcases size_cases h with rfl | rfl | rfl | rfl
  · match cs, hl with
    | [c0], _ =>
      exact rfrom_1 g b cap c0 w hlt (hc 0 c0 rfl) (ok c0 (by simp))
  · match cs, hl with
    | [c0, c1], _ =>
      exact rfrom_2 g b cap c0 c1 w hlt (hc 0 c0 rfl) (ok c0 (by simp)) (hc 1 c1 rfl) (ok c1 (by simp))
  · match cs, hl with
    | [c0, c1, c2, c3], _ =>
      exact rfrom_4 g b cap c0 c1 c2 c3 w hlt (hc 0 c0 rfl) (ok c0 (by simp)) (hc 1 c1 rfl) (ok c1 (by simp)) (hc 2 c2 rfl) (ok c2 (by simp)) (hc 3 c3 rfl) (ok c3 (by simp))
  · match cs, hl with
    | [c0, c1, c2, c3, c4, c5, c6, c7], _ =>
      exact rfrom_8 g b cap c0 c1 c2 c3 c4 c5 c6 c7 w hlt (hc 0 c0 rfl) (ok c0 (by simp)) (hc 1 c1 rfl) (ok c1 (by simp)) (hc 2 c2 rfl) (ok c2 (by simp)) (hc 3 c3 rfl) (ok c3 (by simp)) (hc 4 c4 rfl) (ok c4 (by simp)) (hc 5 c5 rfl) (ok c5 (by simp)) (hc 6 c6 rfl) (ok c6 (by simp)) (hc 7 c7 rfl) (ok c7 (by simp))
end Go.Proofs.Ytdbcbmdekdfdoaa
