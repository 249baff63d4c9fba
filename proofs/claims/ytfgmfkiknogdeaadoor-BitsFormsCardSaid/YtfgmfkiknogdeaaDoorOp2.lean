/- WHAT IS PROVED: the reference's shifted. CONDITIONS: promoted types; int64 operands. -/
import Derived.Test.YtfgmfkiknogdeaaDoorOp1
import Derived.Test.YtfgmfkiknogdeaaDoorKn
namespace Go.Proofs.YtfgmfkiknogdeaaDoor
open Go Go.RowKit Go.QrBits
attribute [local go_sem] reg_cell reg_frozen reg_setCell reg_lt reg_lt_add reg_drew reg_of_drew

theorem shr_u (x : Int) : wrap64 (IntKind.u64.wrap ((IntKind.u64.wrap x).tdiv 2)) = wrap64 (uN x / 2) := by
  have h := uN_bd x
  rw [u64_uN, u64_uN, Int.tdiv_eq_ediv_of_nonneg h.1, uN_uN _ (by omega) (by omega)]
set_option maxHeartbeats 2000000 in
set_option maxRecDepth 20000 in
theorem rsh_9_4t0 (v b r : Int) (w : World) (hv : I64 v) (hr : b.tmod 32 = r) (h0 : ¬ r < 0) (h1 : r < 32) (F : Nat → Int) (hF0 : v = F 0) (hFi : ∀ i, I64 (F i)) (hFs : ∀ i, wr 4 true (wrap64 (F i + F i)) = F (i + 1)) : Calls Tryd.prog 61 #[.int .i64 9, .agg #[.int .i64 4, .bool true], .int .i64 v, .int .i64 b] w fun e w' => e = .returned (.int .i64 (F r.toNat)) ∧ Below w.heap.size w w' := by
  obtain ⟨v0, v1⟩ := hv
  have HK := Known.start w
  have HF0 := Lib.hid hF0
  clear hF0
  have HFi : Hid (∀ i, I64 (F i)) := hFi
  have HFs : Hid (∀ i, wr 4 true (wrap64 (F i + F i)) = F (i + 1)) := hFs
  clear hFi hFs
  have hN0 : 0 ≤ r := by omega
  go_enter Tryd.func61, Tryd.ntmps61
  go_wp2
  replace HK := HK.box (vs := [.int .i64 4, .bool true]) (t := 23)
  go_loopw [2, 10] (fun v2 v10 wr => ∃ (i : Nat) (w5 : World), w5 = wr ∧ (i : Int) ≤ r ∧ v10 = .int .i64 i ∧ v2 = .int .i64 (F i) ∧ Known [(w.heap.size, [.int .i64 4, .bool true])] w w5) (fun _ v10 _ => r.toNat - (intOf v10).toNat)
  case atStart => exact ⟨0, _, rfl, by omega, rfl, by rw [HF0.out], HK⟩
  case round =>
  clear HK
  obtain ⟨i, w5, hw, hi, hv10, hv2, HK⟩ := hrel
  subst hw; subst hv10; subst hv2
  have A0 := HK.get 0 0 rfl rfl
  have A1 := HK.get 0 1 rfl rfl
  have As := HK.lt 0 rfl
  have hs := Lib.hid (HFs.out i)
  have hx := HFi.out i
  have hiN : Hid (r.toNat = r.toNat) := rfl
  by_cases hlt : (i : Int) < r
  · generalize F i = x at *
    obtain ⟨x0, x1⟩ := hx
    go_wp2_with (go_at_call 47; refine (rWrapped_c 4 true _ _ rfl).mono ?_; rintro e w' ⟨rfl, hq⟩)
    go_roundw
    case rel => exact ⟨i + 1, _, rfl, by omega, by go_num, congrArg (Value.int .i64) (hs.out), HK.below hq⟩
    case measure => simp [intOf]; omega
  · have hk : Hid (i = r.toNat) := (by omega : i = r.toNat)
    generalize hX : F i = x at *
    have HX := Lib.hid hX
    clear hX
    go_wp2
    go_ret
    exact ⟨ret_int (by rw [← hk.out, HX.out]), HK.base⟩
set_option maxHeartbeats 2000000 in
set_option maxRecDepth 20000 in
theorem rsh_9_4t1 (v b r : Int) (w : World) (hv : I64 v) (hr : b.tmod 32 = r) (h0 : r < 0) (hl : -32 < r) (F : Nat → Int) (hF0 : v = F 0) (hFi : ∀ i, I64 (F i)) (hFs : ∀ i, wr 4 true (wrap64 (F i + F i)) = F (i + 1)) : Calls Tryd.prog 61 #[.int .i64 9, .agg #[.int .i64 4, .bool true], .int .i64 v, .int .i64 b] w fun e w' => e = .returned (.int .i64 (F (r + 32).toNat)) ∧ Below w.heap.size w w' := by
  obtain ⟨v0, v1⟩ := hv
  have HK := Known.start w
  have HF0 := Lib.hid hF0
  clear hF0
  have HFi : Hid (∀ i, I64 (F i)) := hFi
  have HFs : Hid (∀ i, wr 4 true (wrap64 (F i + F i)) = F (i + 1)) := hFs
  clear hFi hFs
  have hN0 : 0 ≤ (r + 32) := by omega
  go_enter Tryd.func61, Tryd.ntmps61
  go_wp2
  replace HK := HK.box (vs := [.int .i64 4, .bool true]) (t := 23)
  go_loopw [2, 10] (fun v2 v10 wr => ∃ (i : Nat) (w5 : World), w5 = wr ∧ (i : Int) ≤ (r + 32) ∧ v10 = .int .i64 i ∧ v2 = .int .i64 (F i) ∧ Known [(w.heap.size, [.int .i64 4, .bool true])] w w5) (fun _ v10 _ => (r + 32).toNat - (intOf v10).toNat)
  case atStart => exact ⟨0, _, rfl, by omega, rfl, by rw [HF0.out], HK⟩
  case round =>
  clear HK
  obtain ⟨i, w5, hw, hi, hv10, hv2, HK⟩ := hrel
  subst hw; subst hv10; subst hv2
  have A0 := HK.get 0 0 rfl rfl
  have A1 := HK.get 0 1 rfl rfl
  have As := HK.lt 0 rfl
  have hs := Lib.hid (HFs.out i)
  have hx := HFi.out i
  have hiN : Hid ((r + 32).toNat = (r + 32).toNat) := rfl
  by_cases hlt : (i : Int) < (r + 32)
  · generalize F i = x at *
    obtain ⟨x0, x1⟩ := hx
    go_wp2_with (go_at_call 47; refine (rWrapped_c 4 true _ _ rfl).mono ?_; rintro e w' ⟨rfl, hq⟩)
    go_roundw
    case rel => exact ⟨i + 1, _, rfl, by omega, by go_num, congrArg (Value.int .i64) (hs.out), HK.below hq⟩
    case measure => simp [intOf]; omega
  · have hk : Hid (i = (r + 32).toNat) := (by omega : i = (r + 32).toNat)
    generalize hX : F i = x at *
    have HX := Lib.hid hX
    clear hX
    go_wp2
    go_ret
    exact ⟨ret_int (by rw [← hk.out, HX.out]), HK.base⟩
set_option maxHeartbeats 2000000 in
set_option maxRecDepth 20000 in
theorem rsh_9_4f0 (v b r : Int) (w : World) (hv : I64 v) (hr : b.tmod 32 = r) (h0 : ¬ r < 0) (h1 : r < 32) (F : Nat → Int) (hF0 : v = F 0) (hFi : ∀ i, I64 (F i)) (hFs : ∀ i, wr 4 false (wrap64 (F i + F i)) = F (i + 1)) : Calls Tryd.prog 61 #[.int .i64 9, .agg #[.int .i64 4, .bool false], .int .i64 v, .int .i64 b] w fun e w' => e = .returned (.int .i64 (F r.toNat)) ∧ Below w.heap.size w w' := by
  obtain ⟨v0, v1⟩ := hv
  have HK := Known.start w
  have HF0 := Lib.hid hF0
  clear hF0
  have HFi : Hid (∀ i, I64 (F i)) := hFi
  have HFs : Hid (∀ i, wr 4 false (wrap64 (F i + F i)) = F (i + 1)) := hFs
  clear hFi hFs
  have hN0 : 0 ≤ r := by omega
  go_enter Tryd.func61, Tryd.ntmps61
  go_wp2
  replace HK := HK.box (vs := [.int .i64 4, .bool false]) (t := 23)
  go_loopw [2, 10] (fun v2 v10 wr => ∃ (i : Nat) (w5 : World), w5 = wr ∧ (i : Int) ≤ r ∧ v10 = .int .i64 i ∧ v2 = .int .i64 (F i) ∧ Known [(w.heap.size, [.int .i64 4, .bool false])] w w5) (fun _ v10 _ => r.toNat - (intOf v10).toNat)
  case atStart => exact ⟨0, _, rfl, by omega, rfl, by rw [HF0.out], HK⟩
  case round =>
  clear HK
  obtain ⟨i, w5, hw, hi, hv10, hv2, HK⟩ := hrel
  subst hw; subst hv10; subst hv2
  have A0 := HK.get 0 0 rfl rfl
  have A1 := HK.get 0 1 rfl rfl
  have As := HK.lt 0 rfl
  have hs := Lib.hid (HFs.out i)
  have hx := HFi.out i
  have hiN : Hid (r.toNat = r.toNat) := rfl
  by_cases hlt : (i : Int) < r
  · generalize F i = x at *
    obtain ⟨x0, x1⟩ := hx
    go_wp2_with (go_at_call 47; refine (rWrapped_c 4 false _ _ rfl).mono ?_; rintro e w' ⟨rfl, hq⟩)
    go_roundw
    case rel => exact ⟨i + 1, _, rfl, by omega, by go_num, congrArg (Value.int .i64) (hs.out), HK.below hq⟩
    case measure => simp [intOf]; omega
  · have hk : Hid (i = r.toNat) := (by omega : i = r.toNat)
    generalize hX : F i = x at *
    have HX := Lib.hid hX
    clear hX
    go_wp2
    go_ret
    exact ⟨ret_int (by rw [← hk.out, HX.out]), HK.base⟩
set_option maxHeartbeats 2000000 in
set_option maxRecDepth 20000 in
theorem rsh_9_4f1 (v b r : Int) (w : World) (hv : I64 v) (hr : b.tmod 32 = r) (h0 : r < 0) (hl : -32 < r) (F : Nat → Int) (hF0 : v = F 0) (hFi : ∀ i, I64 (F i)) (hFs : ∀ i, wr 4 false (wrap64 (F i + F i)) = F (i + 1)) : Calls Tryd.prog 61 #[.int .i64 9, .agg #[.int .i64 4, .bool false], .int .i64 v, .int .i64 b] w fun e w' => e = .returned (.int .i64 (F (r + 32).toNat)) ∧ Below w.heap.size w w' := by
  obtain ⟨v0, v1⟩ := hv
  have HK := Known.start w
  have HF0 := Lib.hid hF0
  clear hF0
  have HFi : Hid (∀ i, I64 (F i)) := hFi
  have HFs : Hid (∀ i, wr 4 false (wrap64 (F i + F i)) = F (i + 1)) := hFs
  clear hFi hFs
  have hN0 : 0 ≤ (r + 32) := by omega
  go_enter Tryd.func61, Tryd.ntmps61
  go_wp2
  replace HK := HK.box (vs := [.int .i64 4, .bool false]) (t := 23)
  go_loopw [2, 10] (fun v2 v10 wr => ∃ (i : Nat) (w5 : World), w5 = wr ∧ (i : Int) ≤ (r + 32) ∧ v10 = .int .i64 i ∧ v2 = .int .i64 (F i) ∧ Known [(w.heap.size, [.int .i64 4, .bool false])] w w5) (fun _ v10 _ => (r + 32).toNat - (intOf v10).toNat)
  case atStart => exact ⟨0, _, rfl, by omega, rfl, by rw [HF0.out], HK⟩
  case round =>
  clear HK
  obtain ⟨i, w5, hw, hi, hv10, hv2, HK⟩ := hrel
  subst hw; subst hv10; subst hv2
  have A0 := HK.get 0 0 rfl rfl
  have A1 := HK.get 0 1 rfl rfl
  have As := HK.lt 0 rfl
  have hs := Lib.hid (HFs.out i)
  have hx := HFi.out i
  have hiN : Hid ((r + 32).toNat = (r + 32).toNat) := rfl
  by_cases hlt : (i : Int) < (r + 32)
  · generalize F i = x at *
    obtain ⟨x0, x1⟩ := hx
    go_wp2_with (go_at_call 47; refine (rWrapped_c 4 false _ _ rfl).mono ?_; rintro e w' ⟨rfl, hq⟩)
    go_roundw
    case rel => exact ⟨i + 1, _, rfl, by omega, by go_num, congrArg (Value.int .i64) (hs.out), HK.below hq⟩
    case measure => simp [intOf]; omega
  · have hk : Hid (i = (r + 32).toNat) := (by omega : i = (r + 32).toNat)
    generalize hX : F i = x at *
    have HX := Lib.hid hX
    clear hX
    go_wp2
    go_ret
    exact ⟨ret_int (by rw [← hk.out, HX.out]), HK.base⟩
set_option maxHeartbeats 2000000 in
set_option maxRecDepth 20000 in
theorem rsh_9_8t0 (v b r : Int) (w : World) (hv : I64 v) (hr : b.tmod 64 = r) (h0 : ¬ r < 0) (h1 : r < 64) (F : Nat → Int) (hF0 : v = F 0) (hFi : ∀ i, I64 (F i)) (hFs : ∀ i, wr 8 true (wrap64 (F i + F i)) = F (i + 1)) : Calls Tryd.prog 61 #[.int .i64 9, .agg #[.int .i64 8, .bool true], .int .i64 v, .int .i64 b] w fun e w' => e = .returned (.int .i64 (F r.toNat)) ∧ Below w.heap.size w w' := by
  obtain ⟨v0, v1⟩ := hv
  have HK := Known.start w
  have HF0 := Lib.hid hF0
  clear hF0
  have HFi : Hid (∀ i, I64 (F i)) := hFi
  have HFs : Hid (∀ i, wr 8 true (wrap64 (F i + F i)) = F (i + 1)) := hFs
  clear hFi hFs
  have hN0 : 0 ≤ r := by omega
  go_enter Tryd.func61, Tryd.ntmps61
  go_wp2
  replace HK := HK.box (vs := [.int .i64 8, .bool true]) (t := 23)
  go_loopw [2, 10] (fun v2 v10 wr => ∃ (i : Nat) (w5 : World), w5 = wr ∧ (i : Int) ≤ r ∧ v10 = .int .i64 i ∧ v2 = .int .i64 (F i) ∧ Known [(w.heap.size, [.int .i64 8, .bool true])] w w5) (fun _ v10 _ => r.toNat - (intOf v10).toNat)
  case atStart => exact ⟨0, _, rfl, by omega, rfl, by rw [HF0.out], HK⟩
  case round =>
  clear HK
  obtain ⟨i, w5, hw, hi, hv10, hv2, HK⟩ := hrel
  subst hw; subst hv10; subst hv2
  have A0 := HK.get 0 0 rfl rfl
  have A1 := HK.get 0 1 rfl rfl
  have As := HK.lt 0 rfl
  have hs := Lib.hid (HFs.out i)
  have hx := HFi.out i
  have hiN : Hid (r.toNat = r.toNat) := rfl
  by_cases hlt : (i : Int) < r
  · generalize F i = x at *
    obtain ⟨x0, x1⟩ := hx
    go_wp2_with (go_at_call 47; refine (rWrapped_c 8 true _ _ rfl).mono ?_; rintro e w' ⟨rfl, hq⟩)
    go_roundw
    case rel => exact ⟨i + 1, _, rfl, by omega, by go_num, congrArg (Value.int .i64) (hs.out), HK.below hq⟩
    case measure => simp [intOf]; omega
  · have hk : Hid (i = r.toNat) := (by omega : i = r.toNat)
    generalize hX : F i = x at *
    have HX := Lib.hid hX
    clear hX
    go_wp2
    go_ret
    exact ⟨ret_int (by rw [← hk.out, HX.out]), HK.base⟩
set_option maxHeartbeats 2000000 in
set_option maxRecDepth 20000 in
theorem rsh_9_8t1 (v b r : Int) (w : World) (hv : I64 v) (hr : b.tmod 64 = r) (h0 : r < 0) (hl : -64 < r) (F : Nat → Int) (hF0 : v = F 0) (hFi : ∀ i, I64 (F i)) (hFs : ∀ i, wr 8 true (wrap64 (F i + F i)) = F (i + 1)) : Calls Tryd.prog 61 #[.int .i64 9, .agg #[.int .i64 8, .bool true], .int .i64 v, .int .i64 b] w fun e w' => e = .returned (.int .i64 (F (r + 64).toNat)) ∧ Below w.heap.size w w' := by
  obtain ⟨v0, v1⟩ := hv
  have HK := Known.start w
  have HF0 := Lib.hid hF0
  clear hF0
  have HFi : Hid (∀ i, I64 (F i)) := hFi
  have HFs : Hid (∀ i, wr 8 true (wrap64 (F i + F i)) = F (i + 1)) := hFs
  clear hFi hFs
  have hN0 : 0 ≤ (r + 64) := by omega
  go_enter Tryd.func61, Tryd.ntmps61
  go_wp2
  replace HK := HK.box (vs := [.int .i64 8, .bool true]) (t := 23)
  go_loopw [2, 10] (fun v2 v10 wr => ∃ (i : Nat) (w5 : World), w5 = wr ∧ (i : Int) ≤ (r + 64) ∧ v10 = .int .i64 i ∧ v2 = .int .i64 (F i) ∧ Known [(w.heap.size, [.int .i64 8, .bool true])] w w5) (fun _ v10 _ => (r + 64).toNat - (intOf v10).toNat)
  case atStart => exact ⟨0, _, rfl, by omega, rfl, by rw [HF0.out], HK⟩
  case round =>
  clear HK
  obtain ⟨i, w5, hw, hi, hv10, hv2, HK⟩ := hrel
  subst hw; subst hv10; subst hv2
  have A0 := HK.get 0 0 rfl rfl
  have A1 := HK.get 0 1 rfl rfl
  have As := HK.lt 0 rfl
  have hs := Lib.hid (HFs.out i)
  have hx := HFi.out i
  have hiN : Hid ((r + 64).toNat = (r + 64).toNat) := rfl
  by_cases hlt : (i : Int) < (r + 64)
  · generalize F i = x at *
    obtain ⟨x0, x1⟩ := hx
    go_wp2_with (go_at_call 47; refine (rWrapped_c 8 true _ _ rfl).mono ?_; rintro e w' ⟨rfl, hq⟩)
    go_roundw
    case rel => exact ⟨i + 1, _, rfl, by omega, by go_num, congrArg (Value.int .i64) (hs.out), HK.below hq⟩
    case measure => simp [intOf]; omega
  · have hk : Hid (i = (r + 64).toNat) := (by omega : i = (r + 64).toNat)
    generalize hX : F i = x at *
    have HX := Lib.hid hX
    clear hX
    go_wp2
    go_ret
    exact ⟨ret_int (by rw [← hk.out, HX.out]), HK.base⟩
set_option maxHeartbeats 2000000 in
set_option maxRecDepth 20000 in
theorem rsh_9_8f0 (v b r : Int) (w : World) (hv : I64 v) (hr : b.tmod 64 = r) (h0 : ¬ r < 0) (h1 : r < 64) (F : Nat → Int) (hF0 : v = F 0) (hFi : ∀ i, I64 (F i)) (hFs : ∀ i, wr 8 false (wrap64 (F i + F i)) = F (i + 1)) : Calls Tryd.prog 61 #[.int .i64 9, .agg #[.int .i64 8, .bool false], .int .i64 v, .int .i64 b] w fun e w' => e = .returned (.int .i64 (F r.toNat)) ∧ Below w.heap.size w w' := by
  obtain ⟨v0, v1⟩ := hv
  have HK := Known.start w
  have HF0 := Lib.hid hF0
  clear hF0
  have HFi : Hid (∀ i, I64 (F i)) := hFi
  have HFs : Hid (∀ i, wr 8 false (wrap64 (F i + F i)) = F (i + 1)) := hFs
  clear hFi hFs
  have hN0 : 0 ≤ r := by omega
  go_enter Tryd.func61, Tryd.ntmps61
  go_wp2
  replace HK := HK.box (vs := [.int .i64 8, .bool false]) (t := 23)
  go_loopw [2, 10] (fun v2 v10 wr => ∃ (i : Nat) (w5 : World), w5 = wr ∧ (i : Int) ≤ r ∧ v10 = .int .i64 i ∧ v2 = .int .i64 (F i) ∧ Known [(w.heap.size, [.int .i64 8, .bool false])] w w5) (fun _ v10 _ => r.toNat - (intOf v10).toNat)
  case atStart => exact ⟨0, _, rfl, by omega, rfl, by rw [HF0.out], HK⟩
  case round =>
  clear HK
  obtain ⟨i, w5, hw, hi, hv10, hv2, HK⟩ := hrel
  subst hw; subst hv10; subst hv2
  have A0 := HK.get 0 0 rfl rfl
  have A1 := HK.get 0 1 rfl rfl
  have As := HK.lt 0 rfl
  have hs := Lib.hid (HFs.out i)
  have hx := HFi.out i
  have hiN : Hid (r.toNat = r.toNat) := rfl
  by_cases hlt : (i : Int) < r
  · generalize F i = x at *
    obtain ⟨x0, x1⟩ := hx
    go_wp2_with (go_at_call 47; refine (rWrapped_c 8 false _ _ rfl).mono ?_; rintro e w' ⟨rfl, hq⟩)
    go_roundw
    case rel => exact ⟨i + 1, _, rfl, by omega, by go_num, congrArg (Value.int .i64) (hs.out), HK.below hq⟩
    case measure => simp [intOf]; omega
  · have hk : Hid (i = r.toNat) := (by omega : i = r.toNat)
    generalize hX : F i = x at *
    have HX := Lib.hid hX
    clear hX
    go_wp2
    go_ret
    exact ⟨ret_int (by rw [← hk.out, HX.out]), HK.base⟩
set_option maxHeartbeats 2000000 in
set_option maxRecDepth 20000 in
theorem rsh_9_8f1 (v b r : Int) (w : World) (hv : I64 v) (hr : b.tmod 64 = r) (h0 : r < 0) (hl : -64 < r) (F : Nat → Int) (hF0 : v = F 0) (hFi : ∀ i, I64 (F i)) (hFs : ∀ i, wr 8 false (wrap64 (F i + F i)) = F (i + 1)) : Calls Tryd.prog 61 #[.int .i64 9, .agg #[.int .i64 8, .bool false], .int .i64 v, .int .i64 b] w fun e w' => e = .returned (.int .i64 (F (r + 64).toNat)) ∧ Below w.heap.size w w' := by
  obtain ⟨v0, v1⟩ := hv
  have HK := Known.start w
  have HF0 := Lib.hid hF0
  clear hF0
  have HFi : Hid (∀ i, I64 (F i)) := hFi
  have HFs : Hid (∀ i, wr 8 false (wrap64 (F i + F i)) = F (i + 1)) := hFs
  clear hFi hFs
  have hN0 : 0 ≤ (r + 64) := by omega
  go_enter Tryd.func61, Tryd.ntmps61
  go_wp2
  replace HK := HK.box (vs := [.int .i64 8, .bool false]) (t := 23)
  go_loopw [2, 10] (fun v2 v10 wr => ∃ (i : Nat) (w5 : World), w5 = wr ∧ (i : Int) ≤ (r + 64) ∧ v10 = .int .i64 i ∧ v2 = .int .i64 (F i) ∧ Known [(w.heap.size, [.int .i64 8, .bool false])] w w5) (fun _ v10 _ => (r + 64).toNat - (intOf v10).toNat)
  case atStart => exact ⟨0, _, rfl, by omega, rfl, by rw [HF0.out], HK⟩
  case round =>
  clear HK
  obtain ⟨i, w5, hw, hi, hv10, hv2, HK⟩ := hrel
  subst hw; subst hv10; subst hv2
  have A0 := HK.get 0 0 rfl rfl
  have A1 := HK.get 0 1 rfl rfl
  have As := HK.lt 0 rfl
  have hs := Lib.hid (HFs.out i)
  have hx := HFi.out i
  have hiN : Hid ((r + 64).toNat = (r + 64).toNat) := rfl
  by_cases hlt : (i : Int) < (r + 64)
  · generalize F i = x at *
    obtain ⟨x0, x1⟩ := hx
    go_wp2_with (go_at_call 47; refine (rWrapped_c 8 false _ _ rfl).mono ?_; rintro e w' ⟨rfl, hq⟩)
    go_roundw
    case rel => exact ⟨i + 1, _, rfl, by omega, by go_num, congrArg (Value.int .i64) (hs.out), HK.below hq⟩
    case measure => simp [intOf]; omega
  · have hk : Hid (i = (r + 64).toNat) := (by omega : i = (r + 64).toNat)
    generalize hX : F i = x at *
    have HX := Lib.hid hX
    clear hX
    go_wp2
    go_ret
    exact ⟨ret_int (by rw [← hk.out, HX.out]), HK.base⟩
set_option maxHeartbeats 2000000 in
set_option maxRecDepth 20000 in
theorem rsh_10_4t0 (v b r : Int) (w : World) (hv : I64 v) (hr : b.tmod 32 = r) (h0 : ¬ r < 0) (h1 : r < 32) (F : Nat → Int) (hF0 : v = F 0) (hFi : ∀ i, I64 (F i)) (hFs : ∀ i, wrap64 ((wrap64 (F i - bits .and .i64 (F i) 1)).tdiv 2) = F (i + 1)) : Calls Tryd.prog 61 #[.int .i64 10, .agg #[.int .i64 4, .bool true], .int .i64 v, .int .i64 b] w fun e w' => e = .returned (.int .i64 (F r.toNat)) ∧ Below w.heap.size w w' := by
  obtain ⟨v0, v1⟩ := hv
  have HK := Known.start w
  have HF0 := Lib.hid hF0
  clear hF0
  have HFi : Hid (∀ i, I64 (F i)) := hFi
  have HFs : Hid (∀ i, wrap64 ((wrap64 (F i - bits .and .i64 (F i) 1)).tdiv 2) = F (i + 1)) := hFs
  clear hFi hFs
  have hN0 : 0 ≤ r := by omega
  go_enter Tryd.func61, Tryd.ntmps61
  go_wp2
  replace HK := HK.box (vs := [.int .i64 4, .bool true]) (t := 23)
  go_loopw [2, 10] (fun v2 v10 wr => ∃ (i : Nat) (w5 : World), w5 = wr ∧ (i : Int) ≤ r ∧ v10 = .int .i64 i ∧ v2 = .int .i64 (F i) ∧ Known [(w.heap.size, [.int .i64 4, .bool true])] w w5) (fun _ v10 _ => r.toNat - (intOf v10).toNat)
  case atStart => exact ⟨0, _, rfl, by omega, rfl, by rw [HF0.out], HK⟩
  case round =>
  clear HK
  obtain ⟨i, w5, hw, hi, hv10, hv2, HK⟩ := hrel
  subst hw; subst hv10; subst hv2
  have A0 := HK.get 0 0 rfl rfl
  have A1 := HK.get 0 1 rfl rfl
  have As := HK.lt 0 rfl
  have hs := Lib.hid (HFs.out i)
  have hx := HFi.out i
  have hiN : Hid (r.toNat = r.toNat) := rfl
  by_cases hlt : (i : Int) < r
  · generalize F i = x at *
    obtain ⟨x0, x1⟩ := hx
    go_wp2_with fail
    go_roundw
    case rel => exact ⟨i + 1, _, rfl, by omega, by go_num, congrArg (Value.int .i64) (hs.out), HK⟩
    case measure => simp [intOf]; omega
  · have hk : Hid (i = r.toNat) := (by omega : i = r.toNat)
    generalize hX : F i = x at *
    have HX := Lib.hid hX
    clear hX
    go_wp2
    go_ret
    exact ⟨ret_int (by rw [← hk.out, HX.out]), HK.base⟩
set_option maxHeartbeats 2000000 in
set_option maxRecDepth 20000 in
theorem rsh_10_4t1 (v b r : Int) (w : World) (hv : I64 v) (hr : b.tmod 32 = r) (h0 : r < 0) (hl : -32 < r) (F : Nat → Int) (hF0 : v = F 0) (hFi : ∀ i, I64 (F i)) (hFs : ∀ i, wrap64 ((wrap64 (F i - bits .and .i64 (F i) 1)).tdiv 2) = F (i + 1)) : Calls Tryd.prog 61 #[.int .i64 10, .agg #[.int .i64 4, .bool true], .int .i64 v, .int .i64 b] w fun e w' => e = .returned (.int .i64 (F (r + 32).toNat)) ∧ Below w.heap.size w w' := by
  obtain ⟨v0, v1⟩ := hv
  have HK := Known.start w
  have HF0 := Lib.hid hF0
  clear hF0
  have HFi : Hid (∀ i, I64 (F i)) := hFi
  have HFs : Hid (∀ i, wrap64 ((wrap64 (F i - bits .and .i64 (F i) 1)).tdiv 2) = F (i + 1)) := hFs
  clear hFi hFs
  have hN0 : 0 ≤ (r + 32) := by omega
  go_enter Tryd.func61, Tryd.ntmps61
  go_wp2
  replace HK := HK.box (vs := [.int .i64 4, .bool true]) (t := 23)
  go_loopw [2, 10] (fun v2 v10 wr => ∃ (i : Nat) (w5 : World), w5 = wr ∧ (i : Int) ≤ (r + 32) ∧ v10 = .int .i64 i ∧ v2 = .int .i64 (F i) ∧ Known [(w.heap.size, [.int .i64 4, .bool true])] w w5) (fun _ v10 _ => (r + 32).toNat - (intOf v10).toNat)
  case atStart => exact ⟨0, _, rfl, by omega, rfl, by rw [HF0.out], HK⟩
  case round =>
  clear HK
  obtain ⟨i, w5, hw, hi, hv10, hv2, HK⟩ := hrel
  subst hw; subst hv10; subst hv2
  have A0 := HK.get 0 0 rfl rfl
  have A1 := HK.get 0 1 rfl rfl
  have As := HK.lt 0 rfl
  have hs := Lib.hid (HFs.out i)
  have hx := HFi.out i
  have hiN : Hid ((r + 32).toNat = (r + 32).toNat) := rfl
  by_cases hlt : (i : Int) < (r + 32)
  · generalize F i = x at *
    obtain ⟨x0, x1⟩ := hx
    go_wp2_with fail
    go_roundw
    case rel => exact ⟨i + 1, _, rfl, by omega, by go_num, congrArg (Value.int .i64) (hs.out), HK⟩
    case measure => simp [intOf]; omega
  · have hk : Hid (i = (r + 32).toNat) := (by omega : i = (r + 32).toNat)
    generalize hX : F i = x at *
    have HX := Lib.hid hX
    clear hX
    go_wp2
    go_ret
    exact ⟨ret_int (by rw [← hk.out, HX.out]), HK.base⟩
set_option maxHeartbeats 2000000 in
set_option maxRecDepth 20000 in
theorem rsh_10_4f0 (v b r : Int) (w : World) (hv : I64 v) (hr : b.tmod 32 = r) (h0 : ¬ r < 0) (h1 : r < 32) (F : Nat → Int) (hF0 : v = F 0) (hFi : ∀ i, I64 (F i)) (hFs : ∀ i, wrap64 (uN (F i) / 2) = F (i + 1)) : Calls Tryd.prog 61 #[.int .i64 10, .agg #[.int .i64 4, .bool false], .int .i64 v, .int .i64 b] w fun e w' => e = .returned (.int .i64 (F r.toNat)) ∧ Below w.heap.size w w' := by
  obtain ⟨v0, v1⟩ := hv
  have HK := Known.start w
  have HF0 := Lib.hid hF0
  clear hF0
  have HFi : Hid (∀ i, I64 (F i)) := hFi
  have HFs : Hid (∀ i, wrap64 (uN (F i) / 2) = F (i + 1)) := hFs
  clear hFi hFs
  have hN0 : 0 ≤ r := by omega
  go_enter Tryd.func61, Tryd.ntmps61
  go_wp2
  replace HK := HK.box (vs := [.int .i64 4, .bool false]) (t := 23)
  go_loopw [2, 10] (fun v2 v10 wr => ∃ (i : Nat) (w5 : World), w5 = wr ∧ (i : Int) ≤ r ∧ v10 = .int .i64 i ∧ v2 = .int .i64 (F i) ∧ Known [(w.heap.size, [.int .i64 4, .bool false])] w w5) (fun _ v10 _ => r.toNat - (intOf v10).toNat)
  case atStart => exact ⟨0, _, rfl, by omega, rfl, by rw [HF0.out], HK⟩
  case round =>
  clear HK
  obtain ⟨i, w5, hw, hi, hv10, hv2, HK⟩ := hrel
  subst hw; subst hv10; subst hv2
  have A0 := HK.get 0 0 rfl rfl
  have A1 := HK.get 0 1 rfl rfl
  have As := HK.lt 0 rfl
  have hs := Lib.hid (HFs.out i)
  have hx := HFi.out i
  have hiN : Hid (r.toNat = r.toNat) := rfl
  by_cases hlt : (i : Int) < r
  · generalize F i = x at *
    obtain ⟨x0, x1⟩ := hx
    go_wp2_with fail
    go_roundw
    case rel => exact ⟨i + 1, _, rfl, by omega, by go_num, congrArg (Value.int .i64) ((shr_u x).trans hs.out), HK⟩
    case measure => simp [intOf]; omega
  · have hk : Hid (i = r.toNat) := (by omega : i = r.toNat)
    generalize hX : F i = x at *
    have HX := Lib.hid hX
    clear hX
    go_wp2
    go_ret
    exact ⟨ret_int (by rw [← hk.out, HX.out]), HK.base⟩
set_option maxHeartbeats 2000000 in
set_option maxRecDepth 20000 in
theorem rsh_10_4f1 (v b r : Int) (w : World) (hv : I64 v) (hr : b.tmod 32 = r) (h0 : r < 0) (hl : -32 < r) (F : Nat → Int) (hF0 : v = F 0) (hFi : ∀ i, I64 (F i)) (hFs : ∀ i, wrap64 (uN (F i) / 2) = F (i + 1)) : Calls Tryd.prog 61 #[.int .i64 10, .agg #[.int .i64 4, .bool false], .int .i64 v, .int .i64 b] w fun e w' => e = .returned (.int .i64 (F (r + 32).toNat)) ∧ Below w.heap.size w w' := by
  obtain ⟨v0, v1⟩ := hv
  have HK := Known.start w
  have HF0 := Lib.hid hF0
  clear hF0
  have HFi : Hid (∀ i, I64 (F i)) := hFi
  have HFs : Hid (∀ i, wrap64 (uN (F i) / 2) = F (i + 1)) := hFs
  clear hFi hFs
  have hN0 : 0 ≤ (r + 32) := by omega
  go_enter Tryd.func61, Tryd.ntmps61
  go_wp2
  replace HK := HK.box (vs := [.int .i64 4, .bool false]) (t := 23)
  go_loopw [2, 10] (fun v2 v10 wr => ∃ (i : Nat) (w5 : World), w5 = wr ∧ (i : Int) ≤ (r + 32) ∧ v10 = .int .i64 i ∧ v2 = .int .i64 (F i) ∧ Known [(w.heap.size, [.int .i64 4, .bool false])] w w5) (fun _ v10 _ => (r + 32).toNat - (intOf v10).toNat)
  case atStart => exact ⟨0, _, rfl, by omega, rfl, by rw [HF0.out], HK⟩
  case round =>
  clear HK
  obtain ⟨i, w5, hw, hi, hv10, hv2, HK⟩ := hrel
  subst hw; subst hv10; subst hv2
  have A0 := HK.get 0 0 rfl rfl
  have A1 := HK.get 0 1 rfl rfl
  have As := HK.lt 0 rfl
  have hs := Lib.hid (HFs.out i)
  have hx := HFi.out i
  have hiN : Hid ((r + 32).toNat = (r + 32).toNat) := rfl
  by_cases hlt : (i : Int) < (r + 32)
  · generalize F i = x at *
    obtain ⟨x0, x1⟩ := hx
    go_wp2_with fail
    go_roundw
    case rel => exact ⟨i + 1, _, rfl, by omega, by go_num, congrArg (Value.int .i64) ((shr_u x).trans hs.out), HK⟩
    case measure => simp [intOf]; omega
  · have hk : Hid (i = (r + 32).toNat) := (by omega : i = (r + 32).toNat)
    generalize hX : F i = x at *
    have HX := Lib.hid hX
    clear hX
    go_wp2
    go_ret
    exact ⟨ret_int (by rw [← hk.out, HX.out]), HK.base⟩
set_option maxHeartbeats 2000000 in
set_option maxRecDepth 20000 in
theorem rsh_10_8t0 (v b r : Int) (w : World) (hv : I64 v) (hr : b.tmod 64 = r) (h0 : ¬ r < 0) (h1 : r < 64) (F : Nat → Int) (hF0 : v = F 0) (hFi : ∀ i, I64 (F i)) (hFs : ∀ i, wrap64 ((wrap64 (F i - bits .and .i64 (F i) 1)).tdiv 2) = F (i + 1)) : Calls Tryd.prog 61 #[.int .i64 10, .agg #[.int .i64 8, .bool true], .int .i64 v, .int .i64 b] w fun e w' => e = .returned (.int .i64 (F r.toNat)) ∧ Below w.heap.size w w' := by
  obtain ⟨v0, v1⟩ := hv
  have HK := Known.start w
  have HF0 := Lib.hid hF0
  clear hF0
  have HFi : Hid (∀ i, I64 (F i)) := hFi
  have HFs : Hid (∀ i, wrap64 ((wrap64 (F i - bits .and .i64 (F i) 1)).tdiv 2) = F (i + 1)) := hFs
  clear hFi hFs
  have hN0 : 0 ≤ r := by omega
  go_enter Tryd.func61, Tryd.ntmps61
  go_wp2
  replace HK := HK.box (vs := [.int .i64 8, .bool true]) (t := 23)
  go_loopw [2, 10] (fun v2 v10 wr => ∃ (i : Nat) (w5 : World), w5 = wr ∧ (i : Int) ≤ r ∧ v10 = .int .i64 i ∧ v2 = .int .i64 (F i) ∧ Known [(w.heap.size, [.int .i64 8, .bool true])] w w5) (fun _ v10 _ => r.toNat - (intOf v10).toNat)
  case atStart => exact ⟨0, _, rfl, by omega, rfl, by rw [HF0.out], HK⟩
  case round =>
  clear HK
  obtain ⟨i, w5, hw, hi, hv10, hv2, HK⟩ := hrel
  subst hw; subst hv10; subst hv2
  have A0 := HK.get 0 0 rfl rfl
  have A1 := HK.get 0 1 rfl rfl
  have As := HK.lt 0 rfl
  have hs := Lib.hid (HFs.out i)
  have hx := HFi.out i
  have hiN : Hid (r.toNat = r.toNat) := rfl
  by_cases hlt : (i : Int) < r
  · generalize F i = x at *
    obtain ⟨x0, x1⟩ := hx
    go_wp2_with fail
    go_roundw
    case rel => exact ⟨i + 1, _, rfl, by omega, by go_num, congrArg (Value.int .i64) (hs.out), HK⟩
    case measure => simp [intOf]; omega
  · have hk : Hid (i = r.toNat) := (by omega : i = r.toNat)
    generalize hX : F i = x at *
    have HX := Lib.hid hX
    clear hX
    go_wp2
    go_ret
    exact ⟨ret_int (by rw [← hk.out, HX.out]), HK.base⟩
set_option maxHeartbeats 2000000 in
set_option maxRecDepth 20000 in
theorem rsh_10_8t1 (v b r : Int) (w : World) (hv : I64 v) (hr : b.tmod 64 = r) (h0 : r < 0) (hl : -64 < r) (F : Nat → Int) (hF0 : v = F 0) (hFi : ∀ i, I64 (F i)) (hFs : ∀ i, wrap64 ((wrap64 (F i - bits .and .i64 (F i) 1)).tdiv 2) = F (i + 1)) : Calls Tryd.prog 61 #[.int .i64 10, .agg #[.int .i64 8, .bool true], .int .i64 v, .int .i64 b] w fun e w' => e = .returned (.int .i64 (F (r + 64).toNat)) ∧ Below w.heap.size w w' := by
  obtain ⟨v0, v1⟩ := hv
  have HK := Known.start w
  have HF0 := Lib.hid hF0
  clear hF0
  have HFi : Hid (∀ i, I64 (F i)) := hFi
  have HFs : Hid (∀ i, wrap64 ((wrap64 (F i - bits .and .i64 (F i) 1)).tdiv 2) = F (i + 1)) := hFs
  clear hFi hFs
  have hN0 : 0 ≤ (r + 64) := by omega
  go_enter Tryd.func61, Tryd.ntmps61
  go_wp2
  replace HK := HK.box (vs := [.int .i64 8, .bool true]) (t := 23)
  go_loopw [2, 10] (fun v2 v10 wr => ∃ (i : Nat) (w5 : World), w5 = wr ∧ (i : Int) ≤ (r + 64) ∧ v10 = .int .i64 i ∧ v2 = .int .i64 (F i) ∧ Known [(w.heap.size, [.int .i64 8, .bool true])] w w5) (fun _ v10 _ => (r + 64).toNat - (intOf v10).toNat)
  case atStart => exact ⟨0, _, rfl, by omega, rfl, by rw [HF0.out], HK⟩
  case round =>
  clear HK
  obtain ⟨i, w5, hw, hi, hv10, hv2, HK⟩ := hrel
  subst hw; subst hv10; subst hv2
  have A0 := HK.get 0 0 rfl rfl
  have A1 := HK.get 0 1 rfl rfl
  have As := HK.lt 0 rfl
  have hs := Lib.hid (HFs.out i)
  have hx := HFi.out i
  have hiN : Hid ((r + 64).toNat = (r + 64).toNat) := rfl
  by_cases hlt : (i : Int) < (r + 64)
  · generalize F i = x at *
    obtain ⟨x0, x1⟩ := hx
    go_wp2_with fail
    go_roundw
    case rel => exact ⟨i + 1, _, rfl, by omega, by go_num, congrArg (Value.int .i64) (hs.out), HK⟩
    case measure => simp [intOf]; omega
  · have hk : Hid (i = (r + 64).toNat) := (by omega : i = (r + 64).toNat)
    generalize hX : F i = x at *
    have HX := Lib.hid hX
    clear hX
    go_wp2
    go_ret
    exact ⟨ret_int (by rw [← hk.out, HX.out]), HK.base⟩
set_option maxHeartbeats 2000000 in
set_option maxRecDepth 20000 in
theorem rsh_10_8f0 (v b r : Int) (w : World) (hv : I64 v) (hr : b.tmod 64 = r) (h0 : ¬ r < 0) (h1 : r < 64) (F : Nat → Int) (hF0 : v = F 0) (hFi : ∀ i, I64 (F i)) (hFs : ∀ i, wrap64 (uN (F i) / 2) = F (i + 1)) : Calls Tryd.prog 61 #[.int .i64 10, .agg #[.int .i64 8, .bool false], .int .i64 v, .int .i64 b] w fun e w' => e = .returned (.int .i64 (F r.toNat)) ∧ Below w.heap.size w w' := by
  obtain ⟨v0, v1⟩ := hv
  have HK := Known.start w
  have HF0 := Lib.hid hF0
  clear hF0
  have HFi : Hid (∀ i, I64 (F i)) := hFi
  have HFs : Hid (∀ i, wrap64 (uN (F i) / 2) = F (i + 1)) := hFs
  clear hFi hFs
  have hN0 : 0 ≤ r := by omega
  go_enter Tryd.func61, Tryd.ntmps61
  go_wp2
  replace HK := HK.box (vs := [.int .i64 8, .bool false]) (t := 23)
  go_loopw [2, 10] (fun v2 v10 wr => ∃ (i : Nat) (w5 : World), w5 = wr ∧ (i : Int) ≤ r ∧ v10 = .int .i64 i ∧ v2 = .int .i64 (F i) ∧ Known [(w.heap.size, [.int .i64 8, .bool false])] w w5) (fun _ v10 _ => r.toNat - (intOf v10).toNat)
  case atStart => exact ⟨0, _, rfl, by omega, rfl, by rw [HF0.out], HK⟩
  case round =>
  clear HK
  obtain ⟨i, w5, hw, hi, hv10, hv2, HK⟩ := hrel
  subst hw; subst hv10; subst hv2
  have A0 := HK.get 0 0 rfl rfl
  have A1 := HK.get 0 1 rfl rfl
  have As := HK.lt 0 rfl
  have hs := Lib.hid (HFs.out i)
  have hx := HFi.out i
  have hiN : Hid (r.toNat = r.toNat) := rfl
  by_cases hlt : (i : Int) < r
  · generalize F i = x at *
    obtain ⟨x0, x1⟩ := hx
    go_wp2_with fail
    go_roundw
    case rel => exact ⟨i + 1, _, rfl, by omega, by go_num, congrArg (Value.int .i64) ((shr_u x).trans hs.out), HK⟩
    case measure => simp [intOf]; omega
  · have hk : Hid (i = r.toNat) := (by omega : i = r.toNat)
    generalize hX : F i = x at *
    have HX := Lib.hid hX
    clear hX
    go_wp2
    go_ret
    exact ⟨ret_int (by rw [← hk.out, HX.out]), HK.base⟩
set_option maxHeartbeats 2000000 in
set_option maxRecDepth 20000 in
theorem rsh_10_8f1 (v b r : Int) (w : World) (hv : I64 v) (hr : b.tmod 64 = r) (h0 : r < 0) (hl : -64 < r) (F : Nat → Int) (hF0 : v = F 0) (hFi : ∀ i, I64 (F i)) (hFs : ∀ i, wrap64 (uN (F i) / 2) = F (i + 1)) : Calls Tryd.prog 61 #[.int .i64 10, .agg #[.int .i64 8, .bool false], .int .i64 v, .int .i64 b] w fun e w' => e = .returned (.int .i64 (F (r + 64).toNat)) ∧ Below w.heap.size w w' := by
  obtain ⟨v0, v1⟩ := hv
  have HK := Known.start w
  have HF0 := Lib.hid hF0
  clear hF0
  have HFi : Hid (∀ i, I64 (F i)) := hFi
  have HFs : Hid (∀ i, wrap64 (uN (F i) / 2) = F (i + 1)) := hFs
  clear hFi hFs
  have hN0 : 0 ≤ (r + 64) := by omega
  go_enter Tryd.func61, Tryd.ntmps61
  go_wp2
  replace HK := HK.box (vs := [.int .i64 8, .bool false]) (t := 23)
  go_loopw [2, 10] (fun v2 v10 wr => ∃ (i : Nat) (w5 : World), w5 = wr ∧ (i : Int) ≤ (r + 64) ∧ v10 = .int .i64 i ∧ v2 = .int .i64 (F i) ∧ Known [(w.heap.size, [.int .i64 8, .bool false])] w w5) (fun _ v10 _ => (r + 64).toNat - (intOf v10).toNat)
  case atStart => exact ⟨0, _, rfl, by omega, rfl, by rw [HF0.out], HK⟩
  case round =>
  clear HK
  obtain ⟨i, w5, hw, hi, hv10, hv2, HK⟩ := hrel
  subst hw; subst hv10; subst hv2
  have A0 := HK.get 0 0 rfl rfl
  have A1 := HK.get 0 1 rfl rfl
  have As := HK.lt 0 rfl
  have hs := Lib.hid (HFs.out i)
  have hx := HFi.out i
  have hiN : Hid ((r + 64).toNat = (r + 64).toNat) := rfl
  by_cases hlt : (i : Int) < (r + 64)
  · generalize F i = x at *
    obtain ⟨x0, x1⟩ := hx
    go_wp2_with fail
    go_roundw
    case rel => exact ⟨i + 1, _, rfl, by omega, by go_num, congrArg (Value.int .i64) ((shr_u x).trans hs.out), HK⟩
    case measure => simp [intOf]; omega
  · have hk : Hid (i = (r + 64).toNat) := (by omega : i = (r + 64).toNat)
    generalize hX : F i = x at *
    have HX := Lib.hid hX
    clear hX
    go_wp2
    go_ret
    exact ⟨ret_int (by rw [← hk.out, HX.out]), HK.base⟩
end Go.Proofs.YtfgmfkiknogdeaaDoor
