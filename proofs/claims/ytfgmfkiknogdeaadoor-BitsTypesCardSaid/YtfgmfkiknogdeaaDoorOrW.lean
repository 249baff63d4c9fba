/- WHAT IS PROVED: taplinelaw01.BitsOrders answers true, for any type and every three values. CONDITIONS: the package variables 'plain' and 'promoted' hold what their initialisers lay. -/
import Derived.Test.YtfgmfkiknogdeaaDoorOr0
import Derived.Test.YtfgmfkiknogdeaaDoorOr1
import Derived.Test.YtfgmfkiknogdeaaDoorOr2
import Derived.Test.YtfgmfkiknogdeaaDoorOr3
import Derived.Test.YtfgmfkiknogdeaaDoorOr4
import Derived.Test.YtfgmfkiknogdeaaDoorE3
namespace Go.Proofs.YtfgmfkiknogdeaaDoor
open Go Go.RowKit Go.QrBits

/-- The number by which values are ordered. -/
def keyV (g : Bool) (v : Int) : Int := if g then v else uN v
theorem ordV_key (g : Bool) (a b : Int) : ordV g a b = cmpV (keyV g a) (keyV g b) := by cases g <;> rfl
theorem keyV_inj {g : Bool} {a b : Int} (ha : I64 a) (hb : I64 b) (h : keyV g a = keyV g b) : a = b := by
  unfold I64 at ha hb
  cases g
  · simp only [keyV, uN, Bool.false_eq_true, if_false] at h; omega
  · simpa [keyV] using h
theorem cmp_lt {a b : Int} (h : a < b) : cmpV a b = -1 := by unfold cmpV; rw [if_pos h]
theorem cmp_gt {a b : Int} (h : b < a) : cmpV a b = 1 := by unfold cmpV; rw [if_neg (by omega), if_pos h]
theorem cmp_eq (a : Int) : cmpV a a = 0 := by unfold cmpV; rw [if_neg (by omega), if_neg (by omega)]
theorem cmp_le {a b : Int} : cmpV a b ≤ 0 ↔ a ≤ b := by unfold cmpV; split <;> (try split) <;> constructor <;> intro <;> omega
section
variable {s : Int} {g : Bool}
theorem wr_prom (h : vB s = true) {v : Int} : wr (pS s) (pG s g) (wr s g v) = wr s g v := by
  rcases vB_cases h with rfl | rfl | rfl | rfl <;> cases g <;> simp [wr, pS, pG] <;> omega
theorem ord_prom (h : vB s = true) {a b : Int} : ordV (pG s g) (wr s g a) (wr s g b) = ordV g (wr s g a) (wr s g b) := by
  rcases vB_cases h with rfl | rfl | rfl | rfl <;> cases g <;> try rfl
  all_goals
    show cmpV _ _ = cmpV (uN _) (uN _)
    rw [uN_uN _ (by simp [wr]; omega) (by simp [wr]; omega), uN_uN _ (by simp [wr]; omega) (by simp [wr]; omega)]
theorem rel_prom (h : vB s = true) {a b : Int} : ordV (cG s g s g) (wr (cS s g s) (cG s g s g) (wr s g a)) (wr (cS s g s) (cG s g s g) (wr s g b)) = ordV g (wr s g a) (wr s g b) := by
  rw [cS_self, cG_self, wr_prom h, wr_prom h, ord_prom h]
theorem range_ok (h : vB s = true) : ∃ low high, Gives 14 #[.agg #[.int .i64 s, .bool g]] (.tuple #[.int .i64 low, .int .i64 high, .int .i64 0]) ∧ I64 low ∧ I64 high ∧ wr s g low = low ∧ wr s g high = high ∧ ∀ v, I64 v → keyV g low ≤ keyV g (wr s g v) ∧ keyV g (wr s g v) ≤ keyV g high := by
  cases g
  · refine ⟨0, wr s false (-1), fun w _ => Range_u s w h, by unfold I64; omega, wr_I64 h I64_m1, ?_, wr_wr h, fun v hv => ?_⟩
    · rcases vB_cases h with rfl | rfl | rfl | rfl <;> simp [wr]
    · unfold I64 at hv
      rcases vB_cases h with rfl | rfl | rfl | rfl <;> simp [wr, keyV, uN] <;> omega
  · rcases vB_cases h with rfl | rfl | rfl | rfl
    · exact ⟨_, _, fun w _ => Range_1 w, by unfold I64; omega, by unfold I64; omega, by simp [wr], by simp [wr], fun v hv => by unfold I64 at hv; simp [wr, keyV]; omega⟩
    · exact ⟨_, _, fun w _ => Range_2 w, by unfold I64; omega, by unfold I64; omega, by simp [wr], by simp [wr], fun v hv => by unfold I64 at hv; simp [wr, keyV]; omega⟩
    · exact ⟨_, _, fun w _ => Range_4 w, by unfold I64; omega, by unfold I64; omega, by simp [wr], by simp [wr], fun v hv => by unfold I64 at hv; simp [wr, keyV]; omega⟩
    · exact ⟨_, _, fun w _ => Range_8 w, by unfold I64; omega, by unfold I64; omega, by simp [wr], by simp [wr], fun v hv => by unfold I64 at hv; simp [wr, keyV]; omega⟩
end

theorem orders_walk (s : Int) (g : Bool) (l0 l1 l2 : Int) (w : World) (hp : PlainAt w) (hr : PromAt w) (i0 : I64 l0) (i1 : I64 l1) (i2 : I64 l2) : Calls Tryd.prog 10 #[.agg #[.int .i64 s, .bool g], .agg #[.int .i64 l0, .int .i64 l1, .int .i64 l2]] w fun e w' => e = .returned (.bool true) ∧ Below w.heap.size w w' := by
  cases h : vB s
  · exact orders_w1 s g l0 l1 l2 w hp hr h
  obtain ⟨low, high, hRg, il, ih, wl, wh, hb⟩ := range_ok (g := g) h
  have hLo : Gives 30 #[(.agg #[.int .i64 s, .bool g]), .int .i64 low, .int .i64 l0] _ := fun w _ => Compare_c s g low l0 w h il i0
  have hHi : Gives 30 #[(.agg #[.int .i64 s, .bool g]), .int .i64 l0, .int .i64 high] _ := fun w _ => Compare_c s g l0 high w h i0 ih
  have ha : ordV g (wr s g low) (wr s g l0) ≤ 0 := by rw [wl, ordV_key]; exact cmp_le.2 (hb l0 i0).1
  have hbb : ordV g (wr s g l0) (wr s g high) ≤ 0 := by rw [wh, ordV_key]; exact cmp_le.2 (hb l0 i0).2
  have hWl : Gives 41 #[(.agg #[.int .i64 s, .bool g]), .int .i64 low] (.int .i64 low) := fun w _ => by have := wrapL_c s g low w h il; rwa [wl] at this
  have hWh : Gives 41 #[(.agg #[.int .i64 s, .bool g]), .int .i64 high] (.int .i64 high) := fun w _ => by have := wrapL_c s g high w h ih; rwa [wh] at this
  have hX : Gives 30 #[(.agg #[.int .i64 s, .bool g]), .int .i64 l0, .int .i64 l1] _ := fun w _ => Compare_c s g l0 l1 w h i0 i1
  have hY : Gives 30 #[(.agg #[.int .i64 s, .bool g]), .int .i64 l1, .int .i64 l2] _ := fun w _ => Compare_c s g l1 l2 w h i1 i2
  have hZ : Gives 30 #[(.agg #[.int .i64 s, .bool g]), .int .i64 l0, .int .i64 l2] _ := fun w _ => Compare_c s g l0 l2 w h i0 i2
  have hK : Gives 30 #[(.agg #[.int .i64 s, .bool g]), .int .i64 l1, .int .i64 l0] _ := fun w _ => Compare_c s g l1 l0 w h i1 i0
  have hO0 : Gives 40 #[.int .i64 11, (.agg #[.int .i64 s, .bool g]), .int .i64 l0, .int .i64 l1] _ := fun w hp => op_of w hp fun w hp => bin_lt s g l0 s g l1 w hp h h i0 i1
  rw [rel_prom h] at hO0
  have hO1 : Gives 40 #[.int .i64 12, (.agg #[.int .i64 s, .bool g]), .int .i64 l0, .int .i64 l1] _ := fun w hp => op_of w hp fun w hp => bin_le s g l0 s g l1 w hp h h i0 i1
  rw [rel_prom h] at hO1
  have hO2 : Gives 40 #[.int .i64 13, (.agg #[.int .i64 s, .bool g]), .int .i64 l0, .int .i64 l1] _ := fun w hp => op_of w hp fun w hp => bin_gt s g l0 s g l1 w hp h h i0 i1
  rw [rel_prom h] at hO2
  have hO3 : Gives 40 #[.int .i64 14, (.agg #[.int .i64 s, .bool g]), .int .i64 l0, .int .i64 l1] _ := fun w hp => op_of w hp fun w hp => bin_ge s g l0 s g l1 w hp h h i0 i1
  rw [rel_prom h] at hO3
  have hO4 : Gives 40 #[.int .i64 15, (.agg #[.int .i64 s, .bool g]), .int .i64 l0, .int .i64 l1] _ := fun w hp => op_of w hp fun w hp => bin_eq s g l0 s g l1 w hp h h i0 i1
  rw [rel_prom h] at hO4
  have hO5 : Gives 40 #[.int .i64 16, (.agg #[.int .i64 s, .bool g]), .int .i64 l0, .int .i64 l1] _ := fun w hp => op_of w hp fun w hp => bin_ne s g l0 s g l1 w hp h h i0 i1
  rw [rel_prom h] at hO5
  have e01 : keyV g (wr s g l0) = keyV g (wr s g l1) → wr s g l0 = wr s g l1 := keyV_inj (wr_I64 h i0) (wr_I64 h i1)
  simp only [ordV_key] at hX hY hZ hK hO0 hO1 hO2 hO3 hO4 hO5
  rcases Int.lt_trichotomy (keyV g (wr s g l0)) (keyV g (wr s g l1)) with c | c | c
  · have he : (wr s g l0 == wr s g l1) = false := by
      rw [beq_eq_false_iff_ne]; intro e; rw [e] at c; omega
    rw [cmp_lt c] at hX hO0 hO1 hO2 hO3 hO4 hO5
    rw [cmp_gt c] at hK
    by_cases hy : cmpV (keyV g (wr s g l1)) (keyV g (wr s g l2)) ≤ 0
    · have hz : cmpV (keyV g (wr s g l0)) (keyV g (wr s g l2)) < 0 := by
        rw [cmp_lt (by have := cmp_le.1 hy; omega)]; omega
      exact orders_w5 s g l0 l1 l2 _ _ low high _ _ w hp hr h i0 i1 hX hY hZ hK hRg hLo hHi ha hbb hWl hWh hO0 hO1 hO2 hO3 hO4 hO5 he hy hz
    · exact orders_w6 s g l0 l1 l2 _ _ low high _ _ w hp hr h i0 i1 hX hY hZ hK hRg hLo hHi ha hbb hWl hWh hO0 hO1 hO2 hO3 hO4 hO5 he hy
  · have he : (wr s g l0 == wr s g l1) = true := by rw [beq_iff_eq]; exact e01 c
    rw [c, cmp_eq] at hX hO0 hO1 hO2 hO3 hO4 hO5
    rw [c, cmp_eq] at hK
    rw [c] at hZ
    by_cases hy : cmpV (keyV g (wr s g l1)) (keyV g (wr s g l2)) ≤ 0
    · exact orders_w3 s g l0 l1 l2 _ _ low high _ _ w hp hr h i0 i1 hX hY hZ hK hRg hLo hHi ha hbb hWl hWh hO0 hO1 hO2 hO3 hO4 hO5 he hy hy
    · exact orders_w4 s g l0 l1 l2 _ _ low high _ _ w hp hr h i0 i1 hX hY hZ hK hRg hLo hHi ha hbb hWl hWh hO0 hO1 hO2 hO3 hO4 hO5 he hy
  · have he : (wr s g l0 == wr s g l1) = false := by
      rw [beq_eq_false_iff_ne]; intro e; rw [e] at c; omega
    rw [cmp_gt c] at hX hO0 hO1 hO2 hO3 hO4 hO5
    rw [cmp_lt c] at hK
    exact orders_w2 s g l0 l1 l2 _ _ low high _ _ w hp hr h i0 i1 hX hY hZ hK hRg hLo hHi ha hbb hWl hWh hO0 hO1 hO2 hO3 hO4 hO5 he
end Go.Proofs.YtfgmfkiknogdeaaDoor
