/- WHAT IS PROVED: ways of taplinelaw01.BitsShifts, over what its calls answer. CONDITIONS: the package variables 'plain' and 'promoted' hold what their initialisers lay. -/
import Derived.Test.YtfgmfkiknogdeaaDoorSh
import Derived.Test.YtfgmfkiknogdeaaDoorDvW
import Derived.Test.YtfgmfkiknogdeaaDoorKn
import Derived.Test.YtfgmfkiknogdeaaDoorOrA
namespace Go.Proofs.YtfgmfkiknogdeaaDoor
open Go Go.RowKit Go.QrBits
attribute [local go_sem] reg_cell reg_frozen reg_setCell reg_lt reg_lt_add reg_drew reg_of_drew quietR yieldsR

theorem Gives.run {f : Nat} {args : Array Value} {v : Value} (h : Gives f args v) {w : World} (hp : PlainAt w) : Calls Tryd.prog f args w fun e w' => e = .returned v ∧ Below w.heap.size w w' := h w hp
section
variable (s : Int) (g : Bool) (v m n S W Lf Rt L3 R3 pw : Int)
set_option maxHeartbeats 4000000 in
set_option maxRecDepth 100000 in
theorem shift_w1 (w : World) (hp : PlainAt w) (h : vB s = false) : Calls Tryd.prog 11 #[.agg #[.int .i64 s, .bool g], .int .i64 v, .agg #[.int .i64 m, .int .i64 n]] w fun e w' => e = .returned (.bool true) ∧ Below w.heap.size w w' := by
  go_enter Tryd.func11, Tryd.ntmps11
  have HK := Known.start w
  go_wp2_with fail
  replace HK := HK.box (vs := [.int .i64 s, .bool g]) (t := 23)
  replace HK := HK.box (vs := [.int .i64 m, .int .i64 n]) (t := 68)
  simp only [World.size_alloc] at HK
  refine (sane_c _ (hp.below HK.base)).mono ?_
  rintro e w1 ⟨rfl, hq⟩
  replace HK := HK.below hq
  clear hq
  have B_0 := HK.get 0 0 rfl rfl
  have B_1 := HK.get 0 1 rfl rfl
  have B_s := HK.lt 0 rfl
  have A_0 := HK.get 1 0 rfl rfl
  have A_1 := HK.get 1 1 rfl rfl
  have A_s := HK.lt 1 rfl
  go_wp2_with fail
  clear B_0 B_1 B_s A_0 A_1 A_s
  refine (Promote_no s g _ h).mono ?_
  rintro e w2 ⟨rfl, hq⟩
  replace HK := HK.below hq
  clear hq
  have B_0 := HK.get 0 0 rfl rfl
  have B_1 := HK.get 0 1 rfl rfl
  have B_s := HK.lt 0 rfl
  have A_0 := HK.get 1 0 rfl rfl
  have A_1 := HK.get 1 1 rfl rfl
  have A_s := HK.lt 1 rfl
  go_wp2
  go_ret
  exact ⟨rfl, by repeat (first | exact HK.base | apply b_alloc)⟩
set_option maxHeartbeats 4000000 in
set_option maxRecDepth 100000 in
theorem shift_e0f (w : World) (hp : PlainAt w) (hPr : Gives 16 #[(.agg #[.int .i64 s, .bool g])] (.tuple #[(.agg #[.int .i64 S, .bool false]), .int .i64 0])) (h1 : m < 0) : Calls Tryd.prog 11 #[.agg #[.int .i64 s, .bool g], .int .i64 v, .agg #[.int .i64 m, .int .i64 n]] w fun e w' => e = .returned (.bool true) ∧ Below w.heap.size w w' := by
  go_enter Tryd.func11, Tryd.ntmps11
  have HK := Known.start w
  go_wp2_with fail
  replace HK := HK.box (vs := [.int .i64 s, .bool g]) (t := 23)
  replace HK := HK.box (vs := [.int .i64 m, .int .i64 n]) (t := 68)
  simp only [World.size_alloc] at HK
  refine (sane_c _ (hp.below HK.base)).mono ?_
  rintro e w1 ⟨rfl, hq⟩
  replace HK := HK.below hq
  clear hq
  have B_0 := HK.get 0 0 rfl rfl
  have B_1 := HK.get 0 1 rfl rfl
  have B_s := HK.lt 0 rfl
  have A_0 := HK.get 1 0 rfl rfl
  have A_1 := HK.get 1 1 rfl rfl
  have A_s := HK.lt 1 rfl
  go_wp2_with fail
  clear B_0 B_1 B_s A_0 A_1 A_s
  refine (hPr.run (hp.below HK.base)).mono ?_
  rintro e w2 ⟨rfl, hq⟩
  replace HK := HK.below hq
  clear hq
  have B_0 := HK.get 0 0 rfl rfl
  have B_1 := HK.get 0 1 rfl rfl
  have B_s := HK.lt 0 rfl
  have A_0 := HK.get 1 0 rfl rfl
  have A_1 := HK.get 1 1 rfl rfl
  have A_s := HK.lt 1 rfl
  go_wp2
  go_ret
  exact ⟨rfl, by repeat (first | exact HK.base | apply b_alloc)⟩
set_option maxHeartbeats 4000000 in
set_option maxRecDepth 100000 in
theorem shift_e0t (w : World) (hp : PlainAt w) (hPr : Gives 16 #[(.agg #[.int .i64 s, .bool g])] (.tuple #[(.agg #[.int .i64 S, .bool true]), .int .i64 0])) (h1 : m < 0) : Calls Tryd.prog 11 #[.agg #[.int .i64 s, .bool g], .int .i64 v, .agg #[.int .i64 m, .int .i64 n]] w fun e w' => e = .returned (.bool true) ∧ Below w.heap.size w w' := by
  go_enter Tryd.func11, Tryd.ntmps11
  have HK := Known.start w
  go_wp2_with fail
  replace HK := HK.box (vs := [.int .i64 s, .bool g]) (t := 23)
  replace HK := HK.box (vs := [.int .i64 m, .int .i64 n]) (t := 68)
  simp only [World.size_alloc] at HK
  refine (sane_c _ (hp.below HK.base)).mono ?_
  rintro e w1 ⟨rfl, hq⟩
  replace HK := HK.below hq
  clear hq
  have B_0 := HK.get 0 0 rfl rfl
  have B_1 := HK.get 0 1 rfl rfl
  have B_s := HK.lt 0 rfl
  have A_0 := HK.get 1 0 rfl rfl
  have A_1 := HK.get 1 1 rfl rfl
  have A_s := HK.lt 1 rfl
  go_wp2_with fail
  clear B_0 B_1 B_s A_0 A_1 A_s
  refine (hPr.run (hp.below HK.base)).mono ?_
  rintro e w2 ⟨rfl, hq⟩
  replace HK := HK.below hq
  clear hq
  have B_0 := HK.get 0 0 rfl rfl
  have B_1 := HK.get 0 1 rfl rfl
  have B_s := HK.lt 0 rfl
  have A_0 := HK.get 1 0 rfl rfl
  have A_1 := HK.get 1 1 rfl rfl
  have A_s := HK.lt 1 rfl
  go_wp2
  go_ret
  exact ⟨rfl, by repeat (first | exact HK.base | apply b_alloc)⟩
set_option maxHeartbeats 4000000 in
set_option maxRecDepth 100000 in
theorem shift_e1f (w : World) (hp : PlainAt w) (hPr : Gives 16 #[(.agg #[.int .i64 s, .bool g])] (.tuple #[(.agg #[.int .i64 S, .bool false]), .int .i64 0])) (h1 : ¬ m < 0) (h2 : n < 0) : Calls Tryd.prog 11 #[.agg #[.int .i64 s, .bool g], .int .i64 v, .agg #[.int .i64 m, .int .i64 n]] w fun e w' => e = .returned (.bool true) ∧ Below w.heap.size w w' := by
  go_enter Tryd.func11, Tryd.ntmps11
  have HK := Known.start w
  go_wp2_with fail
  replace HK := HK.box (vs := [.int .i64 s, .bool g]) (t := 23)
  replace HK := HK.box (vs := [.int .i64 m, .int .i64 n]) (t := 68)
  simp only [World.size_alloc] at HK
  refine (sane_c _ (hp.below HK.base)).mono ?_
  rintro e w1 ⟨rfl, hq⟩
  replace HK := HK.below hq
  clear hq
  have B_0 := HK.get 0 0 rfl rfl
  have B_1 := HK.get 0 1 rfl rfl
  have B_s := HK.lt 0 rfl
  have A_0 := HK.get 1 0 rfl rfl
  have A_1 := HK.get 1 1 rfl rfl
  have A_s := HK.lt 1 rfl
  go_wp2_with fail
  clear B_0 B_1 B_s A_0 A_1 A_s
  refine (hPr.run (hp.below HK.base)).mono ?_
  rintro e w2 ⟨rfl, hq⟩
  replace HK := HK.below hq
  clear hq
  have B_0 := HK.get 0 0 rfl rfl
  have B_1 := HK.get 0 1 rfl rfl
  have B_s := HK.lt 0 rfl
  have A_0 := HK.get 1 0 rfl rfl
  have A_1 := HK.get 1 1 rfl rfl
  have A_s := HK.lt 1 rfl
  go_wp2
  go_ret
  exact ⟨rfl, by repeat (first | exact HK.base | apply b_alloc)⟩
set_option maxHeartbeats 4000000 in
set_option maxRecDepth 100000 in
theorem shift_e1t (w : World) (hp : PlainAt w) (hPr : Gives 16 #[(.agg #[.int .i64 s, .bool g])] (.tuple #[(.agg #[.int .i64 S, .bool true]), .int .i64 0])) (h1 : ¬ m < 0) (h2 : n < 0) : Calls Tryd.prog 11 #[.agg #[.int .i64 s, .bool g], .int .i64 v, .agg #[.int .i64 m, .int .i64 n]] w fun e w' => e = .returned (.bool true) ∧ Below w.heap.size w w' := by
  go_enter Tryd.func11, Tryd.ntmps11
  have HK := Known.start w
  go_wp2_with fail
  replace HK := HK.box (vs := [.int .i64 s, .bool g]) (t := 23)
  replace HK := HK.box (vs := [.int .i64 m, .int .i64 n]) (t := 68)
  simp only [World.size_alloc] at HK
  refine (sane_c _ (hp.below HK.base)).mono ?_
  rintro e w1 ⟨rfl, hq⟩
  replace HK := HK.below hq
  clear hq
  have B_0 := HK.get 0 0 rfl rfl
  have B_1 := HK.get 0 1 rfl rfl
  have B_s := HK.lt 0 rfl
  have A_0 := HK.get 1 0 rfl rfl
  have A_1 := HK.get 1 1 rfl rfl
  have A_s := HK.lt 1 rfl
  go_wp2_with fail
  clear B_0 B_1 B_s A_0 A_1 A_s
  refine (hPr.run (hp.below HK.base)).mono ?_
  rintro e w2 ⟨rfl, hq⟩
  replace HK := HK.below hq
  clear hq
  have B_0 := HK.get 0 0 rfl rfl
  have B_1 := HK.get 0 1 rfl rfl
  have B_s := HK.lt 0 rfl
  have A_0 := HK.get 1 0 rfl rfl
  have A_1 := HK.get 1 1 rfl rfl
  have A_s := HK.lt 1 rfl
  go_wp2
  go_ret
  exact ⟨rfl, by repeat (first | exact HK.base | apply b_alloc)⟩
set_option maxHeartbeats 4000000 in
set_option maxRecDepth 100000 in
theorem shift_e2f (w : World) (hp : PlainAt w) (hPr : Gives 16 #[(.agg #[.int .i64 s, .bool g])] (.tuple #[(.agg #[.int .i64 S, .bool false]), .int .i64 0])) (h1 : ¬ m < 0) (h2 : ¬ n < 0) (h3 : 8 * S ≤ m) (hS : pB S) : Calls Tryd.prog 11 #[.agg #[.int .i64 s, .bool g], .int .i64 v, .agg #[.int .i64 m, .int .i64 n]] w fun e w' => e = .returned (.bool true) ∧ Below w.heap.size w w' := by
  go_enter Tryd.func11, Tryd.ntmps11
  have HK := Known.start w
  go_wp2_with fail
  replace HK := HK.box (vs := [.int .i64 s, .bool g]) (t := 23)
  replace HK := HK.box (vs := [.int .i64 m, .int .i64 n]) (t := 68)
  simp only [World.size_alloc] at HK
  refine (sane_c _ (hp.below HK.base)).mono ?_
  rintro e w1 ⟨rfl, hq⟩
  replace HK := HK.below hq
  clear hq
  have B_0 := HK.get 0 0 rfl rfl
  have B_1 := HK.get 0 1 rfl rfl
  have B_s := HK.lt 0 rfl
  have A_0 := HK.get 1 0 rfl rfl
  have A_1 := HK.get 1 1 rfl rfl
  have A_s := HK.lt 1 rfl
  go_wp2_with fail
  clear B_0 B_1 B_s A_0 A_1 A_s
  refine (hPr.run (hp.below HK.base)).mono ?_
  rintro e w2 ⟨rfl, hq⟩
  replace HK := HK.below hq
  clear hq
  have hS0 : -1152921504606846976 ≤ S ∧ S ≤ 1152921504606846975 := by rcases hS with rfl | rfl <;> omega
  obtain ⟨hS1, hS2⟩ := hS0
  clear hS
  have B_0 := HK.get 0 0 rfl rfl
  have B_1 := HK.get 0 1 rfl rfl
  have B_s := HK.lt 0 rfl
  have A_0 := HK.get 1 0 rfl rfl
  have A_1 := HK.get 1 1 rfl rfl
  have A_s := HK.lt 1 rfl
  go_wp2
  go_ret
  exact ⟨rfl, by repeat (first | exact HK.base | apply b_alloc)⟩
set_option maxHeartbeats 4000000 in
set_option maxRecDepth 100000 in
theorem shift_e2t (w : World) (hp : PlainAt w) (hPr : Gives 16 #[(.agg #[.int .i64 s, .bool g])] (.tuple #[(.agg #[.int .i64 S, .bool true]), .int .i64 0])) (h1 : ¬ m < 0) (h2 : ¬ n < 0) (h3 : 8 * S ≤ m) (hS : pB S) : Calls Tryd.prog 11 #[.agg #[.int .i64 s, .bool g], .int .i64 v, .agg #[.int .i64 m, .int .i64 n]] w fun e w' => e = .returned (.bool true) ∧ Below w.heap.size w w' := by
  go_enter Tryd.func11, Tryd.ntmps11
  have HK := Known.start w
  go_wp2_with fail
  replace HK := HK.box (vs := [.int .i64 s, .bool g]) (t := 23)
  replace HK := HK.box (vs := [.int .i64 m, .int .i64 n]) (t := 68)
  simp only [World.size_alloc] at HK
  refine (sane_c _ (hp.below HK.base)).mono ?_
  rintro e w1 ⟨rfl, hq⟩
  replace HK := HK.below hq
  clear hq
  have B_0 := HK.get 0 0 rfl rfl
  have B_1 := HK.get 0 1 rfl rfl
  have B_s := HK.lt 0 rfl
  have A_0 := HK.get 1 0 rfl rfl
  have A_1 := HK.get 1 1 rfl rfl
  have A_s := HK.lt 1 rfl
  go_wp2_with fail
  clear B_0 B_1 B_s A_0 A_1 A_s
  refine (hPr.run (hp.below HK.base)).mono ?_
  rintro e w2 ⟨rfl, hq⟩
  replace HK := HK.below hq
  clear hq
  have hS0 : -1152921504606846976 ≤ S ∧ S ≤ 1152921504606846975 := by rcases hS with rfl | rfl <;> omega
  obtain ⟨hS1, hS2⟩ := hS0
  clear hS
  have B_0 := HK.get 0 0 rfl rfl
  have B_1 := HK.get 0 1 rfl rfl
  have B_s := HK.lt 0 rfl
  have A_0 := HK.get 1 0 rfl rfl
  have A_1 := HK.get 1 1 rfl rfl
  have A_s := HK.lt 1 rfl
  go_wp2
  go_ret
  exact ⟨rfl, by repeat (first | exact HK.base | apply b_alloc)⟩
set_option maxHeartbeats 4000000 in
set_option maxRecDepth 100000 in
theorem shift_e3f (w : World) (hp : PlainAt w) (hPr : Gives 16 #[(.agg #[.int .i64 s, .bool g])] (.tuple #[(.agg #[.int .i64 S, .bool false]), .int .i64 0])) (h1 : ¬ m < 0) (h2 : ¬ n < 0) (h3 : ¬ 8 * S ≤ m) (h4 : 8 * S ≤ n) (hS : pB S) : Calls Tryd.prog 11 #[.agg #[.int .i64 s, .bool g], .int .i64 v, .agg #[.int .i64 m, .int .i64 n]] w fun e w' => e = .returned (.bool true) ∧ Below w.heap.size w w' := by
  go_enter Tryd.func11, Tryd.ntmps11
  have HK := Known.start w
  go_wp2_with fail
  replace HK := HK.box (vs := [.int .i64 s, .bool g]) (t := 23)
  replace HK := HK.box (vs := [.int .i64 m, .int .i64 n]) (t := 68)
  simp only [World.size_alloc] at HK
  refine (sane_c _ (hp.below HK.base)).mono ?_
  rintro e w1 ⟨rfl, hq⟩
  replace HK := HK.below hq
  clear hq
  have B_0 := HK.get 0 0 rfl rfl
  have B_1 := HK.get 0 1 rfl rfl
  have B_s := HK.lt 0 rfl
  have A_0 := HK.get 1 0 rfl rfl
  have A_1 := HK.get 1 1 rfl rfl
  have A_s := HK.lt 1 rfl
  go_wp2_with fail
  clear B_0 B_1 B_s A_0 A_1 A_s
  refine (hPr.run (hp.below HK.base)).mono ?_
  rintro e w2 ⟨rfl, hq⟩
  replace HK := HK.below hq
  clear hq
  have hS0 : -1152921504606846976 ≤ S ∧ S ≤ 1152921504606846975 := by rcases hS with rfl | rfl <;> omega
  obtain ⟨hS1, hS2⟩ := hS0
  clear hS
  have B_0 := HK.get 0 0 rfl rfl
  have B_1 := HK.get 0 1 rfl rfl
  have B_s := HK.lt 0 rfl
  have A_0 := HK.get 1 0 rfl rfl
  have A_1 := HK.get 1 1 rfl rfl
  have A_s := HK.lt 1 rfl
  go_wp2
  go_ret
  exact ⟨rfl, by repeat (first | exact HK.base | apply b_alloc)⟩
set_option maxHeartbeats 4000000 in
set_option maxRecDepth 100000 in
theorem shift_e3t (w : World) (hp : PlainAt w) (hPr : Gives 16 #[(.agg #[.int .i64 s, .bool g])] (.tuple #[(.agg #[.int .i64 S, .bool true]), .int .i64 0])) (h1 : ¬ m < 0) (h2 : ¬ n < 0) (h3 : ¬ 8 * S ≤ m) (h4 : 8 * S ≤ n) (hS : pB S) : Calls Tryd.prog 11 #[.agg #[.int .i64 s, .bool g], .int .i64 v, .agg #[.int .i64 m, .int .i64 n]] w fun e w' => e = .returned (.bool true) ∧ Below w.heap.size w w' := by
  go_enter Tryd.func11, Tryd.ntmps11
  have HK := Known.start w
  go_wp2_with fail
  replace HK := HK.box (vs := [.int .i64 s, .bool g]) (t := 23)
  replace HK := HK.box (vs := [.int .i64 m, .int .i64 n]) (t := 68)
  simp only [World.size_alloc] at HK
  refine (sane_c _ (hp.below HK.base)).mono ?_
  rintro e w1 ⟨rfl, hq⟩
  replace HK := HK.below hq
  clear hq
  have B_0 := HK.get 0 0 rfl rfl
  have B_1 := HK.get 0 1 rfl rfl
  have B_s := HK.lt 0 rfl
  have A_0 := HK.get 1 0 rfl rfl
  have A_1 := HK.get 1 1 rfl rfl
  have A_s := HK.lt 1 rfl
  go_wp2_with fail
  clear B_0 B_1 B_s A_0 A_1 A_s
  refine (hPr.run (hp.below HK.base)).mono ?_
  rintro e w2 ⟨rfl, hq⟩
  replace HK := HK.below hq
  clear hq
  have hS0 : -1152921504606846976 ≤ S ∧ S ≤ 1152921504606846975 := by rcases hS with rfl | rfl <;> omega
  obtain ⟨hS1, hS2⟩ := hS0
  clear hS
  have B_0 := HK.get 0 0 rfl rfl
  have B_1 := HK.get 0 1 rfl rfl
  have B_s := HK.lt 0 rfl
  have A_0 := HK.get 1 0 rfl rfl
  have A_1 := HK.get 1 1 rfl rfl
  have A_s := HK.lt 1 rfl
  go_wp2
  go_ret
  exact ⟨rfl, by repeat (first | exact HK.base | apply b_alloc)⟩
end
end Go.Proofs.YtfgmfkiknogdeaaDoor
