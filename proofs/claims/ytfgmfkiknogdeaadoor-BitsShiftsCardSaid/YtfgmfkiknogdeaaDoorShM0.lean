/- WHAT IS PROVED: ways of taplinelaw01.BitsShifts, over what its calls answer. CONDITIONS: the package variables 'plain' and 'promoted' hold what their initialisers lay. -/
import Derived.Test.YtfgmfkiknogdeaaDoorShA
namespace Go.Proofs.YtfgmfkiknogdeaaDoor
open Go Go.RowKit Go.QrBits
attribute [local go_sem] reg_cell reg_frozen reg_setCell reg_lt reg_lt_add reg_drew reg_of_drew quietR yieldsR

section
variable (s : Int) (g : Bool) (v m n S W Lf Rt L3 R3 pw : Int)
set_option maxHeartbeats 4000000 in
set_option maxRecDepth 100000 in
theorem shift_mf000 (w : World) (hp : PlainAt w) (hr : PromAt w) (hPr : Gives 16 #[(.agg #[.int .i64 s, .bool g])] (.tuple #[(.agg #[.int .i64 S, .bool false]), .int .i64 0])) (h1 : ¬ m < 0) (h2 : ¬ n < 0) (h3 : ¬ 8 * S ≤ m) (h4 : ¬ 8 * S ≤ n) (hS : pB S) (hL : Gives 28 #[.int .i64 9, (.agg #[.int .i64 s, .bool g]), .int .i64 v, (.agg #[.int .i64 4, .bool true]), .int .i64 m] (.tuple #[(.agg #[.int .i64 S, .bool false]), .int .i64 Lf, .int .i64 0])) (hR : Gives 28 #[.int .i64 10, (.agg #[.int .i64 s, .bool g]), .int .i64 v, (.agg #[.int .i64 4, .bool true]), .int .i64 m] (.tuple #[(.agg #[.int .i64 S, .bool false]), .int .i64 Rt, .int .i64 0])) (hW : Gives 41 #[(.agg #[.int .i64 s, .bool g]), .int .i64 v] (.int .i64 W)) (hM : Gives 28 #[.int .i64 3, (.agg #[.int .i64 S, .bool false]), .int .i64 W, (.agg #[.int .i64 S, .bool false]), .int .i64 (wrap64 (2 ^ m.toNat))] (.tuple #[(.agg #[.int .i64 S, .bool false]), .int .i64 Lf, .int .i64 0])) (hQ : Gives 28 #[.int .i64 4, (.agg #[.int .i64 S, .bool false]), .int .i64 W, (.agg #[.int .i64 S, .bool false]), .int .i64 (wrap64 (2 ^ m.toNat))] (.tuple #[(.agg #[.int .i64 S, .bool false]), .int .i64 Rt, .int .i64 0])) (hbw : decide (0 ≤ W) = false) (hbm : decide (m < 8 * S - 1) = false) (hs : ¬ 8 * S ≤ m + n) (hL2 : Gives 28 #[.int .i64 9, (.agg #[.int .i64 S, .bool false]), .int .i64 Lf, (.agg #[.int .i64 4, .bool true]), .int .i64 n] (.tuple #[(.agg #[.int .i64 S, .bool false]), .int .i64 L3, .int .i64 0])) (hR2 : Gives 28 #[.int .i64 10, (.agg #[.int .i64 S, .bool false]), .int .i64 Rt, (.agg #[.int .i64 4, .bool true]), .int .i64 n] (.tuple #[(.agg #[.int .i64 S, .bool false]), .int .i64 R3, .int .i64 0])) (hL3 : Gives 28 #[.int .i64 9, (.agg #[.int .i64 s, .bool g]), .int .i64 v, (.agg #[.int .i64 4, .bool true]), .int .i64 (m + n)] (.tuple #[(.agg #[.int .i64 S, .bool false]), .int .i64 L3, .int .i64 0])) (hR3 : Gives 28 #[.int .i64 10, (.agg #[.int .i64 s, .bool g]), .int .i64 v, (.agg #[.int .i64 4, .bool true]), .int .i64 (m + n)] (.tuple #[(.agg #[.int .i64 S, .bool false]), .int .i64 R3, .int .i64 0])) : Calls Tryd.prog 11 #[.agg #[.int .i64 s, .bool g], .int .i64 v, .agg #[.int .i64 m, .int .i64 n]] w fun e w' => e = .returned (.bool true) ∧ Below w.heap.size w w' := by
  go_enter Tryd.func11, Tryd.ntmps11
  have HK := Known.start w
  go_wp2_with fail
  replace HK := HK.box (vs := [.int .i64 s, .bool g]) (t := 23)
  replace HK := HK.box (vs := [.int .i64 m, .int .i64 n]) (t := 68)
  simp only [World.size_alloc] at HK
  refine (sane_c _ (hp.below HK.base)).mono ?_
  rintro e w1 ⟨rfl, hq⟩
  replace HK := HK.below hq
  clear hq
  have hS0 : -1152921504606846976 ≤ S ∧ S ≤ 1152921504606846975 ∧ m ≤ 63 ∧ n ≤ 63 := by rcases hS with rfl | rfl <;> omega
  obtain ⟨hS1, hS2, hm63, hn63⟩ := hS0
  clear hS
  have B_0 := HK.get 0 0 rfl rfl
  have B_1 := HK.get 0 1 rfl rfl
  have B_s := HK.lt 0 rfl
  have A_0 := HK.get 1 0 rfl rfl
  have A_1 := HK.get 1 1 rfl rfl
  have A_s := HK.lt 1 rfl
  go_wp2_with fail
  clear B_0 B_1 B_s A_0 A_1 A_s
  refine (hPr.run (hp.below HK.base)).mono ?_
  rintro e w2 ⟨rfl, hq⟩
  replace HK := HK.below hq
  clear hq
  have B_0 := HK.get 0 0 rfl rfl
  have B_1 := HK.get 0 1 rfl rfl
  have B_s := HK.lt 0 rfl
  have A_0 := HK.get 1 0 rfl rfl
  have A_1 := HK.get 1 1 rfl rfl
  have A_s := HK.lt 1 rfl
  go_wp2_with fail
  replace HK := HK.box (vs := [.int .i64 S, .bool false]) (t := 23)
  refine wp_own23 (n := 13) (ia := 10) (is := 11) (d := 11) (x := 85) (s := S) (g := false) (N := 246) rfl (by decide) (by decide) (by kernel_rfl) rfl rfl rfl rfl rfl rfl rfl rfl ?_
  simp only [List.take_succ_cons, List.take_zero, List.drop_succ_cons, List.drop_zero]
  repeat (first
    | (refine wpX_out (by decide) ?_)
    | (refine wpX_step (by decide) (fun K hK => ?_); go_simp; first | (refine hK _ ?_; clear hK K) | (apply Exists.intro; refine ⟨fun p => ?_, hK _ ?_⟩; (first | (go_at_call 42; with_reducible exact I4_c _ (hr.below HK.reg.base)) | (go_at_call 28; with_reducible exact hL.run (hp.below HK.reg.base))); clear hK K)))
  refine wpX_nil ⟨rfl, fun p1 p2 => ?_⟩
  simp only [Act.put, ptrOf, List.setIfInBounds_toArray, List.set_cons_zero, List.set_cons_succ]
  clear B_0 B_1 B_s A_0 A_1 A_s
  replace HK := HK.own (vs := [.int .i64 S, .bool false]) (t := 23) (p1 := p1) (p2 := p2)
  generalize reg ((reg (w2.alloc (.cells #[.int .i64 S, .bool false] 23)) p1).alloc (.cells #[.int .i64 S, .bool false] 23)) p2 = w3 at *
  generalize (reg (w2.alloc (.cells #[.int .i64 S, .bool false] 23)) p1).heap.size = b3 at *
  have U_0 := HK.get 0 0 rfl rfl
  have U_1 := HK.get 0 1 rfl rfl
  have U_s := HK.lt 0 rfl
  have P_0 := HK.get 1 0 rfl rfl
  have P_1 := HK.get 1 1 rfl rfl
  have P_s := HK.lt 1 rfl
  have B_0 := HK.get 2 0 rfl rfl
  have B_1 := HK.get 2 1 rfl rfl
  have B_s := HK.lt 2 rfl
  have A_0 := HK.get 3 0 rfl rfl
  have A_1 := HK.get 3 1 rfl rfl
  have A_s := HK.lt 3 rfl
  go_wp2_with fail
  refine wp_own23 (n := 13) (ia := 10) (is := 11) (d := 14) (x := 95) (s := S) (g := false) (N := 246) rfl (by decide) (by decide) (by kernel_rfl) rfl rfl rfl rfl rfl rfl rfl rfl ?_
  simp only [List.take_succ_cons, List.take_zero, List.drop_succ_cons, List.drop_zero]
  repeat (first
    | (refine wpX_out (by decide) ?_)
    | (refine wpX_step (by decide) (fun K hK => ?_); go_simp; first | (refine hK _ ?_; clear hK K) | (apply Exists.intro; refine ⟨fun p => ?_, hK _ ?_⟩; (first | (go_at_call 42; with_reducible exact I4_c _ (hr.below HK.reg.base)) | (go_at_call 28; with_reducible exact hR.run (hp.below HK.reg.base))); clear hK K)))
  refine wpX_nil ⟨rfl, fun p1 p2 => ?_⟩
  simp only [Act.put, ptrOf, List.setIfInBounds_toArray, List.set_cons_zero, List.set_cons_succ]
  clear U_0 U_1 U_s P_0 P_1 P_s B_0 B_1 B_s A_0 A_1 A_s
  replace HK := HK.own (vs := [.int .i64 S, .bool false]) (t := 23) (p1 := p1) (p2 := p2)
  generalize reg ((reg w3 p1).alloc (.cells #[.int .i64 S, .bool false] 23)) p2 = w4 at *
  generalize (reg w3 p1).heap.size = b4 at *
  replace HK := HK.drop
  have U_0 := HK.get 0 0 rfl rfl
  have U_1 := HK.get 0 1 rfl rfl
  have U_s := HK.lt 0 rfl
  have P_0 := HK.get 1 0 rfl rfl
  have P_1 := HK.get 1 1 rfl rfl
  have P_s := HK.lt 1 rfl
  have B_0 := HK.get 2 0 rfl rfl
  have B_1 := HK.get 2 1 rfl rfl
  have B_s := HK.lt 2 rfl
  have A_0 := HK.get 3 0 rfl rfl
  have A_1 := HK.get 3 1 rfl rfl
  have A_s := HK.lt 3 rfl
  go_wp2_with fail
  clear U_0 U_1 U_s P_0 P_1 P_s B_0 B_1 B_s A_0 A_1 A_s
  refine (hW.run (hp.below HK.base)).mono ?_
  rintro e w5 ⟨rfl, hq⟩
  replace HK := HK.below hq
  clear hq
  have U_0 := HK.get 0 0 rfl rfl
  have U_1 := HK.get 0 1 rfl rfl
  have U_s := HK.lt 0 rfl
  have P_0 := HK.get 1 0 rfl rfl
  have P_1 := HK.get 1 1 rfl rfl
  have P_s := HK.lt 1 rfl
  have B_0 := HK.get 2 0 rfl rfl
  have B_1 := HK.get 2 1 rfl rfl
  have B_s := HK.lt 2 rfl
  have A_0 := HK.get 3 0 rfl rfl
  have A_1 := HK.get 3 1 rfl rfl
  have A_s := HK.lt 3 rfl
  go_wp2_with fail
  clear U_0 U_1 U_s P_0 P_1 P_s B_0 B_1 B_s A_0 A_1 A_s
  refine (hM.run (hp.below HK.base)).mono ?_
  rintro e w6 ⟨rfl, hq⟩
  replace HK := HK.below hq
  clear hq
  have U_0 := HK.get 0 0 rfl rfl
  have U_1 := HK.get 0 1 rfl rfl
  have U_s := HK.lt 0 rfl
  have P_0 := HK.get 1 0 rfl rfl
  have P_1 := HK.get 1 1 rfl rfl
  have P_s := HK.lt 1 rfl
  have B_0 := HK.get 2 0 rfl rfl
  have B_1 := HK.get 2 1 rfl rfl
  have B_s := HK.lt 2 rfl
  have A_0 := HK.get 3 0 rfl rfl
  have A_1 := HK.get 3 1 rfl rfl
  have A_s := HK.lt 3 rfl
  go_wp2_with fail
  replace HK := HK.alloc (o := (.cells #[.int .i64 S, .bool false] 23))
  clear U_0 U_1 U_s P_0 P_1 P_s B_0 B_1 B_s A_0 A_1 A_s
  refine (hQ.run (hp.below HK.base)).mono ?_
  rintro e w7 ⟨rfl, hq⟩
  replace HK := HK.below hq
  clear hq
  have U_0 := HK.get 0 0 rfl rfl
  have U_1 := HK.get 0 1 rfl rfl
  have U_s := HK.lt 0 rfl
  have P_0 := HK.get 1 0 rfl rfl
  have P_1 := HK.get 1 1 rfl rfl
  have P_s := HK.lt 1 rfl
  have B_0 := HK.get 2 0 rfl rfl
  have B_1 := HK.get 2 1 rfl rfl
  have B_s := HK.lt 2 rfl
  have A_0 := HK.get 3 0 rfl rfl
  have A_1 := HK.get 3 1 rfl rfl
  have A_s := HK.lt 3 rfl
  go_wp2_with fail
  replace HK := HK.alloc (o := (.cells #[.int .i64 S, .bool false] 23))
  refine wp_own23 (n := 13) (ia := 10) (is := 11) (d := 24) (x := 183) (s := S) (g := false) (N := 246) rfl (by decide) (by decide) (by kernel_rfl) rfl rfl rfl rfl rfl rfl rfl rfl ?_
  simp only [List.take_succ_cons, List.take_zero, List.drop_succ_cons, List.drop_zero]
  repeat (first
    | (refine wpX_out (by decide) ?_)
    | (refine wpX_step (by decide) (fun K hK => ?_); go_simp; first | (refine hK _ ?_; clear hK K) | (apply Exists.intro; refine ⟨fun p => ?_, hK _ ?_⟩; (first | (go_at_call 42; with_reducible exact I4_c _ (hr.below HK.reg.base)) | (go_at_call 28; with_reducible exact hL2.run (hp.below HK.reg.base))); clear hK K)))
  refine wpX_nil ⟨rfl, fun p1 p2 => ?_⟩
  simp only [Act.put, ptrOf, List.setIfInBounds_toArray, List.set_cons_zero, List.set_cons_succ]
  clear U_0 U_1 U_s P_0 P_1 P_s B_0 B_1 B_s A_0 A_1 A_s
  replace HK := HK.own (vs := [.int .i64 S, .bool false]) (t := 23) (p1 := p1) (p2 := p2)
  generalize reg ((reg (w7.alloc (.cells #[.int .i64 S, .bool false] 23)) p1).alloc (.cells #[.int .i64 S, .bool false] 23)) p2 = w8 at *
  generalize (reg (w7.alloc (.cells #[.int .i64 S, .bool false] 23)) p1).heap.size = b8 at *
  replace HK := HK.drop
  have U_0 := HK.get 0 0 rfl rfl
  have U_1 := HK.get 0 1 rfl rfl
  have U_s := HK.lt 0 rfl
  have P_0 := HK.get 1 0 rfl rfl
  have P_1 := HK.get 1 1 rfl rfl
  have P_s := HK.lt 1 rfl
  have B_0 := HK.get 2 0 rfl rfl
  have B_1 := HK.get 2 1 rfl rfl
  have B_s := HK.lt 2 rfl
  have A_0 := HK.get 3 0 rfl rfl
  have A_1 := HK.get 3 1 rfl rfl
  have A_s := HK.lt 3 rfl
  go_wp2_with fail
  refine wp_own23 (n := 13) (ia := 10) (is := 11) (d := 27) (x := 193) (s := S) (g := false) (N := 246) rfl (by decide) (by decide) (by kernel_rfl) rfl rfl rfl rfl rfl rfl rfl rfl ?_
  simp only [List.take_succ_cons, List.take_zero, List.drop_succ_cons, List.drop_zero]
  repeat (first
    | (refine wpX_out (by decide) ?_)
    | (refine wpX_step (by decide) (fun K hK => ?_); go_simp; first | (refine hK _ ?_; clear hK K) | (apply Exists.intro; refine ⟨fun p => ?_, hK _ ?_⟩; (first | (go_at_call 42; with_reducible exact I4_c _ (hr.below HK.reg.base)) | (go_at_call 28; with_reducible exact hR2.run (hp.below HK.reg.base))); clear hK K)))
  refine wpX_nil ⟨rfl, fun p1 p2 => ?_⟩
  simp only [Act.put, ptrOf, List.setIfInBounds_toArray, List.set_cons_zero, List.set_cons_succ]
  clear U_0 U_1 U_s P_0 P_1 P_s B_0 B_1 B_s A_0 A_1 A_s
  replace HK := HK.own (vs := [.int .i64 S, .bool false]) (t := 23) (p1 := p1) (p2 := p2)
  generalize reg ((reg w8 p1).alloc (.cells #[.int .i64 S, .bool false] 23)) p2 = w9 at *
  generalize (reg w8 p1).heap.size = b9 at *
  replace HK := HK.drop
  have hsum : IntKind.i64.wrap (m + n) = m + n := IntWalk.i64_in _ (by omega)
  have hsum0 : 0 ≤ m + n := by omega
  have U_0 := HK.get 0 0 rfl rfl
  have U_1 := HK.get 0 1 rfl rfl
  have U_s := HK.lt 0 rfl
  have P_0 := HK.get 1 0 rfl rfl
  have P_1 := HK.get 1 1 rfl rfl
  have P_s := HK.lt 1 rfl
  have B_0 := HK.get 2 0 rfl rfl
  have B_1 := HK.get 2 1 rfl rfl
  have B_s := HK.lt 2 rfl
  have A_0 := HK.get 3 0 rfl rfl
  have A_1 := HK.get 3 1 rfl rfl
  have A_s := HK.lt 3 rfl
  go_wp2_with fail
  refine wp_own23 (n := 16) (ia := 13) (is := 14) (d := 30) (x := 206) (s := S) (g := false) (N := 246) rfl (by decide) (by decide) (by kernel_rfl) rfl rfl rfl rfl rfl rfl rfl rfl ?_
  simp only [List.take_succ_cons, List.take_zero, List.drop_succ_cons, List.drop_zero]
  repeat (first
    | (refine wpX_out (by decide) ?_)
    | (refine wpX_step (by decide) (fun K hK => ?_); go_simp; first | (refine hK _ ?_; clear hK K) | (apply Exists.intro; refine ⟨fun p => ?_, hK _ ?_⟩; (first | (go_at_call 42; with_reducible exact I4_c _ (hr.below HK.reg.base)) | (go_at_call 28; with_reducible exact hL3.run (hp.below HK.reg.base))); clear hK K)))
  refine wpX_nil ⟨rfl, fun p1 p2 => ?_⟩
  simp only [Act.put, ptrOf, List.setIfInBounds_toArray, List.set_cons_zero, List.set_cons_succ]
  clear U_0 U_1 U_s P_0 P_1 P_s B_0 B_1 B_s A_0 A_1 A_s
  replace HK := HK.own (vs := [.int .i64 S, .bool false]) (t := 23) (p1 := p1) (p2 := p2)
  generalize reg ((reg w9 p1).alloc (.cells #[.int .i64 S, .bool false] 23)) p2 = w10 at *
  generalize (reg w9 p1).heap.size = b10 at *
  replace HK := HK.drop
  have U_0 := HK.get 0 0 rfl rfl
  have U_1 := HK.get 0 1 rfl rfl
  have U_s := HK.lt 0 rfl
  have P_0 := HK.get 1 0 rfl rfl
  have P_1 := HK.get 1 1 rfl rfl
  have P_s := HK.lt 1 rfl
  have B_0 := HK.get 2 0 rfl rfl
  have B_1 := HK.get 2 1 rfl rfl
  have B_s := HK.lt 2 rfl
  have A_0 := HK.get 3 0 rfl rfl
  have A_1 := HK.get 3 1 rfl rfl
  have A_s := HK.lt 3 rfl
  go_wp2_with fail
  refine wp_own23 (n := 16) (ia := 13) (is := 14) (d := 33) (x := 219) (s := S) (g := false) (N := 246) rfl (by decide) (by decide) (by kernel_rfl) rfl rfl rfl rfl rfl rfl rfl rfl ?_
  simp only [List.take_succ_cons, List.take_zero, List.drop_succ_cons, List.drop_zero]
  repeat (first
    | (refine wpX_out (by decide) ?_)
    | (refine wpX_step (by decide) (fun K hK => ?_); go_simp; first | (refine hK _ ?_; clear hK K) | (apply Exists.intro; refine ⟨fun p => ?_, hK _ ?_⟩; (first | (go_at_call 42; with_reducible exact I4_c _ (hr.below HK.reg.base)) | (go_at_call 28; with_reducible exact hR3.run (hp.below HK.reg.base))); clear hK K)))
  refine wpX_nil ⟨rfl, fun p1 p2 => ?_⟩
  simp only [Act.put, ptrOf, List.setIfInBounds_toArray, List.set_cons_zero, List.set_cons_succ]
  clear U_0 U_1 U_s P_0 P_1 P_s B_0 B_1 B_s A_0 A_1 A_s
  replace HK := HK.own (vs := [.int .i64 S, .bool false]) (t := 23) (p1 := p1) (p2 := p2)
  generalize reg ((reg w10 p1).alloc (.cells #[.int .i64 S, .bool false] 23)) p2 = w11 at *
  generalize (reg w10 p1).heap.size = b11 at *
  replace HK := HK.drop
  have U_0 := HK.get 0 0 rfl rfl
  have U_1 := HK.get 0 1 rfl rfl
  have U_s := HK.lt 0 rfl
  have P_0 := HK.get 1 0 rfl rfl
  have P_1 := HK.get 1 1 rfl rfl
  have P_s := HK.lt 1 rfl
  have B_0 := HK.get 2 0 rfl rfl
  have B_1 := HK.get 2 1 rfl rfl
  have B_s := HK.lt 2 rfl
  have A_0 := HK.get 3 0 rfl rfl
  have A_1 := HK.get 3 1 rfl rfl
  have A_s := HK.lt 3 rfl
  go_wp2
  go_ret
  exact ⟨rfl, by repeat (first | exact HK.base | apply b_alloc)⟩
set_option maxHeartbeats 4000000 in
set_option maxRecDepth 100000 in
theorem shift_mf010 (w : World) (hp : PlainAt w) (hr : PromAt w) (hPr : Gives 16 #[(.agg #[.int .i64 s, .bool g])] (.tuple #[(.agg #[.int .i64 S, .bool false]), .int .i64 0])) (h1 : ¬ m < 0) (h2 : ¬ n < 0) (h3 : ¬ 8 * S ≤ m) (h4 : ¬ 8 * S ≤ n) (hS : pB S) (hL : Gives 28 #[.int .i64 9, (.agg #[.int .i64 s, .bool g]), .int .i64 v, (.agg #[.int .i64 4, .bool true]), .int .i64 m] (.tuple #[(.agg #[.int .i64 S, .bool false]), .int .i64 Lf, .int .i64 0])) (hR : Gives 28 #[.int .i64 10, (.agg #[.int .i64 s, .bool g]), .int .i64 v, (.agg #[.int .i64 4, .bool true]), .int .i64 m] (.tuple #[(.agg #[.int .i64 S, .bool false]), .int .i64 Rt, .int .i64 0])) (hW : Gives 41 #[(.agg #[.int .i64 s, .bool g]), .int .i64 v] (.int .i64 W)) (hM : Gives 28 #[.int .i64 3, (.agg #[.int .i64 S, .bool false]), .int .i64 W, (.agg #[.int .i64 S, .bool false]), .int .i64 (wrap64 (2 ^ m.toNat))] (.tuple #[(.agg #[.int .i64 S, .bool false]), .int .i64 Lf, .int .i64 0])) (hQ : Gives 28 #[.int .i64 4, (.agg #[.int .i64 S, .bool false]), .int .i64 W, (.agg #[.int .i64 S, .bool false]), .int .i64 (wrap64 (2 ^ m.toNat))] (.tuple #[(.agg #[.int .i64 S, .bool false]), .int .i64 Rt, .int .i64 0])) (hbw : decide (0 ≤ W) = false) (hbm : decide (m < 8 * S - 1) = true) (hs : ¬ 8 * S ≤ m + n) (hL2 : Gives 28 #[.int .i64 9, (.agg #[.int .i64 S, .bool false]), .int .i64 Lf, (.agg #[.int .i64 4, .bool true]), .int .i64 n] (.tuple #[(.agg #[.int .i64 S, .bool false]), .int .i64 L3, .int .i64 0])) (hR2 : Gives 28 #[.int .i64 10, (.agg #[.int .i64 S, .bool false]), .int .i64 Rt, (.agg #[.int .i64 4, .bool true]), .int .i64 n] (.tuple #[(.agg #[.int .i64 S, .bool false]), .int .i64 R3, .int .i64 0])) (hL3 : Gives 28 #[.int .i64 9, (.agg #[.int .i64 s, .bool g]), .int .i64 v, (.agg #[.int .i64 4, .bool true]), .int .i64 (m + n)] (.tuple #[(.agg #[.int .i64 S, .bool false]), .int .i64 L3, .int .i64 0])) (hR3 : Gives 28 #[.int .i64 10, (.agg #[.int .i64 s, .bool g]), .int .i64 v, (.agg #[.int .i64 4, .bool true]), .int .i64 (m + n)] (.tuple #[(.agg #[.int .i64 S, .bool false]), .int .i64 R3, .int .i64 0])) : Calls Tryd.prog 11 #[.agg #[.int .i64 s, .bool g], .int .i64 v, .agg #[.int .i64 m, .int .i64 n]] w fun e w' => e = .returned (.bool true) ∧ Below w.heap.size w w' := by
  go_enter Tryd.func11, Tryd.ntmps11
  have HK := Known.start w
  go_wp2_with fail
  replace HK := HK.box (vs := [.int .i64 s, .bool g]) (t := 23)
  replace HK := HK.box (vs := [.int .i64 m, .int .i64 n]) (t := 68)
  simp only [World.size_alloc] at HK
  refine (sane_c _ (hp.below HK.base)).mono ?_
  rintro e w1 ⟨rfl, hq⟩
  replace HK := HK.below hq
  clear hq
  have hS0 : -1152921504606846976 ≤ S ∧ S ≤ 1152921504606846975 ∧ m ≤ 63 ∧ n ≤ 63 := by rcases hS with rfl | rfl <;> omega
  obtain ⟨hS1, hS2, hm63, hn63⟩ := hS0
  clear hS
  have B_0 := HK.get 0 0 rfl rfl
  have B_1 := HK.get 0 1 rfl rfl
  have B_s := HK.lt 0 rfl
  have A_0 := HK.get 1 0 rfl rfl
  have A_1 := HK.get 1 1 rfl rfl
  have A_s := HK.lt 1 rfl
  go_wp2_with fail
  clear B_0 B_1 B_s A_0 A_1 A_s
  refine (hPr.run (hp.below HK.base)).mono ?_
  rintro e w2 ⟨rfl, hq⟩
  replace HK := HK.below hq
  clear hq
  have B_0 := HK.get 0 0 rfl rfl
  have B_1 := HK.get 0 1 rfl rfl
  have B_s := HK.lt 0 rfl
  have A_0 := HK.get 1 0 rfl rfl
  have A_1 := HK.get 1 1 rfl rfl
  have A_s := HK.lt 1 rfl
  go_wp2_with fail
  replace HK := HK.box (vs := [.int .i64 S, .bool false]) (t := 23)
  refine wp_own23 (n := 13) (ia := 10) (is := 11) (d := 11) (x := 85) (s := S) (g := false) (N := 246) rfl (by decide) (by decide) (by kernel_rfl) rfl rfl rfl rfl rfl rfl rfl rfl ?_
  simp only [List.take_succ_cons, List.take_zero, List.drop_succ_cons, List.drop_zero]
  repeat (first
    | (refine wpX_out (by decide) ?_)
    | (refine wpX_step (by decide) (fun K hK => ?_); go_simp; first | (refine hK _ ?_; clear hK K) | (apply Exists.intro; refine ⟨fun p => ?_, hK _ ?_⟩; (first | (go_at_call 42; with_reducible exact I4_c _ (hr.below HK.reg.base)) | (go_at_call 28; with_reducible exact hL.run (hp.below HK.reg.base))); clear hK K)))
  refine wpX_nil ⟨rfl, fun p1 p2 => ?_⟩
  simp only [Act.put, ptrOf, List.setIfInBounds_toArray, List.set_cons_zero, List.set_cons_succ]
  clear B_0 B_1 B_s A_0 A_1 A_s
  replace HK := HK.own (vs := [.int .i64 S, .bool false]) (t := 23) (p1 := p1) (p2 := p2)
  generalize reg ((reg (w2.alloc (.cells #[.int .i64 S, .bool false] 23)) p1).alloc (.cells #[.int .i64 S, .bool false] 23)) p2 = w3 at *
  generalize (reg (w2.alloc (.cells #[.int .i64 S, .bool false] 23)) p1).heap.size = b3 at *
  have U_0 := HK.get 0 0 rfl rfl
  have U_1 := HK.get 0 1 rfl rfl
  have U_s := HK.lt 0 rfl
  have P_0 := HK.get 1 0 rfl rfl
  have P_1 := HK.get 1 1 rfl rfl
  have P_s := HK.lt 1 rfl
  have B_0 := HK.get 2 0 rfl rfl
  have B_1 := HK.get 2 1 rfl rfl
  have B_s := HK.lt 2 rfl
  have A_0 := HK.get 3 0 rfl rfl
  have A_1 := HK.get 3 1 rfl rfl
  have A_s := HK.lt 3 rfl
  go_wp2_with fail
  refine wp_own23 (n := 13) (ia := 10) (is := 11) (d := 14) (x := 95) (s := S) (g := false) (N := 246) rfl (by decide) (by decide) (by kernel_rfl) rfl rfl rfl rfl rfl rfl rfl rfl ?_
  simp only [List.take_succ_cons, List.take_zero, List.drop_succ_cons, List.drop_zero]
  repeat (first
    | (refine wpX_out (by decide) ?_)
    | (refine wpX_step (by decide) (fun K hK => ?_); go_simp; first | (refine hK _ ?_; clear hK K) | (apply Exists.intro; refine ⟨fun p => ?_, hK _ ?_⟩; (first | (go_at_call 42; with_reducible exact I4_c _ (hr.below HK.reg.base)) | (go_at_call 28; with_reducible exact hR.run (hp.below HK.reg.base))); clear hK K)))
  refine wpX_nil ⟨rfl, fun p1 p2 => ?_⟩
  simp only [Act.put, ptrOf, List.setIfInBounds_toArray, List.set_cons_zero, List.set_cons_succ]
  clear U_0 U_1 U_s P_0 P_1 P_s B_0 B_1 B_s A_0 A_1 A_s
  replace HK := HK.own (vs := [.int .i64 S, .bool false]) (t := 23) (p1 := p1) (p2 := p2)
  generalize reg ((reg w3 p1).alloc (.cells #[.int .i64 S, .bool false] 23)) p2 = w4 at *
  generalize (reg w3 p1).heap.size = b4 at *
  replace HK := HK.drop
  have U_0 := HK.get 0 0 rfl rfl
  have U_1 := HK.get 0 1 rfl rfl
  have U_s := HK.lt 0 rfl
  have P_0 := HK.get 1 0 rfl rfl
  have P_1 := HK.get 1 1 rfl rfl
  have P_s := HK.lt 1 rfl
  have B_0 := HK.get 2 0 rfl rfl
  have B_1 := HK.get 2 1 rfl rfl
  have B_s := HK.lt 2 rfl
  have A_0 := HK.get 3 0 rfl rfl
  have A_1 := HK.get 3 1 rfl rfl
  have A_s := HK.lt 3 rfl
  go_wp2_with fail
  clear U_0 U_1 U_s P_0 P_1 P_s B_0 B_1 B_s A_0 A_1 A_s
  refine (hW.run (hp.below HK.base)).mono ?_
  rintro e w5 ⟨rfl, hq⟩
  replace HK := HK.below hq
  clear hq
  have U_0 := HK.get 0 0 rfl rfl
  have U_1 := HK.get 0 1 rfl rfl
  have U_s := HK.lt 0 rfl
  have P_0 := HK.get 1 0 rfl rfl
  have P_1 := HK.get 1 1 rfl rfl
  have P_s := HK.lt 1 rfl
  have B_0 := HK.get 2 0 rfl rfl
  have B_1 := HK.get 2 1 rfl rfl
  have B_s := HK.lt 2 rfl
  have A_0 := HK.get 3 0 rfl rfl
  have A_1 := HK.get 3 1 rfl rfl
  have A_s := HK.lt 3 rfl
  go_wp2_with fail
  clear U_0 U_1 U_s P_0 P_1 P_s B_0 B_1 B_s A_0 A_1 A_s
  refine (hM.run (hp.below HK.base)).mono ?_
  rintro e w6 ⟨rfl, hq⟩
  replace HK := HK.below hq
  clear hq
  have U_0 := HK.get 0 0 rfl rfl
  have U_1 := HK.get 0 1 rfl rfl
  have U_s := HK.lt 0 rfl
  have P_0 := HK.get 1 0 rfl rfl
  have P_1 := HK.get 1 1 rfl rfl
  have P_s := HK.lt 1 rfl
  have B_0 := HK.get 2 0 rfl rfl
  have B_1 := HK.get 2 1 rfl rfl
  have B_s := HK.lt 2 rfl
  have A_0 := HK.get 3 0 rfl rfl
  have A_1 := HK.get 3 1 rfl rfl
  have A_s := HK.lt 3 rfl
  go_wp2_with fail
  replace HK := HK.alloc (o := (.cells #[.int .i64 S, .bool false] 23))
  clear U_0 U_1 U_s P_0 P_1 P_s B_0 B_1 B_s A_0 A_1 A_s
  refine (hQ.run (hp.below HK.base)).mono ?_
  rintro e w7 ⟨rfl, hq⟩
  replace HK := HK.below hq
  clear hq
  have U_0 := HK.get 0 0 rfl rfl
  have U_1 := HK.get 0 1 rfl rfl
  have U_s := HK.lt 0 rfl
  have P_0 := HK.get 1 0 rfl rfl
  have P_1 := HK.get 1 1 rfl rfl
  have P_s := HK.lt 1 rfl
  have B_0 := HK.get 2 0 rfl rfl
  have B_1 := HK.get 2 1 rfl rfl
  have B_s := HK.lt 2 rfl
  have A_0 := HK.get 3 0 rfl rfl
  have A_1 := HK.get 3 1 rfl rfl
  have A_s := HK.lt 3 rfl
  go_wp2_with fail
  replace HK := HK.alloc (o := (.cells #[.int .i64 S, .bool false] 23))
  refine wp_own23 (n := 13) (ia := 10) (is := 11) (d := 24) (x := 183) (s := S) (g := false) (N := 246) rfl (by decide) (by decide) (by kernel_rfl) rfl rfl rfl rfl rfl rfl rfl rfl ?_
  simp only [List.take_succ_cons, List.take_zero, List.drop_succ_cons, List.drop_zero]
  repeat (first
    | (refine wpX_out (by decide) ?_)
    | (refine wpX_step (by decide) (fun K hK => ?_); go_simp; first | (refine hK _ ?_; clear hK K) | (apply Exists.intro; refine ⟨fun p => ?_, hK _ ?_⟩; (first | (go_at_call 42; with_reducible exact I4_c _ (hr.below HK.reg.base)) | (go_at_call 28; with_reducible exact hL2.run (hp.below HK.reg.base))); clear hK K)))
  refine wpX_nil ⟨rfl, fun p1 p2 => ?_⟩
  simp only [Act.put, ptrOf, List.setIfInBounds_toArray, List.set_cons_zero, List.set_cons_succ]
  clear U_0 U_1 U_s P_0 P_1 P_s B_0 B_1 B_s A_0 A_1 A_s
  replace HK := HK.own (vs := [.int .i64 S, .bool false]) (t := 23) (p1 := p1) (p2 := p2)
  generalize reg ((reg (w7.alloc (.cells #[.int .i64 S, .bool false] 23)) p1).alloc (.cells #[.int .i64 S, .bool false] 23)) p2 = w8 at *
  generalize (reg (w7.alloc (.cells #[.int .i64 S, .bool false] 23)) p1).heap.size = b8 at *
  replace HK := HK.drop
  have U_0 := HK.get 0 0 rfl rfl
  have U_1 := HK.get 0 1 rfl rfl
  have U_s := HK.lt 0 rfl
  have P_0 := HK.get 1 0 rfl rfl
  have P_1 := HK.get 1 1 rfl rfl
  have P_s := HK.lt 1 rfl
  have B_0 := HK.get 2 0 rfl rfl
  have B_1 := HK.get 2 1 rfl rfl
  have B_s := HK.lt 2 rfl
  have A_0 := HK.get 3 0 rfl rfl
  have A_1 := HK.get 3 1 rfl rfl
  have A_s := HK.lt 3 rfl
  go_wp2_with fail
  refine wp_own23 (n := 13) (ia := 10) (is := 11) (d := 27) (x := 193) (s := S) (g := false) (N := 246) rfl (by decide) (by decide) (by kernel_rfl) rfl rfl rfl rfl rfl rfl rfl rfl ?_
  simp only [List.take_succ_cons, List.take_zero, List.drop_succ_cons, List.drop_zero]
  repeat (first
    | (refine wpX_out (by decide) ?_)
    | (refine wpX_step (by decide) (fun K hK => ?_); go_simp; first | (refine hK _ ?_; clear hK K) | (apply Exists.intro; refine ⟨fun p => ?_, hK _ ?_⟩; (first | (go_at_call 42; with_reducible exact I4_c _ (hr.below HK.reg.base)) | (go_at_call 28; with_reducible exact hR2.run (hp.below HK.reg.base))); clear hK K)))
  refine wpX_nil ⟨rfl, fun p1 p2 => ?_⟩
  simp only [Act.put, ptrOf, List.setIfInBounds_toArray, List.set_cons_zero, List.set_cons_succ]
  clear U_0 U_1 U_s P_0 P_1 P_s B_0 B_1 B_s A_0 A_1 A_s
  replace HK := HK.own (vs := [.int .i64 S, .bool false]) (t := 23) (p1 := p1) (p2 := p2)
  generalize reg ((reg w8 p1).alloc (.cells #[.int .i64 S, .bool false] 23)) p2 = w9 at *
  generalize (reg w8 p1).heap.size = b9 at *
  replace HK := HK.drop
  have hsum : IntKind.i64.wrap (m + n) = m + n := IntWalk.i64_in _ (by omega)
  have hsum0 : 0 ≤ m + n := by omega
  have U_0 := HK.get 0 0 rfl rfl
  have U_1 := HK.get 0 1 rfl rfl
  have U_s := HK.lt 0 rfl
  have P_0 := HK.get 1 0 rfl rfl
  have P_1 := HK.get 1 1 rfl rfl
  have P_s := HK.lt 1 rfl
  have B_0 := HK.get 2 0 rfl rfl
  have B_1 := HK.get 2 1 rfl rfl
  have B_s := HK.lt 2 rfl
  have A_0 := HK.get 3 0 rfl rfl
  have A_1 := HK.get 3 1 rfl rfl
  have A_s := HK.lt 3 rfl
  go_wp2_with fail
  refine wp_own23 (n := 16) (ia := 13) (is := 14) (d := 30) (x := 206) (s := S) (g := false) (N := 246) rfl (by decide) (by decide) (by kernel_rfl) rfl rfl rfl rfl rfl rfl rfl rfl ?_
  simp only [List.take_succ_cons, List.take_zero, List.drop_succ_cons, List.drop_zero]
  repeat (first
    | (refine wpX_out (by decide) ?_)
    | (refine wpX_step (by decide) (fun K hK => ?_); go_simp; first | (refine hK _ ?_; clear hK K) | (apply Exists.intro; refine ⟨fun p => ?_, hK _ ?_⟩; (first | (go_at_call 42; with_reducible exact I4_c _ (hr.below HK.reg.base)) | (go_at_call 28; with_reducible exact hL3.run (hp.below HK.reg.base))); clear hK K)))
  refine wpX_nil ⟨rfl, fun p1 p2 => ?_⟩
  simp only [Act.put, ptrOf, List.setIfInBounds_toArray, List.set_cons_zero, List.set_cons_succ]
  clear U_0 U_1 U_s P_0 P_1 P_s B_0 B_1 B_s A_0 A_1 A_s
  replace HK := HK.own (vs := [.int .i64 S, .bool false]) (t := 23) (p1 := p1) (p2 := p2)
  generalize reg ((reg w9 p1).alloc (.cells #[.int .i64 S, .bool false] 23)) p2 = w10 at *
  generalize (reg w9 p1).heap.size = b10 at *
  replace HK := HK.drop
  have U_0 := HK.get 0 0 rfl rfl
  have U_1 := HK.get 0 1 rfl rfl
  have U_s := HK.lt 0 rfl
  have P_0 := HK.get 1 0 rfl rfl
  have P_1 := HK.get 1 1 rfl rfl
  have P_s := HK.lt 1 rfl
  have B_0 := HK.get 2 0 rfl rfl
  have B_1 := HK.get 2 1 rfl rfl
  have B_s := HK.lt 2 rfl
  have A_0 := HK.get 3 0 rfl rfl
  have A_1 := HK.get 3 1 rfl rfl
  have A_s := HK.lt 3 rfl
  go_wp2_with fail
  refine wp_own23 (n := 16) (ia := 13) (is := 14) (d := 33) (x := 219) (s := S) (g := false) (N := 246) rfl (by decide) (by decide) (by kernel_rfl) rfl rfl rfl rfl rfl rfl rfl rfl ?_
  simp only [List.take_succ_cons, List.take_zero, List.drop_succ_cons, List.drop_zero]
  repeat (first
    | (refine wpX_out (by decide) ?_)
    | (refine wpX_step (by decide) (fun K hK => ?_); go_simp; first | (refine hK _ ?_; clear hK K) | (apply Exists.intro; refine ⟨fun p => ?_, hK _ ?_⟩; (first | (go_at_call 42; with_reducible exact I4_c _ (hr.below HK.reg.base)) | (go_at_call 28; with_reducible exact hR3.run (hp.below HK.reg.base))); clear hK K)))
  refine wpX_nil ⟨rfl, fun p1 p2 => ?_⟩
  simp only [Act.put, ptrOf, List.setIfInBounds_toArray, List.set_cons_zero, List.set_cons_succ]
  clear U_0 U_1 U_s P_0 P_1 P_s B_0 B_1 B_s A_0 A_1 A_s
  replace HK := HK.own (vs := [.int .i64 S, .bool false]) (t := 23) (p1 := p1) (p2 := p2)
  generalize reg ((reg w10 p1).alloc (.cells #[.int .i64 S, .bool false] 23)) p2 = w11 at *
  generalize (reg w10 p1).heap.size = b11 at *
  replace HK := HK.drop
  have U_0 := HK.get 0 0 rfl rfl
  have U_1 := HK.get 0 1 rfl rfl
  have U_s := HK.lt 0 rfl
  have P_0 := HK.get 1 0 rfl rfl
  have P_1 := HK.get 1 1 rfl rfl
  have P_s := HK.lt 1 rfl
  have B_0 := HK.get 2 0 rfl rfl
  have B_1 := HK.get 2 1 rfl rfl
  have B_s := HK.lt 2 rfl
  have A_0 := HK.get 3 0 rfl rfl
  have A_1 := HK.get 3 1 rfl rfl
  have A_s := HK.lt 3 rfl
  go_wp2
  go_ret
  exact ⟨rfl, by repeat (first | exact HK.base | apply b_alloc)⟩
set_option maxHeartbeats 4000000 in
set_option maxRecDepth 100000 in
theorem shift_mf100 (w : World) (hp : PlainAt w) (hr : PromAt w) (hPr : Gives 16 #[(.agg #[.int .i64 s, .bool g])] (.tuple #[(.agg #[.int .i64 S, .bool false]), .int .i64 0])) (h1 : ¬ m < 0) (h2 : ¬ n < 0) (h3 : ¬ 8 * S ≤ m) (h4 : ¬ 8 * S ≤ n) (hS : pB S) (hL : Gives 28 #[.int .i64 9, (.agg #[.int .i64 s, .bool g]), .int .i64 v, (.agg #[.int .i64 4, .bool true]), .int .i64 m] (.tuple #[(.agg #[.int .i64 S, .bool false]), .int .i64 Lf, .int .i64 0])) (hR : Gives 28 #[.int .i64 10, (.agg #[.int .i64 s, .bool g]), .int .i64 v, (.agg #[.int .i64 4, .bool true]), .int .i64 m] (.tuple #[(.agg #[.int .i64 S, .bool false]), .int .i64 Rt, .int .i64 0])) (hW : Gives 41 #[(.agg #[.int .i64 s, .bool g]), .int .i64 v] (.int .i64 W)) (hM : Gives 28 #[.int .i64 3, (.agg #[.int .i64 S, .bool false]), .int .i64 W, (.agg #[.int .i64 S, .bool false]), .int .i64 (wrap64 (2 ^ m.toNat))] (.tuple #[(.agg #[.int .i64 S, .bool false]), .int .i64 Lf, .int .i64 0])) (hQ : Gives 28 #[.int .i64 4, (.agg #[.int .i64 S, .bool false]), .int .i64 W, (.agg #[.int .i64 S, .bool false]), .int .i64 (wrap64 (2 ^ m.toNat))] (.tuple #[(.agg #[.int .i64 S, .bool false]), .int .i64 Rt, .int .i64 0])) (hbw : decide (0 ≤ W) = true) (hbm : decide (m < 8 * S - 1) = false) (hs : ¬ 8 * S ≤ m + n) (hL2 : Gives 28 #[.int .i64 9, (.agg #[.int .i64 S, .bool false]), .int .i64 Lf, (.agg #[.int .i64 4, .bool true]), .int .i64 n] (.tuple #[(.agg #[.int .i64 S, .bool false]), .int .i64 L3, .int .i64 0])) (hR2 : Gives 28 #[.int .i64 10, (.agg #[.int .i64 S, .bool false]), .int .i64 Rt, (.agg #[.int .i64 4, .bool true]), .int .i64 n] (.tuple #[(.agg #[.int .i64 S, .bool false]), .int .i64 R3, .int .i64 0])) (hL3 : Gives 28 #[.int .i64 9, (.agg #[.int .i64 s, .bool g]), .int .i64 v, (.agg #[.int .i64 4, .bool true]), .int .i64 (m + n)] (.tuple #[(.agg #[.int .i64 S, .bool false]), .int .i64 L3, .int .i64 0])) (hR3 : Gives 28 #[.int .i64 10, (.agg #[.int .i64 s, .bool g]), .int .i64 v, (.agg #[.int .i64 4, .bool true]), .int .i64 (m + n)] (.tuple #[(.agg #[.int .i64 S, .bool false]), .int .i64 R3, .int .i64 0])) : Calls Tryd.prog 11 #[.agg #[.int .i64 s, .bool g], .int .i64 v, .agg #[.int .i64 m, .int .i64 n]] w fun e w' => e = .returned (.bool true) ∧ Below w.heap.size w w' := by
  go_enter Tryd.func11, Tryd.ntmps11
  have HK := Known.start w
  go_wp2_with fail
  replace HK := HK.box (vs := [.int .i64 s, .bool g]) (t := 23)
  replace HK := HK.box (vs := [.int .i64 m, .int .i64 n]) (t := 68)
  simp only [World.size_alloc] at HK
  refine (sane_c _ (hp.below HK.base)).mono ?_
  rintro e w1 ⟨rfl, hq⟩
  replace HK := HK.below hq
  clear hq
  have hS0 : -1152921504606846976 ≤ S ∧ S ≤ 1152921504606846975 ∧ m ≤ 63 ∧ n ≤ 63 := by rcases hS with rfl | rfl <;> omega
  obtain ⟨hS1, hS2, hm63, hn63⟩ := hS0
  clear hS
  have B_0 := HK.get 0 0 rfl rfl
  have B_1 := HK.get 0 1 rfl rfl
  have B_s := HK.lt 0 rfl
  have A_0 := HK.get 1 0 rfl rfl
  have A_1 := HK.get 1 1 rfl rfl
  have A_s := HK.lt 1 rfl
  go_wp2_with fail
  clear B_0 B_1 B_s A_0 A_1 A_s
  refine (hPr.run (hp.below HK.base)).mono ?_
  rintro e w2 ⟨rfl, hq⟩
  replace HK := HK.below hq
  clear hq
  have B_0 := HK.get 0 0 rfl rfl
  have B_1 := HK.get 0 1 rfl rfl
  have B_s := HK.lt 0 rfl
  have A_0 := HK.get 1 0 rfl rfl
  have A_1 := HK.get 1 1 rfl rfl
  have A_s := HK.lt 1 rfl
  go_wp2_with fail
  replace HK := HK.box (vs := [.int .i64 S, .bool false]) (t := 23)
  refine wp_own23 (n := 13) (ia := 10) (is := 11) (d := 11) (x := 85) (s := S) (g := false) (N := 246) rfl (by decide) (by decide) (by kernel_rfl) rfl rfl rfl rfl rfl rfl rfl rfl ?_
  simp only [List.take_succ_cons, List.take_zero, List.drop_succ_cons, List.drop_zero]
  repeat (first
    | (refine wpX_out (by decide) ?_)
    | (refine wpX_step (by decide) (fun K hK => ?_); go_simp; first | (refine hK _ ?_; clear hK K) | (apply Exists.intro; refine ⟨fun p => ?_, hK _ ?_⟩; (first | (go_at_call 42; with_reducible exact I4_c _ (hr.below HK.reg.base)) | (go_at_call 28; with_reducible exact hL.run (hp.below HK.reg.base))); clear hK K)))
  refine wpX_nil ⟨rfl, fun p1 p2 => ?_⟩
  simp only [Act.put, ptrOf, List.setIfInBounds_toArray, List.set_cons_zero, List.set_cons_succ]
  clear B_0 B_1 B_s A_0 A_1 A_s
  replace HK := HK.own (vs := [.int .i64 S, .bool false]) (t := 23) (p1 := p1) (p2 := p2)
  generalize reg ((reg (w2.alloc (.cells #[.int .i64 S, .bool false] 23)) p1).alloc (.cells #[.int .i64 S, .bool false] 23)) p2 = w3 at *
  generalize (reg (w2.alloc (.cells #[.int .i64 S, .bool false] 23)) p1).heap.size = b3 at *
  have U_0 := HK.get 0 0 rfl rfl
  have U_1 := HK.get 0 1 rfl rfl
  have U_s := HK.lt 0 rfl
  have P_0 := HK.get 1 0 rfl rfl
  have P_1 := HK.get 1 1 rfl rfl
  have P_s := HK.lt 1 rfl
  have B_0 := HK.get 2 0 rfl rfl
  have B_1 := HK.get 2 1 rfl rfl
  have B_s := HK.lt 2 rfl
  have A_0 := HK.get 3 0 rfl rfl
  have A_1 := HK.get 3 1 rfl rfl
  have A_s := HK.lt 3 rfl
  go_wp2_with fail
  refine wp_own23 (n := 13) (ia := 10) (is := 11) (d := 14) (x := 95) (s := S) (g := false) (N := 246) rfl (by decide) (by decide) (by kernel_rfl) rfl rfl rfl rfl rfl rfl rfl rfl ?_
  simp only [List.take_succ_cons, List.take_zero, List.drop_succ_cons, List.drop_zero]
  repeat (first
    | (refine wpX_out (by decide) ?_)
    | (refine wpX_step (by decide) (fun K hK => ?_); go_simp; first | (refine hK _ ?_; clear hK K) | (apply Exists.intro; refine ⟨fun p => ?_, hK _ ?_⟩; (first | (go_at_call 42; with_reducible exact I4_c _ (hr.below HK.reg.base)) | (go_at_call 28; with_reducible exact hR.run (hp.below HK.reg.base))); clear hK K)))
  refine wpX_nil ⟨rfl, fun p1 p2 => ?_⟩
  simp only [Act.put, ptrOf, List.setIfInBounds_toArray, List.set_cons_zero, List.set_cons_succ]
  clear U_0 U_1 U_s P_0 P_1 P_s B_0 B_1 B_s A_0 A_1 A_s
  replace HK := HK.own (vs := [.int .i64 S, .bool false]) (t := 23) (p1 := p1) (p2 := p2)
  generalize reg ((reg w3 p1).alloc (.cells #[.int .i64 S, .bool false] 23)) p2 = w4 at *
  generalize (reg w3 p1).heap.size = b4 at *
  replace HK := HK.drop
  have U_0 := HK.get 0 0 rfl rfl
  have U_1 := HK.get 0 1 rfl rfl
  have U_s := HK.lt 0 rfl
  have P_0 := HK.get 1 0 rfl rfl
  have P_1 := HK.get 1 1 rfl rfl
  have P_s := HK.lt 1 rfl
  have B_0 := HK.get 2 0 rfl rfl
  have B_1 := HK.get 2 1 rfl rfl
  have B_s := HK.lt 2 rfl
  have A_0 := HK.get 3 0 rfl rfl
  have A_1 := HK.get 3 1 rfl rfl
  have A_s := HK.lt 3 rfl
  go_wp2_with fail
  clear U_0 U_1 U_s P_0 P_1 P_s B_0 B_1 B_s A_0 A_1 A_s
  refine (hW.run (hp.below HK.base)).mono ?_
  rintro e w5 ⟨rfl, hq⟩
  replace HK := HK.below hq
  clear hq
  have U_0 := HK.get 0 0 rfl rfl
  have U_1 := HK.get 0 1 rfl rfl
  have U_s := HK.lt 0 rfl
  have P_0 := HK.get 1 0 rfl rfl
  have P_1 := HK.get 1 1 rfl rfl
  have P_s := HK.lt 1 rfl
  have B_0 := HK.get 2 0 rfl rfl
  have B_1 := HK.get 2 1 rfl rfl
  have B_s := HK.lt 2 rfl
  have A_0 := HK.get 3 0 rfl rfl
  have A_1 := HK.get 3 1 rfl rfl
  have A_s := HK.lt 3 rfl
  go_wp2_with fail
  clear U_0 U_1 U_s P_0 P_1 P_s B_0 B_1 B_s A_0 A_1 A_s
  refine (hM.run (hp.below HK.base)).mono ?_
  rintro e w6 ⟨rfl, hq⟩
  replace HK := HK.below hq
  clear hq
  have U_0 := HK.get 0 0 rfl rfl
  have U_1 := HK.get 0 1 rfl rfl
  have U_s := HK.lt 0 rfl
  have P_0 := HK.get 1 0 rfl rfl
  have P_1 := HK.get 1 1 rfl rfl
  have P_s := HK.lt 1 rfl
  have B_0 := HK.get 2 0 rfl rfl
  have B_1 := HK.get 2 1 rfl rfl
  have B_s := HK.lt 2 rfl
  have A_0 := HK.get 3 0 rfl rfl
  have A_1 := HK.get 3 1 rfl rfl
  have A_s := HK.lt 3 rfl
  go_wp2_with fail
  replace HK := HK.alloc (o := (.cells #[.int .i64 S, .bool false] 23))
  clear U_0 U_1 U_s P_0 P_1 P_s B_0 B_1 B_s A_0 A_1 A_s
  refine (hQ.run (hp.below HK.base)).mono ?_
  rintro e w7 ⟨rfl, hq⟩
  replace HK := HK.below hq
  clear hq
  have U_0 := HK.get 0 0 rfl rfl
  have U_1 := HK.get 0 1 rfl rfl
  have U_s := HK.lt 0 rfl
  have P_0 := HK.get 1 0 rfl rfl
  have P_1 := HK.get 1 1 rfl rfl
  have P_s := HK.lt 1 rfl
  have B_0 := HK.get 2 0 rfl rfl
  have B_1 := HK.get 2 1 rfl rfl
  have B_s := HK.lt 2 rfl
  have A_0 := HK.get 3 0 rfl rfl
  have A_1 := HK.get 3 1 rfl rfl
  have A_s := HK.lt 3 rfl
  go_wp2_with fail
  replace HK := HK.alloc (o := (.cells #[.int .i64 S, .bool false] 23))
  refine wp_own23 (n := 13) (ia := 10) (is := 11) (d := 24) (x := 183) (s := S) (g := false) (N := 246) rfl (by decide) (by decide) (by kernel_rfl) rfl rfl rfl rfl rfl rfl rfl rfl ?_
  simp only [List.take_succ_cons, List.take_zero, List.drop_succ_cons, List.drop_zero]
  repeat (first
    | (refine wpX_out (by decide) ?_)
    | (refine wpX_step (by decide) (fun K hK => ?_); go_simp; first | (refine hK _ ?_; clear hK K) | (apply Exists.intro; refine ⟨fun p => ?_, hK _ ?_⟩; (first | (go_at_call 42; with_reducible exact I4_c _ (hr.below HK.reg.base)) | (go_at_call 28; with_reducible exact hL2.run (hp.below HK.reg.base))); clear hK K)))
  refine wpX_nil ⟨rfl, fun p1 p2 => ?_⟩
  simp only [Act.put, ptrOf, List.setIfInBounds_toArray, List.set_cons_zero, List.set_cons_succ]
  clear U_0 U_1 U_s P_0 P_1 P_s B_0 B_1 B_s A_0 A_1 A_s
  replace HK := HK.own (vs := [.int .i64 S, .bool false]) (t := 23) (p1 := p1) (p2 := p2)
  generalize reg ((reg (w7.alloc (.cells #[.int .i64 S, .bool false] 23)) p1).alloc (.cells #[.int .i64 S, .bool false] 23)) p2 = w8 at *
  generalize (reg (w7.alloc (.cells #[.int .i64 S, .bool false] 23)) p1).heap.size = b8 at *
  replace HK := HK.drop
  have U_0 := HK.get 0 0 rfl rfl
  have U_1 := HK.get 0 1 rfl rfl
  have U_s := HK.lt 0 rfl
  have P_0 := HK.get 1 0 rfl rfl
  have P_1 := HK.get 1 1 rfl rfl
  have P_s := HK.lt 1 rfl
  have B_0 := HK.get 2 0 rfl rfl
  have B_1 := HK.get 2 1 rfl rfl
  have B_s := HK.lt 2 rfl
  have A_0 := HK.get 3 0 rfl rfl
  have A_1 := HK.get 3 1 rfl rfl
  have A_s := HK.lt 3 rfl
  go_wp2_with fail
  refine wp_own23 (n := 13) (ia := 10) (is := 11) (d := 27) (x := 193) (s := S) (g := false) (N := 246) rfl (by decide) (by decide) (by kernel_rfl) rfl rfl rfl rfl rfl rfl rfl rfl ?_
  simp only [List.take_succ_cons, List.take_zero, List.drop_succ_cons, List.drop_zero]
  repeat (first
    | (refine wpX_out (by decide) ?_)
    | (refine wpX_step (by decide) (fun K hK => ?_); go_simp; first | (refine hK _ ?_; clear hK K) | (apply Exists.intro; refine ⟨fun p => ?_, hK _ ?_⟩; (first | (go_at_call 42; with_reducible exact I4_c _ (hr.below HK.reg.base)) | (go_at_call 28; with_reducible exact hR2.run (hp.below HK.reg.base))); clear hK K)))
  refine wpX_nil ⟨rfl, fun p1 p2 => ?_⟩
  simp only [Act.put, ptrOf, List.setIfInBounds_toArray, List.set_cons_zero, List.set_cons_succ]
  clear U_0 U_1 U_s P_0 P_1 P_s B_0 B_1 B_s A_0 A_1 A_s
  replace HK := HK.own (vs := [.int .i64 S, .bool false]) (t := 23) (p1 := p1) (p2 := p2)
  generalize reg ((reg w8 p1).alloc (.cells #[.int .i64 S, .bool false] 23)) p2 = w9 at *
  generalize (reg w8 p1).heap.size = b9 at *
  replace HK := HK.drop
  have hsum : IntKind.i64.wrap (m + n) = m + n := IntWalk.i64_in _ (by omega)
  have hsum0 : 0 ≤ m + n := by omega
  have U_0 := HK.get 0 0 rfl rfl
  have U_1 := HK.get 0 1 rfl rfl
  have U_s := HK.lt 0 rfl
  have P_0 := HK.get 1 0 rfl rfl
  have P_1 := HK.get 1 1 rfl rfl
  have P_s := HK.lt 1 rfl
  have B_0 := HK.get 2 0 rfl rfl
  have B_1 := HK.get 2 1 rfl rfl
  have B_s := HK.lt 2 rfl
  have A_0 := HK.get 3 0 rfl rfl
  have A_1 := HK.get 3 1 rfl rfl
  have A_s := HK.lt 3 rfl
  go_wp2_with fail
  refine wp_own23 (n := 16) (ia := 13) (is := 14) (d := 30) (x := 206) (s := S) (g := false) (N := 246) rfl (by decide) (by decide) (by kernel_rfl) rfl rfl rfl rfl rfl rfl rfl rfl ?_
  simp only [List.take_succ_cons, List.take_zero, List.drop_succ_cons, List.drop_zero]
  repeat (first
    | (refine wpX_out (by decide) ?_)
    | (refine wpX_step (by decide) (fun K hK => ?_); go_simp; first | (refine hK _ ?_; clear hK K) | (apply Exists.intro; refine ⟨fun p => ?_, hK _ ?_⟩; (first | (go_at_call 42; with_reducible exact I4_c _ (hr.below HK.reg.base)) | (go_at_call 28; with_reducible exact hL3.run (hp.below HK.reg.base))); clear hK K)))
  refine wpX_nil ⟨rfl, fun p1 p2 => ?_⟩
  simp only [Act.put, ptrOf, List.setIfInBounds_toArray, List.set_cons_zero, List.set_cons_succ]
  clear U_0 U_1 U_s P_0 P_1 P_s B_0 B_1 B_s A_0 A_1 A_s
  replace HK := HK.own (vs := [.int .i64 S, .bool false]) (t := 23) (p1 := p1) (p2 := p2)
  generalize reg ((reg w9 p1).alloc (.cells #[.int .i64 S, .bool false] 23)) p2 = w10 at *
  generalize (reg w9 p1).heap.size = b10 at *
  replace HK := HK.drop
  have U_0 := HK.get 0 0 rfl rfl
  have U_1 := HK.get 0 1 rfl rfl
  have U_s := HK.lt 0 rfl
  have P_0 := HK.get 1 0 rfl rfl
  have P_1 := HK.get 1 1 rfl rfl
  have P_s := HK.lt 1 rfl
  have B_0 := HK.get 2 0 rfl rfl
  have B_1 := HK.get 2 1 rfl rfl
  have B_s := HK.lt 2 rfl
  have A_0 := HK.get 3 0 rfl rfl
  have A_1 := HK.get 3 1 rfl rfl
  have A_s := HK.lt 3 rfl
  go_wp2_with fail
  refine wp_own23 (n := 16) (ia := 13) (is := 14) (d := 33) (x := 219) (s := S) (g := false) (N := 246) rfl (by decide) (by decide) (by kernel_rfl) rfl rfl rfl rfl rfl rfl rfl rfl ?_
  simp only [List.take_succ_cons, List.take_zero, List.drop_succ_cons, List.drop_zero]
  repeat (first
    | (refine wpX_out (by decide) ?_)
    | (refine wpX_step (by decide) (fun K hK => ?_); go_simp; first | (refine hK _ ?_; clear hK K) | (apply Exists.intro; refine ⟨fun p => ?_, hK _ ?_⟩; (first | (go_at_call 42; with_reducible exact I4_c _ (hr.below HK.reg.base)) | (go_at_call 28; with_reducible exact hR3.run (hp.below HK.reg.base))); clear hK K)))
  refine wpX_nil ⟨rfl, fun p1 p2 => ?_⟩
  simp only [Act.put, ptrOf, List.setIfInBounds_toArray, List.set_cons_zero, List.set_cons_succ]
  clear U_0 U_1 U_s P_0 P_1 P_s B_0 B_1 B_s A_0 A_1 A_s
  replace HK := HK.own (vs := [.int .i64 S, .bool false]) (t := 23) (p1 := p1) (p2 := p2)
  generalize reg ((reg w10 p1).alloc (.cells #[.int .i64 S, .bool false] 23)) p2 = w11 at *
  generalize (reg w10 p1).heap.size = b11 at *
  replace HK := HK.drop
  have U_0 := HK.get 0 0 rfl rfl
  have U_1 := HK.get 0 1 rfl rfl
  have U_s := HK.lt 0 rfl
  have P_0 := HK.get 1 0 rfl rfl
  have P_1 := HK.get 1 1 rfl rfl
  have P_s := HK.lt 1 rfl
  have B_0 := HK.get 2 0 rfl rfl
  have B_1 := HK.get 2 1 rfl rfl
  have B_s := HK.lt 2 rfl
  have A_0 := HK.get 3 0 rfl rfl
  have A_1 := HK.get 3 1 rfl rfl
  have A_s := HK.lt 3 rfl
  go_wp2
  go_ret
  exact ⟨rfl, by repeat (first | exact HK.base | apply b_alloc)⟩
set_option maxHeartbeats 4000000 in
set_option maxRecDepth 100000 in
theorem shift_mf110 (w : World) (hp : PlainAt w) (hr : PromAt w) (hPr : Gives 16 #[(.agg #[.int .i64 s, .bool g])] (.tuple #[(.agg #[.int .i64 S, .bool false]), .int .i64 0])) (h1 : ¬ m < 0) (h2 : ¬ n < 0) (h3 : ¬ 8 * S ≤ m) (h4 : ¬ 8 * S ≤ n) (hS : pB S) (hL : Gives 28 #[.int .i64 9, (.agg #[.int .i64 s, .bool g]), .int .i64 v, (.agg #[.int .i64 4, .bool true]), .int .i64 m] (.tuple #[(.agg #[.int .i64 S, .bool false]), .int .i64 Lf, .int .i64 0])) (hR : Gives 28 #[.int .i64 10, (.agg #[.int .i64 s, .bool g]), .int .i64 v, (.agg #[.int .i64 4, .bool true]), .int .i64 m] (.tuple #[(.agg #[.int .i64 S, .bool false]), .int .i64 Rt, .int .i64 0])) (hW : Gives 41 #[(.agg #[.int .i64 s, .bool g]), .int .i64 v] (.int .i64 W)) (hM : Gives 28 #[.int .i64 3, (.agg #[.int .i64 S, .bool false]), .int .i64 W, (.agg #[.int .i64 S, .bool false]), .int .i64 (wrap64 (2 ^ m.toNat))] (.tuple #[(.agg #[.int .i64 S, .bool false]), .int .i64 Lf, .int .i64 0])) (hQ : Gives 28 #[.int .i64 4, (.agg #[.int .i64 S, .bool false]), .int .i64 W, (.agg #[.int .i64 S, .bool false]), .int .i64 (wrap64 (2 ^ m.toNat))] (.tuple #[(.agg #[.int .i64 S, .bool false]), .int .i64 Rt, .int .i64 0])) (hbw : decide (0 ≤ W) = true) (hbm : decide (m < 8 * S - 1) = true) (hs : ¬ 8 * S ≤ m + n) (hL2 : Gives 28 #[.int .i64 9, (.agg #[.int .i64 S, .bool false]), .int .i64 Lf, (.agg #[.int .i64 4, .bool true]), .int .i64 n] (.tuple #[(.agg #[.int .i64 S, .bool false]), .int .i64 L3, .int .i64 0])) (hR2 : Gives 28 #[.int .i64 10, (.agg #[.int .i64 S, .bool false]), .int .i64 Rt, (.agg #[.int .i64 4, .bool true]), .int .i64 n] (.tuple #[(.agg #[.int .i64 S, .bool false]), .int .i64 R3, .int .i64 0])) (hL3 : Gives 28 #[.int .i64 9, (.agg #[.int .i64 s, .bool g]), .int .i64 v, (.agg #[.int .i64 4, .bool true]), .int .i64 (m + n)] (.tuple #[(.agg #[.int .i64 S, .bool false]), .int .i64 L3, .int .i64 0])) (hR3 : Gives 28 #[.int .i64 10, (.agg #[.int .i64 s, .bool g]), .int .i64 v, (.agg #[.int .i64 4, .bool true]), .int .i64 (m + n)] (.tuple #[(.agg #[.int .i64 S, .bool false]), .int .i64 R3, .int .i64 0])) : Calls Tryd.prog 11 #[.agg #[.int .i64 s, .bool g], .int .i64 v, .agg #[.int .i64 m, .int .i64 n]] w fun e w' => e = .returned (.bool true) ∧ Below w.heap.size w w' := by
  go_enter Tryd.func11, Tryd.ntmps11
  have HK := Known.start w
  go_wp2_with fail
  replace HK := HK.box (vs := [.int .i64 s, .bool g]) (t := 23)
  replace HK := HK.box (vs := [.int .i64 m, .int .i64 n]) (t := 68)
  simp only [World.size_alloc] at HK
  refine (sane_c _ (hp.below HK.base)).mono ?_
  rintro e w1 ⟨rfl, hq⟩
  replace HK := HK.below hq
  clear hq
  have hS0 : -1152921504606846976 ≤ S ∧ S ≤ 1152921504606846975 ∧ m ≤ 63 ∧ n ≤ 63 := by rcases hS with rfl | rfl <;> omega
  obtain ⟨hS1, hS2, hm63, hn63⟩ := hS0
  clear hS
  have B_0 := HK.get 0 0 rfl rfl
  have B_1 := HK.get 0 1 rfl rfl
  have B_s := HK.lt 0 rfl
  have A_0 := HK.get 1 0 rfl rfl
  have A_1 := HK.get 1 1 rfl rfl
  have A_s := HK.lt 1 rfl
  go_wp2_with fail
  clear B_0 B_1 B_s A_0 A_1 A_s
  refine (hPr.run (hp.below HK.base)).mono ?_
  rintro e w2 ⟨rfl, hq⟩
  replace HK := HK.below hq
  clear hq
  have B_0 := HK.get 0 0 rfl rfl
  have B_1 := HK.get 0 1 rfl rfl
  have B_s := HK.lt 0 rfl
  have A_0 := HK.get 1 0 rfl rfl
  have A_1 := HK.get 1 1 rfl rfl
  have A_s := HK.lt 1 rfl
  go_wp2_with fail
  replace HK := HK.box (vs := [.int .i64 S, .bool false]) (t := 23)
  refine wp_own23 (n := 13) (ia := 10) (is := 11) (d := 11) (x := 85) (s := S) (g := false) (N := 246) rfl (by decide) (by decide) (by kernel_rfl) rfl rfl rfl rfl rfl rfl rfl rfl ?_
  simp only [List.take_succ_cons, List.take_zero, List.drop_succ_cons, List.drop_zero]
  repeat (first
    | (refine wpX_out (by decide) ?_)
    | (refine wpX_step (by decide) (fun K hK => ?_); go_simp; first | (refine hK _ ?_; clear hK K) | (apply Exists.intro; refine ⟨fun p => ?_, hK _ ?_⟩; (first | (go_at_call 42; with_reducible exact I4_c _ (hr.below HK.reg.base)) | (go_at_call 28; with_reducible exact hL.run (hp.below HK.reg.base))); clear hK K)))
  refine wpX_nil ⟨rfl, fun p1 p2 => ?_⟩
  simp only [Act.put, ptrOf, List.setIfInBounds_toArray, List.set_cons_zero, List.set_cons_succ]
  clear B_0 B_1 B_s A_0 A_1 A_s
  replace HK := HK.own (vs := [.int .i64 S, .bool false]) (t := 23) (p1 := p1) (p2 := p2)
  generalize reg ((reg (w2.alloc (.cells #[.int .i64 S, .bool false] 23)) p1).alloc (.cells #[.int .i64 S, .bool false] 23)) p2 = w3 at *
  generalize (reg (w2.alloc (.cells #[.int .i64 S, .bool false] 23)) p1).heap.size = b3 at *
  have U_0 := HK.get 0 0 rfl rfl
  have U_1 := HK.get 0 1 rfl rfl
  have U_s := HK.lt 0 rfl
  have P_0 := HK.get 1 0 rfl rfl
  have P_1 := HK.get 1 1 rfl rfl
  have P_s := HK.lt 1 rfl
  have B_0 := HK.get 2 0 rfl rfl
  have B_1 := HK.get 2 1 rfl rfl
  have B_s := HK.lt 2 rfl
  have A_0 := HK.get 3 0 rfl rfl
  have A_1 := HK.get 3 1 rfl rfl
  have A_s := HK.lt 3 rfl
  go_wp2_with fail
  refine wp_own23 (n := 13) (ia := 10) (is := 11) (d := 14) (x := 95) (s := S) (g := false) (N := 246) rfl (by decide) (by decide) (by kernel_rfl) rfl rfl rfl rfl rfl rfl rfl rfl ?_
  simp only [List.take_succ_cons, List.take_zero, List.drop_succ_cons, List.drop_zero]
  repeat (first
    | (refine wpX_out (by decide) ?_)
    | (refine wpX_step (by decide) (fun K hK => ?_); go_simp; first | (refine hK _ ?_; clear hK K) | (apply Exists.intro; refine ⟨fun p => ?_, hK _ ?_⟩; (first | (go_at_call 42; with_reducible exact I4_c _ (hr.below HK.reg.base)) | (go_at_call 28; with_reducible exact hR.run (hp.below HK.reg.base))); clear hK K)))
  refine wpX_nil ⟨rfl, fun p1 p2 => ?_⟩
  simp only [Act.put, ptrOf, List.setIfInBounds_toArray, List.set_cons_zero, List.set_cons_succ]
  clear U_0 U_1 U_s P_0 P_1 P_s B_0 B_1 B_s A_0 A_1 A_s
  replace HK := HK.own (vs := [.int .i64 S, .bool false]) (t := 23) (p1 := p1) (p2 := p2)
  generalize reg ((reg w3 p1).alloc (.cells #[.int .i64 S, .bool false] 23)) p2 = w4 at *
  generalize (reg w3 p1).heap.size = b4 at *
  replace HK := HK.drop
  have U_0 := HK.get 0 0 rfl rfl
  have U_1 := HK.get 0 1 rfl rfl
  have U_s := HK.lt 0 rfl
  have P_0 := HK.get 1 0 rfl rfl
  have P_1 := HK.get 1 1 rfl rfl
  have P_s := HK.lt 1 rfl
  have B_0 := HK.get 2 0 rfl rfl
  have B_1 := HK.get 2 1 rfl rfl
  have B_s := HK.lt 2 rfl
  have A_0 := HK.get 3 0 rfl rfl
  have A_1 := HK.get 3 1 rfl rfl
  have A_s := HK.lt 3 rfl
  go_wp2_with fail
  clear U_0 U_1 U_s P_0 P_1 P_s B_0 B_1 B_s A_0 A_1 A_s
  refine (hW.run (hp.below HK.base)).mono ?_
  rintro e w5 ⟨rfl, hq⟩
  replace HK := HK.below hq
  clear hq
  have U_0 := HK.get 0 0 rfl rfl
  have U_1 := HK.get 0 1 rfl rfl
  have U_s := HK.lt 0 rfl
  have P_0 := HK.get 1 0 rfl rfl
  have P_1 := HK.get 1 1 rfl rfl
  have P_s := HK.lt 1 rfl
  have B_0 := HK.get 2 0 rfl rfl
  have B_1 := HK.get 2 1 rfl rfl
  have B_s := HK.lt 2 rfl
  have A_0 := HK.get 3 0 rfl rfl
  have A_1 := HK.get 3 1 rfl rfl
  have A_s := HK.lt 3 rfl
  go_wp2_with fail
  clear U_0 U_1 U_s P_0 P_1 P_s B_0 B_1 B_s A_0 A_1 A_s
  refine (hM.run (hp.below HK.base)).mono ?_
  rintro e w6 ⟨rfl, hq⟩
  replace HK := HK.below hq
  clear hq
  have U_0 := HK.get 0 0 rfl rfl
  have U_1 := HK.get 0 1 rfl rfl
  have U_s := HK.lt 0 rfl
  have P_0 := HK.get 1 0 rfl rfl
  have P_1 := HK.get 1 1 rfl rfl
  have P_s := HK.lt 1 rfl
  have B_0 := HK.get 2 0 rfl rfl
  have B_1 := HK.get 2 1 rfl rfl
  have B_s := HK.lt 2 rfl
  have A_0 := HK.get 3 0 rfl rfl
  have A_1 := HK.get 3 1 rfl rfl
  have A_s := HK.lt 3 rfl
  go_wp2_with fail
  replace HK := HK.alloc (o := (.cells #[.int .i64 S, .bool false] 23))
  clear U_0 U_1 U_s P_0 P_1 P_s B_0 B_1 B_s A_0 A_1 A_s
  refine (hQ.run (hp.below HK.base)).mono ?_
  rintro e w7 ⟨rfl, hq⟩
  replace HK := HK.below hq
  clear hq
  have U_0 := HK.get 0 0 rfl rfl
  have U_1 := HK.get 0 1 rfl rfl
  have U_s := HK.lt 0 rfl
  have P_0 := HK.get 1 0 rfl rfl
  have P_1 := HK.get 1 1 rfl rfl
  have P_s := HK.lt 1 rfl
  have B_0 := HK.get 2 0 rfl rfl
  have B_1 := HK.get 2 1 rfl rfl
  have B_s := HK.lt 2 rfl
  have A_0 := HK.get 3 0 rfl rfl
  have A_1 := HK.get 3 1 rfl rfl
  have A_s := HK.lt 3 rfl
  go_wp2_with fail
  replace HK := HK.alloc (o := (.cells #[.int .i64 S, .bool false] 23))
  refine wp_own23 (n := 13) (ia := 10) (is := 11) (d := 24) (x := 183) (s := S) (g := false) (N := 246) rfl (by decide) (by decide) (by kernel_rfl) rfl rfl rfl rfl rfl rfl rfl rfl ?_
  simp only [List.take_succ_cons, List.take_zero, List.drop_succ_cons, List.drop_zero]
  repeat (first
    | (refine wpX_out (by decide) ?_)
    | (refine wpX_step (by decide) (fun K hK => ?_); go_simp; first | (refine hK _ ?_; clear hK K) | (apply Exists.intro; refine ⟨fun p => ?_, hK _ ?_⟩; (first | (go_at_call 42; with_reducible exact I4_c _ (hr.below HK.reg.base)) | (go_at_call 28; with_reducible exact hL2.run (hp.below HK.reg.base))); clear hK K)))
  refine wpX_nil ⟨rfl, fun p1 p2 => ?_⟩
  simp only [Act.put, ptrOf, List.setIfInBounds_toArray, List.set_cons_zero, List.set_cons_succ]
  clear U_0 U_1 U_s P_0 P_1 P_s B_0 B_1 B_s A_0 A_1 A_s
  replace HK := HK.own (vs := [.int .i64 S, .bool false]) (t := 23) (p1 := p1) (p2 := p2)
  generalize reg ((reg (w7.alloc (.cells #[.int .i64 S, .bool false] 23)) p1).alloc (.cells #[.int .i64 S, .bool false] 23)) p2 = w8 at *
  generalize (reg (w7.alloc (.cells #[.int .i64 S, .bool false] 23)) p1).heap.size = b8 at *
  replace HK := HK.drop
  have U_0 := HK.get 0 0 rfl rfl
  have U_1 := HK.get 0 1 rfl rfl
  have U_s := HK.lt 0 rfl
  have P_0 := HK.get 1 0 rfl rfl
  have P_1 := HK.get 1 1 rfl rfl
  have P_s := HK.lt 1 rfl
  have B_0 := HK.get 2 0 rfl rfl
  have B_1 := HK.get 2 1 rfl rfl
  have B_s := HK.lt 2 rfl
  have A_0 := HK.get 3 0 rfl rfl
  have A_1 := HK.get 3 1 rfl rfl
  have A_s := HK.lt 3 rfl
  go_wp2_with fail
  refine wp_own23 (n := 13) (ia := 10) (is := 11) (d := 27) (x := 193) (s := S) (g := false) (N := 246) rfl (by decide) (by decide) (by kernel_rfl) rfl rfl rfl rfl rfl rfl rfl rfl ?_
  simp only [List.take_succ_cons, List.take_zero, List.drop_succ_cons, List.drop_zero]
  repeat (first
    | (refine wpX_out (by decide) ?_)
    | (refine wpX_step (by decide) (fun K hK => ?_); go_simp; first | (refine hK _ ?_; clear hK K) | (apply Exists.intro; refine ⟨fun p => ?_, hK _ ?_⟩; (first | (go_at_call 42; with_reducible exact I4_c _ (hr.below HK.reg.base)) | (go_at_call 28; with_reducible exact hR2.run (hp.below HK.reg.base))); clear hK K)))
  refine wpX_nil ⟨rfl, fun p1 p2 => ?_⟩
  simp only [Act.put, ptrOf, List.setIfInBounds_toArray, List.set_cons_zero, List.set_cons_succ]
  clear U_0 U_1 U_s P_0 P_1 P_s B_0 B_1 B_s A_0 A_1 A_s
  replace HK := HK.own (vs := [.int .i64 S, .bool false]) (t := 23) (p1 := p1) (p2 := p2)
  generalize reg ((reg w8 p1).alloc (.cells #[.int .i64 S, .bool false] 23)) p2 = w9 at *
  generalize (reg w8 p1).heap.size = b9 at *
  replace HK := HK.drop
  have hsum : IntKind.i64.wrap (m + n) = m + n := IntWalk.i64_in _ (by omega)
  have hsum0 : 0 ≤ m + n := by omega
  have U_0 := HK.get 0 0 rfl rfl
  have U_1 := HK.get 0 1 rfl rfl
  have U_s := HK.lt 0 rfl
  have P_0 := HK.get 1 0 rfl rfl
  have P_1 := HK.get 1 1 rfl rfl
  have P_s := HK.lt 1 rfl
  have B_0 := HK.get 2 0 rfl rfl
  have B_1 := HK.get 2 1 rfl rfl
  have B_s := HK.lt 2 rfl
  have A_0 := HK.get 3 0 rfl rfl
  have A_1 := HK.get 3 1 rfl rfl
  have A_s := HK.lt 3 rfl
  go_wp2_with fail
  refine wp_own23 (n := 16) (ia := 13) (is := 14) (d := 30) (x := 206) (s := S) (g := false) (N := 246) rfl (by decide) (by decide) (by kernel_rfl) rfl rfl rfl rfl rfl rfl rfl rfl ?_
  simp only [List.take_succ_cons, List.take_zero, List.drop_succ_cons, List.drop_zero]
  repeat (first
    | (refine wpX_out (by decide) ?_)
    | (refine wpX_step (by decide) (fun K hK => ?_); go_simp; first | (refine hK _ ?_; clear hK K) | (apply Exists.intro; refine ⟨fun p => ?_, hK _ ?_⟩; (first | (go_at_call 42; with_reducible exact I4_c _ (hr.below HK.reg.base)) | (go_at_call 28; with_reducible exact hL3.run (hp.below HK.reg.base))); clear hK K)))
  refine wpX_nil ⟨rfl, fun p1 p2 => ?_⟩
  simp only [Act.put, ptrOf, List.setIfInBounds_toArray, List.set_cons_zero, List.set_cons_succ]
  clear U_0 U_1 U_s P_0 P_1 P_s B_0 B_1 B_s A_0 A_1 A_s
  replace HK := HK.own (vs := [.int .i64 S, .bool false]) (t := 23) (p1 := p1) (p2 := p2)
  generalize reg ((reg w9 p1).alloc (.cells #[.int .i64 S, .bool false] 23)) p2 = w10 at *
  generalize (reg w9 p1).heap.size = b10 at *
  replace HK := HK.drop
  have U_0 := HK.get 0 0 rfl rfl
  have U_1 := HK.get 0 1 rfl rfl
  have U_s := HK.lt 0 rfl
  have P_0 := HK.get 1 0 rfl rfl
  have P_1 := HK.get 1 1 rfl rfl
  have P_s := HK.lt 1 rfl
  have B_0 := HK.get 2 0 rfl rfl
  have B_1 := HK.get 2 1 rfl rfl
  have B_s := HK.lt 2 rfl
  have A_0 := HK.get 3 0 rfl rfl
  have A_1 := HK.get 3 1 rfl rfl
  have A_s := HK.lt 3 rfl
  go_wp2_with fail
  refine wp_own23 (n := 16) (ia := 13) (is := 14) (d := 33) (x := 219) (s := S) (g := false) (N := 246) rfl (by decide) (by decide) (by kernel_rfl) rfl rfl rfl rfl rfl rfl rfl rfl ?_
  simp only [List.take_succ_cons, List.take_zero, List.drop_succ_cons, List.drop_zero]
  repeat (first
    | (refine wpX_out (by decide) ?_)
    | (refine wpX_step (by decide) (fun K hK => ?_); go_simp; first | (refine hK _ ?_; clear hK K) | (apply Exists.intro; refine ⟨fun p => ?_, hK _ ?_⟩; (first | (go_at_call 42; with_reducible exact I4_c _ (hr.below HK.reg.base)) | (go_at_call 28; with_reducible exact hR3.run (hp.below HK.reg.base))); clear hK K)))
  refine wpX_nil ⟨rfl, fun p1 p2 => ?_⟩
  simp only [Act.put, ptrOf, List.setIfInBounds_toArray, List.set_cons_zero, List.set_cons_succ]
  clear U_0 U_1 U_s P_0 P_1 P_s B_0 B_1 B_s A_0 A_1 A_s
  replace HK := HK.own (vs := [.int .i64 S, .bool false]) (t := 23) (p1 := p1) (p2 := p2)
  generalize reg ((reg w10 p1).alloc (.cells #[.int .i64 S, .bool false] 23)) p2 = w11 at *
  generalize (reg w10 p1).heap.size = b11 at *
  replace HK := HK.drop
  have U_0 := HK.get 0 0 rfl rfl
  have U_1 := HK.get 0 1 rfl rfl
  have U_s := HK.lt 0 rfl
  have P_0 := HK.get 1 0 rfl rfl
  have P_1 := HK.get 1 1 rfl rfl
  have P_s := HK.lt 1 rfl
  have B_0 := HK.get 2 0 rfl rfl
  have B_1 := HK.get 2 1 rfl rfl
  have B_s := HK.lt 2 rfl
  have A_0 := HK.get 3 0 rfl rfl
  have A_1 := HK.get 3 1 rfl rfl
  have A_s := HK.lt 3 rfl
  go_wp2
  go_ret
  exact ⟨rfl, by repeat (first | exact HK.base | apply b_alloc)⟩
end
end Go.Proofs.YtfgmfkiknogdeaaDoor
