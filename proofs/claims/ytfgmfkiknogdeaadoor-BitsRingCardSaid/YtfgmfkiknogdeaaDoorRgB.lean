/- WHAT IS PROVED: the way of taplinelaw01.BitsRing on which both types are valid, over what its calls answer. CONDITIONS: the package variable 'plain' holds the signed type of 4 bytes. -/
import Derived.Test.YtfgmfkiknogdeaaDoorRgA
namespace Go.Proofs.YtfgmfkiknogdeaaDoor
open Go Go.RowKit Go.QrBits
attribute [local go_sem] reg_cell reg_frozen reg_setCell reg_lt reg_lt_add reg_drew reg_of_drew quietR yieldsR

section
variable (sc : Int) (gc : Bool) (st : Int) (gt : Bool) (l0 l1 l2 a b d : Int) (S : Int) (G : Bool) (S' : Int) (G' : Bool) (X Y V U Z R : Nat → Int) (m M : Int)
set_option maxHeartbeats 4000000 in
set_option maxRecDepth 100000 in
theorem ring_w4 (w : World) (hp : PlainAt w) (h : vB sc = true) (h2 : vB st = true) (hle : ¬ sc < st) (hX : ∀ k, Gives 40 #[.int .i64 (opN k), (.agg #[.int .i64 sc, .bool gc]), .int .i64 l0, .int .i64 l1] (.tuple #[(.agg #[.int .i64 S, .bool G]), .int .i64 (X k)])) (hA : Gives 41 #[(.agg #[.int .i64 st, .bool gt]), .int .i64 l0] (.int .i64 a)) (hB : Gives 41 #[(.agg #[.int .i64 st, .bool gt]), .int .i64 l1] (.int .i64 b)) (hY : ∀ k, Gives 40 #[.int .i64 (opN k), (.agg #[.int .i64 st, .bool gt]), .int .i64 a, .int .i64 b] (.tuple #[(.agg #[.int .i64 S', .bool G']), .int .i64 (Y k)])) (hV1 : ∀ k, Gives 41 #[(.agg #[.int .i64 st, .bool gt]), .int .i64 (X k)] (.int .i64 (V k))) (hV2 : ∀ k, Gives 41 #[(.agg #[.int .i64 st, .bool gt]), .int .i64 (Y k)] (.int .i64 (V k))) (hZ : ∀ k, ¬ k = 1 → Gives 40 #[.int .i64 (opN k), (.agg #[.int .i64 sc, .bool gc]), .int .i64 l1, .int .i64 l0] (.tuple #[(.agg #[.int .i64 S, .bool G]), .int .i64 (X k)])) (hPr : Gives 16 #[(.agg #[.int .i64 sc, .bool gc])] (.tuple #[(.agg #[.int .i64 S, .bool G]), .int .i64 0])) (hU : ∀ k, Gives 40 #[.int .i64 (opN k), (.agg #[.int .i64 S, .bool G]), .int .i64 l0, .int .i64 l1] (.tuple #[(.agg #[.int .i64 S, .bool G]), .int .i64 (U k)])) (hW : ∀ k, Gives 40 #[.int .i64 (opN k), (.agg #[.int .i64 S, .bool G]), .int .i64 l1, .int .i64 l2] (.tuple #[(.agg #[.int .i64 S, .bool G]), .int .i64 (Z k)])) (hR1 : ∀ k, ¬ k = 1 → Gives 40 #[.int .i64 (opN k), (.agg #[.int .i64 S, .bool G]), .int .i64 (U k), .int .i64 l2] (.tuple #[(.agg #[.int .i64 S, .bool G]), .int .i64 (R k)])) (hR2 : ∀ k, ¬ k = 1 → Gives 40 #[.int .i64 (opN k), (.agg #[.int .i64 S, .bool G]), .int .i64 l0, .int .i64 (Z k)] (.tuple #[(.agg #[.int .i64 S, .bool G]), .int .i64 (R k)])) (hS : Gives 40 #[.int .i64 1, (.agg #[.int .i64 sc, .bool gc]), .int .i64 l0, .int .i64 l1] (.tuple #[(.agg #[.int .i64 S, .bool G]), .int .i64 m])) (hT : Gives 28 #[.int .i64 2, (.agg #[.int .i64 S, .bool G]), .int .i64 m, (.agg #[.int .i64 sc, .bool gc]), .int .i64 l1] (.tuple #[(.agg #[.int .i64 S, .bool G]), .int .i64 M, .int .i64 0])) (hM1 : Gives 41 #[(.agg #[.int .i64 sc, .bool gc]), .int .i64 l0] (.int .i64 d)) (hM2 : Gives 41 #[(.agg #[.int .i64 S, .bool G]), .int .i64 d] (.int .i64 M)) : Calls Tryd.prog 6 #[.agg #[.int .i64 sc, .bool gc], .agg #[.int .i64 st, .bool gt], .agg #[.int .i64 l0, .int .i64 l1, .int .i64 l2]] w fun e w' => e = .returned (.bool true) ∧ Below w.heap.size w w' := by
  go_enter Tryd.func6, Tryd.ntmps6
  have HK := Known.start w
  go_wp2_with fail
  replace HK := HK.box (vs := [.int .i64 sc, .bool gc]) (t := 23)
  replace HK := HK.box (vs := [.int .i64 st, .bool gt]) (t := 23)
  replace HK := HK.box (vs := [.int .i64 l0, .int .i64 l1, .int .i64 l2]) (t := 56)
  simp only [World.size_alloc] at HK
  refine (sane_c _ (hp.below HK.base)).mono ?_
  rintro e w1 ⟨rfl, hq⟩
  replace HK := HK.below hq
  clear hq
  have L_0 := HK.get 0 0 rfl rfl
  have L_1 := HK.get 0 1 rfl rfl
  have L_2 := HK.get 0 2 rfl rfl
  have L_s := HK.lt 0 rfl
  have B_0 := HK.get 1 0 rfl rfl
  have B_1 := HK.get 1 1 rfl rfl
  have B_s := HK.lt 1 rfl
  have A_0 := HK.get 2 0 rfl rfl
  have A_1 := HK.get 2 1 rfl rfl
  have A_s := HK.lt 2 rfl
  go_wp2_with fail
  clear L_0 L_1 L_2 L_s B_0 B_1 B_s A_0 A_1 A_s
  refine (check_c sc gc _ h).mono ?_
  rintro e w2 ⟨rfl, hq⟩
  replace HK := HK.below hq
  clear hq
  have L_0 := HK.get 0 0 rfl rfl
  have L_1 := HK.get 0 1 rfl rfl
  have L_2 := HK.get 0 2 rfl rfl
  have L_s := HK.lt 0 rfl
  have B_0 := HK.get 1 0 rfl rfl
  have B_1 := HK.get 1 1 rfl rfl
  have B_s := HK.lt 1 rfl
  have A_0 := HK.get 2 0 rfl rfl
  have A_1 := HK.get 2 1 rfl rfl
  have A_s := HK.lt 2 rfl
  go_wp2_with fail
  clear L_0 L_1 L_2 L_s B_0 B_1 B_s A_0 A_1 A_s
  refine (check_c st gt _ h2).mono ?_
  rintro e w3 ⟨rfl, hq⟩
  replace HK := HK.below hq
  clear hq
  have L_0 := HK.get 0 0 rfl rfl
  have L_1 := HK.get 0 1 rfl rfl
  have L_2 := HK.get 0 2 rfl rfl
  have L_s := HK.lt 0 rfl
  have B_0 := HK.get 1 0 rfl rfl
  have B_1 := HK.get 1 1 rfl rfl
  have B_s := HK.lt 1 rfl
  have A_0 := HK.get 2 0 rfl rfl
  have A_1 := HK.get 2 1 rfl rfl
  have A_s := HK.lt 2 rfl
  go_wp2_with fail
  replace HK := HK.box (vs := [.int .i64 1, .int .i64 2, .int .i64 3, .int .i64 6, .int .i64 7, .int .i64 8]) (t := 57)
  clear L_0 L_1 L_2 L_s B_0 B_1 B_s A_0 A_1 A_s
  go_loopw [9] (fun v9 wr => ∃ (k : Nat) (w5 : World), w5 = wr ∧ k ≤ 6 ∧ v9 = .int .i64 k ∧ Known [(w3.heap.size, [.int .i64 1, .int .i64 2, .int .i64 3, .int .i64 6, .int .i64 7, .int .i64 8]), (w.heap.size + 1 + 1, [.int .i64 l0, .int .i64 l1, .int .i64 l2]), (w.heap.size + 1, [.int .i64 st, .bool gt]), (w.heap.size, [.int .i64 sc, .bool gc])] w w5) (fun v9 _ => 6 - (intOf v9).toNat)
  case atStart => exact ⟨0, _, rfl, by omega, rfl, HK⟩
  case round =>
  clear HK
  obtain ⟨k, w5, hw5, hk, hv, HK⟩ := hrel
  subst hw5; subst hv
  by_cases hk6 : k < 6
  · by_cases hk1 : k = 1
    · have hn2 : (opN k == 2) = true := by rw [hk1]; rfl
      clear hk1
      have hkI : (k : Int) < 6 := by omega
      have hk0 : (0 : Int) ≤ k := by omega
      have hcell := opN_at HK 0 rfl hk6
      have O_s := HK.lt 0 rfl
      have L_0 := HK.get 1 0 rfl rfl
      have L_1 := HK.get 1 1 rfl rfl
      have L_2 := HK.get 1 2 rfl rfl
      have L_s := HK.lt 1 rfl
      have B_0 := HK.get 2 0 rfl rfl
      have B_1 := HK.get 2 1 rfl rfl
      have B_s := HK.lt 2 rfl
      have A_0 := HK.get 3 0 rfl rfl
      have A_1 := HK.get 3 1 rfl rfl
      have A_s := HK.lt 3 rfl
      go_wp2_with fail
      refine wp_own23 (n := 14) (ia := 12) (is := 13) (d := 10) (x := 67) (s := S) (g := G) (N := 196) rfl (by decide) (by decide) (by kernel_rfl) rfl rfl rfl rfl rfl rfl rfl rfl ?_
      simp only [List.take_succ_cons, List.take_zero, List.drop_succ_cons, List.drop_zero]
      repeat (first
        | (refine wpX_out (by decide) ?_)
        | (refine wpX_step (by decide) (fun K hK => ?_); go_simp; first | (refine hK _ ?_; clear hK K) | (apply Exists.intro; refine ⟨fun p => ?_, hK _ ?_⟩; (first | (go_at_call 40; with_reducible exact (hX k).call (hp.below HK.reg.base))); clear hK K)))
      refine wpX_nil ⟨rfl, fun p1 p2 => ?_⟩
      simp only [Act.put, ptrOf, List.setIfInBounds_toArray, List.set_cons_zero, List.set_cons_succ]
      clear L_0 L_1 L_2 L_s B_0 B_1 B_s A_0 A_1 A_s
      replace HK := HK.own (vs := [.int .i64 S, .bool G]) (t := 23) (p1 := p1) (p2 := p2)
      generalize reg ((reg w5 p1).alloc (.cells #[.int .i64 S, .bool G] 23)) p2 = w6 at *
      generalize (reg w5 p1).heap.size = b6 at *
      replace HK := HK.drop
      clear hcell O_s
      have hcell := opN_at HK 0 rfl hk6
      have O_s := HK.lt 0 rfl
      have L_0 := HK.get 1 0 rfl rfl
      have L_1 := HK.get 1 1 rfl rfl
      have L_2 := HK.get 1 2 rfl rfl
      have L_s := HK.lt 1 rfl
      have B_0 := HK.get 2 0 rfl rfl
      have B_1 := HK.get 2 1 rfl rfl
      have B_s := HK.lt 2 rfl
      have A_0 := HK.get 3 0 rfl rfl
      have A_1 := HK.get 3 1 rfl rfl
      have A_s := HK.lt 3 rfl
      go_wp2_with fail
      refine wp_own23 (n := 18) (ia := 16) (is := 17) (d := 12) (x := 83) (s := S') (g := G') (N := 196) rfl (by decide) (by decide) (by kernel_rfl) rfl rfl rfl rfl rfl rfl rfl rfl ?_
      simp only [List.take_succ_cons, List.take_zero, List.drop_succ_cons, List.drop_zero]
      repeat (first
        | (refine wpX_out (by decide) ?_)
        | (refine wpX_step (by decide) (fun K hK => ?_); go_simp; first | (refine hK _ ?_; clear hK K) | (apply Exists.intro; refine ⟨fun p => ?_, hK _ ?_⟩; (first | (go_at_call 41; with_reducible exact hA.call (hp.below HK.reg.base)) | (go_at_call 41; with_reducible exact hB.call (hp.below HK.reg.base)) | (go_at_call 40; with_reducible exact (hY k).call (hp.below HK.reg.base))); clear hK K)))
      refine wpX_nil ⟨rfl, fun p1 p2 => ?_⟩
      simp only [Act.put, ptrOf, List.setIfInBounds_toArray, List.set_cons_zero, List.set_cons_succ]
      clear L_0 L_1 L_2 L_s B_0 B_1 B_s A_0 A_1 A_s
      replace HK := HK.own (vs := [.int .i64 S', .bool G']) (t := 23) (p1 := p1) (p2 := p2)
      generalize reg ((reg w6 p1).alloc (.cells #[.int .i64 S', .bool G'] 23)) p2 = w7 at *
      generalize (reg w6 p1).heap.size = b7 at *
      replace HK := HK.drop
      clear hcell O_s
      have L_0 := HK.get 1 0 rfl rfl
      have L_1 := HK.get 1 1 rfl rfl
      have L_2 := HK.get 1 2 rfl rfl
      have L_s := HK.lt 1 rfl
      have B_0 := HK.get 2 0 rfl rfl
      have B_1 := HK.get 2 1 rfl rfl
      have B_s := HK.lt 2 rfl
      have A_0 := HK.get 3 0 rfl rfl
      have A_1 := HK.get 3 1 rfl rfl
      have A_s := HK.lt 3 rfl
      go_wp2_with fail
      with_reducible refine wp_quiet (by kernel_rfl) (by kernel_rfl) ?_
      repeat (quiet_step ((first | (go_at_call 41; with_reducible exact reg_call ((hV1 k).call (hp.below HK.reg.base))) | (go_at_call 41; with_reducible exact reg_call ((hV2 k).call (hp.below HK.reg.base))))))
      refine wpQuiet_nil ?_
      intro _ hw'; obtain ⟨p, rfl⟩ := hw'
      clear L_0 L_1 L_2 L_s B_0 B_1 B_s A_0 A_1 A_s
      replace HK := HK.reg (p := p)
      generalize reg w7 p = w8 at *
      have hcell := opN_at HK 0 rfl hk6
      have O_s := HK.lt 0 rfl
      have L_0 := HK.get 1 0 rfl rfl
      have L_1 := HK.get 1 1 rfl rfl
      have L_2 := HK.get 1 2 rfl rfl
      have L_s := HK.lt 1 rfl
      have B_0 := HK.get 2 0 rfl rfl
      have B_1 := HK.get 2 1 rfl rfl
      have B_s := HK.lt 2 rfl
      have A_0 := HK.get 3 0 rfl rfl
      have A_1 := HK.get 3 1 rfl rfl
      have A_s := HK.lt 3 rfl
      go_wp2_with fail
      clear L_0 L_1 L_2 L_s B_0 B_1 B_s A_0 A_1 A_s
      go_roundw
      case rel => exact ⟨k + 1, _, rfl, by omega, by go_num, HK⟩
      case measure => simp [intOf]; omega
    · have hkI : (k : Int) < 6 := by omega
      have hk0 : (0 : Int) ≤ k := by omega
      have hcell := opN_at HK 0 rfl hk6
      have O_s := HK.lt 0 rfl
      have L_0 := HK.get 1 0 rfl rfl
      have L_1 := HK.get 1 1 rfl rfl
      have L_2 := HK.get 1 2 rfl rfl
      have L_s := HK.lt 1 rfl
      have B_0 := HK.get 2 0 rfl rfl
      have B_1 := HK.get 2 1 rfl rfl
      have B_s := HK.lt 2 rfl
      have A_0 := HK.get 3 0 rfl rfl
      have A_1 := HK.get 3 1 rfl rfl
      have A_s := HK.lt 3 rfl
      go_wp2_with fail
      refine wp_own23 (n := 14) (ia := 12) (is := 13) (d := 10) (x := 67) (s := S) (g := G) (N := 196) rfl (by decide) (by decide) (by kernel_rfl) rfl rfl rfl rfl rfl rfl rfl rfl ?_
      simp only [List.take_succ_cons, List.take_zero, List.drop_succ_cons, List.drop_zero]
      repeat (first
        | (refine wpX_out (by decide) ?_)
        | (refine wpX_step (by decide) (fun K hK => ?_); go_simp; first | (refine hK _ ?_; clear hK K) | (apply Exists.intro; refine ⟨fun p => ?_, hK _ ?_⟩; (first | (go_at_call 40; with_reducible exact (hX k).call (hp.below HK.reg.base))); clear hK K)))
      refine wpX_nil ⟨rfl, fun p1 p2 => ?_⟩
      simp only [Act.put, ptrOf, List.setIfInBounds_toArray, List.set_cons_zero, List.set_cons_succ]
      clear L_0 L_1 L_2 L_s B_0 B_1 B_s A_0 A_1 A_s
      replace HK := HK.own (vs := [.int .i64 S, .bool G]) (t := 23) (p1 := p1) (p2 := p2)
      generalize reg ((reg w5 p1).alloc (.cells #[.int .i64 S, .bool G] 23)) p2 = w6 at *
      generalize (reg w5 p1).heap.size = b6 at *
      replace HK := HK.drop
      clear hcell O_s
      have hcell := opN_at HK 0 rfl hk6
      have O_s := HK.lt 0 rfl
      have L_0 := HK.get 1 0 rfl rfl
      have L_1 := HK.get 1 1 rfl rfl
      have L_2 := HK.get 1 2 rfl rfl
      have L_s := HK.lt 1 rfl
      have B_0 := HK.get 2 0 rfl rfl
      have B_1 := HK.get 2 1 rfl rfl
      have B_s := HK.lt 2 rfl
      have A_0 := HK.get 3 0 rfl rfl
      have A_1 := HK.get 3 1 rfl rfl
      have A_s := HK.lt 3 rfl
      go_wp2_with fail
      refine wp_own23 (n := 18) (ia := 16) (is := 17) (d := 12) (x := 83) (s := S') (g := G') (N := 196) rfl (by decide) (by decide) (by kernel_rfl) rfl rfl rfl rfl rfl rfl rfl rfl ?_
      simp only [List.take_succ_cons, List.take_zero, List.drop_succ_cons, List.drop_zero]
      repeat (first
        | (refine wpX_out (by decide) ?_)
        | (refine wpX_step (by decide) (fun K hK => ?_); go_simp; first | (refine hK _ ?_; clear hK K) | (apply Exists.intro; refine ⟨fun p => ?_, hK _ ?_⟩; (first | (go_at_call 41; with_reducible exact hA.call (hp.below HK.reg.base)) | (go_at_call 41; with_reducible exact hB.call (hp.below HK.reg.base)) | (go_at_call 40; with_reducible exact (hY k).call (hp.below HK.reg.base))); clear hK K)))
      refine wpX_nil ⟨rfl, fun p1 p2 => ?_⟩
      simp only [Act.put, ptrOf, List.setIfInBounds_toArray, List.set_cons_zero, List.set_cons_succ]
      clear L_0 L_1 L_2 L_s B_0 B_1 B_s A_0 A_1 A_s
      replace HK := HK.own (vs := [.int .i64 S', .bool G']) (t := 23) (p1 := p1) (p2 := p2)
      generalize reg ((reg w6 p1).alloc (.cells #[.int .i64 S', .bool G'] 23)) p2 = w7 at *
      generalize (reg w6 p1).heap.size = b7 at *
      replace HK := HK.drop
      clear hcell O_s
      have L_0 := HK.get 1 0 rfl rfl
      have L_1 := HK.get 1 1 rfl rfl
      have L_2 := HK.get 1 2 rfl rfl
      have L_s := HK.lt 1 rfl
      have B_0 := HK.get 2 0 rfl rfl
      have B_1 := HK.get 2 1 rfl rfl
      have B_s := HK.lt 2 rfl
      have A_0 := HK.get 3 0 rfl rfl
      have A_1 := HK.get 3 1 rfl rfl
      have A_s := HK.lt 3 rfl
      go_wp2_with fail
      with_reducible refine wp_quiet (by kernel_rfl) (by kernel_rfl) ?_
      repeat (quiet_step ((first | (go_at_call 41; with_reducible exact reg_call ((hV1 k).call (hp.below HK.reg.base))) | (go_at_call 41; with_reducible exact reg_call ((hV2 k).call (hp.below HK.reg.base))))))
      refine wpQuiet_nil ?_
      intro _ hw'; obtain ⟨p, rfl⟩ := hw'
      clear L_0 L_1 L_2 L_s B_0 B_1 B_s A_0 A_1 A_s
      replace HK := HK.reg (p := p)
      generalize reg w7 p = w8 at *
      have hcell := opN_at HK 0 rfl hk6
      have O_s := HK.lt 0 rfl
      have hn2 : (opN k == 2) = false := by rw [beq_eq_false_iff_ne]; unfold opN; repeat' split <;> omega
      have hcell := opN_at HK 0 rfl hk6
      have O_s := HK.lt 0 rfl
      have L_0 := HK.get 1 0 rfl rfl
      have L_1 := HK.get 1 1 rfl rfl
      have L_2 := HK.get 1 2 rfl rfl
      have L_s := HK.lt 1 rfl
      have B_0 := HK.get 2 0 rfl rfl
      have B_1 := HK.get 2 1 rfl rfl
      have B_s := HK.lt 2 rfl
      have A_0 := HK.get 3 0 rfl rfl
      have A_1 := HK.get 3 1 rfl rfl
      have A_s := HK.lt 3 rfl
      go_wp2_with fail
      refine wp_own23 (n := 14) (ia := 12) (is := 13) (d := 14) (x := 106) (s := S) (g := G) (N := 196) rfl (by decide) (by decide) (by kernel_rfl) rfl rfl rfl rfl rfl rfl rfl rfl ?_
      simp only [List.take_succ_cons, List.take_zero, List.drop_succ_cons, List.drop_zero]
      repeat (first
        | (refine wpX_out (by decide) ?_)
        | (refine wpX_step (by decide) (fun K hK => ?_); go_simp; first | (refine hK _ ?_; clear hK K) | (apply Exists.intro; refine ⟨fun p => ?_, hK _ ?_⟩; (first | (go_at_call 40; with_reducible exact (hZ k hk1).call (hp.below HK.reg.base))); clear hK K)))
      refine wpX_nil ⟨rfl, fun p1 p2 => ?_⟩
      simp only [Act.put, ptrOf, List.setIfInBounds_toArray, List.set_cons_zero, List.set_cons_succ]
      clear L_0 L_1 L_2 L_s B_0 B_1 B_s A_0 A_1 A_s
      replace HK := HK.own (vs := [.int .i64 S, .bool G]) (t := 23) (p1 := p1) (p2 := p2)
      generalize reg ((reg w8 p1).alloc (.cells #[.int .i64 S, .bool G] 23)) p2 = w9 at *
      generalize (reg w8 p1).heap.size = b9 at *
      replace HK := HK.drop
      clear hcell O_s
      have L_0 := HK.get 1 0 rfl rfl
      have L_1 := HK.get 1 1 rfl rfl
      have L_2 := HK.get 1 2 rfl rfl
      have L_s := HK.lt 1 rfl
      have B_0 := HK.get 2 0 rfl rfl
      have B_1 := HK.get 2 1 rfl rfl
      have B_s := HK.lt 2 rfl
      have A_0 := HK.get 3 0 rfl rfl
      have A_1 := HK.get 3 1 rfl rfl
      have A_s := HK.lt 3 rfl
      go_wp2_with fail
      clear L_0 L_1 L_2 L_s B_0 B_1 B_s A_0 A_1 A_s
      refine (hPr _ (hp.below HK.base)).mono ?_
      rintro e w10 ⟨rfl, hq⟩
      replace HK := HK.below hq
      clear hq
      have hcell := opN_at HK 0 rfl hk6
      have O_s := HK.lt 0 rfl
      have L_0 := HK.get 1 0 rfl rfl
      have L_1 := HK.get 1 1 rfl rfl
      have L_2 := HK.get 1 2 rfl rfl
      have L_s := HK.lt 1 rfl
      have B_0 := HK.get 2 0 rfl rfl
      have B_1 := HK.get 2 1 rfl rfl
      have B_s := HK.lt 2 rfl
      have A_0 := HK.get 3 0 rfl rfl
      have A_1 := HK.get 3 1 rfl rfl
      have A_s := HK.lt 3 rfl
      go_wp2_with fail
      replace HK := HK.box (vs := [.int .i64 S, .bool G]) (t := 23)
      refine wp_own23 (n := 14) (ia := 12) (is := 13) (d := 18) (x := 126) (s := S) (g := G) (N := 196) rfl (by decide) (by decide) (by kernel_rfl) rfl rfl rfl rfl rfl rfl rfl rfl ?_
      simp only [List.take_succ_cons, List.take_zero, List.drop_succ_cons, List.drop_zero]
      repeat (first
        | (refine wpX_out (by decide) ?_)
        | (refine wpX_step (by decide) (fun K hK => ?_); go_simp; first | (refine hK _ ?_; clear hK K) | (apply Exists.intro; refine ⟨fun p => ?_, hK _ ?_⟩; (first | (go_at_call 40; with_reducible exact (hU k).call (hp.below HK.reg.base))); clear hK K)))
      refine wpX_nil ⟨rfl, fun p1 p2 => ?_⟩
      simp only [Act.put, ptrOf, List.setIfInBounds_toArray, List.set_cons_zero, List.set_cons_succ]
      clear L_0 L_1 L_2 L_s B_0 B_1 B_s A_0 A_1 A_s
      replace HK := HK.own (vs := [.int .i64 S, .bool G]) (t := 23) (p1 := p1) (p2 := p2)
      generalize reg ((reg (w10.alloc (.cells #[.int .i64 S, .bool G] 23)) p1).alloc (.cells #[.int .i64 S, .bool G] 23)) p2 = w11 at *
      generalize (reg (w10.alloc (.cells #[.int .i64 S, .bool G] 23)) p1).heap.size = b11 at *
      replace HK := HK.drop
      clear hcell O_s
      have hcell := opN_at HK 1 rfl hk6
      have O_s := HK.lt 1 rfl
      have P_0 := HK.get 0 0 rfl rfl
      have P_1 := HK.get 0 1 rfl rfl
      have P_s := HK.lt 0 rfl
      have L_0 := HK.get 2 0 rfl rfl
      have L_1 := HK.get 2 1 rfl rfl
      have L_2 := HK.get 2 2 rfl rfl
      have L_s := HK.lt 2 rfl
      have B_0 := HK.get 3 0 rfl rfl
      have B_1 := HK.get 3 1 rfl rfl
      have B_s := HK.lt 3 rfl
      have A_0 := HK.get 4 0 rfl rfl
      have A_1 := HK.get 4 1 rfl rfl
      have A_s := HK.lt 4 rfl
      go_wp2_with fail
      refine wp_own23 (n := 14) (ia := 12) (is := 13) (d := 20) (x := 138) (s := S) (g := G) (N := 196) rfl (by decide) (by decide) (by kernel_rfl) rfl rfl rfl rfl rfl rfl rfl rfl ?_
      simp only [List.take_succ_cons, List.take_zero, List.drop_succ_cons, List.drop_zero]
      repeat (first
        | (refine wpX_out (by decide) ?_)
        | (refine wpX_step (by decide) (fun K hK => ?_); go_simp; first | (refine hK _ ?_; clear hK K) | (apply Exists.intro; refine ⟨fun p => ?_, hK _ ?_⟩; (first | (go_at_call 40; with_reducible exact (hW k).call (hp.below HK.reg.base))); clear hK K)))
      refine wpX_nil ⟨rfl, fun p1 p2 => ?_⟩
      simp only [Act.put, ptrOf, List.setIfInBounds_toArray, List.set_cons_zero, List.set_cons_succ]
      clear P_0 P_1 P_s L_0 L_1 L_2 L_s B_0 B_1 B_s A_0 A_1 A_s
      replace HK := HK.own (vs := [.int .i64 S, .bool G]) (t := 23) (p1 := p1) (p2 := p2)
      generalize reg ((reg w11 p1).alloc (.cells #[.int .i64 S, .bool G] 23)) p2 = w12 at *
      generalize (reg w11 p1).heap.size = b12 at *
      replace HK := HK.drop
      clear hcell O_s
      have hcell := opN_at HK 1 rfl hk6
      have O_s := HK.lt 1 rfl
      have P_0 := HK.get 0 0 rfl rfl
      have P_1 := HK.get 0 1 rfl rfl
      have P_s := HK.lt 0 rfl
      have L_0 := HK.get 2 0 rfl rfl
      have L_1 := HK.get 2 1 rfl rfl
      have L_2 := HK.get 2 2 rfl rfl
      have L_s := HK.lt 2 rfl
      have B_0 := HK.get 3 0 rfl rfl
      have B_1 := HK.get 3 1 rfl rfl
      have B_s := HK.lt 3 rfl
      have A_0 := HK.get 4 0 rfl rfl
      have A_1 := HK.get 4 1 rfl rfl
      have A_s := HK.lt 4 rfl
      go_wp2_with fail
      refine wp_own23 (n := 13) (ia := 11) (is := 12) (d := 22) (x := 149) (s := S) (g := G) (N := 196) rfl (by decide) (by decide) (by kernel_rfl) rfl rfl rfl rfl rfl rfl rfl rfl ?_
      simp only [List.take_succ_cons, List.take_zero, List.drop_succ_cons, List.drop_zero]
      repeat (first
        | (refine wpX_out (by decide) ?_)
        | (refine wpX_step (by decide) (fun K hK => ?_); go_simp; first | (refine hK _ ?_; clear hK K) | (apply Exists.intro; refine ⟨fun p => ?_, hK _ ?_⟩; (first | (go_at_call 40; with_reducible exact (hR1 k hk1).call (hp.below HK.reg.base))); clear hK K)))
      refine wpX_nil ⟨rfl, fun p1 p2 => ?_⟩
      simp only [Act.put, ptrOf, List.setIfInBounds_toArray, List.set_cons_zero, List.set_cons_succ]
      clear P_0 P_1 P_s L_0 L_1 L_2 L_s B_0 B_1 B_s A_0 A_1 A_s
      replace HK := HK.own (vs := [.int .i64 S, .bool G]) (t := 23) (p1 := p1) (p2 := p2)
      generalize reg ((reg w12 p1).alloc (.cells #[.int .i64 S, .bool G] 23)) p2 = w13 at *
      generalize (reg w12 p1).heap.size = b13 at *
      replace HK := HK.drop
      clear hcell O_s
      have hcell := opN_at HK 1 rfl hk6
      have O_s := HK.lt 1 rfl
      have P_0 := HK.get 0 0 rfl rfl
      have P_1 := HK.get 0 1 rfl rfl
      have P_s := HK.lt 0 rfl
      have L_0 := HK.get 2 0 rfl rfl
      have L_1 := HK.get 2 1 rfl rfl
      have L_2 := HK.get 2 2 rfl rfl
      have L_s := HK.lt 2 rfl
      have B_0 := HK.get 3 0 rfl rfl
      have B_1 := HK.get 3 1 rfl rfl
      have B_s := HK.lt 3 rfl
      have A_0 := HK.get 4 0 rfl rfl
      have A_1 := HK.get 4 1 rfl rfl
      have A_s := HK.lt 4 rfl
      go_wp2_with fail
      refine wp_own23 (n := 13) (ia := 11) (is := 12) (d := 24) (x := 160) (s := S) (g := G) (N := 196) rfl (by decide) (by decide) (by kernel_rfl) rfl rfl rfl rfl rfl rfl rfl rfl ?_
      simp only [List.take_succ_cons, List.take_zero, List.drop_succ_cons, List.drop_zero]
      repeat (first
        | (refine wpX_out (by decide) ?_)
        | (refine wpX_step (by decide) (fun K hK => ?_); go_simp; first | (refine hK _ ?_; clear hK K) | (apply Exists.intro; refine ⟨fun p => ?_, hK _ ?_⟩; (first | (go_at_call 40; with_reducible exact (hR2 k hk1).call (hp.below HK.reg.base))); clear hK K)))
      refine wpX_nil ⟨rfl, fun p1 p2 => ?_⟩
      simp only [Act.put, ptrOf, List.setIfInBounds_toArray, List.set_cons_zero, List.set_cons_succ]
      clear P_0 P_1 P_s L_0 L_1 L_2 L_s B_0 B_1 B_s A_0 A_1 A_s
      replace HK := HK.own (vs := [.int .i64 S, .bool G]) (t := 23) (p1 := p1) (p2 := p2)
      generalize reg ((reg w13 p1).alloc (.cells #[.int .i64 S, .bool G] 23)) p2 = w14 at *
      generalize (reg w13 p1).heap.size = b14 at *
      replace HK := HK.drop
      clear hcell O_s
      go_wp2_with fail
      go_roundw
      case rel => exact ⟨k + 1, _, rfl, by omega, by go_num, HK.drop⟩
      case measure => simp [intOf]; omega
  · obtain rfl : k = 6 := by omega
    have O_0 := HK.get 0 0 rfl rfl
    have O_1 := HK.get 0 1 rfl rfl
    have O_2 := HK.get 0 2 rfl rfl
    have O_3 := HK.get 0 3 rfl rfl
    have O_4 := HK.get 0 4 rfl rfl
    have O_5 := HK.get 0 5 rfl rfl
    have O_s := HK.lt 0 rfl
    have L_0 := HK.get 1 0 rfl rfl
    have L_1 := HK.get 1 1 rfl rfl
    have L_2 := HK.get 1 2 rfl rfl
    have L_s := HK.lt 1 rfl
    have B_0 := HK.get 2 0 rfl rfl
    have B_1 := HK.get 2 1 rfl rfl
    have B_s := HK.lt 2 rfl
    have A_0 := HK.get 3 0 rfl rfl
    have A_1 := HK.get 3 1 rfl rfl
    have A_s := HK.lt 3 rfl
    go_wp2_with fail
    clear O_0 O_1 O_2 O_3 O_4 O_5 O_s L_0 L_1 L_2 L_s B_0 B_1 B_s A_0 A_1 A_s
    refine (hS _ (hp.below HK.base)).mono ?_
    rintro e w6 ⟨rfl, hq⟩
    replace HK := HK.below hq
    clear hq
    have O_0 := HK.get 0 0 rfl rfl
    have O_1 := HK.get 0 1 rfl rfl
    have O_2 := HK.get 0 2 rfl rfl
    have O_3 := HK.get 0 3 rfl rfl
    have O_4 := HK.get 0 4 rfl rfl
    have O_5 := HK.get 0 5 rfl rfl
    have O_s := HK.lt 0 rfl
    have L_0 := HK.get 1 0 rfl rfl
    have L_1 := HK.get 1 1 rfl rfl
    have L_2 := HK.get 1 2 rfl rfl
    have L_s := HK.lt 1 rfl
    have B_0 := HK.get 2 0 rfl rfl
    have B_1 := HK.get 2 1 rfl rfl
    have B_s := HK.lt 2 rfl
    have A_0 := HK.get 3 0 rfl rfl
    have A_1 := HK.get 3 1 rfl rfl
    have A_s := HK.lt 3 rfl
    go_wp2_with fail
    replace HK := HK.box (vs := [.int .i64 S, .bool G]) (t := 23)
    clear O_0 O_1 O_2 O_3 O_4 O_5 O_s L_0 L_1 L_2 L_s B_0 B_1 B_s A_0 A_1 A_s
    refine (hT _ (hp.below HK.base)).mono ?_
    rintro e w7 ⟨rfl, hq⟩
    replace HK := HK.below hq
    clear hq
    have U_0 := HK.get 0 0 rfl rfl
    have U_1 := HK.get 0 1 rfl rfl
    have U_s := HK.lt 0 rfl
    have O_0 := HK.get 1 0 rfl rfl
    have O_1 := HK.get 1 1 rfl rfl
    have O_2 := HK.get 1 2 rfl rfl
    have O_3 := HK.get 1 3 rfl rfl
    have O_4 := HK.get 1 4 rfl rfl
    have O_5 := HK.get 1 5 rfl rfl
    have O_s := HK.lt 1 rfl
    have L_0 := HK.get 2 0 rfl rfl
    have L_1 := HK.get 2 1 rfl rfl
    have L_2 := HK.get 2 2 rfl rfl
    have L_s := HK.lt 2 rfl
    have B_0 := HK.get 3 0 rfl rfl
    have B_1 := HK.get 3 1 rfl rfl
    have B_s := HK.lt 3 rfl
    have A_0 := HK.get 4 0 rfl rfl
    have A_1 := HK.get 4 1 rfl rfl
    have A_s := HK.lt 4 rfl
    go_wp2_with fail
    replace HK := HK.alloc (o := (.cells #[.int .i64 S, .bool G] 23))
    with_reducible refine wp_quiet (by kernel_rfl) (by kernel_rfl) ?_
    repeat (quiet_step ((first | (go_at_call 41; with_reducible exact reg_call (hM1.call (hp.below HK.reg.base))) | (go_at_call 41; with_reducible exact reg_call (hM2.call (hp.below HK.reg.base))))))
    refine wpQuiet_nil ?_
    intro _ hw'; obtain ⟨p, rfl⟩ := hw'
    clear U_0 U_1 U_s O_0 O_1 O_2 O_3 O_4 O_5 O_s L_0 L_1 L_2 L_s B_0 B_1 B_s A_0 A_1 A_s
    replace HK := HK.reg (p := p)
    generalize reg (w7.alloc (.cells #[.int .i64 S, .bool G] 23)) p = w8 at *
    have U_0 := HK.get 0 0 rfl rfl
    have U_1 := HK.get 0 1 rfl rfl
    have U_s := HK.lt 0 rfl
    have O_0 := HK.get 1 0 rfl rfl
    have O_1 := HK.get 1 1 rfl rfl
    have O_2 := HK.get 1 2 rfl rfl
    have O_3 := HK.get 1 3 rfl rfl
    have O_4 := HK.get 1 4 rfl rfl
    have O_5 := HK.get 1 5 rfl rfl
    have O_s := HK.lt 1 rfl
    have L_0 := HK.get 2 0 rfl rfl
    have L_1 := HK.get 2 1 rfl rfl
    have L_2 := HK.get 2 2 rfl rfl
    have L_s := HK.lt 2 rfl
    have B_0 := HK.get 3 0 rfl rfl
    have B_1 := HK.get 3 1 rfl rfl
    have B_s := HK.lt 3 rfl
    have A_0 := HK.get 4 0 rfl rfl
    have A_1 := HK.get 4 1 rfl rfl
    have A_s := HK.lt 4 rfl
    go_wp2
    go_ret
    exact ⟨rfl, by repeat (first | exact HK.base | apply b_alloc)⟩
end
end Go.Proofs.YtfgmfkiknogdeaaDoor
