/- WHAT IS PROVED: the board's dispatch. CONDITIONS: a valid state in memory of one's own; a queue that is not empty. -/
import Derived.Test.YtggikbcgijmhbaaP
set_option linter.unusedSimpArgs false
set_option linter.unusedVariables false
namespace Go.Proofs.Ytggikbcgijmhbaa
open Go Go.RowKit Go.QrBits Go.QrMem
attribute [local go_sem] reg_cell reg_frozen reg_setCell reg_lt reg_lt_add reg_drew reg_of_drew
theorem board_cells {w : World} {b b0 e : Nat} {t : TypeId} (h : w.heap[b]? = some (.cells (bdC b0 e).toArray t (0, 0))) :
    w.cell? ⟨b, 0, none⟩ = some (.pointer (some ⟨b0, 0, none⟩)) ∧ w.cell? ⟨b, 1, none⟩ = some (.func (.func 88) #[] #[.pointer (some ⟨e + 2, 0, none⟩), .pointer (some ⟨e, 0, none⟩)]) ∧ w.cell? ⟨b, 2, none⟩ = some (.func (.func 92) #[] #[.pointer (some ⟨e + 4, 0, none⟩), .pointer (some ⟨e, 0, none⟩)]) ∧
    w.cell? ⟨b, 3, none⟩ = some (.func (.func 94) #[] #[.pointer (some ⟨e + 4, 0, none⟩), .pointer (some ⟨e, 0, none⟩)]) ∧ w.cell? ⟨b, 4, none⟩ = some (.func (.func 96) #[] #[.pointer (some ⟨e + 3, 0, none⟩), .pointer (some ⟨e + 2, 0, none⟩), .pointer (some ⟨e, 0, none⟩)]) ∧
    w.cell? ⟨b, 5, none⟩ = some (.func (.func 97) #[] #[.pointer (some ⟨e + 3, 0, none⟩), .pointer (some ⟨e, 0, none⟩), .pointer (some ⟨e + 5, 0, none⟩)]) ∧ b < w.heap.size :=
  ⟨by simp [World.cell?, h, bdC], by simp [World.cell?, h, bdC], by simp [World.cell?, h, bdC], by simp [World.cell?, h, bdC], by simp [World.cell?, h, bdC], by simp [World.cell?, h, bdC], (Array.getElem?_eq_some_iff.1 h).1⟩
theorem rng_of_ok {x : Option Nat} {s : St} (h : OkX x s) {c : Nat} (hc : c < s.qs.length) : Rng s c := by
  intro r hr
  obtain ⟨j, h1, _, t, h2, _⟩ := h.rd c _ (qu_some hc) r hr
  have := (List.getElem?_eq_some_iff.1 h2).1
  omega
section
variable {B b0 bc cc ct e : Nat} {at_ : Option Addr} {rs : List (Option Addr × Nat)} {s : St} {w : World}
set_option maxHeartbeats 4000000 in
set_option maxRecDepth 100000 in
theorem dispatch_c (he : Env b0 e w) (h : Own B b0 bc cc at_ ct rs s w) (hok : Ok s) {c : Nat} (hc : c < s.qs.length) (hne : (quOf s.qs (c : Int)).ready ≠ []) :
    Calls Try.prog 52 #[bdV b0 e, .pointer (some ⟨bc, c * 3, none⟩)] w (Moved B b0 bc cc at_ ct (dispM s c) w) := by
  obtain ⟨s1, hD, hok1, hn1, hm1, hq1, hr1, hne1, hs1⟩ := disp_mid hok hc hne
  have hc1 : c < s1.qs.length := by omega
  obtain ⟨k, l, hk1, hk2, hk3, hk4⟩ := hok1.head hc1 hne1
  have hD2 : dispM s c = toRunM s1 k := by rw [hD, hk1]; simp
  -- what comes behind the first move, whichever it was
  have hTail : ∀ (W : World) (rs1 : List (Option Addr × Nat)), Own B b0 bc cc at_ ct rs1 s1 W → Env b0 e W → ∃ (r : Option Addr × Nat) (br offr : Nat), r.1 = some ⟨br, offr, none⟩ ∧ W.cell? ⟨bc, c * 3 + 2, none⟩ = some (.slice (some ⟨br, offr, none⟩) (quOf s1.qs (c : Int)).ready.length r.2) ∧ W.cell? ⟨br, offr, none⟩ = some (.int .i64 k) ∧ br < W.heap.size ∧ bc < W.heap.size ∧
      (∀ W', Below W.heap.size W W' → Calls Try.prog 96 #[.int .i64 k, .pointer (some ⟨e + 3, 0, none⟩), .pointer (some ⟨e + 2, 0, none⟩), .pointer (some ⟨e, 0, none⟩)] W' (Moved B b0 bc cc at_ ct (toRunM s1 k) W')) := by
    intro W rs1 O1 E1
    obtain ⟨r, hr, _, _, g2, _⟩ := O1.cells (qu_some hc1)
    have hR := O1.rd c _ r (qu_some hc1) hr
    obtain ⟨_, h0 | ⟨br, offr, cur, ha, hb, hcl⟩⟩ := hR
    · rw [hk1] at h0; simp at h0
    · refine ⟨r, br, offr, ha, by rw [← ha]; exact g2, ?_, (Array.getElem?_eq_some_iff.1 hb).1, World.block_lt_of_cell? _ _ g2, fun W' hW => toRun_c (E1.below hW) (O1.below hW) hk2 hk3 hc1 (short_of_ok hok1)⟩
      have := hcl 0 (.int .i64 k) (by rw [hk1]; rfl)
      simpa using this
  have hlen : 0 < (quOf s1.qs (c : Int)).ready.length := by rw [hk1]; simp
  have hsh := short16 hok1 c _ (qu_some hc1)
  have HT := Lib.hid hTail
  have HD := Lib.hid hD2
  have HE := Lib.hid he
  have HO := Lib.hid h
  have HOK := Lib.hid hok
  obtain ⟨r0, _, c0, c1, _, _, _, _⟩ := h.cells (qu_some hc)
  have hbcl := World.block_lt_of_cell? _ _ c0
  have HQ := Lib.hid (fun hr => hok.qr c _ (qu_some hc) hr)
  have hrg := Lib.hid (rng_of_ok hok hc)
  have hso := Lib.hid (short_of_ok hok)
  generalize hgL : (quOf s1.qs (c : Int)).ready.length = L at *
  clear hTail hD2 hD he h hok hgL hk1 hk3 hk4 hne1 hr1
  have L0 : (0 : Int) < (L : Int) := by omega
  unfold bdV
  have HK := (Kw.start w).box (vs := bdC b0 e) (t := 77)
  by_cases hrun : (quOf s.qs (c : Int)).run = -1
  · have HS1 : Hid (s1 = s) := Lib.hid (by rw [hs1, if_pos hrun])
    rw [hrun] at c0
    clear hs1 hrun HQ
    go_enter Try.func52, Try.ntmps52
    go_wp2_with fail
    show Code.wp _ _ _ _ (w.alloc (.cells (bdC b0 e).toArray 77))
    generalize w.alloc (.cells (bdC b0 e).toArray 77) = W at *
    obtain ⟨k_0, k_1, k_2, k_3, k_4, k_5, hxl⟩ := board_cells (HK.row 0 rfl)
    have d0 := (HK.base.cell (p := ⟨bc, c * 3, none⟩) hbcl).trans c0
    have d1 := (HK.base.cell (p := ⟨bc, c * 3 + 1, none⟩) hbcl).trans c1
    have hbcW : bc < W.heap.size := Nat.lt_of_lt_of_le hbcl HK.base.size
    go_wp2_with fail
    have O1 : Own B b0 bc cc at_ ct rs s1 W := by rw [HS1.out]; exact HO.out.below HK.base
    have E1 := HE.out.below HK.base
    have F1 : Hid (Fr bc at_ w W) := Lib.hid (Fr.of_below HK.base)
    have hbox := HK.row 0 rfl
    clear c0 c1
    obtain ⟨r, br, offr, hra, e2, e3, hbrl, hbcl1, hRun⟩ := HT.out W rs O1 E1
    obtain ⟨k_0, k_1, k_2, k_3, k_4, k_5, hxl⟩ := board_cells hbox
    have HRun := Lib.hid hRun
    clear hRun O1 E1 hra hbox
    refine wp_quiet_tail 9 (by kernel_rfl) (by kernel_rfl) ?_
    simp only [List.take_succ_cons, List.take_zero, List.drop_succ_cons, List.drop_zero]
    repeat (quiet_step (fail))
    refine wpQuiet_nil ?_
    intro _ hw'; obtain ⟨p, rfl⟩ := hw'
    have hbp := below_reg W p
    clear k_0 k_1 k_2 k_3 k_4 k_5 e2 e3
    go_wp2_with fail
    refine (HRun.out _ hbp).mono ?_
    rintro y w7 ⟨rfl, ⟨rs7, hO7⟩, hF7⟩
    have HO7 := Lib.hid hO7
    have HF7 := Lib.hid ((F1.out.trans (Fr.of_below hbp)).trans hF7)
    clear hO7 hF7
    go_wp2
    refine bodyPost_end (results_none rfl _ _ _) rfl ?_
    exact ⟨rfl, ⟨rs7, by rw [HD.out]; exact HO7.out⟩, HF7.out⟩
  · have hb : ((quOf s.qs (c : Int)).run == -1) = false := by simpa using hrun
    obtain ⟨m, hm, _, _, _, t, ht, htc, _⟩ := HQ.out hrun
    have hml : m < s.ts.length := (List.getElem?_eq_some_iff.1 ht).1
    have hmc : (thOf s.ts (m : Int)).cpu = c := by rw [thOf_of ht]; exact htc
    have hm2 : (quOf s.qs (c : Int)).run.toNat = m := by omega
    rw [hm] at c0 hb
    by_cases hleft : (quOf s.qs (c : Int)).left = 0
    · have HS1 : Hid (s1 = enterM s m (endP m)) := Lib.hid (by rw [hs1, if_neg hrun, if_pos hleft, hm2]; rfl)
      rw [hleft] at c1
      have HM := Lib.hid (fun W hW => toEnd_c (B := B) (cc := cc) (ct := ct) (rs := rs) (w := W) (HE.out.below hW) (HO.out.below hW) hml hmc hc hso.out hrg.out)
      clear hs1 hrun HQ hm2 hm ht htc hmc
      go_enter Try.func52, Try.ntmps52
      go_wp2_with fail
      show Code.wp _ _ _ _ (w.alloc (.cells (bdC b0 e).toArray 77))
      generalize w.alloc (.cells (bdC b0 e).toArray 77) = W at *
      obtain ⟨k_0, k_1, k_2, k_3, k_4, k_5, hxl⟩ := board_cells (HK.row 0 rfl)
      have d0 := (HK.base.cell (p := ⟨bc, c * 3, none⟩) hbcl).trans c0
      have d1 := (HK.base.cell (p := ⟨bc, c * 3 + 1, none⟩) hbcl).trans c1
      have hbcW : bc < W.heap.size := Nat.lt_of_lt_of_le hbcl HK.base.size
      clear c0 c1
      go_wp2_with fail
      refine wp_quiet_tail 7 (by kernel_rfl) (by kernel_rfl) ?_
      simp only [List.take_succ_cons, List.take_zero, List.drop_succ_cons, List.drop_zero]
      repeat (quiet_step (fail))
      refine wpQuiet_nil ?_
      intro _ hw'; obtain ⟨p1, rfl⟩ := hw'
      have hbp1 := below_reg W p1
      have HKp := HK.below hbp1
      clear k_0 k_1 k_2 k_3 k_4 k_5 d0 d1
      go_wp2_with fail
      refine (HM.out _ HKp.base).mono ?_
      rintro y w5 ⟨rfl, ⟨rs5, hO5⟩, hF5⟩
      have hOp := HO.out.below HKp.base
      have hbox := hOp.kept hF5 (HKp.row 0 rfl) (by decide)
      have E1 := (HE.out.below HKp.base).fr hOp hF5
      have F1 : Hid (Fr bc at_ w w5) := Lib.hid ((Fr.of_below HKp.base).trans hF5)
      have O1 : Own B b0 bc cc at_ ct rs5 s1 w5 := by rw [HS1.out]; exact hO5
      clear hO5 hF5 hOp HKp hbp1 HM
      go_wp2_with fail
      obtain ⟨r, br, offr, hra, e2, e3, hbrl, hbcl1, hRun⟩ := HT.out w5 rs5 O1 E1
      obtain ⟨k_0, k_1, k_2, k_3, k_4, k_5, hxl⟩ := board_cells hbox
      have HRun := Lib.hid hRun
      clear hRun O1 E1 hra hbox
      refine wp_quiet_tail 9 (by kernel_rfl) (by kernel_rfl) ?_
      simp only [List.take_succ_cons, List.take_zero, List.drop_succ_cons, List.drop_zero]
      repeat (quiet_step (fail))
      refine wpQuiet_nil ?_
      intro _ hw'; obtain ⟨p, rfl⟩ := hw'
      have hbp := below_reg w5 p
      clear k_0 k_1 k_2 k_3 k_4 k_5 e2 e3
      go_wp2_with fail
      refine (HRun.out _ hbp).mono ?_
      rintro y w7 ⟨rfl, ⟨rs7, hO7⟩, hF7⟩
      have HO7 := Lib.hid hO7
      have HF7 := Lib.hid ((F1.out.trans (Fr.of_below hbp)).trans hF7)
      clear hO7 hF7
      go_wp2
      refine bodyPost_end (results_none rfl _ _ _) rfl ?_
      exact ⟨rfl, ⟨rs7, by rw [HD.out]; exact HO7.out⟩, HF7.out⟩
    · have hbl : ((quOf s.qs (c : Int)).left == 0) = false := by simpa using hleft
      have HS1 : Hid (s1 = enterM s m (frontP m)) := Lib.hid (by rw [hs1, if_neg hrun, if_neg hleft, hm2]; rfl)
      have HM := Lib.hid (fun W hW => toFront_c (B := B) (cc := cc) (ct := ct) (rs := rs) (w := W) (HE.out.below hW) (HO.out.below hW) hml hmc hc hso.out hrg.out)
      clear hs1 hrun HQ hm2 hm ht htc hmc
      go_enter Try.func52, Try.ntmps52
      go_wp2_with fail
      show Code.wp _ _ _ _ (w.alloc (.cells (bdC b0 e).toArray 77))
      generalize w.alloc (.cells (bdC b0 e).toArray 77) = W at *
      obtain ⟨k_0, k_1, k_2, k_3, k_4, k_5, hxl⟩ := board_cells (HK.row 0 rfl)
      have d0 := (HK.base.cell (p := ⟨bc, c * 3, none⟩) hbcl).trans c0
      have d1 := (HK.base.cell (p := ⟨bc, c * 3 + 1, none⟩) hbcl).trans c1
      have hbcW : bc < W.heap.size := Nat.lt_of_lt_of_le hbcl HK.base.size
      clear c0 c1
      go_wp2_with fail
      refine wp_quiet_tail 7 (by kernel_rfl) (by kernel_rfl) ?_
      simp only [List.take_succ_cons, List.take_zero, List.drop_succ_cons, List.drop_zero]
      repeat (quiet_step (fail))
      refine wpQuiet_nil ?_
      intro _ hw'; obtain ⟨p1, rfl⟩ := hw'
      have hbp1 := below_reg W p1
      have HKp := HK.below hbp1
      clear k_0 k_1 k_2 k_3 k_4 k_5 d0 d1
      go_wp2_with fail
      refine (HM.out _ HKp.base).mono ?_
      rintro y w5 ⟨rfl, ⟨rs5, hO5⟩, hF5⟩
      have hOp := HO.out.below HKp.base
      have hbox := hOp.kept hF5 (HKp.row 0 rfl) (by decide)
      have E1 := (HE.out.below HKp.base).fr hOp hF5
      have F1 : Hid (Fr bc at_ w w5) := Lib.hid ((Fr.of_below HKp.base).trans hF5)
      have O1 : Own B b0 bc cc at_ ct rs5 s1 w5 := by rw [HS1.out]; exact hO5
      clear hO5 hF5 hOp HKp hbp1 HM
      go_wp2_with fail
      obtain ⟨r, br, offr, hra, e2, e3, hbrl, hbcl1, hRun⟩ := HT.out w5 rs5 O1 E1
      obtain ⟨k_0, k_1, k_2, k_3, k_4, k_5, hxl⟩ := board_cells hbox
      have HRun := Lib.hid hRun
      clear hRun O1 E1 hra hbox
      refine wp_quiet_tail 9 (by kernel_rfl) (by kernel_rfl) ?_
      simp only [List.take_succ_cons, List.take_zero, List.drop_succ_cons, List.drop_zero]
      repeat (quiet_step (fail))
      refine wpQuiet_nil ?_
      intro _ hw'; obtain ⟨p, rfl⟩ := hw'
      have hbp := below_reg w5 p
      clear k_0 k_1 k_2 k_3 k_4 k_5 e2 e3
      go_wp2_with fail
      refine (HRun.out _ hbp).mono ?_
      rintro y w7 ⟨rfl, ⟨rs7, hO7⟩, hF7⟩
      have HO7 := Lib.hid hO7
      have HF7 := Lib.hid ((F1.out.trans (Fr.of_below hbp)).trans hF7)
      clear hO7 hF7
      go_wp2
      refine bodyPost_end (results_none rfl _ _ _) rfl ?_
      exact ⟨rfl, ⟨rs7, by rw [HD.out]; exact HO7.out⟩, HF7.out⟩
end
end Go.Proofs.Ytggikbcgijmhbaa
