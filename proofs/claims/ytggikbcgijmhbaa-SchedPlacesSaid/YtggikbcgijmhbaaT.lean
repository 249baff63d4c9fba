/- WHAT IS PROVED: the board's thread; Block's and Wake's operations. CONDITIONS: a valid state in memory of one's own. -/
import Derived.Test.YtggikbcgijmhbaaR
set_option linter.unusedSimpArgs false
set_option linter.unusedVariables false
namespace Go.Proofs.Ytggikbcgijmhbaa
open Go Go.RowKit Go.QrBits Go.QrMem
attribute [local go_sem] reg_cell reg_frozen reg_setCell reg_lt reg_lt_add reg_drew reg_of_drew
section
variable {B b0 bc cc ct e : Nat} {at_ : Option Addr} {rs : List (Option Addr × Nat)} {s : St} {w : World}
set_option maxHeartbeats 4000000 in
set_option maxRecDepth 100000 in
theorem thread_y {bt : Nat} (h : Own B b0 bc cc (some ⟨bt, 0, none⟩) ct rs s w) {k : Nat} (hk : k < s.ts.length) {pb n : Nat} {zs : List Int} (hz : zs.length = n) (hn : n ≤ 4) (hp : ∀ j, j < zs.length → w.cell? ⟨pb, 0 + j, none⟩ = some (.int .i64 (zs.getD j 0))) (hpl : pb < w.heap.size) (hmem : zs.contains (thOf s.ts (k : Int)).st = true) :
    Calls Try.prog 55 #[bdV b0 e, .int .i64 k, .slice (some ⟨pb, 0, none⟩) n n] w fun y w' => y = .returned (.pointer (some ⟨bt, k * 3, none⟩)) ∧ Below w.heap.size w w' := by
  obtain ⟨p0, p1, p2, _, _, _, pl⟩ := row3 h.nxt
  obtain ⟨_, _, t2, _⟩ := h.tcells (th_some hk)
  have hbt := World.block_lt_of_cell? _ _ t2
  have hm := (slV_own h.th).max
  unfold maxLen at hm
  have hin : inB (k : Int) 0 ((s.ts.length : Int) - 1) = true := inB_in (by omega)
  have hW := fun w => within_y (k : Int) 0 ((s.ts.length : Int) - 1) w hin
  have hCt := fun W (hb : Below w.heap.size w W) => Try.slices_Contains_int pb 0 n n zs (thOf s.ts (k : Int)).st W (by omega) (by omega) (fun j hj => (hb.cell (p := ⟨pb, 0 + j, none⟩) hpl).trans (hp j hj))
  have hzt : zs.take n = zs := by rw [← hz]; exact List.take_length
  rw [hzt, hmem] at hCt
  have HCt := Lib.hid hCt
  clear h hin hCt hzt hmem hp hz
  generalize (thOf s.ts (k : Int)).st = st at *
  generalize s.ts.length = m at *
  have k0 : (0 : Int) ≤ (k : Int) := Int.natCast_nonneg _
  have k1 : (k : Int) < (m : Int) := by omega
  have m1 : (1 : Int) ≤ (m : Int) := by omega
  have hw1 : IntKind.i64.wrap ((m : Int) - 1) = (m : Int) - 1 := by exact IntWalk.i64_in _ (by omega)
  have HW := Lib.hid hW
  clear hW
  unfold bdV
  go_enter Try.func55, Try.ntmps55
  go_wp2_with fail
  show Code.wp _ _ _ _ (w.alloc (.cells (bdC b0 e).toArray 77))
  have HK := (Kw.start w).box (vs := bdC b0 e) (t := 77)
  generalize w.alloc (.cells (bdC b0 e).toArray 77) = W at *
  obtain ⟨k_0, k_1, k_2, k_3, k_4, k_5, hxl⟩ := board_cells (HK.row 0 rfl)
  have q1 := (HK.base.cell (p := ⟨b0, 1, none⟩) pl).trans p1
  have hbl : b0 < W.heap.size := Nat.lt_of_lt_of_le pl HK.base.size
  have HKK := Lib.hid HK
  have P1 := Lib.hid p1
  have T2 := Lib.hid t2
  clear HK p0 p1 p2 t2
  refine wp_quiet_tail 10 (by kernel_rfl) (by kernel_rfl) ?_
  simp only [List.take_succ_cons, List.take_zero, List.drop_succ_cons, List.drop_zero]
  repeat (quiet_step (fail))
  quiet_step ((go_at_call 31; exact reg_call ((HW.out _).mono (by rintro e w' ⟨h1, rfl⟩; exact ⟨h1, Below.refl _ _⟩))))
  refine wpQuiet_nil ?_
  intro _ hw'; obtain ⟨p, rfl⟩ := hw'
  have HKp := Lib.hid (HKK.out.reg (p := p))
  clear hw1 HKK k_0 k_1 k_2 k_3 k_4 k_5 q1 HW hbl hxl
  go_wp2_with fail
  refine (demand_y _ _ _).mono ?_
  rintro e w1 ⟨rfl, hb1⟩
  have HK1 := HKp.out.below hb1
  obtain ⟨k_0, k_1, k_2, k_3, k_4, k_5, hxl⟩ := board_cells (HK1.row 0 rfl)
  have q1 := (HK1.base.cell (p := ⟨b0, 1, none⟩) pl).trans P1.out
  have q2 := (HK1.base.cell (p := ⟨bt, k * 3 + 2, none⟩) hbt).trans T2.out
  have hbt1 : bt < w1.heap.size := Nat.lt_of_lt_of_le hbt HK1.base.size
  have HKK := Lib.hid HK1
  clear HKp hb1 HK1
  go_wp2_with fail
  refine wp_quiet_tail 7 (by kernel_rfl) (by kernel_rfl) ?_
  simp only [List.take_succ_cons, List.take_zero, List.drop_succ_cons, List.drop_zero]
  repeat (quiet_step (fail))
  quiet_step ((go_at_call 76; exact reg_call ((HCt.out _ (Below.tail HKK.out.base (below_reg _ _))).mono (by rintro e w' ⟨h1, h2⟩; exact ⟨h1, by rw [h2]; exact Below.refl _ _⟩))))
  refine wpQuiet_nil ?_
  intro _ hw'; obtain ⟨p2, rfl⟩ := hw'
  have HKp := Lib.hid (HKK.out.reg (p := p2))
  clear HKK k_0 k_1 k_2 k_3 k_4 k_5 q1 q2 HCt hbt1 hxl
  go_wp2_with fail
  refine (demand_y _ _ _).mono ?_
  rintro e w2 ⟨rfl, hb2⟩
  have HB := Lib.hid (HKp.out.below hb2).base
  clear HKp hb2
  go_wp2
  go_ret
  exact ⟨by simp, HB.out⟩
theorem build_cells {w : World} {pb : Nat} (hs : w.heap.size = pb) (zs : List Int) : ∀ j, j < zs.length → (w.alloc (.cells (iV zs).toArray 3)).cell? ⟨pb, 0 + j, none⟩ = some (.int .i64 (zs.getD j 0)) := by
  intro j hj
  have h := heap_new (o := .cells (iV zs).toArray 3) hs
  rw [Nat.zero_add]
  unfold World.cell?
  rw [h]
  simp [iV, List.getElem?_eq_getElem hj]
set_option maxHeartbeats 4000000 in
set_option maxRecDepth 100000 in
theorem block1_c (he : Env b0 e w) (h : Own B b0 bc cc at_ ct rs s w) (hok : Ok s) {k : Nat} (hk : k < s.ts.length) (hst : (thOf s.ts (k : Int)).st = 1 ∨ (thOf s.ts (k : Int)).st = 2) {xc x : Nat} (hxc : IsI xc k w) :
    Calls Try.prog 54 #[bdV b0 e, .pointer (some ⟨xc, 0, none⟩)] w (OpRes B x b0 bc at_ (leaveM s k 3) (fun _ => True) w) := by
  obtain ⟨bt, rfl⟩ := h.at_some hk
  obtain ⟨x0, _, xl⟩ := cell0 hxc
  obtain ⟨c, hc, hcl⟩ := hok.cpu hk
  have HXC := Lib.hid hxc
  have HB1 : Below w.heap.size w ((w.alloc (.cells (bdC b0 e).toArray 77)).alloc (.cells (iV [1, 2]).toArray 3)) := b_alloc (b_alloc (Below.refl _ _))
  have HTh := Lib.hid (thread_y (e := e) (h.below HB1) hk (pb := w.heap.size + 1) (n := 2) (zs := [1, 2]) rfl (by omega) (build_cells (by simp) _) (by simp) (by rcases hst with h | h <;> rw [h] <;> rfl))
  have HK := ((Kw.start w).box (vs := bdC b0 e) (t := 77)).below (w' := (w.alloc (.cells (bdC b0 e).toArray 77)).alloc (.cells (iV [1, 2]).toArray 3)) (b_alloc (Below.refl _ _))
  have HL := Lib.hid (fun W (hW : Below w.heap.size w W) => leave_c (he.below hW) (h.below hW) hk hc hcl (short_of_ok hok) 3)
  clear he h hok hst hxc hc HB1
  unfold bdV
  go_enter Try.func54, Try.ntmps54
  go_wp2_with fail
  show Calls Try.prog 55 #[bdV b0 e, .int .i64 k, .slice (some ⟨w.heap.size + 1, 0, none⟩) 2 2] ((w.alloc (.cells (bdC b0 e).toArray 77)).alloc (.cells (iV [1, 2]).toArray 3)) _
  refine HTh.out.mono ?_
  rintro y w1 ⟨rfl, hb1⟩
  have HK1 := HK.below hb1
  obtain ⟨k_0, k_1, k_2, k_3, k_4, k_5, hxl⟩ := board_cells (HK1.row 0 rfl)
  have y0 := (HK1.base.cell (p := ⟨xc, 0, none⟩) xl).trans x0
  have HBB := Lib.hid HK1.base
  clear HK hb1 HTh x0 HK1
  go_wp2_with fail
  refine (HL.out _ HBB.out).mono ?_
  rintro y w2 ⟨rfl, ⟨rs2, hO2⟩, hF2⟩
  have HO2 := Lib.hid hO2
  have HF2 := Lib.hid ((Fr.of_below HBB.out).trans hF2)
  clear hO2 hF2
  go_wp2
  refine bodyPost_end (results_none rfl _ _ _) rfl ?_
  exact ⟨rfl, ⟨bc, cc, _, ct, rs2, HO2.out⟩, HF2.out.op, trivial⟩
set_option maxHeartbeats 4000000 in
set_option maxRecDepth 100000 in
theorem wake1_c (he : Env b0 e w) (h : Own B b0 bc cc at_ ct rs s w) (hok : Ok s) {k c : Nat} (hk : k < s.ts.length) (hc : (thOf s.ts (k : Int)).cpu = c) (hst : (thOf s.ts (k : Int)).st = 3) {xc xr : Nat} (hxB : xr < B) (hxc : IsI xc k w) (o : Bool) (hxr : IsB xr o w) :
    Calls Try.prog 56 #[bdV b0 e, .pointer (some ⟨xc, 0, none⟩), .pointer (some ⟨xr, 0, none⟩)] w (OpRes B xr b0 bc at_ (toEndM s k) (IsB xr (dueM (toEndM s k) c)) w) := by
  obtain ⟨bt, rfl⟩ := h.at_some hk
  obtain ⟨x0, _, xl⟩ := cell0 hxc
  have xrl : xr < w.heap.size := (Array.getElem?_eq_some_iff.1 hxr).1
  have hcl : c < s.qs.length := by obtain ⟨d, h1, h2⟩ := hok.cpu hk; omega
  have hok2 : Ok (toEndM s k) := toEnd_ok hok (.inl rfl) hk
  have HXR := Lib.hid hxr
  have HB1 : Below w.heap.size w ((w.alloc (.cells (bdC b0 e).toArray 77)).alloc (.cells (iV [3]).toArray 3)) := b_alloc (b_alloc (Below.refl _ _))
  have HTh := Lib.hid (thread_y (e := e) (h.below HB1) hk (pb := w.heap.size + 1) (n := 1) (zs := [3]) rfl (by omega) (build_cells (by simp) _) (by simp) (by rw [hst]; rfl))
  have HK := ((Kw.start w).box (vs := bdC b0 e) (t := 77)).below (w' := (w.alloc (.cells (bdC b0 e).toArray 77)).alloc (.cells (iV [3]).toArray 3)) (b_alloc (Below.refl _ _))
  have HL := Lib.hid (fun W (hW : Below w.heap.size w W) => toEnd_c (he.below hW) (h.below hW) hk hc hcl (short_of_ok hok) (rng_of_ok hok hcl))
  have HO := Lib.hid h
  have HOK2 := Lib.hid hok2
  have hk2 : k < (toEndM s k).ts.length := by show k < (enterM s k _).ts.length; rw [enterM_m]; exact hk
  have hc2 : c < (toEndM s k).qs.length := by show c < (enterM s k _).qs.length; rw [enterM_n]; exact hcl
  have hcp : (thOf (toEndM s k).ts (k : Int)).cpu = c := by
    show (thOf (enterM s k _).ts (k : Int)).cpu = c
    rw [enterM_th _ hk]; simpa using hc
  have HCP := Lib.hid hcp
  clear he h hok hok2 hst hxc hc HB1 hxr hcp
  unfold bdV
  go_enter Try.func56, Try.ntmps56
  go_wp2_with fail
  show Calls Try.prog 55 #[bdV b0 e, .int .i64 k, .slice (some ⟨w.heap.size + 1, 0, none⟩) 1 1] ((w.alloc (.cells (bdC b0 e).toArray 77)).alloc (.cells (iV [3]).toArray 3)) _
  refine HTh.out.mono ?_
  rintro y w1 ⟨rfl, hb1⟩
  have HK1 := HK.below hb1
  obtain ⟨k_0, k_1, k_2, k_3, k_4, k_5, hxl⟩ := board_cells (HK1.row 0 rfl)
  have y0 := (HK1.base.cell (p := ⟨xc, 0, none⟩) xl).trans x0
  have HKK := Lib.hid HK1
  clear HK hb1 HTh x0 HK1
  go_wp2_with fail
  refine (HL.out _ HKK.out.base).mono ?_
  rintro y w2 ⟨rfl, ⟨rs2, hO2⟩, hF2⟩
  have hO2 : Own B b0 bc cc (some ⟨bt, 0, none⟩) ct rs2 (toEndM s k) w2 := hO2
  have hO1 := HO.out.below HKK.out.base
  have hbox := hO1.kept hF2 (HKK.out.row 0 rfl) (by decide)
  have XR2 := Lib.hid (hO1.kept hF2 ((HKK.out.base.block _ xrl).trans HXR.out) (by decide))
  have F2 := Lib.hid ((Fr.of_below HKK.out.base).trans hF2)
  obtain ⟨k_0, k_1, k_2, k_3, k_4, k_5, hxl⟩ := board_cells hbox
  obtain ⟨n0, n1, n2, _, _, _, nl⟩ := row3 hO2.nxt
  obtain ⟨_, t1, _⟩ := hO2.tcells (th_some hk2)
  rw [HCP.out] at t1
  have hbt := World.block_lt_of_cell? _ _ t1
  have HD : Hid (∀ W, Below w2.heap.size w2 W → Calls Try.prog 41 #[.agg #[.slice (some ⟨bc, 0, none⟩) (toEndM s k).qs.length cc, .slice (some ⟨bt, 0, none⟩) (toEndM s k).ts.length ct, .int .i64 (toEndM s k).q], .int .i64 c] W fun y w' => y = .returned (.bool (dueM (toEndM s k) c)) ∧ Below W.heap.size W w') :=
    Lib.hid fun W hW => due_c _ _ _ _ _ _ _ c W ((hO2.below hW).scIn (short_of_ok HOK2.out)) HOK2.out hc2
  have HO2 := Lib.hid hO2
  clear hO2 hO1 hbox hF2 HKK HL HO HXR y0
  generalize toEndM s k = s2 at *
  go_wp2_with fail
  refine wp_quiet_tail 8 (by kernel_rfl) (by kernel_rfl) ?_
  simp only [List.take_succ_cons, List.take_zero, List.drop_succ_cons, List.drop_zero]
  repeat (quiet_step (fail))
  refine wpQuiet_nil ?_
  intro _ hw'; obtain ⟨p, rfl⟩ := hw'
  have hbp := below_reg w2 p
  clear k_0 k_1 k_2 k_3 k_4 k_5 n0 n1 n2 t1
  go_wp2_with fail
  refine (HD.out _ hbp).mono ?_
  rintro y w3 ⟨rfl, hb3⟩
  have hB3 := Below.tail hbp hb3
  have XR3 := (hB3.block _ (Array.getElem?_eq_some_iff.1 XR2.out).1).trans XR2.out
  obtain ⟨z0, z1, _⟩ := cell0 XR3
  have O4 := Lib.hid ((HO2.out.below hB3).setX hxB (.bool (dueM s2 c)))
  have F4 := Lib.hid ((F2.out.trans (Fr.of_below hB3)).op (x := xr) (b0 := b0) |>.setX (.bool (dueM s2 c)))
  have hI : IsB xr (dueM s2 c) (w3.setCell ⟨xr, 0, none⟩ (.bool (dueM s2 c))) := by
    have := heap_setCell_same w3 xr 0 _ 4 (.bool (dueM s2 c)) XR3
    simpa [IsB] using this
  have HI := Lib.hid hI
  clear hb3 hB3 XR3 hbp hI
  go_wp2
  refine bodyPost_end (results_none rfl _ _ _) rfl ?_
  exact ⟨rfl, ⟨bc, cc, _, ct, rs2, O4.out⟩, F4.out, HI.out⟩
end
end Go.Proofs.Ytggikbcgijmhbaa
