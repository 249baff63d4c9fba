/- WHAT IS PROVED: End and SetPri of a valid state; the board's thread panics at a number that is no thread and at a state that is not asked for. -/
import Derived.Test.YtggikbcgijmhbaaU
set_option linter.unusedSimpArgs false
set_option linter.unusedVariables false
namespace Go.Proofs.Ytggikbcgijmhbaa
open Go Go.RowKit Go.QrBits Go.QrMem
attribute [local go_sem] reg_cell reg_frozen reg_setCell reg_lt reg_lt_add reg_drew reg_of_drew
section
variable {B b0 bc cc ct e : Nat} {at_ : Option Addr} {rs : List (Option Addr × Nat)} {s : St} {w : World}
set_option maxHeartbeats 4000000 in
set_option maxRecDepth 100000 in
theorem end1_c (he : Env b0 e w) (h : Own B b0 bc cc at_ ct rs s w) (hok : Ok s) {k : Nat} (hk : k < s.ts.length) (hst : (thOf s.ts (k : Int)).st = 1 ∨ (thOf s.ts (k : Int)).st = 2 ∨ (thOf s.ts (k : Int)).st = 3) {xc x : Nat} (hxc : IsI xc k w) :
    Calls Try.prog 57 #[bdV b0 e, .pointer (some ⟨xc, 0, none⟩)] w (OpRes B x b0 bc at_ (leaveM s k 4) (fun _ => True) w) := by
  obtain ⟨bt, rfl⟩ := h.at_some hk
  obtain ⟨x0, _, xl⟩ := cell0 hxc
  obtain ⟨c, hc, hcl⟩ := hok.cpu hk
  have HXC := Lib.hid hxc
  have HB1 : Below w.heap.size w ((w.alloc (.cells (bdC b0 e).toArray 77)).alloc (.cells (iV [1, 2, 3]).toArray 3)) := b_alloc (b_alloc (Below.refl _ _))
  have HTh := Lib.hid (thread_y (e := e) (h.below HB1) hk (pb := w.heap.size + 1) (n := 3) (zs := [1, 2, 3]) rfl (by omega) (build_cells (by simp) _) (by simp) (by rcases hst with h | h | h <;> rw [h] <;> rfl))
  have HK := ((Kw.start w).box (vs := bdC b0 e) (t := 77)).below (w' := (w.alloc (.cells (bdC b0 e).toArray 77)).alloc (.cells (iV [1, 2, 3]).toArray 3)) (b_alloc (Below.refl _ _))
  have HL := Lib.hid (fun W (hW : Below w.heap.size w W) => leave_c (he.below hW) (h.below hW) hk hc hcl (short_of_ok hok) 4)
  clear he h hok hst hxc hc HB1
  unfold bdV
  go_enter Try.func57, Try.ntmps57
  go_wp2_with fail
  show Calls Try.prog 55 #[bdV b0 e, .int .i64 k, .slice (some ⟨w.heap.size + 1, 0, none⟩) 3 3] ((w.alloc (.cells (bdC b0 e).toArray 77)).alloc (.cells (iV [1, 2, 3]).toArray 3)) _
  refine HTh.out.mono ?_
  rintro y w1 ⟨rfl, hb1⟩
  have HK1 := HK.below hb1
  obtain ⟨k_0, k_1, k_2, k_3, k_4, k_5, hxl⟩ := board_cells (HK1.row 0 rfl)
  have y0 := (HK1.base.cell (p := ⟨xc, 0, none⟩) xl).trans x0
  have HBB := Lib.hid HK1.base
  clear HK hb1 HTh x0 HK1
  go_wp2_with fail
  refine (HL.out _ HBB.out).mono ?_
  rintro y w2 ⟨rfl, ⟨rs2, hO2⟩, hF2⟩
  have HO2 := Lib.hid hO2
  have HF2 := Lib.hid ((Fr.of_below HBB.out).trans hF2)
  clear hO2 hF2
  go_wp2
  refine bodyPost_end (results_none rfl _ _ _) rfl ?_
  exact ⟨rfl, ⟨bc, cc, _, ct, rs2, HO2.out⟩, HF2.out.op, trivial⟩
theorem setPri_at {bt : Nat} (h : Own B b0 bc cc (some ⟨bt, 0, none⟩) ct rs s w) {k : Nat} (hk : k < s.ts.length) (p : Int) : Own B b0 bc cc (some ⟨bt, 0, none⟩) ct rs { s with ts := s.ts.set k { (thOf s.ts (k : Int)) with pri := p } } (w.setCell ⟨bt, k * 3, none⟩ (.int .i64 p)) :=
  h.setT ((tV_set (th_some hk)).1 p) (by simp)
set_option maxHeartbeats 4000000 in
set_option maxRecDepth 100000 in
theorem setPri1_c (he : Env b0 e w) (h : Own B b0 bc cc at_ ct rs s w) (hok : Ok s) {k : Nat} (hk : k < s.ts.length) (hst : (thOf s.ts (k : Int)).st = 1 ∨ (thOf s.ts (k : Int)).st = 2 ∨ (thOf s.ts (k : Int)).st = 3) {p : Int} (hp : inB p 0 7 = true) {xc xp x : Nat} (hxc : IsI xc k w) (hxp : IsI xp p w) (hxB : xc < B ∧ xp < B) :
    Calls Try.prog 58 #[bdV b0 e, .pointer (some ⟨xc, 0, none⟩), .pointer (some ⟨xp, 0, none⟩)] w (OpRes B x b0 bc at_ (setPriM s k p) (fun _ => True) w) := by
  obtain ⟨bt, rfl⟩ := h.at_some hk
  obtain ⟨x0, _, xl⟩ := cell0 hxc
  obtain ⟨x1, _, xpl⟩ := cell0 hxp
  obtain ⟨c, hc, hcl⟩ := hok.cpu hk
  have HXC := Lib.hid hxc
  have HXP := Lib.hid hxp
  have HB1 : Below w.heap.size w ((w.alloc (.cells (bdC b0 e).toArray 77)).alloc (.cells (iV [1, 2, 3]).toArray 3)) := b_alloc (b_alloc (Below.refl _ _))
  have HTh := Lib.hid (thread_y (e := e) (h.below HB1) hk (pb := w.heap.size + 1) (n := 3) (zs := [1, 2, 3]) rfl (by omega) (build_cells (by simp) _) (by simp) (by rcases hst with h | h | h <;> rw [h] <;> rfl))
  have HK := ((Kw.start w).box (vs := bdC b0 e) (t := 77)).below (w' := (w.alloc (.cells (bdC b0 e).toArray 77)).alloc (.cells (iV [1, 2, 3]).toArray 3)) (b_alloc (Below.refl _ _))
  have HPri := Lib.hid (fun w => isPri_c p w)
  rw [hp] at HPri
  have HO := Lib.hid h
  have HE := Lib.hid he
  have HOK := Lib.hid hok
  have HC := Lib.hid hc
  unfold bdV
  clear he h hok hxc hxp hc HB1
  go_enter Try.func58, Try.ntmps58
  go_wp2_with fail
  show Calls Try.prog 55 #[bdV b0 e, .int .i64 k, .slice (some ⟨w.heap.size + 1, 0, none⟩) 3 3] ((w.alloc (.cells (bdC b0 e).toArray 77)).alloc (.cells (iV [1, 2, 3]).toArray 3)) _
  refine HTh.out.mono ?_
  rintro y w1 ⟨rfl, hb1⟩
  have HK1 := HK.below hb1
  obtain ⟨k_0, k_1, k_2, k_3, k_4, k_5, hxl⟩ := board_cells (HK1.row 0 rfl)
  have y1 := (HK1.base.cell (p := ⟨xp, 0, none⟩) xpl).trans x1
  have ql : xp < w1.heap.size := Nat.lt_of_lt_of_le xpl HK1.base.size
  have HKK := Lib.hid HK1
  clear HK hb1 HTh x0 x1 HK1
  go_wp2_with fail
  refine wp_quiet_tail 3 (by kernel_rfl) (by kernel_rfl) ?_
  simp only [List.take_succ_cons, List.take_zero, List.drop_succ_cons, List.drop_zero]
  repeat (quiet_step (fail))
  quiet_step ((go_at_call 60; exact reg_call ((HPri.out _).mono (by rintro e w' ⟨h1, rfl⟩; exact ⟨h1, Below.refl _ _⟩))))
  refine wpQuiet_nil ?_
  intro _ hw'; obtain ⟨p2, rfl⟩ := hw'
  have HKp := Lib.hid (HKK.out.reg (p := p2))
  clear HKK k_0 k_1 k_2 k_3 k_4 k_5 y1 hxl ql
  go_wp2_with fail
  refine (demand_y _ _ _).mono ?_
  rintro e w2 ⟨rfl, hb2⟩
  have HK2 := HKp.out.below hb2
  have hb := HK2.base
  have O2 := HO.out.below hb
  have E2 := HE.out.below hb
  obtain ⟨t_0, _, t_2, f_0, _, _⟩ := O2.tcells (th_some hk)
  obtain ⟨y1, _, _⟩ := cell0 ((hb.block _ xpl).trans HXP.out)
  have F3 := (Fr.of_below (bc := bc) (at_ := some ⟨bt, 0, none⟩) hb).setT (k * 3) (.int .i64 p)
  have O3 := setPri_at O2 hk p
  have E3 := E2.fr O2 ((Fr.refl bc (some ⟨bt, 0, none⟩) w2).setT (k * 3) (.int .i64 p))
  have hk3 : k < ({ s with ts := s.ts.set k { (thOf s.ts (k : Int)) with pri := p } } : St).ts.length := by simpa using hk
  have hth3 : thOf (s.ts.set k { (thOf s.ts (k : Int)) with pri := p }) (k : Int) = { (thOf s.ts (k : Int)) with pri := p } := by
    have := thOf_set s.ts k (k : Int) { (thOf s.ts (k : Int)) with pri := p } hk; simpa using this
  obtain ⟨_, _, t_3, _, _, _⟩ := O3.tcells (th_some hk3)
  simp only [hth3] at t_3
  have hbt := World.block_lt_of_cell? _ _ t_0
  have HK3 : (w2.setCell ⟨bt, k * 3, none⟩ (.int .i64 p)).heap[w.heap.size]? = some (.cells (bdC b0 e).toArray 77 (0, 0)) := O2.kept ((Fr.refl bc (some ⟨bt, 0, none⟩) w2).setT (k * 3) (.int .i64 p)) (HK2.row 0 rfl) (by decide)
  obtain ⟨z_0, z_1, z_2, z_3, z_4, z_5, zl⟩ := board_cells HK3
  have xc3 := O2.kept ((Fr.refl bc (some ⟨bt, 0, none⟩) w2).setT (k * 3) (.int .i64 p)) ((hb.block _ xl).trans HXC.out) (by decide)
  obtain ⟨x_3, _, _⟩ := cell0 xc3
  have HO3 := Lib.hid O3
  have HE3 := Lib.hid E3
  have HF3 := Lib.hid F3
  have hsp : setPriM s k p = if (thOf s.ts (k : Int)).st = 1 then toEndM { s with ts := s.ts.set k { (thOf s.ts (k : Int)) with pri := p } } k else { s with ts := s.ts.set k { (thOf s.ts (k : Int)) with pri := p } } := rfl
  have hsh : Short ({ s with ts := s.ts.set k { (thOf s.ts (k : Int)) with pri := p } } : St) 4000 := fun j u hu => short_of_ok HOK.out j u hu
  have hrg : Rng ({ s with ts := s.ts.set k { (thOf s.ts (k : Int)) with pri := p } } : St) c := fun r hr => by
    have := rng_of_ok HOK.out hcl r hr
    simpa using this
  have hc3 : (thOf ({ s with ts := s.ts.set k { (thOf s.ts (k : Int)) with pri := p } } : St).ts (k : Int)).cpu = c := by
    show (thOf (s.ts.set k { (thOf s.ts (k : Int)) with pri := p }) (k : Int)).cpu = c
    rw [hth3]; exact HC.out
  have HL := Lib.hid (toEnd_c E3 O3 hk3 hc3 hcl hsh hrg)
  generalize (thOf s.ts (k : Int)).st = st0 at *
  clear HKp hb2 HK2 hb O2 E2 O3 E3 F3 HK3 hsh hrg hc3 xc3 HPri HE
  by_cases h1 : st0 = 1
  · rw [if_pos h1] at hsp
    have HSP := Lib.hid hsp
    clear hsp hst
    subst h1
    go_wp2_with fail
    refine HL.out.mono ?_
    rintro y w4 ⟨rfl, ⟨rs2, hO4⟩, hF4⟩
    have HO4 := Lib.hid hO4
    have HF4 := Lib.hid (HF3.out.trans hF4)
    clear hO4 hF4 HL
    go_wp2
    refine bodyPost_end (results_none rfl _ _ _) rfl ?_
    exact ⟨rfl, ⟨bc, cc, _, ct, rs2, by rw [HSP.out]; exact HO4.out⟩, HF4.out.op, trivial⟩
  · rw [if_neg h1] at hsp
    have HSP := Lib.hid hsp
    have h1' : (st0 == 1) = false := by simpa using h1
    clear hsp hst HL
    go_wp2
    refine bodyPost_end (results_none rfl _ _ _) rfl ?_
    exact ⟨rfl, ⟨bc, cc, _, ct, rs, by rw [HSP.out]; exact HO3.out⟩, HF3.out.op, trivial⟩
set_option maxHeartbeats 4000000 in
set_option maxRecDepth 100000 in
theorem thread_n1 (h : Own B b0 bc cc at_ ct rs s w) (hm16 : s.ts.length ≤ 16) {k : Int} (hk : inB k 0 ((s.ts.length : Int) - 1) = false) (v : Value) :
    Calls Try.prog 55 #[bdV b0 e, .int .i64 k, v] w fun y w' => y = .panicked [{ v := .iface 98 (.int .i64 51), recovered := false }] ∧ Below w.heap.size w w' := by
  obtain ⟨p0, p1, p2, _, _, _, pl⟩ := row3 h.nxt
  have hm := (slV_own h.th).max
  unfold maxLen at hm
  have hW := fun w => within_n k 0 ((s.ts.length : Int) - 1) w hk
  clear h hk
  generalize s.ts.length = m at *
  have hw1 : IntKind.i64.wrap ((m : Int) - 1) = (m : Int) - 1 := by exact IntWalk.i64_in _ (by omega)
  have HW := Lib.hid hW
  clear hW
  unfold bdV
  go_enter Try.func55, Try.ntmps55
  go_wp2_with fail
  show Code.wp _ _ _ _ (w.alloc (.cells (bdC b0 e).toArray 77))
  have HK := (Kw.start w).box (vs := bdC b0 e) (t := 77)
  generalize w.alloc (.cells (bdC b0 e).toArray 77) = W at *
  obtain ⟨k_0, k_1, k_2, k_3, k_4, k_5, hxl⟩ := board_cells (HK.row 0 rfl)
  have q1 := (HK.base.cell (p := ⟨b0, 1, none⟩) pl).trans p1
  have hbl : b0 < W.heap.size := Nat.lt_of_lt_of_le pl HK.base.size
  have HKK := Lib.hid HK
  have P1 := Lib.hid p1
  clear HK p0 p1 p2
  refine wp_quiet_tail 10 (by kernel_rfl) (by kernel_rfl) ?_
  simp only [List.take_succ_cons, List.take_zero, List.drop_succ_cons, List.drop_zero]
  repeat (quiet_step (fail))
  quiet_step ((go_at_call 31; exact reg_call ((HW.out _).mono (by rintro e w' ⟨h1, rfl⟩; exact ⟨h1, Below.refl _ _⟩))))
  refine wpQuiet_nil ?_
  intro _ hw'; obtain ⟨p, rfl⟩ := hw'
  have HKp := Lib.hid (HKK.out.reg (p := p))
  clear hw1 HKK k_0 k_1 k_2 k_3 k_4 k_5 q1 HW hbl hxl
  go_wp2_with fail
  refine (demand_n _ _ _).mono ?_
  rintro e w1 ⟨rfl, hb1⟩
  have HB := Lib.hid (HKp.out.below hb1).base
  clear HKp hb1
  exact ⟨rfl, rfl, HB.out⟩
set_option maxHeartbeats 4000000 in
set_option maxRecDepth 100000 in
theorem thread_n2 {bt : Nat} (h : Own B b0 bc cc (some ⟨bt, 0, none⟩) ct rs s w) {k : Nat} (hk : k < s.ts.length) {pb n : Nat} {zs : List Int} (hz : zs.length = n) (hn : n ≤ 4) (hp : ∀ j, j < zs.length → w.cell? ⟨pb, 0 + j, none⟩ = some (.int .i64 (zs.getD j 0))) (hpl : pb < w.heap.size) (hmem : zs.contains (thOf s.ts (k : Int)).st = false) :
    Calls Try.prog 55 #[bdV b0 e, .int .i64 k, .slice (some ⟨pb, 0, none⟩) n n] w fun y w' => y = .panicked [{ v := .iface 98 (.int .i64 51), recovered := false }] ∧ Below w.heap.size w w' := by
  obtain ⟨p0, p1, p2, _, _, _, pl⟩ := row3 h.nxt
  obtain ⟨_, _, t2, _⟩ := h.tcells (th_some hk)
  have hbt := World.block_lt_of_cell? _ _ t2
  have hm := (slV_own h.th).max
  unfold maxLen at hm
  have hin : inB (k : Int) 0 ((s.ts.length : Int) - 1) = true := inB_in (by omega)
  have hW := fun w => within_y (k : Int) 0 ((s.ts.length : Int) - 1) w hin
  have hCt := fun W (hb : Below w.heap.size w W) => Try.slices_Contains_int pb 0 n n zs (thOf s.ts (k : Int)).st W (by omega) (by omega) (fun j hj => (hb.cell (p := ⟨pb, 0 + j, none⟩) hpl).trans (hp j hj))
  have hzt : zs.take n = zs := by rw [← hz]; exact List.take_length
  rw [hzt, hmem] at hCt
  have HCt := Lib.hid hCt
  clear h hin hCt hzt hmem hp hz
  generalize (thOf s.ts (k : Int)).st = st at *
  generalize s.ts.length = m at *
  have k0 : (0 : Int) ≤ (k : Int) := Int.natCast_nonneg _
  have k1 : (k : Int) < (m : Int) := by omega
  have m1 : (1 : Int) ≤ (m : Int) := by omega
  have hw1 : IntKind.i64.wrap ((m : Int) - 1) = (m : Int) - 1 := by exact IntWalk.i64_in _ (by omega)
  have HW := Lib.hid hW
  clear hW
  unfold bdV
  go_enter Try.func55, Try.ntmps55
  go_wp2_with fail
  show Code.wp _ _ _ _ (w.alloc (.cells (bdC b0 e).toArray 77))
  have HK := (Kw.start w).box (vs := bdC b0 e) (t := 77)
  generalize w.alloc (.cells (bdC b0 e).toArray 77) = W at *
  obtain ⟨k_0, k_1, k_2, k_3, k_4, k_5, hxl⟩ := board_cells (HK.row 0 rfl)
  have q1 := (HK.base.cell (p := ⟨b0, 1, none⟩) pl).trans p1
  have hbl : b0 < W.heap.size := Nat.lt_of_lt_of_le pl HK.base.size
  have HKK := Lib.hid HK
  have P1 := Lib.hid p1
  have T2 := Lib.hid t2
  clear HK p0 p1 p2 t2
  refine wp_quiet_tail 10 (by kernel_rfl) (by kernel_rfl) ?_
  simp only [List.take_succ_cons, List.take_zero, List.drop_succ_cons, List.drop_zero]
  repeat (quiet_step (fail))
  quiet_step ((go_at_call 31; exact reg_call ((HW.out _).mono (by rintro e w' ⟨h1, rfl⟩; exact ⟨h1, Below.refl _ _⟩))))
  refine wpQuiet_nil ?_
  intro _ hw'; obtain ⟨p, rfl⟩ := hw'
  have HKp := Lib.hid (HKK.out.reg (p := p))
  clear hw1 HKK k_0 k_1 k_2 k_3 k_4 k_5 q1 HW hbl hxl
  go_wp2_with fail
  refine (demand_y _ _ _).mono ?_
  rintro e w1 ⟨rfl, hb1⟩
  have HK1 := HKp.out.below hb1
  obtain ⟨k_0, k_1, k_2, k_3, k_4, k_5, hxl⟩ := board_cells (HK1.row 0 rfl)
  have q1 := (HK1.base.cell (p := ⟨b0, 1, none⟩) pl).trans P1.out
  have q2 := (HK1.base.cell (p := ⟨bt, k * 3 + 2, none⟩) hbt).trans T2.out
  have hbt1 : bt < w1.heap.size := Nat.lt_of_lt_of_le hbt HK1.base.size
  have HKK := Lib.hid HK1
  clear HKp hb1 HK1
  go_wp2_with fail
  refine wp_quiet_tail 7 (by kernel_rfl) (by kernel_rfl) ?_
  simp only [List.take_succ_cons, List.take_zero, List.drop_succ_cons, List.drop_zero]
  repeat (quiet_step (fail))
  quiet_step ((go_at_call 76; exact reg_call ((HCt.out _ (Below.tail HKK.out.base (below_reg _ _))).mono (by rintro e w' ⟨h1, h2⟩; exact ⟨h1, by rw [h2]; exact Below.refl _ _⟩))))
  refine wpQuiet_nil ?_
  intro _ hw'; obtain ⟨p2, rfl⟩ := hw'
  have HKp := Lib.hid (HKK.out.reg (p := p2))
  clear HKK k_0 k_1 k_2 k_3 k_4 k_5 q1 q2 HCt hbt1 hxl
  go_wp2_with fail
  refine (demand_n _ _ _).mono ?_
  rintro e w2 ⟨rfl, hb2⟩
  have HB := Lib.hid (HKp.out.below hb2).base
  clear HKp hb2
  exact ⟨rfl, rfl, HB.out⟩
/-- What is wrong with a thread, for an operation on threads of the states zs. -/
def NoTh (s : St) (zs : List Int) (k : Int) : Prop := inB k 0 ((s.ts.length : Int) - 1) = false ∨ ∃ n : Nat, k = n ∧ n < s.ts.length ∧ zs.contains (thOf s.ts (n : Int)).st = false
theorem thread_n (h : Own B b0 bc cc at_ ct rs s w) (hm16 : s.ts.length ≤ 16) {k : Int} {pb n : Nat} {zs : List Int} (hk : NoTh s zs k) (hz : zs.length = n) (hn : n ≤ 4) (hp : ∀ j, j < zs.length → w.cell? ⟨pb, 0 + j, none⟩ = some (.int .i64 (zs.getD j 0))) (hpl : pb < w.heap.size) :
    Calls Try.prog 55 #[bdV b0 e, .int .i64 k, .slice (some ⟨pb, 0, none⟩) n n] w fun y w' => y = .panicked [{ v := .iface 98 (.int .i64 51), recovered := false }] ∧ Below w.heap.size w w' := by
  rcases hk with hk | ⟨j, rfl, hj, hc⟩
  · exact thread_n1 h hm16 hk _
  · obtain ⟨bt, rfl⟩ := h.at_some hj
    exact thread_n2 h hj hz hn hp hpl hc
set_option maxHeartbeats 4000000 in
set_option maxRecDepth 100000 in
theorem block1_n (h : Own B b0 bc cc at_ ct rs s w) (hm16 : s.ts.length ≤ 16) {k : Int} (hk : NoTh s [1, 2] k) {x xc : Nat} (hxc : IsI xc k w) :
    Calls Try.prog 54 #[bdV b0 e, .pointer (some ⟨xc, 0, none⟩)] w (OpDies x b0 bc at_ 51 w) := by
  obtain ⟨x0, _, xl⟩ := cell0 hxc
  have HB1 : Below w.heap.size w ((w.alloc (.cells (bdC b0 e).toArray 77)).alloc (.cells (iV [1, 2]).toArray 3)) := b_alloc (b_alloc (Below.refl _ _))
  have HTh := Lib.hid (thread_n (e := e) (h.below HB1) hm16 (k := k) (pb := w.heap.size + 1) (n := 2) (zs := [1, 2]) hk rfl (by omega) (build_cells (by simp) _) (by simp))
  have HB := Lib.hid HB1
  clear h hk hxc HB1
  unfold bdV
  go_enter Try.func54, Try.ntmps54
  go_wp2_with fail
  show Calls Try.prog 55 #[bdV b0 e, .int .i64 k, .slice (some ⟨w.heap.size + 1, 0, none⟩) 2 2] ((w.alloc (.cells (bdC b0 e).toArray 77)).alloc (.cells (iV [1, 2]).toArray 3)) _
  refine HTh.out.mono ?_
  rintro y w1 ⟨rfl, hb1⟩
  have HB2 := Lib.hid (Below.tail HB.out hb1)
  exact ⟨rfl, rfl, HB2.out.os, HB2.out.tape, HB2.out.output, HB2.out.size, fun k hk _ _ _ _ => HB2.out.block k hk⟩
set_option maxHeartbeats 4000000 in
set_option maxRecDepth 100000 in
theorem end1_n (h : Own B b0 bc cc at_ ct rs s w) (hm16 : s.ts.length ≤ 16) {k : Int} (hk : NoTh s [1, 2, 3] k) {x xc : Nat} (hxc : IsI xc k w) :
    Calls Try.prog 57 #[bdV b0 e, .pointer (some ⟨xc, 0, none⟩)] w (OpDies x b0 bc at_ 51 w) := by
  obtain ⟨x0, _, xl⟩ := cell0 hxc
  have HB1 : Below w.heap.size w ((w.alloc (.cells (bdC b0 e).toArray 77)).alloc (.cells (iV [1, 2, 3]).toArray 3)) := b_alloc (b_alloc (Below.refl _ _))
  have HTh := Lib.hid (thread_n (e := e) (h.below HB1) hm16 (k := k) (pb := w.heap.size + 1) (n := 3) (zs := [1, 2, 3]) hk rfl (by omega) (build_cells (by simp) _) (by simp))
  have HB := Lib.hid HB1
  clear h hk hxc HB1
  unfold bdV
  go_enter Try.func57, Try.ntmps57
  go_wp2_with fail
  show Calls Try.prog 55 #[bdV b0 e, .int .i64 k, .slice (some ⟨w.heap.size + 1, 0, none⟩) 3 3] ((w.alloc (.cells (bdC b0 e).toArray 77)).alloc (.cells (iV [1, 2, 3]).toArray 3)) _
  refine HTh.out.mono ?_
  rintro y w1 ⟨rfl, hb1⟩
  have HB2 := Lib.hid (Below.tail HB.out hb1)
  exact ⟨rfl, rfl, HB2.out.os, HB2.out.tape, HB2.out.output, HB2.out.size, fun k hk _ _ _ _ => HB2.out.block k hk⟩
set_option maxHeartbeats 4000000 in
set_option maxRecDepth 100000 in
theorem setPri1_n (h : Own B b0 bc cc at_ ct rs s w) (hm16 : s.ts.length ≤ 16) {k : Int} (hk : NoTh s [1, 2, 3] k) {x xc xp : Nat} (hxc : IsI xc k w) :
    Calls Try.prog 58 #[bdV b0 e, .pointer (some ⟨xc, 0, none⟩), .pointer (some ⟨xp, 0, none⟩)] w (OpDies x b0 bc at_ 51 w) := by
  obtain ⟨x0, _, xl⟩ := cell0 hxc
  have HB1 : Below w.heap.size w ((w.alloc (.cells (bdC b0 e).toArray 77)).alloc (.cells (iV [1, 2, 3]).toArray 3)) := b_alloc (b_alloc (Below.refl _ _))
  have HTh := Lib.hid (thread_n (e := e) (h.below HB1) hm16 (k := k) (pb := w.heap.size + 1) (n := 3) (zs := [1, 2, 3]) hk rfl (by omega) (build_cells (by simp) _) (by simp))
  have HB := Lib.hid HB1
  clear h hk hxc HB1
  unfold bdV
  go_enter Try.func58, Try.ntmps58
  go_wp2_with fail
  show Calls Try.prog 55 #[bdV b0 e, .int .i64 k, .slice (some ⟨w.heap.size + 1, 0, none⟩) 3 3] ((w.alloc (.cells (bdC b0 e).toArray 77)).alloc (.cells (iV [1, 2, 3]).toArray 3)) _
  refine HTh.out.mono ?_
  rintro y w1 ⟨rfl, hb1⟩
  have HB2 := Lib.hid (Below.tail HB.out hb1)
  exact ⟨rfl, rfl, HB2.out.os, HB2.out.tape, HB2.out.output, HB2.out.size, fun k hk _ _ _ _ => HB2.out.block k hk⟩
set_option maxHeartbeats 4000000 in
set_option maxRecDepth 100000 in
theorem wake1_n (h : Own B b0 bc cc at_ ct rs s w) (hm16 : s.ts.length ≤ 16) {k : Int} (hk : NoTh s [3] k) {x xc xr : Nat} (hxc : IsI xc k w) :
    Calls Try.prog 56 #[bdV b0 e, .pointer (some ⟨xc, 0, none⟩), .pointer (some ⟨xr, 0, none⟩)] w (OpDies x b0 bc at_ 51 w) := by
  obtain ⟨x0, _, xl⟩ := cell0 hxc
  have HB1 : Below w.heap.size w ((w.alloc (.cells (bdC b0 e).toArray 77)).alloc (.cells (iV [3]).toArray 3)) := b_alloc (b_alloc (Below.refl _ _))
  have HTh := Lib.hid (thread_n (e := e) (h.below HB1) hm16 (k := k) (pb := w.heap.size + 1) (n := 1) (zs := [3]) hk rfl (by omega) (build_cells (by simp) _) (by simp))
  have HB := Lib.hid HB1
  clear h hk hxc HB1
  unfold bdV
  go_enter Try.func56, Try.ntmps56
  go_wp2_with fail
  show Calls Try.prog 55 #[bdV b0 e, .int .i64 k, .slice (some ⟨w.heap.size + 1, 0, none⟩) 1 1] ((w.alloc (.cells (bdC b0 e).toArray 77)).alloc (.cells (iV [3]).toArray 3)) _
  refine HTh.out.mono ?_
  rintro y w1 ⟨rfl, hb1⟩
  have HB2 := Lib.hid (Below.tail HB.out hb1)
  exact ⟨rfl, rfl, HB2.out.os, HB2.out.tape, HB2.out.output, HB2.out.size, fun k hk _ _ _ _ => HB2.out.block k hk⟩
end
end Go.Proofs.Ytggikbcgijmhbaa
