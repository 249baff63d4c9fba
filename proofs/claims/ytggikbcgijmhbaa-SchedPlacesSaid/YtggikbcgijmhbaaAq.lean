/- WHAT IS PROVED: Yield; SetPri with a number that is no priority; Add's errors. CONDITIONS: as the cells lie. -/
import Derived.Test.YtggikbcgijmhbaaAp
import Derived.Test.YtggikbcgijmhbaaX
set_option linter.unusedSimpArgs false
set_option linter.unusedVariables false
namespace Go.Proofs.Ytggikbcgijmhbaa
open Go Go.RowKit Go.QrBits Go.QrMem
attribute [local go_sem] reg_cell reg_frozen reg_setCell reg_lt reg_lt_add reg_drew reg_of_drew
set_option maxHeartbeats 4000000 in
set_option maxRecDepth 100000 in
theorem yield_y (a : Option Addr) (c : Nat) (a2 : Option Addr) (c2 : Nat) (qs : List Qu) (ts : List Th) (q : Int) (k : Nat) (w : World) (hs : ScIn w a c a2 c2 qs ts) (hck : chkB qs ts q = true) (hk : k < qs.length) (hst : (quOf qs (k : Int)).run ≠ -1) :
    Calls Try.prog 47 #[.agg #[.slice a qs.length c, .slice a2 ts.length c2, .int .i64 q], .int .i64 k] w (Res2 (yieldM ⟨qs, ts, q⟩ k) w) := by
  have hok := ok_of_chk hck
  have hok2 : Ok (yieldM ⟨qs, ts, q⟩ k) := yield_ok hok hk
  have HS := Lib.hid hs
  have HC := Lib.hid hck
  have HST := Lib.hid hst
  have HK := (((Kw.start w).box (vs := [.slice a qs.length c, .slice a2 ts.length c2, .int .i64 q]) (t := 25)).box (vs := [.int .i64 k]) (t := 3)).box (vs := [.slice none 0 0, .slice none 0 0, .int .i64 0]) (t := 25)
  simp only [World.size_alloc] at HK
  have hmf : ∀ (fn : Fn) (first cap : Array Value) (w : World), (Instr.makeFunc fn first cap).run Try.prog w = .ok (.func fn first cap) w := fun _ _ _ _ => rfl
  have HOK := Lib.hid hok
  have HOK2 := Lib.hid hok2
  clear hs hck hok hok2 hst
  go_enter Try.func47, Try.ntmps47
  go_wp2_with fail
  have hw : ∃ W, ((w.alloc (.cells #[.slice a qs.length c, .slice a2 ts.length c2, .int .i64 q] 25)).alloc (.cells #[.int .i64 k] 3)).alloc (.cells #[.slice none 0 0, .slice none 0 0, .int .i64 0] 25) = W := ⟨_, rfl⟩
  obtain ⟨W, hW⟩ := hw
  have hWs : W.heap.size = w.heap.size + 3 := by rw [← hW]; simp
  rw [hW] at HK ⊢
  clear hW
  have hch := change_y a c a2 c2 qs ts q 69 #[.pointer (some ⟨w.heap.size + 1, 0, none⟩)] (w.heap.size) (yieldM ⟨qs, ts, q⟩ k) (fun _ => True) W (HS.out.below HK.base) HC.out (fun _ _ _ _ => trivial) (by omega) (enters_of Try.func69 (by kernel_rfl) rfl)
    (fun b0 e bc cc at_ ct rs V hb0 hV hO hE => yield1_c hO HOK.out hk HST.out ((hV.block _ (by omega)).trans (HK.row 1 rfl)))
  have HCH := Lib.hid hch
  clear hch
  refine HCH.out.mono ?_
  rintro y w1 ⟨g, d, b, d2, rfl, ⟨B, b0, rs, hBz, hsc⟩, hfx, _⟩
  have h5 := (hfx.blk (w.heap.size + 1 + 1) (by omega) (by omega)).trans (HK.row 0 rfl)
  have hb1 : Below w.heap.size w w1 := HK.base.trans (hfx.below (B := w.heap.size) (by omega) (by omega))
  obtain ⟨r0, r1, r2, s0, s1, s2, rl⟩ := row3 h5
  generalize yieldM ⟨qs, ts, q⟩ k = st at *
  have f1 := heap_setCell_same w1 (w.heap.size + 1 + 1) 0 _ 25 (.slice (some ⟨g, 0, none⟩) st.qs.length d) h5
  have f2 := heap_setCell_same _ (w.heap.size + 1 + 1) 1 _ 25 (.slice b st.ts.length d2) f1
  have f3 := heap_setCell_same _ (w.heap.size + 1 + 1) 2 _ 25 (.int .i64 st.q) f2
  obtain ⟨u0, u1, u2, _⟩ := row3 (x := .slice (some ⟨g, 0, none⟩) st.qs.length d) (y := .slice b st.ts.length d2) (z := .int .i64 st.q) (by simpa using f3)
  have HB3 := Lib.hid (((hb1.setCell (p := ⟨w.heap.size + 1 + 1, 0, none⟩) (by show _ ≤ w.heap.size + 1 + 1; omega) (.slice (some ⟨g, 0, none⟩) st.qs.length d)).setCell (p := ⟨w.heap.size + 1 + 1, 1, none⟩) (by show _ ≤ w.heap.size + 1 + 1; omega) (.slice b st.ts.length d2)).setCell (p := ⟨w.heap.size + 1 + 1, 2, none⟩) (by show _ ≤ w.heap.size + 1 + 1; omega) (.int .i64 st.q))
  have HOW4 := Lib.hid (show Owned w.heap.size st g d b d2 _ from ⟨B, b0, rs, by omega, (((hsc.setXj (x := w.heap.size + 1 + 1) (by omega) 0 (.slice (some ⟨g, 0, none⟩) st.qs.length d)).setXj (x := w.heap.size + 1 + 1) (by omega) 1 (.slice b st.ts.length d2)).setXj (x := w.heap.size + 1 + 1) (by omega) 2 (.int .i64 st.q))⟩)
  have HSC4 := Lib.hid ((((hsc.setXj (x := w.heap.size + 1 + 1) (by omega) 0 (.slice (some ⟨g, 0, none⟩) st.qs.length d)).setXj (x := w.heap.size + 1 + 1) (by omega) 1 (.slice b st.ts.length d2)).setXj (x := w.heap.size + 1 + 1) (by omega) 2 (.int .i64 st.q)).scIn (short_of_ok HOK2.out))
  clear hsc hfx hb1 h5 f1 f2 f3 HCH HK hWs
  go_wp2
  exact bodyPost_ret (v := .tuple #[.agg #[.slice (some ⟨g, 0, none⟩) st.qs.length d, .slice b st.ts.length d2, .int .i64 st.q], .int .i64 0]) (by simp [results, Try.results47, go_sem, u0, u1, u2]) rfl ⟨g, d, b, d2, rfl, HSC4.out, HB3.out, HOW4.out⟩
set_option maxHeartbeats 4000000 in
set_option maxRecDepth 100000 in
theorem yield_e (v0 v1 v2 : Value) (k er : Int) (w : World) (hch : ∀ W : World, Below w.heap.size w W → W.heap.size = w.heap.size + 3 → W.heap[w.heap.size + 1]? = some (.cells #[.int .i64 k] 3 (0, 0)) →
      Calls Try.prog 49 #[.agg #[v0, v1, v2], .func (.func 69) #[] #[.pointer (some ⟨w.heap.size + 1, 0, none⟩)]] W fun y w' => y = .returned (.tuple #[zSt, .int .i64 er]) ∧ Fx w.heap.size W w') :
    Calls Try.prog 47 #[.agg #[v0, v1, v2], .int .i64 k] w fun y w' => y = .returned (.tuple #[zSt, .int .i64 er]) ∧ Below w.heap.size w w' := by
  have HK := (((Kw.start w).box (vs := [v0, v1, v2]) (t := 25)).box (vs := [.int .i64 k]) (t := 3)).box (vs := [.slice none 0 0, .slice none 0 0, .int .i64 0]) (t := 25)
  simp only [World.size_alloc] at HK
  have hmf : ∀ (fn : Fn) (first cap : Array Value) (w : World), (Instr.makeFunc fn first cap).run Try.prog w = .ok (.func fn first cap) w := fun _ _ _ _ => rfl
  have HCH := Lib.hid hch
  clear hch
  go_enter Try.func47, Try.ntmps47
  go_wp2_with fail
  have hw : ∃ W, ((w.alloc (.cells #[v0, v1, v2] 25)).alloc (.cells #[.int .i64 k] 3)).alloc (.cells #[.slice none 0 0, .slice none 0 0, .int .i64 0] 25) = W := ⟨_, rfl⟩
  obtain ⟨W, hW⟩ := hw
  have hWs : W.heap.size = w.heap.size + 3 := by rw [← hW]; simp
  rw [hW] at HK ⊢
  clear hW
  refine (HCH.out W HK.base hWs (HK.row 1 rfl)).mono ?_
  rintro y w1 ⟨rfl, hfx⟩
  unfold zSt
  have h5 := (hfx.blk (w.heap.size + 1 + 1) (by omega) (by omega)).trans (HK.row 0 rfl)
  have hb1 : Below w.heap.size w w1 := HK.base.trans (hfx.below (B := w.heap.size) (by omega) (by omega))
  obtain ⟨r0, r1, r2, s0, s1, s2, rl⟩ := row3 h5
  have f1 := heap_setCell_same w1 (w.heap.size + 1 + 1) 0 _ 25 (.slice none 0 0) h5
  have f2 := heap_setCell_same _ (w.heap.size + 1 + 1) 1 _ 25 (.slice none 0 0) f1
  have f3 := heap_setCell_same _ (w.heap.size + 1 + 1) 2 _ 25 (.int .i64 0) f2
  obtain ⟨u0, u1, u2, _⟩ := row3 (x := .slice none 0 0) (y := .slice none 0 0) (z := .int .i64 0) (by simpa using f3)
  have HB3 := Lib.hid (((hb1.setCell (p := ⟨w.heap.size + 1 + 1, 0, none⟩) (by show _ ≤ w.heap.size + 1 + 1; omega) (.slice none 0 0)).setCell (p := ⟨w.heap.size + 1 + 1, 1, none⟩) (by show _ ≤ w.heap.size + 1 + 1; omega) (.slice none 0 0)).setCell (p := ⟨w.heap.size + 1 + 1, 2, none⟩) (by show _ ≤ w.heap.size + 1 + 1; omega) (.int .i64 0))
  clear hfx hb1 h5 f1 f2 f3 HCH HK hWs
  go_wp2
  exact bodyPost_ret (v := .tuple #[.agg #[.slice none 0 0, .slice none 0 0, .int .i64 0], .int .i64 er]) (by simp [results, Try.results47, go_sem, u0, u1, u2]) rfl ⟨rfl, HB3.out⟩
theorem yield_n (a : Option Addr) (c : Nat) (a2 : Option Addr) (c2 : Nat) (qs : List Qu) (ts : List Th) (q k : Int) (w : World) (hs : ScIn w a c a2 c2 qs ts) (hck : chkB qs ts q = false) :
    Calls Try.prog 47 #[.agg #[.slice a qs.length c, .slice a2 ts.length c2, .int .i64 q], .int .i64 k] w fun y w' => y = .returned (.tuple #[zSt, .int .i64 50]) ∧ Below w.heap.size w w' :=
  yield_e _ _ _ k 50 w fun W hW _ _ => (change_n a c a2 c2 qs ts q 69 _ W (hs.below hW) hck).mono fun _ _ h => ⟨h.1, Fx.of_below h.2⟩
theorem yield_p (a : Option Addr) (c : Nat) (a2 : Option Addr) (c2 : Nat) (qs : List Qu) (ts : List Th) (q k : Int) (w : World) (hs : ScIn w a c a2 c2 qs ts) (hck : chkB qs ts q = true) (hk : inB k 0 ((qs.length : Int) - 1) = false) :
    Calls Try.prog 47 #[.agg #[.slice a qs.length c, .slice a2 ts.length c2, .int .i64 q], .int .i64 k] w fun y w' => y = .returned (.tuple #[zSt, .int .i64 52]) ∧ Below w.heap.size w w' :=
  yield_e _ _ _ k 52 w fun W hW hz hr0 => change_p a c a2 c2 qs ts q 69 _ w.heap.size 52 W (hs.below hW) hck (by omega) (enters_of Try.func69 (by kernel_rfl) rfl)
    (fun b0 e bc cc at_ ct rs V hb0 hV hO hE => yield1_n hO ⟨(ok_of_chk hck).n1, (ok_of_chk hck).n2⟩ hk ((hV.block _ (by omega)).trans hr0))
theorem yield_q (a : Option Addr) (c : Nat) (a2 : Option Addr) (c2 : Nat) (qs : List Qu) (ts : List Th) (q : Int) (k : Nat) (w : World) (hs : ScIn w a c a2 c2 qs ts) (hck : chkB qs ts q = true) (hk : k < qs.length) (hr : (quOf qs (k : Int)).run = -1) :
    Calls Try.prog 47 #[.agg #[.slice a qs.length c, .slice a2 ts.length c2, .int .i64 q], .int .i64 k] w fun y w' => y = .returned (.tuple #[zSt, .int .i64 52]) ∧ Below w.heap.size w w' :=
  yield_e _ _ _ k 52 w fun W hW hz hr0 => change_p a c a2 c2 qs ts q 69 _ w.heap.size 52 W (hs.below hW) hck (by omega) (enters_of Try.func69 (by kernel_rfl) rfl)
    (fun b0 e bc cc at_ ct rs V hb0 hV hO hE => yield1_i hO (ok_of_chk hck) hk hr ((hV.block _ (by omega)).trans hr0))
section
variable {B b0 bc cc ct e : Nat} {at_ : Option Addr} {rs : List (Option Addr × Nat)} {s : St} {w : World}
set_option maxHeartbeats 4000000 in
set_option maxRecDepth 100000 in
theorem setPri1_q (he : Env b0 e w) (h : Own B b0 bc cc at_ ct rs s w) (hok : Ok s) {k : Nat} (hk : k < s.ts.length) (hst : (thOf s.ts (k : Int)).st = 1 ∨ (thOf s.ts (k : Int)).st = 2 ∨ (thOf s.ts (k : Int)).st = 3) {p : Int} (hp : inB p 0 7 = false) {xc xp x : Nat} (hxc : IsI xc k w) (hxp : IsI xp p w) :
    Calls Try.prog 58 #[bdV b0 e, .pointer (some ⟨xc, 0, none⟩), .pointer (some ⟨xp, 0, none⟩)] w (OpDies x b0 bc at_ 1 w) := by
  obtain ⟨bt, rfl⟩ := h.at_some hk
  obtain ⟨x0, _, xl⟩ := cell0 hxc
  obtain ⟨x1, _, xpl⟩ := cell0 hxp
  obtain ⟨c, hc, hcl⟩ := hok.cpu hk
  have HXC := Lib.hid hxc
  have HXP := Lib.hid hxp
  have HB1 : Below w.heap.size w ((w.alloc (.cells (bdC b0 e).toArray 77)).alloc (.cells (iV [1, 2, 3]).toArray 3)) := b_alloc (b_alloc (Below.refl _ _))
  have HTh := Lib.hid (thread_y (e := e) (h.below HB1) hk (pb := w.heap.size + 1) (n := 3) (zs := [1, 2, 3]) rfl (by omega) (build_cells (by simp) _) (by simp) (by rcases hst with h | h | h <;> rw [h] <;> rfl))
  have HK := ((Kw.start w).box (vs := bdC b0 e) (t := 77)).below (w' := (w.alloc (.cells (bdC b0 e).toArray 77)).alloc (.cells (iV [1, 2, 3]).toArray 3)) (b_alloc (Below.refl _ _))
  have HPri := Lib.hid (fun w => isPri_c p w)
  rw [hp] at HPri
  have HO := Lib.hid h
  have HE := Lib.hid he
  have HOK := Lib.hid hok
  have HC := Lib.hid hc
  unfold bdV
  clear he h hok hxc hxp hc HB1
  go_enter Try.func58, Try.ntmps58
  go_wp2_with fail
  show Calls Try.prog 55 #[bdV b0 e, .int .i64 k, .slice (some ⟨w.heap.size + 1, 0, none⟩) 3 3] ((w.alloc (.cells (bdC b0 e).toArray 77)).alloc (.cells (iV [1, 2, 3]).toArray 3)) _
  refine HTh.out.mono ?_
  rintro y w1 ⟨rfl, hb1⟩
  have HK1 := HK.below hb1
  obtain ⟨k_0, k_1, k_2, k_3, k_4, k_5, hxl⟩ := board_cells (HK1.row 0 rfl)
  have y1 := (HK1.base.cell (p := ⟨xp, 0, none⟩) xpl).trans x1
  have ql : xp < w1.heap.size := Nat.lt_of_lt_of_le xpl HK1.base.size
  have HKK := Lib.hid HK1
  clear HK hb1 HTh x0 x1 HK1
  go_wp2_with fail
  refine wp_quiet_tail 3 (by kernel_rfl) (by kernel_rfl) ?_
  simp only [List.take_succ_cons, List.take_zero, List.drop_succ_cons, List.drop_zero]
  repeat (quiet_step (fail))
  quiet_step ((go_at_call 60; exact reg_call ((HPri.out _).mono (by rintro e w' ⟨h1, rfl⟩; exact ⟨h1, Below.refl _ _⟩))))
  refine wpQuiet_nil ?_
  intro _ hw'; obtain ⟨p2, rfl⟩ := hw'
  have HKp := Lib.hid (HKK.out.reg (p := p2))
  clear HKK k_0 k_1 k_2 k_3 k_4 k_5 y1 hxl ql
  go_wp2_with fail
  refine (demand_n _ _ _).mono ?_
  rintro e w2 ⟨rfl, hb2⟩
  have HB := Lib.hid (HKp.out.below hb2).base
  exact ⟨rfl, rfl, HB.out.os, HB.out.tape, HB.out.output, HB.out.size, fun k hk _ _ _ _ => HB.out.block k hk⟩
set_option maxHeartbeats 4000000 in
set_option maxRecDepth 100000 in
theorem add1_q (h : Own B b0 bc cc at_ ct rs s w) (hok : Ok s) {c : Nat} (hc : c < s.qs.length) {pri : Int} (hp : inB pri 0 7 = false) {x xc xp xr : Nat} (hxc : IsI xc c w) (hxp : IsI xp pri w) :
    Calls Try.prog 68 #[bdV b0 e, .pointer (some ⟨xc, 0, none⟩), .pointer (some ⟨xp, 0, none⟩), .pointer (some ⟨xr, 0, none⟩)] w (OpDies x b0 bc at_ 1 w) := by
  obtain ⟨x0, _, xl⟩ := cell0 hxc
  obtain ⟨z0, _, zl⟩ := cell0 hxp
  have HXC := Lib.hid hxc
  have HXP := Lib.hid hxp
  have HO := Lib.hid h
  have HOK := Lib.hid hok
  have HPr := Lib.hid hp
  clear hxc hxp h hok hp
  unfold bdV
  have HK := (Kw.start w).box (vs := bdC b0 e) (t := 77)
  go_enter Try.func68, Try.ntmps68
  go_wp2_with fail
  show Calls Try.prog 51 #[bdV b0 e, .int .i64 c] (w.alloc (.cells (bdC b0 e).toArray 77)) _
  generalize w.alloc (.cells (bdC b0 e).toArray 77) = W at *
  have HKK := Lib.hid HK
  clear HK
  refine (processor_y (e := e) (HO.out.below HKK.out.base) hc).mono ?_
  rintro y w1 ⟨rfl, hb1⟩
  have HK1 := Lib.hid (HKK.out.below hb1)
  clear HKK hb1
  obtain ⟨k_0, k_1, k_2, k_3, k_4, k_5, hxl⟩ := board_cells (HK1.out.row 0 rfl)
  have q0 := (HK1.out.base.cell (p := ⟨xp, 0, none⟩) zl).trans z0
  have ql : xp < w1.heap.size := Nat.lt_of_lt_of_le zl HK1.out.base.size
  go_wp2_with fail
  refine wp_quiet_tail 3 (by kernel_rfl) (by kernel_rfl) ?_
  simp only [List.take_succ_cons, List.take_zero, List.drop_succ_cons, List.drop_zero]
  repeat (quiet_step (fail))
  quiet_step ((go_at_call 60; exact reg_call ((isPri_n _ _ HPr.out).mono (by rintro e w' ⟨h1, rfl⟩; exact ⟨h1, Below.refl _ _⟩))))
  refine wpQuiet_nil ?_
  intro _ hw'; obtain ⟨p1, rfl⟩ := hw'
  have HKp := Lib.hid (HK1.out.reg (p := p1))
  clear HK1 k_0 k_1 k_2 k_3 k_4 k_5 q0 ql
  go_wp2_with fail
  refine (demand_n _ _ _).mono ?_
  rintro y w9 ⟨rfl, hb9⟩
  have HB := Lib.hid (HKp.out.below hb9).base
  exact ⟨rfl, rfl, HB.out.os, HB.out.tape, HB.out.output, HB.out.size, fun k hk _ _ _ _ => HB.out.block k hk⟩
set_option maxHeartbeats 4000000 in
set_option maxRecDepth 100000 in
theorem add1_l (h : Own B b0 bc cc at_ ct rs s w) (hok : Ok s) {c : Nat} (hc : c < s.qs.length) {pri : Int} (hp : inB pri 0 7 = true) (hm : ¬ s.ts.length < 16) {x xc xp xr : Nat} (hxc : IsI xc c w) (hxp : IsI xp pri w) :
    Calls Try.prog 68 #[bdV b0 e, .pointer (some ⟨xc, 0, none⟩), .pointer (some ⟨xp, 0, none⟩), .pointer (some ⟨xr, 0, none⟩)] w (OpDies x b0 bc at_ 2 w) := by
  obtain ⟨x0, _, xl⟩ := cell0 hxc
  obtain ⟨z0, _, zl⟩ := cell0 hxp
  have HXC := Lib.hid hxc
  have HXP := Lib.hid hxp
  have HO := Lib.hid h
  have HOK := Lib.hid hok
  have HPr := Lib.hid hp
  clear hxc hxp h hok hp
  unfold bdV
  have HK := (Kw.start w).box (vs := bdC b0 e) (t := 77)
  go_enter Try.func68, Try.ntmps68
  go_wp2_with fail
  show Calls Try.prog 51 #[bdV b0 e, .int .i64 c] (w.alloc (.cells (bdC b0 e).toArray 77)) _
  generalize w.alloc (.cells (bdC b0 e).toArray 77) = W at *
  have HKK := Lib.hid HK
  clear HK
  refine (processor_y (e := e) (HO.out.below HKK.out.base) hc).mono ?_
  rintro y w1 ⟨rfl, hb1⟩
  have HK1 := Lib.hid (HKK.out.below hb1)
  clear HKK hb1
  obtain ⟨k_0, k_1, k_2, k_3, k_4, k_5, hxl⟩ := board_cells (HK1.out.row 0 rfl)
  have q0 := (HK1.out.base.cell (p := ⟨xp, 0, none⟩) zl).trans z0
  have ql : xp < w1.heap.size := Nat.lt_of_lt_of_le zl HK1.out.base.size
  go_wp2_with fail
  refine wp_quiet_tail 3 (by kernel_rfl) (by kernel_rfl) ?_
  simp only [List.take_succ_cons, List.take_zero, List.drop_succ_cons, List.drop_zero]
  repeat (quiet_step (fail))
  quiet_step ((go_at_call 60; exact reg_call ((isPri_y _ _ HPr.out).mono (by rintro e w' ⟨h1, rfl⟩; exact ⟨h1, Below.refl _ _⟩))))
  refine wpQuiet_nil ?_
  intro _ hw'; obtain ⟨p1, rfl⟩ := hw'
  have HKp := Lib.hid (HK1.out.reg (p := p1))
  clear HK1 k_0 k_1 k_2 k_3 k_4 k_5 q0 ql
  go_wp2_with fail
  refine (demand_y _ _ _).mono ?_
  rintro y w2 ⟨rfl, hb2⟩
  have HK2 := Lib.hid (HKp.out.below hb2)
  clear HKp hb2
  have O2 := HO.out.below HK2.out.base
  obtain ⟨k_0, k_1, k_2, k_3, k_4, k_5, hxl⟩ := board_cells (HK2.out.row 0 rfl)
  obtain ⟨n0, n1, n2, _, _, _, nl⟩ := row3 O2.nxt
  have hmx := (slV_own O2.th).max
  unfold maxLen at hmx
  have hlt : decide (s.ts.length < 16) = false := by simpa using hm
  have hlt2 : decide ((s.ts.length : Int) < 16) = false := decide_eq_false (by omega)
  clear O2
  go_wp2_with fail
  refine wp_quiet_tail 8 (by kernel_rfl) (by kernel_rfl) ?_
  simp only [List.take_succ_cons, List.take_zero, List.drop_succ_cons, List.drop_zero]
  repeat (quiet_step (fail))
  refine wpQuiet_nil ?_
  intro _ hw'; obtain ⟨p2, rfl⟩ := hw'
  have HKp := Lib.hid (HK2.out.reg (p := p2))
  clear HK2 k_0 k_1 k_2 k_3 k_4 k_5 n0 n1 n2 nl
  go_wp2_with fail
  refine (demand_n _ _ _).mono ?_
  rintro y w9 ⟨rfl, hb9⟩
  have HB := Lib.hid (HKp.out.below hb9).base
  exact ⟨rfl, rfl, HB.out.os, HB.out.tape, HB.out.output, HB.out.size, fun k hk _ _ _ _ => HB.out.block k hk⟩
set_option maxHeartbeats 2000000 in
set_option maxRecDepth 100000 in
theorem add1_n (h : Own B b0 bc cc at_ ct rs s w) (h4 : 1 ≤ s.qs.length ∧ s.qs.length ≤ 4) {c : Int} (hc : inB c 0 ((s.qs.length : Int) - 1) = false) {x xc xp xr : Nat} (hxc : IsI xc c w) :
    Calls Try.prog 68 #[bdV b0 e, .pointer (some ⟨xc, 0, none⟩), .pointer (some ⟨xp, 0, none⟩), .pointer (some ⟨xr, 0, none⟩)] w (OpDies x b0 bc at_ 52 w) := by
  obtain ⟨x0, _, xl⟩ := cell0 hxc
  have HO := Lib.hid h
  clear hxc h
  unfold bdV
  have HK := (Kw.start w).box (vs := bdC b0 e) (t := 77)
  go_enter Try.func68, Try.ntmps68
  go_wp2_with fail
  show Calls Try.prog 51 #[bdV b0 e, .int .i64 c] (w.alloc (.cells (bdC b0 e).toArray 77)) _
  generalize w.alloc (.cells (bdC b0 e).toArray 77) = W at *
  have HKK := Lib.hid HK
  clear HK
  refine (processor_n (e := e) (HO.out.below HKK.out.base) h4 hc).mono ?_
  rintro y w1 ⟨rfl, hb1⟩
  have HB := Lib.hid (HKK.out.below hb1).base
  exact ⟨rfl, rfl, HB.out.os, HB.out.tape, HB.out.output, HB.out.size, fun k hk _ _ _ _ => HB.out.block k hk⟩
end
theorem setPri_q (a : Option Addr) (c : Nat) (a2 : Option Addr) (c2 : Nat) (qs : List Qu) (ts : List Th) (q : Int) (k : Nat) (p : Int) (w : World) (hs : ScIn w a c a2 c2 qs ts) (hck : chkB qs ts q = true) (hk : k < ts.length) (hst : (thOf ts (k : Int)).st = 1 ∨ (thOf ts (k : Int)).st = 2 ∨ (thOf ts (k : Int)).st = 3) (hp : inB p 0 7 = false) :
    Calls Try.prog 28 #[.agg #[.slice a qs.length c, .slice a2 ts.length c2, .int .i64 q], .int .i64 k, .int .i64 p] w fun y w' => y = .returned (.tuple #[zSt, .int .i64 1]) ∧ Below w.heap.size w w' :=
  setPri_e _ _ _ k p 1 w fun W hW hz hr0 hr1 => change_p a c a2 c2 qs ts q 58 _ w.heap.size 1 W (hs.below hW) hck (by omega) (enters_of Try.func58 (by kernel_rfl) rfl)
    (fun b0 e bc cc at_ ct rs V hb0 hV hO hE => setPri1_q hE hO (ok_of_chk hck) hk hst hp ((hV.block _ (by omega)).trans hr0) ((hV.block _ (by omega)).trans hr1))
end Go.Proofs.Ytggikbcgijmhbaa
