/- WHAT IS PROVED: board.processor panics at a number that is no processor; Switch at it, and at a state that is not valid. -/
import Derived.Test.YtggikbcgijmhbaaS
set_option linter.unusedSimpArgs false
set_option linter.unusedVariables false
namespace Go.Proofs.Ytggikbcgijmhbaa
open Go Go.RowKit Go.QrBits Go.QrMem
attribute [local go_sem] reg_cell reg_frozen reg_setCell reg_lt reg_lt_add reg_drew reg_of_drew
section
variable {B b0 bc cc ct : Nat} {at_ : Option Addr} {rs : List (Option Addr × Nat)} {s : St} {w : World} {e : Nat}
set_option maxHeartbeats 2000000 in
set_option maxRecDepth 100000 in
theorem processor_n (h : Own B b0 bc cc at_ ct rs s w) (h4 : 1 ≤ s.qs.length ∧ s.qs.length ≤ 4) {c : Int} (hc : inB c 0 ((s.qs.length : Int) - 1) = false) :
    Calls Try.prog 51 #[bdV b0 e, .int .i64 c] w fun y w' => y = .panicked [{ v := .iface 98 (.int .i64 52), recovered := false }] ∧ Below w.heap.size w w' := by
  obtain ⟨p0, p1, p2, _, _, _, pl⟩ := row3 h.nxt
  have hn := (slV_own h.cp).max
  unfold maxLen at hn
  have hW := fun w => within_n c 0 ((s.qs.length : Int) - 1) w hc
  clear h hc
  generalize s.qs.length = n at *
  have n1 : (1 : Int) ≤ (n : Int) := by omega
  have hw1 : IntKind.i64.wrap ((n : Int) - 1) = (n : Int) - 1 := by exact IntWalk.i64_in _ (by omega)
  have HW := Lib.hid hW
  clear hW
  unfold bdV
  go_enter Try.func51, Try.ntmps51
  go_wp2_with fail
  show Code.wp _ _ _ _ (w.alloc (.cells (bdC b0 e).toArray 77))
  have HK := (Kw.start w).box (vs := bdC b0 e) (t := 77)
  generalize w.alloc (.cells (bdC b0 e).toArray 77) = W at *
  have k_0 := HK.get 0 0 rfl rfl
  have k_1 := HK.get 0 1 rfl rfl
  have k_2 := HK.get 0 2 rfl rfl
  have k_3 := HK.get 0 3 rfl rfl
  have k_4 := HK.get 0 4 rfl rfl
  have k_5 := HK.get 0 5 rfl rfl
  have hxl := HK.lt 0 rfl
  have q0 := (HK.base.cell (p := ⟨b0, 0, none⟩) pl).trans p0
  have hbl : b0 < W.heap.size := by omega
  have HKK := Lib.hid HK
  have P0 := Lib.hid p0
  clear HK p0
  refine wp_quiet_tail 10 (by kernel_rfl) (by kernel_rfl) ?_
  simp only [List.take_succ_cons, List.take_zero, List.drop_succ_cons, List.drop_zero]
  repeat (quiet_step (fail))
  quiet_step ((go_at_call 31; exact reg_call ((HW.out _).mono (by rintro e w' ⟨h1, rfl⟩; exact ⟨h1, Below.refl _ _⟩))))
  refine wpQuiet_nil ?_
  intro _ hw'; obtain ⟨p, rfl⟩ := hw'
  have HKp := Lib.hid (HKK.out.reg (p := p))
  clear hw1 HKK k_0 k_1 k_2 k_3 k_4 k_5 q0 HW
  go_wp2_with fail
  refine (demand_n _ _ _).mono ?_
  rintro e w1 ⟨rfl, hb1⟩
  have HK1 := HKp.out.below hb1
  have HB := Lib.hid HK1.base
  clear HKp hb1 HK1
  exact ⟨rfl, rfl, HB.out⟩
end
section
variable {B b0 bc cc ct : Nat} {at_ : Option Addr} {rs : List (Option Addr × Nat)} {s : St} {w : World} {e : Nat}
set_option maxHeartbeats 2000000 in
set_option maxRecDepth 100000 in
theorem switch1_n (h : Own B b0 bc cc at_ ct rs s w) (h4 : 1 ≤ s.qs.length ∧ s.qs.length ≤ 4) {c : Int} (hc : inB c 0 ((s.qs.length : Int) - 1) = false) {x xc xr : Nat} (hxc : IsI xc c w) :
    Calls Try.prog 50 #[bdV b0 e, .pointer (some ⟨xc, 0, none⟩), .pointer (some ⟨xr, 0, none⟩)] w (OpDies x b0 bc at_ 52 w) := by
  obtain ⟨x0, _, xl⟩ := cell0 hxc
  have HO := Lib.hid h
  clear hxc h
  unfold bdV
  have HK := (Kw.start w).box (vs := bdC b0 e) (t := 77)
  go_enter Try.func50, Try.ntmps50
  go_wp2_with fail
  show Calls Try.prog 51 #[bdV b0 e, .int .i64 c] (w.alloc (.cells (bdC b0 e).toArray 77)) _
  generalize w.alloc (.cells (bdC b0 e).toArray 77) = W at *
  have HKK := Lib.hid HK
  clear HK
  refine (processor_n (e := e) (HO.out.below HKK.out.base) h4 hc).mono ?_
  rintro y w1 ⟨rfl, hb1⟩
  have HB := Lib.hid (HKK.out.below hb1).base
  exact ⟨rfl, rfl, HB.out.os, HB.out.tape, HB.out.output, HB.out.size, fun k hk _ _ _ _ => HB.out.block k hk⟩
end
theorem Fx.of_below {x : Nat} {w w' : World} (h : Below w.heap.size w w') : Fx x w w' := ⟨h.os, h.tape, h.output, h.size, fun k hk _ => h.block k hk⟩
set_option maxHeartbeats 4000000 in
set_option maxRecDepth 100000 in
/-- Switch, where change hands back an error. -/
theorem switch_e (v0 v1 v2 : Value) (k er : Int) (w : World) (hch : ∀ W : World, Below w.heap.size w W → W.heap.size = w.heap.size + 4 → W.heap[w.heap.size + 1]? = some (.cells #[.int .i64 k] 3 (0, 0)) →
      Calls Try.prog 49 #[.agg #[v0, v1, v2], .func (.func 50) #[] #[.pointer (some ⟨w.heap.size + 1, 0, none⟩), .pointer (some ⟨w.heap.size + 1 + 1 + 1, 0, none⟩)]] W fun y w' => y = .returned (.tuple #[zSt, .int .i64 er]) ∧ Fx w.heap.size W w') :
    Calls Try.prog 22 #[.agg #[v0, v1, v2], .int .i64 k] w fun y w' => y = .returned (.tuple #[zSt, .int .i64 0, .int .i64 er]) ∧ Below w.heap.size w w' := by
  have HK := ((Kw.start w).box (vs := [v0, v1, v2]) (t := 25)).box (vs := [.int .i64 k]) (t := 3)
  replace HK := (HK.box (vs := [.slice none 0 0, .slice none 0 0, .int .i64 0]) (t := 25)).box (vs := [.int .i64 0]) (t := 3)
  simp only [World.size_alloc] at HK
  have hmf : ∀ (fn : Fn) (first cap : Array Value) (w : World), (Instr.makeFunc fn first cap).run Try.prog w = .ok (.func fn first cap) w := fun _ _ _ _ => rfl
  have HCH := Lib.hid hch
  clear hch
  go_enter Try.func22, Try.ntmps22
  go_wp2_with fail
  have hw : ∃ W, (((w.alloc (.cells #[v0, v1, v2] 25)).alloc (.cells #[.int .i64 k] 3)).alloc (.cells #[.slice none 0 0, .slice none 0 0, .int .i64 0] 25)).alloc (.cells #[.int .i64 0] 3) = W := ⟨_, rfl⟩
  obtain ⟨W, hW⟩ := hw
  have hWs : W.heap.size = w.heap.size + 4 := by rw [← hW]; simp
  rw [hW] at HK ⊢
  clear hW
  have hW1 := HK.row 2 rfl
  refine (HCH.out W HK.base hWs hW1).mono ?_
  rintro y w1 ⟨rfl, hfx⟩
  unfold zSt
  have hrow4 := (hfx.blk (w.heap.size + 1 + 1) (by omega) (by omega)).trans (HK.row 1 rfl)
  have hb1 : Below w.heap.size w w1 := HK.base.trans (hfx.below (B := w.heap.size) (by omega) (by omega))
  have hI := (hfx.blk (w.heap.size + 1 + 1 + 1) (by omega) (by omega)).trans (HK.row 0 rfl)
  have HB1 := Lib.hid hb1
  have hz1 : w.heap.size + 4 ≤ w1.heap.size := by have := hfx.size; omega
  obtain ⟨i0, i1, il⟩ := cell0 hI
  obtain ⟨r0, r1, r2, s0, s1, s2, rl⟩ := row3 hrow4
  have HR4 := Lib.hid hrow4
  clear hfx hb1 hI hrow4 HCH HK hWs hW1
  go_wp2_with fail
  have hw2 : Below w1.heap.size w1 (w1.alloc (.cells #[.slice none 0 0, .slice none 0 0, .int .i64 0] 25)) := b_alloc (Below.refl _ _)
  have hx2 : (w1.alloc (.cells #[.slice none 0 0, .slice none 0 0, .int .i64 0] 25)).heap[w1.heap.size]? = some (.cells #[.slice none 0 0, .slice none 0 0, .int .i64 0] 25 (0, 0)) := heap_alloc_new w1 _
  obtain ⟨e0, e1, e2, _, _, _, el⟩ := row3 hx2
  replace i0 := (hw2.cell (p := ⟨w.heap.size + 1 + 1 + 1, 0, none⟩) il).trans i0
  have HR5 := Lib.hid ((hw2.block _ rl).trans HR4.out)
  have HB2 := Lib.hid (Below.tail HB1.out hw2)
  generalize (w1.alloc (.cells #[.slice none 0 0, .slice none 0 0, .int .i64 0] 25)) = w2 at *
  have il2 : w.heap.size + 1 + 1 + 1 < w2.heap.size := Nat.lt_of_lt_of_le il hw2.size
  clear hw2 hx2 i1 il HR4 HB1 r0 r1 r2 s0 s1 s2 rl
  have hz : w.heap.size + 4 ≤ w1.heap.size := hz1
  generalize w1.heap.size = z at *
  refine wp_region_any (by kernel_rfl) (wpAny_of_held (S := fun W' : World => W'.cell? ⟨z, 0, none⟩ = some (.slice none 0 0) ∧ W'.cell? ⟨z, 1, none⟩ = some (.slice none 0 0) ∧ W'.cell? ⟨z, 2, none⟩ = some (.int .i64 0) ∧ W'.cell? ⟨w.heap.size + 1 + 1 + 1, 0, none⟩ = some (.int .i64 0)) _ _ _ _ ?_)
  change wpAnyH _ _ _ _ _ _ _ _ (World.drew _)
  have hbp : Below w2.heap.size w2 w2.drew := (Below.refl _ _).drew
  have HS0 : w2.drew.cell? ⟨z, 0, none⟩ = some (.slice none 0 0) ∧ w2.drew.cell? ⟨z, 1, none⟩ = some (.slice none 0 0) ∧ w2.drew.cell? ⟨z, 2, none⟩ = some (.int .i64 0) ∧ w2.drew.cell? ⟨w.heap.size + 1 + 1 + 1, 0, none⟩ = some (.int .i64 0) := ⟨e0, e1, e2, i0⟩
  have h5 := (hbp.block _ (Array.getElem?_eq_some_iff.1 HR5.out).1).trans HR5.out
  have HB2' := Below.tail HB2.out hbp
  generalize w2.drew = w3 at *
  obtain ⟨r0, r1, r2, s0, s1, s2, rl⟩ := row3 h5
  have f1 := heap_setCell_same w3 (w.heap.size + 1 + 1) 0 _ 25 (.slice none 0 0) h5
  have f2 := heap_setCell_same _ (w.heap.size + 1 + 1) 1 _ 25 (.slice none 0 0) f1
  have f3 := heap_setCell_same _ (w.heap.size + 1 + 1) 2 _ 25 (.int .i64 0) f2
  obtain ⟨u0, u1, u2, _⟩ := row3 (x := .slice none 0 0) (y := .slice none 0 0) (z := .int .i64 0) (by simpa using f3)
  have HB3 : Hid (Below w.heap.size w (((w3.setCell ⟨w.heap.size + 1 + 1, 0, none⟩ (.slice none 0 0)).setCell ⟨w.heap.size + 1 + 1, 1, none⟩ (.slice none 0 0)).setCell ⟨w.heap.size + 1 + 1, 2, none⟩ (.int .i64 0))) :=
    Lib.hid (((HB2'.setCell (by show _ ≤ w.heap.size + 1 + 1; omega) _).setCell (by show _ ≤ w.heap.size + 1 + 1; omega) _).setCell (by show _ ≤ w.heap.size + 1 + 1; omega) _)
  have hfar : ∀ (k o : Nat), k ≠ w.heap.size + 1 + 1 → (((w3.setCell ⟨w.heap.size + 1 + 1, 0, none⟩ (.slice none 0 0)).setCell ⟨w.heap.size + 1 + 1, 1, none⟩ (.slice none 0 0)).setCell ⟨w.heap.size + 1 + 1, 2, none⟩ (.int .i64 0)).cell? ⟨k, o, none⟩ = w3.cell? ⟨k, o, none⟩ := fun k o hk =>
    World.cell?_of_block (w := w3) (a := ⟨k, o, none⟩) ((Below.heap_setCell _ _ _ _ hk).trans ((Below.heap_setCell _ _ _ _ hk).trans (Below.heap_setCell _ _ _ _ hk)))
  have HSF : Hid ((((w3.setCell ⟨w.heap.size + 1 + 1, 0, none⟩ (.slice none 0 0)).setCell ⟨w.heap.size + 1 + 1, 1, none⟩ (.slice none 0 0)).setCell ⟨w.heap.size + 1 + 1, 2, none⟩ (.int .i64 0)).cell? ⟨z, 0, none⟩ = some (.slice none 0 0) ∧ (((w3.setCell ⟨w.heap.size + 1 + 1, 0, none⟩ (.slice none 0 0)).setCell ⟨w.heap.size + 1 + 1, 1, none⟩ (.slice none 0 0)).setCell ⟨w.heap.size + 1 + 1, 2, none⟩ (.int .i64 0)).cell? ⟨z, 1, none⟩ = some (.slice none 0 0) ∧ (((w3.setCell ⟨w.heap.size + 1 + 1, 0, none⟩ (.slice none 0 0)).setCell ⟨w.heap.size + 1 + 1, 1, none⟩ (.slice none 0 0)).setCell ⟨w.heap.size + 1 + 1, 2, none⟩ (.int .i64 0)).cell? ⟨z, 2, none⟩ = some (.int .i64 0) ∧ (((w3.setCell ⟨w.heap.size + 1 + 1, 0, none⟩ (.slice none 0 0)).setCell ⟨w.heap.size + 1 + 1, 1, none⟩ (.slice none 0 0)).setCell ⟨w.heap.size + 1 + 1, 2, none⟩ (.int .i64 0)).cell? ⟨w.heap.size + 1 + 1 + 1, 0, none⟩ = some (.int .i64 0)) :=
    Lib.hid ⟨(hfar z 0 (by omega)).trans HS0.1, (hfar z 1 (by omega)).trans HS0.2.1, (hfar z 2 (by omega)).trans HS0.2.2.1, (hfar _ 0 (by omega)).trans HS0.2.2.2⟩
  clear hfar h5 f1 f2 f3 hbp e0 e1 e2 i0 HB2 HB2' HR5 el
  refine wpAnyH_take (i := 0) (oi := _) (v := .agg #[.slice none 0 0, .slice none 0 0, .int .i64 0]) rfl (by kernel_rfl) (by kernel_rfl) (by kernel_rfl) (fun _ _ _ h => h) (Or.inl ⟨by rfl, ?_⟩) HS0 ?_
  · intro W' hW'
    have h := hW'.1; have h2 := hW'.2.1; have h3 := hW'.2.2.1; go_simp
  try simp only [Act.put, List.setIfInBounds_toArray, List.set_cons_zero, List.set_cons_succ]
  refine wpAnyH_take (i := 1) (oi := _) (v := .int .i64 0) rfl (by kernel_rfl) (by kernel_rfl) (by kernel_rfl) (fun _ _ _ h => h) (Or.inl ⟨by rfl, ?_⟩) HS0 ?_
  · intro W' hW'
    have h := hW'.2.2.2; go_simp
  try simp only [Act.put, List.setIfInBounds_toArray, List.set_cons_zero, List.set_cons_succ]
  refine wpAnyH_take (i := 2) (oi := _) (v := .int .i64 er) rfl (by kernel_rfl) (by kernel_rfl) (by kernel_rfl) (fun _ _ _ h => h) (Or.inl ⟨by rfl, ?_⟩) HS0 ?_
  · intro W' hW'
    go_simp
  try simp only [Act.put, List.setIfInBounds_toArray, List.set_cons_zero, List.set_cons_succ]
  refine wpAnyH_ready (rs := [3]) (by kernel_rfl) (by simp) ?_
  refine AllReadyH.cons (o := _) rfl (fun K hK => ?_) AllReadyH.nil
  go_simp
  refine hK.out _ _ HSF.out (fun hHeld => ?_)
  clear hK K hHeld
  try simp only [Act.put, List.setIfInBounds_toArray, List.set_cons_zero, List.set_cons_succ]
  refine wpAnyH_ready (rs := [4]) (by kernel_rfl) (by simp) ?_
  refine AllReadyH.cons (o := _) rfl (fun K hK => ?_) AllReadyH.nil
  go_simp
  refine hK.out _ _ HSF.out (fun hHeld => ?_)
  clear hK K hHeld
  try simp only [Act.put, List.setIfInBounds_toArray, List.set_cons_zero, List.set_cons_succ]
  refine wpAnyH_ready (rs := [5]) (by kernel_rfl) (by simp) ?_
  refine AllReadyH.cons (o := _) rfl (fun K hK => ?_) AllReadyH.nil
  go_simp
  refine hK.out _ _ HSF.out (fun hHeld => ?_)
  clear hK K hHeld
  refine wpAnyH_done (by kernel_rfl) ?_ _
  go_wp2
  exact bodyPost_ret (v := .tuple #[.agg #[.slice none 0 0, .slice none 0 0, .int .i64 0], .int .i64 0, .int .i64 er]) (by simp [results, Try.results22, go_sem, u0, u1, u2]) rfl ⟨rfl, HB3.out⟩
theorem switch_n (a : Option Addr) (c : Nat) (a2 : Option Addr) (c2 : Nat) (qs : List Qu) (ts : List Th) (q k : Int) (w : World) (hs : ScIn w a c a2 c2 qs ts) (hck : chkB qs ts q = false) :
    Calls Try.prog 22 #[.agg #[.slice a qs.length c, .slice a2 ts.length c2, .int .i64 q], .int .i64 k] w fun y w' => y = .returned (.tuple #[zSt, .int .i64 0, .int .i64 50]) ∧ Below w.heap.size w w' :=
  switch_e _ _ _ k 50 w fun W hW _ _ => (change_n a c a2 c2 qs ts q 50 _ W (hs.below hW) hck).mono fun _ _ h => ⟨h.1, Fx.of_below h.2⟩
theorem switch_p (a : Option Addr) (c : Nat) (a2 : Option Addr) (c2 : Nat) (qs : List Qu) (ts : List Th) (q k : Int) (w : World) (hs : ScIn w a c a2 c2 qs ts) (hck : chkB qs ts q = true) (hk : inB k 0 ((qs.length : Int) - 1) = false) :
    Calls Try.prog 22 #[.agg #[.slice a qs.length c, .slice a2 ts.length c2, .int .i64 q], .int .i64 k] w fun y w' => y = .returned (.tuple #[zSt, .int .i64 0, .int .i64 52]) ∧ Below w.heap.size w w' :=
  switch_e _ _ _ k 52 w fun W hW hz hW1 => change_p a c a2 c2 qs ts q 50 _ w.heap.size 52 W (hs.below hW) hck (by omega) (enters_of Try.func50 (by kernel_rfl) rfl)
    (fun b0 e bc cc at_ ct rs V hb0 hV hO hE => switch1_n hO ⟨(ok_of_chk hck).n1, (ok_of_chk hck).n2⟩ hk ((hV.block _ (by omega)).trans hW1))
end Go.Proofs.Ytggikbcgijmhbaa
