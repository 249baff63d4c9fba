/- WHAT IS PROVED: Add where it has an error. CONDITIONS: as the cells lie. -/
import Derived.Test.YtggikbcgijmhbaaAq
set_option linter.unusedSimpArgs false
set_option linter.unusedVariables false
namespace Go.Proofs.Ytggikbcgijmhbaa
open Go Go.RowKit Go.QrBits Go.QrMem
attribute [local go_sem] reg_cell reg_frozen reg_setCell reg_lt reg_lt_add reg_drew reg_of_drew
set_option maxHeartbeats 4000000 in
set_option maxRecDepth 100000 in
theorem add_e (v0 v1 v2 : Value) (p k er : Int) (w : World) (hch : ∀ W : World, Below w.heap.size w W → W.heap.size = w.heap.size + 5 → W.heap[w.heap.size + 1]? = some (.cells #[.int .i64 p] 3 (0, 0)) → W.heap[w.heap.size + 1 + 1]? = some (.cells #[.int .i64 k] 3 (0, 0)) →
      Calls Try.prog 49 #[.agg #[v0, v1, v2], .func (.func 68) #[] #[.pointer (some ⟨w.heap.size + 1 + 1, 0, none⟩), .pointer (some ⟨w.heap.size + 1, 0, none⟩), .pointer (some ⟨w.heap.size + 1 + 1 + 1 + 1, 0, none⟩)]] W fun y w' => y = .returned (.tuple #[zSt, .int .i64 er]) ∧ Fx w.heap.size W w') :
    Calls Try.prog 46 #[.agg #[v0, v1, v2], .int .i64 p, .int .i64 k] w fun y w' => y = .returned (.tuple #[zSt, .int .i64 0, .int .i64 er]) ∧ Below w.heap.size w w' := by
  have HK := ((Kw.start w).box (vs := [v0, v1, v2]) (t := 25)).box (vs := [.int .i64 p]) (t := 3)
  replace HK := HK.box (vs := [.int .i64 k]) (t := 3)
  replace HK := (HK.box (vs := [.slice none 0 0, .slice none 0 0, .int .i64 0]) (t := 25)).box (vs := [.int .i64 0]) (t := 3)
  simp only [World.size_alloc] at HK
  have hmf : ∀ (fn : Fn) (first cap : Array Value) (w : World), (Instr.makeFunc fn first cap).run Try.prog w = .ok (.func fn first cap) w := fun _ _ _ _ => rfl
  have HCH := Lib.hid hch
  clear hch
  go_enter Try.func46, Try.ntmps46
  go_wp2_with fail
  have hw : ∃ W, ((((w.alloc (.cells #[v0, v1, v2] 25)).alloc (.cells #[.int .i64 p] 3)).alloc (.cells #[.int .i64 k] 3)).alloc (.cells #[.slice none 0 0, .slice none 0 0, .int .i64 0] 25)).alloc (.cells #[.int .i64 0] 3) = W := ⟨_, rfl⟩
  obtain ⟨W, hW⟩ := hw
  have hWs : W.heap.size = w.heap.size + 5 := by rw [← hW]; simp
  rw [hW] at HK ⊢
  clear hW
  have hW0 := HK.row 3 rfl
  have hW1 := HK.row 2 rfl
  refine (HCH.out W HK.base hWs hW0 hW1).mono ?_
  rintro y w1 ⟨rfl, hfx⟩
  unfold zSt
  have hrow4 := (hfx.blk (w.heap.size + 1 + 1 + 1) (by omega) (by omega)).trans (HK.row 1 rfl)
  have hb1 : Below w.heap.size w w1 := HK.base.trans (hfx.below (B := w.heap.size) (by omega) (by omega))
  have hI := (hfx.blk (w.heap.size + 1 + 1 + 1 + 1) (by omega) (by omega)).trans (HK.row 0 rfl)
  have HB1 := Lib.hid hb1
  have hz1 : w.heap.size + 5 ≤ w1.heap.size := by have := hfx.size; omega
  obtain ⟨i0, i1, il⟩ := cell0 hI
  obtain ⟨r0, r1, r2, s0, s1, s2, rl⟩ := row3 hrow4
  have HR4 := Lib.hid hrow4
  clear hfx hb1 hI hrow4 HCH HK hWs hW0 hW1
  go_wp2_with fail
  have hw2 : Below w1.heap.size w1 (w1.alloc (.cells #[.slice none 0 0, .slice none 0 0, .int .i64 0] 25)) := b_alloc (Below.refl _ _)
  have hx2 : (w1.alloc (.cells #[.slice none 0 0, .slice none 0 0, .int .i64 0] 25)).heap[w1.heap.size]? = some (.cells #[.slice none 0 0, .slice none 0 0, .int .i64 0] 25 (0, 0)) := heap_alloc_new w1 _
  obtain ⟨e0, e1, e2, _, _, _, el⟩ := row3 hx2
  replace i0 := (hw2.cell (p := ⟨w.heap.size + 1 + 1 + 1 + 1, 0, none⟩) il).trans i0
  have HR5 := Lib.hid ((hw2.block _ rl).trans HR4.out)
  have HB2 := Lib.hid (Below.tail HB1.out hw2)
  generalize (w1.alloc (.cells #[.slice none 0 0, .slice none 0 0, .int .i64 0] 25)) = w2 at *
  have il2 : w.heap.size + 1 + 1 + 1 + 1 < w2.heap.size := Nat.lt_of_lt_of_le il hw2.size
  clear hw2 hx2 i1 il HR4 HB1 r0 r1 r2 s0 s1 s2 rl
  have hz : w.heap.size + 5 ≤ w1.heap.size := hz1
  generalize w1.heap.size = z at *
  refine wp_region_any (by kernel_rfl) (wpAny_of_held (S := fun W' : World => W'.cell? ⟨z, 0, none⟩ = some (.slice none 0 0) ∧ W'.cell? ⟨z, 1, none⟩ = some (.slice none 0 0) ∧ W'.cell? ⟨z, 2, none⟩ = some (.int .i64 0) ∧ W'.cell? ⟨w.heap.size + 1 + 1 + 1 + 1, 0, none⟩ = some (.int .i64 0)) _ _ _ _ ?_)
  change wpAnyH _ _ _ _ _ _ _ _ (World.drew _)
  have hbp : Below w2.heap.size w2 w2.drew := (Below.refl _ _).drew
  have HS0 : w2.drew.cell? ⟨z, 0, none⟩ = some (.slice none 0 0) ∧ w2.drew.cell? ⟨z, 1, none⟩ = some (.slice none 0 0) ∧ w2.drew.cell? ⟨z, 2, none⟩ = some (.int .i64 0) ∧ w2.drew.cell? ⟨w.heap.size + 1 + 1 + 1 + 1, 0, none⟩ = some (.int .i64 0) := ⟨e0, e1, e2, i0⟩
  have h5 := (hbp.block _ (Array.getElem?_eq_some_iff.1 HR5.out).1).trans HR5.out
  have HB2' := Below.tail HB2.out hbp
  generalize w2.drew = w3 at *
  obtain ⟨r0, r1, r2, s0, s1, s2, rl⟩ := row3 h5
  have f1 := heap_setCell_same w3 (w.heap.size + 1 + 1 + 1) 0 _ 25 (.slice none 0 0) h5
  have f2 := heap_setCell_same _ (w.heap.size + 1 + 1 + 1) 1 _ 25 (.slice none 0 0) f1
  have f3 := heap_setCell_same _ (w.heap.size + 1 + 1 + 1) 2 _ 25 (.int .i64 0) f2
  obtain ⟨u0, u1, u2, _⟩ := row3 (x := .slice none 0 0) (y := .slice none 0 0) (z := .int .i64 0) (by simpa using f3)
  have HB3 : Hid (Below w.heap.size w (((w3.setCell ⟨w.heap.size + 1 + 1 + 1, 0, none⟩ (.slice none 0 0)).setCell ⟨w.heap.size + 1 + 1 + 1, 1, none⟩ (.slice none 0 0)).setCell ⟨w.heap.size + 1 + 1 + 1, 2, none⟩ (.int .i64 0))) :=
    Lib.hid (((HB2'.setCell (by show _ ≤ w.heap.size + 1 + 1 + 1; omega) _).setCell (by show _ ≤ w.heap.size + 1 + 1 + 1; omega) _).setCell (by show _ ≤ w.heap.size + 1 + 1 + 1; omega) _)
  have hfar : ∀ (k o : Nat), k ≠ w.heap.size + 1 + 1 + 1 → (((w3.setCell ⟨w.heap.size + 1 + 1 + 1, 0, none⟩ (.slice none 0 0)).setCell ⟨w.heap.size + 1 + 1 + 1, 1, none⟩ (.slice none 0 0)).setCell ⟨w.heap.size + 1 + 1 + 1, 2, none⟩ (.int .i64 0)).cell? ⟨k, o, none⟩ = w3.cell? ⟨k, o, none⟩ := fun k o hk =>
    World.cell?_of_block (w := w3) (a := ⟨k, o, none⟩) ((Below.heap_setCell _ _ _ _ hk).trans ((Below.heap_setCell _ _ _ _ hk).trans (Below.heap_setCell _ _ _ _ hk)))
  have HSF : Hid ((((w3.setCell ⟨w.heap.size + 1 + 1 + 1, 0, none⟩ (.slice none 0 0)).setCell ⟨w.heap.size + 1 + 1 + 1, 1, none⟩ (.slice none 0 0)).setCell ⟨w.heap.size + 1 + 1 + 1, 2, none⟩ (.int .i64 0)).cell? ⟨z, 0, none⟩ = some (.slice none 0 0) ∧ (((w3.setCell ⟨w.heap.size + 1 + 1 + 1, 0, none⟩ (.slice none 0 0)).setCell ⟨w.heap.size + 1 + 1 + 1, 1, none⟩ (.slice none 0 0)).setCell ⟨w.heap.size + 1 + 1 + 1, 2, none⟩ (.int .i64 0)).cell? ⟨z, 1, none⟩ = some (.slice none 0 0) ∧ (((w3.setCell ⟨w.heap.size + 1 + 1 + 1, 0, none⟩ (.slice none 0 0)).setCell ⟨w.heap.size + 1 + 1 + 1, 1, none⟩ (.slice none 0 0)).setCell ⟨w.heap.size + 1 + 1 + 1, 2, none⟩ (.int .i64 0)).cell? ⟨z, 2, none⟩ = some (.int .i64 0) ∧ (((w3.setCell ⟨w.heap.size + 1 + 1 + 1, 0, none⟩ (.slice none 0 0)).setCell ⟨w.heap.size + 1 + 1 + 1, 1, none⟩ (.slice none 0 0)).setCell ⟨w.heap.size + 1 + 1 + 1, 2, none⟩ (.int .i64 0)).cell? ⟨w.heap.size + 1 + 1 + 1 + 1, 0, none⟩ = some (.int .i64 0)) :=
    Lib.hid ⟨(hfar z 0 (by omega)).trans HS0.1, (hfar z 1 (by omega)).trans HS0.2.1, (hfar z 2 (by omega)).trans HS0.2.2.1, (hfar _ 0 (by omega)).trans HS0.2.2.2⟩
  clear hfar h5 f1 f2 f3 hbp e0 e1 e2 i0 HB2 HB2' HR5 el
  refine wpAnyH_take (i := 0) (oi := _) (v := .agg #[.slice none 0 0, .slice none 0 0, .int .i64 0]) rfl (by kernel_rfl) (by kernel_rfl) (by kernel_rfl) (fun _ _ _ h => h) (Or.inl ⟨by rfl, ?_⟩) HS0 ?_
  · intro W' hW'
    have h := hW'.1; have h2 := hW'.2.1; have h3 := hW'.2.2.1; go_simp
  try simp only [Act.put, List.setIfInBounds_toArray, List.set_cons_zero, List.set_cons_succ]
  refine wpAnyH_take (i := 1) (oi := _) (v := .int .i64 0) rfl (by kernel_rfl) (by kernel_rfl) (by kernel_rfl) (fun _ _ _ h => h) (Or.inl ⟨by rfl, ?_⟩) HS0 ?_
  · intro W' hW'
    have h := hW'.2.2.2; go_simp
  try simp only [Act.put, List.setIfInBounds_toArray, List.set_cons_zero, List.set_cons_succ]
  refine wpAnyH_take (i := 2) (oi := _) (v := .int .i64 er) rfl (by kernel_rfl) (by kernel_rfl) (by kernel_rfl) (fun _ _ _ h => h) (Or.inl ⟨by rfl, ?_⟩) HS0 ?_
  · intro W' hW'
    go_simp
  try simp only [Act.put, List.setIfInBounds_toArray, List.set_cons_zero, List.set_cons_succ]
  refine wpAnyH_ready (rs := [3]) (by kernel_rfl) (by simp) ?_
  refine AllReadyH.cons (o := _) rfl (fun K hK => ?_) AllReadyH.nil
  go_simp
  refine hK.out _ _ HSF.out (fun hHeld => ?_)
  clear hK K hHeld
  try simp only [Act.put, List.setIfInBounds_toArray, List.set_cons_zero, List.set_cons_succ]
  refine wpAnyH_ready (rs := [4]) (by kernel_rfl) (by simp) ?_
  refine AllReadyH.cons (o := _) rfl (fun K hK => ?_) AllReadyH.nil
  go_simp
  refine hK.out _ _ HSF.out (fun hHeld => ?_)
  clear hK K hHeld
  try simp only [Act.put, List.setIfInBounds_toArray, List.set_cons_zero, List.set_cons_succ]
  refine wpAnyH_ready (rs := [5]) (by kernel_rfl) (by simp) ?_
  refine AllReadyH.cons (o := _) rfl (fun K hK => ?_) AllReadyH.nil
  go_simp
  refine hK.out _ _ HSF.out (fun hHeld => ?_)
  clear hK K hHeld
  refine wpAnyH_done (by kernel_rfl) ?_ _
  go_wp2
  exact bodyPost_ret (v := .tuple #[.agg #[.slice none 0 0, .slice none 0 0, .int .i64 0], .int .i64 0, .int .i64 er]) (by simp [results, Try.results46, go_sem, u0, u1, u2]) rfl ⟨rfl, HB3.out⟩
theorem add_n (a : Option Addr) (c : Nat) (a2 : Option Addr) (c2 : Nat) (qs : List Qu) (ts : List Th) (q p k : Int) (w : World) (hs : ScIn w a c a2 c2 qs ts) (hck : chkB qs ts q = false) :
    Calls Try.prog 46 #[.agg #[.slice a qs.length c, .slice a2 ts.length c2, .int .i64 q], .int .i64 p, .int .i64 k] w fun y w' => y = .returned (.tuple #[zSt, .int .i64 0, .int .i64 50]) ∧ Below w.heap.size w w' :=
  add_e _ _ _ p k 50 w fun W hW _ _ _ => (change_n a c a2 c2 qs ts q 68 _ W (hs.below hW) hck).mono fun _ _ h => ⟨h.1, Fx.of_below h.2⟩
theorem add_p (a : Option Addr) (c : Nat) (a2 : Option Addr) (c2 : Nat) (qs : List Qu) (ts : List Th) (q p : Int) (k : Int) (w : World) (hs : ScIn w a c a2 c2 qs ts) (hck : chkB qs ts q = true) (hk : inB k 0 ((qs.length : Int) - 1) = false) :
    Calls Try.prog 46 #[.agg #[.slice a qs.length c, .slice a2 ts.length c2, .int .i64 q], .int .i64 p, .int .i64 k] w fun y w' => y = .returned (.tuple #[zSt, .int .i64 0, .int .i64 52]) ∧ Below w.heap.size w w' :=
  add_e _ _ _ p k 52 w fun W hW hz hW0 hW1 => change_p a c a2 c2 qs ts q 68 _ w.heap.size 52 W (hs.below hW) hck (by omega) (enters_of Try.func68 (by kernel_rfl) rfl)
    (fun b0 e bc cc at_ ct rs V hb0 hV hO hE => add1_n hO ⟨(ok_of_chk hck).n1, (ok_of_chk hck).n2⟩ hk ((hV.block _ (by omega)).trans hW1))
theorem add_q (a : Option Addr) (c : Nat) (a2 : Option Addr) (c2 : Nat) (qs : List Qu) (ts : List Th) (q p : Int) (k : Nat) (w : World) (hs : ScIn w a c a2 c2 qs ts) (hck : chkB qs ts q = true) (hk : k < qs.length) (hp : inB p 0 7 = false) :
    Calls Try.prog 46 #[.agg #[.slice a qs.length c, .slice a2 ts.length c2, .int .i64 q], .int .i64 p, .int .i64 k] w fun y w' => y = .returned (.tuple #[zSt, .int .i64 0, .int .i64 1]) ∧ Below w.heap.size w w' :=
  add_e _ _ _ p k 1 w fun W hW hz hW0 hW1 => change_p a c a2 c2 qs ts q 68 _ w.heap.size 1 W (hs.below hW) hck (by omega) (enters_of Try.func68 (by kernel_rfl) rfl)
    (fun b0 e bc cc at_ ct rs V hb0 hV hO hE => add1_q hO (ok_of_chk hck) hk hp ((hV.block _ (by omega)).trans hW1) ((hV.block _ (by omega)).trans hW0))
theorem add_l (a : Option Addr) (c : Nat) (a2 : Option Addr) (c2 : Nat) (qs : List Qu) (ts : List Th) (q p : Int) (k : Nat) (w : World) (hs : ScIn w a c a2 c2 qs ts) (hck : chkB qs ts q = true) (hk : k < qs.length) (hp : inB p 0 7 = true) (hm : ¬ ts.length < 16) :
    Calls Try.prog 46 #[.agg #[.slice a qs.length c, .slice a2 ts.length c2, .int .i64 q], .int .i64 p, .int .i64 k] w fun y w' => y = .returned (.tuple #[zSt, .int .i64 0, .int .i64 2]) ∧ Below w.heap.size w w' :=
  add_e _ _ _ p k 2 w fun W hW hz hW0 hW1 => change_p a c a2 c2 qs ts q 68 _ w.heap.size 2 W (hs.below hW) hck (by omega) (enters_of Try.func68 (by kernel_rfl) rfl)
    (fun b0 e bc cc at_ ct rs V hb0 hV hO hE => add1_l hO (ok_of_chk hck) hk hp hm ((hV.block _ (by omega)).trans hW1) ((hV.block _ (by omega)).trans hW0))
end Go.Proofs.Ytggikbcgijmhbaa
