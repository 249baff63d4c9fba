/- WHAT IS PROVED: Add's operation. CONDITIONS: a valid state with fewer than 16 threads, in memory of one's own; a processor of it; a priority. -/
import Derived.Test.YtggikbcgijmhbaaV
set_option linter.unusedSimpArgs false
set_option linter.unusedVariables false
namespace Go.Proofs.Ytggikbcgijmhbaa
open Go Go.RowKit Go.QrBits Go.QrMem
attribute [local go_sem] reg_cell reg_frozen reg_setCell reg_lt reg_lt_add reg_drew reg_of_drew
section
variable {B b0 bc cc ct e : Nat} {at_ : Option Addr} {rs : List (Option Addr × Nat)} {s : St} {w : World}
theorem add_end {g cap : Nat} {pri : Int} {c : Nat} (hok : Ok s) (hc : c < s.qs.length) (he : Env b0 e w) (h : Own B b0 bc cc (some ⟨g, 0, none⟩) cap rs { s with ts := s.ts ++ [⟨pri, c, 0⟩] } w) :
    Calls Try.prog 92 #[.int .i64 s.ts.length, .pointer (some ⟨e + 4, 0, none⟩), .pointer (some ⟨e, 0, none⟩)] w (Moved B b0 bc cc (some ⟨g, 0, none⟩) cap (addM s pri c) w) := by
  rw [← add_eq]
  refine toEnd_c (c := c) he h (by simp) (by simp [thOf]) hc (fun k u hu => short_of_ok hok k u hu) (fun r hr => ?_)
  have := rng_of_ok hok hc r hr
  exact ⟨this.1, by simp; omega⟩
theorem add_fr {g xr : Nat} {w7 w8 : World} (h : OpFr xr b0 bc at_ w w7) (hf : Fr bc (some ⟨g, 0, none⟩) w7 w8) (hg : (∀ n m, (Value.slice at_ n m).ownBlock = some g) ∨ w.heap.size ≤ g) : OpFr xr b0 bc at_ w w8 := by
  refine ⟨hf.os.trans h.os, hf.tape.trans h.tape, hf.output.trans h.output, Nat.le_trans h.size hf.size, fun k h1 h2 h3 h4 h5 => ?_⟩
  refine (hf.blk k (Nat.lt_of_lt_of_le h1 h.size) h4 (fun a ha e => ?_)).trans (h.blk k h1 h2 h3 h4 h5)
  cases ha
  have e : k = g := e
  rcases hg with hg | hg
  · cases at_ with
    | none => exact absurd (hg 0 0) (by simp [Value.ownBlock])
    | some a => have := hg 0 0; simp only [Value.ownBlock, Option.some.injEq] at this; exact h5 a rfl (by omega)
  · omega
set_option maxHeartbeats 4000000 in
set_option maxRecDepth 100000 in
theorem add1_c (he : Env b0 e w) (h : Own B b0 bc cc at_ ct rs s w) (hok : Ok s) {c : Nat} (hc : c < s.qs.length) {pri : Int} (hp : inB pri 0 7 = true) (hm : s.ts.length < 16) {xc xp xr : Nat} (hxB : xr < B) (hxc : IsI xc c w) (hxp : IsI xp pri w) (o : Int) (hxr : IsI xr o w) (hne : xr ≠ xc ∧ xr ≠ xp) :
    Calls Try.prog 68 #[bdV b0 e, .pointer (some ⟨xc, 0, none⟩), .pointer (some ⟨xp, 0, none⟩), .pointer (some ⟨xr, 0, none⟩)] w (OpRes B xr b0 bc at_ (addM s pri c) (IsI xr s.ts.length) w) := by
  obtain ⟨x0, _, xl⟩ := cell0 hxc
  obtain ⟨z0, _, zl⟩ := cell0 hxp
  have xrl : xr < w.heap.size := (Array.getElem?_eq_some_iff.1 hxr).1
  have HXC := Lib.hid hxc
  have HXP := Lib.hid hxp
  have HXR := Lib.hid hxr
  have HE := Lib.hid he
  have HO := Lib.hid h
  have HOK := Lib.hid hok
  have HPr := Lib.hid hp
  clear hxc hxp hxr he h hok hp
  unfold bdV
  have HK := (Kw.start w).box (vs := bdC b0 e) (t := 77)
  go_enter Try.func68, Try.ntmps68
  go_wp2_with fail
  show Calls Try.prog 51 #[bdV b0 e, .int .i64 c] (w.alloc (.cells (bdC b0 e).toArray 77)) _
  generalize w.alloc (.cells (bdC b0 e).toArray 77) = W at *
  have HKK := Lib.hid HK
  clear HK
  refine (processor_y (e := e) (HO.out.below HKK.out.base) hc).mono ?_
  rintro y w1 ⟨rfl, hb1⟩
  have HK1 := Lib.hid (HKK.out.below hb1)
  clear HKK hb1
  obtain ⟨k_0, k_1, k_2, k_3, k_4, k_5, hxl⟩ := board_cells (HK1.out.row 0 rfl)
  have q0 := (HK1.out.base.cell (p := ⟨xp, 0, none⟩) zl).trans z0
  have ql : xp < w1.heap.size := Nat.lt_of_lt_of_le zl HK1.out.base.size
  go_wp2_with fail
  refine wp_quiet_tail 3 (by kernel_rfl) (by kernel_rfl) ?_
  simp only [List.take_succ_cons, List.take_zero, List.drop_succ_cons, List.drop_zero]
  repeat (quiet_step (fail))
  quiet_step ((go_at_call 60; exact reg_call ((isPri_y _ _ HPr.out).mono (by rintro e w' ⟨h1, rfl⟩; exact ⟨h1, Below.refl _ _⟩))))
  refine wpQuiet_nil ?_
  intro _ hw'; obtain ⟨p1, rfl⟩ := hw'
  have HKp := Lib.hid (HK1.out.reg (p := p1))
  clear HK1 k_0 k_1 k_2 k_3 k_4 k_5 q0 ql
  go_wp2_with fail
  refine (demand_y _ _ _).mono ?_
  rintro y w2 ⟨rfl, hb2⟩
  have HK2 := Lib.hid (HKp.out.below hb2)
  clear HKp hb2
  have O2 := HO.out.below HK2.out.base
  obtain ⟨k_0, k_1, k_2, k_3, k_4, k_5, hxl⟩ := board_cells (HK2.out.row 0 rfl)
  obtain ⟨n0, n1, n2, _, _, _, nl⟩ := row3 O2.nxt
  have hmx := (slV_own O2.th).max
  unfold maxLen at hmx
  have hlt : decide (s.ts.length < 16) = true := by simpa using hm
  have hlt2 : decide ((s.ts.length : Int) < 16) = true := decide_eq_true (by omega)
  clear O2
  go_wp2_with fail
  refine wp_quiet_tail 8 (by kernel_rfl) (by kernel_rfl) ?_
  simp only [List.take_succ_cons, List.take_zero, List.drop_succ_cons, List.drop_zero]
  repeat (quiet_step (fail))
  refine wpQuiet_nil ?_
  intro _ hw'; obtain ⟨p2, rfl⟩ := hw'
  have HKp := Lib.hid (HK2.out.reg (p := p2))
  clear HK2 k_0 k_1 k_2 k_3 k_4 k_5 n0 n1 n2 nl
  go_wp2_with fail
  refine (demand_y _ _ _).mono ?_
  rintro y w3 ⟨rfl, hb3⟩
  have HK3 := Lib.hid (HKp.out.below hb3)
  clear HKp hb3 hlt hlt2
  -- the number of the new thread
  have O3 := HO.out.below HK3.out.base
  have XR3 := (HK3.out.base.block _ xrl).trans HXR.out
  obtain ⟨k_0, k_1, k_2, k_3, k_4, k_5, hxl⟩ := board_cells (HK3.out.row 0 rfl)
  obtain ⟨n0, n1, n2, _, _, _, nl⟩ := row3 O3.nxt
  obtain ⟨y0, y1, _⟩ := cell0 XR3
  have hset := heap_setCell_same w3 xr 0 _ 3 (.int .i64 s.ts.length) XR3
  have hother : ∀ (k : Nat), k ≠ xr → (w3.setCell ⟨xr, 0, none⟩ (.int .i64 s.ts.length)).heap[k]? = w3.heap[k]? := fun k hk => Below.heap_setCell _ _ _ _ hk
  have O4 := Lib.hid (O3.setX hxB (.int .i64 s.ts.length))
  have hwb : w.heap.size ≠ xr := by omega
  have B4 := Lib.hid ((hother _ hwb).trans (HK3.out.row 0 rfl))
  have C4 := Lib.hid ((hother _ hne.1.symm).trans ((HK3.out.base.block _ xl).trans HXC.out))
  have P4 := Lib.hid ((hother _ hne.2.symm).trans ((HK3.out.base.block _ zl).trans HXP.out))
  have R4 : Hid (IsI xr s.ts.length (w3.setCell ⟨xr, 0, none⟩ (.int .i64 s.ts.length))) := Lib.hid (by simpa [IsI] using hset)
  have E3 := HE.out.below HK3.out.base
  have E4 : Hid (Env b0 e (w3.setCell ⟨xr, 0, none⟩ (.int .i64 s.ts.length))) := Lib.hid
    ⟨(hother _ (fun e' => by have := E3.sx; rw [e', XR3] at this; simp at this)).trans E3.sx, (hother _ (fun e' => by have := E3.pr; rw [e', XR3] at this; simp at this)).trans E3.pr, (hother _ (fun e' => by have := E3.lv; rw [e', XR3] at this; simp at this)).trans E3.lv,
      (hother _ (fun e' => by have := E3.en; rw [e', XR3] at this; simp at this)).trans E3.en, (hother _ (fun e' => by have := E3.te; rw [e', XR3] at this; simp at this)).trans E3.te⟩
  have F4 : Hid (OpFr xr b0 bc at_ w (w3.setCell ⟨xr, 0, none⟩ (.int .i64 s.ts.length))) := Lib.hid ((Fr.of_below HK3.out.base).op.setX _)
  clear O3 XR3 hset hother HK3 E3
  go_wp2_with fail
  generalize (w3.setCell ⟨xr, 0, none⟩ (.int .i64 s.ts.length)) = w4 at *
  clear k_0 k_1 k_2 k_3 k_4 k_5 n0 n1 n2 nl y0 y1
  obtain ⟨k_0, k_1, k_2, k_3, k_4, k_5, hxl⟩ := board_cells B4.out
  obtain ⟨n0, n1, n2, n3, n4, n5, nl⟩ := row3 O4.out.nxt
  obtain ⟨c0, _, cl⟩ := cell0 C4.out
  obtain ⟨q0, _, ql⟩ := cell0 P4.out
  refine wp_region_any (by kernel_rfl) (wpAny_of_held (S := AddS w.heap.size b0 e xp xc pri c) _ _ _ _ ?_)
  change wpAnyH _ _ _ _ _ _ _ _ (World.drew _)
  obtain ⟨w5, hw5⟩ : ∃ w5, w4.drew = w5 := ⟨_, rfl⟩
  have hbp : Below w4.heap.size w4 w5 := by rw [← hw5]; exact (Below.refl _ _).drew
  rw [hw5]
  clear k_0 k_1 k_2 k_3 k_4 k_5 n0 n1 n2 n3 n4 n5 nl c0 cl q0 ql hxl hw5
  have O5 := Lib.hid (O4.out.below hbp)
  have E5 := Lib.hid (E4.out.below hbp)
  have B5 := Lib.hid ((hbp.block _ (Array.getElem?_eq_some_iff.1 B4.out).1).trans B4.out)
  have R5 := Lib.hid ((hbp.block _ (Array.getElem?_eq_some_iff.1 R4.out).1).trans R4.out)
  have C5 := (hbp.block _ (Array.getElem?_eq_some_iff.1 C4.out).1).trans C4.out
  have P5 := (hbp.block _ (Array.getElem?_eq_some_iff.1 P4.out).1).trans P4.out
  have F5 := Lib.hid (F4.out.trans (Fr.of_below hbp).op)
  have HS5 : AddS w.heap.size b0 e xp xc pri c w5 := ⟨B5.out, P5, C5⟩
  have cb5 : w5.cell? ⟨b0, 1, none⟩ = some (.slice at_ s.ts.length ct) := by obtain ⟨_, n1, _⟩ := row3 O5.out.nxt; exact n1
  have HS6 : AddS w.heap.size b0 e xp xc pri c (w5.alloc (.cells #[.int .i64 pri, .int .i64 c, .int .i64 0] 44)) := HS5.of_eq fun k cur t hk _ => (Below.heap_alloc _ _ _ (Array.getElem?_eq_some_iff.1 hk).1).trans hk
  have cb6 : (w5.alloc (.cells #[.int .i64 pri, .int .i64 c, .int .i64 0] 44)).cell? ⟨b0, 1, none⟩ = some (.slice at_ s.ts.length ct) := by obtain ⟨_, n1, _⟩ := row3 ((Below.heap_alloc w5 (.cells #[.int .i64 pri, .int .i64 c, .int .i64 0] 44) _ (Array.getElem?_eq_some_iff.1 O5.out.nxt).1).trans O5.out.nxt); exact n1
  clear hbp O4 E4 B4 R4 F4 C4 P4 HXC HXP HXR HE HO P5 C5
  obtain ⟨i0, hi, hz0, hz1, hz2⟩ := info_parts Try.info44
  have HI0 := Lib.hid hi
  have Hz0 := Lib.hid hz0
  have hBw := O5.out.bw
  have HNEW := Lib.hid (World.news_of_block (heap_alloc_new w5 (.cells #[.int .i64 pri, .int .i64 c, .int .i64 0] 44)))
  have HTH := Lib.hid (O5.out.th.alloc (.cells #[.int .i64 pri, .int .i64 c, .int .i64 0] 44))
  clear hi hz0
  refine wpAnyH_take (i := 0) (oi := _) (v := .pointer (some ⟨w.heap.size, 0, none⟩)) rfl (by kernel_rfl) (by kernel_rfl) (by kernel_rfl) (fun _ _ _ h => h) (Or.inl ⟨by rfl, ?_⟩) HS5 ?_
  · intro W' hW'
    go_simp
  try simp only [Act.put, List.setIfInBounds_toArray, List.set_cons_zero, List.set_cons_succ]
  refine wpAnyH_take (i := 2) (oi := _) (v := .pointer (some ⟨w.heap.size, 0, none⟩)) rfl (by kernel_rfl) (by kernel_rfl) (by kernel_rfl) (fun _ _ _ h => h) (Or.inl ⟨by rfl, ?_⟩) HS5 ?_
  · intro W' hW'
    go_simp
  try simp only [Act.put, List.setIfInBounds_toArray, List.set_cons_zero, List.set_cons_succ]
  refine wpAnyH_take (i := 1) (oi := _) (v := .pointer (some ⟨b0, 0, none⟩)) rfl (by kernel_rfl) (by kernel_rfl) (by kernel_rfl) (fun _ _ _ h => h) (Or.inl ⟨by rfl, ?_⟩) HS5 ?_
  · intro W' hW'
    have h := hW'.cells.1; go_simp
  try simp only [Act.put, List.setIfInBounds_toArray, List.set_cons_zero, List.set_cons_succ]
  refine wpAnyH_take (i := 3) (oi := _) (v := .pointer (some ⟨b0, 0, none⟩)) rfl (by kernel_rfl) (by kernel_rfl) (by kernel_rfl) (fun _ _ _ h => h) (Or.inl ⟨by rfl, ?_⟩) HS5 ?_
  · intro W' hW'
    have h := hW'.cells.1; go_simp
  try simp only [Act.put, List.setIfInBounds_toArray, List.set_cons_zero, List.set_cons_succ]
  refine wpAnyH_take (i := 4) (oi := _) (v := .pointer (some ⟨b0, 0, none⟩)) rfl (by kernel_rfl) (by kernel_rfl) (by kernel_rfl) (fun _ _ _ h => h) (Or.inl ⟨by rfl, ?_⟩) HS5 ?_
  · intro W' hW'
    go_simp
  try simp only [Act.put, List.setIfInBounds_toArray, List.set_cons_zero, List.set_cons_succ]
  refine wpAnyH_take (i := 5) (oi := _) (v := .pointer (some ⟨b0, 1, none⟩)) rfl (by kernel_rfl) (by kernel_rfl) (by kernel_rfl) (fun _ _ _ h => h) (Or.inl ⟨by rfl, ?_⟩) HS5 ?_
  · intro W' hW'
    go_simp
  try simp only [Act.put, List.setIfInBounds_toArray, List.set_cons_zero, List.set_cons_succ]
  refine wpAnyH_take (i := 7) (oi := _) (v := .int .i64 pri) rfl (by kernel_rfl) (by kernel_rfl) (by kernel_rfl) (fun _ _ _ h => h) (Or.inl ⟨by rfl, ?_⟩) HS5 ?_
  · intro W' hW'
    have h := hW'.cells.2.1; go_simp
  try simp only [Act.put, List.setIfInBounds_toArray, List.set_cons_zero, List.set_cons_succ]
  refine wpAnyH_take (i := 8) (oi := _) (v := .int .i64 c) rfl (by kernel_rfl) (by kernel_rfl) (by kernel_rfl) (fun _ _ _ h => h) (Or.inl ⟨by rfl, ?_⟩) HS5 ?_
  · intro W' hW'
    have h := hW'.cells.2.2; go_simp
  try simp only [Act.put, List.setIfInBounds_toArray, List.set_cons_zero, List.set_cons_succ]
  refine wpAnyH_take (i := 9) (oi := _) (v := .agg #[.int .i64 pri, .int .i64 c, .int .i64 0]) rfl (by kernel_rfl) (by kernel_rfl) (by kernel_rfl) (fun _ _ _ h => h) (Or.inl ⟨by rfl, ?_⟩) HS5 ?_
  · intro W' hW'
    go_simp
  try simp only [Act.put, List.setIfInBounds_toArray, List.set_cons_zero, List.set_cons_succ]
  refine wpAnyH_ready (rs := [6, 10]) (by kernel_rfl) (by simp) ?_
  refine AllReadyH.cons (o := _) rfl (fun K hK => ?_) (AllReadyH.cons (o := _) rfl (fun K hK => ?_) AllReadyH.nil)
  · go_simp
    refine hK.out _ _ HS5 (fun hHeld => ?_)
    clear hK K hHeld
    try simp only [Act.put, List.setIfInBounds_toArray, List.set_cons_zero, List.set_cons_succ]
    refine wpAnyH_ready (rs := [10]) (by kernel_rfl) (by simp) ?_
    refine AllReadyH.cons (o := _) rfl (fun K hK => ?_) AllReadyH.nil
    go_simp
    refine hK.out _ _ HS6 (fun hHeld => ?_)
    clear hK K hHeld
    try simp only [Act.put, List.setIfInBounds_toArray, List.set_cons_zero, List.set_cons_succ]
    refine wpAnyH_ready (rs := [11]) (by kernel_rfl) (by simp) ?_
    refine AllReadyH.cons (o := _) rfl (fun K hK => ?_) AllReadyH.nil
    refine step_append_lies _ rfl (.tmp 33) (.tmp 37) 23 rfl B 44 i0 (.agg #[.int .i64 0, .int .i64 0, .int .i64 0]) 3 24 Try.underlying23 HI0.out Hz0.out hz1 hz2 rfl (by decide) (.slice at_ s.ts.length ct) s.ts.length (tV s.ts) rfl HTH.out ⟨w5.heap.size, 0, none⟩ 1 1 [.int .i64 pri, .int .i64 c, .int .i64 0] rfl rfl (fun j u hu => HNEW.out j u hu) (by intro u hu; simp at hu; rcases hu with rfl | rfl | rfl <;> rfl) (by omega) (by unfold maxLen; omega) (by omega) (by simp; omega) _ rfl ?_
    intro g cap w6 hown hgrow hat hlt6
    have HS7 : AddS w.heap.size b0 e xp xc pri c w6 := HS5.of_eq fun k cur t hk ht => grown_far O5.out hgrow hk (by rcases ht with rfl | rfl <;> decide)
    have HS8 : AddS w.heap.size b0 e xp xc pri c (w6.setCell ⟨b0, 1, none⟩ (.slice (some ⟨g, 0, none⟩) (s.ts.length + 1) cap)) := HS5.of_eq fun k cur t hk ht => grown_kept (g := g) O5.out hgrow hk (by rcases ht with rfl | rfl <;> decide) (fun e => by rw [e, O5.out.nxt] at hk; simp at hk; rcases ht with rfl | rfl <;> simp at hk)
    obtain ⟨a1, a2, a3, a4, A5, A6, A7⟩ := add_mid (t := ⟨pri, c, 0⟩) O5.out E5.out B5.out R5.out hgrow hown
    have A8 := Lib.hid (add_far (t := ⟨pri, c, 0⟩) (x := xr) O5.out F5.out hgrow A7.out)
    have HAT := Lib.hid hat
    have HGS := Lib.hid hgrow.size
    clear hown hgrow hat
    refine hK.out _ _ HS7 (fun hHeld => ?_)
    clear hK K hHeld
    try simp only [Act.put, List.setIfInBounds_toArray, List.set_cons_zero, List.set_cons_succ]
    refine wpAnyH_take (i := 12) (oi := _) (v := .pointer (some ⟨b0, 0, none⟩)) rfl (by kernel_rfl) (by kernel_rfl) (by kernel_rfl) (fun _ _ _ h => h) (Or.inl ⟨by rfl, ?_⟩) HS7 ?_
    · intro W' hW'
      go_simp
    try simp only [Act.put, List.setIfInBounds_toArray, List.set_cons_zero, List.set_cons_succ]
    refine wpAnyH_take (i := 13) (oi := _) (v := .pointer (some ⟨b0, 1, none⟩)) rfl (by kernel_rfl) (by kernel_rfl) (by kernel_rfl) (fun _ _ _ h => h) (Or.inl ⟨by rfl, ?_⟩) HS7 ?_
    · intro W' hW'
      go_simp
    try simp only [Act.put, List.setIfInBounds_toArray, List.set_cons_zero, List.set_cons_succ]
    refine wpAnyH_ready (rs := [14]) (by kernel_rfl) (by simp) ?_
    refine AllReadyH.cons (o := _) rfl (fun K hK => ?_) AllReadyH.nil
    go_simp
    refine hK.out _ _ HS8 (fun hHeld => ?_)
    clear hK K hHeld
    refine wpAnyH_done (by kernel_rfl) ?_ _
    clear a1 a2 HS5 HS6 HS7 HS8 cb5 cb6
    obtain ⟨k_0, k_1, k_2, k_3, k_4, k_5, hxl⟩ := board_cells a3
    obtain ⟨y0, _, yl⟩ := cell0 a4
    generalize w6.setCell ⟨b0, 1, none⟩ (.slice (some ⟨g, 0, none⟩) (s.ts.length + 1) cap) = w7 at *
    go_wp2_with fail
    clear k_0 k_1 k_2 k_3 k_4 k_5 hxl y0 yl
    have HG : Hid ((∀ n m, (Value.slice at_ n m).ownBlock = some g) ∨ w.heap.size ≤ g) := Lib.hid (by
      rcases HAT.out with h | h
      · left; intro n m; cases at_ with
        | none => simp [Value.ownBlock] at h
        | some a => simpa [Value.ownBlock] using h
      · right; have := F5.out.size; simp at h; omega)
    refine (add_end (pri := pri) HOK.out hc A5.out A6.out).mono ?_
    rintro y w8 ⟨rfl, ⟨rs2, hO2⟩, hF2⟩
    have HR := Lib.hid (A6.out.kept hF2 a4 (by decide))
    have HO2 := Lib.hid hO2
    have HF2 := Lib.hid (add_fr A8.out hF2 HG.out)
    clear hO2 hF2
    go_wp2
    refine bodyPost_end (results_none rfl _ _ _) rfl ?_
    exact ⟨rfl, ⟨bc, cc, _, cap, rs2, HO2.out⟩, HF2.out, HR.out⟩
  · go_simp
    refine hK.out _ _ HS6 (fun hHeld => ?_)
    clear hK K hHeld
    try simp only [Act.put, List.setIfInBounds_toArray, List.set_cons_zero, List.set_cons_succ]
    refine wpAnyH_ready (rs := [6]) (by kernel_rfl) (by simp) ?_
    refine AllReadyH.cons (o := _) rfl (fun K hK => ?_) AllReadyH.nil
    go_simp
    refine hK.out _ _ HS6 (fun hHeld => ?_)
    clear hK K hHeld
    try simp only [Act.put, List.setIfInBounds_toArray, List.set_cons_zero, List.set_cons_succ]
    refine wpAnyH_ready (rs := [11]) (by kernel_rfl) (by simp) ?_
    refine AllReadyH.cons (o := _) rfl (fun K hK => ?_) AllReadyH.nil
    refine step_append_lies _ rfl (.tmp 33) (.tmp 37) 23 rfl B 44 i0 (.agg #[.int .i64 0, .int .i64 0, .int .i64 0]) 3 24 Try.underlying23 HI0.out Hz0.out hz1 hz2 rfl (by decide) (.slice at_ s.ts.length ct) s.ts.length (tV s.ts) rfl HTH.out ⟨w5.heap.size, 0, none⟩ 1 1 [.int .i64 pri, .int .i64 c, .int .i64 0] rfl rfl (fun j u hu => HNEW.out j u hu) (by intro u hu; simp at hu; rcases hu with rfl | rfl | rfl <;> rfl) (by omega) (by unfold maxLen; omega) (by omega) (by simp; omega) _ rfl ?_
    intro g cap w6 hown hgrow hat hlt6
    have HS7 : AddS w.heap.size b0 e xp xc pri c w6 := HS5.of_eq fun k cur t hk ht => grown_far O5.out hgrow hk (by rcases ht with rfl | rfl <;> decide)
    have HS8 : AddS w.heap.size b0 e xp xc pri c (w6.setCell ⟨b0, 1, none⟩ (.slice (some ⟨g, 0, none⟩) (s.ts.length + 1) cap)) := HS5.of_eq fun k cur t hk ht => grown_kept (g := g) O5.out hgrow hk (by rcases ht with rfl | rfl <;> decide) (fun e => by rw [e, O5.out.nxt] at hk; simp at hk; rcases ht with rfl | rfl <;> simp at hk)
    obtain ⟨a1, a2, a3, a4, A5, A6, A7⟩ := add_mid (t := ⟨pri, c, 0⟩) O5.out E5.out B5.out R5.out hgrow hown
    have A8 := Lib.hid (add_far (t := ⟨pri, c, 0⟩) (x := xr) O5.out F5.out hgrow A7.out)
    have HAT := Lib.hid hat
    have HGS := Lib.hid hgrow.size
    clear hown hgrow hat
    refine hK.out _ _ HS7 (fun hHeld => ?_)
    clear hK K hHeld
    try simp only [Act.put, List.setIfInBounds_toArray, List.set_cons_zero, List.set_cons_succ]
    refine wpAnyH_take (i := 12) (oi := _) (v := .pointer (some ⟨b0, 0, none⟩)) rfl (by kernel_rfl) (by kernel_rfl) (by kernel_rfl) (fun _ _ _ h => h) (Or.inl ⟨by rfl, ?_⟩) HS7 ?_
    · intro W' hW'
      go_simp
    try simp only [Act.put, List.setIfInBounds_toArray, List.set_cons_zero, List.set_cons_succ]
    refine wpAnyH_take (i := 13) (oi := _) (v := .pointer (some ⟨b0, 1, none⟩)) rfl (by kernel_rfl) (by kernel_rfl) (by kernel_rfl) (fun _ _ _ h => h) (Or.inl ⟨by rfl, ?_⟩) HS7 ?_
    · intro W' hW'
      go_simp
    try simp only [Act.put, List.setIfInBounds_toArray, List.set_cons_zero, List.set_cons_succ]
    refine wpAnyH_ready (rs := [14]) (by kernel_rfl) (by simp) ?_
    refine AllReadyH.cons (o := _) rfl (fun K hK => ?_) AllReadyH.nil
    go_simp
    refine hK.out _ _ HS8 (fun hHeld => ?_)
    clear hK K hHeld
    refine wpAnyH_done (by kernel_rfl) ?_ _
    clear a1 a2 HS5 HS6 HS7 HS8 cb5 cb6
    obtain ⟨k_0, k_1, k_2, k_3, k_4, k_5, hxl⟩ := board_cells a3
    obtain ⟨y0, _, yl⟩ := cell0 a4
    generalize w6.setCell ⟨b0, 1, none⟩ (.slice (some ⟨g, 0, none⟩) (s.ts.length + 1) cap) = w7 at *
    go_wp2_with fail
    clear k_0 k_1 k_2 k_3 k_4 k_5 hxl y0 yl
    have HG : Hid ((∀ n m, (Value.slice at_ n m).ownBlock = some g) ∨ w.heap.size ≤ g) := Lib.hid (by
      rcases HAT.out with h | h
      · left; intro n m; cases at_ with
        | none => simp [Value.ownBlock] at h
        | some a => simpa [Value.ownBlock] using h
      · right; have := F5.out.size; simp at h; omega)
    refine (add_end (pri := pri) HOK.out hc A5.out A6.out).mono ?_
    rintro y w8 ⟨rfl, ⟨rs2, hO2⟩, hF2⟩
    have HR := Lib.hid (A6.out.kept hF2 a4 (by decide))
    have HO2 := Lib.hid hO2
    have HF2 := Lib.hid (add_fr A8.out hF2 HG.out)
    clear hO2 hF2
    go_wp2
    refine bodyPost_end (results_none rfl _ _ _) rfl ?_
    exact ⟨rfl, ⟨bc, cc, _, cap, rs2, HO2.out⟩, HF2.out, HR.out⟩
end
end Go.Proofs.Ytggikbcgijmhbaa
