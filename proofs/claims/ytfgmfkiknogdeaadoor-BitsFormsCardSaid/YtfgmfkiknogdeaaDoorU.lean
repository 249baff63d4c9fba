/- WHAT IS PROVED: the laws' own head 'sane' answers true. CONDITIONS: the package variable 'plain' holds the signed type of 4 bytes. -/
import Derived.Test.YtfgmfkiknogdeaaDoorS
import Derived.Test.YtfgmfkiknogdeaaDoorV
namespace Go.Proofs.YtfgmfkiknogdeaaDoor
open Go Go.RowKit Go.QrBits
attribute [local go_sem] reg_cell reg_frozen reg_setCell reg_lt reg_lt_add reg_drew reg_of_drew quietR yieldsR

/-- A block that holds a type. -/
def At (w : World) (b : Nat) (s : Int) (g : Bool) : Prop := w.cell? ⟨b, 0, none⟩ = some (.int .i64 s) ∧ w.cell? ⟨b, 1, none⟩ = some (.bool g) ∧ b < w.heap.size
theorem At.below {w w' : World} {b : Nat} {s : Int} {g : Bool} (h : At w b s g) (hb : Below w.heap.size w w') : At w' b s g :=
  ⟨by rw [below_cell hb b 0 h.2.2]; exact h.1, by rw [below_cell hb b 1 h.2.2]; exact h.2.1, Nat.lt_of_lt_of_le h.2.2 hb.size⟩
theorem At.next {w w' : World} {b : Nat} {s : Int} {g : Bool} {o : Obj} (h : At w b s g) (hq : Below (w.alloc o).heap.size (w.alloc o) w') : At w' b s g := h.below (Below.tail (b_alloc (Below.refl _ _)) hq)
theorem At.alloc {w : World} {b : Nat} {s : Int} {g : Bool} {o : Obj} (h : At w b s g) : At (w.alloc o) b s g := h.below (b_alloc (Below.refl _ _))
theorem At.mk {w : World} {s : Int} {g : Bool} {t : TypeId} : At (w.alloc (.cells #[.int .i64 s, .bool g] t)) w.heap.size s g := ⟨by simp, by simp, by simp⟩
theorem At.fresh {w w' : World} {s : Int} {g : Bool} {t : TypeId} (hq : Below (w.alloc (.cells #[.int .i64 s, .bool g] t)).heap.size (w.alloc (.cells #[.int .i64 s, .bool g] t)) w') : At w' w.heap.size s g := At.mk.below hq
theorem PlainAt.next {w w' : World} {o : Obj} (h : PlainAt w) (hq : Below (w.alloc o).heap.size (w.alloc o) w') : PlainAt w' := h.below (Below.tail (b_alloc (Below.refl _ _)) hq)
theorem PlainAt.alloc {w : World} {o : Obj} (h : PlainAt w) : PlainAt (w.alloc o) := h.below (b_alloc (Below.refl _ _))
theorem Below.next {w0 w w' : World} {o : Obj} (h : Below w0.heap.size w0 w) (hq : Below (w.alloc o).heap.size (w.alloc o) w') : Below w0.heap.size w0 w' := Below.tail (b_alloc h) hq

set_option maxHeartbeats 4000000 in
set_option maxRecDepth 100000 in
theorem sane_c (w : World) (hp : PlainAt w) : Calls Tryd.prog 13 #[] w fun e w' => e = .returned (.bool true) ∧ Below w.heap.size w w' := by
  have HB0 : Hid (Below w.heap.size w w) := Below.refl _ _
  have HP0 := hp
  go_enter Tryd.func13, Tryd.ntmps13
  go_wp2_with fail
  refine (typ_c _ _ _).mono ?_
  rintro e w1 ⟨rfl, hq⟩
  have HB1 : Hid (Below w.heap.size w w1) := Below.tail HB0.out hq
  have HP1 := HP0.below hq
  clear hq HB0 HP0
  go_wp2_with fail
  refine (typ_c _ _ _).mono ?_
  rintro e w2 ⟨rfl, hq⟩
  have HB2 : Hid (Below w.heap.size w w2) := Below.next HB1.out hq
  have HP2 := HP1.next hq
  have H1' := At.fresh (s := 1) (g := true) hq
  clear hq HB1 HP1
  have H1 := H1'; clear H1'
  go_wp2_with fail
  refine (typ_c _ _ _).mono ?_
  rintro e w3 ⟨rfl, hq⟩
  have HB3 : Hid (Below w.heap.size w w3) := Below.next HB2.out hq
  have HP3 := HP2.next hq
  have H1' := H1.next hq
  have H2' := At.fresh (s := 1) (g := false) hq
  clear hq HB2 HP2
  clear H1
  have H1 := H1'; clear H1'
  have H2 := H2'; clear H2'
  go_wp2_with fail
  refine (typ_c _ _ _).mono ?_
  rintro e w4 ⟨rfl, hq⟩
  have HB4 : Hid (Below w.heap.size w w4) := Below.next HB3.out hq
  have HP4 := HP3.next hq
  have H1' := H1.next hq
  have H2' := H2.next hq
  have H3' := At.fresh (s := 4) (g := true) hq
  clear hq HB3 HP3
  clear H1 H2
  have H1 := H1'; clear H1'
  have H2 := H2'; clear H2'
  have H3 := H3'; clear H3'
  go_wp2_with fail
  refine (typ_c _ _ _).mono ?_
  rintro e w5 ⟨rfl, hq⟩
  have HB5 : Hid (Below w.heap.size w w5) := Below.next HB4.out hq
  have HP5 := HP4.next hq
  have H1' := H1.next hq
  have H2' := H2.next hq
  have H3' := H3.next hq
  have H4' := At.fresh (s := 4) (g := false) hq
  clear hq HB4 HP4
  clear H1 H2 H3
  have H1 := H1'; clear H1'
  have H2 := H2'; clear H2'
  have H3 := H3'; clear H3'
  have H4 := H4'; clear H4'
  have H1r := H1; obtain ⟨H1a, H1b, H1c⟩ := H1r
  go_wp2_with fail
  refine (sW _).mono ?_
  rintro e w6 ⟨rfl, hq⟩
  clear H1a H1b H1c
  have HB6 : Hid (Below w.heap.size w w6) := Below.next HB5.out hq
  have HP6 := HP5.next hq
  have H1' := H1.next hq
  have H2' := H2.next hq
  have H3' := H3.next hq
  have H4' := H4.next hq
  have H5' := At.fresh (s := 8) (g := false) hq
  clear hq HB5 HP5
  clear H1 H2 H3 H4
  have H1 := H1'; clear H1'
  have H2 := H2'; clear H2'
  have H3 := H3'; clear H3'
  have H4 := H4'; clear H4'
  have H5 := H5'; clear H5'
  have H4r := H4; obtain ⟨H4a, H4b, H4c⟩ := H4r
  go_wp2_with fail
  refine wp_own23 (n := 8) (ia := 6) (is := 7) (d := 8) (x := 42) (s := 8) (g := true) (N := 157) rfl (by decide) (by decide) (by kernel_rfl) rfl rfl rfl rfl rfl rfl rfl rfl ?_
  simp only [List.take_succ_cons, List.take_zero, List.drop_succ_cons, List.drop_zero]
  repeat (first
    | (refine wpX_out (by decide) ?_)
    | (refine wpX_step (by decide) (fun K hK => ?_); go_simp; first | (refine hK _ ?_; clear hK K) | (apply Exists.intro; refine ⟨fun p => ?_, hK _ ?_⟩; (first | (go_at_call 43; exact typ_c _ _ _) | (go_at_call 18; exact sU _ (HP6.below (below_reg _ _)))); clear hK K)))
  refine wpX_nil ⟨rfl, fun p1 p2 => ?_⟩
  simp only [Act.put, ptrOf, List.setIfInBounds_toArray, List.set_cons_zero, List.set_cons_succ]
  have hq1 := below_reg w6 p1
  have hq2 := below_reg ((reg w6 p1).alloc (.cells #[.int .i64 8, .bool true] 23)) p2
  have HB7 : Hid (Below w.heap.size w _) := Below.next (Below.tail HB6.out hq1) hq2
  have HP7 := (HP6.below hq1).next hq2
  have H8 := At.fresh (s := 8) (g := true) hq2
  have H1' := (H1.below hq1).next hq2; have H2' := (H2.below hq1).next hq2; have H3' := (H3.below hq1).next hq2; have H4' := (H4.below hq1).next hq2; have H5' := (H5.below hq1).next hq2
  clear hq1 hq2 HB6 HP6 H1 H2 H3 H4 H5 H4a H4b H4c
  generalize reg ((reg w6 p1).alloc (.cells #[.int .i64 8, .bool true] 23)) p2 = w7 at *
  generalize (reg w6 p1).heap.size = b8 at *
  have H1 := H1'; clear H1'; have H2 := H2'; clear H2'; have H3 := H3'; clear H3'; have H4 := H4'; clear H4'; have H5 := H5'; clear H5'
  have H3r := H3; obtain ⟨H3a, H3b, H3c⟩ := H3r
  have H4r := H4; obtain ⟨H4a, H4b, H4c⟩ := H4r
  go_wp2_with fail
  refine (sLt _ HP7).mono ?_
  rintro e w8 ⟨rfl, hq⟩
  clear H3a H3b H3c H4a H4b H4c
  have HB8 : Hid (Below w.heap.size w w8) := Below.tail HB7.out hq
  have HP8 := HP7.below hq
  have H1' := H1.below hq
  have H2' := H2.below hq
  have H3' := H3.below hq
  have H4' := H4.below hq
  have H5' := H5.below hq
  have H8' := H8.below hq
  clear hq HB7 HP7
  clear H1 H2 H3 H4 H5 H8
  have H1 := H1'; clear H1'
  have H2 := H2'; clear H2'
  have H3 := H3'; clear H3'
  have H4 := H4'; clear H4'
  have H5 := H5'; clear H5'
  have H8 := H8'; clear H8'
  have H2r := H2; obtain ⟨H2a, H2b, H2c⟩ := H2r
  go_wp2_with fail
  refine (sAdd _ HP8.alloc).mono ?_
  rintro e w9 ⟨rfl, hq⟩
  clear H2a H2b H2c
  have HB9 : Hid (Below w.heap.size w w9) := Below.next HB8.out hq
  have HP9 := HP8.next hq
  have H1' := H1.next hq
  have H2' := H2.next hq
  have H3' := H3.next hq
  have H4' := H4.next hq
  have H5' := H5.next hq
  have H8' := H8.next hq
  have H10' := At.fresh (s := 4) (g := true) hq
  clear hq HB8 HP8
  clear H1 H2 H3 H4 H5 H8
  have H1 := H1'; clear H1'
  have H2 := H2'; clear H2'
  have H3 := H3'; clear H3'
  have H4 := H4'; clear H4'
  have H5 := H5'; clear H5'
  have H8 := H8'; clear H8'
  have H10 := H10'; clear H10'
  have H3r := H3; obtain ⟨H3a, H3b, H3c⟩ := H3r
  go_wp2_with fail
  refine (sDiv _ HP9.alloc).mono ?_
  rintro e w10 ⟨rfl, hq⟩
  clear H3a H3b H3c
  have HB10 : Hid (Below w.heap.size w w10) := Below.next HB9.out hq
  have HP10 := HP9.next hq
  have H1' := H1.next hq
  have H2' := H2.next hq
  have H3' := H3.next hq
  have H4' := H4.next hq
  have H5' := H5.next hq
  have H8' := H8.next hq
  have H10' := H10.next hq
  clear hq HB9 HP9
  clear H1 H2 H3 H4 H5 H8 H10
  have H1 := H1'; clear H1'
  have H2 := H2'; clear H2'
  have H3 := H3'; clear H3'
  have H4 := H4'; clear H4'
  have H5 := H5'; clear H5'
  have H8 := H8'; clear H8'
  have H10 := H10'; clear H10'
  have H3r := H3; obtain ⟨H3a, H3b, H3c⟩ := H3r
  go_wp2_with fail
  refine (sShr _ HP10.alloc).mono ?_
  rintro e w11 ⟨rfl, hq⟩
  clear H3a H3b H3c
  have HB11 : Hid (Below w.heap.size w w11) := Below.next HB10.out hq
  have HP11 := HP10.next hq
  have H1' := H1.next hq
  have H2' := H2.next hq
  have H3' := H3.next hq
  have H4' := H4.next hq
  have H5' := H5.next hq
  have H8' := H8.next hq
  have H10' := H10.next hq
  clear hq HB10 HP10
  clear H1 H2 H3 H4 H5 H8 H10
  have H1 := H1'; clear H1'
  have H2 := H2'; clear H2'
  have H3 := H3'; clear H3'
  have H4 := H4'; clear H4'
  have H5 := H5'; clear H5'
  have H8 := H8'; clear H8'
  have H10 := H10'; clear H10'
  have H5r := H5; obtain ⟨H5a, H5b, H5c⟩ := H5r
  go_wp2_with fail
  refine (sText _).mono ?_
  rintro e w12 ⟨rfl, hq⟩
  clear H5a H5b H5c
  have HB12 : Hid (Below w.heap.size w w12) := Below.next HB11.out hq
  have HP12 := HP11.next hq
  have H1' := H1.next hq
  have H2' := H2.next hq
  have H3' := H3.next hq
  have H4' := H4.next hq
  have H5' := H5.next hq
  have H8' := H8.next hq
  have H10' := H10.next hq
  clear hq HB11 HP11
  clear H1 H2 H3 H4 H5 H8 H10
  have H1 := H1'; clear H1'
  have H2 := H2'; clear H2'
  have H3 := H3'; clear H3'
  have H4 := H4'; clear H4'
  have H5 := H5'; clear H5'
  have H8 := H8'; clear H8'
  have H10 := H10'; clear H10'
  have H5r := H5; obtain ⟨H5a, H5b, H5c⟩ := H5r
  go_wp2_with fail
  refine (sHex _).mono ?_
  rintro e w13 ⟨rfl, hq⟩
  clear H5a H5b H5c
  have HB13 : Hid (Below w.heap.size w w13) := Below.tail HB12.out hq
  have HP13 := HP12.below hq
  have H1' := H1.below hq
  have H2' := H2.below hq
  have H3' := H3.below hq
  have H4' := H4.below hq
  have H5' := H5.below hq
  have H8' := H8.below hq
  have H10' := H10.below hq
  clear hq HB12 HP12
  clear H1 H2 H3 H4 H5 H8 H10
  have H1 := H1'; clear H1'
  have H2 := H2'; clear H2'
  have H3 := H3'; clear H3'
  have H4 := H4'; clear H4'
  have H5 := H5'; clear H5'
  have H8 := H8'; clear H8'
  have H10 := H10'; clear H10'
  have H1r := H1; obtain ⟨H1a, H1b, H1c⟩ := H1r
  go_wp2_with fail
  refine (s128_c _).mono ?_
  rintro e w14 ⟨rfl, hq⟩
  clear H1a H1b H1c
  have HB14 : Hid (Below w.heap.size w w14) := Below.tail HB13.out hq
  have HP14 := HP13.below hq
  have H1' := H1.below hq
  have H2' := H2.below hq
  have H3' := H3.below hq
  have H4' := H4.below hq
  have H5' := H5.below hq
  have H8' := H8.below hq
  have H10' := H10.below hq
  clear hq HB13 HP13
  clear H1 H2 H3 H4 H5 H8 H10
  have H1 := H1'; clear H1'
  have H2 := H2'; clear H2'
  have H3 := H3'; clear H3'
  have H4 := H4'; clear H4'
  have H5 := H5'; clear H5'
  have H8 := H8'; clear H8'
  have H10 := H10'; clear H10'
  have H8r := H8; obtain ⟨H8a, H8b, H8c⟩ := H8r
  have H10r := H10; obtain ⟨H10a, H10b, H10c⟩ := H10r
  have H3r := H3; obtain ⟨H3a, H3b, H3c⟩ := H3r
  go_wp2_with fail
  with_reducible refine wp_quiet (by kernel_rfl) (by kernel_rfl) ?_
  repeat (quiet_step ((go_at_call 43; exact reg_call (typ_c _ _ _))))
  refine wpQuiet_nil ?_
  intro _ hw'; obtain ⟨p, rfl⟩ := hw'
  go_wp2
  go_ret
  exact ⟨rfl, b_reg HB14.out⟩
end Go.Proofs.YtfgmfkiknogdeaaDoor
