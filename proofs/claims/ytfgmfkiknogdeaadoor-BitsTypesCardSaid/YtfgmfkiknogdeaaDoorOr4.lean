/- WHAT IS PROVED: the way of taplinelaw01.BitsOrders on which the first comparison answers -1, over what its calls answer. CONDITIONS: the package variables 'plain' and 'promoted' hold what their initialisers lay. -/
import Derived.Test.YtfgmfkiknogdeaaDoorOrA
namespace Go.Proofs.YtfgmfkiknogdeaaDoor
open Go Go.RowKit Go.QrBits
attribute [local go_sem] reg_cell reg_frozen reg_setCell reg_lt reg_lt_add reg_drew reg_of_drew quietR yieldsR

section
variable (s : Int) (g : Bool) (l0 l1 l2 y z low high a b : Int)
set_option maxHeartbeats 4000000 in
set_option maxRecDepth 100000 in
theorem orders_w6 (w : World) (hp : PlainAt w) (hr : PromAt w) (h : vB s = true) (i0 : I64 l0) (i1 : I64 l1) (hX : Gives 30 #[(.agg #[.int .i64 s, .bool g]), .int .i64 l0, .int .i64 l1] (.tuple #[.int .i64 (-1), .int .i64 0])) (hY : Gives 30 #[(.agg #[.int .i64 s, .bool g]), .int .i64 l1, .int .i64 l2] (.tuple #[.int .i64 y, .int .i64 0])) (hZ : Gives 30 #[(.agg #[.int .i64 s, .bool g]), .int .i64 l0, .int .i64 l2] (.tuple #[.int .i64 z, .int .i64 0])) (hK : Gives 30 #[(.agg #[.int .i64 s, .bool g]), .int .i64 l1, .int .i64 l0] (.tuple #[.int .i64 1, .int .i64 0])) (hRg : Gives 14 #[(.agg #[.int .i64 s, .bool g])] (.tuple #[.int .i64 low, .int .i64 high, .int .i64 0])) (hLo : Gives 30 #[(.agg #[.int .i64 s, .bool g]), .int .i64 low, .int .i64 l0] (.tuple #[.int .i64 a, .int .i64 0])) (hHi : Gives 30 #[(.agg #[.int .i64 s, .bool g]), .int .i64 l0, .int .i64 high] (.tuple #[.int .i64 b, .int .i64 0])) (ha : a ≤ 0) (hb : b ≤ 0) (hWl : Gives 41 #[(.agg #[.int .i64 s, .bool g]), .int .i64 low] (.int .i64 low)) (hWh : Gives 41 #[(.agg #[.int .i64 s, .bool g]), .int .i64 high] (.int .i64 high)) (hO0 : Gives 40 #[.int .i64 11, (.agg #[.int .i64 s, .bool g]), .int .i64 l0, .int .i64 l1] (.tuple #[.agg #[.int .i64 4, .bool true], .int .i64 1])) (hO1 : Gives 40 #[.int .i64 12, (.agg #[.int .i64 s, .bool g]), .int .i64 l0, .int .i64 l1] (.tuple #[.agg #[.int .i64 4, .bool true], .int .i64 1])) (hO2 : Gives 40 #[.int .i64 13, (.agg #[.int .i64 s, .bool g]), .int .i64 l0, .int .i64 l1] (.tuple #[.agg #[.int .i64 4, .bool true], .int .i64 0])) (hO3 : Gives 40 #[.int .i64 14, (.agg #[.int .i64 s, .bool g]), .int .i64 l0, .int .i64 l1] (.tuple #[.agg #[.int .i64 4, .bool true], .int .i64 0])) (hO4 : Gives 40 #[.int .i64 15, (.agg #[.int .i64 s, .bool g]), .int .i64 l0, .int .i64 l1] (.tuple #[.agg #[.int .i64 4, .bool true], .int .i64 0])) (hO5 : Gives 40 #[.int .i64 16, (.agg #[.int .i64 s, .bool g]), .int .i64 l0, .int .i64 l1] (.tuple #[.agg #[.int .i64 4, .bool true], .int .i64 1])) (he : (wr s g l0 == wr s g l1) = false) (hy : ¬ y ≤ 0) : Calls Tryd.prog 10 #[.agg #[.int .i64 s, .bool g], .agg #[.int .i64 l0, .int .i64 l1, .int .i64 l2]] w fun e w' => e = .returned (.bool true) ∧ Below w.heap.size w w' := by
  go_enter Tryd.func10, Tryd.ntmps10
  go_wp2_with fail
  refine (sane_c _ (hp.alloc.alloc)).mono ?_
  rintro e w1 ⟨rfl, hq⟩
  have HB1 : Hid (Below w.heap.size w w1) := Below.tail (b_alloc (b_alloc (Below.refl _ w))) hq
  have HP1 := (hp.alloc.alloc).below hq
  have HR1 := (hr.alloc.alloc).below hq
  have HA : At w1 (w.heap.size) s g := At.below (At.box0.alloc) hq
  have HL : At3 w1 (w.heap.size + 1) l0 l1 l2 := At3.below (At3.box1) hq
  clear hq
  have HAr := HA; obtain ⟨HAa, HAb, HAc⟩ := HAr
  go_wp2_with fail
  refine (check_c s g _ h).mono ?_
  rintro e w2 ⟨rfl, hq⟩
  clear HAa HAb HAc
  have HB2 : Hid (Below w.heap.size w w2) := Below.tail HB1.out hq
  have HP2 := HP1.below hq
  have HR2 := HR1.below hq
  have HA' := HA.below hq
  have HL' := HL.below hq
  clear hq HB1 HP1 HR1
  clear HA HL
  have HA := HA'; clear HA'
  have HL := HL'; clear HL'
  have HAr := HA; obtain ⟨HAa, HAb, HAc⟩ := HAr
  have HLr := HL; obtain ⟨HLa, HLb, HLc, HLd⟩ := HLr
  go_wp2_with fail
  refine (hX _ HP2).mono ?_
  rintro e w3 ⟨rfl, hq⟩
  clear HAa HAb HAc HLa HLb HLc HLd
  have HB3 : Hid (Below w.heap.size w w3) := Below.tail HB2.out hq
  have HP3 := HP2.below hq
  have HR3 := HR2.below hq
  have HA' := HA.below hq
  have HL' := HL.below hq
  clear hq HB2 HP2 HR2
  clear HA HL
  have HA := HA'; clear HA'
  have HL := HL'; clear HL'
  have HAr := HA; obtain ⟨HAa, HAb, HAc⟩ := HAr
  have HLr := HL; obtain ⟨HLa, HLb, HLc, HLd⟩ := HLr
  go_wp2_with fail
  refine (hY _ HP3).mono ?_
  rintro e w4 ⟨rfl, hq⟩
  clear HAa HAb HAc HLa HLb HLc HLd
  have HB4 : Hid (Below w.heap.size w w4) := Below.tail HB3.out hq
  have HP4 := HP3.below hq
  have HR4 := HR3.below hq
  have HA' := HA.below hq
  have HL' := HL.below hq
  clear hq HB3 HP3 HR3
  clear HA HL
  have HA := HA'; clear HA'
  have HL := HL'; clear HL'
  have HAr := HA; obtain ⟨HAa, HAb, HAc⟩ := HAr
  have HLr := HL; obtain ⟨HLa, HLb, HLc, HLd⟩ := HLr
  go_wp2_with fail
  refine (hZ _ HP4).mono ?_
  rintro e w5 ⟨rfl, hq⟩
  clear HAa HAb HAc HLa HLb HLc HLd
  have HB5 : Hid (Below w.heap.size w w5) := Below.tail HB4.out hq
  have HP5 := HP4.below hq
  have HR5 := HR4.below hq
  have HA' := HA.below hq
  have HL' := HL.below hq
  clear hq HB4 HP4 HR4
  clear HA HL
  have HA := HA'; clear HA'
  have HL := HL'; clear HL'
  have HAr := HA; obtain ⟨HAa, HAb, HAc⟩ := HAr
  have HLr := HL; obtain ⟨HLa, HLb, HLc, HLd⟩ := HLr
  go_wp2_with fail
  refine (hK _ HP5).mono ?_
  rintro e w6 ⟨rfl, hq⟩
  clear HAa HAb HAc HLa HLb HLc HLd
  have HB6 : Hid (Below w.heap.size w w6) := Below.tail HB5.out hq
  have HP6 := HP5.below hq
  have HR6 := HR5.below hq
  have HA' := HA.below hq
  have HL' := HL.below hq
  clear hq HB5 HP5 HR5
  clear HA HL
  have HA := HA'; clear HA'
  have HL := HL'; clear HL'
  have HAr := HA; obtain ⟨HAa, HAb, HAc⟩ := HAr
  have HLr := HL; obtain ⟨HLa, HLb, HLc, HLd⟩ := HLr
  have hn : IntKind.i64.wrap 1 = 1 := by decide
  have hd : decide (y ≤ 0) = false := decide_eq_false (by omega)
  go_wp2_with fail
  with_reducible refine wp_quiet (by kernel_rfl) (by kernel_rfl) ?_
  repeat (quiet_step ((go_at_call 41; first | exact reg_call (wrapL_c _ _ _ _ h i0) | exact reg_call (wrapL_c _ _ _ _ h i1))))
  refine wpQuiet_nil ?_
  intro _ hw'; obtain ⟨p, rfl⟩ := hw'
  have hq := below_reg w6 p
  generalize reg w6 p = w7 at *
  clear HAa HAb HAc HLa HLb HLc HLd
  have HB7 : Hid (Below w.heap.size w w7) := Below.tail HB6.out hq
  have HP7 := HP6.below hq
  have HR7 := HR6.below hq
  have HA' := HA.below hq
  have HL' := HL.below hq
  clear hq HB6 HP6 HR6
  clear HA HL
  have HA := HA'; clear HA'
  have HL := HL'; clear HL'
  go_wp2_with fail
  go_loopw [15] (fun v15 wr => ∃ (k : Nat) (w8 : World), w8 = wr ∧ k ≤ 6 ∧ v15 = .int .i64 k ∧ Hid (Below (w7.alloc (.cells #[.bool true, .bool true, .bool false, .bool false, .bool false, .bool true] 65)).heap.size (w7.alloc (.cells #[.bool true, .bool true, .bool false, .bool false, .bool false, .bool true] 65)) w8)) (fun v15 _ => 6 - (intOf v15).toNat)
  case atStart => exact ⟨0, _, rfl, by omega, rfl, Below.refl _ _⟩
  case round =>
  obtain ⟨k, w8, hw8, hk, hv, hqh⟩ := hrel
  subst hw8; subst hv
  have hq := hqh.out
  have HI := At6.fresh hq
  have HB8 : Hid (Below w.heap.size w w8) := Below.next HB7.out hq
  have HP8 := HP7.next hq
  have HR8 := HR7.next hq
  have HA' := HA.next hq
  have HL' := HL.next hq
  clear hq HB7 HP7 HR7
  clear HA HL
  have HA := HA'; clear HA'
  have HL := HL'; clear HL'
  rcases (by omega : k = 0 ∨ k = 1 ∨ k = 2 ∨ k = 3 ∨ k = 4 ∨ k = 5 ∨ k = 6) with rfl | rfl | rfl | rfl | rfl | rfl | rfl
  · have HAr := HA; obtain ⟨HAa, HAb, HAc⟩ := HAr
    have HLr := HL; obtain ⟨HLa, HLb, HLc, HLd⟩ := HLr
    go_wp2_with fail
    refine (hO0 _ HP8).mono ?_
    rintro e w9 ⟨rfl, hq⟩
    have HS := hq
    clear HAa HAb HAc HLa HLb HLc HLd
    have HB9 : Hid (Below w.heap.size w w9) := Below.tail HB8.out hq
    have HP9 := HP8.below hq
    have HR9 := HR8.below hq
    have HA' := HA.below hq
    have HL' := HL.below hq
    have HI' := HI.below hq
    clear hq HB8 HP8 HR8
    clear HA HL HI
    have HA := HA'; clear HA'
    have HL := HL'; clear HL'
    have HI := HI'; clear HI'
    have HIr := HI; obtain ⟨HIa, HIb, HIc, HId, HIe, HIf, HIg⟩ := HIr
    go_wp2_with fail
    with_reducible refine wp_quiet (by kernel_rfl) (by kernel_rfl) ?_
    repeat (quiet_step ((go_at_call 42; exact reg_call (I4_c _ (HR9.alloc.below (below_reg _ _))))))
    refine wpQuiet_nil ?_
    intro _ hw'; obtain ⟨p, rfl⟩ := hw'
    go_wp2_with fail
    go_roundw
    case rel => exact ⟨1, _, rfl, by omega, by go_num, b_reg (b_alloc (Below.tail hqh.out HS))⟩
    case measure => simp [intOf]
  · have HAr := HA; obtain ⟨HAa, HAb, HAc⟩ := HAr
    have HLr := HL; obtain ⟨HLa, HLb, HLc, HLd⟩ := HLr
    go_wp2_with fail
    refine (hO1 _ HP8).mono ?_
    rintro e w9 ⟨rfl, hq⟩
    have HS := hq
    clear HAa HAb HAc HLa HLb HLc HLd
    have HB9 : Hid (Below w.heap.size w w9) := Below.tail HB8.out hq
    have HP9 := HP8.below hq
    have HR9 := HR8.below hq
    have HA' := HA.below hq
    have HL' := HL.below hq
    have HI' := HI.below hq
    clear hq HB8 HP8 HR8
    clear HA HL HI
    have HA := HA'; clear HA'
    have HL := HL'; clear HL'
    have HI := HI'; clear HI'
    have HIr := HI; obtain ⟨HIa, HIb, HIc, HId, HIe, HIf, HIg⟩ := HIr
    go_wp2_with fail
    with_reducible refine wp_quiet (by kernel_rfl) (by kernel_rfl) ?_
    repeat (quiet_step ((go_at_call 42; exact reg_call (I4_c _ (HR9.alloc.below (below_reg _ _))))))
    refine wpQuiet_nil ?_
    intro _ hw'; obtain ⟨p, rfl⟩ := hw'
    go_wp2_with fail
    go_roundw
    case rel => exact ⟨2, _, rfl, by omega, by go_num, b_reg (b_alloc (Below.tail hqh.out HS))⟩
    case measure => simp [intOf]
  · have HAr := HA; obtain ⟨HAa, HAb, HAc⟩ := HAr
    have HLr := HL; obtain ⟨HLa, HLb, HLc, HLd⟩ := HLr
    go_wp2_with fail
    refine (hO2 _ HP8).mono ?_
    rintro e w9 ⟨rfl, hq⟩
    have HS := hq
    clear HAa HAb HAc HLa HLb HLc HLd
    have HB9 : Hid (Below w.heap.size w w9) := Below.tail HB8.out hq
    have HP9 := HP8.below hq
    have HR9 := HR8.below hq
    have HA' := HA.below hq
    have HL' := HL.below hq
    have HI' := HI.below hq
    clear hq HB8 HP8 HR8
    clear HA HL HI
    have HA := HA'; clear HA'
    have HL := HL'; clear HL'
    have HI := HI'; clear HI'
    have HIr := HI; obtain ⟨HIa, HIb, HIc, HId, HIe, HIf, HIg⟩ := HIr
    go_wp2_with fail
    with_reducible refine wp_quiet (by kernel_rfl) (by kernel_rfl) ?_
    repeat (quiet_step ((go_at_call 42; exact reg_call (I4_c _ (HR9.alloc.below (below_reg _ _))))))
    refine wpQuiet_nil ?_
    intro _ hw'; obtain ⟨p, rfl⟩ := hw'
    go_wp2_with fail
    go_roundw
    case rel => exact ⟨3, _, rfl, by omega, by go_num, b_reg (b_alloc (Below.tail hqh.out HS))⟩
    case measure => simp [intOf]
  · have HAr := HA; obtain ⟨HAa, HAb, HAc⟩ := HAr
    have HLr := HL; obtain ⟨HLa, HLb, HLc, HLd⟩ := HLr
    go_wp2_with fail
    refine (hO3 _ HP8).mono ?_
    rintro e w9 ⟨rfl, hq⟩
    have HS := hq
    clear HAa HAb HAc HLa HLb HLc HLd
    have HB9 : Hid (Below w.heap.size w w9) := Below.tail HB8.out hq
    have HP9 := HP8.below hq
    have HR9 := HR8.below hq
    have HA' := HA.below hq
    have HL' := HL.below hq
    have HI' := HI.below hq
    clear hq HB8 HP8 HR8
    clear HA HL HI
    have HA := HA'; clear HA'
    have HL := HL'; clear HL'
    have HI := HI'; clear HI'
    have HIr := HI; obtain ⟨HIa, HIb, HIc, HId, HIe, HIf, HIg⟩ := HIr
    go_wp2_with fail
    with_reducible refine wp_quiet (by kernel_rfl) (by kernel_rfl) ?_
    repeat (quiet_step ((go_at_call 42; exact reg_call (I4_c _ (HR9.alloc.below (below_reg _ _))))))
    refine wpQuiet_nil ?_
    intro _ hw'; obtain ⟨p, rfl⟩ := hw'
    go_wp2_with fail
    go_roundw
    case rel => exact ⟨4, _, rfl, by omega, by go_num, b_reg (b_alloc (Below.tail hqh.out HS))⟩
    case measure => simp [intOf]
  · have HAr := HA; obtain ⟨HAa, HAb, HAc⟩ := HAr
    have HLr := HL; obtain ⟨HLa, HLb, HLc, HLd⟩ := HLr
    go_wp2_with fail
    refine (hO4 _ HP8).mono ?_
    rintro e w9 ⟨rfl, hq⟩
    have HS := hq
    clear HAa HAb HAc HLa HLb HLc HLd
    have HB9 : Hid (Below w.heap.size w w9) := Below.tail HB8.out hq
    have HP9 := HP8.below hq
    have HR9 := HR8.below hq
    have HA' := HA.below hq
    have HL' := HL.below hq
    have HI' := HI.below hq
    clear hq HB8 HP8 HR8
    clear HA HL HI
    have HA := HA'; clear HA'
    have HL := HL'; clear HL'
    have HI := HI'; clear HI'
    have HIr := HI; obtain ⟨HIa, HIb, HIc, HId, HIe, HIf, HIg⟩ := HIr
    go_wp2_with fail
    with_reducible refine wp_quiet (by kernel_rfl) (by kernel_rfl) ?_
    repeat (quiet_step ((go_at_call 42; exact reg_call (I4_c _ (HR9.alloc.below (below_reg _ _))))))
    refine wpQuiet_nil ?_
    intro _ hw'; obtain ⟨p, rfl⟩ := hw'
    go_wp2_with fail
    go_roundw
    case rel => exact ⟨5, _, rfl, by omega, by go_num, b_reg (b_alloc (Below.tail hqh.out HS))⟩
    case measure => simp [intOf]
  · have HAr := HA; obtain ⟨HAa, HAb, HAc⟩ := HAr
    have HLr := HL; obtain ⟨HLa, HLb, HLc, HLd⟩ := HLr
    go_wp2_with fail
    refine (hO5 _ HP8).mono ?_
    rintro e w9 ⟨rfl, hq⟩
    have HS := hq
    clear HAa HAb HAc HLa HLb HLc HLd
    have HB9 : Hid (Below w.heap.size w w9) := Below.tail HB8.out hq
    have HP9 := HP8.below hq
    have HR9 := HR8.below hq
    have HA' := HA.below hq
    have HL' := HL.below hq
    have HI' := HI.below hq
    clear hq HB8 HP8 HR8
    clear HA HL HI
    have HA := HA'; clear HA'
    have HL := HL'; clear HL'
    have HI := HI'; clear HI'
    have HIr := HI; obtain ⟨HIa, HIb, HIc, HId, HIe, HIf, HIg⟩ := HIr
    go_wp2_with fail
    with_reducible refine wp_quiet (by kernel_rfl) (by kernel_rfl) ?_
    repeat (quiet_step ((go_at_call 42; exact reg_call (I4_c _ (HR9.alloc.below (below_reg _ _))))))
    refine wpQuiet_nil ?_
    intro _ hw'; obtain ⟨p, rfl⟩ := hw'
    go_wp2_with fail
    go_roundw
    case rel => exact ⟨6, _, rfl, by omega, by go_num, b_reg (b_alloc (Below.tail hqh.out HS))⟩
    case measure => simp [intOf]
  · clear hqh
    have HAr := HA; obtain ⟨HAa, HAb, HAc⟩ := HAr
    go_wp2_with fail
    refine (hRg _ HP8).mono ?_
    rintro e w9 ⟨rfl, hq⟩
    clear HAa HAb HAc
    have HB9 : Hid (Below w.heap.size w w9) := Below.tail HB8.out hq
    have HP9 := HP8.below hq
    have HR9 := HR8.below hq
    have HA' := HA.below hq
    have HL' := HL.below hq
    have HI' := HI.below hq
    clear hq HB8 HP8 HR8
    clear HA HL HI
    have HA := HA'; clear HA'
    have HL := HL'; clear HL'
    have HI := HI'; clear HI'
    have HAr := HA; obtain ⟨HAa, HAb, HAc⟩ := HAr
    have HLr := HL; obtain ⟨HLa, HLb, HLc, HLd⟩ := HLr
    go_wp2_with fail
    refine (hLo _ HP9).mono ?_
    rintro e w10 ⟨rfl, hq⟩
    clear HAa HAb HAc HLa HLb HLc HLd
    have HB10 : Hid (Below w.heap.size w w10) := Below.tail HB9.out hq
    have HP10 := HP9.below hq
    have HR10 := HR9.below hq
    have HA' := HA.below hq
    have HL' := HL.below hq
    have HI' := HI.below hq
    clear hq HB9 HP9 HR9
    clear HA HL HI
    have HA := HA'; clear HA'
    have HL := HL'; clear HL'
    have HI := HI'; clear HI'
    have HAr := HA; obtain ⟨HAa, HAb, HAc⟩ := HAr
    have HLr := HL; obtain ⟨HLa, HLb, HLc, HLd⟩ := HLr
    go_wp2_with fail
    refine (hHi _ HP10).mono ?_
    rintro e w11 ⟨rfl, hq⟩
    clear HAa HAb HAc HLa HLb HLc HLd
    have HB11 : Hid (Below w.heap.size w w11) := Below.tail HB10.out hq
    have HP11 := HP10.below hq
    have HR11 := HR10.below hq
    have HA' := HA.below hq
    have HL' := HL.below hq
    have HI' := HI.below hq
    clear hq HB10 HP10 HR10
    clear HA HL HI
    have HA := HA'; clear HA'
    have HL := HL'; clear HL'
    have HI := HI'; clear HI'
    have HAr := HA; obtain ⟨HAa, HAb, HAc⟩ := HAr
    go_wp2_with fail
    refine (hWl _ HP11).mono ?_
    rintro e w12 ⟨rfl, hq⟩
    clear HAa HAb HAc
    have HB12 : Hid (Below w.heap.size w w12) := Below.tail HB11.out hq
    have HP12 := HP11.below hq
    have HR12 := HR11.below hq
    have HA' := HA.below hq
    have HL' := HL.below hq
    have HI' := HI.below hq
    clear hq HB11 HP11 HR11
    clear HA HL HI
    have HA := HA'; clear HA'
    have HL := HL'; clear HL'
    have HI := HI'; clear HI'
    have HAr := HA; obtain ⟨HAa, HAb, HAc⟩ := HAr
    go_wp2_with fail
    refine (hWh _ HP12).mono ?_
    rintro e w13 ⟨rfl, hq⟩
    clear HAa HAb HAc
    have HB13 : Hid (Below w.heap.size w w13) := Below.tail HB12.out hq
    have HP13 := HP12.below hq
    have HR13 := HR12.below hq
    have HA' := HA.below hq
    have HL' := HL.below hq
    have HI' := HI.below hq
    clear hq HB12 HP12 HR12
    clear HA HL HI
    have HA := HA'; clear HA'
    have HL := HL'; clear HL'
    have HI := HI'; clear HI'
    go_wp2
    go_ret
    exact ⟨rfl, HB13.out⟩
end
end Go.Proofs.YtfgmfkiknogdeaaDoor
