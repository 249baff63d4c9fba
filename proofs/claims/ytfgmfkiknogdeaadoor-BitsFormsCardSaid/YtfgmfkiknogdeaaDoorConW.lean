/- WHAT IS PROVED: taplinelaw01.BitsConverts answers true, for any two types and every value. CONDITIONS: the package variable 'plain' holds the signed type of 4 bytes. -/
import Derived.Test.YtfgmfkiknogdeaaDoorComW
import Derived.Test.YtfgmfkiknogdeaaDoorRb
namespace Go.Proofs.YtfgmfkiknogdeaaDoor
open Go Go.RowKit Go.QrBits
attribute [local go_sem] reg_cell reg_frozen reg_setCell reg_lt reg_lt_add reg_drew reg_of_drew quietR yieldsR

set_option maxHeartbeats 1000000 in
set_option maxRecDepth 20000 in
theorem wrapL_c (s : Int) (g : Bool) (v : Int) (w : World) (h : vB s = true) (hv : I64 v) : Calls Tryd.prog 41 #[.agg #[.int .i64 s, .bool g], .int .i64 v] w fun e w' => e = .returned (.int .i64 (wr s g v)) ∧ Below w.heap.size w w' := by
  go_enter Tryd.func41, Tryd.ntmps41
  go_wp2_with fail
  refine (Wrap_c s g v _ h hv).mono ?_
  rintro e w1 ⟨rfl, hq⟩
  have HB1 : Hid (Below w.heap.size w w1) := Below.tail (b_alloc (Below.refl _ w)) hq
  clear hq
  go_wp2
  go_ret
  exact ⟨rfl, HB1.out⟩
section
variable (sf : Int) (gf : Bool) (st : Int) (gt : Bool) (v : Int)
theorem Parse_yes (w : World) (hf : vB sf = true) (ht : vB st = true) (hv : I64 v) (ho : pO st gt (txV sf gf (wr sf gf v)) = true) : Calls Tryd.prog 38 #[.agg #[.int .i64 st, .bool gt], .string (txV sf gf (wr sf gf v))] w fun e w' => e = .returned (.tuple #[.int .i64 (wr st gt (wr sf gf v)), .int .i64 0]) ∧ Below w.heap.size w w' := by
  have := Parse_c st gt (txV sf gf (wr sf gf v)) w ht (txV_size hf (wr_I64 hf hv))
  unfold pV pE at this
  rwa [if_pos ho, if_pos ho, pv_tx hf (wr_I64 hf hv), wr_wr hf] at this
theorem Parse_not (w : World) (hf : vB sf = true) (ht : vB st = true) (hv : I64 v) (ho : pO st gt (txV sf gf (wr sf gf v)) = false) : Calls Tryd.prog 38 #[.agg #[.int .i64 st, .bool gt], .string (txV sf gf (wr sf gf v))] w fun e w' => e = .returned (.tuple #[.int .i64 0, .int .i64 13]) ∧ Below w.heap.size w w' := by
  have := Parse_c st gt (txV sf gf (wr sf gf v)) w ht (txV_size hf (wr_I64 hf hv))
  unfold pV pE at this
  rwa [if_neg (by simp [ho]), if_neg (by simp [ho])] at this
theorem Text_yes (w : World) (hf : vB sf = true) (ht : vB st = true) (hv : I64 v) (ho : pO st gt (txV sf gf (wr sf gf v)) = true) : Calls Tryd.prog 36 #[.agg #[.int .i64 st, .bool gt], .int .i64 (wr st gt (wr sf gf v))] w fun e w' => e = .returned (.tuple #[.string (txV sf gf (wr sf gf v)), .int .i64 0]) ∧ Below w.heap.size w w' := by
  have := Text_c st gt (wr st gt (wr sf gf v)) w ht (wr_I64 ht (wr_I64 hf hv))
  have e : txV st gt (wr st gt (wr sf gf v)) = txV sf gf (wr sf gf v) := by
    rw [pO_tx hf (wr_I64 hf hv), wr_wr hf] at ho
    simp only [Bool.and_eq_true, beq_iff_eq] at ho
    unfold txV
    rw [wr_wr ht, wr_wr hf, ho.1, ho.2]
  rwa [e] at this
theorem Convert_back (w : World) (hf : vB sf = true) (ht : vB st = true) (hv : I64 v) (hle : ¬ st < sf) : Calls Tryd.prog 22 #[.agg #[.int .i64 st, .bool gt], .agg #[.int .i64 sf, .bool gf], .int .i64 (wr st gt (wr sf gf v))] w fun e w' => e = .returned (.tuple #[.int .i64 (wr sf gf v), .int .i64 0]) ∧ Below w.heap.size w w' := by
  have := Convert_c st gt sf gf (wr st gt (wr sf gf v)) w ht hf (wr_I64 ht (wr_I64 hf hv))
  rwa [wr_wr ht, wr_back hf ht hle] at this
set_option maxHeartbeats 4000000 in
set_option maxRecDepth 100000 in
theorem converts_w1 (w : World) (hp : PlainAt w) (h1 : vB sf = false) : Calls Tryd.prog 12 #[.agg #[.int .i64 sf, .bool gf], .agg #[.int .i64 st, .bool gt], .int .i64 v] w fun e w' => e = .returned (.bool true) ∧ Below w.heap.size w w' := by
  go_enter Tryd.func12, Tryd.ntmps12
  go_wp2_with fail
  refine (sane_c _ (hp.alloc.alloc)).mono ?_
  rintro e w1 ⟨rfl, hq⟩
  have HB1 : Hid (Below w.heap.size w w1) := Below.tail (b_alloc (b_alloc (Below.refl _ w))) hq
  have HP1 := (hp.alloc.alloc).below hq
  have HA : At w1 (w.heap.size) sf gf := At.below (At.box0.alloc) hq
  have HX : At w1 (w.heap.size + 1) st gt := At.below (At.box1) hq
  clear hq
  have HAr := HA; obtain ⟨HAa, HAb, HAc⟩ := HAr
  have HXr := HX; obtain ⟨HXa, HXb, HXc⟩ := HXr
  go_wp2_with fail
  refine (Convert_no1 sf gf st gt v _ h1).mono ?_
  rintro e w2 ⟨rfl, hq⟩
  clear HAa HAb HAc HXa HXb HXc
  have HB2 : Hid (Below w.heap.size w w2) := Below.tail HB1.out hq
  have HP2 := HP1.below hq
  have HA' := HA.below hq
  have HX' := HX.below hq
  clear hq HB1 HP1
  clear HA HX
  have HA := HA'; clear HA'
  have HX := HX'; clear HX'
  go_wp2
  go_ret
  exact ⟨rfl, HB2.out⟩
set_option maxHeartbeats 4000000 in
set_option maxRecDepth 100000 in
theorem converts_w2 (w : World) (hp : PlainAt w) (h1 : vB sf = true) (h2 : vB st = false) : Calls Tryd.prog 12 #[.agg #[.int .i64 sf, .bool gf], .agg #[.int .i64 st, .bool gt], .int .i64 v] w fun e w' => e = .returned (.bool true) ∧ Below w.heap.size w w' := by
  go_enter Tryd.func12, Tryd.ntmps12
  go_wp2_with fail
  refine (sane_c _ (hp.alloc.alloc)).mono ?_
  rintro e w1 ⟨rfl, hq⟩
  have HB1 : Hid (Below w.heap.size w w1) := Below.tail (b_alloc (b_alloc (Below.refl _ w))) hq
  have HP1 := (hp.alloc.alloc).below hq
  have HA : At w1 (w.heap.size) sf gf := At.below (At.box0.alloc) hq
  have HX : At w1 (w.heap.size + 1) st gt := At.below (At.box1) hq
  clear hq
  have HAr := HA; obtain ⟨HAa, HAb, HAc⟩ := HAr
  have HXr := HX; obtain ⟨HXa, HXb, HXc⟩ := HXr
  go_wp2_with fail
  refine (Convert_no2 sf gf st gt v _ h1 h2).mono ?_
  rintro e w2 ⟨rfl, hq⟩
  clear HAa HAb HAc HXa HXb HXc
  have HB2 : Hid (Below w.heap.size w w2) := Below.tail HB1.out hq
  have HP2 := HP1.below hq
  have HA' := HA.below hq
  have HX' := HX.below hq
  clear hq HB1 HP1
  clear HA HX
  have HA := HA'; clear HA'
  have HX := HX'; clear HX'
  go_wp2
  go_ret
  exact ⟨rfl, HB2.out⟩
set_option maxHeartbeats 4000000 in
set_option maxRecDepth 100000 in
theorem converts_w3 (w : World) (hp : PlainAt w) (h1 : vB sf = true) (h2 : vB st = true) (hv : I64 v) (ho : pO st gt (txV sf gf (wr sf gf v)) = true) (hl : st < sf) : Calls Tryd.prog 12 #[.agg #[.int .i64 sf, .bool gf], .agg #[.int .i64 st, .bool gt], .int .i64 v] w fun e w' => e = .returned (.bool true) ∧ Below w.heap.size w w' := by
  go_enter Tryd.func12, Tryd.ntmps12
  go_wp2_with fail
  refine (sane_c _ (hp.alloc.alloc)).mono ?_
  rintro e w1 ⟨rfl, hq⟩
  have HB1 : Hid (Below w.heap.size w w1) := Below.tail (b_alloc (b_alloc (Below.refl _ w))) hq
  have HP1 := (hp.alloc.alloc).below hq
  have HA : At w1 (w.heap.size) sf gf := At.below (At.box0.alloc) hq
  have HX : At w1 (w.heap.size + 1) st gt := At.below (At.box1) hq
  clear hq
  have HAr := HA; obtain ⟨HAa, HAb, HAc⟩ := HAr
  have HXr := HX; obtain ⟨HXa, HXb, HXc⟩ := HXr
  go_wp2_with fail
  refine (Convert_c sf gf st gt v _ h1 h2 hv).mono ?_
  rintro e w2 ⟨rfl, hq⟩
  clear HAa HAb HAc HXa HXb HXc
  have HB2 : Hid (Below w.heap.size w w2) := Below.tail HB1.out hq
  have HP2 := HP1.below hq
  have HA' := HA.below hq
  have HX' := HX.below hq
  clear hq HB1 HP1
  clear HA HX
  have HA := HA'; clear HA'
  have HX := HX'; clear HX'
  have HAr := HA; obtain ⟨HAa, HAb, HAc⟩ := HAr
  go_wp2_with fail
  refine (wrapL_c sf gf v _ h1 hv).mono ?_
  rintro e w3 ⟨rfl, hq⟩
  clear HAa HAb HAc
  have HB3 : Hid (Below w.heap.size w w3) := Below.tail HB2.out hq
  have HP3 := HP2.below hq
  have HA' := HA.below hq
  have HX' := HX.below hq
  clear hq HB2 HP2
  clear HA HX
  have HA := HA'; clear HA'
  have HX := HX'; clear HX'
  have HAr := HA; obtain ⟨HAa, HAb, HAc⟩ := HAr
  go_wp2_with fail
  refine (Text_c sf gf (wr sf gf v) _ h1 (wr_I64 h1 hv)).mono ?_
  rintro e w4 ⟨rfl, hq⟩
  clear HAa HAb HAc
  have HB4 : Hid (Below w.heap.size w w4) := Below.tail HB3.out hq
  have HP4 := HP3.below hq
  have HA' := HA.below hq
  have HX' := HX.below hq
  clear hq HB3 HP3
  clear HA HX
  have HA := HA'; clear HA'
  have HX := HX'; clear HX'
  have HXr := HX; obtain ⟨HXa, HXb, HXc⟩ := HXr
  go_wp2_with fail
  refine (Text_yes sf gf st gt v _ h1 h2 hv ho).mono ?_
  rintro e w5 ⟨rfl, hq⟩
  clear HXa HXb HXc
  have HB5 : Hid (Below w.heap.size w w5) := Below.tail HB4.out hq
  have HP5 := HP4.below hq
  have HA' := HA.below hq
  have HX' := HX.below hq
  clear hq HB4 HP4
  clear HA HX
  have HA := HA'; clear HA'
  have HX := HX'; clear HX'
  have HXr := HX; obtain ⟨HXa, HXb, HXc⟩ := HXr
  go_wp2_with fail
  refine (Parse_yes sf gf st gt v _ h1 h2 hv ho).mono ?_
  rintro e w6 ⟨rfl, hq⟩
  clear HXa HXb HXc
  have HB6 : Hid (Below w.heap.size w w6) := Below.tail HB5.out hq
  have HP6 := HP5.below hq
  have HA' := HA.below hq
  have HX' := HX.below hq
  clear hq HB5 HP5
  clear HA HX
  have HA := HA'; clear HA'
  have HX := HX'; clear HX'
  have HXr := HX; obtain ⟨HXa, HXb, HXc⟩ := HXr
  have HAr := HA; obtain ⟨HAa, HAb, HAc⟩ := HAr
  go_wp2_with fail
  refine (Convert_c st gt sf gf _ _ h2 h1 (wr_I64 h2 (wr_I64 h1 hv))).mono ?_
  rintro e w7 ⟨rfl, hq⟩
  clear HXa HXb HXc HAa HAb HAc
  have HB7 : Hid (Below w.heap.size w w7) := Below.tail HB6.out hq
  have HP7 := HP6.below hq
  have HA' := HA.below hq
  have HX' := HX.below hq
  clear hq HB6 HP6
  clear HA HX
  have HA := HA'; clear HA'
  have HX := HX'; clear HX'
  have HAr := HA; obtain ⟨HAa, HAb, HAc⟩ := HAr
  have HXr := HX; obtain ⟨HXa, HXb, HXc⟩ := HXr
  go_wp2
  go_ret
  exact ⟨rfl, HB7.out⟩
set_option maxHeartbeats 4000000 in
set_option maxRecDepth 100000 in
theorem converts_w4 (w : World) (hp : PlainAt w) (h1 : vB sf = true) (h2 : vB st = true) (hv : I64 v) (ho : pO st gt (txV sf gf (wr sf gf v)) = true) (hl : ¬ st < sf) : Calls Tryd.prog 12 #[.agg #[.int .i64 sf, .bool gf], .agg #[.int .i64 st, .bool gt], .int .i64 v] w fun e w' => e = .returned (.bool true) ∧ Below w.heap.size w w' := by
  go_enter Tryd.func12, Tryd.ntmps12
  go_wp2_with fail
  refine (sane_c _ (hp.alloc.alloc)).mono ?_
  rintro e w1 ⟨rfl, hq⟩
  have HB1 : Hid (Below w.heap.size w w1) := Below.tail (b_alloc (b_alloc (Below.refl _ w))) hq
  have HP1 := (hp.alloc.alloc).below hq
  have HA : At w1 (w.heap.size) sf gf := At.below (At.box0.alloc) hq
  have HX : At w1 (w.heap.size + 1) st gt := At.below (At.box1) hq
  clear hq
  have HAr := HA; obtain ⟨HAa, HAb, HAc⟩ := HAr
  have HXr := HX; obtain ⟨HXa, HXb, HXc⟩ := HXr
  go_wp2_with fail
  refine (Convert_c sf gf st gt v _ h1 h2 hv).mono ?_
  rintro e w2 ⟨rfl, hq⟩
  clear HAa HAb HAc HXa HXb HXc
  have HB2 : Hid (Below w.heap.size w w2) := Below.tail HB1.out hq
  have HP2 := HP1.below hq
  have HA' := HA.below hq
  have HX' := HX.below hq
  clear hq HB1 HP1
  clear HA HX
  have HA := HA'; clear HA'
  have HX := HX'; clear HX'
  have HAr := HA; obtain ⟨HAa, HAb, HAc⟩ := HAr
  go_wp2_with fail
  refine (wrapL_c sf gf v _ h1 hv).mono ?_
  rintro e w3 ⟨rfl, hq⟩
  clear HAa HAb HAc
  have HB3 : Hid (Below w.heap.size w w3) := Below.tail HB2.out hq
  have HP3 := HP2.below hq
  have HA' := HA.below hq
  have HX' := HX.below hq
  clear hq HB2 HP2
  clear HA HX
  have HA := HA'; clear HA'
  have HX := HX'; clear HX'
  have HAr := HA; obtain ⟨HAa, HAb, HAc⟩ := HAr
  go_wp2_with fail
  refine (Text_c sf gf (wr sf gf v) _ h1 (wr_I64 h1 hv)).mono ?_
  rintro e w4 ⟨rfl, hq⟩
  clear HAa HAb HAc
  have HB4 : Hid (Below w.heap.size w w4) := Below.tail HB3.out hq
  have HP4 := HP3.below hq
  have HA' := HA.below hq
  have HX' := HX.below hq
  clear hq HB3 HP3
  clear HA HX
  have HA := HA'; clear HA'
  have HX := HX'; clear HX'
  have HXr := HX; obtain ⟨HXa, HXb, HXc⟩ := HXr
  go_wp2_with fail
  refine (Text_yes sf gf st gt v _ h1 h2 hv ho).mono ?_
  rintro e w5 ⟨rfl, hq⟩
  clear HXa HXb HXc
  have HB5 : Hid (Below w.heap.size w w5) := Below.tail HB4.out hq
  have HP5 := HP4.below hq
  have HA' := HA.below hq
  have HX' := HX.below hq
  clear hq HB4 HP4
  clear HA HX
  have HA := HA'; clear HA'
  have HX := HX'; clear HX'
  have HXr := HX; obtain ⟨HXa, HXb, HXc⟩ := HXr
  go_wp2_with fail
  refine (Parse_yes sf gf st gt v _ h1 h2 hv ho).mono ?_
  rintro e w6 ⟨rfl, hq⟩
  clear HXa HXb HXc
  have HB6 : Hid (Below w.heap.size w w6) := Below.tail HB5.out hq
  have HP6 := HP5.below hq
  have HA' := HA.below hq
  have HX' := HX.below hq
  clear hq HB5 HP5
  clear HA HX
  have HA := HA'; clear HA'
  have HX := HX'; clear HX'
  have HXr := HX; obtain ⟨HXa, HXb, HXc⟩ := HXr
  have HAr := HA; obtain ⟨HAa, HAb, HAc⟩ := HAr
  go_wp2_with fail
  refine (Convert_back sf gf st gt v _ h1 h2 hv (by omega)).mono ?_
  rintro e w7 ⟨rfl, hq⟩
  clear HXa HXb HXc HAa HAb HAc
  have HB7 : Hid (Below w.heap.size w w7) := Below.tail HB6.out hq
  have HP7 := HP6.below hq
  have HA' := HA.below hq
  have HX' := HX.below hq
  clear hq HB6 HP6
  clear HA HX
  have HA := HA'; clear HA'
  have HX := HX'; clear HX'
  have HAr := HA; obtain ⟨HAa, HAb, HAc⟩ := HAr
  have HXr := HX; obtain ⟨HXa, HXb, HXc⟩ := HXr
  go_wp2
  go_ret
  exact ⟨rfl, HB7.out⟩
set_option maxHeartbeats 4000000 in
set_option maxRecDepth 100000 in
theorem converts_w5 (w : World) (hp : PlainAt w) (h1 : vB sf = true) (h2 : vB st = true) (hv : I64 v) (ho : pO st gt (txV sf gf (wr sf gf v)) = false) (hl : st < sf) : Calls Tryd.prog 12 #[.agg #[.int .i64 sf, .bool gf], .agg #[.int .i64 st, .bool gt], .int .i64 v] w fun e w' => e = .returned (.bool true) ∧ Below w.heap.size w w' := by
  go_enter Tryd.func12, Tryd.ntmps12
  go_wp2_with fail
  refine (sane_c _ (hp.alloc.alloc)).mono ?_
  rintro e w1 ⟨rfl, hq⟩
  have HB1 : Hid (Below w.heap.size w w1) := Below.tail (b_alloc (b_alloc (Below.refl _ w))) hq
  have HP1 := (hp.alloc.alloc).below hq
  have HA : At w1 (w.heap.size) sf gf := At.below (At.box0.alloc) hq
  have HX : At w1 (w.heap.size + 1) st gt := At.below (At.box1) hq
  clear hq
  have HAr := HA; obtain ⟨HAa, HAb, HAc⟩ := HAr
  have HXr := HX; obtain ⟨HXa, HXb, HXc⟩ := HXr
  go_wp2_with fail
  refine (Convert_c sf gf st gt v _ h1 h2 hv).mono ?_
  rintro e w2 ⟨rfl, hq⟩
  clear HAa HAb HAc HXa HXb HXc
  have HB2 : Hid (Below w.heap.size w w2) := Below.tail HB1.out hq
  have HP2 := HP1.below hq
  have HA' := HA.below hq
  have HX' := HX.below hq
  clear hq HB1 HP1
  clear HA HX
  have HA := HA'; clear HA'
  have HX := HX'; clear HX'
  have HAr := HA; obtain ⟨HAa, HAb, HAc⟩ := HAr
  go_wp2_with fail
  refine (wrapL_c sf gf v _ h1 hv).mono ?_
  rintro e w3 ⟨rfl, hq⟩
  clear HAa HAb HAc
  have HB3 : Hid (Below w.heap.size w w3) := Below.tail HB2.out hq
  have HP3 := HP2.below hq
  have HA' := HA.below hq
  have HX' := HX.below hq
  clear hq HB2 HP2
  clear HA HX
  have HA := HA'; clear HA'
  have HX := HX'; clear HX'
  have HAr := HA; obtain ⟨HAa, HAb, HAc⟩ := HAr
  go_wp2_with fail
  refine (Text_c sf gf (wr sf gf v) _ h1 (wr_I64 h1 hv)).mono ?_
  rintro e w4 ⟨rfl, hq⟩
  clear HAa HAb HAc
  have HB4 : Hid (Below w.heap.size w w4) := Below.tail HB3.out hq
  have HP4 := HP3.below hq
  have HA' := HA.below hq
  have HX' := HX.below hq
  clear hq HB3 HP3
  clear HA HX
  have HA := HA'; clear HA'
  have HX := HX'; clear HX'
  have HXr := HX; obtain ⟨HXa, HXb, HXc⟩ := HXr
  go_wp2_with fail
  refine (Text_c st gt _ _ h2 (wr_I64 h2 (wr_I64 h1 hv))).mono ?_
  rintro e w5 ⟨rfl, hq⟩
  clear HXa HXb HXc
  have HB5 : Hid (Below w.heap.size w w5) := Below.tail HB4.out hq
  have HP5 := HP4.below hq
  have HA' := HA.below hq
  have HX' := HX.below hq
  clear hq HB4 HP4
  clear HA HX
  have HA := HA'; clear HA'
  have HX := HX'; clear HX'
  have HXr := HX; obtain ⟨HXa, HXb, HXc⟩ := HXr
  go_wp2_with fail
  refine (Parse_not sf gf st gt v _ h1 h2 hv ho).mono ?_
  rintro e w6 ⟨rfl, hq⟩
  clear HXa HXb HXc
  have HB6 : Hid (Below w.heap.size w w6) := Below.tail HB5.out hq
  have HP6 := HP5.below hq
  have HA' := HA.below hq
  have HX' := HX.below hq
  clear hq HB5 HP5
  clear HA HX
  have HA := HA'; clear HA'
  have HX := HX'; clear HX'
  have HXr := HX; obtain ⟨HXa, HXb, HXc⟩ := HXr
  have HAr := HA; obtain ⟨HAa, HAb, HAc⟩ := HAr
  go_wp2_with fail
  refine (Convert_c st gt sf gf _ _ h2 h1 (wr_I64 h2 (wr_I64 h1 hv))).mono ?_
  rintro e w7 ⟨rfl, hq⟩
  clear HXa HXb HXc HAa HAb HAc
  have HB7 : Hid (Below w.heap.size w w7) := Below.tail HB6.out hq
  have HP7 := HP6.below hq
  have HA' := HA.below hq
  have HX' := HX.below hq
  clear hq HB6 HP6
  clear HA HX
  have HA := HA'; clear HA'
  have HX := HX'; clear HX'
  have HAr := HA; obtain ⟨HAa, HAb, HAc⟩ := HAr
  have HXr := HX; obtain ⟨HXa, HXb, HXc⟩ := HXr
  go_wp2
  go_ret
  exact ⟨rfl, HB7.out⟩
set_option maxHeartbeats 4000000 in
set_option maxRecDepth 100000 in
theorem converts_w6 (w : World) (hp : PlainAt w) (h1 : vB sf = true) (h2 : vB st = true) (hv : I64 v) (ho : pO st gt (txV sf gf (wr sf gf v)) = false) (hl : ¬ st < sf) : Calls Tryd.prog 12 #[.agg #[.int .i64 sf, .bool gf], .agg #[.int .i64 st, .bool gt], .int .i64 v] w fun e w' => e = .returned (.bool true) ∧ Below w.heap.size w w' := by
  go_enter Tryd.func12, Tryd.ntmps12
  go_wp2_with fail
  refine (sane_c _ (hp.alloc.alloc)).mono ?_
  rintro e w1 ⟨rfl, hq⟩
  have HB1 : Hid (Below w.heap.size w w1) := Below.tail (b_alloc (b_alloc (Below.refl _ w))) hq
  have HP1 := (hp.alloc.alloc).below hq
  have HA : At w1 (w.heap.size) sf gf := At.below (At.box0.alloc) hq
  have HX : At w1 (w.heap.size + 1) st gt := At.below (At.box1) hq
  clear hq
  have HAr := HA; obtain ⟨HAa, HAb, HAc⟩ := HAr
  have HXr := HX; obtain ⟨HXa, HXb, HXc⟩ := HXr
  go_wp2_with fail
  refine (Convert_c sf gf st gt v _ h1 h2 hv).mono ?_
  rintro e w2 ⟨rfl, hq⟩
  clear HAa HAb HAc HXa HXb HXc
  have HB2 : Hid (Below w.heap.size w w2) := Below.tail HB1.out hq
  have HP2 := HP1.below hq
  have HA' := HA.below hq
  have HX' := HX.below hq
  clear hq HB1 HP1
  clear HA HX
  have HA := HA'; clear HA'
  have HX := HX'; clear HX'
  have HAr := HA; obtain ⟨HAa, HAb, HAc⟩ := HAr
  go_wp2_with fail
  refine (wrapL_c sf gf v _ h1 hv).mono ?_
  rintro e w3 ⟨rfl, hq⟩
  clear HAa HAb HAc
  have HB3 : Hid (Below w.heap.size w w3) := Below.tail HB2.out hq
  have HP3 := HP2.below hq
  have HA' := HA.below hq
  have HX' := HX.below hq
  clear hq HB2 HP2
  clear HA HX
  have HA := HA'; clear HA'
  have HX := HX'; clear HX'
  have HAr := HA; obtain ⟨HAa, HAb, HAc⟩ := HAr
  go_wp2_with fail
  refine (Text_c sf gf (wr sf gf v) _ h1 (wr_I64 h1 hv)).mono ?_
  rintro e w4 ⟨rfl, hq⟩
  clear HAa HAb HAc
  have HB4 : Hid (Below w.heap.size w w4) := Below.tail HB3.out hq
  have HP4 := HP3.below hq
  have HA' := HA.below hq
  have HX' := HX.below hq
  clear hq HB3 HP3
  clear HA HX
  have HA := HA'; clear HA'
  have HX := HX'; clear HX'
  have HXr := HX; obtain ⟨HXa, HXb, HXc⟩ := HXr
  go_wp2_with fail
  refine (Text_c st gt _ _ h2 (wr_I64 h2 (wr_I64 h1 hv))).mono ?_
  rintro e w5 ⟨rfl, hq⟩
  clear HXa HXb HXc
  have HB5 : Hid (Below w.heap.size w w5) := Below.tail HB4.out hq
  have HP5 := HP4.below hq
  have HA' := HA.below hq
  have HX' := HX.below hq
  clear hq HB4 HP4
  clear HA HX
  have HA := HA'; clear HA'
  have HX := HX'; clear HX'
  have HXr := HX; obtain ⟨HXa, HXb, HXc⟩ := HXr
  go_wp2_with fail
  refine (Parse_not sf gf st gt v _ h1 h2 hv ho).mono ?_
  rintro e w6 ⟨rfl, hq⟩
  clear HXa HXb HXc
  have HB6 : Hid (Below w.heap.size w w6) := Below.tail HB5.out hq
  have HP6 := HP5.below hq
  have HA' := HA.below hq
  have HX' := HX.below hq
  clear hq HB5 HP5
  clear HA HX
  have HA := HA'; clear HA'
  have HX := HX'; clear HX'
  have HXr := HX; obtain ⟨HXa, HXb, HXc⟩ := HXr
  have HAr := HA; obtain ⟨HAa, HAb, HAc⟩ := HAr
  go_wp2_with fail
  refine (Convert_back sf gf st gt v _ h1 h2 hv (by omega)).mono ?_
  rintro e w7 ⟨rfl, hq⟩
  clear HXa HXb HXc HAa HAb HAc
  have HB7 : Hid (Below w.heap.size w w7) := Below.tail HB6.out hq
  have HP7 := HP6.below hq
  have HA' := HA.below hq
  have HX' := HX.below hq
  clear hq HB6 HP6
  clear HA HX
  have HA := HA'; clear HA'
  have HX := HX'; clear HX'
  have HAr := HA; obtain ⟨HAa, HAb, HAc⟩ := HAr
  have HXr := HX; obtain ⟨HXa, HXb, HXc⟩ := HXr
  go_wp2
  go_ret
  exact ⟨rfl, HB7.out⟩
theorem converts_walk (w : World) (hp : PlainAt w) (hv : I64 v) : Calls Tryd.prog 12 #[.agg #[.int .i64 sf, .bool gf], .agg #[.int .i64 st, .bool gt], .int .i64 v] w fun e w' => e = .returned (.bool true) ∧ Below w.heap.size w w' := by
  cases h1 : vB sf
  · exact converts_w1 sf gf st gt v w hp h1
  · cases h2 : vB st
    · exact converts_w2 sf gf st gt v w hp h1 h2
    · cases ho : pO st gt (txV sf gf (wr sf gf v)) <;> by_cases hl : st < sf
      · exact converts_w5 sf gf st gt v w hp h1 h2 hv ho hl
      · exact converts_w6 sf gf st gt v w hp h1 h2 hv ho hl
      · exact converts_w3 sf gf st gt v w hp h1 h2 hv ho hl
      · exact converts_w4 sf gf st gt v w hp h1 h2 hv ho hl
end
end Go.Proofs.YtfgmfkiknogdeaaDoor
