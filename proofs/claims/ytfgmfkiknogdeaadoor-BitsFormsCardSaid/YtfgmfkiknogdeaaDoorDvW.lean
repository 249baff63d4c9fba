/- WHAT IS PROVED: taplinelaw01.BitsDivides answers true, for any two types and every two values. CONDITIONS: the package variable 'plain' holds the signed type of 4 bytes. -/
import Derived.Test.YtfgmfkiknogdeaaDoorDv
import Derived.Test.YtfgmfkiknogdeaaDoorE1
namespace Go.Proofs.YtfgmfkiknogdeaaDoor
open Go Go.RowKit Go.QrBits
attribute [local go_sem] reg_cell reg_frozen reg_setCell reg_lt reg_lt_add reg_drew reg_of_drew quietR yieldsR

/-- What a call answers, below which nothing changes. -/
def Gives (f : Nat) (args : Array Value) (v : Value) : Prop := ∀ w, PlainAt w → Calls Tryd.prog f args w fun e w' => e = .returned v ∧ Below w.heap.size w w'
def ty (s : Int) (g : Bool) : Value := .agg #[.int .i64 s, .bool g]
theorem i64_keep {v : Int} (h : I64 v) (h2 : ¬ v = -9223372036854775808) : wrap64 (-v) = -v := by unfold I64 at h; unfold wrap64; omega
theorem ret_true {b : Bool} (h : b = true) : Ending.returned (.bool b) = .returned (.bool true) := by rw [h]
theorem cS_idem {s1 s2 : Int} {g1 g2 : Bool} (h1 : vB s1 = true) (h2 : vB s2 = true) : cS (cS s1 g1 s2) (cG s1 g1 s2 g2) (cS s1 g1 s2) = cS s1 g1 s2 := by
  rcases vB_cases h1 with rfl | rfl | rfl | rfl <;> rcases vB_cases h2 with rfl | rfl | rfl | rfl <;> cases g1 <;> cases g2 <;> rfl
theorem cG_idem {s1 s2 : Int} {g1 g2 : Bool} (h1 : vB s1 = true) (h2 : vB s2 = true) : cG (cS s1 g1 s2) (cG s1 g1 s2 g2) (cS s1 g1 s2) (cG s1 g1 s2 g2) = cG s1 g1 s2 g2 := by
  rcases vB_cases h1 with rfl | rfl | rfl | rfl <;> rcases vB_cases h2 with rfl | rfl | rfl | rfl <;> cases g1 <;> cases g2 <;> rfl
section
variable (sa : Int) (ga : Bool) (sb : Int) (gb : Bool) (l0 l1 S : Int) (G : Bool) (A B Q R M : Int)
set_option maxHeartbeats 4000000 in
set_option maxRecDepth 100000 in
theorem divides_w1 (w : World) (hp : PlainAt w) (h : (vB sa && vB sb) = false) : Calls Tryd.prog 7 #[.agg #[.int .i64 sa, .bool ga], .agg #[.int .i64 sb, .bool gb], .agg #[.int .i64 l0, .int .i64 l1]] w fun e w' => e = .returned (.bool true) ∧ Below w.heap.size w w' := by
  go_enter Tryd.func7, Tryd.ntmps7
  go_wp2_with fail
  refine (sane_c _ (hp.alloc.alloc.alloc)).mono ?_
  rintro e w1 ⟨rfl, hq⟩
  have HB1 : Hid (Below w.heap.size w w1) := Below.tail (b_alloc (b_alloc (b_alloc (Below.refl _ w)))) hq
  have HP1 := (hp.alloc.alloc.alloc).below hq
  have HA : At w1 (w.heap.size) sa ga := At.below (At.box0.alloc.alloc) hq
  have HX : At w1 (w.heap.size + 1) sb gb := At.below (At.box1.alloc) hq
  have HL : At2 w1 (w.heap.size + 1 + 1) l0 l1 := At2.below (At2.box2) hq
  clear hq
  have HAr := HA; obtain ⟨HAa, HAb, HAc⟩ := HAr
  have HXr := HX; obtain ⟨HXa, HXb, HXc⟩ := HXr
  go_wp2_with fail
  refine (Usual_bad sa ga sb gb _ h).mono ?_
  rintro e w2 ⟨rfl, hq⟩
  clear HAa HAb HAc HXa HXb HXc
  have HB2 : Hid (Below w.heap.size w w2) := Below.tail HB1.out hq
  have HP2 := HP1.below hq
  have HA' := HA.below hq
  have HX' := HX.below hq
  have HL' := HL.below hq
  clear hq HB1 HP1
  clear HA HX HL
  have HA := HA'; clear HA'
  have HX := HX'; clear HX'
  have HL := HL'; clear HL'
  go_wp2
  go_ret
  exact ⟨rfl, b_alloc HB2.out⟩
set_option maxHeartbeats 4000000 in
set_option maxRecDepth 100000 in
theorem divides_w2 (w : World) (hp : PlainAt w) (hU : Gives 18 #[(.agg #[.int .i64 sa, .bool ga]), (.agg #[.int .i64 sb, .bool gb])] (.tuple #[(.agg #[.int .i64 S, .bool G]), .int .i64 0])) (hA : Gives 22 #[(.agg #[.int .i64 sa, .bool ga]), (.agg #[.int .i64 S, .bool G]), .int .i64 l0] (.tuple #[.int .i64 A, .int .i64 0])) (hB : Gives 22 #[(.agg #[.int .i64 sb, .bool gb]), (.agg #[.int .i64 S, .bool G]), .int .i64 l1] (.tuple #[.int .i64 0, .int .i64 0])) (hQ : Gives 28 #[.int .i64 4, (.agg #[.int .i64 sa, .bool ga]), .int .i64 l0, (.agg #[.int .i64 sb, .bool gb]), .int .i64 l1] (.tuple #[.agg #[.int .i64 0, .bool false], .int .i64 0, .int .i64 12])) (hR : Gives 28 #[.int .i64 5, (.agg #[.int .i64 sa, .bool ga]), .int .i64 l0, (.agg #[.int .i64 sb, .bool gb]), .int .i64 l1] (.tuple #[.agg #[.int .i64 0, .bool false], .int .i64 0, .int .i64 12])) : Calls Tryd.prog 7 #[.agg #[.int .i64 sa, .bool ga], .agg #[.int .i64 sb, .bool gb], .agg #[.int .i64 l0, .int .i64 l1]] w fun e w' => e = .returned (.bool true) ∧ Below w.heap.size w w' := by
  go_enter Tryd.func7, Tryd.ntmps7
  go_wp2_with fail
  refine (sane_c _ (hp.alloc.alloc.alloc)).mono ?_
  rintro e w1 ⟨rfl, hq⟩
  have HB1 : Hid (Below w.heap.size w w1) := Below.tail (b_alloc (b_alloc (b_alloc (Below.refl _ w)))) hq
  have HP1 := (hp.alloc.alloc.alloc).below hq
  have HA : At w1 (w.heap.size) sa ga := At.below (At.box0.alloc.alloc) hq
  have HX : At w1 (w.heap.size + 1) sb gb := At.below (At.box1.alloc) hq
  have HL : At2 w1 (w.heap.size + 1 + 1) l0 l1 := At2.below (At2.box2) hq
  clear hq
  have HAr := HA; obtain ⟨HAa, HAb, HAc⟩ := HAr
  have HXr := HX; obtain ⟨HXa, HXb, HXc⟩ := HXr
  go_wp2_with fail
  refine (hU _ HP1).mono ?_
  rintro e w2 ⟨rfl, hq⟩
  clear HAa HAb HAc HXa HXb HXc
  have HB2 : Hid (Below w.heap.size w w2) := Below.tail HB1.out hq
  have HP2 := HP1.below hq
  have HA' := HA.below hq
  have HX' := HX.below hq
  have HL' := HL.below hq
  clear hq HB1 HP1
  clear HA HX HL
  have HA := HA'; clear HA'
  have HX := HX'; clear HX'
  have HL := HL'; clear HL'
  have HAr := HA; obtain ⟨HAa, HAb, HAc⟩ := HAr
  have HLr := HL; obtain ⟨HLa, HLb, HLc⟩ := HLr
  go_wp2_with fail
  refine (hA _ HP2.alloc).mono ?_
  rintro e w3 ⟨rfl, hq⟩
  clear HAa HAb HAc HLa HLb HLc
  have HB3 : Hid (Below w.heap.size w w3) := Below.next HB2.out hq
  have HP3 := HP2.next hq
  have HA' := HA.next hq
  have HX' := HX.next hq
  have HL' := HL.next hq
  have H1' := At.fresh (s := S) (g := G) hq
  clear hq HB2 HP2
  clear HA HX HL
  have HA := HA'; clear HA'
  have HX := HX'; clear HX'
  have HL := HL'; clear HL'
  have H1 := H1'; clear H1'
  have HXr := HX; obtain ⟨HXa, HXb, HXc⟩ := HXr
  have H1r := H1; obtain ⟨H1a, H1b, H1c⟩ := H1r
  have HLr := HL; obtain ⟨HLa, HLb, HLc⟩ := HLr
  go_wp2_with fail
  refine (hB _ HP3).mono ?_
  rintro e w4 ⟨rfl, hq⟩
  clear HXa HXb HXc H1a H1b H1c HLa HLb HLc
  have HB4 : Hid (Below w.heap.size w w4) := Below.tail HB3.out hq
  have HP4 := HP3.below hq
  have HA' := HA.below hq
  have HX' := HX.below hq
  have HL' := HL.below hq
  have H1' := H1.below hq
  clear hq HB3 HP3
  clear HA HX HL H1
  have HA := HA'; clear HA'
  have HX := HX'; clear HX'
  have HL := HL'; clear HL'
  have H1 := H1'; clear H1'
  have HAr := HA; obtain ⟨HAa, HAb, HAc⟩ := HAr
  have HXr := HX; obtain ⟨HXa, HXb, HXc⟩ := HXr
  have HLr := HL; obtain ⟨HLa, HLb, HLc⟩ := HLr
  go_wp2_with fail
  refine (hQ _ HP4).mono ?_
  rintro e w5 ⟨rfl, hq⟩
  clear HAa HAb HAc HXa HXb HXc HLa HLb HLc
  have HB5 : Hid (Below w.heap.size w w5) := Below.tail HB4.out hq
  have HP5 := HP4.below hq
  have HA' := HA.below hq
  have HX' := HX.below hq
  have HL' := HL.below hq
  have H1' := H1.below hq
  clear hq HB4 HP4
  clear HA HX HL H1
  have HA := HA'; clear HA'
  have HX := HX'; clear HX'
  have HL := HL'; clear HL'
  have H1 := H1'; clear H1'
  have HAr := HA; obtain ⟨HAa, HAb, HAc⟩ := HAr
  have HXr := HX; obtain ⟨HXa, HXb, HXc⟩ := HXr
  have HLr := HL; obtain ⟨HLa, HLb, HLc⟩ := HLr
  go_wp2_with fail
  refine (hR _ HP5.alloc).mono ?_
  rintro e w6 ⟨rfl, hq⟩
  clear HAa HAb HAc HXa HXb HXc HLa HLb HLc
  have HB6 : Hid (Below w.heap.size w w6) := Below.next HB5.out hq
  have HP6 := HP5.next hq
  have HA' := HA.next hq
  have HX' := HX.next hq
  have HL' := HL.next hq
  have H1' := H1.next hq
  have H2' := At.fresh (s := 0) (g := false) hq
  clear hq HB5 HP5
  clear HA HX HL H1
  have HA := HA'; clear HA'
  have HX := HX'; clear HX'
  have HL := HL'; clear HL'
  have H1 := H1'; clear H1'
  have H2 := H2'; clear H2'
  go_wp2
  go_ret
  exact ⟨rfl, b_alloc HB6.out⟩
set_option maxHeartbeats 4000000 in
set_option maxRecDepth 100000 in
theorem divides_w3 (w : World) (hp : PlainAt w) (hU : Gives 18 #[(.agg #[.int .i64 sa, .bool ga]), (.agg #[.int .i64 sb, .bool gb])] (.tuple #[(.agg #[.int .i64 S, .bool false]), .int .i64 0])) (hA : Gives 22 #[(.agg #[.int .i64 sa, .bool ga]), (.agg #[.int .i64 S, .bool false]), .int .i64 l0] (.tuple #[.int .i64 A, .int .i64 0])) (hB : Gives 22 #[(.agg #[.int .i64 sb, .bool gb]), (.agg #[.int .i64 S, .bool false]), .int .i64 l1] (.tuple #[.int .i64 B, .int .i64 0])) (hQ : Gives 28 #[.int .i64 4, (.agg #[.int .i64 sa, .bool ga]), .int .i64 l0, (.agg #[.int .i64 sb, .bool gb]), .int .i64 l1] (.tuple #[(.agg #[.int .i64 S, .bool false]), .int .i64 Q, .int .i64 0])) (hR : Gives 28 #[.int .i64 5, (.agg #[.int .i64 sa, .bool ga]), .int .i64 l0, (.agg #[.int .i64 sb, .bool gb]), .int .i64 l1] (.tuple #[(.agg #[.int .i64 S, .bool false]), .int .i64 R, .int .i64 0])) (hM : Gives 40 #[.int .i64 3, (.agg #[.int .i64 S, .bool false]), .int .i64 Q, .int .i64 B] (.tuple #[(.agg #[.int .i64 S, .bool false]), .int .i64 M])) (hS : Gives 40 #[.int .i64 1, (.agg #[.int .i64 S, .bool false]), .int .i64 M, .int .i64 R] (.tuple #[(.agg #[.int .i64 S, .bool false]), .int .i64 A])) (hC : Gives 30 #[(.agg #[.int .i64 S, .bool false]), .int .i64 R, .int .i64 B] (.tuple #[.int .i64 (-1), .int .i64 0])) (hb : ¬ B = 0) : Calls Tryd.prog 7 #[.agg #[.int .i64 sa, .bool ga], .agg #[.int .i64 sb, .bool gb], .agg #[.int .i64 l0, .int .i64 l1]] w fun e w' => e = .returned (.bool true) ∧ Below w.heap.size w w' := by
  go_enter Tryd.func7, Tryd.ntmps7
  go_wp2_with fail
  refine (sane_c _ (hp.alloc.alloc.alloc)).mono ?_
  rintro e w1 ⟨rfl, hq⟩
  have HB1 : Hid (Below w.heap.size w w1) := Below.tail (b_alloc (b_alloc (b_alloc (Below.refl _ w)))) hq
  have HP1 := (hp.alloc.alloc.alloc).below hq
  have HA : At w1 (w.heap.size) sa ga := At.below (At.box0.alloc.alloc) hq
  have HX : At w1 (w.heap.size + 1) sb gb := At.below (At.box1.alloc) hq
  have HL : At2 w1 (w.heap.size + 1 + 1) l0 l1 := At2.below (At2.box2) hq
  clear hq
  have HAr := HA; obtain ⟨HAa, HAb, HAc⟩ := HAr
  have HXr := HX; obtain ⟨HXa, HXb, HXc⟩ := HXr
  go_wp2_with fail
  refine (hU _ HP1).mono ?_
  rintro e w2 ⟨rfl, hq⟩
  clear HAa HAb HAc HXa HXb HXc
  have HB2 : Hid (Below w.heap.size w w2) := Below.tail HB1.out hq
  have HP2 := HP1.below hq
  have HA' := HA.below hq
  have HX' := HX.below hq
  have HL' := HL.below hq
  clear hq HB1 HP1
  clear HA HX HL
  have HA := HA'; clear HA'
  have HX := HX'; clear HX'
  have HL := HL'; clear HL'
  have HAr := HA; obtain ⟨HAa, HAb, HAc⟩ := HAr
  have HLr := HL; obtain ⟨HLa, HLb, HLc⟩ := HLr
  go_wp2_with fail
  refine (hA _ HP2.alloc).mono ?_
  rintro e w3 ⟨rfl, hq⟩
  clear HAa HAb HAc HLa HLb HLc
  have HB3 : Hid (Below w.heap.size w w3) := Below.next HB2.out hq
  have HP3 := HP2.next hq
  have HA' := HA.next hq
  have HX' := HX.next hq
  have HL' := HL.next hq
  have H1' := At.fresh (s := S) (g := false) hq
  clear hq HB2 HP2
  clear HA HX HL
  have HA := HA'; clear HA'
  have HX := HX'; clear HX'
  have HL := HL'; clear HL'
  have H1 := H1'; clear H1'
  have HXr := HX; obtain ⟨HXa, HXb, HXc⟩ := HXr
  have H1r := H1; obtain ⟨H1a, H1b, H1c⟩ := H1r
  have HLr := HL; obtain ⟨HLa, HLb, HLc⟩ := HLr
  go_wp2_with fail
  refine (hB _ HP3).mono ?_
  rintro e w4 ⟨rfl, hq⟩
  clear HXa HXb HXc H1a H1b H1c HLa HLb HLc
  have HB4 : Hid (Below w.heap.size w w4) := Below.tail HB3.out hq
  have HP4 := HP3.below hq
  have HA' := HA.below hq
  have HX' := HX.below hq
  have HL' := HL.below hq
  have H1' := H1.below hq
  clear hq HB3 HP3
  clear HA HX HL H1
  have HA := HA'; clear HA'
  have HX := HX'; clear HX'
  have HL := HL'; clear HL'
  have H1 := H1'; clear H1'
  have HAr := HA; obtain ⟨HAa, HAb, HAc⟩ := HAr
  have HXr := HX; obtain ⟨HXa, HXb, HXc⟩ := HXr
  have HLr := HL; obtain ⟨HLa, HLb, HLc⟩ := HLr
  go_wp2_with fail
  refine (hQ _ HP4).mono ?_
  rintro e w5 ⟨rfl, hq⟩
  clear HAa HAb HAc HXa HXb HXc HLa HLb HLc
  have HB5 : Hid (Below w.heap.size w w5) := Below.tail HB4.out hq
  have HP5 := HP4.below hq
  have HA' := HA.below hq
  have HX' := HX.below hq
  have HL' := HL.below hq
  have H1' := H1.below hq
  clear hq HB4 HP4
  clear HA HX HL H1
  have HA := HA'; clear HA'
  have HX := HX'; clear HX'
  have HL := HL'; clear HL'
  have H1 := H1'; clear H1'
  have HAr := HA; obtain ⟨HAa, HAb, HAc⟩ := HAr
  have HXr := HX; obtain ⟨HXa, HXb, HXc⟩ := HXr
  have HLr := HL; obtain ⟨HLa, HLb, HLc⟩ := HLr
  go_wp2_with fail
  refine (hR _ HP5.alloc).mono ?_
  rintro e w6 ⟨rfl, hq⟩
  clear HAa HAb HAc HXa HXb HXc HLa HLb HLc
  have HB6 : Hid (Below w.heap.size w w6) := Below.next HB5.out hq
  have HP6 := HP5.next hq
  have HA' := HA.next hq
  have HX' := HX.next hq
  have HL' := HL.next hq
  have H1' := H1.next hq
  have H2' := At.fresh (s := S) (g := false) hq
  clear hq HB5 HP5
  clear HA HX HL H1
  have HA := HA'; clear HA'
  have HX := HX'; clear HX'
  have HL := HL'; clear HL'
  have H1 := H1'; clear H1'
  have H2 := H2'; clear H2'
  have H1r := H1; obtain ⟨H1a, H1b, H1c⟩ := H1r
  have H2r := H2; obtain ⟨H2a, H2b, H2c⟩ := H2r
  go_wp2_with fail
  refine (hM _ HP6.alloc).mono ?_
  rintro e w7 ⟨rfl, hq⟩
  clear H1a H1b H1c H2a H2b H2c
  have HB7 : Hid (Below w.heap.size w w7) := Below.next HB6.out hq
  have HP7 := HP6.next hq
  have HA' := HA.next hq
  have HX' := HX.next hq
  have HL' := HL.next hq
  have H1' := H1.next hq
  have H2' := H2.next hq
  have H3' := At.fresh (s := S) (g := false) hq
  clear hq HB6 HP6
  clear HA HX HL H1 H2
  have HA := HA'; clear HA'
  have HX := HX'; clear HX'
  have HL := HL'; clear HL'
  have H1 := H1'; clear H1'
  have H2 := H2'; clear H2'
  have H3 := H3'; clear H3'
  have H1r := H1; obtain ⟨H1a, H1b, H1c⟩ := H1r
  go_wp2_with fail
  refine (hS _ HP7.alloc).mono ?_
  rintro e w8 ⟨rfl, hq⟩
  clear H1a H1b H1c
  have HB8 : Hid (Below w.heap.size w w8) := Below.next HB7.out hq
  have HP8 := HP7.next hq
  have HA' := HA.next hq
  have HX' := HX.next hq
  have HL' := HL.next hq
  have H1' := H1.next hq
  have H2' := H2.next hq
  have H3' := H3.next hq
  clear hq HB7 HP7
  clear HA HX HL H1 H2 H3
  have HA := HA'; clear HA'
  have HX := HX'; clear HX'
  have HL := HL'; clear HL'
  have H1 := H1'; clear H1'
  have H2 := H2'; clear H2'
  have H3 := H3'; clear H3'
  have H1r := H1; obtain ⟨H1a, H1b, H1c⟩ := H1r
  go_wp2_with fail
  refine (hC _ HP8.alloc).mono ?_
  rintro e w9 ⟨rfl, hq⟩
  clear H1a H1b H1c
  have HB9 : Hid (Below w.heap.size w w9) := Below.next HB8.out hq
  have HP9 := HP8.next hq
  have HA' := HA.next hq
  have HX' := HX.next hq
  have HL' := HL.next hq
  have H1' := H1.next hq
  have H2' := H2.next hq
  have H3' := H3.next hq
  clear hq HB8 HP8
  clear HA HX HL H1 H2 H3
  have HA := HA'; clear HA'
  have HX := HX'; clear HX'
  have HL := HL'; clear HL'
  have H1 := H1'; clear H1'
  have H2 := H2'; clear H2'
  have H3 := H3'; clear H3'
  go_wp2
  go_ret
  exact ⟨rfl, HB9.out⟩
set_option maxHeartbeats 4000000 in
set_option maxRecDepth 100000 in
theorem divides_w4 (w : World) (hp : PlainAt w) (hU : Gives 18 #[(.agg #[.int .i64 sa, .bool ga]), (.agg #[.int .i64 sb, .bool gb])] (.tuple #[(.agg #[.int .i64 S, .bool true]), .int .i64 0])) (hA : Gives 22 #[(.agg #[.int .i64 sa, .bool ga]), (.agg #[.int .i64 S, .bool true]), .int .i64 l0] (.tuple #[.int .i64 A, .int .i64 0])) (hB : Gives 22 #[(.agg #[.int .i64 sb, .bool gb]), (.agg #[.int .i64 S, .bool true]), .int .i64 l1] (.tuple #[.int .i64 B, .int .i64 0])) (hQ : Gives 28 #[.int .i64 4, (.agg #[.int .i64 sa, .bool ga]), .int .i64 l0, (.agg #[.int .i64 sb, .bool gb]), .int .i64 l1] (.tuple #[(.agg #[.int .i64 S, .bool true]), .int .i64 Q, .int .i64 0])) (hR : Gives 28 #[.int .i64 5, (.agg #[.int .i64 sa, .bool ga]), .int .i64 l0, (.agg #[.int .i64 sb, .bool gb]), .int .i64 l1] (.tuple #[(.agg #[.int .i64 S, .bool true]), .int .i64 0, .int .i64 0])) (hM : Gives 40 #[.int .i64 3, (.agg #[.int .i64 S, .bool true]), .int .i64 Q, .int .i64 B] (.tuple #[(.agg #[.int .i64 S, .bool true]), .int .i64 M])) (hS : Gives 40 #[.int .i64 1, (.agg #[.int .i64 S, .bool true]), .int .i64 M, .int .i64 0] (.tuple #[(.agg #[.int .i64 S, .bool true]), .int .i64 A])) (h2 : A < 0) (h3 : B < 0) (hi1 : I64 R) (hi2 : I64 B) (h5 : B < 0) (hb : ¬ B = 0) : Calls Tryd.prog 7 #[.agg #[.int .i64 sa, .bool ga], .agg #[.int .i64 sb, .bool gb], .agg #[.int .i64 l0, .int .i64 l1]] w fun e w' => e = .returned (.bool true) ∧ Below w.heap.size w w' := by
  have := And.intro hb (And.intro h5 (And.intro hi1 hi2)); clear this
  go_enter Tryd.func7, Tryd.ntmps7
  go_wp2_with fail
  refine (sane_c _ (hp.alloc.alloc.alloc)).mono ?_
  rintro e w1 ⟨rfl, hq⟩
  have HB1 : Hid (Below w.heap.size w w1) := Below.tail (b_alloc (b_alloc (b_alloc (Below.refl _ w)))) hq
  have HP1 := (hp.alloc.alloc.alloc).below hq
  have HA : At w1 (w.heap.size) sa ga := At.below (At.box0.alloc.alloc) hq
  have HX : At w1 (w.heap.size + 1) sb gb := At.below (At.box1.alloc) hq
  have HL : At2 w1 (w.heap.size + 1 + 1) l0 l1 := At2.below (At2.box2) hq
  clear hq
  have HAr := HA; obtain ⟨HAa, HAb, HAc⟩ := HAr
  have HXr := HX; obtain ⟨HXa, HXb, HXc⟩ := HXr
  go_wp2_with fail
  refine (hU _ HP1).mono ?_
  rintro e w2 ⟨rfl, hq⟩
  clear HAa HAb HAc HXa HXb HXc
  have HB2 : Hid (Below w.heap.size w w2) := Below.tail HB1.out hq
  have HP2 := HP1.below hq
  have HA' := HA.below hq
  have HX' := HX.below hq
  have HL' := HL.below hq
  clear hq HB1 HP1
  clear HA HX HL
  have HA := HA'; clear HA'
  have HX := HX'; clear HX'
  have HL := HL'; clear HL'
  have HAr := HA; obtain ⟨HAa, HAb, HAc⟩ := HAr
  have HLr := HL; obtain ⟨HLa, HLb, HLc⟩ := HLr
  go_wp2_with fail
  refine (hA _ HP2.alloc).mono ?_
  rintro e w3 ⟨rfl, hq⟩
  clear HAa HAb HAc HLa HLb HLc
  have HB3 : Hid (Below w.heap.size w w3) := Below.next HB2.out hq
  have HP3 := HP2.next hq
  have HA' := HA.next hq
  have HX' := HX.next hq
  have HL' := HL.next hq
  have H1' := At.fresh (s := S) (g := true) hq
  clear hq HB2 HP2
  clear HA HX HL
  have HA := HA'; clear HA'
  have HX := HX'; clear HX'
  have HL := HL'; clear HL'
  have H1 := H1'; clear H1'
  have HXr := HX; obtain ⟨HXa, HXb, HXc⟩ := HXr
  have H1r := H1; obtain ⟨H1a, H1b, H1c⟩ := H1r
  have HLr := HL; obtain ⟨HLa, HLb, HLc⟩ := HLr
  go_wp2_with fail
  refine (hB _ HP3).mono ?_
  rintro e w4 ⟨rfl, hq⟩
  clear HXa HXb HXc H1a H1b H1c HLa HLb HLc
  have HB4 : Hid (Below w.heap.size w w4) := Below.tail HB3.out hq
  have HP4 := HP3.below hq
  have HA' := HA.below hq
  have HX' := HX.below hq
  have HL' := HL.below hq
  have H1' := H1.below hq
  clear hq HB3 HP3
  clear HA HX HL H1
  have HA := HA'; clear HA'
  have HX := HX'; clear HX'
  have HL := HL'; clear HL'
  have H1 := H1'; clear H1'
  have HAr := HA; obtain ⟨HAa, HAb, HAc⟩ := HAr
  have HXr := HX; obtain ⟨HXa, HXb, HXc⟩ := HXr
  have HLr := HL; obtain ⟨HLa, HLb, HLc⟩ := HLr
  go_wp2_with fail
  refine (hQ _ HP4).mono ?_
  rintro e w5 ⟨rfl, hq⟩
  clear HAa HAb HAc HXa HXb HXc HLa HLb HLc
  have HB5 : Hid (Below w.heap.size w w5) := Below.tail HB4.out hq
  have HP5 := HP4.below hq
  have HA' := HA.below hq
  have HX' := HX.below hq
  have HL' := HL.below hq
  have H1' := H1.below hq
  clear hq HB4 HP4
  clear HA HX HL H1
  have HA := HA'; clear HA'
  have HX := HX'; clear HX'
  have HL := HL'; clear HL'
  have H1 := H1'; clear H1'
  have HAr := HA; obtain ⟨HAa, HAb, HAc⟩ := HAr
  have HXr := HX; obtain ⟨HXa, HXb, HXc⟩ := HXr
  have HLr := HL; obtain ⟨HLa, HLb, HLc⟩ := HLr
  go_wp2_with fail
  refine (hR _ HP5.alloc).mono ?_
  rintro e w6 ⟨rfl, hq⟩
  clear HAa HAb HAc HXa HXb HXc HLa HLb HLc
  have HB6 : Hid (Below w.heap.size w w6) := Below.next HB5.out hq
  have HP6 := HP5.next hq
  have HA' := HA.next hq
  have HX' := HX.next hq
  have HL' := HL.next hq
  have H1' := H1.next hq
  have H2' := At.fresh (s := S) (g := true) hq
  clear hq HB5 HP5
  clear HA HX HL H1
  have HA := HA'; clear HA'
  have HX := HX'; clear HX'
  have HL := HL'; clear HL'
  have H1 := H1'; clear H1'
  have H2 := H2'; clear H2'
  have H1r := H1; obtain ⟨H1a, H1b, H1c⟩ := H1r
  have H2r := H2; obtain ⟨H2a, H2b, H2c⟩ := H2r
  go_wp2_with fail
  refine (hM _ HP6.alloc).mono ?_
  rintro e w7 ⟨rfl, hq⟩
  clear H1a H1b H1c H2a H2b H2c
  have HB7 : Hid (Below w.heap.size w w7) := Below.next HB6.out hq
  have HP7 := HP6.next hq
  have HA' := HA.next hq
  have HX' := HX.next hq
  have HL' := HL.next hq
  have H1' := H1.next hq
  have H2' := H2.next hq
  have H3' := At.fresh (s := S) (g := true) hq
  clear hq HB6 HP6
  clear HA HX HL H1 H2
  have HA := HA'; clear HA'
  have HX := HX'; clear HX'
  have HL := HL'; clear HL'
  have H1 := H1'; clear H1'
  have H2 := H2'; clear H2'
  have H3 := H3'; clear H3'
  have H1r := H1; obtain ⟨H1a, H1b, H1c⟩ := H1r
  go_wp2_with fail
  refine (hS _ HP7.alloc).mono ?_
  rintro e w8 ⟨rfl, hq⟩
  clear H1a H1b H1c
  have HB8 : Hid (Below w.heap.size w w8) := Below.next HB7.out hq
  have HP8 := HP7.next hq
  have HA' := HA.next hq
  have HX' := HX.next hq
  have HL' := HL.next hq
  have H1' := H1.next hq
  have H2' := H2.next hq
  have H3' := H3.next hq
  clear hq HB7 HP7
  clear HA HX HL H1 H2 H3
  have HA := HA'; clear HA'
  have HX := HX'; clear HX'
  have HL := HL'; clear HL'
  have H1 := H1'; clear H1'
  have H2 := H2'; clear H2'
  have H3 := H3'; clear H3'
  have H1r := H1; obtain ⟨H1a, H1b, H1c⟩ := H1r
  go_wp2
  go_ret
  exact ⟨rfl, b_alloc HB8.out⟩
set_option maxHeartbeats 4000000 in
set_option maxRecDepth 100000 in
theorem divides_w5 (w : World) (hp : PlainAt w) (hU : Gives 18 #[(.agg #[.int .i64 sa, .bool ga]), (.agg #[.int .i64 sb, .bool gb])] (.tuple #[(.agg #[.int .i64 S, .bool true]), .int .i64 0])) (hA : Gives 22 #[(.agg #[.int .i64 sa, .bool ga]), (.agg #[.int .i64 S, .bool true]), .int .i64 l0] (.tuple #[.int .i64 A, .int .i64 0])) (hB : Gives 22 #[(.agg #[.int .i64 sb, .bool gb]), (.agg #[.int .i64 S, .bool true]), .int .i64 l1] (.tuple #[.int .i64 B, .int .i64 0])) (hQ : Gives 28 #[.int .i64 4, (.agg #[.int .i64 sa, .bool ga]), .int .i64 l0, (.agg #[.int .i64 sb, .bool gb]), .int .i64 l1] (.tuple #[(.agg #[.int .i64 S, .bool true]), .int .i64 Q, .int .i64 0])) (hR : Gives 28 #[.int .i64 5, (.agg #[.int .i64 sa, .bool ga]), .int .i64 l0, (.agg #[.int .i64 sb, .bool gb]), .int .i64 l1] (.tuple #[(.agg #[.int .i64 S, .bool true]), .int .i64 0, .int .i64 0])) (hM : Gives 40 #[.int .i64 3, (.agg #[.int .i64 S, .bool true]), .int .i64 Q, .int .i64 B] (.tuple #[(.agg #[.int .i64 S, .bool true]), .int .i64 M])) (hS : Gives 40 #[.int .i64 1, (.agg #[.int .i64 S, .bool true]), .int .i64 M, .int .i64 0] (.tuple #[(.agg #[.int .i64 S, .bool true]), .int .i64 A])) (h2 : A < 0) (h3 : 0 < B) (hi1 : I64 R) (hi2 : I64 B) (h5 : -B < 0) (hb : ¬ B = 0) : Calls Tryd.prog 7 #[.agg #[.int .i64 sa, .bool ga], .agg #[.int .i64 sb, .bool gb], .agg #[.int .i64 l0, .int .i64 l1]] w fun e w' => e = .returned (.bool true) ∧ Below w.heap.size w w' := by
  have := And.intro hb (And.intro h5 (And.intro hi1 hi2)); clear this
  go_enter Tryd.func7, Tryd.ntmps7
  go_wp2_with fail
  refine (sane_c _ (hp.alloc.alloc.alloc)).mono ?_
  rintro e w1 ⟨rfl, hq⟩
  have HB1 : Hid (Below w.heap.size w w1) := Below.tail (b_alloc (b_alloc (b_alloc (Below.refl _ w)))) hq
  have HP1 := (hp.alloc.alloc.alloc).below hq
  have HA : At w1 (w.heap.size) sa ga := At.below (At.box0.alloc.alloc) hq
  have HX : At w1 (w.heap.size + 1) sb gb := At.below (At.box1.alloc) hq
  have HL : At2 w1 (w.heap.size + 1 + 1) l0 l1 := At2.below (At2.box2) hq
  clear hq
  have HAr := HA; obtain ⟨HAa, HAb, HAc⟩ := HAr
  have HXr := HX; obtain ⟨HXa, HXb, HXc⟩ := HXr
  go_wp2_with fail
  refine (hU _ HP1).mono ?_
  rintro e w2 ⟨rfl, hq⟩
  clear HAa HAb HAc HXa HXb HXc
  have HB2 : Hid (Below w.heap.size w w2) := Below.tail HB1.out hq
  have HP2 := HP1.below hq
  have HA' := HA.below hq
  have HX' := HX.below hq
  have HL' := HL.below hq
  clear hq HB1 HP1
  clear HA HX HL
  have HA := HA'; clear HA'
  have HX := HX'; clear HX'
  have HL := HL'; clear HL'
  have HAr := HA; obtain ⟨HAa, HAb, HAc⟩ := HAr
  have HLr := HL; obtain ⟨HLa, HLb, HLc⟩ := HLr
  go_wp2_with fail
  refine (hA _ HP2.alloc).mono ?_
  rintro e w3 ⟨rfl, hq⟩
  clear HAa HAb HAc HLa HLb HLc
  have HB3 : Hid (Below w.heap.size w w3) := Below.next HB2.out hq
  have HP3 := HP2.next hq
  have HA' := HA.next hq
  have HX' := HX.next hq
  have HL' := HL.next hq
  have H1' := At.fresh (s := S) (g := true) hq
  clear hq HB2 HP2
  clear HA HX HL
  have HA := HA'; clear HA'
  have HX := HX'; clear HX'
  have HL := HL'; clear HL'
  have H1 := H1'; clear H1'
  have HXr := HX; obtain ⟨HXa, HXb, HXc⟩ := HXr
  have H1r := H1; obtain ⟨H1a, H1b, H1c⟩ := H1r
  have HLr := HL; obtain ⟨HLa, HLb, HLc⟩ := HLr
  go_wp2_with fail
  refine (hB _ HP3).mono ?_
  rintro e w4 ⟨rfl, hq⟩
  clear HXa HXb HXc H1a H1b H1c HLa HLb HLc
  have HB4 : Hid (Below w.heap.size w w4) := Below.tail HB3.out hq
  have HP4 := HP3.below hq
  have HA' := HA.below hq
  have HX' := HX.below hq
  have HL' := HL.below hq
  have H1' := H1.below hq
  clear hq HB3 HP3
  clear HA HX HL H1
  have HA := HA'; clear HA'
  have HX := HX'; clear HX'
  have HL := HL'; clear HL'
  have H1 := H1'; clear H1'
  have HAr := HA; obtain ⟨HAa, HAb, HAc⟩ := HAr
  have HXr := HX; obtain ⟨HXa, HXb, HXc⟩ := HXr
  have HLr := HL; obtain ⟨HLa, HLb, HLc⟩ := HLr
  go_wp2_with fail
  refine (hQ _ HP4).mono ?_
  rintro e w5 ⟨rfl, hq⟩
  clear HAa HAb HAc HXa HXb HXc HLa HLb HLc
  have HB5 : Hid (Below w.heap.size w w5) := Below.tail HB4.out hq
  have HP5 := HP4.below hq
  have HA' := HA.below hq
  have HX' := HX.below hq
  have HL' := HL.below hq
  have H1' := H1.below hq
  clear hq HB4 HP4
  clear HA HX HL H1
  have HA := HA'; clear HA'
  have HX := HX'; clear HX'
  have HL := HL'; clear HL'
  have H1 := H1'; clear H1'
  have HAr := HA; obtain ⟨HAa, HAb, HAc⟩ := HAr
  have HXr := HX; obtain ⟨HXa, HXb, HXc⟩ := HXr
  have HLr := HL; obtain ⟨HLa, HLb, HLc⟩ := HLr
  go_wp2_with fail
  refine (hR _ HP5.alloc).mono ?_
  rintro e w6 ⟨rfl, hq⟩
  clear HAa HAb HAc HXa HXb HXc HLa HLb HLc
  have HB6 : Hid (Below w.heap.size w w6) := Below.next HB5.out hq
  have HP6 := HP5.next hq
  have HA' := HA.next hq
  have HX' := HX.next hq
  have HL' := HL.next hq
  have H1' := H1.next hq
  have H2' := At.fresh (s := S) (g := true) hq
  clear hq HB5 HP5
  clear HA HX HL H1
  have HA := HA'; clear HA'
  have HX := HX'; clear HX'
  have HL := HL'; clear HL'
  have H1 := H1'; clear H1'
  have H2 := H2'; clear H2'
  have H1r := H1; obtain ⟨H1a, H1b, H1c⟩ := H1r
  have H2r := H2; obtain ⟨H2a, H2b, H2c⟩ := H2r
  go_wp2_with fail
  refine (hM _ HP6.alloc).mono ?_
  rintro e w7 ⟨rfl, hq⟩
  clear H1a H1b H1c H2a H2b H2c
  have HB7 : Hid (Below w.heap.size w w7) := Below.next HB6.out hq
  have HP7 := HP6.next hq
  have HA' := HA.next hq
  have HX' := HX.next hq
  have HL' := HL.next hq
  have H1' := H1.next hq
  have H2' := H2.next hq
  have H3' := At.fresh (s := S) (g := true) hq
  clear hq HB6 HP6
  clear HA HX HL H1 H2
  have HA := HA'; clear HA'
  have HX := HX'; clear HX'
  have HL := HL'; clear HL'
  have H1 := H1'; clear H1'
  have H2 := H2'; clear H2'
  have H3 := H3'; clear H3'
  have H1r := H1; obtain ⟨H1a, H1b, H1c⟩ := H1r
  go_wp2_with fail
  refine (hS _ HP7.alloc).mono ?_
  rintro e w8 ⟨rfl, hq⟩
  clear H1a H1b H1c
  have HB8 : Hid (Below w.heap.size w w8) := Below.next HB7.out hq
  have HP8 := HP7.next hq
  have HA' := HA.next hq
  have HX' := HX.next hq
  have HL' := HL.next hq
  have H1' := H1.next hq
  have H2' := H2.next hq
  have H3' := H3.next hq
  clear hq HB7 HP7
  clear HA HX HL H1 H2 H3
  have HA := HA'; clear HA'
  have HX := HX'; clear HX'
  have HL := HL'; clear HL'
  have H1 := H1'; clear H1'
  have H2 := H2'; clear H2'
  have H3 := H3'; clear H3'
  have H1r := H1; obtain ⟨H1a, H1b, H1c⟩ := H1r
  go_wp2
  go_ret
  exact ⟨by first | exact rfl | exact ret_true (decide_eq_true (by unfold I64 at hi1 hi2; (try unfold wrap64); omega)), b_alloc HB8.out⟩
set_option maxHeartbeats 4000000 in
set_option maxRecDepth 100000 in
theorem divides_w6 (w : World) (hp : PlainAt w) (hU : Gives 18 #[(.agg #[.int .i64 sa, .bool ga]), (.agg #[.int .i64 sb, .bool gb])] (.tuple #[(.agg #[.int .i64 S, .bool true]), .int .i64 0])) (hA : Gives 22 #[(.agg #[.int .i64 sa, .bool ga]), (.agg #[.int .i64 S, .bool true]), .int .i64 l0] (.tuple #[.int .i64 A, .int .i64 0])) (hB : Gives 22 #[(.agg #[.int .i64 sb, .bool gb]), (.agg #[.int .i64 S, .bool true]), .int .i64 l1] (.tuple #[.int .i64 B, .int .i64 0])) (hQ : Gives 28 #[.int .i64 4, (.agg #[.int .i64 sa, .bool ga]), .int .i64 l0, (.agg #[.int .i64 sb, .bool gb]), .int .i64 l1] (.tuple #[(.agg #[.int .i64 S, .bool true]), .int .i64 Q, .int .i64 0])) (hR : Gives 28 #[.int .i64 5, (.agg #[.int .i64 sa, .bool ga]), .int .i64 l0, (.agg #[.int .i64 sb, .bool gb]), .int .i64 l1] (.tuple #[(.agg #[.int .i64 S, .bool true]), .int .i64 0, .int .i64 0])) (hM : Gives 40 #[.int .i64 3, (.agg #[.int .i64 S, .bool true]), .int .i64 Q, .int .i64 B] (.tuple #[(.agg #[.int .i64 S, .bool true]), .int .i64 M])) (hS : Gives 40 #[.int .i64 1, (.agg #[.int .i64 S, .bool true]), .int .i64 M, .int .i64 0] (.tuple #[(.agg #[.int .i64 S, .bool true]), .int .i64 A])) (h2 : ¬ A < 0) (h3 : B < 0) (hi1 : I64 R) (hi2 : I64 B) (h5 : B < 0) (hb : ¬ B = 0) : Calls Tryd.prog 7 #[.agg #[.int .i64 sa, .bool ga], .agg #[.int .i64 sb, .bool gb], .agg #[.int .i64 l0, .int .i64 l1]] w fun e w' => e = .returned (.bool true) ∧ Below w.heap.size w w' := by
  have := And.intro hb (And.intro h5 (And.intro hi1 hi2)); clear this
  go_enter Tryd.func7, Tryd.ntmps7
  go_wp2_with fail
  refine (sane_c _ (hp.alloc.alloc.alloc)).mono ?_
  rintro e w1 ⟨rfl, hq⟩
  have HB1 : Hid (Below w.heap.size w w1) := Below.tail (b_alloc (b_alloc (b_alloc (Below.refl _ w)))) hq
  have HP1 := (hp.alloc.alloc.alloc).below hq
  have HA : At w1 (w.heap.size) sa ga := At.below (At.box0.alloc.alloc) hq
  have HX : At w1 (w.heap.size + 1) sb gb := At.below (At.box1.alloc) hq
  have HL : At2 w1 (w.heap.size + 1 + 1) l0 l1 := At2.below (At2.box2) hq
  clear hq
  have HAr := HA; obtain ⟨HAa, HAb, HAc⟩ := HAr
  have HXr := HX; obtain ⟨HXa, HXb, HXc⟩ := HXr
  go_wp2_with fail
  refine (hU _ HP1).mono ?_
  rintro e w2 ⟨rfl, hq⟩
  clear HAa HAb HAc HXa HXb HXc
  have HB2 : Hid (Below w.heap.size w w2) := Below.tail HB1.out hq
  have HP2 := HP1.below hq
  have HA' := HA.below hq
  have HX' := HX.below hq
  have HL' := HL.below hq
  clear hq HB1 HP1
  clear HA HX HL
  have HA := HA'; clear HA'
  have HX := HX'; clear HX'
  have HL := HL'; clear HL'
  have HAr := HA; obtain ⟨HAa, HAb, HAc⟩ := HAr
  have HLr := HL; obtain ⟨HLa, HLb, HLc⟩ := HLr
  go_wp2_with fail
  refine (hA _ HP2.alloc).mono ?_
  rintro e w3 ⟨rfl, hq⟩
  clear HAa HAb HAc HLa HLb HLc
  have HB3 : Hid (Below w.heap.size w w3) := Below.next HB2.out hq
  have HP3 := HP2.next hq
  have HA' := HA.next hq
  have HX' := HX.next hq
  have HL' := HL.next hq
  have H1' := At.fresh (s := S) (g := true) hq
  clear hq HB2 HP2
  clear HA HX HL
  have HA := HA'; clear HA'
  have HX := HX'; clear HX'
  have HL := HL'; clear HL'
  have H1 := H1'; clear H1'
  have HXr := HX; obtain ⟨HXa, HXb, HXc⟩ := HXr
  have H1r := H1; obtain ⟨H1a, H1b, H1c⟩ := H1r
  have HLr := HL; obtain ⟨HLa, HLb, HLc⟩ := HLr
  go_wp2_with fail
  refine (hB _ HP3).mono ?_
  rintro e w4 ⟨rfl, hq⟩
  clear HXa HXb HXc H1a H1b H1c HLa HLb HLc
  have HB4 : Hid (Below w.heap.size w w4) := Below.tail HB3.out hq
  have HP4 := HP3.below hq
  have HA' := HA.below hq
  have HX' := HX.below hq
  have HL' := HL.below hq
  have H1' := H1.below hq
  clear hq HB3 HP3
  clear HA HX HL H1
  have HA := HA'; clear HA'
  have HX := HX'; clear HX'
  have HL := HL'; clear HL'
  have H1 := H1'; clear H1'
  have HAr := HA; obtain ⟨HAa, HAb, HAc⟩ := HAr
  have HXr := HX; obtain ⟨HXa, HXb, HXc⟩ := HXr
  have HLr := HL; obtain ⟨HLa, HLb, HLc⟩ := HLr
  go_wp2_with fail
  refine (hQ _ HP4).mono ?_
  rintro e w5 ⟨rfl, hq⟩
  clear HAa HAb HAc HXa HXb HXc HLa HLb HLc
  have HB5 : Hid (Below w.heap.size w w5) := Below.tail HB4.out hq
  have HP5 := HP4.below hq
  have HA' := HA.below hq
  have HX' := HX.below hq
  have HL' := HL.below hq
  have H1' := H1.below hq
  clear hq HB4 HP4
  clear HA HX HL H1
  have HA := HA'; clear HA'
  have HX := HX'; clear HX'
  have HL := HL'; clear HL'
  have H1 := H1'; clear H1'
  have HAr := HA; obtain ⟨HAa, HAb, HAc⟩ := HAr
  have HXr := HX; obtain ⟨HXa, HXb, HXc⟩ := HXr
  have HLr := HL; obtain ⟨HLa, HLb, HLc⟩ := HLr
  go_wp2_with fail
  refine (hR _ HP5.alloc).mono ?_
  rintro e w6 ⟨rfl, hq⟩
  clear HAa HAb HAc HXa HXb HXc HLa HLb HLc
  have HB6 : Hid (Below w.heap.size w w6) := Below.next HB5.out hq
  have HP6 := HP5.next hq
  have HA' := HA.next hq
  have HX' := HX.next hq
  have HL' := HL.next hq
  have H1' := H1.next hq
  have H2' := At.fresh (s := S) (g := true) hq
  clear hq HB5 HP5
  clear HA HX HL H1
  have HA := HA'; clear HA'
  have HX := HX'; clear HX'
  have HL := HL'; clear HL'
  have H1 := H1'; clear H1'
  have H2 := H2'; clear H2'
  have H1r := H1; obtain ⟨H1a, H1b, H1c⟩ := H1r
  have H2r := H2; obtain ⟨H2a, H2b, H2c⟩ := H2r
  go_wp2_with fail
  refine (hM _ HP6.alloc).mono ?_
  rintro e w7 ⟨rfl, hq⟩
  clear H1a H1b H1c H2a H2b H2c
  have HB7 : Hid (Below w.heap.size w w7) := Below.next HB6.out hq
  have HP7 := HP6.next hq
  have HA' := HA.next hq
  have HX' := HX.next hq
  have HL' := HL.next hq
  have H1' := H1.next hq
  have H2' := H2.next hq
  have H3' := At.fresh (s := S) (g := true) hq
  clear hq HB6 HP6
  clear HA HX HL H1 H2
  have HA := HA'; clear HA'
  have HX := HX'; clear HX'
  have HL := HL'; clear HL'
  have H1 := H1'; clear H1'
  have H2 := H2'; clear H2'
  have H3 := H3'; clear H3'
  have H1r := H1; obtain ⟨H1a, H1b, H1c⟩ := H1r
  go_wp2_with fail
  refine (hS _ HP7.alloc).mono ?_
  rintro e w8 ⟨rfl, hq⟩
  clear H1a H1b H1c
  have HB8 : Hid (Below w.heap.size w w8) := Below.next HB7.out hq
  have HP8 := HP7.next hq
  have HA' := HA.next hq
  have HX' := HX.next hq
  have HL' := HL.next hq
  have H1' := H1.next hq
  have H2' := H2.next hq
  have H3' := H3.next hq
  clear hq HB7 HP7
  clear HA HX HL H1 H2 H3
  have HA := HA'; clear HA'
  have HX := HX'; clear HX'
  have HL := HL'; clear HL'
  have H1 := H1'; clear H1'
  have H2 := H2'; clear H2'
  have H3 := H3'; clear H3'
  have H1r := H1; obtain ⟨H1a, H1b, H1c⟩ := H1r
  go_wp2
  go_ret
  exact ⟨rfl, b_alloc HB8.out⟩
set_option maxHeartbeats 4000000 in
set_option maxRecDepth 100000 in
theorem divides_w7 (w : World) (hp : PlainAt w) (hU : Gives 18 #[(.agg #[.int .i64 sa, .bool ga]), (.agg #[.int .i64 sb, .bool gb])] (.tuple #[(.agg #[.int .i64 S, .bool true]), .int .i64 0])) (hA : Gives 22 #[(.agg #[.int .i64 sa, .bool ga]), (.agg #[.int .i64 S, .bool true]), .int .i64 l0] (.tuple #[.int .i64 A, .int .i64 0])) (hB : Gives 22 #[(.agg #[.int .i64 sb, .bool gb]), (.agg #[.int .i64 S, .bool true]), .int .i64 l1] (.tuple #[.int .i64 B, .int .i64 0])) (hQ : Gives 28 #[.int .i64 4, (.agg #[.int .i64 sa, .bool ga]), .int .i64 l0, (.agg #[.int .i64 sb, .bool gb]), .int .i64 l1] (.tuple #[(.agg #[.int .i64 S, .bool true]), .int .i64 Q, .int .i64 0])) (hR : Gives 28 #[.int .i64 5, (.agg #[.int .i64 sa, .bool ga]), .int .i64 l0, (.agg #[.int .i64 sb, .bool gb]), .int .i64 l1] (.tuple #[(.agg #[.int .i64 S, .bool true]), .int .i64 0, .int .i64 0])) (hM : Gives 40 #[.int .i64 3, (.agg #[.int .i64 S, .bool true]), .int .i64 Q, .int .i64 B] (.tuple #[(.agg #[.int .i64 S, .bool true]), .int .i64 M])) (hS : Gives 40 #[.int .i64 1, (.agg #[.int .i64 S, .bool true]), .int .i64 M, .int .i64 0] (.tuple #[(.agg #[.int .i64 S, .bool true]), .int .i64 A])) (h2 : ¬ A < 0) (h3 : 0 < B) (hi1 : I64 R) (hi2 : I64 B) (h5 : -B < 0) (hb : ¬ B = 0) : Calls Tryd.prog 7 #[.agg #[.int .i64 sa, .bool ga], .agg #[.int .i64 sb, .bool gb], .agg #[.int .i64 l0, .int .i64 l1]] w fun e w' => e = .returned (.bool true) ∧ Below w.heap.size w w' := by
  have := And.intro hb (And.intro h5 (And.intro hi1 hi2)); clear this
  go_enter Tryd.func7, Tryd.ntmps7
  go_wp2_with fail
  refine (sane_c _ (hp.alloc.alloc.alloc)).mono ?_
  rintro e w1 ⟨rfl, hq⟩
  have HB1 : Hid (Below w.heap.size w w1) := Below.tail (b_alloc (b_alloc (b_alloc (Below.refl _ w)))) hq
  have HP1 := (hp.alloc.alloc.alloc).below hq
  have HA : At w1 (w.heap.size) sa ga := At.below (At.box0.alloc.alloc) hq
  have HX : At w1 (w.heap.size + 1) sb gb := At.below (At.box1.alloc) hq
  have HL : At2 w1 (w.heap.size + 1 + 1) l0 l1 := At2.below (At2.box2) hq
  clear hq
  have HAr := HA; obtain ⟨HAa, HAb, HAc⟩ := HAr
  have HXr := HX; obtain ⟨HXa, HXb, HXc⟩ := HXr
  go_wp2_with fail
  refine (hU _ HP1).mono ?_
  rintro e w2 ⟨rfl, hq⟩
  clear HAa HAb HAc HXa HXb HXc
  have HB2 : Hid (Below w.heap.size w w2) := Below.tail HB1.out hq
  have HP2 := HP1.below hq
  have HA' := HA.below hq
  have HX' := HX.below hq
  have HL' := HL.below hq
  clear hq HB1 HP1
  clear HA HX HL
  have HA := HA'; clear HA'
  have HX := HX'; clear HX'
  have HL := HL'; clear HL'
  have HAr := HA; obtain ⟨HAa, HAb, HAc⟩ := HAr
  have HLr := HL; obtain ⟨HLa, HLb, HLc⟩ := HLr
  go_wp2_with fail
  refine (hA _ HP2.alloc).mono ?_
  rintro e w3 ⟨rfl, hq⟩
  clear HAa HAb HAc HLa HLb HLc
  have HB3 : Hid (Below w.heap.size w w3) := Below.next HB2.out hq
  have HP3 := HP2.next hq
  have HA' := HA.next hq
  have HX' := HX.next hq
  have HL' := HL.next hq
  have H1' := At.fresh (s := S) (g := true) hq
  clear hq HB2 HP2
  clear HA HX HL
  have HA := HA'; clear HA'
  have HX := HX'; clear HX'
  have HL := HL'; clear HL'
  have H1 := H1'; clear H1'
  have HXr := HX; obtain ⟨HXa, HXb, HXc⟩ := HXr
  have H1r := H1; obtain ⟨H1a, H1b, H1c⟩ := H1r
  have HLr := HL; obtain ⟨HLa, HLb, HLc⟩ := HLr
  go_wp2_with fail
  refine (hB _ HP3).mono ?_
  rintro e w4 ⟨rfl, hq⟩
  clear HXa HXb HXc H1a H1b H1c HLa HLb HLc
  have HB4 : Hid (Below w.heap.size w w4) := Below.tail HB3.out hq
  have HP4 := HP3.below hq
  have HA' := HA.below hq
  have HX' := HX.below hq
  have HL' := HL.below hq
  have H1' := H1.below hq
  clear hq HB3 HP3
  clear HA HX HL H1
  have HA := HA'; clear HA'
  have HX := HX'; clear HX'
  have HL := HL'; clear HL'
  have H1 := H1'; clear H1'
  have HAr := HA; obtain ⟨HAa, HAb, HAc⟩ := HAr
  have HXr := HX; obtain ⟨HXa, HXb, HXc⟩ := HXr
  have HLr := HL; obtain ⟨HLa, HLb, HLc⟩ := HLr
  go_wp2_with fail
  refine (hQ _ HP4).mono ?_
  rintro e w5 ⟨rfl, hq⟩
  clear HAa HAb HAc HXa HXb HXc HLa HLb HLc
  have HB5 : Hid (Below w.heap.size w w5) := Below.tail HB4.out hq
  have HP5 := HP4.below hq
  have HA' := HA.below hq
  have HX' := HX.below hq
  have HL' := HL.below hq
  have H1' := H1.below hq
  clear hq HB4 HP4
  clear HA HX HL H1
  have HA := HA'; clear HA'
  have HX := HX'; clear HX'
  have HL := HL'; clear HL'
  have H1 := H1'; clear H1'
  have HAr := HA; obtain ⟨HAa, HAb, HAc⟩ := HAr
  have HXr := HX; obtain ⟨HXa, HXb, HXc⟩ := HXr
  have HLr := HL; obtain ⟨HLa, HLb, HLc⟩ := HLr
  go_wp2_with fail
  refine (hR _ HP5.alloc).mono ?_
  rintro e w6 ⟨rfl, hq⟩
  clear HAa HAb HAc HXa HXb HXc HLa HLb HLc
  have HB6 : Hid (Below w.heap.size w w6) := Below.next HB5.out hq
  have HP6 := HP5.next hq
  have HA' := HA.next hq
  have HX' := HX.next hq
  have HL' := HL.next hq
  have H1' := H1.next hq
  have H2' := At.fresh (s := S) (g := true) hq
  clear hq HB5 HP5
  clear HA HX HL H1
  have HA := HA'; clear HA'
  have HX := HX'; clear HX'
  have HL := HL'; clear HL'
  have H1 := H1'; clear H1'
  have H2 := H2'; clear H2'
  have H1r := H1; obtain ⟨H1a, H1b, H1c⟩ := H1r
  have H2r := H2; obtain ⟨H2a, H2b, H2c⟩ := H2r
  go_wp2_with fail
  refine (hM _ HP6.alloc).mono ?_
  rintro e w7 ⟨rfl, hq⟩
  clear H1a H1b H1c H2a H2b H2c
  have HB7 : Hid (Below w.heap.size w w7) := Below.next HB6.out hq
  have HP7 := HP6.next hq
  have HA' := HA.next hq
  have HX' := HX.next hq
  have HL' := HL.next hq
  have H1' := H1.next hq
  have H2' := H2.next hq
  have H3' := At.fresh (s := S) (g := true) hq
  clear hq HB6 HP6
  clear HA HX HL H1 H2
  have HA := HA'; clear HA'
  have HX := HX'; clear HX'
  have HL := HL'; clear HL'
  have H1 := H1'; clear H1'
  have H2 := H2'; clear H2'
  have H3 := H3'; clear H3'
  have H1r := H1; obtain ⟨H1a, H1b, H1c⟩ := H1r
  go_wp2_with fail
  refine (hS _ HP7.alloc).mono ?_
  rintro e w8 ⟨rfl, hq⟩
  clear H1a H1b H1c
  have HB8 : Hid (Below w.heap.size w w8) := Below.next HB7.out hq
  have HP8 := HP7.next hq
  have HA' := HA.next hq
  have HX' := HX.next hq
  have HL' := HL.next hq
  have H1' := H1.next hq
  have H2' := H2.next hq
  have H3' := H3.next hq
  clear hq HB7 HP7
  clear HA HX HL H1 H2 H3
  have HA := HA'; clear HA'
  have HX := HX'; clear HX'
  have HL := HL'; clear HL'
  have H1 := H1'; clear H1'
  have H2 := H2'; clear H2'
  have H3 := H3'; clear H3'
  have H1r := H1; obtain ⟨H1a, H1b, H1c⟩ := H1r
  go_wp2
  go_ret
  exact ⟨by first | exact rfl | exact ret_true (decide_eq_true (by unfold I64 at hi1 hi2; (try unfold wrap64); omega)), b_alloc HB8.out⟩
set_option maxHeartbeats 4000000 in
set_option maxRecDepth 100000 in
theorem divides_w8 (w : World) (hp : PlainAt w) (hU : Gives 18 #[(.agg #[.int .i64 sa, .bool ga]), (.agg #[.int .i64 sb, .bool gb])] (.tuple #[(.agg #[.int .i64 S, .bool true]), .int .i64 0])) (hA : Gives 22 #[(.agg #[.int .i64 sa, .bool ga]), (.agg #[.int .i64 S, .bool true]), .int .i64 l0] (.tuple #[.int .i64 A, .int .i64 0])) (hB : Gives 22 #[(.agg #[.int .i64 sb, .bool gb]), (.agg #[.int .i64 S, .bool true]), .int .i64 l1] (.tuple #[.int .i64 B, .int .i64 0])) (hQ : Gives 28 #[.int .i64 4, (.agg #[.int .i64 sa, .bool ga]), .int .i64 l0, (.agg #[.int .i64 sb, .bool gb]), .int .i64 l1] (.tuple #[(.agg #[.int .i64 S, .bool true]), .int .i64 Q, .int .i64 0])) (hR : Gives 28 #[.int .i64 5, (.agg #[.int .i64 sa, .bool ga]), .int .i64 l0, (.agg #[.int .i64 sb, .bool gb]), .int .i64 l1] (.tuple #[(.agg #[.int .i64 S, .bool true]), .int .i64 R, .int .i64 0])) (hM : Gives 40 #[.int .i64 3, (.agg #[.int .i64 S, .bool true]), .int .i64 Q, .int .i64 B] (.tuple #[(.agg #[.int .i64 S, .bool true]), .int .i64 M])) (hS : Gives 40 #[.int .i64 1, (.agg #[.int .i64 S, .bool true]), .int .i64 M, .int .i64 R] (.tuple #[(.agg #[.int .i64 S, .bool true]), .int .i64 A])) (h1 : R < 0) (h2 : A < 0) (h3 : B < 0) (hi1 : I64 R) (hi2 : I64 B) (h5 : B < R) (hb : ¬ B = 0) : Calls Tryd.prog 7 #[.agg #[.int .i64 sa, .bool ga], .agg #[.int .i64 sb, .bool gb], .agg #[.int .i64 l0, .int .i64 l1]] w fun e w' => e = .returned (.bool true) ∧ Below w.heap.size w w' := by
  have := And.intro hb (And.intro h5 (And.intro hi1 hi2)); clear this
  go_enter Tryd.func7, Tryd.ntmps7
  go_wp2_with fail
  refine (sane_c _ (hp.alloc.alloc.alloc)).mono ?_
  rintro e w1 ⟨rfl, hq⟩
  have HB1 : Hid (Below w.heap.size w w1) := Below.tail (b_alloc (b_alloc (b_alloc (Below.refl _ w)))) hq
  have HP1 := (hp.alloc.alloc.alloc).below hq
  have HA : At w1 (w.heap.size) sa ga := At.below (At.box0.alloc.alloc) hq
  have HX : At w1 (w.heap.size + 1) sb gb := At.below (At.box1.alloc) hq
  have HL : At2 w1 (w.heap.size + 1 + 1) l0 l1 := At2.below (At2.box2) hq
  clear hq
  have HAr := HA; obtain ⟨HAa, HAb, HAc⟩ := HAr
  have HXr := HX; obtain ⟨HXa, HXb, HXc⟩ := HXr
  go_wp2_with fail
  refine (hU _ HP1).mono ?_
  rintro e w2 ⟨rfl, hq⟩
  clear HAa HAb HAc HXa HXb HXc
  have HB2 : Hid (Below w.heap.size w w2) := Below.tail HB1.out hq
  have HP2 := HP1.below hq
  have HA' := HA.below hq
  have HX' := HX.below hq
  have HL' := HL.below hq
  clear hq HB1 HP1
  clear HA HX HL
  have HA := HA'; clear HA'
  have HX := HX'; clear HX'
  have HL := HL'; clear HL'
  have HAr := HA; obtain ⟨HAa, HAb, HAc⟩ := HAr
  have HLr := HL; obtain ⟨HLa, HLb, HLc⟩ := HLr
  go_wp2_with fail
  refine (hA _ HP2.alloc).mono ?_
  rintro e w3 ⟨rfl, hq⟩
  clear HAa HAb HAc HLa HLb HLc
  have HB3 : Hid (Below w.heap.size w w3) := Below.next HB2.out hq
  have HP3 := HP2.next hq
  have HA' := HA.next hq
  have HX' := HX.next hq
  have HL' := HL.next hq
  have H1' := At.fresh (s := S) (g := true) hq
  clear hq HB2 HP2
  clear HA HX HL
  have HA := HA'; clear HA'
  have HX := HX'; clear HX'
  have HL := HL'; clear HL'
  have H1 := H1'; clear H1'
  have HXr := HX; obtain ⟨HXa, HXb, HXc⟩ := HXr
  have H1r := H1; obtain ⟨H1a, H1b, H1c⟩ := H1r
  have HLr := HL; obtain ⟨HLa, HLb, HLc⟩ := HLr
  go_wp2_with fail
  refine (hB _ HP3).mono ?_
  rintro e w4 ⟨rfl, hq⟩
  clear HXa HXb HXc H1a H1b H1c HLa HLb HLc
  have HB4 : Hid (Below w.heap.size w w4) := Below.tail HB3.out hq
  have HP4 := HP3.below hq
  have HA' := HA.below hq
  have HX' := HX.below hq
  have HL' := HL.below hq
  have H1' := H1.below hq
  clear hq HB3 HP3
  clear HA HX HL H1
  have HA := HA'; clear HA'
  have HX := HX'; clear HX'
  have HL := HL'; clear HL'
  have H1 := H1'; clear H1'
  have HAr := HA; obtain ⟨HAa, HAb, HAc⟩ := HAr
  have HXr := HX; obtain ⟨HXa, HXb, HXc⟩ := HXr
  have HLr := HL; obtain ⟨HLa, HLb, HLc⟩ := HLr
  go_wp2_with fail
  refine (hQ _ HP4).mono ?_
  rintro e w5 ⟨rfl, hq⟩
  clear HAa HAb HAc HXa HXb HXc HLa HLb HLc
  have HB5 : Hid (Below w.heap.size w w5) := Below.tail HB4.out hq
  have HP5 := HP4.below hq
  have HA' := HA.below hq
  have HX' := HX.below hq
  have HL' := HL.below hq
  have H1' := H1.below hq
  clear hq HB4 HP4
  clear HA HX HL H1
  have HA := HA'; clear HA'
  have HX := HX'; clear HX'
  have HL := HL'; clear HL'
  have H1 := H1'; clear H1'
  have HAr := HA; obtain ⟨HAa, HAb, HAc⟩ := HAr
  have HXr := HX; obtain ⟨HXa, HXb, HXc⟩ := HXr
  have HLr := HL; obtain ⟨HLa, HLb, HLc⟩ := HLr
  go_wp2_with fail
  refine (hR _ HP5.alloc).mono ?_
  rintro e w6 ⟨rfl, hq⟩
  clear HAa HAb HAc HXa HXb HXc HLa HLb HLc
  have HB6 : Hid (Below w.heap.size w w6) := Below.next HB5.out hq
  have HP6 := HP5.next hq
  have HA' := HA.next hq
  have HX' := HX.next hq
  have HL' := HL.next hq
  have H1' := H1.next hq
  have H2' := At.fresh (s := S) (g := true) hq
  clear hq HB5 HP5
  clear HA HX HL H1
  have HA := HA'; clear HA'
  have HX := HX'; clear HX'
  have HL := HL'; clear HL'
  have H1 := H1'; clear H1'
  have H2 := H2'; clear H2'
  have H1r := H1; obtain ⟨H1a, H1b, H1c⟩ := H1r
  have H2r := H2; obtain ⟨H2a, H2b, H2c⟩ := H2r
  go_wp2_with fail
  refine (hM _ HP6.alloc).mono ?_
  rintro e w7 ⟨rfl, hq⟩
  clear H1a H1b H1c H2a H2b H2c
  have HB7 : Hid (Below w.heap.size w w7) := Below.next HB6.out hq
  have HP7 := HP6.next hq
  have HA' := HA.next hq
  have HX' := HX.next hq
  have HL' := HL.next hq
  have H1' := H1.next hq
  have H2' := H2.next hq
  have H3' := At.fresh (s := S) (g := true) hq
  clear hq HB6 HP6
  clear HA HX HL H1 H2
  have HA := HA'; clear HA'
  have HX := HX'; clear HX'
  have HL := HL'; clear HL'
  have H1 := H1'; clear H1'
  have H2 := H2'; clear H2'
  have H3 := H3'; clear H3'
  have H1r := H1; obtain ⟨H1a, H1b, H1c⟩ := H1r
  go_wp2_with fail
  refine (hS _ HP7.alloc).mono ?_
  rintro e w8 ⟨rfl, hq⟩
  clear H1a H1b H1c
  have HB8 : Hid (Below w.heap.size w w8) := Below.next HB7.out hq
  have HP8 := HP7.next hq
  have HA' := HA.next hq
  have HX' := HX.next hq
  have HL' := HL.next hq
  have H1' := H1.next hq
  have H2' := H2.next hq
  have H3' := H3.next hq
  clear hq HB7 HP7
  clear HA HX HL H1 H2 H3
  have HA := HA'; clear HA'
  have HX := HX'; clear HX'
  have HL := HL'; clear HL'
  have H1 := H1'; clear H1'
  have H2 := H2'; clear H2'
  have H3 := H3'; clear H3'
  have H1r := H1; obtain ⟨H1a, H1b, H1c⟩ := H1r
  go_wp2
  go_ret
  exact ⟨by first | exact rfl | exact ret_true (decide_eq_true (by unfold I64 at hi1 hi2; (try unfold wrap64); omega)), b_alloc HB8.out⟩
set_option maxHeartbeats 4000000 in
set_option maxRecDepth 100000 in
theorem divides_w9 (w : World) (hp : PlainAt w) (hU : Gives 18 #[(.agg #[.int .i64 sa, .bool ga]), (.agg #[.int .i64 sb, .bool gb])] (.tuple #[(.agg #[.int .i64 S, .bool true]), .int .i64 0])) (hA : Gives 22 #[(.agg #[.int .i64 sa, .bool ga]), (.agg #[.int .i64 S, .bool true]), .int .i64 l0] (.tuple #[.int .i64 A, .int .i64 0])) (hB : Gives 22 #[(.agg #[.int .i64 sb, .bool gb]), (.agg #[.int .i64 S, .bool true]), .int .i64 l1] (.tuple #[.int .i64 B, .int .i64 0])) (hQ : Gives 28 #[.int .i64 4, (.agg #[.int .i64 sa, .bool ga]), .int .i64 l0, (.agg #[.int .i64 sb, .bool gb]), .int .i64 l1] (.tuple #[(.agg #[.int .i64 S, .bool true]), .int .i64 Q, .int .i64 0])) (hR : Gives 28 #[.int .i64 5, (.agg #[.int .i64 sa, .bool ga]), .int .i64 l0, (.agg #[.int .i64 sb, .bool gb]), .int .i64 l1] (.tuple #[(.agg #[.int .i64 S, .bool true]), .int .i64 R, .int .i64 0])) (hM : Gives 40 #[.int .i64 3, (.agg #[.int .i64 S, .bool true]), .int .i64 Q, .int .i64 B] (.tuple #[(.agg #[.int .i64 S, .bool true]), .int .i64 M])) (hS : Gives 40 #[.int .i64 1, (.agg #[.int .i64 S, .bool true]), .int .i64 M, .int .i64 R] (.tuple #[(.agg #[.int .i64 S, .bool true]), .int .i64 A])) (h1 : R < 0) (h2 : A < 0) (h3 : 0 < B) (hi1 : I64 R) (hi2 : I64 B) (h5 : -B < R) (hb : ¬ B = 0) : Calls Tryd.prog 7 #[.agg #[.int .i64 sa, .bool ga], .agg #[.int .i64 sb, .bool gb], .agg #[.int .i64 l0, .int .i64 l1]] w fun e w' => e = .returned (.bool true) ∧ Below w.heap.size w w' := by
  have := And.intro hb (And.intro h5 (And.intro hi1 hi2)); clear this
  go_enter Tryd.func7, Tryd.ntmps7
  go_wp2_with fail
  refine (sane_c _ (hp.alloc.alloc.alloc)).mono ?_
  rintro e w1 ⟨rfl, hq⟩
  have HB1 : Hid (Below w.heap.size w w1) := Below.tail (b_alloc (b_alloc (b_alloc (Below.refl _ w)))) hq
  have HP1 := (hp.alloc.alloc.alloc).below hq
  have HA : At w1 (w.heap.size) sa ga := At.below (At.box0.alloc.alloc) hq
  have HX : At w1 (w.heap.size + 1) sb gb := At.below (At.box1.alloc) hq
  have HL : At2 w1 (w.heap.size + 1 + 1) l0 l1 := At2.below (At2.box2) hq
  clear hq
  have HAr := HA; obtain ⟨HAa, HAb, HAc⟩ := HAr
  have HXr := HX; obtain ⟨HXa, HXb, HXc⟩ := HXr
  go_wp2_with fail
  refine (hU _ HP1).mono ?_
  rintro e w2 ⟨rfl, hq⟩
  clear HAa HAb HAc HXa HXb HXc
  have HB2 : Hid (Below w.heap.size w w2) := Below.tail HB1.out hq
  have HP2 := HP1.below hq
  have HA' := HA.below hq
  have HX' := HX.below hq
  have HL' := HL.below hq
  clear hq HB1 HP1
  clear HA HX HL
  have HA := HA'; clear HA'
  have HX := HX'; clear HX'
  have HL := HL'; clear HL'
  have HAr := HA; obtain ⟨HAa, HAb, HAc⟩ := HAr
  have HLr := HL; obtain ⟨HLa, HLb, HLc⟩ := HLr
  go_wp2_with fail
  refine (hA _ HP2.alloc).mono ?_
  rintro e w3 ⟨rfl, hq⟩
  clear HAa HAb HAc HLa HLb HLc
  have HB3 : Hid (Below w.heap.size w w3) := Below.next HB2.out hq
  have HP3 := HP2.next hq
  have HA' := HA.next hq
  have HX' := HX.next hq
  have HL' := HL.next hq
  have H1' := At.fresh (s := S) (g := true) hq
  clear hq HB2 HP2
  clear HA HX HL
  have HA := HA'; clear HA'
  have HX := HX'; clear HX'
  have HL := HL'; clear HL'
  have H1 := H1'; clear H1'
  have HXr := HX; obtain ⟨HXa, HXb, HXc⟩ := HXr
  have H1r := H1; obtain ⟨H1a, H1b, H1c⟩ := H1r
  have HLr := HL; obtain ⟨HLa, HLb, HLc⟩ := HLr
  go_wp2_with fail
  refine (hB _ HP3).mono ?_
  rintro e w4 ⟨rfl, hq⟩
  clear HXa HXb HXc H1a H1b H1c HLa HLb HLc
  have HB4 : Hid (Below w.heap.size w w4) := Below.tail HB3.out hq
  have HP4 := HP3.below hq
  have HA' := HA.below hq
  have HX' := HX.below hq
  have HL' := HL.below hq
  have H1' := H1.below hq
  clear hq HB3 HP3
  clear HA HX HL H1
  have HA := HA'; clear HA'
  have HX := HX'; clear HX'
  have HL := HL'; clear HL'
  have H1 := H1'; clear H1'
  have HAr := HA; obtain ⟨HAa, HAb, HAc⟩ := HAr
  have HXr := HX; obtain ⟨HXa, HXb, HXc⟩ := HXr
  have HLr := HL; obtain ⟨HLa, HLb, HLc⟩ := HLr
  go_wp2_with fail
  refine (hQ _ HP4).mono ?_
  rintro e w5 ⟨rfl, hq⟩
  clear HAa HAb HAc HXa HXb HXc HLa HLb HLc
  have HB5 : Hid (Below w.heap.size w w5) := Below.tail HB4.out hq
  have HP5 := HP4.below hq
  have HA' := HA.below hq
  have HX' := HX.below hq
  have HL' := HL.below hq
  have H1' := H1.below hq
  clear hq HB4 HP4
  clear HA HX HL H1
  have HA := HA'; clear HA'
  have HX := HX'; clear HX'
  have HL := HL'; clear HL'
  have H1 := H1'; clear H1'
  have HAr := HA; obtain ⟨HAa, HAb, HAc⟩ := HAr
  have HXr := HX; obtain ⟨HXa, HXb, HXc⟩ := HXr
  have HLr := HL; obtain ⟨HLa, HLb, HLc⟩ := HLr
  go_wp2_with fail
  refine (hR _ HP5.alloc).mono ?_
  rintro e w6 ⟨rfl, hq⟩
  clear HAa HAb HAc HXa HXb HXc HLa HLb HLc
  have HB6 : Hid (Below w.heap.size w w6) := Below.next HB5.out hq
  have HP6 := HP5.next hq
  have HA' := HA.next hq
  have HX' := HX.next hq
  have HL' := HL.next hq
  have H1' := H1.next hq
  have H2' := At.fresh (s := S) (g := true) hq
  clear hq HB5 HP5
  clear HA HX HL H1
  have HA := HA'; clear HA'
  have HX := HX'; clear HX'
  have HL := HL'; clear HL'
  have H1 := H1'; clear H1'
  have H2 := H2'; clear H2'
  have H1r := H1; obtain ⟨H1a, H1b, H1c⟩ := H1r
  have H2r := H2; obtain ⟨H2a, H2b, H2c⟩ := H2r
  go_wp2_with fail
  refine (hM _ HP6.alloc).mono ?_
  rintro e w7 ⟨rfl, hq⟩
  clear H1a H1b H1c H2a H2b H2c
  have HB7 : Hid (Below w.heap.size w w7) := Below.next HB6.out hq
  have HP7 := HP6.next hq
  have HA' := HA.next hq
  have HX' := HX.next hq
  have HL' := HL.next hq
  have H1' := H1.next hq
  have H2' := H2.next hq
  have H3' := At.fresh (s := S) (g := true) hq
  clear hq HB6 HP6
  clear HA HX HL H1 H2
  have HA := HA'; clear HA'
  have HX := HX'; clear HX'
  have HL := HL'; clear HL'
  have H1 := H1'; clear H1'
  have H2 := H2'; clear H2'
  have H3 := H3'; clear H3'
  have H1r := H1; obtain ⟨H1a, H1b, H1c⟩ := H1r
  go_wp2_with fail
  refine (hS _ HP7.alloc).mono ?_
  rintro e w8 ⟨rfl, hq⟩
  clear H1a H1b H1c
  have HB8 : Hid (Below w.heap.size w w8) := Below.next HB7.out hq
  have HP8 := HP7.next hq
  have HA' := HA.next hq
  have HX' := HX.next hq
  have HL' := HL.next hq
  have H1' := H1.next hq
  have H2' := H2.next hq
  have H3' := H3.next hq
  clear hq HB7 HP7
  clear HA HX HL H1 H2 H3
  have HA := HA'; clear HA'
  have HX := HX'; clear HX'
  have HL := HL'; clear HL'
  have H1 := H1'; clear H1'
  have H2 := H2'; clear H2'
  have H3 := H3'; clear H3'
  have H1r := H1; obtain ⟨H1a, H1b, H1c⟩ := H1r
  go_wp2
  go_ret
  exact ⟨by first | exact rfl | exact ret_true (decide_eq_true (by unfold I64 at hi1 hi2; (try unfold wrap64); omega)), b_alloc HB8.out⟩
set_option maxHeartbeats 4000000 in
set_option maxRecDepth 100000 in
theorem divides_w10 (w : World) (hp : PlainAt w) (hU : Gives 18 #[(.agg #[.int .i64 sa, .bool ga]), (.agg #[.int .i64 sb, .bool gb])] (.tuple #[(.agg #[.int .i64 S, .bool true]), .int .i64 0])) (hA : Gives 22 #[(.agg #[.int .i64 sa, .bool ga]), (.agg #[.int .i64 S, .bool true]), .int .i64 l0] (.tuple #[.int .i64 A, .int .i64 0])) (hB : Gives 22 #[(.agg #[.int .i64 sb, .bool gb]), (.agg #[.int .i64 S, .bool true]), .int .i64 l1] (.tuple #[.int .i64 B, .int .i64 0])) (hQ : Gives 28 #[.int .i64 4, (.agg #[.int .i64 sa, .bool ga]), .int .i64 l0, (.agg #[.int .i64 sb, .bool gb]), .int .i64 l1] (.tuple #[(.agg #[.int .i64 S, .bool true]), .int .i64 Q, .int .i64 0])) (hR : Gives 28 #[.int .i64 5, (.agg #[.int .i64 sa, .bool ga]), .int .i64 l0, (.agg #[.int .i64 sb, .bool gb]), .int .i64 l1] (.tuple #[(.agg #[.int .i64 S, .bool true]), .int .i64 R, .int .i64 0])) (hM : Gives 40 #[.int .i64 3, (.agg #[.int .i64 S, .bool true]), .int .i64 Q, .int .i64 B] (.tuple #[(.agg #[.int .i64 S, .bool true]), .int .i64 M])) (hS : Gives 40 #[.int .i64 1, (.agg #[.int .i64 S, .bool true]), .int .i64 M, .int .i64 R] (.tuple #[(.agg #[.int .i64 S, .bool true]), .int .i64 A])) (h1 : 0 < R) (h2 : ¬ A < 0) (h3 : B < 0) (hi1 : I64 R) (hi2 : I64 B) (h5 : B < -R) (hb : ¬ B = 0) : Calls Tryd.prog 7 #[.agg #[.int .i64 sa, .bool ga], .agg #[.int .i64 sb, .bool gb], .agg #[.int .i64 l0, .int .i64 l1]] w fun e w' => e = .returned (.bool true) ∧ Below w.heap.size w w' := by
  have := And.intro hb (And.intro h5 (And.intro hi1 hi2)); clear this
  go_enter Tryd.func7, Tryd.ntmps7
  go_wp2_with fail
  refine (sane_c _ (hp.alloc.alloc.alloc)).mono ?_
  rintro e w1 ⟨rfl, hq⟩
  have HB1 : Hid (Below w.heap.size w w1) := Below.tail (b_alloc (b_alloc (b_alloc (Below.refl _ w)))) hq
  have HP1 := (hp.alloc.alloc.alloc).below hq
  have HA : At w1 (w.heap.size) sa ga := At.below (At.box0.alloc.alloc) hq
  have HX : At w1 (w.heap.size + 1) sb gb := At.below (At.box1.alloc) hq
  have HL : At2 w1 (w.heap.size + 1 + 1) l0 l1 := At2.below (At2.box2) hq
  clear hq
  have HAr := HA; obtain ⟨HAa, HAb, HAc⟩ := HAr
  have HXr := HX; obtain ⟨HXa, HXb, HXc⟩ := HXr
  go_wp2_with fail
  refine (hU _ HP1).mono ?_
  rintro e w2 ⟨rfl, hq⟩
  clear HAa HAb HAc HXa HXb HXc
  have HB2 : Hid (Below w.heap.size w w2) := Below.tail HB1.out hq
  have HP2 := HP1.below hq
  have HA' := HA.below hq
  have HX' := HX.below hq
  have HL' := HL.below hq
  clear hq HB1 HP1
  clear HA HX HL
  have HA := HA'; clear HA'
  have HX := HX'; clear HX'
  have HL := HL'; clear HL'
  have HAr := HA; obtain ⟨HAa, HAb, HAc⟩ := HAr
  have HLr := HL; obtain ⟨HLa, HLb, HLc⟩ := HLr
  go_wp2_with fail
  refine (hA _ HP2.alloc).mono ?_
  rintro e w3 ⟨rfl, hq⟩
  clear HAa HAb HAc HLa HLb HLc
  have HB3 : Hid (Below w.heap.size w w3) := Below.next HB2.out hq
  have HP3 := HP2.next hq
  have HA' := HA.next hq
  have HX' := HX.next hq
  have HL' := HL.next hq
  have H1' := At.fresh (s := S) (g := true) hq
  clear hq HB2 HP2
  clear HA HX HL
  have HA := HA'; clear HA'
  have HX := HX'; clear HX'
  have HL := HL'; clear HL'
  have H1 := H1'; clear H1'
  have HXr := HX; obtain ⟨HXa, HXb, HXc⟩ := HXr
  have H1r := H1; obtain ⟨H1a, H1b, H1c⟩ := H1r
  have HLr := HL; obtain ⟨HLa, HLb, HLc⟩ := HLr
  go_wp2_with fail
  refine (hB _ HP3).mono ?_
  rintro e w4 ⟨rfl, hq⟩
  clear HXa HXb HXc H1a H1b H1c HLa HLb HLc
  have HB4 : Hid (Below w.heap.size w w4) := Below.tail HB3.out hq
  have HP4 := HP3.below hq
  have HA' := HA.below hq
  have HX' := HX.below hq
  have HL' := HL.below hq
  have H1' := H1.below hq
  clear hq HB3 HP3
  clear HA HX HL H1
  have HA := HA'; clear HA'
  have HX := HX'; clear HX'
  have HL := HL'; clear HL'
  have H1 := H1'; clear H1'
  have HAr := HA; obtain ⟨HAa, HAb, HAc⟩ := HAr
  have HXr := HX; obtain ⟨HXa, HXb, HXc⟩ := HXr
  have HLr := HL; obtain ⟨HLa, HLb, HLc⟩ := HLr
  go_wp2_with fail
  refine (hQ _ HP4).mono ?_
  rintro e w5 ⟨rfl, hq⟩
  clear HAa HAb HAc HXa HXb HXc HLa HLb HLc
  have HB5 : Hid (Below w.heap.size w w5) := Below.tail HB4.out hq
  have HP5 := HP4.below hq
  have HA' := HA.below hq
  have HX' := HX.below hq
  have HL' := HL.below hq
  have H1' := H1.below hq
  clear hq HB4 HP4
  clear HA HX HL H1
  have HA := HA'; clear HA'
  have HX := HX'; clear HX'
  have HL := HL'; clear HL'
  have H1 := H1'; clear H1'
  have HAr := HA; obtain ⟨HAa, HAb, HAc⟩ := HAr
  have HXr := HX; obtain ⟨HXa, HXb, HXc⟩ := HXr
  have HLr := HL; obtain ⟨HLa, HLb, HLc⟩ := HLr
  go_wp2_with fail
  refine (hR _ HP5.alloc).mono ?_
  rintro e w6 ⟨rfl, hq⟩
  clear HAa HAb HAc HXa HXb HXc HLa HLb HLc
  have HB6 : Hid (Below w.heap.size w w6) := Below.next HB5.out hq
  have HP6 := HP5.next hq
  have HA' := HA.next hq
  have HX' := HX.next hq
  have HL' := HL.next hq
  have H1' := H1.next hq
  have H2' := At.fresh (s := S) (g := true) hq
  clear hq HB5 HP5
  clear HA HX HL H1
  have HA := HA'; clear HA'
  have HX := HX'; clear HX'
  have HL := HL'; clear HL'
  have H1 := H1'; clear H1'
  have H2 := H2'; clear H2'
  have H1r := H1; obtain ⟨H1a, H1b, H1c⟩ := H1r
  have H2r := H2; obtain ⟨H2a, H2b, H2c⟩ := H2r
  go_wp2_with fail
  refine (hM _ HP6.alloc).mono ?_
  rintro e w7 ⟨rfl, hq⟩
  clear H1a H1b H1c H2a H2b H2c
  have HB7 : Hid (Below w.heap.size w w7) := Below.next HB6.out hq
  have HP7 := HP6.next hq
  have HA' := HA.next hq
  have HX' := HX.next hq
  have HL' := HL.next hq
  have H1' := H1.next hq
  have H2' := H2.next hq
  have H3' := At.fresh (s := S) (g := true) hq
  clear hq HB6 HP6
  clear HA HX HL H1 H2
  have HA := HA'; clear HA'
  have HX := HX'; clear HX'
  have HL := HL'; clear HL'
  have H1 := H1'; clear H1'
  have H2 := H2'; clear H2'
  have H3 := H3'; clear H3'
  have H1r := H1; obtain ⟨H1a, H1b, H1c⟩ := H1r
  go_wp2_with fail
  refine (hS _ HP7.alloc).mono ?_
  rintro e w8 ⟨rfl, hq⟩
  clear H1a H1b H1c
  have HB8 : Hid (Below w.heap.size w w8) := Below.next HB7.out hq
  have HP8 := HP7.next hq
  have HA' := HA.next hq
  have HX' := HX.next hq
  have HL' := HL.next hq
  have H1' := H1.next hq
  have H2' := H2.next hq
  have H3' := H3.next hq
  clear hq HB7 HP7
  clear HA HX HL H1 H2 H3
  have HA := HA'; clear HA'
  have HX := HX'; clear HX'
  have HL := HL'; clear HL'
  have H1 := H1'; clear H1'
  have H2 := H2'; clear H2'
  have H3 := H3'; clear H3'
  have H1r := H1; obtain ⟨H1a, H1b, H1c⟩ := H1r
  go_wp2
  go_ret
  exact ⟨by first | exact rfl | exact ret_true (decide_eq_true (by unfold I64 at hi1 hi2; (try unfold wrap64); omega)), b_alloc HB8.out⟩
set_option maxHeartbeats 4000000 in
set_option maxRecDepth 100000 in
theorem divides_w11 (w : World) (hp : PlainAt w) (hU : Gives 18 #[(.agg #[.int .i64 sa, .bool ga]), (.agg #[.int .i64 sb, .bool gb])] (.tuple #[(.agg #[.int .i64 S, .bool true]), .int .i64 0])) (hA : Gives 22 #[(.agg #[.int .i64 sa, .bool ga]), (.agg #[.int .i64 S, .bool true]), .int .i64 l0] (.tuple #[.int .i64 A, .int .i64 0])) (hB : Gives 22 #[(.agg #[.int .i64 sb, .bool gb]), (.agg #[.int .i64 S, .bool true]), .int .i64 l1] (.tuple #[.int .i64 B, .int .i64 0])) (hQ : Gives 28 #[.int .i64 4, (.agg #[.int .i64 sa, .bool ga]), .int .i64 l0, (.agg #[.int .i64 sb, .bool gb]), .int .i64 l1] (.tuple #[(.agg #[.int .i64 S, .bool true]), .int .i64 Q, .int .i64 0])) (hR : Gives 28 #[.int .i64 5, (.agg #[.int .i64 sa, .bool ga]), .int .i64 l0, (.agg #[.int .i64 sb, .bool gb]), .int .i64 l1] (.tuple #[(.agg #[.int .i64 S, .bool true]), .int .i64 R, .int .i64 0])) (hM : Gives 40 #[.int .i64 3, (.agg #[.int .i64 S, .bool true]), .int .i64 Q, .int .i64 B] (.tuple #[(.agg #[.int .i64 S, .bool true]), .int .i64 M])) (hS : Gives 40 #[.int .i64 1, (.agg #[.int .i64 S, .bool true]), .int .i64 M, .int .i64 R] (.tuple #[(.agg #[.int .i64 S, .bool true]), .int .i64 A])) (h1 : 0 < R) (h2 : ¬ A < 0) (h3 : 0 < B) (hi1 : I64 R) (hi2 : I64 B) (h5 : -B < -R) (hb : ¬ B = 0) : Calls Tryd.prog 7 #[.agg #[.int .i64 sa, .bool ga], .agg #[.int .i64 sb, .bool gb], .agg #[.int .i64 l0, .int .i64 l1]] w fun e w' => e = .returned (.bool true) ∧ Below w.heap.size w w' := by
  have := And.intro hb (And.intro h5 (And.intro hi1 hi2)); clear this
  go_enter Tryd.func7, Tryd.ntmps7
  go_wp2_with fail
  refine (sane_c _ (hp.alloc.alloc.alloc)).mono ?_
  rintro e w1 ⟨rfl, hq⟩
  have HB1 : Hid (Below w.heap.size w w1) := Below.tail (b_alloc (b_alloc (b_alloc (Below.refl _ w)))) hq
  have HP1 := (hp.alloc.alloc.alloc).below hq
  have HA : At w1 (w.heap.size) sa ga := At.below (At.box0.alloc.alloc) hq
  have HX : At w1 (w.heap.size + 1) sb gb := At.below (At.box1.alloc) hq
  have HL : At2 w1 (w.heap.size + 1 + 1) l0 l1 := At2.below (At2.box2) hq
  clear hq
  have HAr := HA; obtain ⟨HAa, HAb, HAc⟩ := HAr
  have HXr := HX; obtain ⟨HXa, HXb, HXc⟩ := HXr
  go_wp2_with fail
  refine (hU _ HP1).mono ?_
  rintro e w2 ⟨rfl, hq⟩
  clear HAa HAb HAc HXa HXb HXc
  have HB2 : Hid (Below w.heap.size w w2) := Below.tail HB1.out hq
  have HP2 := HP1.below hq
  have HA' := HA.below hq
  have HX' := HX.below hq
  have HL' := HL.below hq
  clear hq HB1 HP1
  clear HA HX HL
  have HA := HA'; clear HA'
  have HX := HX'; clear HX'
  have HL := HL'; clear HL'
  have HAr := HA; obtain ⟨HAa, HAb, HAc⟩ := HAr
  have HLr := HL; obtain ⟨HLa, HLb, HLc⟩ := HLr
  go_wp2_with fail
  refine (hA _ HP2.alloc).mono ?_
  rintro e w3 ⟨rfl, hq⟩
  clear HAa HAb HAc HLa HLb HLc
  have HB3 : Hid (Below w.heap.size w w3) := Below.next HB2.out hq
  have HP3 := HP2.next hq
  have HA' := HA.next hq
  have HX' := HX.next hq
  have HL' := HL.next hq
  have H1' := At.fresh (s := S) (g := true) hq
  clear hq HB2 HP2
  clear HA HX HL
  have HA := HA'; clear HA'
  have HX := HX'; clear HX'
  have HL := HL'; clear HL'
  have H1 := H1'; clear H1'
  have HXr := HX; obtain ⟨HXa, HXb, HXc⟩ := HXr
  have H1r := H1; obtain ⟨H1a, H1b, H1c⟩ := H1r
  have HLr := HL; obtain ⟨HLa, HLb, HLc⟩ := HLr
  go_wp2_with fail
  refine (hB _ HP3).mono ?_
  rintro e w4 ⟨rfl, hq⟩
  clear HXa HXb HXc H1a H1b H1c HLa HLb HLc
  have HB4 : Hid (Below w.heap.size w w4) := Below.tail HB3.out hq
  have HP4 := HP3.below hq
  have HA' := HA.below hq
  have HX' := HX.below hq
  have HL' := HL.below hq
  have H1' := H1.below hq
  clear hq HB3 HP3
  clear HA HX HL H1
  have HA := HA'; clear HA'
  have HX := HX'; clear HX'
  have HL := HL'; clear HL'
  have H1 := H1'; clear H1'
  have HAr := HA; obtain ⟨HAa, HAb, HAc⟩ := HAr
  have HXr := HX; obtain ⟨HXa, HXb, HXc⟩ := HXr
  have HLr := HL; obtain ⟨HLa, HLb, HLc⟩ := HLr
  go_wp2_with fail
  refine (hQ _ HP4).mono ?_
  rintro e w5 ⟨rfl, hq⟩
  clear HAa HAb HAc HXa HXb HXc HLa HLb HLc
  have HB5 : Hid (Below w.heap.size w w5) := Below.tail HB4.out hq
  have HP5 := HP4.below hq
  have HA' := HA.below hq
  have HX' := HX.below hq
  have HL' := HL.below hq
  have H1' := H1.below hq
  clear hq HB4 HP4
  clear HA HX HL H1
  have HA := HA'; clear HA'
  have HX := HX'; clear HX'
  have HL := HL'; clear HL'
  have H1 := H1'; clear H1'
  have HAr := HA; obtain ⟨HAa, HAb, HAc⟩ := HAr
  have HXr := HX; obtain ⟨HXa, HXb, HXc⟩ := HXr
  have HLr := HL; obtain ⟨HLa, HLb, HLc⟩ := HLr
  go_wp2_with fail
  refine (hR _ HP5.alloc).mono ?_
  rintro e w6 ⟨rfl, hq⟩
  clear HAa HAb HAc HXa HXb HXc HLa HLb HLc
  have HB6 : Hid (Below w.heap.size w w6) := Below.next HB5.out hq
  have HP6 := HP5.next hq
  have HA' := HA.next hq
  have HX' := HX.next hq
  have HL' := HL.next hq
  have H1' := H1.next hq
  have H2' := At.fresh (s := S) (g := true) hq
  clear hq HB5 HP5
  clear HA HX HL H1
  have HA := HA'; clear HA'
  have HX := HX'; clear HX'
  have HL := HL'; clear HL'
  have H1 := H1'; clear H1'
  have H2 := H2'; clear H2'
  have H1r := H1; obtain ⟨H1a, H1b, H1c⟩ := H1r
  have H2r := H2; obtain ⟨H2a, H2b, H2c⟩ := H2r
  go_wp2_with fail
  refine (hM _ HP6.alloc).mono ?_
  rintro e w7 ⟨rfl, hq⟩
  clear H1a H1b H1c H2a H2b H2c
  have HB7 : Hid (Below w.heap.size w w7) := Below.next HB6.out hq
  have HP7 := HP6.next hq
  have HA' := HA.next hq
  have HX' := HX.next hq
  have HL' := HL.next hq
  have H1' := H1.next hq
  have H2' := H2.next hq
  have H3' := At.fresh (s := S) (g := true) hq
  clear hq HB6 HP6
  clear HA HX HL H1 H2
  have HA := HA'; clear HA'
  have HX := HX'; clear HX'
  have HL := HL'; clear HL'
  have H1 := H1'; clear H1'
  have H2 := H2'; clear H2'
  have H3 := H3'; clear H3'
  have H1r := H1; obtain ⟨H1a, H1b, H1c⟩ := H1r
  go_wp2_with fail
  refine (hS _ HP7.alloc).mono ?_
  rintro e w8 ⟨rfl, hq⟩
  clear H1a H1b H1c
  have HB8 : Hid (Below w.heap.size w w8) := Below.next HB7.out hq
  have HP8 := HP7.next hq
  have HA' := HA.next hq
  have HX' := HX.next hq
  have HL' := HL.next hq
  have H1' := H1.next hq
  have H2' := H2.next hq
  have H3' := H3.next hq
  clear hq HB7 HP7
  clear HA HX HL H1 H2 H3
  have HA := HA'; clear HA'
  have HX := HX'; clear HX'
  have HL := HL'; clear HL'
  have H1 := H1'; clear H1'
  have H2 := H2'; clear H2'
  have H3 := H3'; clear H3'
  have H1r := H1; obtain ⟨H1a, H1b, H1c⟩ := H1r
  go_wp2
  go_ret
  exact ⟨by first | exact rfl | exact ret_true (decide_eq_true (by unfold I64 at hi1 hi2; (try unfold wrap64); omega)), b_alloc HB8.out⟩

theorem divides_walk (w : World) (hp : PlainAt w) (h0 : I64 l0) (h1 : I64 l1) : Calls Tryd.prog 7 #[.agg #[.int .i64 sa, .bool ga], .agg #[.int .i64 sb, .bool gb], .agg #[.int .i64 l0, .int .i64 l1]] w fun e w' => e = .returned (.bool true) ∧ Below w.heap.size w w' := by
  cases hv : (vB sa && vB sb)
  · exact divides_w1 sa ga sb gb l0 l1 w hp hv
  obtain ⟨va, vb⟩ : vB sa = true ∧ vB sb = true := by simpa using hv
  have hc := cS_ok (g1 := ga) va vb
  have hU : Gives 18 #[(.agg #[.int .i64 sa, .bool ga]), (.agg #[.int .i64 sb, .bool gb])] (.tuple #[.agg #[.int .i64 (cS sa ga sb), .bool (cG sa ga sb gb)], .int .i64 0]) := fun w hp => Usual_c sa ga sb gb w hp va vb
  have hA : Gives 22 #[(.agg #[.int .i64 sa, .bool ga]), .agg #[.int .i64 (cS sa ga sb), .bool (cG sa ga sb gb)], .int .i64 l0] (.tuple #[.int .i64 (wr (cS sa ga sb) (cG sa ga sb gb) (wr sa ga l0)), .int .i64 0]) := fun w hp => Convert_c _ _ _ _ _ w va hc h0
  have hB : Gives 22 #[(.agg #[.int .i64 sb, .bool gb]), .agg #[.int .i64 (cS sa ga sb), .bool (cG sa ga sb gb)], .int .i64 l1] (.tuple #[.int .i64 (wr (cS sa ga sb) (cG sa ga sb gb) (wr sb gb l1)), .int .i64 0]) := fun w hp => Convert_c _ _ _ _ _ w vb hc h1
  have iA := wr_I64 (g := cG sa ga sb gb) hc (wr_I64 (g := ga) va h0)
  have iB := wr_I64 (g := cG sa ga sb gb) hc (wr_I64 (g := gb) vb h1)
  have fA := wr_wr (g := cG sa ga sb gb) (v := wr sa ga l0) hc
  have fB := wr_wr (g := cG sa ga sb gb) (v := wr sb gb l1) hc
  by_cases hb : wr (cS sa ga sb) (cG sa ga sb gb) (wr sb gb l1) = 0
  · rw [hb] at hB
    exact divides_w2 sa ga sb gb l0 l1 _ _ _ w hp hU hA hB (fun w hp => bin_div0 sa ga l0 sb gb l1 w hp va vb h0 h1 hb) (fun w hp => bin_mod0 sa ga l0 sb gb l1 w hp va vb h0 h1 hb)
  have hQ : Gives 28 #[.int .i64 4, (.agg #[.int .i64 sa, .bool ga]), .int .i64 l0, (.agg #[.int .i64 sb, .bool gb]), .int .i64 l1] _ := fun w hp => bin_div sa ga l0 sb gb l1 w hp va vb h0 h1 hb
  have hR : Gives 28 #[.int .i64 5, (.agg #[.int .i64 sa, .bool ga]), .int .i64 l0, (.agg #[.int .i64 sb, .bool gb]), .int .i64 l1] _ := fun w hp => bin_mod sa ga l0 sb gb l1 w hp va vb h0 h1 hb
  have eS : cS (cS sa ga sb) (cG sa ga sb gb) (cS sa ga sb) = cS sa ga sb := cS_idem va vb
  have eG : cG (cS sa ga sb) (cG sa ga sb gb) (cS sa ga sb) (cG sa ga sb gb) = cG sa ga sb gb := cG_idem va vb
  generalize hS : cS sa ga sb = S at *
  generalize hG : cG sa ga sb gb = G at *
  generalize hAe : wr S G (wr sa ga l0) = A at *
  generalize hBe : wr S G (wr sb gb l1) = B at *
  have iQ : I64 (wr S G (qV G A B)) := wr_I64 hc (qV_I64 _ _ _)
  have iR : I64 (wr S G (rV G A B)) := wr_I64 hc (rV_I64 iA iB)
  have hM : Gives 40 #[.int .i64 3, .agg #[.int .i64 S, .bool G], .int .i64 (wr S G (qV G A B)), .int .i64 B] _ := fun w hp => op_of w hp fun w hp => bin_mul S G (wr S G (qV G A B)) S G B w hp hc hc iQ iB
  simp only [eS, eG] at hM
  have hs : Gives 40 #[.int .i64 1, .agg #[.int .i64 S, .bool G], .int .i64 (wr S G (wrap64 (wr S G (wr S G (wr S G (qV G A B))) * wr S G (wr S G B)))), .int .i64 (wr S G (rV G A B))] _ := fun w hp => op_of w hp fun w hp => bin_add S G _ S G (wr S G (rV G A B)) w hp hc hc (wr_I64 hc (I64_wrap64 _)) iR
  simp only [eS, eG] at hs
  have es : wr S G (wrap64 (wr S G (wr S G (wr S G (wrap64 (wr S G (wr S G (wr S G (qV G A B))) * wr S G (wr S G B))))) + wr S G (wr S G (wr S G (rV G A B))))) = A := by
    have := sum_back' (s := S) (g := G) (b := B) hc iA fA
    simp only [wr_wr hc] at this ⊢
    exact this
  rw [es] at hs
  cases G
  · have hC : Gives 30 #[.agg #[.int .i64 S, .bool false], .int .i64 (wr S false (rV false A B)), .int .i64 B] (.tuple #[.int .i64 (-1), .int .i64 0]) := fun w hp => by
      have := Compare_c S false (wr S false (rV false A B)) B w hc iR iB
      rwa [wr_keep_urem hc iB fA fB hb] at this
    exact divides_w3 sa ga sb gb l0 l1 S A B _ _ _ w hp hU hA hB hQ hR hM hs hC hb
  · have eR : wr S true (rV true A B) = A.tmod B := wr_keep_rem hc fB hb
    simp only [eR] at *
    have n1 := rem_bd A B hb
    obtain ⟨n2, n3⟩ := rem_sign A B
    generalize A.tmod B = R at *
    by_cases r0 : R = 0
    · subst r0
      by_cases a0 : A < 0 <;> by_cases b0 : B < 0
      · exact divides_w4 sa ga sb gb l0 l1 S A B _ 0 _ w hp hU hA hB hQ hR hM hs a0 b0 iR iB (by omega) hb
      · exact divides_w5 sa ga sb gb l0 l1 S A B _ 0 _ w hp hU hA hB hQ hR hM hs a0 (by omega) iR iB (by omega) hb
      · exact divides_w6 sa ga sb gb l0 l1 S A B _ 0 _ w hp hU hA hB hQ hR hM hs a0 b0 iR iB (by omega) hb
      · exact divides_w7 sa ga sb gb l0 l1 S A B _ 0 _ w hp hU hA hB hQ hR hM hs a0 (by omega) iR iB (by omega) hb
    · by_cases a0 : A < 0 <;> by_cases b0 : B < 0
      · exact divides_w8 sa ga sb gb l0 l1 S A B _ R _ w hp hU hA hB hQ hR hM hs (by omega) a0 b0 iR iB (by omega) hb
      · exact divides_w9 sa ga sb gb l0 l1 S A B _ R _ w hp hU hA hB hQ hR hM hs (by omega) a0 (by omega) iR iB (by omega) hb
      · exact divides_w10 sa ga sb gb l0 l1 S A B _ R _ w hp hU hA hB hQ hR hM hs (by omega) a0 b0 iR iB (by omega) hb
      · exact divides_w11 sa ga sb gb l0 l1 S A B _ R _ w hp hU hA hB hQ hR hM hs (by omega) a0 (by omega) iR iB (by omega) hb
end
end Go.Proofs.YtfgmfkiknogdeaaDoor
