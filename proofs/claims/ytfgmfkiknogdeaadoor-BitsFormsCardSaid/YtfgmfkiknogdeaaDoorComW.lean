/- WHAT IS PROVED: taplinelaw01.BitsCommon answers true, for any three types. CONDITIONS: the package variable 'plain' holds the signed type of 4 bytes. -/
import Derived.Test.YtfgmfkiknogdeaaDoorK
namespace Go.Proofs.YtfgmfkiknogdeaaDoor
open Go Go.RowKit Go.QrBits
attribute [local go_sem] reg_cell reg_frozen reg_setCell reg_lt reg_lt_add reg_drew reg_of_drew quietR yieldsR

theorem At.box0 {w : World} {s : Int} {g : Bool} {t : TypeId} : At (w.alloc (.cells #[.int .i64 s, .bool g] t)) w.heap.size s g := At.mk
theorem At.box1 {w : World} {o : Obj} {s : Int} {g : Bool} {t : TypeId} : At ((w.alloc o).alloc (.cells #[.int .i64 s, .bool g] t)) (w.heap.size + 1) s g := by
  have := At.mk (w := w.alloc o) (s := s) (g := g) (t := t); rwa [World.size_alloc] at this
theorem At.box2 {w : World} {o o' : Obj} {s : Int} {g : Bool} {t : TypeId} : At (((w.alloc o).alloc o').alloc (.cells #[.int .i64 s, .bool g] t)) (w.heap.size + 1 + 1) s g := by
  have := At.mk (w := (w.alloc o).alloc o') (s := s) (g := g) (t := t); rwa [World.size_alloc, World.size_alloc] at this

theorem cS_comm {s1 s2 : Int} {g1 g2 : Bool} (h1 : vB s1 = true) (h2 : vB s2 = true) : cS s2 g2 s1 = cS s1 g1 s2 := by
  rcases vB_cases h1 with rfl | rfl | rfl | rfl <;> rcases vB_cases h2 with rfl | rfl | rfl | rfl <;> cases g1 <;> cases g2 <;> rfl
theorem cG_comm {s1 s2 : Int} {g1 g2 : Bool} (h1 : vB s1 = true) (h2 : vB s2 = true) : cG s2 g2 s1 g1 = cG s1 g1 s2 g2 := by
  rcases vB_cases h1 with rfl | rfl | rfl | rfl <;> rcases vB_cases h2 with rfl | rfl | rfl | rfl <;> cases g1 <;> cases g2 <;> rfl
theorem cS_assoc {s1 s2 s3 : Int} {g1 g2 : Bool} (h1 : vB s1 = true) (h2 : vB s2 = true) (h3 : vB s3 = true) : cS s1 g1 (cS s2 g2 s3) = cS (cS s1 g1 s2) (cG s1 g1 s2 g2) s3 := by
  rcases vB_cases h1 with rfl | rfl | rfl | rfl <;> rcases vB_cases h2 with rfl | rfl | rfl | rfl <;> rcases vB_cases h3 with rfl | rfl | rfl | rfl <;> cases g1 <;> cases g2 <;> rfl
theorem cG_assoc {s1 s2 s3 : Int} {g1 g2 g3 : Bool} (h1 : vB s1 = true) (h2 : vB s2 = true) (h3 : vB s3 = true) : cG s1 g1 (cS s2 g2 s3) (cG s2 g2 s3 g3) = cG (cS s1 g1 s2) (cG s1 g1 s2 g2) s3 g3 := by
  rcases vB_cases h1 with rfl | rfl | rfl | rfl <;> rcases vB_cases h2 with rfl | rfl | rfl | rfl <;> rcases vB_cases h3 with rfl | rfl | rfl | rfl <;> cases g1 <;> cases g2 <;> cases g3 <;> rfl
theorem pS_pS (s : Int) : pS (pS s) = pS s := by unfold pS; split <;> simp_all
theorem pG_pG (s : Int) (g : Bool) : pG (pS s) (pG s g) = pG s g := by unfold pG pS; split <;> simp_all
theorem cS_self (s : Int) (g : Bool) : cS s g s = pS s := by unfold cS; split <;> rfl
theorem cG_self (s : Int) (g : Bool) : cG s g s g = pG s g := by unfold cG; split <;> rfl

section
variable (sa : Int) (ga : Bool) (sb : Int) (gb : Bool) (sc : Int) (gc : Bool)
theorem Usual_flip (w : World) (hp : PlainAt w) (h1 : vB sa = true) (h2 : vB sb = true) : Calls Tryd.prog 18 #[.agg #[.int .i64 sb, .bool gb], .agg #[.int .i64 sa, .bool ga]] w fun e w' => e = .returned (.tuple #[.agg #[.int .i64 (cS sa ga sb), .bool (cG sa ga sb gb)], .int .i64 0]) ∧ Below w.heap.size w w' := by
  have := Usual_c sb gb sa ga w hp h2 h1
  rwa [cS_comm (g1 := ga) h1 h2, cG_comm h1 h2] at this
theorem Usual_assoc (w : World) (hp : PlainAt w) (h1 : vB sa = true) (h2 : vB sb = true) (h3 : vB sc = true) : Calls Tryd.prog 18 #[.agg #[.int .i64 sa, .bool ga], .agg #[.int .i64 (cS sb gb sc), .bool (cG sb gb sc gc)]] w fun e w' => e = .returned (.tuple #[.agg #[.int .i64 (cS (cS sa ga sb) (cG sa ga sb gb) sc), .bool (cG (cS sa ga sb) (cG sa ga sb gb) sc gc)], .int .i64 0]) ∧ Below w.heap.size w w' := by
  have := Usual_c sa ga (cS sb gb sc) (cG sb gb sc gc) w hp h1 (cS_ok h2 h3)
  rwa [cS_assoc h1 h2 h3, cG_assoc h1 h2 h3] at this
theorem Promote_again (w : World) (hp : PlainAt w) (h1 : vB sa = true) : Calls Tryd.prog 16 #[.agg #[.int .i64 (pS sa), .bool (pG sa ga)]] w fun e w' => e = .returned (.tuple #[.agg #[.int .i64 (pS sa), .bool (pG sa ga)], .int .i64 0]) ∧ Below w.heap.size w w' := by
  have := Promote_c (pS sa) (pG sa ga) w hp (pS_ok h1)
  rwa [pS_pS, pG_pG] at this
theorem Usual_self (w : World) (hp : PlainAt w) (h1 : vB sa = true) : Calls Tryd.prog 18 #[.agg #[.int .i64 sa, .bool ga], .agg #[.int .i64 sa, .bool ga]] w fun e w' => e = .returned (.tuple #[.agg #[.int .i64 (pS sa), .bool (pG sa ga)], .int .i64 0]) ∧ Below w.heap.size w w' := by
  have := Usual_c sa ga sa ga w hp h1 h1
  rwa [cS_self, cG_self] at this
theorem Usual_any (w : World) (hp : PlainAt w) : Calls Tryd.prog 18 #[.agg #[.int .i64 sa, .bool ga], .agg #[.int .i64 sb, .bool gb]] w fun e w' => ∃ S G E, e = .returned (.tuple #[.agg #[.int .i64 S, .bool G], .int .i64 E]) ∧ Below w.heap.size w w' := by
  cases h1 : vB sa
  · exact (Usual_no1 sa ga sb gb w h1).mono fun _ _ h => ⟨_, _, _, h⟩
  · cases h2 : vB sb
    · exact (Usual_no2 sa ga sb gb w h1 h2).mono fun _ _ h => ⟨_, _, _, h⟩
    · exact (Usual_c sa ga sb gb w hp h1 h2).mono fun _ _ h => ⟨_, _, _, h⟩
theorem Usual_bad (w : World) (h : (vB sa && vB sb) = false) : Calls Tryd.prog 18 #[.agg #[.int .i64 sa, .bool ga], .agg #[.int .i64 sb, .bool gb]] w fun e w' => e = .returned (.tuple #[.agg #[.int .i64 0, .bool false], .int .i64 10]) ∧ Below w.heap.size w w' := by
  cases h1 : vB sa
  · exact Usual_no1 sa ga sb gb w h1
  · exact Usual_no2 sa ga sb gb w h1 (by rw [h1] at h; simpa using h)
set_option maxHeartbeats 4000000 in
set_option maxRecDepth 100000 in
theorem common_w1 (w : World) (hp : PlainAt w) (h : (vB sa && vB sb) = false) : Calls Tryd.prog 8 #[.agg #[.int .i64 sa, .bool ga], .agg #[.int .i64 sb, .bool gb], .agg #[.int .i64 sc, .bool gc]] w fun e w' => e = .returned (.bool true) ∧ Below w.heap.size w w' := by
  go_enter Tryd.func8, Tryd.ntmps8
  go_wp2_with fail
  refine (sane_c _ (hp.alloc.alloc.alloc)).mono ?_
  rintro e w1 ⟨rfl, hq⟩
  have HB1 : Hid (Below w.heap.size w w1) := Below.tail (b_alloc (b_alloc (b_alloc (Below.refl _ w)))) hq
  have HP1 := (hp.alloc.alloc.alloc).below hq
  have HA : At w1 (w.heap.size) sa ga := At.below (At.box0.alloc.alloc) hq
  have HX : At w1 (w.heap.size + 1) sb gb := At.below (At.box1.alloc) hq
  have HC : At w1 (w.heap.size + 1 + 1) sc gc := At.below (At.box2) hq
  clear hq
  have HAr := HA; obtain ⟨HAa, HAb, HAc⟩ := HAr
  have HXr := HX; obtain ⟨HXa, HXb, HXc⟩ := HXr
  go_wp2_with fail
  refine (Usual_bad sa ga sb gb _ h).mono ?_
  rintro e w2 ⟨rfl, hq⟩
  clear HAa HAb HAc HXa HXb HXc
  have HB2 : Hid (Below w.heap.size w w2) := Below.tail HB1.out hq
  have HP2 := HP1.below hq
  have HA' := HA.below hq
  have HX' := HX.below hq
  have HC' := HC.below hq
  clear hq HB1 HP1
  clear HA HX HC
  have HA := HA'; clear HA'
  have HX := HX'; clear HX'
  have HC := HC'; clear HC'
  have HXr := HX; obtain ⟨HXa, HXb, HXc⟩ := HXr
  have HCr := HC; obtain ⟨HCa, HCb, HCc⟩ := HCr
  go_wp2_with fail
  refine (Usual_any sb gb sc gc _ HP2.alloc).mono ?_
  rintro e w3 ⟨S, G, E, rfl, hq⟩
  clear HXa HXb HXc HCa HCb HCc
  have HB3 : Hid (Below w.heap.size w w3) := Below.next HB2.out hq
  have HP3 := HP2.next hq
  have HA' := HA.next hq
  have HX' := HX.next hq
  have HC' := HC.next hq
  have H1' := At.fresh (s := 0) (g := false) hq
  clear hq HB2 HP2
  clear HA HX HC
  have HA := HA'; clear HA'
  have HX := HX'; clear HX'
  have HC := HC'; clear HC'
  have H1 := H1'; clear H1'
  go_wp2
  go_ret
  exact ⟨rfl, b_alloc HB3.out⟩
set_option maxHeartbeats 4000000 in
set_option maxRecDepth 100000 in
theorem common_w2 (w : World) (hp : PlainAt w) (h1 : vB sa = true) (h2 : vB sb = true) (h3 : vB sc = false) : Calls Tryd.prog 8 #[.agg #[.int .i64 sa, .bool ga], .agg #[.int .i64 sb, .bool gb], .agg #[.int .i64 sc, .bool gc]] w fun e w' => e = .returned (.bool true) ∧ Below w.heap.size w w' := by
  go_enter Tryd.func8, Tryd.ntmps8
  go_wp2_with fail
  refine (sane_c _ (hp.alloc.alloc.alloc)).mono ?_
  rintro e w1 ⟨rfl, hq⟩
  have HB1 : Hid (Below w.heap.size w w1) := Below.tail (b_alloc (b_alloc (b_alloc (Below.refl _ w)))) hq
  have HP1 := (hp.alloc.alloc.alloc).below hq
  have HA : At w1 (w.heap.size) sa ga := At.below (At.box0.alloc.alloc) hq
  have HX : At w1 (w.heap.size + 1) sb gb := At.below (At.box1.alloc) hq
  have HC : At w1 (w.heap.size + 1 + 1) sc gc := At.below (At.box2) hq
  clear hq
  have HAr := HA; obtain ⟨HAa, HAb, HAc⟩ := HAr
  have HXr := HX; obtain ⟨HXa, HXb, HXc⟩ := HXr
  go_wp2_with fail
  refine (Usual_c sa ga sb gb _ HP1 h1 h2).mono ?_
  rintro e w2 ⟨rfl, hq⟩
  clear HAa HAb HAc HXa HXb HXc
  have HB2 : Hid (Below w.heap.size w w2) := Below.tail HB1.out hq
  have HP2 := HP1.below hq
  have HA' := HA.below hq
  have HX' := HX.below hq
  have HC' := HC.below hq
  clear hq HB1 HP1
  clear HA HX HC
  have HA := HA'; clear HA'
  have HX := HX'; clear HX'
  have HC := HC'; clear HC'
  have HXr := HX; obtain ⟨HXa, HXb, HXc⟩ := HXr
  have HCr := HC; obtain ⟨HCa, HCb, HCc⟩ := HCr
  go_wp2_with fail
  refine (Usual_no2 sb gb sc gc _ h2 h3).mono ?_
  rintro e w3 ⟨rfl, hq⟩
  clear HXa HXb HXc HCa HCb HCc
  have HB3 : Hid (Below w.heap.size w w3) := Below.next HB2.out hq
  have HP3 := HP2.next hq
  have HA' := HA.next hq
  have HX' := HX.next hq
  have HC' := HC.next hq
  have H1' := At.fresh (s := (cS sa ga sb)) (g := (cG sa ga sb gb)) hq
  clear hq HB2 HP2
  clear HA HX HC
  have HA := HA'; clear HA'
  have HX := HX'; clear HX'
  have HC := HC'; clear HC'
  have H1 := H1'; clear H1'
  go_wp2
  go_ret
  exact ⟨rfl, b_alloc HB3.out⟩
set_option maxHeartbeats 4000000 in
set_option maxRecDepth 100000 in
theorem common_w3 (w : World) (hp : PlainAt w) (h1 : vB sa = true) (h2 : vB sb = true) (h3 : vB sc = true) : Calls Tryd.prog 8 #[.agg #[.int .i64 sa, .bool ga], .agg #[.int .i64 sb, .bool gb], .agg #[.int .i64 sc, .bool gc]] w fun e w' => e = .returned (.bool true) ∧ Below w.heap.size w w' := by
  go_enter Tryd.func8, Tryd.ntmps8
  go_wp2_with fail
  refine (sane_c _ (hp.alloc.alloc.alloc)).mono ?_
  rintro e w1 ⟨rfl, hq⟩
  have HB1 : Hid (Below w.heap.size w w1) := Below.tail (b_alloc (b_alloc (b_alloc (Below.refl _ w)))) hq
  have HP1 := (hp.alloc.alloc.alloc).below hq
  have HA : At w1 (w.heap.size) sa ga := At.below (At.box0.alloc.alloc) hq
  have HX : At w1 (w.heap.size + 1) sb gb := At.below (At.box1.alloc) hq
  have HC : At w1 (w.heap.size + 1 + 1) sc gc := At.below (At.box2) hq
  clear hq
  have HAr := HA; obtain ⟨HAa, HAb, HAc⟩ := HAr
  have HXr := HX; obtain ⟨HXa, HXb, HXc⟩ := HXr
  go_wp2_with fail
  refine (Usual_c sa ga sb gb _ HP1 h1 h2).mono ?_
  rintro e w2 ⟨rfl, hq⟩
  clear HAa HAb HAc HXa HXb HXc
  have HB2 : Hid (Below w.heap.size w w2) := Below.tail HB1.out hq
  have HP2 := HP1.below hq
  have HA' := HA.below hq
  have HX' := HX.below hq
  have HC' := HC.below hq
  clear hq HB1 HP1
  clear HA HX HC
  have HA := HA'; clear HA'
  have HX := HX'; clear HX'
  have HC := HC'; clear HC'
  have HXr := HX; obtain ⟨HXa, HXb, HXc⟩ := HXr
  have HCr := HC; obtain ⟨HCa, HCb, HCc⟩ := HCr
  go_wp2_with fail
  refine (Usual_c sb gb sc gc _ HP2.alloc h2 h3).mono ?_
  rintro e w3 ⟨rfl, hq⟩
  clear HXa HXb HXc HCa HCb HCc
  have HB3 : Hid (Below w.heap.size w w3) := Below.next HB2.out hq
  have HP3 := HP2.next hq
  have HA' := HA.next hq
  have HX' := HX.next hq
  have HC' := HC.next hq
  have H1' := At.fresh (s := (cS sa ga sb)) (g := (cG sa ga sb gb)) hq
  clear hq HB2 HP2
  clear HA HX HC
  have HA := HA'; clear HA'
  have HX := HX'; clear HX'
  have HC := HC'; clear HC'
  have H1 := H1'; clear H1'
  have HAr := HA; obtain ⟨HAa, HAb, HAc⟩ := HAr
  have HXr := HX; obtain ⟨HXa, HXb, HXc⟩ := HXr
  go_wp2_with fail
  refine (Usual_flip sa ga sb gb _ HP3.alloc h1 h2).mono ?_
  rintro e w4 ⟨rfl, hq⟩
  clear HAa HAb HAc HXa HXb HXc
  have HB4 : Hid (Below w.heap.size w w4) := Below.next HB3.out hq
  have HP4 := HP3.next hq
  have HA' := HA.next hq
  have HX' := HX.next hq
  have HC' := HC.next hq
  have H1' := H1.next hq
  have H2' := At.fresh (s := (cS sb gb sc)) (g := (cG sb gb sc gc)) hq
  clear hq HB3 HP3
  clear HA HX HC H1
  have HA := HA'; clear HA'
  have HX := HX'; clear HX'
  have HC := HC'; clear HC'
  have H1 := H1'; clear H1'
  have H2 := H2'; clear H2'
  have H1r := H1; obtain ⟨H1a, H1b, H1c⟩ := H1r
  have HCr := HC; obtain ⟨HCa, HCb, HCc⟩ := HCr
  go_wp2_with fail
  refine (Usual_c _ _ sc gc _ HP4.alloc (cS_ok h1 h2) h3).mono ?_
  rintro e w5 ⟨rfl, hq⟩
  clear H1a H1b H1c HCa HCb HCc
  have HB5 : Hid (Below w.heap.size w w5) := Below.next HB4.out hq
  have HP5 := HP4.next hq
  have HA' := HA.next hq
  have HX' := HX.next hq
  have HC' := HC.next hq
  have H1' := H1.next hq
  have H2' := H2.next hq
  have H3' := At.fresh (s := (cS sa ga sb)) (g := (cG sa ga sb gb)) hq
  clear hq HB4 HP4
  clear HA HX HC H1 H2
  have HA := HA'; clear HA'
  have HX := HX'; clear HX'
  have HC := HC'; clear HC'
  have H1 := H1'; clear H1'
  have H2 := H2'; clear H2'
  have H3 := H3'; clear H3'
  have HAr := HA; obtain ⟨HAa, HAb, HAc⟩ := HAr
  have H2r := H2; obtain ⟨H2a, H2b, H2c⟩ := H2r
  go_wp2_with fail
  refine (Usual_assoc sa ga sb gb sc gc _ HP5.alloc h1 h2 h3).mono ?_
  rintro e w6 ⟨rfl, hq⟩
  clear HAa HAb HAc H2a H2b H2c
  have HB6 : Hid (Below w.heap.size w w6) := Below.next HB5.out hq
  have HP6 := HP5.next hq
  have HA' := HA.next hq
  have HX' := HX.next hq
  have HC' := HC.next hq
  have H1' := H1.next hq
  have H2' := H2.next hq
  have H3' := H3.next hq
  have H4' := At.fresh (s := (cS (cS sa ga sb) (cG sa ga sb gb) sc)) (g := (cG (cS sa ga sb) (cG sa ga sb gb) sc gc)) hq
  clear hq HB5 HP5
  clear HA HX HC H1 H2 H3
  have HA := HA'; clear HA'
  have HX := HX'; clear HX'
  have HC := HC'; clear HC'
  have H1 := H1'; clear H1'
  have H2 := H2'; clear H2'
  have H3 := H3'; clear H3'
  have H4 := H4'; clear H4'
  have HAr := HA; obtain ⟨HAa, HAb, HAc⟩ := HAr
  go_wp2_with fail
  refine (Promote_c sa ga _ HP6.alloc h1).mono ?_
  rintro e w7 ⟨rfl, hq⟩
  clear HAa HAb HAc
  have HB7 : Hid (Below w.heap.size w w7) := Below.next HB6.out hq
  have HP7 := HP6.next hq
  have HA' := HA.next hq
  have HX' := HX.next hq
  have HC' := HC.next hq
  have H1' := H1.next hq
  have H2' := H2.next hq
  have H3' := H3.next hq
  have H4' := H4.next hq
  have H5' := At.fresh (s := (cS (cS sa ga sb) (cG sa ga sb gb) sc)) (g := (cG (cS sa ga sb) (cG sa ga sb gb) sc gc)) hq
  clear hq HB6 HP6
  clear HA HX HC H1 H2 H3 H4
  have HA := HA'; clear HA'
  have HX := HX'; clear HX'
  have HC := HC'; clear HC'
  have H1 := H1'; clear H1'
  have H2 := H2'; clear H2'
  have H3 := H3'; clear H3'
  have H4 := H4'; clear H4'
  have H5 := H5'; clear H5'
  go_wp2_with fail
  refine (Promote_again sa ga _ HP7.alloc h1).mono ?_
  rintro e w8 ⟨rfl, hq⟩
  have HB8 : Hid (Below w.heap.size w w8) := Below.next HB7.out hq
  have HP8 := HP7.next hq
  have HA' := HA.next hq
  have HX' := HX.next hq
  have HC' := HC.next hq
  have H1' := H1.next hq
  have H2' := H2.next hq
  have H3' := H3.next hq
  have H4' := H4.next hq
  have H5' := H5.next hq
  have H6' := At.fresh (s := (pS sa)) (g := (pG sa ga)) hq
  clear hq HB7 HP7
  clear HA HX HC H1 H2 H3 H4 H5
  have HA := HA'; clear HA'
  have HX := HX'; clear HX'
  have HC := HC'; clear HC'
  have H1 := H1'; clear H1'
  have H2 := H2'; clear H2'
  have H3 := H3'; clear H3'
  have H4 := H4'; clear H4'
  have H5 := H5'; clear H5'
  have H6 := H6'; clear H6'
  have HAr := HA; obtain ⟨HAa, HAb, HAc⟩ := HAr
  go_wp2_with fail
  refine (Usual_self sa ga _ HP8.alloc h1).mono ?_
  rintro e w9 ⟨rfl, hq⟩
  clear HAa HAb HAc
  have HB9 : Hid (Below w.heap.size w w9) := Below.next HB8.out hq
  have HP9 := HP8.next hq
  have HA' := HA.next hq
  have HX' := HX.next hq
  have HC' := HC.next hq
  have H1' := H1.next hq
  have H2' := H2.next hq
  have H3' := H3.next hq
  have H4' := H4.next hq
  have H5' := H5.next hq
  have H6' := H6.next hq
  have H7' := At.fresh (s := (pS sa)) (g := (pG sa ga)) hq
  clear hq HB8 HP8
  clear HA HX HC H1 H2 H3 H4 H5 H6
  have HA := HA'; clear HA'
  have HX := HX'; clear HX'
  have HC := HC'; clear HC'
  have H1 := H1'; clear H1'
  have H2 := H2'; clear H2'
  have H3 := H3'; clear H3'
  have H4 := H4'; clear H4'
  have H5 := H5'; clear H5'
  have H6 := H6'; clear H6'
  have H7 := H7'; clear H7'
  have H1r := H1; obtain ⟨H1a, H1b, H1c⟩ := H1r
  have H3r := H3; obtain ⟨H3a, H3b, H3c⟩ := H3r
  have H4r := H4; obtain ⟨H4a, H4b, H4c⟩ := H4r
  have H5r := H5; obtain ⟨H5a, H5b, H5c⟩ := H5r
  have H6r := H6; obtain ⟨H6a, H6b, H6c⟩ := H6r
  have H7r := H7; obtain ⟨H7a, H7b, H7c⟩ := H7r
  go_wp2
  go_ret
  exact ⟨rfl, b_alloc HB9.out⟩
theorem common_walk (w : World) (hp : PlainAt w) : Calls Tryd.prog 8 #[.agg #[.int .i64 sa, .bool ga], .agg #[.int .i64 sb, .bool gb], .agg #[.int .i64 sc, .bool gc]] w fun e w' => e = .returned (.bool true) ∧ Below w.heap.size w w' := by
  cases h1 : vB sa
  · exact common_w1 sa ga sb gb sc gc w hp (by rw [h1]; rfl)
  · cases h2 : vB sb
    · exact common_w1 sa ga sb gb sc gc w hp (by rw [h1, h2]; rfl)
    · cases h3 : vB sc
      · exact common_w2 sa ga sb gb sc gc w hp h1 h2 h3
      · exact common_w3 sa ga sb gb sc gc w hp h1 h2 h3
end
end Go.Proofs.YtfgmfkiknogdeaaDoor
