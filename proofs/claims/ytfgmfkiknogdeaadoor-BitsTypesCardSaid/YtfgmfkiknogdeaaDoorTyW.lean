/- WHAT IS PROVED: taplinelaw01.BitsTypes answers true, for any two types and every value. CONDITIONS: the package variables 'plain' and 'promoted' hold what their initialisers lay. -/
import Derived.Test.YtfgmfkiknogdeaaDoorRc
import Derived.Test.YtfgmfkiknogdeaaDoorOrW
namespace Go.Proofs.YtfgmfkiknogdeaaDoor
open Go Go.RowKit Go.QrBits
attribute [local go_sem] reg_cell reg_frozen reg_setCell reg_lt reg_lt_add reg_drew reg_of_drew quietR yieldsR

/-- What a call answers where both variables are laid. -/
def GivesB (f : Nat) (args : Array Value) (v : Value) : Prop := ∀ w, PlainAt w → PromAt w → Calls Tryd.prog f args w fun e w' => e = .returned v ∧ Below w.heap.size w w'
section
variable (sa : Int) (ga : Bool) (sb : Int) (gb : Bool) (v L H E1 S1 E2 S2 E3 W1 E4 W2 E5 E6 : Int) (G1 G2 : Bool)
set_option maxHeartbeats 4000000 in
set_option maxRecDepth 100000 in
theorem types_w (w : World) (hp : PlainAt w) (hr : PromAt w) (hR : GivesB 14 #[.agg #[.int .i64 sa, .bool ga]] (.tuple #[.int .i64 L, .int .i64 H, .int .i64 E1])) (hRr : GivesB 15 #[.agg #[.int .i64 sa, .bool ga]] (.tuple #[.int .i64 L, .int .i64 H, .int .i64 E1])) (hP : GivesB 16 #[.agg #[.int .i64 sa, .bool ga]] (.tuple #[.agg #[.int .i64 S1, .bool G1], .int .i64 E2])) (hPr : GivesB 17 #[.agg #[.int .i64 sa, .bool ga]] (.tuple #[.agg #[.int .i64 S1, .bool G1], .int .i64 E2])) (hU : GivesB 18 #[.agg #[.int .i64 sa, .bool ga], .agg #[.int .i64 sb, .bool gb]] (.tuple #[.agg #[.int .i64 S2, .bool G2], .int .i64 E3])) (hUr : GivesB 19 #[.agg #[.int .i64 sa, .bool ga], .agg #[.int .i64 sb, .bool gb]] (.tuple #[.agg #[.int .i64 S2, .bool G2], .int .i64 E3])) (hW : GivesB 20 #[.agg #[.int .i64 sa, .bool ga], .int .i64 v] (.tuple #[.int .i64 W1, .int .i64 E4])) (hWr : GivesB 21 #[.agg #[.int .i64 sa, .bool ga], .int .i64 v] (.tuple #[.int .i64 W1, .int .i64 E4])) (hC : GivesB 22 #[.agg #[.int .i64 sa, .bool ga], .agg #[.int .i64 sb, .bool gb], .int .i64 v] (.tuple #[.int .i64 W2, .int .i64 E5])) (hCr : GivesB 23 #[.agg #[.int .i64 sa, .bool ga], .agg #[.int .i64 sb, .bool gb], .int .i64 v] (.tuple #[.int .i64 W2, .int .i64 E5])) (hK : GivesB 24 #[.agg #[.int .i64 sa, .bool ga]] (.int .i64 E6)) (hKr : GivesB 25 #[.agg #[.int .i64 sa, .bool ga]] (.int .i64 E6)) : Calls Tryd.prog 3 #[.agg #[.int .i64 sa, .bool ga], .agg #[.int .i64 sb, .bool gb], .int .i64 v] w fun e w' => e = .returned (.bool true) ∧ Below w.heap.size w w' := by
  go_enter Tryd.func3, Tryd.ntmps3
  go_wp2_with fail
  refine (sane_c _ (hp.alloc.alloc)).mono ?_
  rintro e w1 ⟨rfl, hq⟩
  have HB1 : Hid (Below w.heap.size w w1) := Below.tail (b_alloc (b_alloc (Below.refl _ w))) hq
  have HP1 := (hp.alloc.alloc).below hq
  have HR1 := (hr.alloc.alloc).below hq
  have HA : At w1 (w.heap.size) sa ga := At.below (At.box0.alloc) hq
  have HX : At w1 (w.heap.size + 1) sb gb := At.below (At.box1) hq
  clear hq
  have HAr := HA; obtain ⟨HAa, HAb, HAc⟩ := HAr
  go_wp2_with fail
  refine (hR _ HP1 HR1).mono ?_
  rintro e w2 ⟨rfl, hq⟩
  clear HAa HAb HAc
  have HB2 : Hid (Below w.heap.size w w2) := Below.tail HB1.out hq
  have HP2 := HP1.below hq
  have HR2 := HR1.below hq
  have HA' := HA.below hq
  have HX' := HX.below hq
  clear hq HB1 HP1 HR1
  clear HA HX
  have HA := HA'; clear HA'
  have HX := HX'; clear HX'
  have HAr := HA; obtain ⟨HAa, HAb, HAc⟩ := HAr
  go_wp2_with fail
  refine (hRr _ HP2 HR2).mono ?_
  rintro e w3 ⟨rfl, hq⟩
  clear HAa HAb HAc
  have HB3 : Hid (Below w.heap.size w w3) := Below.tail HB2.out hq
  have HP3 := HP2.below hq
  have HR3 := HR2.below hq
  have HA' := HA.below hq
  have HX' := HX.below hq
  clear hq HB2 HP2 HR2
  clear HA HX
  have HA := HA'; clear HA'
  have HX := HX'; clear HX'
  have HAr := HA; obtain ⟨HAa, HAb, HAc⟩ := HAr
  go_wp2_with fail
  refine (hP _ HP3 HR3).mono ?_
  rintro e w4 ⟨rfl, hq⟩
  clear HAa HAb HAc
  have HB4 : Hid (Below w.heap.size w w4) := Below.tail HB3.out hq
  have HP4 := HP3.below hq
  have HR4 := HR3.below hq
  have HA' := HA.below hq
  have HX' := HX.below hq
  clear hq HB3 HP3 HR3
  clear HA HX
  have HA := HA'; clear HA'
  have HX := HX'; clear HX'
  have HAr := HA; obtain ⟨HAa, HAb, HAc⟩ := HAr
  go_wp2_with fail
  refine (hPr _ HP4.alloc HR4.alloc).mono ?_
  rintro e w5 ⟨rfl, hq⟩
  clear HAa HAb HAc
  have HB5 : Hid (Below w.heap.size w w5) := Below.next HB4.out hq
  have HP5 := HP4.next hq
  have HR5 := HR4.next hq
  have HA' := HA.next hq
  have HX' := HX.next hq
  have H1' := At.fresh (s := S1) (g := G1) hq
  clear hq HB4 HP4 HR4
  clear HA HX
  have HA := HA'; clear HA'
  have HX := HX'; clear HX'
  have H1 := H1'; clear H1'
  have HAr := HA; obtain ⟨HAa, HAb, HAc⟩ := HAr
  have HXr := HX; obtain ⟨HXa, HXb, HXc⟩ := HXr
  go_wp2_with fail
  refine (hU _ HP5.alloc HR5.alloc).mono ?_
  rintro e w6 ⟨rfl, hq⟩
  clear HAa HAb HAc HXa HXb HXc
  have HB6 : Hid (Below w.heap.size w w6) := Below.next HB5.out hq
  have HP6 := HP5.next hq
  have HR6 := HR5.next hq
  have HA' := HA.next hq
  have HX' := HX.next hq
  have H1' := H1.next hq
  have H2' := At.fresh (s := S1) (g := G1) hq
  clear hq HB5 HP5 HR5
  clear HA HX H1
  have HA := HA'; clear HA'
  have HX := HX'; clear HX'
  have H1 := H1'; clear H1'
  have H2 := H2'; clear H2'
  have HAr := HA; obtain ⟨HAa, HAb, HAc⟩ := HAr
  have HXr := HX; obtain ⟨HXa, HXb, HXc⟩ := HXr
  go_wp2_with fail
  refine (hUr _ HP6.alloc HR6.alloc).mono ?_
  rintro e w7 ⟨rfl, hq⟩
  clear HAa HAb HAc HXa HXb HXc
  have HB7 : Hid (Below w.heap.size w w7) := Below.next HB6.out hq
  have HP7 := HP6.next hq
  have HR7 := HR6.next hq
  have HA' := HA.next hq
  have HX' := HX.next hq
  have H1' := H1.next hq
  have H2' := H2.next hq
  have H3' := At.fresh (s := S2) (g := G2) hq
  clear hq HB6 HP6 HR6
  clear HA HX H1 H2
  have HA := HA'; clear HA'
  have HX := HX'; clear HX'
  have H1 := H1'; clear H1'
  have H2 := H2'; clear H2'
  have H3 := H3'; clear H3'
  have HAr := HA; obtain ⟨HAa, HAb, HAc⟩ := HAr
  go_wp2_with fail
  refine (hW _ HP7.alloc HR7.alloc).mono ?_
  rintro e w8 ⟨rfl, hq⟩
  clear HAa HAb HAc
  have HB8 : Hid (Below w.heap.size w w8) := Below.next HB7.out hq
  have HP8 := HP7.next hq
  have HR8 := HR7.next hq
  have HA' := HA.next hq
  have HX' := HX.next hq
  have H1' := H1.next hq
  have H2' := H2.next hq
  have H3' := H3.next hq
  have H4' := At.fresh (s := S2) (g := G2) hq
  clear hq HB7 HP7 HR7
  clear HA HX H1 H2 H3
  have HA := HA'; clear HA'
  have HX := HX'; clear HX'
  have H1 := H1'; clear H1'
  have H2 := H2'; clear H2'
  have H3 := H3'; clear H3'
  have H4 := H4'; clear H4'
  have HAr := HA; obtain ⟨HAa, HAb, HAc⟩ := HAr
  go_wp2_with fail
  refine (hWr _ HP8 HR8).mono ?_
  rintro e w9 ⟨rfl, hq⟩
  clear HAa HAb HAc
  have HB9 : Hid (Below w.heap.size w w9) := Below.tail HB8.out hq
  have HP9 := HP8.below hq
  have HR9 := HR8.below hq
  have HA' := HA.below hq
  have HX' := HX.below hq
  have H1' := H1.below hq
  have H2' := H2.below hq
  have H3' := H3.below hq
  have H4' := H4.below hq
  clear hq HB8 HP8 HR8
  clear HA HX H1 H2 H3 H4
  have HA := HA'; clear HA'
  have HX := HX'; clear HX'
  have H1 := H1'; clear H1'
  have H2 := H2'; clear H2'
  have H3 := H3'; clear H3'
  have H4 := H4'; clear H4'
  have HAr := HA; obtain ⟨HAa, HAb, HAc⟩ := HAr
  have HXr := HX; obtain ⟨HXa, HXb, HXc⟩ := HXr
  go_wp2_with fail
  refine (hC _ HP9 HR9).mono ?_
  rintro e w10 ⟨rfl, hq⟩
  clear HAa HAb HAc HXa HXb HXc
  have HB10 : Hid (Below w.heap.size w w10) := Below.tail HB9.out hq
  have HP10 := HP9.below hq
  have HR10 := HR9.below hq
  have HA' := HA.below hq
  have HX' := HX.below hq
  have H1' := H1.below hq
  have H2' := H2.below hq
  have H3' := H3.below hq
  have H4' := H4.below hq
  clear hq HB9 HP9 HR9
  clear HA HX H1 H2 H3 H4
  have HA := HA'; clear HA'
  have HX := HX'; clear HX'
  have H1 := H1'; clear H1'
  have H2 := H2'; clear H2'
  have H3 := H3'; clear H3'
  have H4 := H4'; clear H4'
  have HAr := HA; obtain ⟨HAa, HAb, HAc⟩ := HAr
  have HXr := HX; obtain ⟨HXa, HXb, HXc⟩ := HXr
  go_wp2_with fail
  refine (hCr _ HP10 HR10).mono ?_
  rintro e w11 ⟨rfl, hq⟩
  clear HAa HAb HAc HXa HXb HXc
  have HB11 : Hid (Below w.heap.size w w11) := Below.tail HB10.out hq
  have HP11 := HP10.below hq
  have HR11 := HR10.below hq
  have HA' := HA.below hq
  have HX' := HX.below hq
  have H1' := H1.below hq
  have H2' := H2.below hq
  have H3' := H3.below hq
  have H4' := H4.below hq
  clear hq HB10 HP10 HR10
  clear HA HX H1 H2 H3 H4
  have HA := HA'; clear HA'
  have HX := HX'; clear HX'
  have H1 := H1'; clear H1'
  have H2 := H2'; clear H2'
  have H3 := H3'; clear H3'
  have H4 := H4'; clear H4'
  have HAr := HA; obtain ⟨HAa, HAb, HAc⟩ := HAr
  have H1r := H1; obtain ⟨H1a, H1b, H1c⟩ := H1r
  have H2r := H2; obtain ⟨H2a, H2b, H2c⟩ := H2r
  have H3r := H3; obtain ⟨H3a, H3b, H3c⟩ := H3r
  have H4r := H4; obtain ⟨H4a, H4b, H4c⟩ := H4r
  go_wp2_with fail
  with_reducible first | refine wp_quiet (by kernel_rfl) (by kernel_rfl) ?_ | refine wp_quietR (by kernel_rfl) (by kernel_rfl) ?_
  repeat (quiet_step ((first | (go_at_call 24; exact reg_call (hK _ (HP11.below (below_reg _ _)) (HR11.below (below_reg _ _)))) | (go_at_call 25; exact reg_call (hKr _ (HP11.below (below_reg _ _)) (HR11.below (below_reg _ _)))))))
  refine wpQuiet_nil ?_
  intro _ hw'; obtain ⟨p, rfl⟩ := hw'
  go_wp2
  go_ret
  exact ⟨rfl, b_reg HB11.out⟩
end
theorem types_walk (sa : Int) (ga : Bool) (sb : Int) (gb : Bool) (v : Int) (w : World) (hp : PlainAt w) (hr : PromAt w) (hv : I64 v) : Calls Tryd.prog 3 #[.agg #[.int .i64 sa, .bool ga], .agg #[.int .i64 sb, .bool gb], .int .i64 v] w fun e w' => e = .returned (.bool true) ∧ Below w.heap.size w w' := by
  have hR : ∃ L H E, GivesB 14 #[.agg #[.int .i64 sa, .bool ga]] (.tuple #[.int .i64 L, .int .i64 H, .int .i64 E]) ∧ GivesB 15 #[.agg #[.int .i64 sa, .bool ga]] (.tuple #[.int .i64 L, .int .i64 H, .int .i64 E]) := by
    cases va : vB sa
    · exact ⟨0, 0, 10, fun w _ _ => Range_no sa ga w va, fun w _ _ => rRange_no sa ga w va⟩
    · cases ga
      · exact ⟨_, _, _, fun w _ _ => Range_u sa w va, fun w _ _ => rRange_u sa w va⟩
      · rcases vB_cases va with rfl | rfl | rfl | rfl
        · exact ⟨_, _, _, fun w _ _ => Range_1 w, fun w _ _ => rRange_1 w⟩
        · exact ⟨_, _, _, fun w _ _ => Range_2 w, fun w _ _ => rRange_2 w⟩
        · exact ⟨_, _, _, fun w _ _ => Range_4 w, fun w _ _ => rRange_4 w⟩
        · exact ⟨_, _, _, fun w _ _ => Range_8 w, fun w _ _ => rRange_8 w⟩
  have hP : ∃ S G E, GivesB 16 #[.agg #[.int .i64 sa, .bool ga]] (.tuple #[.agg #[.int .i64 S, .bool G], .int .i64 E]) ∧ GivesB 17 #[.agg #[.int .i64 sa, .bool ga]] (.tuple #[.agg #[.int .i64 S, .bool G], .int .i64 E]) := by
    cases va : vB sa
    · exact ⟨_, _, _, fun w _ _ => Promote_no sa ga w va, fun w _ _ => rPromote_no sa ga w va⟩
    · exact ⟨_, _, _, fun w hp _ => Promote_c sa ga w hp va, fun w _ hr => rPromote_c sa ga w hr va⟩
  have hU : ∃ S G E, GivesB 18 #[.agg #[.int .i64 sa, .bool ga], .agg #[.int .i64 sb, .bool gb]] (.tuple #[.agg #[.int .i64 S, .bool G], .int .i64 E]) ∧ GivesB 19 #[.agg #[.int .i64 sa, .bool ga], .agg #[.int .i64 sb, .bool gb]] (.tuple #[.agg #[.int .i64 S, .bool G], .int .i64 E]) := by
    cases va : vB sa
    · exact ⟨_, _, _, fun w _ _ => Usual_no1 sa ga sb gb w va, fun w _ _ => rUsual_no1 sa ga sb gb w va⟩
    · cases vb : vB sb
      · exact ⟨_, _, _, fun w _ _ => Usual_no2 sa ga sb gb w va vb, fun w _ _ => rUsual_no2 sa ga sb gb w va vb⟩
      · exact ⟨_, _, _, fun w hp _ => Usual_c sa ga sb gb w hp va vb, fun w _ hr => rUsual_c sa ga sb gb w hr va vb⟩
  have hW : ∃ V E, GivesB 20 #[.agg #[.int .i64 sa, .bool ga], .int .i64 v] (.tuple #[.int .i64 V, .int .i64 E]) ∧ GivesB 21 #[.agg #[.int .i64 sa, .bool ga], .int .i64 v] (.tuple #[.int .i64 V, .int .i64 E]) := by
    cases va : vB sa
    · exact ⟨_, _, fun w _ _ => Wrap_no sa ga v w va, fun w _ _ => rWrap_no sa ga v w va⟩
    · exact ⟨_, _, fun w _ _ => Wrap_c sa ga v w va hv, fun w _ _ => rWrap_c sa ga v w va⟩
  have hC : ∃ V E, GivesB 22 #[.agg #[.int .i64 sa, .bool ga], .agg #[.int .i64 sb, .bool gb], .int .i64 v] (.tuple #[.int .i64 V, .int .i64 E]) ∧ GivesB 23 #[.agg #[.int .i64 sa, .bool ga], .agg #[.int .i64 sb, .bool gb], .int .i64 v] (.tuple #[.int .i64 V, .int .i64 E]) := by
    cases va : vB sa
    · exact ⟨_, _, fun w _ _ => Convert_no1 sa ga sb gb v w va, fun w _ _ => rConvert_no1 sa ga sb gb v w va⟩
    · cases vb : vB sb
      · exact ⟨_, _, fun w _ _ => Convert_no2 sa ga sb gb v w va vb, fun w _ _ => rConvert_no2 sa ga sb gb v w va vb⟩
      · exact ⟨_, _, fun w _ _ => Convert_c sa ga sb gb v w va vb hv, fun w _ _ => rConvert_c sa ga sb gb v w va vb⟩
  have hK : ∃ E, GivesB 24 #[.agg #[.int .i64 sa, .bool ga]] (.int .i64 E) ∧ GivesB 25 #[.agg #[.int .i64 sa, .bool ga]] (.int .i64 E) := by
    cases va : vB sa
    · exact ⟨_, fun w _ _ => check_no sa ga w va, fun w _ _ => rCheck_no sa ga w va⟩
    · exact ⟨_, fun w _ _ => check_c sa ga w va, fun w _ _ => rCheck_c sa ga w va⟩
  obtain ⟨L, H, E1, r1, r2⟩ := hR
  obtain ⟨S1, G1, E2, p1, p2⟩ := hP
  obtain ⟨S2, G2, E3, u1, u2⟩ := hU
  obtain ⟨W1, E4, m1, m2⟩ := hW
  obtain ⟨W2, E5, c1, c2⟩ := hC
  obtain ⟨E6, k1, k2⟩ := hK
  exact types_w sa ga sb gb v L H E1 S1 E2 S2 E3 W1 E4 W2 E5 E6 G1 G2 w hp hr r1 r2 p1 p2 u1 u2 m1 m2 c1 c2 k1 k2
end Go.Proofs.YtfgmfkiknogdeaaDoor
