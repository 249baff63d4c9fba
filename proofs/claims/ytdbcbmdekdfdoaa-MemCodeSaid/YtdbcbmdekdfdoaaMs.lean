/- WHAT IS PROVED: taplinelaw03.MemSpaces walked, over contracts of the functions (letters). CONDITIONS: those contracts. -/
import Derived.Test.YtdbcbmdekdfdoaaRn
import Derived.Test.YtdbcbmdekdfdoaaMm
namespace Go.Proofs.Ytdbcbmdekdfdoaa
open Go Go.RowKit Go.QrBits Go.QrMem

attribute [local go_sem] Oper.semAt_some reg_cell reg_frozen reg_setCell reg_lt reg_lt_add reg_drew reg_of_drew
/-- A space (or none) is handed back, with an error. -/
def SpOut2 (P B : List Int) (er : Int) (w : World) (e : Ending) (w' : World) : Prop :=
  ∃ (a : Option Addr) (c : Nat) (a2 : Option Addr) (c2 : Nat), e = .returned (.tuple #[.agg #[.slice a P.length c, .slice a2 B.length c2], .int .i64 er]) ∧ SpIn w' a c a2 c2 P B ∧ Below w.heap.size w w'
def NeG (l0 : Int) (P B : List Int) (er : Int) : Prop := ∀ w, Calls Try.prog 15 #[.int .i64 l0] w (SpOut2 P B er w)
def RNeG (l0 : Int) (P B : List Int) (er : Int) : Prop := ∀ w, Calls Try.prog 18 #[.int .i64 l0] w (RSpPost P B 0 0 er w)
section
variable (a : Option Addr) (c : Nat) (a2 : Option Addr) (c2 : Nat) (P B : List Int)
/-- What Protect answers. -/
def PrG (l0 l1 : Int) (P' B' : List Int) (er : Int) : Prop := ∀ w, SpIn w a c a2 c2 P B → Calls Try.prog 16 #[.agg #[.slice a P.length c, .slice a2 B.length c2], .int .i64 l0, .int .i64 l1] w (SpOut2 P' B' er w)
/-- What Seal answers. -/
def SeG (l0 : Int) (P' B' : List Int) (er : Int) : Prop := ∀ w, SpIn w a c a2 c2 P B → Calls Try.prog 17 #[.agg #[.slice a P.length c, .slice a2 B.length c2], .int .i64 l0] w (SpOut2 P' B' er w)
/-- What the reference's Protect answers. -/
def RPrG (l0 l1 : Int) (P' B' : List Int) (er : Int) : Prop := ∀ w, SpIn w a c a2 c2 P B → Calls Try.prog 19 #[.agg #[.slice a P.length c, .slice a2 B.length c2], .int .i64 l0, .int .i64 l1] w (RSpPost P' B' 0 0 er w)
/-- What the reference's Seal answers. -/
def RSeG (l0 : Int) (P' B' : List Int) (er : Int) : Prop := ∀ w, SpIn w a c a2 c2 P B → Calls Try.prog 20 #[.agg #[.slice a P.length c, .slice a2 B.length c2], .int .i64 l0] w (RSpPost P' B' 0 0 er w)
/-- What the reference's Check answers. -/
def RCkG (er : Int) : Prop := ∀ w, SpIn w a c a2 c2 P B → Calls Try.prog 22 #[.agg #[.slice a P.length c, .slice a2 B.length c2]] w fun e w' => e = .returned (.int .i64 er) ∧ Below w.heap.size w w'
end
def SmG (P B P' B' : List Int) (r : Bool) : Prop := ∀ (a : Option Addr) (c : Nat) (a2 : Option Addr) (c2 : Nat) (a' : Option Addr) (c' : Nat) (a2' : Option Addr) (c2' : Nat) (w : World), SpIn w a c a2 c2 P B → SpIn w a' c' a2' c2' P' B' → Calls Try.prog 24 #[.agg #[.slice a P.length c, .slice a2 B.length c2], .agg #[.slice a' P'.length c', .slice a2' B'.length c2']] w fun e w' => e = .returned (.bool r) ∧ Below w.heap.size w w'
def RsmG (P B P' B' : List Int) (r : Bool) : Prop := ∀ (a : Option Addr) (c : Nat) (a2 : Option Addr) (c2 : Nat) (a' : Option Addr) (c' : Nat) (a2' : Option Addr) (c2' : Nat) (w : World), SpIn w a c a2 c2 P B → SpIn w a' c' a2' c2' P' B' → Calls Try.prog 23 #[.agg #[.slice a P.length c, .slice a2 B.length c2], .agg #[.slice a' P'.length c', .slice a2' B'.length c2']] w fun e w' => e = .returned (.bool r) ∧ Below w.heap.size w w'
set_option maxHeartbeats 4000000 in
set_option maxRecDepth 100000 in
theorem ms_walk (a : Option Addr) (c : Nat) (a2 : Option Addr) (c2 : Nat) (P B : List Int) (oa : Option Addr) (oc : Nat) (oa2 : Option Addr) (oc2 : Nat) (PO BO : List Int) (l0 l1 : Int) (w : World) (hS : SpIn w a c a2 c2 P B) (hO : SpIn w oa oc oa2 oc2 PO BO) (P1 B1 P2 B2 P3 B3 : List Int) (e0 e1 e2 e3 : Int) (r0 : Bool) (hN : NeG l0 P1 B1 e1) (hP : PrG a c a2 c2 P B l0 l1 P2 B2 e2) (hSe : SeG a c a2 c2 P B l0 P3 B3 e3) (hRN : RNeG l0 P1 B1 e1) (hRP : RPrG a c a2 c2 P B l0 l1 P2 B2 e2) (hRS : RSeG a c a2 c2 P B l0 P3 B3 e3) (hck : CkG P B e0) (hrck : RCkG a c a2 c2 P B e0) (hs1 : RsmG P1 B1 P1 B1 true) (hs2 : RsmG P2 B2 P2 B2 true) (hs3 : RsmG P3 B3 P3 B3 true) (hso : SmG P B PO BO r0) (hro : RsmG P B PO BO r0) (hss : SmG P B P B true) :
    Calls Try.prog 3 #[.agg #[.slice a P.length c, .slice a2 B.length c2], .agg #[.slice oa PO.length oc, .slice oa2 BO.length oc2], .agg #[.int .i64 l0, .int .i64 l1]] w fun e w' => e = .returned (.bool true) ∧ Below w.heap.size w w' := by
  have hS0 := Lib.hid hS
  have hO0 := Lib.hid hO
  clear hS hO
  go_enter Try.func3, Try.ntmps3
  have HK := Kw.start w
  go_wp2_with fail
  replace HK := HK.box (vs := [.slice a P.length c, .slice a2 B.length c2]) (t := 25)
  replace HK := HK.box (vs := [.slice oa PO.length oc, .slice oa2 BO.length oc2]) (t := 25)
  replace HK := HK.box (vs := [.int .i64 l0, .int .i64 l1]) (t := 26)
  simp only [World.size_alloc] at HK
  refine (sane_c _).mono ?_
  rintro e w1 ⟨rfl, hq⟩
  replace HK := HK.below hq
  clear hq
  have z1 := HK.lt 0 rfl
  have l_0 := HK.get 0 0 rfl rfl
  have l_1 := HK.get 0 1 rfl rfl
  have l_s := HK.lt 0 rfl
  have p_0 := HK.get 2 0 rfl rfl
  have p_1 := HK.get 2 1 rfl rfl
  have p_s := HK.lt 2 rfl
  go_wp2_with fail
  clear l_0 l_1 l_s p_0 p_1 p_s
  refine (hN _).mono ?_
  rintro e w2 ⟨a2, c2, b2, d2, rfl, hX2, hq⟩
  replace HK := HK.below hq
  clear hq
  have z2 := HK.lt 0 rfl
  have hB2 := Below.refl w2.heap.size w2
  have hX2' := Lib.hid hX2
  clear hX2
  have l_0 := HK.get 0 0 rfl rfl
  have l_1 := HK.get 0 1 rfl rfl
  have l_s := HK.lt 0 rfl
  have p_0 := HK.get 2 0 rfl rfl
  have p_1 := HK.get 2 1 rfl rfl
  have p_s := HK.lt 2 rfl
  go_wp2_with fail
  replace HK := HK.box (vs := [.slice a2 P1.length c2, .slice b2 B1.length d2]) (t := 25)
  replace hB2 := b_alloc (o := (.cells #[.slice a2 P1.length c2, .slice b2 B1.length d2] 25)) hB2
  clear l_0 l_1 l_s p_0 p_1 p_s
  refine (hP _ (hS0.out.below HK.base)).mono ?_
  rintro e w3 ⟨a3, c3, b3, d3, rfl, hX3, hq⟩
  replace HK := HK.below hq
  replace hB2 := Below.tail hB2 hq
  clear hq
  have z3 := HK.lt 0 rfl
  have hB3 := Below.refl w3.heap.size w3
  have hX3' := Lib.hid hX3
  clear hX3
  have l_0 := HK.get 1 0 rfl rfl
  have l_1 := HK.get 1 1 rfl rfl
  have l_s := HK.lt 1 rfl
  have p_0 := HK.get 3 0 rfl rfl
  have p_1 := HK.get 3 1 rfl rfl
  have p_s := HK.lt 3 rfl
  go_wp2_with fail
  replace HK := HK.box (vs := [.slice a3 P2.length c3, .slice b3 B2.length d3]) (t := 25)
  replace hB2 := b_alloc (o := (.cells #[.slice a3 P2.length c3, .slice b3 B2.length d3] 25)) hB2
  replace hB3 := b_alloc (o := (.cells #[.slice a3 P2.length c3, .slice b3 B2.length d3] 25)) hB3
  clear l_0 l_1 l_s p_0 p_1 p_s
  refine (hSe _ (hS0.out.below HK.base)).mono ?_
  rintro e w4 ⟨a4, c4, b4, d4, rfl, hX4, hq⟩
  replace HK := HK.below hq
  replace hB2 := Below.tail hB2 hq
  replace hB3 := Below.tail hB3 hq
  clear hq
  have z4 := HK.lt 0 rfl
  have hB4 := Below.refl w4.heap.size w4
  have hX4' := Lib.hid hX4
  clear hX4
  have l_0 := HK.get 2 0 rfl rfl
  have l_1 := HK.get 2 1 rfl rfl
  have l_s := HK.lt 2 rfl
  have p_0 := HK.get 4 0 rfl rfl
  have p_1 := HK.get 4 1 rfl rfl
  have p_s := HK.lt 4 rfl
  go_wp2_with fail
  replace HK := HK.box (vs := [.slice a4 P3.length c4, .slice b4 B3.length d4]) (t := 25)
  replace hB2 := b_alloc (o := (.cells #[.slice a4 P3.length c4, .slice b4 B3.length d4] 25)) hB2
  replace hB3 := b_alloc (o := (.cells #[.slice a4 P3.length c4, .slice b4 B3.length d4] 25)) hB3
  replace hB4 := b_alloc (o := (.cells #[.slice a4 P3.length c4, .slice b4 B3.length d4] 25)) hB4
  clear l_0 l_1 l_s p_0 p_1 p_s
  refine (hRN _).mono ?_
  rintro e w5 ⟨a5, c5, b5, d5, rfl, hX5, hq⟩
  replace HK := HK.below hq
  replace hB2 := Below.tail hB2 hq
  replace hB3 := Below.tail hB3 hq
  replace hB4 := Below.tail hB4 hq
  clear hq
  have z5 := HK.lt 0 rfl
  have hB5 := Below.refl w5.heap.size w5
  have hX5' := Lib.hid hX5
  clear hX5
  have l_0 := HK.get 3 0 rfl rfl
  have l_1 := HK.get 3 1 rfl rfl
  have l_s := HK.lt 3 rfl
  have p_0 := HK.get 5 0 rfl rfl
  have p_1 := HK.get 5 1 rfl rfl
  have p_s := HK.lt 5 rfl
  go_wp2_with fail
  replace HK := HK.box (vs := [.slice a5 P1.length c5, .slice b5 B1.length d5, .int .i64 0, .int .i64 0, .int .i64 e1]) (t := 36)
  replace hB2 := b_alloc (o := (.cells #[.slice a5 P1.length c5, .slice b5 B1.length d5, .int .i64 0, .int .i64 0, .int .i64 e1] 36)) hB2
  replace hB3 := b_alloc (o := (.cells #[.slice a5 P1.length c5, .slice b5 B1.length d5, .int .i64 0, .int .i64 0, .int .i64 e1] 36)) hB3
  replace hB4 := b_alloc (o := (.cells #[.slice a5 P1.length c5, .slice b5 B1.length d5, .int .i64 0, .int .i64 0, .int .i64 e1] 36)) hB4
  replace hB5 := b_alloc (o := (.cells #[.slice a5 P1.length c5, .slice b5 B1.length d5, .int .i64 0, .int .i64 0, .int .i64 e1] 36)) hB5
  clear l_0 l_1 l_s p_0 p_1 p_s
  refine (hRP _ (hS0.out.below HK.base)).mono ?_
  rintro e w6 ⟨a6, c6, b6, d6, rfl, hX6, hq⟩
  replace HK := HK.below hq
  replace hB2 := Below.tail hB2 hq
  replace hB3 := Below.tail hB3 hq
  replace hB4 := Below.tail hB4 hq
  replace hB5 := Below.tail hB5 hq
  clear hq
  have z6 := HK.lt 0 rfl
  have hB6 := Below.refl w6.heap.size w6
  have hX6' := Lib.hid hX6
  clear hX6
  have l_0 := HK.get 4 0 rfl rfl
  have l_1 := HK.get 4 1 rfl rfl
  have l_s := HK.lt 4 rfl
  have p_0 := HK.get 6 0 rfl rfl
  have p_1 := HK.get 6 1 rfl rfl
  have p_s := HK.lt 6 rfl
  go_wp2_with fail
  replace HK := HK.box (vs := [.slice a6 P2.length c6, .slice b6 B2.length d6, .int .i64 0, .int .i64 0, .int .i64 e2]) (t := 36)
  replace hB2 := b_alloc (o := (.cells #[.slice a6 P2.length c6, .slice b6 B2.length d6, .int .i64 0, .int .i64 0, .int .i64 e2] 36)) hB2
  replace hB3 := b_alloc (o := (.cells #[.slice a6 P2.length c6, .slice b6 B2.length d6, .int .i64 0, .int .i64 0, .int .i64 e2] 36)) hB3
  replace hB4 := b_alloc (o := (.cells #[.slice a6 P2.length c6, .slice b6 B2.length d6, .int .i64 0, .int .i64 0, .int .i64 e2] 36)) hB4
  replace hB5 := b_alloc (o := (.cells #[.slice a6 P2.length c6, .slice b6 B2.length d6, .int .i64 0, .int .i64 0, .int .i64 e2] 36)) hB5
  replace hB6 := b_alloc (o := (.cells #[.slice a6 P2.length c6, .slice b6 B2.length d6, .int .i64 0, .int .i64 0, .int .i64 e2] 36)) hB6
  clear l_0 l_1 l_s p_0 p_1 p_s
  refine (hRS _ (hS0.out.below HK.base)).mono ?_
  rintro e w7 ⟨a7, c7, b7, d7, rfl, hX7, hq⟩
  replace HK := HK.below hq
  replace hB2 := Below.tail hB2 hq
  replace hB3 := Below.tail hB3 hq
  replace hB4 := Below.tail hB4 hq
  replace hB5 := Below.tail hB5 hq
  replace hB6 := Below.tail hB6 hq
  clear hq
  have z7 := HK.lt 0 rfl
  have hB7 := Below.refl w7.heap.size w7
  have hX7' := Lib.hid hX7
  clear hX7
  have l_0 := HK.get 5 0 rfl rfl
  have l_1 := HK.get 5 1 rfl rfl
  have l_s := HK.lt 5 rfl
  have p_0 := HK.get 7 0 rfl rfl
  have p_1 := HK.get 7 1 rfl rfl
  have p_s := HK.lt 7 rfl
  go_wp2_with fail
  replace HK := HK.box (vs := [.slice a7 P3.length c7, .slice b7 B3.length d7, .int .i64 0, .int .i64 0, .int .i64 e3]) (t := 36)
  replace hB2 := b_alloc (o := (.cells #[.slice a7 P3.length c7, .slice b7 B3.length d7, .int .i64 0, .int .i64 0, .int .i64 e3] 36)) hB2
  replace hB3 := b_alloc (o := (.cells #[.slice a7 P3.length c7, .slice b7 B3.length d7, .int .i64 0, .int .i64 0, .int .i64 e3] 36)) hB3
  replace hB4 := b_alloc (o := (.cells #[.slice a7 P3.length c7, .slice b7 B3.length d7, .int .i64 0, .int .i64 0, .int .i64 e3] 36)) hB4
  replace hB5 := b_alloc (o := (.cells #[.slice a7 P3.length c7, .slice b7 B3.length d7, .int .i64 0, .int .i64 0, .int .i64 e3] 36)) hB5
  replace hB6 := b_alloc (o := (.cells #[.slice a7 P3.length c7, .slice b7 B3.length d7, .int .i64 0, .int .i64 0, .int .i64 e3] 36)) hB6
  replace hB7 := b_alloc (o := (.cells #[.slice a7 P3.length c7, .slice b7 B3.length d7, .int .i64 0, .int .i64 0, .int .i64 e3] 36)) hB7
  clear l_0 l_1 l_s p_0 p_1 p_s
  have hWb := HK.base
  have z_0 := HK.get 0 0 rfl rfl
  have z_1 := HK.get 0 1 rfl rfl
  have z_2 := HK.get 0 2 rfl rfl
  have z_3 := HK.get 0 3 rfl rfl
  have z_4 := HK.get 0 4 rfl rfl
  have z_s := HK.lt 0 rfl
  have y_0 := HK.get 1 0 rfl rfl
  have y_1 := HK.get 1 1 rfl rfl
  have y_2 := HK.get 1 2 rfl rfl
  have y_3 := HK.get 1 3 rfl rfl
  have y_4 := HK.get 1 4 rfl rfl
  have y_s := HK.lt 1 rfl
  have x_0 := HK.get 2 0 rfl rfl
  have x_1 := HK.get 2 1 rfl rfl
  have x_2 := HK.get 2 2 rfl rfl
  have x_3 := HK.get 2 3 rfl rfl
  have x_4 := HK.get 2 4 rfl rfl
  have x_s := HK.lt 2 rfl
  have c_0 := HK.get 3 0 rfl rfl
  have c_1 := HK.get 3 1 rfl rfl
  have c_s := HK.lt 3 rfl
  have b_0 := HK.get 4 0 rfl rfl
  have b_1 := HK.get 4 1 rfl rfl
  have b_s := HK.lt 4 rfl
  have a_0 := HK.get 5 0 rfl rfl
  have a_1 := HK.get 5 1 rfl rfl
  have a_s := HK.lt 5 rfl
  have o_0 := HK.get 7 0 rfl rfl
  have o_1 := HK.get 7 1 rfl rfl
  have o_s := HK.lt 7 rfl
  have p_0 := HK.get 8 0 rfl rfl
  have p_1 := HK.get 8 1 rfl rfl
  have p_s := HK.lt 8 rfl
  have hY2 := Lib.hid (hX2'.out.below hB2)
  clear hB2
  have hY3 := Lib.hid (hX3'.out.below hB3)
  clear hB3
  have hY4 := Lib.hid (hX4'.out.below hB4)
  clear hB4
  have hY5 := Lib.hid (hX5'.out.below hB5)
  clear hB5
  have hY6 := Lib.hid (hX6'.out.below hB6)
  clear hB6
  have hY7 := Lib.hid (hX7'.out.below hB7)
  clear hB7
  have hSw := Lib.hid (hS0.out.below hWb)
  have hOw := Lib.hid (hO0.out.below hWb)
  have HK9 := Lib.hid HK
  clear HK
  generalize hWW : (w7.alloc (.cells #[.slice a7 P3.length c7, .slice b7 B3.length d7, .int .i64 0, .int .i64 0, .int .i64 e3] 36)) = W at *
  have HWW := Lib.hid hWW
  clear hWW
  refine wp_quiet (by kernel_rfl) (by kernel_rfl) ?_
  repeat (quiet_step (fail))
  quiet_step ((go_at_call 21; exact reg_call (hck _ _ _ _ _ (hSw.out.below (below_reg _ _)))))
  repeat (quiet_step (fail))
  quiet_step ((go_at_call 22; exact reg_call (hrck _ (hSw.out.below (below_reg _ _)))))
  repeat (quiet_step (fail))
  quiet_step ((go_at_call 23; exact reg_call (hs1 _ _ _ _ _ _ _ _ _ (hY2.out.below (below_reg _ _)) (hY5.out.below (below_reg _ _)))))
  repeat (quiet_step (fail))
  quiet_step ((go_at_call 23; exact reg_call (hs2 _ _ _ _ _ _ _ _ _ (hY3.out.below (below_reg _ _)) (hY6.out.below (below_reg _ _)))))
  repeat (quiet_step (fail))
  quiet_step ((go_at_call 23; exact reg_call (hs3 _ _ _ _ _ _ _ _ _ (hY4.out.below (below_reg _ _)) (hY7.out.below (below_reg _ _)))))
  repeat (quiet_step (fail))
  quiet_step ((go_at_call 24; exact reg_call (hso _ _ _ _ _ _ _ _ _ (hSw.out.below (below_reg _ _)) (hOw.out.below (below_reg _ _)))))
  repeat (quiet_step (fail))
  quiet_step ((go_at_call 23; exact reg_call (hro _ _ _ _ _ _ _ _ _ (hSw.out.below (below_reg _ _)) (hOw.out.below (below_reg _ _)))))
  repeat (quiet_step (fail))
  quiet_step ((go_at_call 24; exact reg_call (hss _ _ _ _ _ _ _ _ _ (hSw.out.below (below_reg _ _)) (hSw.out.below (below_reg _ _)))))
  repeat (quiet_step (fail))
  refine wpQuiet_nil ?_
  intro _ hw'; obtain ⟨p, rfl⟩ := hw'
  go_wp2
  go_ret
  exact ⟨rfl, Below.tail hWb (below_reg _ _)⟩
end Go.Proofs.Ytdbcbmdekdfdoaa
