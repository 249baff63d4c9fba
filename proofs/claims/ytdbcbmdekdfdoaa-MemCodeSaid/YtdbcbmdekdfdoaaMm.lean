/- WHAT IS PROVED: taplinelaw03.MemMoves walked, over contracts of the six functions and of the reference's Same (letters). CONDITIONS: those contracts. -/
import Derived.Test.YtdbcbmdekdfdoaaRl
import Derived.Test.YtdbcbmdekdfdoaaRo
import Derived.Test.YtdbcbmdekdfdoaaMa
namespace Go.Proofs.Ytdbcbmdekdfdoaa
open Go Go.RowKit Go.QrBits Go.QrMem

attribute [local go_sem] Oper.semAt_some
/-- A space (or none) is handed back, with a fault and an error. -/
def SpOutG (P B : List Int) (k x er : Int) (w : World) (e : Ending) (w' : World) : Prop :=
  ∃ (a : Option Addr) (c : Nat) (a2 : Option Addr) (c2 : Nat), e = .returned (.tuple #[.agg #[.slice a P.length c, .slice a2 B.length c2], .agg #[.int .i64 k, .int .i64 x], .int .i64 er]) ∧ SpIn w' a c a2 c2 P B ∧ Below w.heap.size w w'
/-- What the reference's Same answers of one space twice. -/
def RsmY (P B : List Int) : Prop := ∀ (a : Option Addr) (c : Nat) (a2 : Option Addr) (c2 : Nat) (a' : Option Addr) (c' : Nat) (a2' : Option Addr) (c2' : Nat) (w : World), SpIn w a c a2 c2 P B → SpIn w a' c' a2' c2' P B → Calls Try.prog 23 #[.agg #[.slice a P.length c, .slice a2 B.length c2], .agg #[.slice a' P.length c', .slice a2' B.length c2']] w fun e w' => e = .returned (.bool true) ∧ Below w.heap.size w w'
section
variable (a : Option Addr) (c : Nat) (a2 : Option Addr) (c2 : Nat) (P B : List Int)
/-- What Load answers. -/
def LoG (t s : Int) (gx : Bool) (v k x er : Int) : Prop := ∀ w, SpIn w a c a2 c2 P B → Calls Try.prog 33 #[.agg #[.slice a P.length c, .slice a2 B.length c2], .int .i64 t, .agg #[.int .i64 s, .bool gx]] w fun e w' => e = .returned (.tuple #[.int .i64 v, .agg #[.int .i64 k, .int .i64 x], .int .i64 er]) ∧ Below w.heap.size w w'
/-- What the reference's Load answers. -/
def RLoG (t s : Int) (gx : Bool) (v k x er : Int) : Prop := ∀ w, SpIn w a c a2 c2 P B → Calls Try.prog 36 #[.agg #[.slice a P.length c, .slice a2 B.length c2], .int .i64 t, .agg #[.int .i64 s, .bool gx]] w fun e w' => e = .returned (.agg #[.int .i64 v, .int .i64 k, .int .i64 x, .int .i64 er]) ∧ Below w.heap.size w w'
/-- What Store answers. -/
def SoG (t s : Int) (gx : Bool) (v : Int) (P' B' : List Int) (k x er : Int) : Prop := ∀ w, SpIn w a c a2 c2 P B → Calls Try.prog 34 #[.agg #[.slice a P.length c, .slice a2 B.length c2], .int .i64 t, .agg #[.int .i64 s, .bool gx], .int .i64 v] w (SpOutG P' B' k x er w)
/-- What the reference's Store answers. -/
def RSoG (t s : Int) (gx : Bool) (v : Int) (P' B' : List Int) (k x er : Int) : Prop := ∀ w, SpIn w a c a2 c2 P B → Calls Try.prog 37 #[.agg #[.slice a P.length c, .slice a2 B.length c2], .int .i64 t, .agg #[.int .i64 s, .bool gx], .int .i64 v] w (RSpPost P' B' k x er w)
/-- What Poke answers. -/
def PoG (t : Int) (ab : Option Addr) (nb cb : Nat) (bs P' B' : List Int) (k x er : Int) : Prop := ∀ w, SpIn w a c a2 c2 P B → SlAt w ab (bV bs) → Calls Try.prog 35 #[.agg #[.slice a P.length c, .slice a2 B.length c2], .int .i64 t, .slice ab nb cb] w (SpOutG P' B' k x er w)
/-- What the reference's Poke answers. -/
def RPoG (t : Int) (ab : Option Addr) (nb cb : Nat) (bs P' B' : List Int) (k x er : Int) : Prop := ∀ w, SpIn w a c a2 c2 P B → SlAt w ab (bV bs) → Calls Try.prog 38 #[.agg #[.slice a P.length c, .slice a2 B.length c2], .int .i64 t, .slice ab nb cb] w (RSpPost P' B' k x er w)
end
set_option maxHeartbeats 4000000 in
set_option maxRecDepth 100000 in
theorem mm_walk (a : Option Addr) (c : Nat) (a2 : Option Addr) (c2 : Nat) (P B : List Int) (t s v : Int) (gx : Bool) (ab : Option Addr) (nb cb : Nat) (w : World) (hS : SpIn w a c a2 c2 P B) (bs P1 B1 P2 B2 : List Int) (hb : SlAt w ab (bV bs)) (vl kl xl el ks xs es kp xp ep : Int) (hL : LoG a c a2 c2 P B t s gx vl kl xl el) (hSt : SoG a c a2 c2 P B t s gx v P1 B1 ks xs es) (hPo : PoG a c a2 c2 P B t ab nb cb bs P2 B2 kp xp ep) (hRL : RLoG a c a2 c2 P B t s gx vl kl xl el) (hRS : RSoG a c a2 c2 P B t s gx v P1 B1 ks xs es) (hRP : RPoG a c a2 c2 P B t ab nb cb bs P2 B2 kp xp ep) (hs1 : RsmY P1 B1) (hs2 : RsmY P2 B2) :
    Calls Try.prog 5 #[.agg #[.slice a P.length c, .slice a2 B.length c2], .agg #[.int .i64 t, .int .i64 s, .bool gx, .int .i64 v], .slice ab nb cb] w fun e w' => e = .returned (.bool true) ∧ Below w.heap.size w w' := by
  have hS0 := Lib.hid hS
  have hb0 := Lib.hid hb
  clear hS hb
  go_enter Try.func5, Try.ntmps5
  have HK := Kw.start w
  go_wp2_with fail
  replace HK := HK.box (vs := [.slice a P.length c, .slice a2 B.length c2]) (t := 25)
  replace HK := HK.box (vs := [.int .i64 t, .int .i64 s, .bool gx, .int .i64 v]) (t := 66)
  simp only [World.size_alloc] at HK
  refine (sane_c _).mono ?_
  rintro e w1 ⟨rfl, hq⟩
  replace HK := HK.below hq
  clear hq
  have z1 := HK.lt 0 rfl
  have x_0 := HK.get 0 0 rfl rfl
  have x_1 := HK.get 0 1 rfl rfl
  have x_2 := HK.get 0 2 rfl rfl
  have x_3 := HK.get 0 3 rfl rfl
  have x_s := HK.lt 0 rfl
  have p_0 := HK.get 1 0 rfl rfl
  have p_1 := HK.get 1 1 rfl rfl
  have p_s := HK.lt 1 rfl
  go_wp2_with fail
  clear x_0 x_1 x_2 x_3 x_s p_0 p_1 p_s
  refine (hL _ (hS0.out.below HK.base)).mono ?_
  rintro e w2 ⟨rfl, hq⟩
  replace HK := HK.below hq
  clear hq
  have z2 := HK.lt 0 rfl
  have x_0 := HK.get 0 0 rfl rfl
  have x_1 := HK.get 0 1 rfl rfl
  have x_2 := HK.get 0 2 rfl rfl
  have x_3 := HK.get 0 3 rfl rfl
  have x_s := HK.lt 0 rfl
  have p_0 := HK.get 1 0 rfl rfl
  have p_1 := HK.get 1 1 rfl rfl
  have p_s := HK.lt 1 rfl
  go_wp2_with fail
  replace HK := HK.box (vs := [.int .i64 kl, .int .i64 xl]) (t := 34)
  clear x_0 x_1 x_2 x_3 x_s p_0 p_1 p_s
  refine (hSt _ (hS0.out.below HK.base)).mono ?_
  rintro e w3 ⟨a3, c3, b3, d3, rfl, hX3, hq⟩
  replace HK := HK.below hq
  clear hq
  have z3 := HK.lt 0 rfl
  have hB3 := Below.refl w3.heap.size w3
  have hX3' := Lib.hid hX3
  clear hX3
  have x_0 := HK.get 1 0 rfl rfl
  have x_1 := HK.get 1 1 rfl rfl
  have x_2 := HK.get 1 2 rfl rfl
  have x_3 := HK.get 1 3 rfl rfl
  have x_s := HK.lt 1 rfl
  have p_0 := HK.get 2 0 rfl rfl
  have p_1 := HK.get 2 1 rfl rfl
  have p_s := HK.lt 2 rfl
  go_wp2_with fail
  replace HK := HK.box (vs := [.slice a3 P1.length c3, .slice b3 B1.length d3]) (t := 25)
  replace hB3 := b_alloc (o := (.cells #[.slice a3 P1.length c3, .slice b3 B1.length d3] 25)) hB3
  replace HK := HK.box (vs := [.int .i64 ks, .int .i64 xs]) (t := 34)
  replace hB3 := b_alloc (o := (.cells #[.int .i64 ks, .int .i64 xs] 34)) hB3
  simp only [World.size_alloc] at HK
  clear x_0 x_1 x_2 x_3 x_s p_0 p_1 p_s
  refine (hPo _ (hS0.out.below HK.base) (hb0.out.below HK.base)).mono ?_
  rintro e w4 ⟨a4, c4, b4, d4, rfl, hX4, hq⟩
  replace HK := HK.below hq
  replace hB3 := Below.tail hB3 hq
  clear hq
  have z4 := HK.lt 0 rfl
  have hB4 := Below.refl w4.heap.size w4
  have hX4' := Lib.hid hX4
  clear hX4
  have x_0 := HK.get 3 0 rfl rfl
  have x_1 := HK.get 3 1 rfl rfl
  have x_2 := HK.get 3 2 rfl rfl
  have x_3 := HK.get 3 3 rfl rfl
  have x_s := HK.lt 3 rfl
  have p_0 := HK.get 4 0 rfl rfl
  have p_1 := HK.get 4 1 rfl rfl
  have p_s := HK.lt 4 rfl
  go_wp2_with fail
  replace HK := HK.box (vs := [.slice a4 P2.length c4, .slice b4 B2.length d4]) (t := 25)
  replace hB3 := b_alloc (o := (.cells #[.slice a4 P2.length c4, .slice b4 B2.length d4] 25)) hB3
  replace hB4 := b_alloc (o := (.cells #[.slice a4 P2.length c4, .slice b4 B2.length d4] 25)) hB4
  replace HK := HK.box (vs := [.int .i64 kp, .int .i64 xp]) (t := 34)
  replace hB3 := b_alloc (o := (.cells #[.int .i64 kp, .int .i64 xp] 34)) hB3
  replace hB4 := b_alloc (o := (.cells #[.int .i64 kp, .int .i64 xp] 34)) hB4
  simp only [World.size_alloc] at HK
  clear x_0 x_1 x_2 x_3 x_s p_0 p_1 p_s
  refine (hRL _ (hS0.out.below HK.base)).mono ?_
  rintro e w5 ⟨rfl, hq⟩
  replace HK := HK.below hq
  replace hB3 := Below.tail hB3 hq
  replace hB4 := Below.tail hB4 hq
  clear hq
  have z5 := HK.lt 0 rfl
  have x_0 := HK.get 5 0 rfl rfl
  have x_1 := HK.get 5 1 rfl rfl
  have x_2 := HK.get 5 2 rfl rfl
  have x_3 := HK.get 5 3 rfl rfl
  have x_s := HK.lt 5 rfl
  have p_0 := HK.get 6 0 rfl rfl
  have p_1 := HK.get 6 1 rfl rfl
  have p_s := HK.lt 6 rfl
  go_wp2_with fail
  replace HK := HK.box (vs := [.int .i64 vl, .int .i64 kl, .int .i64 xl, .int .i64 el]) (t := 73)
  replace hB3 := b_alloc (o := (.cells #[.int .i64 vl, .int .i64 kl, .int .i64 xl, .int .i64 el] 73)) hB3
  replace hB4 := b_alloc (o := (.cells #[.int .i64 vl, .int .i64 kl, .int .i64 xl, .int .i64 el] 73)) hB4
  clear x_0 x_1 x_2 x_3 x_s p_0 p_1 p_s
  refine (hRS _ (hS0.out.below HK.base)).mono ?_
  rintro e w6 ⟨a6, c6, b6, d6, rfl, hX6, hq⟩
  replace HK := HK.below hq
  replace hB3 := Below.tail hB3 hq
  replace hB4 := Below.tail hB4 hq
  clear hq
  have z6 := HK.lt 0 rfl
  have hB6 := Below.refl w6.heap.size w6
  have hX6' := Lib.hid hX6
  clear hX6
  have x_0 := HK.get 6 0 rfl rfl
  have x_1 := HK.get 6 1 rfl rfl
  have x_2 := HK.get 6 2 rfl rfl
  have x_3 := HK.get 6 3 rfl rfl
  have x_s := HK.lt 6 rfl
  have p_0 := HK.get 7 0 rfl rfl
  have p_1 := HK.get 7 1 rfl rfl
  have p_s := HK.lt 7 rfl
  go_wp2_with fail
  replace HK := HK.box (vs := [.slice a6 P1.length c6, .slice b6 B1.length d6, .int .i64 ks, .int .i64 xs, .int .i64 es]) (t := 36)
  replace hB3 := b_alloc (o := (.cells #[.slice a6 P1.length c6, .slice b6 B1.length d6, .int .i64 ks, .int .i64 xs, .int .i64 es] 36)) hB3
  replace hB4 := b_alloc (o := (.cells #[.slice a6 P1.length c6, .slice b6 B1.length d6, .int .i64 ks, .int .i64 xs, .int .i64 es] 36)) hB4
  replace hB6 := b_alloc (o := (.cells #[.slice a6 P1.length c6, .slice b6 B1.length d6, .int .i64 ks, .int .i64 xs, .int .i64 es] 36)) hB6
  clear x_0 x_1 x_2 x_3 x_s p_0 p_1 p_s
  refine (hRP _ (hS0.out.below HK.base) (hb0.out.below HK.base)).mono ?_
  rintro e w7 ⟨a7, c7, b7, d7, rfl, hX7, hq⟩
  replace HK := HK.below hq
  replace hB3 := Below.tail hB3 hq
  replace hB4 := Below.tail hB4 hq
  replace hB6 := Below.tail hB6 hq
  clear hq
  have z7 := HK.lt 0 rfl
  have hB7 := Below.refl w7.heap.size w7
  have hX7' := Lib.hid hX7
  clear hX7
  have rs_0 := HK.get 0 0 rfl rfl
  have rs_1 := HK.get 0 1 rfl rfl
  have rs_2 := HK.get 0 2 rfl rfl
  have rs_3 := HK.get 0 3 rfl rfl
  have rs_4 := HK.get 0 4 rfl rfl
  have rs_s := HK.lt 0 rfl
  have rl_0 := HK.get 1 0 rfl rfl
  have rl_1 := HK.get 1 1 rfl rfl
  have rl_2 := HK.get 1 2 rfl rfl
  have rl_3 := HK.get 1 3 rfl rfl
  have rl_s := HK.lt 1 rfl
  have sb_0 := HK.get 5 0 rfl rfl
  have sb_1 := HK.get 5 1 rfl rfl
  have sb_s := HK.lt 5 rfl
  have lf_0 := HK.get 6 0 rfl rfl
  have lf_1 := HK.get 6 1 rfl rfl
  have lf_s := HK.lt 6 rfl
  go_wp2_with fail
  replace HK := HK.box (vs := [.slice a7 P2.length c7, .slice b7 B2.length d7, .int .i64 kp, .int .i64 xp, .int .i64 ep]) (t := 36)
  replace hB3 := b_alloc (o := (.cells #[.slice a7 P2.length c7, .slice b7 B2.length d7, .int .i64 kp, .int .i64 xp, .int .i64 ep] 36)) hB3
  replace hB4 := b_alloc (o := (.cells #[.slice a7 P2.length c7, .slice b7 B2.length d7, .int .i64 kp, .int .i64 xp, .int .i64 ep] 36)) hB4
  replace hB6 := b_alloc (o := (.cells #[.slice a7 P2.length c7, .slice b7 B2.length d7, .int .i64 kp, .int .i64 xp, .int .i64 ep] 36)) hB6
  replace hB7 := b_alloc (o := (.cells #[.slice a7 P2.length c7, .slice b7 B2.length d7, .int .i64 kp, .int .i64 xp, .int .i64 ep] 36)) hB7
  clear rs_0 rs_1 rs_2 rs_3 rs_4 rs_s rl_0 rl_1 rl_2 rl_3 rl_s sb_0 sb_1 sb_s lf_0 lf_1 lf_s
  refine (hs1 _ _ _ _ _ _ _ _ _ (hX3'.out.below hB3) (hX6'.out.below hB6)).mono ?_
  rintro e w8 ⟨rfl, hq⟩
  replace HK := HK.below hq
  replace hB3 := Below.tail hB3 hq
  replace hB4 := Below.tail hB4 hq
  replace hB6 := Below.tail hB6 hq
  replace hB7 := Below.tail hB7 hq
  clear hq
  have z8 := HK.lt 0 rfl
  have rp_0 := HK.get 0 0 rfl rfl
  have rp_1 := HK.get 0 1 rfl rfl
  have rp_2 := HK.get 0 2 rfl rfl
  have rp_3 := HK.get 0 3 rfl rfl
  have rp_4 := HK.get 0 4 rfl rfl
  have rp_s := HK.lt 0 rfl
  have rs_0 := HK.get 1 0 rfl rfl
  have rs_1 := HK.get 1 1 rfl rfl
  have rs_2 := HK.get 1 2 rfl rfl
  have rs_3 := HK.get 1 3 rfl rfl
  have rs_4 := HK.get 1 4 rfl rfl
  have rs_s := HK.lt 1 rfl
  have pb_0 := HK.get 4 0 rfl rfl
  have pb_1 := HK.get 4 1 rfl rfl
  have pb_s := HK.lt 4 rfl
  have sf_0 := HK.get 5 0 rfl rfl
  have sf_1 := HK.get 5 1 rfl rfl
  have sf_s := HK.lt 5 rfl
  go_wp2_with fail
  clear rp_0 rp_1 rp_2 rp_3 rp_4 rp_s rs_0 rs_1 rs_2 rs_3 rs_4 rs_s pb_0 pb_1 pb_s sf_0 sf_1 sf_s
  refine (hs2 _ _ _ _ _ _ _ _ _ (hX4'.out.below hB4) (hX7'.out.below hB7)).mono ?_
  rintro e w9 ⟨rfl, hq⟩
  replace HK := HK.below hq
  replace hB3 := Below.tail hB3 hq
  replace hB4 := Below.tail hB4 hq
  replace hB6 := Below.tail hB6 hq
  replace hB7 := Below.tail hB7 hq
  clear hq
  have z9 := HK.lt 0 rfl
  have rp_0 := HK.get 0 0 rfl rfl
  have rp_1 := HK.get 0 1 rfl rfl
  have rp_2 := HK.get 0 2 rfl rfl
  have rp_3 := HK.get 0 3 rfl rfl
  have rp_4 := HK.get 0 4 rfl rfl
  have rp_s := HK.lt 0 rfl
  have pf_0 := HK.get 3 0 rfl rfl
  have pf_1 := HK.get 3 1 rfl rfl
  have pf_s := HK.lt 3 rfl
  have hK := HK.base
  clear HK hB3 hB4 hB6 hB7
  go_wp2
  go_ret
  exact ⟨rfl, hK⟩
end Go.Proofs.Ytdbcbmdekdfdoaa
