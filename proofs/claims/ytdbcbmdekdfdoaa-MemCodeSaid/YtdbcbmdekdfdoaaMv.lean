/- WHAT IS PROVED: taplinelaw03.MemReads walked, over contracts of the eight functions (letters). CONDITIONS: those contracts. -/
import Derived.Test.YtdbcbmdekdfdoaaMt
import Derived.Test.YtdbcbmdekdfdoaaRs
namespace Go.Proofs.Ytdbcbmdekdfdoaa
open Go Go.RowKit Go.QrBits Go.QrMem

attribute [local go_sem] Oper.semAt_some
/-- Bytes are handed back, with an error. -/
def BsOut2 (L : List Int) (er : Int) (w : World) (e : Ending) (w' : World) : Prop := ∃ (a : Option Addr) (c : Nat), e = .returned (.tuple #[.slice a L.length c, .int .i64 er]) ∧ SlV a L.length c ∧ SlAt w' a (bV L) ∧ Below w.heap.size w w'
def BsOut3 (L : List Int) (k x er : Int) (w : World) (e : Ending) (w' : World) : Prop := ∃ (a : Option Addr) (c : Nat), e = .returned (.tuple #[.slice a L.length c, .agg #[.int .i64 k, .int .i64 x], .int .i64 er]) ∧ SlV a L.length c ∧ SlAt w' a (bV L) ∧ Below w.heap.size w w'
def BsOut4 (L : List Int) (k x er : Int) (w : World) (e : Ending) (w' : World) : Prop := ∃ (a : Option Addr) (c : Nat), e = .returned (.agg #[.slice a L.length c, .int .i64 k, .int .i64 x, .int .i64 er]) ∧ SlV a L.length c ∧ SlAt w' a (bV L) ∧ Below w.heap.size w w'
section
variable (a : Option Addr) (c : Nat) (a2 : Option Addr) (c2 : Nat) (P B : List Int)
/-- What Access answers. -/
def AcG (t n q k x er : Int) : Prop := ∀ w, SpIn w a c a2 c2 P B → Calls Try.prog 25 #[.agg #[.slice a P.length c, .slice a2 B.length c2], .int .i64 t, .int .i64 n, .int .i64 q] w fun e w' => e = .returned (.tuple #[.agg #[.int .i64 k, .int .i64 x], .int .i64 er]) ∧ Below w.heap.size w w'
/-- What the reference's Access answers. -/
def RAcG (t n q k x er : Int) : Prop := ∀ w, SpIn w a c a2 c2 P B → Calls Try.prog 29 #[.agg #[.slice a P.length c, .slice a2 B.length c2], .int .i64 t, .int .i64 n, .int .i64 q] w fun e w' => e = .returned (.agg #[.int .i64 k, .int .i64 x, .int .i64 er]) ∧ Below w.heap.size w w'
/-- What Fetch answers. -/
def FeG (t n : Int) (L : List Int) (er : Int) : Prop := ∀ w, SpIn w a c a2 c2 P B → Calls Try.prog 26 #[.agg #[.slice a P.length c, .slice a2 B.length c2], .int .i64 t, .int .i64 n] w (BsOut2 L er w)
/-- What the reference's Fetch answers. -/
def RFeG (t n : Int) (L : List Int) (er : Int) : Prop := ∀ w, SpIn w a c a2 c2 P B → Calls Try.prog 30 #[.agg #[.slice a P.length c, .slice a2 B.length c2], .int .i64 t, .int .i64 n] w (BsOut4 L 0 0 er w)
/-- What Peek answers. -/
def PeG (t n : Int) (L : List Int) (k x er : Int) : Prop := ∀ w, SpIn w a c a2 c2 P B → Calls Try.prog 27 #[.agg #[.slice a P.length c, .slice a2 B.length c2], .int .i64 t, .int .i64 n] w (BsOut3 L k x er w)
/-- What the reference's Peek answers. -/
def RPeG (t n : Int) (L : List Int) (k x er : Int) : Prop := ∀ w, SpIn w a c a2 c2 P B → Calls Try.prog 31 #[.agg #[.slice a P.length c, .slice a2 B.length c2], .int .i64 t, .int .i64 n] w (BsOut4 L k x er w)
/-- What the reference's String answers. -/
def RStrG (t n : Int) (S : ByteArray) (k x er : Int) : Prop := ∀ w, SpIn w a c a2 c2 P B → Calls Try.prog 32 #[.agg #[.slice a P.length c, .slice a2 B.length c2], .int .i64 t, .int .i64 n] w fun e w' => e = .returned (.agg #[.string S, .int .i64 k, .int .i64 x, .int .i64 er]) ∧ Below w.heap.size w w'
end
set_option maxHeartbeats 4000000 in
set_option maxRecDepth 100000 in
theorem mr_walk (a : Option Addr) (c : Nat) (a2 : Option Addr) (c2 : Nat) (P B : List Int) (t n q : Int) (w : World) (hS : SpIn w a c a2 c2 P B) (ka xa ea ef kp xp ep kt xt et : Int) (LF LP : List Int) (St : ByteArray) (ok1 : okB LF) (ok2 : okB LP) (hA : AcG a c a2 c2 P B t n q ka xa ea) (hF : FeG a c a2 c2 P B t n LF ef) (hP : PeG a c a2 c2 P B t n LP kp xp ep) (hT : StrG a c a2 c2 P B t n St kt xt et) (hRA : RAcG a c a2 c2 P B t n q ka xa ea) (hRF : RFeG a c a2 c2 P B t n LF ef) (hRP : RPeG a c a2 c2 P B t n LP kp xp ep) (hRT : RStrG a c a2 c2 P B t n St kt xt et) :
    Calls Try.prog 4 #[.agg #[.slice a P.length c, .slice a2 B.length c2], .agg #[.int .i64 t, .int .i64 n, .int .i64 q]] w fun e w' => e = .returned (.bool true) ∧ Below w.heap.size w w' := by
  have hS0 := Lib.hid hS
  clear hS
  have hok1 := Lib.hid ok1
  have hok2 := Lib.hid ok2
  clear ok1 ok2
  go_enter Try.func4, Try.ntmps4
  have HK := Kw.start w
  go_wp2_with fail
  replace HK := HK.box (vs := [.slice a P.length c, .slice a2 B.length c2]) (t := 25)
  replace HK := HK.box (vs := [.int .i64 t, .int .i64 n, .int .i64 q]) (t := 44)
  simp only [World.size_alloc] at HK
  refine (sane_c _).mono ?_
  rintro e w1 ⟨rfl, hq⟩
  replace HK := HK.below hq
  clear hq
  have z1 := HK.lt 0 rfl
  have x_0 := HK.get 0 0 rfl rfl
  have x_1 := HK.get 0 1 rfl rfl
  have x_2 := HK.get 0 2 rfl rfl
  have x_s := HK.lt 0 rfl
  have p_0 := HK.get 1 0 rfl rfl
  have p_1 := HK.get 1 1 rfl rfl
  have p_s := HK.lt 1 rfl
  go_wp2_with fail
  clear x_0 x_1 x_2 x_s p_0 p_1 p_s
  refine (hA _ (hS0.out.below HK.base)).mono ?_
  rintro e w2 ⟨rfl, hq⟩
  replace HK := HK.below hq
  clear hq
  have z2 := HK.lt 0 rfl
  have x_0 := HK.get 0 0 rfl rfl
  have x_1 := HK.get 0 1 rfl rfl
  have x_2 := HK.get 0 2 rfl rfl
  have x_s := HK.lt 0 rfl
  have p_0 := HK.get 1 0 rfl rfl
  have p_1 := HK.get 1 1 rfl rfl
  have p_s := HK.lt 1 rfl
  go_wp2_with fail
  replace HK := HK.box (vs := [.int .i64 ka, .int .i64 xa]) (t := 34)
  clear x_0 x_1 x_2 x_s p_0 p_1 p_s
  refine (hF _ (hS0.out.below HK.base)).mono ?_
  rintro e w3 ⟨a3, c3, rfl, hv3, hs3, hq⟩
  replace HK := HK.below hq
  clear hq
  have z3 := HK.lt 0 rfl
  have hB3 := Below.refl w3.heap.size w3
  have hv3' := Lib.hid hv3
  have hs3' := Lib.hid hs3
  clear hv3 hs3
  have x_0 := HK.get 1 0 rfl rfl
  have x_1 := HK.get 1 1 rfl rfl
  have x_2 := HK.get 1 2 rfl rfl
  have x_s := HK.lt 1 rfl
  have p_0 := HK.get 2 0 rfl rfl
  have p_1 := HK.get 2 1 rfl rfl
  have p_s := HK.lt 2 rfl
  go_wp2_with fail
  clear x_0 x_1 x_2 x_s p_0 p_1 p_s
  refine (hP _ (hS0.out.below HK.base)).mono ?_
  rintro e w4 ⟨a4, c4, rfl, hv4, hs4, hq⟩
  replace HK := HK.below hq
  replace hB3 := Below.tail hB3 hq
  clear hq
  have z4 := HK.lt 0 rfl
  have hB4 := Below.refl w4.heap.size w4
  have hv4' := Lib.hid hv4
  have hs4' := Lib.hid hs4
  clear hv4 hs4
  have x_0 := HK.get 1 0 rfl rfl
  have x_1 := HK.get 1 1 rfl rfl
  have x_2 := HK.get 1 2 rfl rfl
  have x_s := HK.lt 1 rfl
  have p_0 := HK.get 2 0 rfl rfl
  have p_1 := HK.get 2 1 rfl rfl
  have p_s := HK.lt 2 rfl
  go_wp2_with fail
  replace HK := HK.box (vs := [.int .i64 kp, .int .i64 xp]) (t := 34)
  replace hB3 := b_alloc (o := (.cells #[.int .i64 kp, .int .i64 xp] 34)) hB3
  replace hB4 := b_alloc (o := (.cells #[.int .i64 kp, .int .i64 xp] 34)) hB4
  clear x_0 x_1 x_2 x_s p_0 p_1 p_s
  refine (hT _ (hS0.out.below HK.base)).mono ?_
  rintro e w5 ⟨rfl, hq⟩
  replace HK := HK.below hq
  replace hB3 := Below.tail hB3 hq
  replace hB4 := Below.tail hB4 hq
  clear hq
  have z5 := HK.lt 0 rfl
  have x_0 := HK.get 2 0 rfl rfl
  have x_1 := HK.get 2 1 rfl rfl
  have x_2 := HK.get 2 2 rfl rfl
  have x_s := HK.lt 2 rfl
  have p_0 := HK.get 3 0 rfl rfl
  have p_1 := HK.get 3 1 rfl rfl
  have p_s := HK.lt 3 rfl
  go_wp2_with fail
  replace HK := HK.box (vs := [.int .i64 kt, .int .i64 xt]) (t := 34)
  replace hB3 := b_alloc (o := (.cells #[.int .i64 kt, .int .i64 xt] 34)) hB3
  replace hB4 := b_alloc (o := (.cells #[.int .i64 kt, .int .i64 xt] 34)) hB4
  clear x_0 x_1 x_2 x_s p_0 p_1 p_s
  refine (hRA _ (hS0.out.below HK.base)).mono ?_
  rintro e w6 ⟨rfl, hq⟩
  replace HK := HK.below hq
  replace hB3 := Below.tail hB3 hq
  replace hB4 := Below.tail hB4 hq
  clear hq
  have z6 := HK.lt 0 rfl
  have x_0 := HK.get 3 0 rfl rfl
  have x_1 := HK.get 3 1 rfl rfl
  have x_2 := HK.get 3 2 rfl rfl
  have x_s := HK.lt 3 rfl
  have p_0 := HK.get 4 0 rfl rfl
  have p_1 := HK.get 4 1 rfl rfl
  have p_s := HK.lt 4 rfl
  go_wp2_with fail
  replace HK := HK.box (vs := [.int .i64 ka, .int .i64 xa, .int .i64 ea]) (t := 54)
  replace hB3 := b_alloc (o := (.cells #[.int .i64 ka, .int .i64 xa, .int .i64 ea] 54)) hB3
  replace hB4 := b_alloc (o := (.cells #[.int .i64 ka, .int .i64 xa, .int .i64 ea] 54)) hB4
  clear x_0 x_1 x_2 x_s p_0 p_1 p_s
  refine (hRF _ (hS0.out.below HK.base)).mono ?_
  rintro e w7 ⟨a7, c7, rfl, hv7, hs7, hq⟩
  replace HK := HK.below hq
  replace hB3 := Below.tail hB3 hq
  replace hB4 := Below.tail hB4 hq
  clear hq
  have z7 := HK.lt 0 rfl
  have hB7 := Below.refl w7.heap.size w7
  have hv7' := Lib.hid hv7
  have hs7' := Lib.hid hs7
  clear hv7 hs7
  have x_0 := HK.get 4 0 rfl rfl
  have x_1 := HK.get 4 1 rfl rfl
  have x_2 := HK.get 4 2 rfl rfl
  have x_s := HK.lt 4 rfl
  have p_0 := HK.get 5 0 rfl rfl
  have p_1 := HK.get 5 1 rfl rfl
  have p_s := HK.lt 5 rfl
  go_wp2_with fail
  replace HK := HK.box (vs := [.slice a7 LF.length c7, .int .i64 0, .int .i64 0, .int .i64 ef]) (t := 57)
  replace hB3 := b_alloc (o := (.cells #[.slice a7 LF.length c7, .int .i64 0, .int .i64 0, .int .i64 ef] 57)) hB3
  replace hB4 := b_alloc (o := (.cells #[.slice a7 LF.length c7, .int .i64 0, .int .i64 0, .int .i64 ef] 57)) hB4
  replace hB7 := b_alloc (o := (.cells #[.slice a7 LF.length c7, .int .i64 0, .int .i64 0, .int .i64 ef] 57)) hB7
  clear x_0 x_1 x_2 x_s p_0 p_1 p_s
  refine (hRP _ (hS0.out.below HK.base)).mono ?_
  rintro e w8 ⟨a8, c8, rfl, hv8, hs8, hq⟩
  replace HK := HK.below hq
  replace hB3 := Below.tail hB3 hq
  replace hB4 := Below.tail hB4 hq
  replace hB7 := Below.tail hB7 hq
  clear hq
  have z8 := HK.lt 0 rfl
  have hB8 := Below.refl w8.heap.size w8
  have hv8' := Lib.hid hv8
  have hs8' := Lib.hid hs8
  clear hv8 hs8
  have x_0 := HK.get 5 0 rfl rfl
  have x_1 := HK.get 5 1 rfl rfl
  have x_2 := HK.get 5 2 rfl rfl
  have x_s := HK.lt 5 rfl
  have p_0 := HK.get 6 0 rfl rfl
  have p_1 := HK.get 6 1 rfl rfl
  have p_s := HK.lt 6 rfl
  go_wp2_with fail
  replace HK := HK.box (vs := [.slice a8 LP.length c8, .int .i64 kp, .int .i64 xp, .int .i64 ep]) (t := 57)
  replace hB3 := b_alloc (o := (.cells #[.slice a8 LP.length c8, .int .i64 kp, .int .i64 xp, .int .i64 ep] 57)) hB3
  replace hB4 := b_alloc (o := (.cells #[.slice a8 LP.length c8, .int .i64 kp, .int .i64 xp, .int .i64 ep] 57)) hB4
  replace hB7 := b_alloc (o := (.cells #[.slice a8 LP.length c8, .int .i64 kp, .int .i64 xp, .int .i64 ep] 57)) hB7
  replace hB8 := b_alloc (o := (.cells #[.slice a8 LP.length c8, .int .i64 kp, .int .i64 xp, .int .i64 ep] 57)) hB8
  clear x_0 x_1 x_2 x_s p_0 p_1 p_s
  refine (hRT _ (hS0.out.below HK.base)).mono ?_
  rintro e w9 ⟨rfl, hq⟩
  replace HK := HK.below hq
  replace hB3 := Below.tail hB3 hq
  replace hB4 := Below.tail hB4 hq
  replace hB7 := Below.tail hB7 hq
  replace hB8 := Below.tail hB8 hq
  clear hq
  have z9 := HK.lt 0 rfl
  have rp_0 := HK.get 0 0 rfl rfl
  have rp_1 := HK.get 0 1 rfl rfl
  have rp_2 := HK.get 0 2 rfl rfl
  have rp_3 := HK.get 0 3 rfl rfl
  have rp_s := HK.lt 0 rfl
  have rf_0 := HK.get 1 0 rfl rfl
  have rf_1 := HK.get 1 1 rfl rfl
  have rf_2 := HK.get 1 2 rfl rfl
  have rf_3 := HK.get 1 3 rfl rfl
  have rf_s := HK.lt 1 rfl
  have ra_0 := HK.get 2 0 rfl rfl
  have ra_1 := HK.get 2 1 rfl rfl
  have ra_2 := HK.get 2 2 rfl rfl
  have ra_s := HK.lt 2 rfl
  have ft_0 := HK.get 3 0 rfl rfl
  have ft_1 := HK.get 3 1 rfl rfl
  have ft_s := HK.lt 3 rfl
  have fp_0 := HK.get 4 0 rfl rfl
  have fp_1 := HK.get 4 1 rfl rfl
  have fp_s := HK.lt 4 rfl
  have fa_0 := HK.get 5 0 rfl rfl
  have fa_1 := HK.get 5 1 rfl rfl
  have fa_s := HK.lt 5 rfl
  have x_0 := HK.get 6 0 rfl rfl
  have x_1 := HK.get 6 1 rfl rfl
  have x_2 := HK.get 6 2 rfl rfl
  have x_s := HK.lt 6 rfl
  have p_0 := HK.get 7 0 rfl rfl
  have p_1 := HK.get 7 1 rfl rfl
  have p_s := HK.lt 7 rfl
  have cv3 := str_c hv3'.out (hs3'.out.below (b_alloc (o := (.cells #[.string St, .int .i64 kt, .int .i64 xt, .int .i64 et] 60)) hB3)) hok1.out
  have cv7 := str_c hv7'.out (hs7'.out.below (b_alloc (o := (.cells #[.string St, .int .i64 kt, .int .i64 xt, .int .i64 et] 60)) hB7)) hok1.out
  have cv4 := str_c hv4'.out (hs4'.out.below (b_alloc (o := (.cells #[.string St, .int .i64 kt, .int .i64 xt, .int .i64 et] 60)) hB4)) hok2.out
  have cv8 := str_c hv8'.out (hs8'.out.below (b_alloc (o := (.cells #[.string St, .int .i64 kt, .int .i64 xt, .int .i64 et] 60)) hB8)) hok2.out
  have hK := HK.base
  clear HK hB3 hB4 hB7 hB8
  generalize LF.length = nf at *
  generalize LP.length = np at *
  generalize strB LF = SF at *
  generalize strB LP = SPk at *
  go_wp2
  go_ret
  exact ⟨rfl, b_alloc hK⟩
end Go.Proofs.Ytdbcbmdekdfdoaa
