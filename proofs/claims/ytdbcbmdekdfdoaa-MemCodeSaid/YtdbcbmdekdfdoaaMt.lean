/- WHAT IS PROVED: taplinelaw03.MemStrings walked, over contracts of mem.String and mem.Peek (letters). CONDITIONS: those contracts. -/
import Derived.Test.YtdbcbmdekdfdoaaSr
namespace Go.Proofs.Ytdbcbmdekdfdoaa
open Go Go.RowKit Go.QrBits Go.QrMem

attribute [local go_sem] Oper.semAt_some
section
variable (a : Option Addr) (c : Nat) (a2 : Option Addr) (c2 : Nat) (P B : List Int)
/-- What String answers. -/
def StrG (t n : Int) (S : ByteArray) (k x er : Int) : Prop := ∀ w, SpIn w a c a2 c2 P B → Calls Try.prog 28 #[.agg #[.slice a P.length c, .slice a2 B.length c2], .int .i64 t, .int .i64 n] w fun e w' => e = .returned (.tuple #[.string S, .agg #[.int .i64 k, .int .i64 x], .int .i64 er]) ∧ Below w.heap.size w w'
/-- What Peek answers. -/
def PkG (t n : Int) (L : List Int) : Prop := ∀ w, SpIn w a c a2 c2 P B → Calls Try.prog 27 #[.agg #[.slice a P.length c, .slice a2 B.length c2], .int .i64 t, .int .i64 n] w (BytesPost3 L w)
end
set_option maxHeartbeats 4000000 in
set_option maxRecDepth 100000 in
theorem mt_a (a : Option Addr) (c : Nat) (a2 : Option Addr) (c2 : Nat) (P B : List Int) (t q : Int) (w : World) (hS : SpIn w a c a2 c2 P B) (n : Int) (St : ByteArray) (k x er : Int) (hA : StrG a c a2 c2 P B t n St k x er) (her : (er != 0) = true) :
    Calls Try.prog 13 #[.agg #[.slice a P.length c, .slice a2 B.length c2], .agg #[.int .i64 t, .int .i64 n, .int .i64 q]] w fun e w' => e = .returned (.bool true) ∧ Below w.heap.size w w' := by
  have hS0 := Lib.hid hS
  clear hS
  go_enter Try.func13, Try.ntmps13
  have HK := Kw.start w
  go_wp2_with fail
  replace HK := HK.box (vs := [.slice a P.length c, .slice a2 B.length c2]) (t := 25)
  replace HK := HK.box (vs := [.int .i64 t, .int .i64 n, .int .i64 q]) (t := 44)
  simp only [World.size_alloc] at HK
  refine (sane_c _).mono ?_
  rintro e w1 ⟨rfl, hq⟩
  replace HK := HK.below hq
  clear hq
  have z1 := HK.lt 0 rfl
  have x_0 := HK.get 0 0 rfl rfl
  have x_1 := HK.get 0 1 rfl rfl
  have x_2 := HK.get 0 2 rfl rfl
  have x_s := HK.lt 0 rfl
  have p_0 := HK.get 1 0 rfl rfl
  have p_1 := HK.get 1 1 rfl rfl
  have p_s := HK.lt 1 rfl
  go_wp2_with fail
  clear x_0 x_1 x_2 x_s p_0 p_1 p_s
  refine (hA _ (hS0.out.below HK.base)).mono ?_
  rintro e w2 ⟨rfl, hq⟩
  replace HK := HK.below hq
  clear hq
  have z2 := HK.lt 0 rfl
  have x_0 := HK.get 0 0 rfl rfl
  have x_1 := HK.get 0 1 rfl rfl
  have x_2 := HK.get 0 2 rfl rfl
  have x_s := HK.lt 0 rfl
  have p_0 := HK.get 1 0 rfl rfl
  have p_1 := HK.get 1 1 rfl rfl
  have p_s := HK.lt 1 rfl
  have hK := HK.base
  clear HK
  go_wp2
  go_ret
  exact ⟨rfl, b_alloc hK⟩
set_option maxHeartbeats 4000000 in
set_option maxRecDepth 100000 in
theorem mt_b (a : Option Addr) (c : Nat) (a2 : Option Addr) (c2 : Nat) (P B : List Int) (t q : Int) (w : World) (hS : SpIn w a c a2 c2 P B) (n : Int) (St : ByteArray) (k x : Int) (hA : StrG a c a2 c2 P B t n St k x 0) (hk : (k != 0) = true) :
    Calls Try.prog 13 #[.agg #[.slice a P.length c, .slice a2 B.length c2], .agg #[.int .i64 t, .int .i64 n, .int .i64 q]] w fun e w' => e = .returned (.bool true) ∧ Below w.heap.size w w' := by
  have hS0 := Lib.hid hS
  clear hS
  go_enter Try.func13, Try.ntmps13
  have HK := Kw.start w
  go_wp2_with fail
  replace HK := HK.box (vs := [.slice a P.length c, .slice a2 B.length c2]) (t := 25)
  replace HK := HK.box (vs := [.int .i64 t, .int .i64 n, .int .i64 q]) (t := 44)
  simp only [World.size_alloc] at HK
  refine (sane_c _).mono ?_
  rintro e w1 ⟨rfl, hq⟩
  replace HK := HK.below hq
  clear hq
  have z1 := HK.lt 0 rfl
  have x_0 := HK.get 0 0 rfl rfl
  have x_1 := HK.get 0 1 rfl rfl
  have x_2 := HK.get 0 2 rfl rfl
  have x_s := HK.lt 0 rfl
  have p_0 := HK.get 1 0 rfl rfl
  have p_1 := HK.get 1 1 rfl rfl
  have p_s := HK.lt 1 rfl
  go_wp2_with fail
  clear x_0 x_1 x_2 x_s p_0 p_1 p_s
  refine (hA _ (hS0.out.below HK.base)).mono ?_
  rintro e w2 ⟨rfl, hq⟩
  replace HK := HK.below hq
  clear hq
  have z2 := HK.lt 0 rfl
  have x_0 := HK.get 0 0 rfl rfl
  have x_1 := HK.get 0 1 rfl rfl
  have x_2 := HK.get 0 2 rfl rfl
  have x_s := HK.lt 0 rfl
  have p_0 := HK.get 1 0 rfl rfl
  have p_1 := HK.get 1 1 rfl rfl
  have p_s := HK.lt 1 rfl
  have hK := HK.base
  clear HK
  go_wp2
  go_ret
  exact ⟨rfl, b_alloc hK⟩
set_option maxHeartbeats 4000000 in
set_option maxRecDepth 100000 in
theorem mt_c1 (a : Option Addr) (c : Nat) (a2 : Option Addr) (c2 : Nat) (P B : List Int) (t q : Int) (w : World) (hS : SpIn w a c a2 c2 P B) (n : Nat) (St U : ByteArray) (L : List Int) (hn : n ≤ 64) (hsl : St.size ≤ n) (hA : StrG a c a2 c2 P B t (n : Int) St 0 0 0) (hnz : ∀ (i : Nat) (h : i < St.size), (((St[i]'h).toNat : Int) == 0) = false) (hL : St = strB L) (hok : okB L) (hPk : PkG a c a2 c2 P B t (St.size : Int) L) (hB : StrG a c a2 c2 P B t ((n : Int) + 1) U 0 0 1) :
    Calls Try.prog 13 #[.agg #[.slice a P.length c, .slice a2 B.length c2], .agg #[.int .i64 t, .int .i64 (n : Int), .int .i64 q]] w fun e w' => e = .returned (.bool true) ∧ Below w.heap.size w w' := by
  have hS0 := Lib.hid hS
  clear hS
  go_enter Try.func13, Try.ntmps13
  have HK := Kw.start w
  go_wp2_with fail
  replace HK := HK.box (vs := [.slice a P.length c, .slice a2 B.length c2]) (t := 25)
  replace HK := HK.box (vs := [.int .i64 t, .int .i64 (n : Int), .int .i64 q]) (t := 44)
  simp only [World.size_alloc] at HK
  refine (sane_c _).mono ?_
  rintro e w1 ⟨rfl, hq⟩
  replace HK := HK.below hq
  clear hq
  have z1 := HK.lt 0 rfl
  have x_0 := HK.get 0 0 rfl rfl
  have x_1 := HK.get 0 1 rfl rfl
  have x_2 := HK.get 0 2 rfl rfl
  have x_s := HK.lt 0 rfl
  have p_0 := HK.get 1 0 rfl rfl
  have p_1 := HK.get 1 1 rfl rfl
  have p_s := HK.lt 1 rfl
  go_wp2_with fail
  clear x_0 x_1 x_2 x_s p_0 p_1 p_s
  refine (hA _ (hS0.out.below HK.base)).mono ?_
  rintro e w2 ⟨rfl, hq⟩
  replace HK := HK.below hq
  clear hq
  have z2 := HK.lt 0 rfl
  have hnz' := Lib.hid hnz
  have hL' := Lib.hid hL
  have hok' := Lib.hid hok
  clear hnz hL hok
  have x_0 := HK.get 0 0 rfl rfl
  have x_1 := HK.get 0 1 rfl rfl
  have x_2 := HK.get 0 2 rfl rfl
  have x_s := HK.lt 0 rfl
  have p_0 := HK.get 1 0 rfl rfl
  have p_1 := HK.get 1 1 rfl rfl
  have p_s := HK.lt 1 rfl
  go_wp2_with fail
  replace HK := HK.box (vs := [.int .i64 0, .int .i64 0]) (t := 34)
  clear x_0 x_1 x_2 x_s p_0 p_1 p_s
  go_loop [9] (fun v9 => ∃ i : Nat, i ≤ St.size ∧ v9 = .int .i64 i) (fun v9 => St.size - (intOf v9).toNat)
  case atStart => exact ⟨0, Nat.zero_le _, rfl⟩
  case round =>
  obtain ⟨i, hi, hv⟩ := hrel
  subst hv
  by_cases hlt : i < St.size
  · have hz := hnz'.out i hlt
    go_wp2
    go_round
    case rel => exact ⟨i + 1, by omega, by go_num⟩
    case measure => simp [intOf]; omega
  ·
    have hie : i = St.size := by omega
    clear hie
    have x_0 := HK.get 1 0 rfl rfl
    have x_1 := HK.get 1 1 rfl rfl
    have x_2 := HK.get 1 2 rfl rfl
    have x_s := HK.lt 1 rfl
    have p_0 := HK.get 2 0 rfl rfl
    have p_1 := HK.get 2 1 rfl rfl
    have p_s := HK.lt 2 rfl
    go_wp2_with fail
    clear x_0 x_1 x_2 x_s p_0 p_1 p_s
    refine (hPk _ (hS0.out.below HK.base)).mono ?_
    rintro e w3 ⟨av, cv, rfl, ho, hq⟩
    replace HK := HK.below hq
    clear hq
    have z3 := HK.lt 0 rfl
    have hcv := str_c (spIn_own2 ho) ((SlAt.own ho).below (b_alloc (o := .cells #[.int .i64 0, .int .i64 0] 34) (Below.refl _ _))) hok'.out
    rw [← hL'.out] at hcv
    clear ho
    generalize L.length = ln at *
    have f_0 := HK.get 0 0 rfl rfl
    have f_1 := HK.get 0 1 rfl rfl
    have f_s := HK.lt 0 rfl
    have x_0 := HK.get 1 0 rfl rfl
    have x_1 := HK.get 1 1 rfl rfl
    have x_2 := HK.get 1 2 rfl rfl
    have x_s := HK.lt 1 rfl
    have p_0 := HK.get 2 0 rfl rfl
    have p_1 := HK.get 2 1 rfl rfl
    have p_s := HK.lt 2 rfl
    go_wp2_with fail
    replace HK := HK.box (vs := [.int .i64 0, .int .i64 0]) (t := 34)
    clear f_0 f_1 f_s x_0 x_1 x_2 x_s p_0 p_1 p_s
    refine (hB _ (hS0.out.below HK.base)).mono ?_
    rintro e w4 ⟨rfl, hq⟩
    replace HK := HK.below hq
    clear hq
    have z4 := HK.lt 0 rfl
    have f_0 := HK.get 1 0 rfl rfl
    have f_1 := HK.get 1 1 rfl rfl
    have f_s := HK.lt 1 rfl
    have x_0 := HK.get 2 0 rfl rfl
    have x_1 := HK.get 2 1 rfl rfl
    have x_2 := HK.get 2 2 rfl rfl
    have x_s := HK.lt 2 rfl
    have p_0 := HK.get 3 0 rfl rfl
    have p_1 := HK.get 3 1 rfl rfl
    have p_s := HK.lt 3 rfl
    have hK := HK.base
    clear HK
    go_wp2
    go_ret
    exact ⟨rfl, b_alloc hK⟩
set_option maxHeartbeats 4000000 in
set_option maxRecDepth 100000 in
theorem mt_c2 (a : Option Addr) (c : Nat) (a2 : Option Addr) (c2 : Nat) (P B : List Int) (t q : Int) (w : World) (hS : SpIn w a c a2 c2 P B) (n : Nat) (St U : ByteArray) (L : List Int) (hn : n ≤ 64) (hsl : St.size ≤ n) (hA : StrG a c a2 c2 P B t (n : Int) St 0 0 0) (hnz : ∀ (i : Nat) (h : i < St.size), (((St[i]'h).toNat : Int) == 0) = false) (hL : St = strB L) (hok : okB L) (hPk : PkG a c a2 c2 P B t (St.size : Int) L) (k2 : Int) (hB : StrG a c a2 c2 P B t ((n : Int) + 1) U k2 (wrap64 (t + (n : Int))) 0) (hk2 : (k2 != 0) = true) (hsn : St.size = n) :
    Calls Try.prog 13 #[.agg #[.slice a P.length c, .slice a2 B.length c2], .agg #[.int .i64 t, .int .i64 (n : Int), .int .i64 q]] w fun e w' => e = .returned (.bool true) ∧ Below w.heap.size w w' := by
  have hsn' := Lib.hid hsn
  clear hsn
  have hS0 := Lib.hid hS
  clear hS
  go_enter Try.func13, Try.ntmps13
  have HK := Kw.start w
  go_wp2_with fail
  replace HK := HK.box (vs := [.slice a P.length c, .slice a2 B.length c2]) (t := 25)
  replace HK := HK.box (vs := [.int .i64 t, .int .i64 (n : Int), .int .i64 q]) (t := 44)
  simp only [World.size_alloc] at HK
  refine (sane_c _).mono ?_
  rintro e w1 ⟨rfl, hq⟩
  replace HK := HK.below hq
  clear hq
  have z1 := HK.lt 0 rfl
  have x_0 := HK.get 0 0 rfl rfl
  have x_1 := HK.get 0 1 rfl rfl
  have x_2 := HK.get 0 2 rfl rfl
  have x_s := HK.lt 0 rfl
  have p_0 := HK.get 1 0 rfl rfl
  have p_1 := HK.get 1 1 rfl rfl
  have p_s := HK.lt 1 rfl
  go_wp2_with fail
  clear x_0 x_1 x_2 x_s p_0 p_1 p_s
  refine (hA _ (hS0.out.below HK.base)).mono ?_
  rintro e w2 ⟨rfl, hq⟩
  replace HK := HK.below hq
  clear hq
  have z2 := HK.lt 0 rfl
  have hnz' := Lib.hid hnz
  have hL' := Lib.hid hL
  have hok' := Lib.hid hok
  clear hnz hL hok
  have x_0 := HK.get 0 0 rfl rfl
  have x_1 := HK.get 0 1 rfl rfl
  have x_2 := HK.get 0 2 rfl rfl
  have x_s := HK.lt 0 rfl
  have p_0 := HK.get 1 0 rfl rfl
  have p_1 := HK.get 1 1 rfl rfl
  have p_s := HK.lt 1 rfl
  go_wp2_with fail
  replace HK := HK.box (vs := [.int .i64 0, .int .i64 0]) (t := 34)
  clear x_0 x_1 x_2 x_s p_0 p_1 p_s
  go_loop [9] (fun v9 => ∃ i : Nat, i ≤ St.size ∧ v9 = .int .i64 i) (fun v9 => St.size - (intOf v9).toNat)
  case atStart => exact ⟨0, Nat.zero_le _, rfl⟩
  case round =>
  obtain ⟨i, hi, hv⟩ := hrel
  subst hv
  by_cases hlt : i < St.size
  · have hz := hnz'.out i hlt
    go_wp2
    go_round
    case rel => exact ⟨i + 1, by omega, by go_num⟩
    case measure => simp [intOf]; omega
  ·
    have hie : i = St.size := by omega
    clear hie
    have x_0 := HK.get 1 0 rfl rfl
    have x_1 := HK.get 1 1 rfl rfl
    have x_2 := HK.get 1 2 rfl rfl
    have x_s := HK.lt 1 rfl
    have p_0 := HK.get 2 0 rfl rfl
    have p_1 := HK.get 2 1 rfl rfl
    have p_s := HK.lt 2 rfl
    go_wp2_with fail
    clear x_0 x_1 x_2 x_s p_0 p_1 p_s
    refine (hPk _ (hS0.out.below HK.base)).mono ?_
    rintro e w3 ⟨av, cv, rfl, ho, hq⟩
    replace HK := HK.below hq
    clear hq
    have z3 := HK.lt 0 rfl
    have hcv := str_c (spIn_own2 ho) ((SlAt.own ho).below (b_alloc (o := .cells #[.int .i64 0, .int .i64 0] 34) (Below.refl _ _))) hok'.out
    rw [← hL'.out] at hcv
    clear ho
    generalize L.length = ln at *
    have f_0 := HK.get 0 0 rfl rfl
    have f_1 := HK.get 0 1 rfl rfl
    have f_s := HK.lt 0 rfl
    have x_0 := HK.get 1 0 rfl rfl
    have x_1 := HK.get 1 1 rfl rfl
    have x_2 := HK.get 1 2 rfl rfl
    have x_s := HK.lt 1 rfl
    have p_0 := HK.get 2 0 rfl rfl
    have p_1 := HK.get 2 1 rfl rfl
    have p_s := HK.lt 2 rfl
    go_wp2_with fail
    replace HK := HK.box (vs := [.int .i64 0, .int .i64 0]) (t := 34)
    clear f_0 f_1 f_s x_0 x_1 x_2 x_s p_0 p_1 p_s
    refine (hB _ (hS0.out.below HK.base)).mono ?_
    rintro e w4 ⟨rfl, hq⟩
    replace HK := HK.below hq
    clear hq
    have z4 := HK.lt 0 rfl
    have hsn2 : ((St.size : Int) == (n : Int)) = true := by rw [hsn'.out]; simp
    have hsn3 : (St.size == n) = true := by rw [hsn'.out]; simp
    have f_0 := HK.get 1 0 rfl rfl
    have f_1 := HK.get 1 1 rfl rfl
    have f_s := HK.lt 1 rfl
    have x_0 := HK.get 2 0 rfl rfl
    have x_1 := HK.get 2 1 rfl rfl
    have x_2 := HK.get 2 2 rfl rfl
    have x_s := HK.lt 2 rfl
    have p_0 := HK.get 3 0 rfl rfl
    have p_1 := HK.get 3 1 rfl rfl
    have p_s := HK.lt 3 rfl
    have hK := HK.base
    clear HK
    go_wp2
    go_ret
    exact ⟨rfl, b_alloc hK⟩
set_option maxHeartbeats 4000000 in
set_option maxRecDepth 100000 in
theorem mt_c3 (a : Option Addr) (c : Nat) (a2 : Option Addr) (c2 : Nat) (P B : List Int) (t q : Int) (w : World) (hS : SpIn w a c a2 c2 P B) (n : Nat) (St U : ByteArray) (L : List Int) (hn : n ≤ 64) (hsl : St.size ≤ n) (hA : StrG a c a2 c2 P B t (n : Int) St 0 0 0) (hnz : ∀ (i : Nat) (h : i < St.size), (((St[i]'h).toNat : Int) == 0) = false) (hL : St = strB L) (hok : okB L) (hPk : PkG a c a2 c2 P B t (St.size : Int) L) (hB : StrG a c a2 c2 P B t ((n : Int) + 1) U 0 0 0) (hsz : St.size ≤ U.size) (hpre : ((U.extract 0 St.size).toList == St.toList) = true) (hsn : St.size = n) :
    Calls Try.prog 13 #[.agg #[.slice a P.length c, .slice a2 B.length c2], .agg #[.int .i64 t, .int .i64 (n : Int), .int .i64 q]] w fun e w' => e = .returned (.bool true) ∧ Below w.heap.size w w' := by
  have hsn' := Lib.hid hsn
  clear hsn
  have hS0 := Lib.hid hS
  clear hS
  go_enter Try.func13, Try.ntmps13
  have HK := Kw.start w
  go_wp2_with fail
  replace HK := HK.box (vs := [.slice a P.length c, .slice a2 B.length c2]) (t := 25)
  replace HK := HK.box (vs := [.int .i64 t, .int .i64 (n : Int), .int .i64 q]) (t := 44)
  simp only [World.size_alloc] at HK
  refine (sane_c _).mono ?_
  rintro e w1 ⟨rfl, hq⟩
  replace HK := HK.below hq
  clear hq
  have z1 := HK.lt 0 rfl
  have x_0 := HK.get 0 0 rfl rfl
  have x_1 := HK.get 0 1 rfl rfl
  have x_2 := HK.get 0 2 rfl rfl
  have x_s := HK.lt 0 rfl
  have p_0 := HK.get 1 0 rfl rfl
  have p_1 := HK.get 1 1 rfl rfl
  have p_s := HK.lt 1 rfl
  go_wp2_with fail
  clear x_0 x_1 x_2 x_s p_0 p_1 p_s
  refine (hA _ (hS0.out.below HK.base)).mono ?_
  rintro e w2 ⟨rfl, hq⟩
  replace HK := HK.below hq
  clear hq
  have z2 := HK.lt 0 rfl
  have hnz' := Lib.hid hnz
  have hL' := Lib.hid hL
  have hok' := Lib.hid hok
  clear hnz hL hok
  have x_0 := HK.get 0 0 rfl rfl
  have x_1 := HK.get 0 1 rfl rfl
  have x_2 := HK.get 0 2 rfl rfl
  have x_s := HK.lt 0 rfl
  have p_0 := HK.get 1 0 rfl rfl
  have p_1 := HK.get 1 1 rfl rfl
  have p_s := HK.lt 1 rfl
  go_wp2_with fail
  replace HK := HK.box (vs := [.int .i64 0, .int .i64 0]) (t := 34)
  clear x_0 x_1 x_2 x_s p_0 p_1 p_s
  go_loop [9] (fun v9 => ∃ i : Nat, i ≤ St.size ∧ v9 = .int .i64 i) (fun v9 => St.size - (intOf v9).toNat)
  case atStart => exact ⟨0, Nat.zero_le _, rfl⟩
  case round =>
  obtain ⟨i, hi, hv⟩ := hrel
  subst hv
  by_cases hlt : i < St.size
  · have hz := hnz'.out i hlt
    go_wp2
    go_round
    case rel => exact ⟨i + 1, by omega, by go_num⟩
    case measure => simp [intOf]; omega
  ·
    have hie : i = St.size := by omega
    clear hie
    have x_0 := HK.get 1 0 rfl rfl
    have x_1 := HK.get 1 1 rfl rfl
    have x_2 := HK.get 1 2 rfl rfl
    have x_s := HK.lt 1 rfl
    have p_0 := HK.get 2 0 rfl rfl
    have p_1 := HK.get 2 1 rfl rfl
    have p_s := HK.lt 2 rfl
    go_wp2_with fail
    clear x_0 x_1 x_2 x_s p_0 p_1 p_s
    refine (hPk _ (hS0.out.below HK.base)).mono ?_
    rintro e w3 ⟨av, cv, rfl, ho, hq⟩
    replace HK := HK.below hq
    clear hq
    have z3 := HK.lt 0 rfl
    have hcv := str_c (spIn_own2 ho) ((SlAt.own ho).below (b_alloc (o := .cells #[.int .i64 0, .int .i64 0] 34) (Below.refl _ _))) hok'.out
    rw [← hL'.out] at hcv
    clear ho
    generalize L.length = ln at *
    have f_0 := HK.get 0 0 rfl rfl
    have f_1 := HK.get 0 1 rfl rfl
    have f_s := HK.lt 0 rfl
    have x_0 := HK.get 1 0 rfl rfl
    have x_1 := HK.get 1 1 rfl rfl
    have x_2 := HK.get 1 2 rfl rfl
    have x_s := HK.lt 1 rfl
    have p_0 := HK.get 2 0 rfl rfl
    have p_1 := HK.get 2 1 rfl rfl
    have p_s := HK.lt 2 rfl
    go_wp2_with fail
    replace HK := HK.box (vs := [.int .i64 0, .int .i64 0]) (t := 34)
    clear f_0 f_1 f_s x_0 x_1 x_2 x_s p_0 p_1 p_s
    refine (hB _ (hS0.out.below HK.base)).mono ?_
    rintro e w4 ⟨rfl, hq⟩
    replace HK := HK.below hq
    clear hq
    have z4 := HK.lt 0 rfl
    have hsn2 : ((St.size : Int) == (n : Int)) = true := by rw [hsn'.out]; simp
    have hsn3 : (St.size == n) = true := by rw [hsn'.out]; simp
    have f_0 := HK.get 1 0 rfl rfl
    have f_1 := HK.get 1 1 rfl rfl
    have f_s := HK.lt 1 rfl
    have x_0 := HK.get 2 0 rfl rfl
    have x_1 := HK.get 2 1 rfl rfl
    have x_2 := HK.get 2 2 rfl rfl
    have x_s := HK.lt 2 rfl
    have p_0 := HK.get 3 0 rfl rfl
    have p_1 := HK.get 3 1 rfl rfl
    have p_s := HK.lt 3 rfl
    have hK := HK.base
    clear HK
    go_wp2
    go_ret
    exact ⟨rfl, b_alloc hK⟩
set_option maxHeartbeats 4000000 in
set_option maxRecDepth 100000 in
theorem mt_c4 (a : Option Addr) (c : Nat) (a2 : Option Addr) (c2 : Nat) (P B : List Int) (t q : Int) (w : World) (hS : SpIn w a c a2 c2 P B) (n : Nat) (St U : ByteArray) (L : List Int) (hn : n ≤ 64) (hsl : St.size ≤ n) (hA : StrG a c a2 c2 P B t (n : Int) St 0 0 0) (hnz : ∀ (i : Nat) (h : i < St.size), (((St[i]'h).toNat : Int) == 0) = false) (hL : St = strB L) (hok : okB L) (hPk : PkG a c a2 c2 P B t (St.size : Int) L) (hB : StrG a c a2 c2 P B t ((n : Int) + 1) U 0 0 0) (hsz : St.size ≤ U.size) (hpre : ((U.extract 0 St.size).toList == St.toList) = true) (hsn : ¬ St.size = n) (hus : (U.toList == St.toList) = true) :
    Calls Try.prog 13 #[.agg #[.slice a P.length c, .slice a2 B.length c2], .agg #[.int .i64 t, .int .i64 (n : Int), .int .i64 q]] w fun e w' => e = .returned (.bool true) ∧ Below w.heap.size w w' := by
  have hS0 := Lib.hid hS
  clear hS
  go_enter Try.func13, Try.ntmps13
  have HK := Kw.start w
  go_wp2_with fail
  replace HK := HK.box (vs := [.slice a P.length c, .slice a2 B.length c2]) (t := 25)
  replace HK := HK.box (vs := [.int .i64 t, .int .i64 (n : Int), .int .i64 q]) (t := 44)
  simp only [World.size_alloc] at HK
  refine (sane_c _).mono ?_
  rintro e w1 ⟨rfl, hq⟩
  replace HK := HK.below hq
  clear hq
  have z1 := HK.lt 0 rfl
  have x_0 := HK.get 0 0 rfl rfl
  have x_1 := HK.get 0 1 rfl rfl
  have x_2 := HK.get 0 2 rfl rfl
  have x_s := HK.lt 0 rfl
  have p_0 := HK.get 1 0 rfl rfl
  have p_1 := HK.get 1 1 rfl rfl
  have p_s := HK.lt 1 rfl
  go_wp2_with fail
  clear x_0 x_1 x_2 x_s p_0 p_1 p_s
  refine (hA _ (hS0.out.below HK.base)).mono ?_
  rintro e w2 ⟨rfl, hq⟩
  replace HK := HK.below hq
  clear hq
  have z2 := HK.lt 0 rfl
  have hnz' := Lib.hid hnz
  have hL' := Lib.hid hL
  have hok' := Lib.hid hok
  clear hnz hL hok
  have x_0 := HK.get 0 0 rfl rfl
  have x_1 := HK.get 0 1 rfl rfl
  have x_2 := HK.get 0 2 rfl rfl
  have x_s := HK.lt 0 rfl
  have p_0 := HK.get 1 0 rfl rfl
  have p_1 := HK.get 1 1 rfl rfl
  have p_s := HK.lt 1 rfl
  go_wp2_with fail
  replace HK := HK.box (vs := [.int .i64 0, .int .i64 0]) (t := 34)
  clear x_0 x_1 x_2 x_s p_0 p_1 p_s
  go_loop [9] (fun v9 => ∃ i : Nat, i ≤ St.size ∧ v9 = .int .i64 i) (fun v9 => St.size - (intOf v9).toNat)
  case atStart => exact ⟨0, Nat.zero_le _, rfl⟩
  case round =>
  obtain ⟨i, hi, hv⟩ := hrel
  subst hv
  by_cases hlt : i < St.size
  · have hz := hnz'.out i hlt
    go_wp2
    go_round
    case rel => exact ⟨i + 1, by omega, by go_num⟩
    case measure => simp [intOf]; omega
  ·
    have hie : i = St.size := by omega
    clear hie
    have x_0 := HK.get 1 0 rfl rfl
    have x_1 := HK.get 1 1 rfl rfl
    have x_2 := HK.get 1 2 rfl rfl
    have x_s := HK.lt 1 rfl
    have p_0 := HK.get 2 0 rfl rfl
    have p_1 := HK.get 2 1 rfl rfl
    have p_s := HK.lt 2 rfl
    go_wp2_with fail
    clear x_0 x_1 x_2 x_s p_0 p_1 p_s
    refine (hPk _ (hS0.out.below HK.base)).mono ?_
    rintro e w3 ⟨av, cv, rfl, ho, hq⟩
    replace HK := HK.below hq
    clear hq
    have z3 := HK.lt 0 rfl
    have hcv := str_c (spIn_own2 ho) ((SlAt.own ho).below (b_alloc (o := .cells #[.int .i64 0, .int .i64 0] 34) (Below.refl _ _))) hok'.out
    rw [← hL'.out] at hcv
    clear ho
    generalize L.length = ln at *
    have f_0 := HK.get 0 0 rfl rfl
    have f_1 := HK.get 0 1 rfl rfl
    have f_s := HK.lt 0 rfl
    have x_0 := HK.get 1 0 rfl rfl
    have x_1 := HK.get 1 1 rfl rfl
    have x_2 := HK.get 1 2 rfl rfl
    have x_s := HK.lt 1 rfl
    have p_0 := HK.get 2 0 rfl rfl
    have p_1 := HK.get 2 1 rfl rfl
    have p_s := HK.lt 2 rfl
    go_wp2_with fail
    replace HK := HK.box (vs := [.int .i64 0, .int .i64 0]) (t := 34)
    clear f_0 f_1 f_s x_0 x_1 x_2 x_s p_0 p_1 p_s
    refine (hB _ (hS0.out.below HK.base)).mono ?_
    rintro e w4 ⟨rfl, hq⟩
    replace HK := HK.below hq
    clear hq
    have z4 := HK.lt 0 rfl
    have f_0 := HK.get 1 0 rfl rfl
    have f_1 := HK.get 1 1 rfl rfl
    have f_s := HK.lt 1 rfl
    have x_0 := HK.get 2 0 rfl rfl
    have x_1 := HK.get 2 1 rfl rfl
    have x_2 := HK.get 2 2 rfl rfl
    have x_s := HK.lt 2 rfl
    have p_0 := HK.get 3 0 rfl rfl
    have p_1 := HK.get 3 1 rfl rfl
    have p_s := HK.lt 3 rfl
    have hK := HK.base
    clear HK
    go_wp2
    go_ret
    exact ⟨rfl, b_alloc hK⟩
end Go.Proofs.Ytdbcbmdekdfdoaa
