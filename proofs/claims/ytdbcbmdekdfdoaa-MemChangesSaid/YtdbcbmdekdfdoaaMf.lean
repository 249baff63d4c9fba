/- WHAT IS PROVED: taplinelaw03.MemFaults walked, over contracts of mem.Access, mem.Load, mem.Store (letters). CONDITIONS: those contracts. -/
import Derived.Test.YtdbcbmdekdfdoaaSa
namespace Go.Proofs.Ytdbcbmdekdfdoaa
open Go Go.RowKit Go.QrBits Go.QrMem

attribute [local go_sem] Oper.semAt_some
section
variable (a : Option Addr) (c : Nat) (a2 : Option Addr) (c2 : Nat) (perm bytes : List Int)
/-- What Access answers. -/
def AccG (t n q k x er : Int) : Prop := ∀ w, SpIn w a c a2 c2 perm bytes → Calls Try.prog 25 #[.agg #[.slice a perm.length c, .slice a2 bytes.length c2], .int .i64 t, .int .i64 n, .int .i64 q] w fun e w' => e = .returned (.tuple #[.agg #[.int .i64 k, .int .i64 x], .int .i64 er]) ∧ Below w.heap.size w w'
/-- What Load answers. -/
def LoadG (t s : Int) (g : Bool) (r k x er : Int) : Prop := ∀ w, SpIn w a c a2 c2 perm bytes → Calls Try.prog 33 #[.agg #[.slice a perm.length c, .slice a2 bytes.length c2], .int .i64 t, .agg #[.int .i64 s, .bool g]] w fun e w' => e = .returned (.tuple #[.int .i64 r, .agg #[.int .i64 k, .int .i64 x], .int .i64 er]) ∧ Below w.heap.size w w'
/-- What Store answers. -/
def StoreG (t s : Int) (g : Bool) (v k x er : Int) : Prop := ∀ w, SpIn w a c a2 c2 perm bytes → Calls Try.prog 34 #[.agg #[.slice a perm.length c, .slice a2 bytes.length c2], .int .i64 t, .agg #[.int .i64 s, .bool g], .int .i64 v] w fun e w' => ∃ (b1 : Option Addr) (n1 d1 : Nat) (b2 : Option Addr) (n2 d2 : Nat), e = .returned (.tuple #[.agg #[.slice b1 n1 d1, .slice b2 n2 d2], .agg #[.int .i64 k, .int .i64 x], .int .i64 er]) ∧ Below w.heap.size w w'
end
set_option maxHeartbeats 4000000 in
set_option maxRecDepth 100000 in
theorem mf_a (a : Option Addr) (c : Nat) (a2 : Option Addr) (c2 : Nat) (perm bytes : List Int) (t n q at' s v er : Int) (g : Bool) (w : World) (hS : SpIn w a c a2 c2 perm bytes) (hA : AccG a c a2 c2 perm bytes t n q 0 0 er) (her : (er != 0) = true) :
    Calls Try.prog 9 #[.agg #[.slice a perm.length c, .slice a2 bytes.length c2], .agg #[.int .i64 t, .int .i64 n, .int .i64 q], .agg #[.int .i64 at', .int .i64 s, .bool g, .int .i64 v]] w fun e w' => e = .returned (.bool true) ∧ Below w.heap.size w w' := by
  go_enter Try.func9, Try.ntmps9
  have HK := Kw.start w
  go_wp2_with fail
  replace HK := HK.box (vs := [.slice a perm.length c, .slice a2 bytes.length c2]) (t := 25)
  replace hS := hS.below (b_alloc (o := (.cells #[.slice a perm.length c, .slice a2 bytes.length c2] 25)) (Below.refl _ _))
  replace HK := HK.box (vs := [.int .i64 t, .int .i64 n, .int .i64 q]) (t := 44)
  replace hS := hS.below (b_alloc (o := (.cells #[.int .i64 t, .int .i64 n, .int .i64 q] 44)) (Below.refl _ _))
  replace HK := HK.box (vs := [.int .i64 at', .int .i64 s, .bool g, .int .i64 v]) (t := 66)
  replace hS := hS.below (b_alloc (o := (.cells #[.int .i64 at', .int .i64 s, .bool g, .int .i64 v] 66)) (Below.refl _ _))
  simp only [World.size_alloc] at HK
  refine (sane_c _).mono ?_
  rintro e w1 ⟨rfl, hq⟩
  replace HK := HK.below hq
  replace hS := hS.below hq
  clear hq
  have y_0 := HK.get 0 0 rfl rfl
  have y_1 := HK.get 0 1 rfl rfl
  have y_2 := HK.get 0 2 rfl rfl
  have y_3 := HK.get 0 3 rfl rfl
  have y_s := HK.lt 0 rfl
  have x_0 := HK.get 1 0 rfl rfl
  have x_1 := HK.get 1 1 rfl rfl
  have x_2 := HK.get 1 2 rfl rfl
  have x_s := HK.lt 1 rfl
  have p_0 := HK.get 2 0 rfl rfl
  have p_1 := HK.get 2 1 rfl rfl
  have p_s := HK.lt 2 rfl
  go_wp2_with fail
  clear y_0 y_1 y_2 y_3 y_s x_0 x_1 x_2 x_s p_0 p_1 p_s
  refine (hA _ hS).mono ?_
  rintro e w2 ⟨rfl, hq⟩
  replace HK := HK.below hq
  replace hS := hS.below hq
  clear hq
  have y_0 := HK.get 0 0 rfl rfl
  have y_1 := HK.get 0 1 rfl rfl
  have y_2 := HK.get 0 2 rfl rfl
  have y_3 := HK.get 0 3 rfl rfl
  have y_s := HK.lt 0 rfl
  have x_0 := HK.get 1 0 rfl rfl
  have x_1 := HK.get 1 1 rfl rfl
  have x_2 := HK.get 1 2 rfl rfl
  have x_s := HK.lt 1 rfl
  have p_0 := HK.get 2 0 rfl rfl
  have p_1 := HK.get 2 1 rfl rfl
  have p_s := HK.lt 2 rfl
  have hK := HK.base
  clear HK
  go_wp2
  go_ret
  exact ⟨rfl, b_alloc hK⟩
set_option maxHeartbeats 4000000 in
set_option maxRecDepth 100000 in
theorem mf_b (a : Option Addr) (c : Nat) (a2 : Option Addr) (c2 : Nat) (perm bytes : List Int) (t q at' s v k0 x0 k1 x1 k2 x2 : Int) (n : Nat) (g : Bool) (w : World) (hS : SpIn w a c a2 c2 perm bytes) (hn : n ≤ 2048) (hA : AccG a c a2 c2 perm bytes t n q k0 x0 0) (K X : Nat → Int) (hK0 : K 0 = 0) (hX0 : X 0 = 0) (hSt : Hid (∀ i : Nat, i < n → K i = 0 → AccG a c a2 c2 perm bytes (wrap64 (t + (i : Int))) 1 q (K (i + 1)) (X (i + 1)) 0)) (hEn : Hid (K n = k0 ∧ X n = x0)) (hSp : Hid (∀ i : Nat, i ≤ n → K i ≠ 0 → K i = k0 ∧ X i = x0)) (hL : LoadG a c a2 c2 perm bytes at' s g 0 k1 x1 10) (hT : StoreG a c a2 c2 perm bytes at' s g v k2 x2 10) :
    Calls Try.prog 9 #[.agg #[.slice a perm.length c, .slice a2 bytes.length c2], .agg #[.int .i64 t, .int .i64 (n : Int), .int .i64 q], .agg #[.int .i64 at', .int .i64 s, .bool g, .int .i64 v]] w fun e w' => e = .returned (.bool true) ∧ Below w.heap.size w w' := by
  go_enter Try.func9, Try.ntmps9
  have HK := Kw.start w
  have hS0 := Lib.hid hS
  go_wp2_with fail
  replace HK := HK.box (vs := [.slice a perm.length c, .slice a2 bytes.length c2]) (t := 25)
  replace hS := hS.below (b_alloc (o := (.cells #[.slice a perm.length c, .slice a2 bytes.length c2] 25)) (Below.refl _ _))
  replace HK := HK.box (vs := [.int .i64 t, .int .i64 (n : Int), .int .i64 q]) (t := 44)
  replace hS := hS.below (b_alloc (o := (.cells #[.int .i64 t, .int .i64 (n : Int), .int .i64 q] 44)) (Below.refl _ _))
  replace HK := HK.box (vs := [.int .i64 at', .int .i64 s, .bool g, .int .i64 v]) (t := 66)
  replace hS := hS.below (b_alloc (o := (.cells #[.int .i64 at', .int .i64 s, .bool g, .int .i64 v] 66)) (Below.refl _ _))
  simp only [World.size_alloc] at HK
  refine (sane_c _).mono ?_
  rintro e w1 ⟨rfl, hq⟩
  replace HK := HK.below hq
  replace hS := hS.below hq
  clear hq
  have y_0 := HK.get 0 0 rfl rfl
  have y_1 := HK.get 0 1 rfl rfl
  have y_2 := HK.get 0 2 rfl rfl
  have y_3 := HK.get 0 3 rfl rfl
  have y_s := HK.lt 0 rfl
  have x_0 := HK.get 1 0 rfl rfl
  have x_1 := HK.get 1 1 rfl rfl
  have x_2 := HK.get 1 2 rfl rfl
  have x_s := HK.lt 1 rfl
  have p_0 := HK.get 2 0 rfl rfl
  have p_1 := HK.get 2 1 rfl rfl
  have p_s := HK.lt 2 rfl
  go_wp2_with fail
  clear y_0 y_1 y_2 y_3 y_s x_0 x_1 x_2 x_s p_0 p_1 p_s
  refine (hA _ hS).mono ?_
  rintro e w2 ⟨rfl, hq⟩
  replace HK := HK.below hq
  replace hS := hS.below hq
  clear hq
  have hlow0 := HK.size
  have hys := HK.lt 0 rfl
  have y_0 := HK.get 0 0 rfl rfl
  have y_1 := HK.get 0 1 rfl rfl
  have y_2 := HK.get 0 2 rfl rfl
  have y_3 := HK.get 0 3 rfl rfl
  have y_s := HK.lt 0 rfl
  have x_0 := HK.get 1 0 rfl rfl
  have x_1 := HK.get 1 1 rfl rfl
  have x_2 := HK.get 1 2 rfl rfl
  have x_s := HK.lt 1 rfl
  have p_0 := HK.get 2 0 rfl rfl
  have p_1 := HK.get 2 1 rfl rfl
  have p_s := HK.lt 2 rfl
  go_wp2_with fail
  replace HK := HK.box (vs := [.int .i64 k0, .int .i64 x0]) (t := 34)
  replace hS := hS.below (b_alloc (o := (.cells #[.int .i64 k0, .int .i64 x0] 34)) (Below.refl _ _))
  replace HK := HK.box (vs := [.int .i64 0, .int .i64 0]) (t := 34)
  replace hS := hS.below (b_alloc (o := (.cells #[.int .i64 0, .int .i64 0] 34)) (Below.refl _ _))
  simp only [World.size_alloc] at HK
  clear y_0 y_1 y_2 y_3 y_s x_0 x_1 x_2 x_s p_0 p_1 p_s
  go_loopw [11] (fun v11 wr => ∃ (i : Nat) (k x : Int) (w5 : World), w5 = wr ∧ i ≤ n ∧ v11 = .int .i64 i ∧ k = K i ∧ x = X i ∧ Kw [(w2.heap.size + 1, [.int .i64 k, .int .i64 x], 34), (w2.heap.size, [.int .i64 k0, .int .i64 x0], 34), (w.heap.size + 1 + 1, [.int .i64 at', .int .i64 s, .bool g, .int .i64 v], 66), (w.heap.size + 1, [.int .i64 t, .int .i64 (n : Int), .int .i64 q], 44), (w.heap.size, [.slice a perm.length c, .slice a2 bytes.length c2], 25)] w w5 ∧ SpIn w5 a c a2 c2 perm bytes) (fun v11 _ => n - (intOf v11).toNat)
  case atStart => exact ⟨0, 0, 0, _, rfl, Nat.zero_le _, rfl, hK0.symm, hX0.symm, HK, hS⟩
  case round =>
  clear HK hS
  obtain ⟨i, k, x, w5, hw, hi, hv, hk, hx, HK, hS⟩ := hrel
  subst hw; subst hv
  have hkH := Lib.hid hk
  have hxH := Lib.hid hx
  clear hk hx hK0 hX0
  by_cases h1 : (i : Int) < (n : Int)
  · by_cases h2 : (k == 0) = true
    · skip
      have h_0 := HK.get 0 0 rfl rfl
      have h_1 := HK.get 0 1 rfl rfl
      have h_s := HK.lt 0 rfl
      have x_0 := HK.get 3 0 rfl rfl
      have x_1 := HK.get 3 1 rfl rfl
      have x_2 := HK.get 3 2 rfl rfl
      have x_s := HK.lt 3 rfl
      have p_0 := HK.get 4 0 rfl rfl
      have p_1 := HK.get 4 1 rfl rfl
      have p_s := HK.lt 4 rfl
      go_wp2_with fail
      clear h_0 h_1 h_s x_0 x_1 x_2 x_s p_0 p_1 p_s
      refine (hSt.out i (by omega) (by rw [← hkH.out]; simpa using h2) _ hS).mono ?_
      rintro e w6 ⟨rfl, hq⟩
      replace HK := HK.below hq
      replace hS := hS.below hq
      clear hq
      have h_0 := HK.get 0 0 rfl rfl
      have h_f0 := HK.fz 0 0 rfl
      have h_1 := HK.get 0 1 rfl rfl
      have h_f1 := HK.fz 0 1 rfl
      have h_s := HK.lt 0 rfl
      have h_t := Nat.lt_succ_of_lt h_s
      have x_0 := HK.get 3 0 rfl rfl
      have x_1 := HK.get 3 1 rfl rfl
      have x_2 := HK.get 3 2 rfl rfl
      have x_s := HK.lt 3 rfl
      have x_t := Nat.lt_succ_of_lt x_s
      have hlow : w.heap.size ≤ w2.heap.size + 1 := by omega
      have hneq : ∀ f ∈ ([(w2.heap.size, [.int .i64 k0, .int .i64 x0], 34), (w.heap.size + 1 + 1, [.int .i64 at', .int .i64 s, .bool g, .int .i64 v], 66), (w.heap.size + 1, [.int .i64 t, .int .i64 (n : Int), .int .i64 q], 44), (w.heap.size, [.slice a perm.length c, .slice a2 bytes.length c2], 25)] : List (Nat × List Value × TypeId)), f.1 ≠ w2.heap.size + 1 := by
        intro f hf
        simp only [List.mem_cons, List.not_mem_nil, or_false] at hf
        rcases hf with rfl | rfl | rfl | rfl
        · show w2.heap.size ≠ w2.heap.size + 1; omega
        · show w.heap.size + 1 + 1 ≠ w2.heap.size + 1; omega
        · show w.heap.size + 1 ≠ w2.heap.size + 1; omega
        · show w.heap.size ≠ w2.heap.size + 1; omega
      have hw26 := HK.lt 0 rfl
      go_wp2
      have HK3 : Kw [(w2.heap.size + 1, [.int .i64 (K (i + 1)), .int .i64 (X (i + 1))], 34), (w2.heap.size, [.int .i64 k0, .int .i64 x0], 34), (w.heap.size + 1 + 1, [.int .i64 at', .int .i64 s, .bool g, .int .i64 v], 66), (w.heap.size + 1, [.int .i64 t, .int .i64 (n : Int), .int .i64 q], 44), (w.heap.size, [.slice a perm.length c, .slice a2 bytes.length c2], 25)] w _ := ((HK.put (j := 0) (v := .int .i64 (K (i + 1))) hlow hneq).put (j := 1) (v := .int .i64 (X (i + 1))) hlow hneq).alloc (o := .cells #[.int .i64 (K (i + 1)), .int .i64 (X (i + 1))] 34)
      go_roundw
      case rel => exact ⟨i + 1, K (i + 1), X (i + 1), _, rfl, by omega, by go_num, rfl, rfl, HK3, hS0.out.below HK3.base⟩
      case measure => simp [intOf]; omega
    · skip
      have hex : k = k0 ∧ x = x0 := by
        rw [hkH.out, hxH.out]; exact hSp.out i hi (by rw [← hkH.out]; simpa using h2)
      obtain ⟨e1, e2⟩ := hex
      subst e1; subst e2
      clear hkH hxH
      have h_0 := HK.get 0 0 rfl rfl
      have h_1 := HK.get 0 1 rfl rfl
      have h_s := HK.lt 0 rfl
      have f_0 := HK.get 1 0 rfl rfl
      have f_1 := HK.get 1 1 rfl rfl
      have f_s := HK.lt 1 rfl
      have y_0 := HK.get 2 0 rfl rfl
      have y_1 := HK.get 2 1 rfl rfl
      have y_2 := HK.get 2 2 rfl rfl
      have y_3 := HK.get 2 3 rfl rfl
      have y_s := HK.lt 2 rfl
      have x_0 := HK.get 3 0 rfl rfl
      have x_1 := HK.get 3 1 rfl rfl
      have x_2 := HK.get 3 2 rfl rfl
      have x_s := HK.lt 3 rfl
      have p_0 := HK.get 4 0 rfl rfl
      have p_1 := HK.get 4 1 rfl rfl
      have p_s := HK.lt 4 rfl
      go_wp2_with fail
      clear h_0 h_1 h_s f_0 f_1 f_s y_0 y_1 y_2 y_3 y_s x_0 x_1 x_2 x_s p_0 p_1 p_s
      refine (hL _ hS).mono ?_
      rintro e w6 ⟨rfl, hq⟩
      replace HK := HK.below hq
      replace hS := hS.below hq
      clear hq
      have h_0 := HK.get 0 0 rfl rfl
      have h_1 := HK.get 0 1 rfl rfl
      have h_s := HK.lt 0 rfl
      have f_0 := HK.get 1 0 rfl rfl
      have f_1 := HK.get 1 1 rfl rfl
      have f_s := HK.lt 1 rfl
      have y_0 := HK.get 2 0 rfl rfl
      have y_1 := HK.get 2 1 rfl rfl
      have y_2 := HK.get 2 2 rfl rfl
      have y_3 := HK.get 2 3 rfl rfl
      have y_s := HK.lt 2 rfl
      have x_0 := HK.get 3 0 rfl rfl
      have x_1 := HK.get 3 1 rfl rfl
      have x_2 := HK.get 3 2 rfl rfl
      have x_s := HK.lt 3 rfl
      have p_0 := HK.get 4 0 rfl rfl
      have p_1 := HK.get 4 1 rfl rfl
      have p_s := HK.lt 4 rfl
      go_wp2_with fail
      replace HK := HK.alloc (o := (.cells #[.int .i64 k1, .int .i64 x1] 34))
      replace hS := hS.below (b_alloc (o := (.cells #[.int .i64 k1, .int .i64 x1] 34)) (Below.refl _ _))
      clear h_0 h_1 h_s f_0 f_1 f_s y_0 y_1 y_2 y_3 y_s x_0 x_1 x_2 x_s p_0 p_1 p_s
      refine (hT _ hS).mono ?_
      rintro e w7 ⟨b1, n1, d1, b2, n2, d2, rfl, hq⟩
      replace HK := HK.below hq
      replace hS := hS.below hq
      clear hq
      have h_0 := HK.get 0 0 rfl rfl
      have h_1 := HK.get 0 1 rfl rfl
      have h_s := HK.lt 0 rfl
      have f_0 := HK.get 1 0 rfl rfl
      have f_1 := HK.get 1 1 rfl rfl
      have f_s := HK.lt 1 rfl
      have y_0 := HK.get 2 0 rfl rfl
      have y_1 := HK.get 2 1 rfl rfl
      have y_2 := HK.get 2 2 rfl rfl
      have y_3 := HK.get 2 3 rfl rfl
      have y_s := HK.lt 2 rfl
      have x_0 := HK.get 3 0 rfl rfl
      have x_1 := HK.get 3 1 rfl rfl
      have x_2 := HK.get 3 2 rfl rfl
      have x_s := HK.lt 3 rfl
      have p_0 := HK.get 4 0 rfl rfl
      have p_1 := HK.get 4 1 rfl rfl
      have p_s := HK.lt 4 rfl
      have hK := HK.base
      clear HK
      go_wp2
      go_ret
      exact ⟨rfl, b_alloc (b_alloc hK)⟩
  · skip
    have hex : k = k0 ∧ x = x0 := by
      rw [hkH.out, hxH.out, show i = n by omega]; exact hEn.out
    obtain ⟨e1, e2⟩ := hex
    subst e1; subst e2
    clear hkH hxH
    have h_0 := HK.get 0 0 rfl rfl
    have h_1 := HK.get 0 1 rfl rfl
    have h_s := HK.lt 0 rfl
    have f_0 := HK.get 1 0 rfl rfl
    have f_1 := HK.get 1 1 rfl rfl
    have f_s := HK.lt 1 rfl
    have y_0 := HK.get 2 0 rfl rfl
    have y_1 := HK.get 2 1 rfl rfl
    have y_2 := HK.get 2 2 rfl rfl
    have y_3 := HK.get 2 3 rfl rfl
    have y_s := HK.lt 2 rfl
    have x_0 := HK.get 3 0 rfl rfl
    have x_1 := HK.get 3 1 rfl rfl
    have x_2 := HK.get 3 2 rfl rfl
    have x_s := HK.lt 3 rfl
    have p_0 := HK.get 4 0 rfl rfl
    have p_1 := HK.get 4 1 rfl rfl
    have p_s := HK.lt 4 rfl
    go_wp2_with fail
    clear h_0 h_1 h_s f_0 f_1 f_s y_0 y_1 y_2 y_3 y_s x_0 x_1 x_2 x_s p_0 p_1 p_s
    refine (hL _ hS).mono ?_
    rintro e w6 ⟨rfl, hq⟩
    replace HK := HK.below hq
    replace hS := hS.below hq
    clear hq
    have h_0 := HK.get 0 0 rfl rfl
    have h_1 := HK.get 0 1 rfl rfl
    have h_s := HK.lt 0 rfl
    have f_0 := HK.get 1 0 rfl rfl
    have f_1 := HK.get 1 1 rfl rfl
    have f_s := HK.lt 1 rfl
    have y_0 := HK.get 2 0 rfl rfl
    have y_1 := HK.get 2 1 rfl rfl
    have y_2 := HK.get 2 2 rfl rfl
    have y_3 := HK.get 2 3 rfl rfl
    have y_s := HK.lt 2 rfl
    have x_0 := HK.get 3 0 rfl rfl
    have x_1 := HK.get 3 1 rfl rfl
    have x_2 := HK.get 3 2 rfl rfl
    have x_s := HK.lt 3 rfl
    have p_0 := HK.get 4 0 rfl rfl
    have p_1 := HK.get 4 1 rfl rfl
    have p_s := HK.lt 4 rfl
    go_wp2_with fail
    replace HK := HK.alloc (o := (.cells #[.int .i64 k1, .int .i64 x1] 34))
    replace hS := hS.below (b_alloc (o := (.cells #[.int .i64 k1, .int .i64 x1] 34)) (Below.refl _ _))
    clear h_0 h_1 h_s f_0 f_1 f_s y_0 y_1 y_2 y_3 y_s x_0 x_1 x_2 x_s p_0 p_1 p_s
    refine (hT _ hS).mono ?_
    rintro e w7 ⟨b1, n1, d1, b2, n2, d2, rfl, hq⟩
    replace HK := HK.below hq
    replace hS := hS.below hq
    clear hq
    have h_0 := HK.get 0 0 rfl rfl
    have h_1 := HK.get 0 1 rfl rfl
    have h_s := HK.lt 0 rfl
    have f_0 := HK.get 1 0 rfl rfl
    have f_1 := HK.get 1 1 rfl rfl
    have f_s := HK.lt 1 rfl
    have y_0 := HK.get 2 0 rfl rfl
    have y_1 := HK.get 2 1 rfl rfl
    have y_2 := HK.get 2 2 rfl rfl
    have y_3 := HK.get 2 3 rfl rfl
    have y_s := HK.lt 2 rfl
    have x_0 := HK.get 3 0 rfl rfl
    have x_1 := HK.get 3 1 rfl rfl
    have x_2 := HK.get 3 2 rfl rfl
    have x_s := HK.lt 3 rfl
    have p_0 := HK.get 4 0 rfl rfl
    have p_1 := HK.get 4 1 rfl rfl
    have p_s := HK.lt 4 rfl
    have hK := HK.base
    clear HK
    go_wp2
    go_ret
    exact ⟨rfl, b_alloc (b_alloc hK)⟩
set_option maxHeartbeats 4000000 in
set_option maxRecDepth 100000 in
theorem mf_c (a : Option Addr) (c : Nat) (a2 : Option Addr) (c2 : Nat) (perm bytes : List Int) (t q at' s v r k0 x0 k1 x1 k2 x2 : Int) (n : Nat) (g : Bool) (w : World) (hS : SpIn w a c a2 c2 perm bytes) (hn : n ≤ 2048) (hA : AccG a c a2 c2 perm bytes t n q k0 x0 0) (K X : Nat → Int) (hK0 : K 0 = 0) (hX0 : X 0 = 0) (hSt : Hid (∀ i : Nat, i < n → K i = 0 → AccG a c a2 c2 perm bytes (wrap64 (t + (i : Int))) 1 q (K (i + 1)) (X (i + 1)) 0)) (hEn : Hid (K n = k0 ∧ X n = x0)) (hSp : Hid (∀ i : Nat, i ≤ n → K i ≠ 0 → K i = k0 ∧ X i = x0)) (hL : LoadG a c a2 c2 perm bytes at' s g r k1 x1 0) (hT : StoreG a c a2 c2 perm bytes at' s g v k2 x2 0) (hC : AccG a c a2 c2 perm bytes at' s 1 k1 x1 0) (hD : AccG a c a2 c2 perm bytes at' s 2 k2 x2 0) :
    Calls Try.prog 9 #[.agg #[.slice a perm.length c, .slice a2 bytes.length c2], .agg #[.int .i64 t, .int .i64 (n : Int), .int .i64 q], .agg #[.int .i64 at', .int .i64 s, .bool g, .int .i64 v]] w fun e w' => e = .returned (.bool true) ∧ Below w.heap.size w w' := by
  go_enter Try.func9, Try.ntmps9
  have HK := Kw.start w
  have hS0 := Lib.hid hS
  go_wp2_with fail
  replace HK := HK.box (vs := [.slice a perm.length c, .slice a2 bytes.length c2]) (t := 25)
  replace hS := hS.below (b_alloc (o := (.cells #[.slice a perm.length c, .slice a2 bytes.length c2] 25)) (Below.refl _ _))
  replace HK := HK.box (vs := [.int .i64 t, .int .i64 (n : Int), .int .i64 q]) (t := 44)
  replace hS := hS.below (b_alloc (o := (.cells #[.int .i64 t, .int .i64 (n : Int), .int .i64 q] 44)) (Below.refl _ _))
  replace HK := HK.box (vs := [.int .i64 at', .int .i64 s, .bool g, .int .i64 v]) (t := 66)
  replace hS := hS.below (b_alloc (o := (.cells #[.int .i64 at', .int .i64 s, .bool g, .int .i64 v] 66)) (Below.refl _ _))
  simp only [World.size_alloc] at HK
  refine (sane_c _).mono ?_
  rintro e w1 ⟨rfl, hq⟩
  replace HK := HK.below hq
  replace hS := hS.below hq
  clear hq
  have y_0 := HK.get 0 0 rfl rfl
  have y_1 := HK.get 0 1 rfl rfl
  have y_2 := HK.get 0 2 rfl rfl
  have y_3 := HK.get 0 3 rfl rfl
  have y_s := HK.lt 0 rfl
  have x_0 := HK.get 1 0 rfl rfl
  have x_1 := HK.get 1 1 rfl rfl
  have x_2 := HK.get 1 2 rfl rfl
  have x_s := HK.lt 1 rfl
  have p_0 := HK.get 2 0 rfl rfl
  have p_1 := HK.get 2 1 rfl rfl
  have p_s := HK.lt 2 rfl
  go_wp2_with fail
  clear y_0 y_1 y_2 y_3 y_s x_0 x_1 x_2 x_s p_0 p_1 p_s
  refine (hA _ hS).mono ?_
  rintro e w2 ⟨rfl, hq⟩
  replace HK := HK.below hq
  replace hS := hS.below hq
  clear hq
  have hlow0 := HK.size
  have hys := HK.lt 0 rfl
  have y_0 := HK.get 0 0 rfl rfl
  have y_1 := HK.get 0 1 rfl rfl
  have y_2 := HK.get 0 2 rfl rfl
  have y_3 := HK.get 0 3 rfl rfl
  have y_s := HK.lt 0 rfl
  have x_0 := HK.get 1 0 rfl rfl
  have x_1 := HK.get 1 1 rfl rfl
  have x_2 := HK.get 1 2 rfl rfl
  have x_s := HK.lt 1 rfl
  have p_0 := HK.get 2 0 rfl rfl
  have p_1 := HK.get 2 1 rfl rfl
  have p_s := HK.lt 2 rfl
  go_wp2_with fail
  replace HK := HK.box (vs := [.int .i64 k0, .int .i64 x0]) (t := 34)
  replace hS := hS.below (b_alloc (o := (.cells #[.int .i64 k0, .int .i64 x0] 34)) (Below.refl _ _))
  replace HK := HK.box (vs := [.int .i64 0, .int .i64 0]) (t := 34)
  replace hS := hS.below (b_alloc (o := (.cells #[.int .i64 0, .int .i64 0] 34)) (Below.refl _ _))
  simp only [World.size_alloc] at HK
  clear y_0 y_1 y_2 y_3 y_s x_0 x_1 x_2 x_s p_0 p_1 p_s
  go_loopw [11] (fun v11 wr => ∃ (i : Nat) (k x : Int) (w5 : World), w5 = wr ∧ i ≤ n ∧ v11 = .int .i64 i ∧ k = K i ∧ x = X i ∧ Kw [(w2.heap.size + 1, [.int .i64 k, .int .i64 x], 34), (w2.heap.size, [.int .i64 k0, .int .i64 x0], 34), (w.heap.size + 1 + 1, [.int .i64 at', .int .i64 s, .bool g, .int .i64 v], 66), (w.heap.size + 1, [.int .i64 t, .int .i64 (n : Int), .int .i64 q], 44), (w.heap.size, [.slice a perm.length c, .slice a2 bytes.length c2], 25)] w w5 ∧ SpIn w5 a c a2 c2 perm bytes) (fun v11 _ => n - (intOf v11).toNat)
  case atStart => exact ⟨0, 0, 0, _, rfl, Nat.zero_le _, rfl, hK0.symm, hX0.symm, HK, hS⟩
  case round =>
  clear HK hS
  obtain ⟨i, k, x, w5, hw, hi, hv, hk, hx, HK, hS⟩ := hrel
  subst hw; subst hv
  have hkH := Lib.hid hk
  have hxH := Lib.hid hx
  clear hk hx hK0 hX0
  by_cases h1 : (i : Int) < (n : Int)
  · by_cases h2 : (k == 0) = true
    · skip
      have h_0 := HK.get 0 0 rfl rfl
      have h_1 := HK.get 0 1 rfl rfl
      have h_s := HK.lt 0 rfl
      have x_0 := HK.get 3 0 rfl rfl
      have x_1 := HK.get 3 1 rfl rfl
      have x_2 := HK.get 3 2 rfl rfl
      have x_s := HK.lt 3 rfl
      have p_0 := HK.get 4 0 rfl rfl
      have p_1 := HK.get 4 1 rfl rfl
      have p_s := HK.lt 4 rfl
      go_wp2_with fail
      clear h_0 h_1 h_s x_0 x_1 x_2 x_s p_0 p_1 p_s
      refine (hSt.out i (by omega) (by rw [← hkH.out]; simpa using h2) _ hS).mono ?_
      rintro e w6 ⟨rfl, hq⟩
      replace HK := HK.below hq
      replace hS := hS.below hq
      clear hq
      have h_0 := HK.get 0 0 rfl rfl
      have h_f0 := HK.fz 0 0 rfl
      have h_1 := HK.get 0 1 rfl rfl
      have h_f1 := HK.fz 0 1 rfl
      have h_s := HK.lt 0 rfl
      have h_t := Nat.lt_succ_of_lt h_s
      have x_0 := HK.get 3 0 rfl rfl
      have x_1 := HK.get 3 1 rfl rfl
      have x_2 := HK.get 3 2 rfl rfl
      have x_s := HK.lt 3 rfl
      have x_t := Nat.lt_succ_of_lt x_s
      have hlow : w.heap.size ≤ w2.heap.size + 1 := by omega
      have hneq : ∀ f ∈ ([(w2.heap.size, [.int .i64 k0, .int .i64 x0], 34), (w.heap.size + 1 + 1, [.int .i64 at', .int .i64 s, .bool g, .int .i64 v], 66), (w.heap.size + 1, [.int .i64 t, .int .i64 (n : Int), .int .i64 q], 44), (w.heap.size, [.slice a perm.length c, .slice a2 bytes.length c2], 25)] : List (Nat × List Value × TypeId)), f.1 ≠ w2.heap.size + 1 := by
        intro f hf
        simp only [List.mem_cons, List.not_mem_nil, or_false] at hf
        rcases hf with rfl | rfl | rfl | rfl
        · show w2.heap.size ≠ w2.heap.size + 1; omega
        · show w.heap.size + 1 + 1 ≠ w2.heap.size + 1; omega
        · show w.heap.size + 1 ≠ w2.heap.size + 1; omega
        · show w.heap.size ≠ w2.heap.size + 1; omega
      have hw26 := HK.lt 0 rfl
      go_wp2
      have HK3 : Kw [(w2.heap.size + 1, [.int .i64 (K (i + 1)), .int .i64 (X (i + 1))], 34), (w2.heap.size, [.int .i64 k0, .int .i64 x0], 34), (w.heap.size + 1 + 1, [.int .i64 at', .int .i64 s, .bool g, .int .i64 v], 66), (w.heap.size + 1, [.int .i64 t, .int .i64 (n : Int), .int .i64 q], 44), (w.heap.size, [.slice a perm.length c, .slice a2 bytes.length c2], 25)] w _ := ((HK.put (j := 0) (v := .int .i64 (K (i + 1))) hlow hneq).put (j := 1) (v := .int .i64 (X (i + 1))) hlow hneq).alloc (o := .cells #[.int .i64 (K (i + 1)), .int .i64 (X (i + 1))] 34)
      go_roundw
      case rel => exact ⟨i + 1, K (i + 1), X (i + 1), _, rfl, by omega, by go_num, rfl, rfl, HK3, hS0.out.below HK3.base⟩
      case measure => simp [intOf]; omega
    · skip
      have hex : k = k0 ∧ x = x0 := by
        rw [hkH.out, hxH.out]; exact hSp.out i hi (by rw [← hkH.out]; simpa using h2)
      obtain ⟨e1, e2⟩ := hex
      subst e1; subst e2
      clear hkH hxH
      have h_0 := HK.get 0 0 rfl rfl
      have h_1 := HK.get 0 1 rfl rfl
      have h_s := HK.lt 0 rfl
      have f_0 := HK.get 1 0 rfl rfl
      have f_1 := HK.get 1 1 rfl rfl
      have f_s := HK.lt 1 rfl
      have y_0 := HK.get 2 0 rfl rfl
      have y_1 := HK.get 2 1 rfl rfl
      have y_2 := HK.get 2 2 rfl rfl
      have y_3 := HK.get 2 3 rfl rfl
      have y_s := HK.lt 2 rfl
      have x_0 := HK.get 3 0 rfl rfl
      have x_1 := HK.get 3 1 rfl rfl
      have x_2 := HK.get 3 2 rfl rfl
      have x_s := HK.lt 3 rfl
      have p_0 := HK.get 4 0 rfl rfl
      have p_1 := HK.get 4 1 rfl rfl
      have p_s := HK.lt 4 rfl
      go_wp2_with fail
      clear h_0 h_1 h_s f_0 f_1 f_s y_0 y_1 y_2 y_3 y_s x_0 x_1 x_2 x_s p_0 p_1 p_s
      refine (hL _ hS).mono ?_
      rintro e w6 ⟨rfl, hq⟩
      replace HK := HK.below hq
      replace hS := hS.below hq
      clear hq
      have h_0 := HK.get 0 0 rfl rfl
      have h_1 := HK.get 0 1 rfl rfl
      have h_s := HK.lt 0 rfl
      have f_0 := HK.get 1 0 rfl rfl
      have f_1 := HK.get 1 1 rfl rfl
      have f_s := HK.lt 1 rfl
      have y_0 := HK.get 2 0 rfl rfl
      have y_1 := HK.get 2 1 rfl rfl
      have y_2 := HK.get 2 2 rfl rfl
      have y_3 := HK.get 2 3 rfl rfl
      have y_s := HK.lt 2 rfl
      have x_0 := HK.get 3 0 rfl rfl
      have x_1 := HK.get 3 1 rfl rfl
      have x_2 := HK.get 3 2 rfl rfl
      have x_s := HK.lt 3 rfl
      have p_0 := HK.get 4 0 rfl rfl
      have p_1 := HK.get 4 1 rfl rfl
      have p_s := HK.lt 4 rfl
      go_wp2_with fail
      replace HK := HK.box (vs := [.int .i64 k1, .int .i64 x1]) (t := 34)
      replace hS := hS.below (b_alloc (o := (.cells #[.int .i64 k1, .int .i64 x1] 34)) (Below.refl _ _))
      clear h_0 h_1 h_s f_0 f_1 f_s y_0 y_1 y_2 y_3 y_s x_0 x_1 x_2 x_s p_0 p_1 p_s
      refine (hT _ hS).mono ?_
      rintro e w7 ⟨b1, n1, d1, b2, n2, d2, rfl, hq⟩
      replace HK := HK.below hq
      replace hS := hS.below hq
      clear hq
      have y_0 := HK.get 3 0 rfl rfl
      have y_1 := HK.get 3 1 rfl rfl
      have y_2 := HK.get 3 2 rfl rfl
      have y_3 := HK.get 3 3 rfl rfl
      have y_s := HK.lt 3 rfl
      have y_t := Nat.lt_succ_of_lt y_s
      have p_0 := HK.get 5 0 rfl rfl
      have p_1 := HK.get 5 1 rfl rfl
      have p_s := HK.lt 5 rfl
      have p_t := Nat.lt_succ_of_lt p_s
      go_wp2_with fail
      replace HK := HK.alloc (o := (.cells #[.slice b1 n1 d1, .slice b2 n2 d2] 25))
      replace hS := hS.below (b_alloc (o := (.cells #[.slice b1 n1 d1, .slice b2 n2 d2] 25)) (Below.refl _ _))
      replace HK := HK.box (vs := [.int .i64 k2, .int .i64 x2]) (t := 34)
      replace hS := hS.below (b_alloc (o := (.cells #[.int .i64 k2, .int .i64 x2] 34)) (Below.refl _ _))
      simp only [World.size_alloc] at HK
      clear y_0 y_1 y_2 y_3 y_s y_t p_0 p_1 p_s p_t
      refine (hC _ hS).mono ?_
      rintro e w8 ⟨rfl, hq⟩
      replace HK := HK.below hq
      replace hS := hS.below hq
      clear hq
      have y_0 := HK.get 4 0 rfl rfl
      have y_1 := HK.get 4 1 rfl rfl
      have y_2 := HK.get 4 2 rfl rfl
      have y_3 := HK.get 4 3 rfl rfl
      have y_s := HK.lt 4 rfl
      have y_t := Nat.lt_succ_of_lt y_s
      have p_0 := HK.get 6 0 rfl rfl
      have p_1 := HK.get 6 1 rfl rfl
      have p_s := HK.lt 6 rfl
      have p_t := Nat.lt_succ_of_lt p_s
      go_wp2_with fail
      replace HK := HK.box (vs := [.int .i64 k1, .int .i64 x1]) (t := 34)
      replace hS := hS.below (b_alloc (o := (.cells #[.int .i64 k1, .int .i64 x1] 34)) (Below.refl _ _))
      clear y_0 y_1 y_2 y_3 y_s y_t p_0 p_1 p_s p_t
      refine (hD _ hS).mono ?_
      rintro e w9 ⟨rfl, hq⟩
      replace HK := HK.below hq
      replace hS := hS.below hq
      clear hq
      have d_0 := HK.get 0 0 rfl rfl
      have d_1 := HK.get 0 1 rfl rfl
      have d_s := HK.lt 0 rfl
      have d_t := Nat.lt_succ_of_lt d_s
      have b_0 := HK.get 1 0 rfl rfl
      have b_1 := HK.get 1 1 rfl rfl
      have b_s := HK.lt 1 rfl
      have b_t := Nat.lt_succ_of_lt b_s
      have a_0 := HK.get 2 0 rfl rfl
      have a_1 := HK.get 2 1 rfl rfl
      have a_s := HK.lt 2 rfl
      have a_t := Nat.lt_succ_of_lt a_s
      have hK := HK.base
      clear HK
      go_wp2
      go_ret
      exact ⟨rfl, b_alloc hK⟩
  · skip
    have hex : k = k0 ∧ x = x0 := by
      rw [hkH.out, hxH.out, show i = n by omega]; exact hEn.out
    obtain ⟨e1, e2⟩ := hex
    subst e1; subst e2
    clear hkH hxH
    have h_0 := HK.get 0 0 rfl rfl
    have h_1 := HK.get 0 1 rfl rfl
    have h_s := HK.lt 0 rfl
    have f_0 := HK.get 1 0 rfl rfl
    have f_1 := HK.get 1 1 rfl rfl
    have f_s := HK.lt 1 rfl
    have y_0 := HK.get 2 0 rfl rfl
    have y_1 := HK.get 2 1 rfl rfl
    have y_2 := HK.get 2 2 rfl rfl
    have y_3 := HK.get 2 3 rfl rfl
    have y_s := HK.lt 2 rfl
    have x_0 := HK.get 3 0 rfl rfl
    have x_1 := HK.get 3 1 rfl rfl
    have x_2 := HK.get 3 2 rfl rfl
    have x_s := HK.lt 3 rfl
    have p_0 := HK.get 4 0 rfl rfl
    have p_1 := HK.get 4 1 rfl rfl
    have p_s := HK.lt 4 rfl
    go_wp2_with fail
    clear h_0 h_1 h_s f_0 f_1 f_s y_0 y_1 y_2 y_3 y_s x_0 x_1 x_2 x_s p_0 p_1 p_s
    refine (hL _ hS).mono ?_
    rintro e w6 ⟨rfl, hq⟩
    replace HK := HK.below hq
    replace hS := hS.below hq
    clear hq
    have h_0 := HK.get 0 0 rfl rfl
    have h_1 := HK.get 0 1 rfl rfl
    have h_s := HK.lt 0 rfl
    have f_0 := HK.get 1 0 rfl rfl
    have f_1 := HK.get 1 1 rfl rfl
    have f_s := HK.lt 1 rfl
    have y_0 := HK.get 2 0 rfl rfl
    have y_1 := HK.get 2 1 rfl rfl
    have y_2 := HK.get 2 2 rfl rfl
    have y_3 := HK.get 2 3 rfl rfl
    have y_s := HK.lt 2 rfl
    have x_0 := HK.get 3 0 rfl rfl
    have x_1 := HK.get 3 1 rfl rfl
    have x_2 := HK.get 3 2 rfl rfl
    have x_s := HK.lt 3 rfl
    have p_0 := HK.get 4 0 rfl rfl
    have p_1 := HK.get 4 1 rfl rfl
    have p_s := HK.lt 4 rfl
    go_wp2_with fail
    replace HK := HK.box (vs := [.int .i64 k1, .int .i64 x1]) (t := 34)
    replace hS := hS.below (b_alloc (o := (.cells #[.int .i64 k1, .int .i64 x1] 34)) (Below.refl _ _))
    clear h_0 h_1 h_s f_0 f_1 f_s y_0 y_1 y_2 y_3 y_s x_0 x_1 x_2 x_s p_0 p_1 p_s
    refine (hT _ hS).mono ?_
    rintro e w7 ⟨b1, n1, d1, b2, n2, d2, rfl, hq⟩
    replace HK := HK.below hq
    replace hS := hS.below hq
    clear hq
    have y_0 := HK.get 3 0 rfl rfl
    have y_1 := HK.get 3 1 rfl rfl
    have y_2 := HK.get 3 2 rfl rfl
    have y_3 := HK.get 3 3 rfl rfl
    have y_s := HK.lt 3 rfl
    have y_t := Nat.lt_succ_of_lt y_s
    have p_0 := HK.get 5 0 rfl rfl
    have p_1 := HK.get 5 1 rfl rfl
    have p_s := HK.lt 5 rfl
    have p_t := Nat.lt_succ_of_lt p_s
    go_wp2_with fail
    replace HK := HK.alloc (o := (.cells #[.slice b1 n1 d1, .slice b2 n2 d2] 25))
    replace hS := hS.below (b_alloc (o := (.cells #[.slice b1 n1 d1, .slice b2 n2 d2] 25)) (Below.refl _ _))
    replace HK := HK.box (vs := [.int .i64 k2, .int .i64 x2]) (t := 34)
    replace hS := hS.below (b_alloc (o := (.cells #[.int .i64 k2, .int .i64 x2] 34)) (Below.refl _ _))
    simp only [World.size_alloc] at HK
    clear y_0 y_1 y_2 y_3 y_s y_t p_0 p_1 p_s p_t
    refine (hC _ hS).mono ?_
    rintro e w8 ⟨rfl, hq⟩
    replace HK := HK.below hq
    replace hS := hS.below hq
    clear hq
    have y_0 := HK.get 4 0 rfl rfl
    have y_1 := HK.get 4 1 rfl rfl
    have y_2 := HK.get 4 2 rfl rfl
    have y_3 := HK.get 4 3 rfl rfl
    have y_s := HK.lt 4 rfl
    have y_t := Nat.lt_succ_of_lt y_s
    have p_0 := HK.get 6 0 rfl rfl
    have p_1 := HK.get 6 1 rfl rfl
    have p_s := HK.lt 6 rfl
    have p_t := Nat.lt_succ_of_lt p_s
    go_wp2_with fail
    replace HK := HK.box (vs := [.int .i64 k1, .int .i64 x1]) (t := 34)
    replace hS := hS.below (b_alloc (o := (.cells #[.int .i64 k1, .int .i64 x1] 34)) (Below.refl _ _))
    clear y_0 y_1 y_2 y_3 y_s y_t p_0 p_1 p_s p_t
    refine (hD _ hS).mono ?_
    rintro e w9 ⟨rfl, hq⟩
    replace HK := HK.below hq
    replace hS := hS.below hq
    clear hq
    have d_0 := HK.get 0 0 rfl rfl
    have d_1 := HK.get 0 1 rfl rfl
    have d_s := HK.lt 0 rfl
    have d_t := Nat.lt_succ_of_lt d_s
    have b_0 := HK.get 1 0 rfl rfl
    have b_1 := HK.get 1 1 rfl rfl
    have b_s := HK.lt 1 rfl
    have b_t := Nat.lt_succ_of_lt b_s
    have a_0 := HK.get 2 0 rfl rfl
    have a_1 := HK.get 2 1 rfl rfl
    have a_s := HK.lt 2 rfl
    have a_t := Nat.lt_succ_of_lt a_s
    have hK := HK.base
    clear HK
    go_wp2
    go_ret
    exact ⟨rfl, b_alloc hK⟩
end Go.Proofs.Ytdbcbmdekdfdoaa
