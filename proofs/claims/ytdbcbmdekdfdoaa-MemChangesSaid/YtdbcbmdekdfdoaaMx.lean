/- WHAT IS PROVED: taplinelaw03.MemStored walked, over contracts of the functions (letters). CONDITIONS: those contracts. -/
import Derived.Test.YtdbcbmdekdfdoaaMd
import Derived.Test.YtdbcbmdekdfdoaaMa
import Derived.Test.YtdbcbmdekdfdoaaRt
namespace Go.Proofs.Ytdbcbmdekdfdoaa
open Go Go.RowKit Go.QrBits Go.QrMem

attribute [local go_sem] Oper.semAt_some
/-- What Load answers, of whatever space with these contents. -/
def LdA (P B : List Int) (t s : Int) (g : Bool) (v k x er : Int) : Prop := ∀ (a : Option Addr) (c : Nat) (a2 : Option Addr) (c2 : Nat) (w : World), SpIn w a c a2 c2 P B → Calls Try.prog 33 #[.agg #[.slice a P.length c, .slice a2 B.length c2], .int .i64 t, .agg #[.int .i64 s, .bool g]] w fun e w' => e = .returned (.tuple #[.int .i64 v, .agg #[.int .i64 k, .int .i64 x], .int .i64 er]) ∧ Below w.heap.size w w'
/-- What Peek answers. -/
def PkA (P B : List Int) (t n : Int) (L : List Int) : Prop := ∀ (a : Option Addr) (c : Nat) (a2 : Option Addr) (c2 : Nat) (w : World), SpIn w a c a2 c2 P B → Calls Try.prog 27 #[.agg #[.slice a P.length c, .slice a2 B.length c2], .int .i64 t, .int .i64 n] w (BytesPost3 L w)
/-- What Wrap answers. -/
def WrA (s : Int) (g : Bool) (v r : Int) : Prop := ∀ w : World, Calls Try.prog 42 #[.agg #[.int .i64 s, .bool g], .int .i64 v] w fun e w' => e = .returned (.tuple #[.int .i64 r, .int .i64 0]) ∧ Below w.heap.size w w'
/-- What FromBytes answers. -/
def FbA (s : Int) (g : Bool) (L : List Int) (r : Int) : Prop := ∀ (a : Option Addr) (c base : Nat) (w : World), w.ownsRow base 5 1 (.slice a L.length c) L.length (bV L) → Calls Try.prog 43 #[.agg #[.int .i64 s, .bool g], .slice a L.length c] w fun e w' => e = .returned (.tuple #[.int .i64 r, .int .i64 0]) ∧ Below w.heap.size w w'
/-- What Diff answers, of whatever two spaces with these contents. -/
def DfA (P B B' : List Int) (cs : List Value) (n : Nat) : Prop := ∀ (a : Option Addr) (c : Nat) (a2 : Option Addr) (c2 : Nat) (a' : Option Addr) (c' : Nat) (a2' : Option Addr) (c2' : Nat) (w : World), SpIn w a c a2 c2 P B → SpIn w a' c' a2' c2' P B' → Calls Try.prog 39 #[.agg #[.slice a P.length c, .slice a2 B.length c2], .agg #[.slice a' P.length c', .slice a2' B'.length c2']] w (DfPost cs n 0 w)
set_option linter.unusedSimpArgs false in
set_option linter.unusedVariables false in
set_option maxHeartbeats 4000000 in
set_option maxRecDepth 100000 in
theorem mst_n (a : Option Addr) (c : Nat) (a2 : Option Addr) (c2 : Nat) (P B : List Int) (tx sx vx ty sy vy : Int) (gx gy : Bool) (w : World) (hS : SpIn w a c a2 c2 P B) (kq xq eq : Int) (hSt : ∀ w, SpIn w a c a2 c2 P B → Calls Try.prog 34 #[.agg #[.slice a P.length c, .slice a2 B.length c2], .int .i64 tx, .agg #[.int .i64 sx, .bool gx], .int .i64 vx] w fun e w' => ∃ va vb : Value, e = .returned (.tuple #[.agg #[.slice none 0 0, .slice none 0 0], .agg #[.int .i64 kq, .int .i64 xq], .int .i64 eq]) ∧ Below w.heap.size w w') (hn : (eq == 0) = false ∨ (eq = 0 ∧ (kq == 0) = false)) :
    Calls Try.prog 7 #[.agg #[.slice a P.length c, .slice a2 B.length c2], .agg #[.int .i64 tx, .int .i64 sx, .bool gx, .int .i64 vx], .agg #[.int .i64 ty, .int .i64 sy, .bool gy, .int .i64 vy]] w fun e w' => e = .returned (.bool true) ∧ Below w.heap.size w w' := by
  have hS0 := Lib.hid hS
  clear hS
  go_enter Try.func7, Try.ntmps7
  have HK := Kw.start w
  go_wp2_with fail
  replace HK := HK.box (vs := [.slice a P.length c, .slice a2 B.length c2]) (t := 25)
  replace HK := HK.box (vs := [.int .i64 tx, .int .i64 sx, .bool gx, .int .i64 vx]) (t := 66)
  replace HK := HK.box (vs := [.int .i64 ty, .int .i64 sy, .bool gy, .int .i64 vy]) (t := 66)
  simp only [World.size_alloc] at HK
  refine (sane_c _).mono ?_
  rintro e w11 ⟨rfl, hq⟩
  replace HK := HK.below hq
  clear hq
  have z1 := HK.lt 0 rfl
  have hne := Lib.hid hn
  clear hn
  have y_0 := HK.get 0 0 rfl rfl
  have y_1 := HK.get 0 1 rfl rfl
  have y_2 := HK.get 0 2 rfl rfl
  have y_3 := HK.get 0 3 rfl rfl
  have y_s := HK.lt 0 rfl
  have x_0 := HK.get 1 0 rfl rfl
  have x_1 := HK.get 1 1 rfl rfl
  have x_2 := HK.get 1 2 rfl rfl
  have x_3 := HK.get 1 3 rfl rfl
  have x_s := HK.lt 1 rfl
  have p_0 := HK.get 2 0 rfl rfl
  have p_1 := HK.get 2 1 rfl rfl
  have p_s := HK.lt 2 rfl
  go_wp2_with fail
  clear y_0 y_1 y_2 y_3 y_s x_0 x_1 x_2 x_3 x_s p_0 p_1 p_s
  refine (hSt _ (hS0.out.below HK.base)).mono ?_
  rintro e w12 ⟨va, vb, rfl, hq⟩
  replace HK := HK.below hq
  clear hq
  have z2 := HK.lt 0 rfl
  have hK := HK.base
  clear HK
  rcases hne.out with he | ⟨rfl, hk⟩
  · go_wp2
    go_ret
    exact ⟨rfl, b_alloc (b_alloc hK)⟩
  · go_wp2
    go_ret
    exact ⟨rfl, b_alloc (b_alloc hK)⟩
set_option linter.unusedSimpArgs false in
set_option linter.unusedVariables false in
set_option maxHeartbeats 4000000 in
set_option maxRecDepth 100000 in
theorem mst_y (a : Option Addr) (c : Nat) (a2 : Option Addr) (c2 : Nat) (P B : List Int) (tx sx vx ty sy vy : Int) (gx gy : Bool) (w : World) (hS : SpIn w a c a2 c2 P B) (B1 L : List Int) (l : List Nat) (r v2 k2 x2 e2 : Int) (hSt : StY P B tx sx gx vx B1) (hW : WrA sx gx vx r) (hL1 : LdA P B1 tx sx gx r 0 0 0) (hPk : PkA P B1 tx sx L) (hFb : FbA sx gx L r) (hDf : DfA P B B1 (dC B B1 l) l.length) (hin : Hid (∀ i ∈ l, tx ≤ (i : Int) ∧ (i : Int) < tx + sx)) (hsm : Hid (IntKind.i64.wrap (tx + sx) = tx + sx)) (hAp : ∀ w : World, Calls Try.prog 44 #[.agg #[.int .i64 tx, .int .i64 sx, .bool gx, .int .i64 vx], .agg #[.int .i64 ty, .int .i64 sy, .bool gy, .int .i64 vy]] w fun e w' => (∃ b : Bool, e = .returned (.bool b)) ∧ Below w.heap.size w w') (hL2 : LdA P B ty sy gy v2 k2 x2 e2) (hL3 : LdA P B1 ty sy gy v2 k2 x2 e2) :
    Calls Try.prog 7 #[.agg #[.slice a P.length c, .slice a2 B.length c2], .agg #[.int .i64 tx, .int .i64 sx, .bool gx, .int .i64 vx], .agg #[.int .i64 ty, .int .i64 sy, .bool gy, .int .i64 vy]] w fun e w' => e = .returned (.bool true) ∧ Below w.heap.size w w' := by
  have hS0 := Lib.hid hS
  clear hS
  go_enter Try.func7, Try.ntmps7
  have HK := Kw.start w
  go_wp2_with fail
  replace HK := HK.box (vs := [.slice a P.length c, .slice a2 B.length c2]) (t := 25)
  replace HK := HK.box (vs := [.int .i64 tx, .int .i64 sx, .bool gx, .int .i64 vx]) (t := 66)
  replace HK := HK.box (vs := [.int .i64 ty, .int .i64 sy, .bool gy, .int .i64 vy]) (t := 66)
  simp only [World.size_alloc] at HK
  refine (sane_c _).mono ?_
  rintro e w11 ⟨rfl, hq⟩
  replace HK := HK.below hq
  clear hq
  have z1 := HK.lt 0 rfl
  have y_0 := HK.get 0 0 rfl rfl
  have y_1 := HK.get 0 1 rfl rfl
  have y_2 := HK.get 0 2 rfl rfl
  have y_3 := HK.get 0 3 rfl rfl
  have y_s := HK.lt 0 rfl
  have x_0 := HK.get 1 0 rfl rfl
  have x_1 := HK.get 1 1 rfl rfl
  have x_2 := HK.get 1 2 rfl rfl
  have x_3 := HK.get 1 3 rfl rfl
  have x_s := HK.lt 1 rfl
  have p_0 := HK.get 2 0 rfl rfl
  have p_1 := HK.get 2 1 rfl rfl
  have p_s := HK.lt 2 rfl
  go_wp2_with fail
  clear y_0 y_1 y_2 y_3 y_s x_0 x_1 x_2 x_3 x_s p_0 p_1 p_s
  refine (hSt _ _ _ _ _ (hS0.out.below HK.base)).mono ?_
  rintro e w12 ⟨a12, c12, b12, d12, rfl, ho12, hu12, hq⟩
  replace HK := HK.below hq
  clear hq
  have z2 := HK.lt 0 rfl
  have hX12 := spIn_own ho12 hu12
  have hB12 := Below.refl w12.heap.size w12
  have y_0 := HK.get 0 0 rfl rfl
  have y_1 := HK.get 0 1 rfl rfl
  have y_2 := HK.get 0 2 rfl rfl
  have y_3 := HK.get 0 3 rfl rfl
  have y_s := HK.lt 0 rfl
  have x_0 := HK.get 1 0 rfl rfl
  have x_1 := HK.get 1 1 rfl rfl
  have x_2 := HK.get 1 2 rfl rfl
  have x_3 := HK.get 1 3 rfl rfl
  have x_s := HK.lt 1 rfl
  have p_0 := HK.get 2 0 rfl rfl
  have p_1 := HK.get 2 1 rfl rfl
  have p_s := HK.lt 2 rfl
  go_wp2_with fail
  replace HK := HK.box (vs := [.slice a12 P.length c12, .slice b12 B1.length d12]) (t := 25)
  replace hB12 := b_alloc (o := (.cells #[.slice a12 P.length c12, .slice b12 B1.length d12] 25)) hB12
  replace HK := HK.box (vs := [.int .i64 0, .int .i64 0]) (t := 34)
  replace hB12 := b_alloc (o := (.cells #[.int .i64 0, .int .i64 0] 34)) hB12
  simp only [World.size_alloc] at HK
  clear y_0 y_1 y_2 y_3 y_s x_0 x_1 x_2 x_3 x_s p_0 p_1 p_s
  refine (hW _).mono ?_
  rintro e w13 ⟨rfl, hq⟩
  replace HK := HK.below hq
  replace hB12 := Below.tail hB12 hq
  clear hq
  have z3 := HK.lt 0 rfl
  have t_0 := HK.get 1 0 rfl rfl
  have t_1 := HK.get 1 1 rfl rfl
  have t_s := HK.lt 1 rfl
  have y_0 := HK.get 2 0 rfl rfl
  have y_1 := HK.get 2 1 rfl rfl
  have y_2 := HK.get 2 2 rfl rfl
  have y_3 := HK.get 2 3 rfl rfl
  have y_s := HK.lt 2 rfl
  have x_0 := HK.get 3 0 rfl rfl
  have x_1 := HK.get 3 1 rfl rfl
  have x_2 := HK.get 3 2 rfl rfl
  have x_3 := HK.get 3 3 rfl rfl
  have x_s := HK.lt 3 rfl
  have p_0 := HK.get 4 0 rfl rfl
  have p_1 := HK.get 4 1 rfl rfl
  have p_s := HK.lt 4 rfl
  go_wp2_with fail
  clear t_0 t_1 t_s y_0 y_1 y_2 y_3 y_s x_0 x_1 x_2 x_3 x_s p_0 p_1 p_s
  refine (hL1 _ _ _ _ _ (hX12.below hB12)).mono ?_
  rintro e w14 ⟨rfl, hq⟩
  replace HK := HK.below hq
  replace hB12 := Below.tail hB12 hq
  clear hq
  have z4 := HK.lt 0 rfl
  have t_0 := HK.get 1 0 rfl rfl
  have t_1 := HK.get 1 1 rfl rfl
  have t_s := HK.lt 1 rfl
  have y_0 := HK.get 2 0 rfl rfl
  have y_1 := HK.get 2 1 rfl rfl
  have y_2 := HK.get 2 2 rfl rfl
  have y_3 := HK.get 2 3 rfl rfl
  have y_s := HK.lt 2 rfl
  have x_0 := HK.get 3 0 rfl rfl
  have x_1 := HK.get 3 1 rfl rfl
  have x_2 := HK.get 3 2 rfl rfl
  have x_3 := HK.get 3 3 rfl rfl
  have x_s := HK.lt 3 rfl
  have p_0 := HK.get 4 0 rfl rfl
  have p_1 := HK.get 4 1 rfl rfl
  have p_s := HK.lt 4 rfl
  go_wp2_with fail
  replace HK := HK.box (vs := [.int .i64 0, .int .i64 0]) (t := 34)
  replace hB12 := b_alloc (o := (.cells #[.int .i64 0, .int .i64 0] 34)) hB12
  clear t_0 t_1 t_s y_0 y_1 y_2 y_3 y_s x_0 x_1 x_2 x_3 x_s p_0 p_1 p_s
  refine (hPk _ _ _ _ _ (hX12.below hB12)).mono ?_
  rintro e w15 ⟨ap, cp, rfl, hop, hq⟩
  replace HK := HK.below hq
  replace hB12 := Below.tail hB12 hq
  clear hq
  have z5 := HK.lt 0 rfl
  have y_0 := HK.get 3 0 rfl rfl
  have y_1 := HK.get 3 1 rfl rfl
  have y_2 := HK.get 3 2 rfl rfl
  have y_3 := HK.get 3 3 rfl rfl
  have y_s := HK.lt 3 rfl
  have x_0 := HK.get 4 0 rfl rfl
  have x_1 := HK.get 4 1 rfl rfl
  have x_2 := HK.get 4 2 rfl rfl
  have x_3 := HK.get 4 3 rfl rfl
  have x_s := HK.lt 4 rfl
  have p_0 := HK.get 5 0 rfl rfl
  have p_1 := HK.get 5 1 rfl rfl
  have p_s := HK.lt 5 rfl
  go_wp2_with fail
  replace HK := HK.box (vs := [.int .i64 0, .int .i64 0]) (t := 34)
  replace hB12 := b_alloc (o := (.cells #[.int .i64 0, .int .i64 0] 34)) hB12
  clear y_0 y_1 y_2 y_3 y_s x_0 x_1 x_2 x_3 x_s p_0 p_1 p_s
  refine (hFb _ _ _ _ (World.ownsRow.alloc hop (.cells #[.int .i64 0, .int .i64 0] 34))).mono ?_
  rintro e w16 ⟨rfl, hq⟩
  replace HK := HK.below hq
  replace hB12 := Below.tail hB12 hq
  clear hq
  have z6 := HK.lt 0 rfl
  have i_0 := HK.get 0 0 rfl rfl
  have i_1 := HK.get 0 1 rfl rfl
  have i_s := HK.lt 0 rfl
  have h_0 := HK.get 1 0 rfl rfl
  have h_1 := HK.get 1 1 rfl rfl
  have h_s := HK.lt 1 rfl
  have t_0 := HK.get 3 0 rfl rfl
  have t_1 := HK.get 3 1 rfl rfl
  have t_s := HK.lt 3 rfl
  have p_0 := HK.get 6 0 rfl rfl
  have p_1 := HK.get 6 1 rfl rfl
  have p_s := HK.lt 6 rfl
  go_wp2_with fail
  clear i_0 i_1 i_s h_0 h_1 h_s t_0 t_1 t_s p_0 p_1 p_s
  refine (hDf _ _ _ _ _ _ _ _ _ (hS0.out.below HK.base) (hX12.below hB12)).mono ?_
  rintro e w17 ⟨al, cl, rfl, hvl, hsl, hq⟩
  replace HK := HK.below hq
  replace hB12 := Below.tail hB12 hq
  clear hq
  have z7 := HK.lt 0 rfl
  have HXt := Lib.hid (hX12.below hB12)
  have HSl := Lib.hid hsl
  have HVl := Lib.hid hvl
  have hlm := hvl.max
  unfold maxLen at hlm
  clear hsl hvl hX12 hB12 ho12 hu12 hop
  go_wp2_with fail
  go_loopw [23] (fun i wr => ∃ (k : Nat) (wv : World), wv = wr ∧ k ≤ l.length ∧ i = .int .i64 k ∧ Kw [(w15.heap.size, [.int .i64 0, .int .i64 0], 34), (w14.heap.size, [.int .i64 0, .int .i64 0], 34), (w12.heap.size + 1, [.int .i64 0, .int .i64 0], 34), (w12.heap.size, [.slice a12 P.length c12, .slice b12 B1.length d12], 25), (w.heap.size + 1 + 1, [.int .i64 ty, .int .i64 sy, .bool gy, .int .i64 vy], 66), (w.heap.size + 1, [.int .i64 tx, .int .i64 sx, .bool gx, .int .i64 vx], 66), (w.heap.size, [.slice a P.length c, .slice a2 B.length c2], 25)] w wv ∧ Hid (SpIn wv a12 c12 b12 d12 P B1) ∧ Hid (SlAt wv al (dC B B1 l))) (fun i _ => l.length - (intOf i).toNat)
  case atStart => exact ⟨0, _, rfl, Nat.zero_le _, rfl, HK, HXt, HSl⟩
  case round =>
    clear HK HXt HSl
    obtain ⟨k, wv, hw, hk, rfl, HK, HXt, HSl⟩ := hrel
    subst hw
    by_cases hlt : k < l.length
    · have HXt' := Lib.hid HXt.out
      obtain ⟨g1, _, _⟩ := dC_get B B1 l k _ (List.getElem?_eq_getElem hlt)
      obtain ⟨bl, off, rfl, hbl, hc⟩ := slAt_get HSl.out g1
      have c0 := hc _ _ g1
      have k0 : (0 : Int) ≤ (k : Int) := Int.natCast_nonneg _
      have k1 : (k : Int) < (l.length : Int) := by omega
      obtain ⟨i1, i2⟩ := hin.out l[k] (List.getElem_mem hlt)
      clear g1 hc
      generalize l[k] = q at *
      have d1 : decide ((q : Int) < tx) = false := by simpa using i1
      have d2 : decide (tx + sx ≤ (q : Int)) = false := by simpa using i2
      have hsum := hsm.out
      have x_0 := HK.get 5 0 rfl rfl
      have x_1 := HK.get 5 1 rfl rfl
      have HKh := Lib.hid HK
      clear HK
      go_wp2_with fail
      go_quiet (fail)
      clear hsum d1 d2 x_0 x_1
      have hq : Below wv.heap.size wv (wv.drewN nq) := ⟨rfl, rfl, rfl, Nat.le_refl _, fun _ _ => rfl⟩
      go_wp2
      go_roundw
      case rel => exact ⟨k + 1, _, rfl, by omega, by go_num, HKh.out.below hq, HXt.out.below hq, HSl.out.below hq⟩
      case measure => simp [intOf]; omega
    · clear HSl
      have y_0 := HK.get 4 0 rfl rfl
      have y_1 := HK.get 4 1 rfl rfl
      have y_2 := HK.get 4 2 rfl rfl
      have y_3 := HK.get 4 3 rfl rfl
      have y_s := HK.lt 4 rfl
      have x_0 := HK.get 5 0 rfl rfl
      have x_1 := HK.get 5 1 rfl rfl
      have x_2 := HK.get 5 2 rfl rfl
      have x_3 := HK.get 5 3 rfl rfl
      have x_s := HK.lt 5 rfl
      go_wp2_with fail
      clear y_0 y_1 y_2 y_3 y_s x_0 x_1 x_2 x_3 x_s
      refine (hAp _).mono ?_
      rintro e w18 ⟨⟨bb, rfl⟩, hq⟩
      replace HK := HK.below hq
      have HXt2 := Lib.hid (HXt.out.below hq)
      clear hq
      have z81 := HK.lt 0 rfl
      rcases bb with _ | _
      · have hK := HK.base
        clear HK
        go_wp2
        go_ret
        exact ⟨rfl, hK⟩
      · have hX99 := HXt2.out
        have hB99 := Below.refl w18.heap.size w18
        have y_0 := HK.get 4 0 rfl rfl
        have y_1 := HK.get 4 1 rfl rfl
        have y_2 := HK.get 4 2 rfl rfl
        have y_3 := HK.get 4 3 rfl rfl
        have y_s := HK.lt 4 rfl
        have x_0 := HK.get 5 0 rfl rfl
        have x_1 := HK.get 5 1 rfl rfl
        have x_2 := HK.get 5 2 rfl rfl
        have x_3 := HK.get 5 3 rfl rfl
        have x_s := HK.lt 5 rfl
        have p_0 := HK.get 6 0 rfl rfl
        have p_1 := HK.get 6 1 rfl rfl
        have p_s := HK.lt 6 rfl
        go_wp2_with fail
        clear y_0 y_1 y_2 y_3 y_s x_0 x_1 x_2 x_3 x_s p_0 p_1 p_s
        refine (hL2 _ _ _ _ _ (hS0.out.below HK.base)).mono ?_
        rintro e w19 ⟨rfl, hq⟩
        replace HK := HK.below hq
        replace hB99 := Below.tail hB99 hq
        clear hq
        have z92 := HK.lt 0 rfl
        have t_0 := HK.get 3 0 rfl rfl
        have t_1 := HK.get 3 1 rfl rfl
        have t_s := HK.lt 3 rfl
        have y_0 := HK.get 4 0 rfl rfl
        have y_1 := HK.get 4 1 rfl rfl
        have y_2 := HK.get 4 2 rfl rfl
        have y_3 := HK.get 4 3 rfl rfl
        have y_s := HK.lt 4 rfl
        have x_0 := HK.get 5 0 rfl rfl
        have x_1 := HK.get 5 1 rfl rfl
        have x_2 := HK.get 5 2 rfl rfl
        have x_3 := HK.get 5 3 rfl rfl
        have x_s := HK.lt 5 rfl
        have p_0 := HK.get 6 0 rfl rfl
        have p_1 := HK.get 6 1 rfl rfl
        have p_s := HK.lt 6 rfl
        go_wp2_with fail
        replace HK := HK.box (vs := [.int .i64 k2, .int .i64 x2]) (t := 34)
        replace hB99 := b_alloc (o := (.cells #[.int .i64 k2, .int .i64 x2] 34)) hB99
        clear t_0 t_1 t_s y_0 y_1 y_2 y_3 y_s x_0 x_1 x_2 x_3 x_s p_0 p_1 p_s
        refine (hL3 _ _ _ _ _ (hX99.below hB99)).mono ?_
        rintro e w20 ⟨rfl, hq⟩
        replace HK := HK.below hq
        replace hB99 := Below.tail hB99 hq
        clear hq
        have z93 := HK.lt 0 rfl
        have n_0 := HK.get 0 0 rfl rfl
        have n_1 := HK.get 0 1 rfl rfl
        have n_s := HK.lt 0 rfl
        have hK := HK.base
        clear HK
        go_wp2
        go_ret
        exact ⟨rfl, b_alloc hK⟩
set_option linter.unusedSimpArgs false in
set_option linter.unusedVariables false in
set_option maxHeartbeats 4000000 in
set_option maxRecDepth 100000 in
theorem mst_0 (a : Option Addr) (c : Nat) (a2 : Option Addr) (c2 : Nat) (P B : List Int) (tx sx vx ty sy vy : Int) (gx gy : Bool) (w : World) (hS : SpIn w a c a2 c2 P B) (B1 L : List Int) (l : List Nat) (r : Int) (hSt : StY P B tx sx gx vx B1) (hW : WrA sx gx vx r) (hL1 : LdA P B1 tx sx gx r 0 0 0) (hPk : PkA P B1 tx sx L) (hFb : FbA sx gx L r) (hDf : DfA P B B1 (dC B B1 l) l.length) (hin : Hid (∀ i ∈ l, tx ≤ (i : Int) ∧ (i : Int) < tx + sx)) (hsm : Hid (IntKind.i64.wrap (tx + sx) = tx + sx)) (hAp : ∀ w : World, Calls Try.prog 44 #[.agg #[.int .i64 tx, .int .i64 sx, .bool gx, .int .i64 vx], .agg #[.int .i64 ty, .int .i64 sy, .bool gy, .int .i64 vy]] w fun e w' => e = .returned (.bool false) ∧ Below w.heap.size w w') :
    Calls Try.prog 7 #[.agg #[.slice a P.length c, .slice a2 B.length c2], .agg #[.int .i64 tx, .int .i64 sx, .bool gx, .int .i64 vx], .agg #[.int .i64 ty, .int .i64 sy, .bool gy, .int .i64 vy]] w fun e w' => e = .returned (.bool true) ∧ Below w.heap.size w w' := by
  have hS0 := Lib.hid hS
  clear hS
  go_enter Try.func7, Try.ntmps7
  have HK := Kw.start w
  go_wp2_with fail
  replace HK := HK.box (vs := [.slice a P.length c, .slice a2 B.length c2]) (t := 25)
  replace HK := HK.box (vs := [.int .i64 tx, .int .i64 sx, .bool gx, .int .i64 vx]) (t := 66)
  replace HK := HK.box (vs := [.int .i64 ty, .int .i64 sy, .bool gy, .int .i64 vy]) (t := 66)
  simp only [World.size_alloc] at HK
  refine (sane_c _).mono ?_
  rintro e w11 ⟨rfl, hq⟩
  replace HK := HK.below hq
  clear hq
  have z1 := HK.lt 0 rfl
  have y_0 := HK.get 0 0 rfl rfl
  have y_1 := HK.get 0 1 rfl rfl
  have y_2 := HK.get 0 2 rfl rfl
  have y_3 := HK.get 0 3 rfl rfl
  have y_s := HK.lt 0 rfl
  have x_0 := HK.get 1 0 rfl rfl
  have x_1 := HK.get 1 1 rfl rfl
  have x_2 := HK.get 1 2 rfl rfl
  have x_3 := HK.get 1 3 rfl rfl
  have x_s := HK.lt 1 rfl
  have p_0 := HK.get 2 0 rfl rfl
  have p_1 := HK.get 2 1 rfl rfl
  have p_s := HK.lt 2 rfl
  go_wp2_with fail
  clear y_0 y_1 y_2 y_3 y_s x_0 x_1 x_2 x_3 x_s p_0 p_1 p_s
  refine (hSt _ _ _ _ _ (hS0.out.below HK.base)).mono ?_
  rintro e w12 ⟨a12, c12, b12, d12, rfl, ho12, hu12, hq⟩
  replace HK := HK.below hq
  clear hq
  have z2 := HK.lt 0 rfl
  have hX12 := spIn_own ho12 hu12
  have hB12 := Below.refl w12.heap.size w12
  have y_0 := HK.get 0 0 rfl rfl
  have y_1 := HK.get 0 1 rfl rfl
  have y_2 := HK.get 0 2 rfl rfl
  have y_3 := HK.get 0 3 rfl rfl
  have y_s := HK.lt 0 rfl
  have x_0 := HK.get 1 0 rfl rfl
  have x_1 := HK.get 1 1 rfl rfl
  have x_2 := HK.get 1 2 rfl rfl
  have x_3 := HK.get 1 3 rfl rfl
  have x_s := HK.lt 1 rfl
  have p_0 := HK.get 2 0 rfl rfl
  have p_1 := HK.get 2 1 rfl rfl
  have p_s := HK.lt 2 rfl
  go_wp2_with fail
  replace HK := HK.box (vs := [.slice a12 P.length c12, .slice b12 B1.length d12]) (t := 25)
  replace hB12 := b_alloc (o := (.cells #[.slice a12 P.length c12, .slice b12 B1.length d12] 25)) hB12
  replace HK := HK.box (vs := [.int .i64 0, .int .i64 0]) (t := 34)
  replace hB12 := b_alloc (o := (.cells #[.int .i64 0, .int .i64 0] 34)) hB12
  simp only [World.size_alloc] at HK
  clear y_0 y_1 y_2 y_3 y_s x_0 x_1 x_2 x_3 x_s p_0 p_1 p_s
  refine (hW _).mono ?_
  rintro e w13 ⟨rfl, hq⟩
  replace HK := HK.below hq
  replace hB12 := Below.tail hB12 hq
  clear hq
  have z3 := HK.lt 0 rfl
  have t_0 := HK.get 1 0 rfl rfl
  have t_1 := HK.get 1 1 rfl rfl
  have t_s := HK.lt 1 rfl
  have y_0 := HK.get 2 0 rfl rfl
  have y_1 := HK.get 2 1 rfl rfl
  have y_2 := HK.get 2 2 rfl rfl
  have y_3 := HK.get 2 3 rfl rfl
  have y_s := HK.lt 2 rfl
  have x_0 := HK.get 3 0 rfl rfl
  have x_1 := HK.get 3 1 rfl rfl
  have x_2 := HK.get 3 2 rfl rfl
  have x_3 := HK.get 3 3 rfl rfl
  have x_s := HK.lt 3 rfl
  have p_0 := HK.get 4 0 rfl rfl
  have p_1 := HK.get 4 1 rfl rfl
  have p_s := HK.lt 4 rfl
  go_wp2_with fail
  clear t_0 t_1 t_s y_0 y_1 y_2 y_3 y_s x_0 x_1 x_2 x_3 x_s p_0 p_1 p_s
  refine (hL1 _ _ _ _ _ (hX12.below hB12)).mono ?_
  rintro e w14 ⟨rfl, hq⟩
  replace HK := HK.below hq
  replace hB12 := Below.tail hB12 hq
  clear hq
  have z4 := HK.lt 0 rfl
  have t_0 := HK.get 1 0 rfl rfl
  have t_1 := HK.get 1 1 rfl rfl
  have t_s := HK.lt 1 rfl
  have y_0 := HK.get 2 0 rfl rfl
  have y_1 := HK.get 2 1 rfl rfl
  have y_2 := HK.get 2 2 rfl rfl
  have y_3 := HK.get 2 3 rfl rfl
  have y_s := HK.lt 2 rfl
  have x_0 := HK.get 3 0 rfl rfl
  have x_1 := HK.get 3 1 rfl rfl
  have x_2 := HK.get 3 2 rfl rfl
  have x_3 := HK.get 3 3 rfl rfl
  have x_s := HK.lt 3 rfl
  have p_0 := HK.get 4 0 rfl rfl
  have p_1 := HK.get 4 1 rfl rfl
  have p_s := HK.lt 4 rfl
  go_wp2_with fail
  replace HK := HK.box (vs := [.int .i64 0, .int .i64 0]) (t := 34)
  replace hB12 := b_alloc (o := (.cells #[.int .i64 0, .int .i64 0] 34)) hB12
  clear t_0 t_1 t_s y_0 y_1 y_2 y_3 y_s x_0 x_1 x_2 x_3 x_s p_0 p_1 p_s
  refine (hPk _ _ _ _ _ (hX12.below hB12)).mono ?_
  rintro e w15 ⟨ap, cp, rfl, hop, hq⟩
  replace HK := HK.below hq
  replace hB12 := Below.tail hB12 hq
  clear hq
  have z5 := HK.lt 0 rfl
  have y_0 := HK.get 3 0 rfl rfl
  have y_1 := HK.get 3 1 rfl rfl
  have y_2 := HK.get 3 2 rfl rfl
  have y_3 := HK.get 3 3 rfl rfl
  have y_s := HK.lt 3 rfl
  have x_0 := HK.get 4 0 rfl rfl
  have x_1 := HK.get 4 1 rfl rfl
  have x_2 := HK.get 4 2 rfl rfl
  have x_3 := HK.get 4 3 rfl rfl
  have x_s := HK.lt 4 rfl
  have p_0 := HK.get 5 0 rfl rfl
  have p_1 := HK.get 5 1 rfl rfl
  have p_s := HK.lt 5 rfl
  go_wp2_with fail
  replace HK := HK.box (vs := [.int .i64 0, .int .i64 0]) (t := 34)
  replace hB12 := b_alloc (o := (.cells #[.int .i64 0, .int .i64 0] 34)) hB12
  clear y_0 y_1 y_2 y_3 y_s x_0 x_1 x_2 x_3 x_s p_0 p_1 p_s
  refine (hFb _ _ _ _ (World.ownsRow.alloc hop (.cells #[.int .i64 0, .int .i64 0] 34))).mono ?_
  rintro e w16 ⟨rfl, hq⟩
  replace HK := HK.below hq
  replace hB12 := Below.tail hB12 hq
  clear hq
  have z6 := HK.lt 0 rfl
  have i_0 := HK.get 0 0 rfl rfl
  have i_1 := HK.get 0 1 rfl rfl
  have i_s := HK.lt 0 rfl
  have h_0 := HK.get 1 0 rfl rfl
  have h_1 := HK.get 1 1 rfl rfl
  have h_s := HK.lt 1 rfl
  have t_0 := HK.get 3 0 rfl rfl
  have t_1 := HK.get 3 1 rfl rfl
  have t_s := HK.lt 3 rfl
  have p_0 := HK.get 6 0 rfl rfl
  have p_1 := HK.get 6 1 rfl rfl
  have p_s := HK.lt 6 rfl
  go_wp2_with fail
  clear i_0 i_1 i_s h_0 h_1 h_s t_0 t_1 t_s p_0 p_1 p_s
  refine (hDf _ _ _ _ _ _ _ _ _ (hS0.out.below HK.base) (hX12.below hB12)).mono ?_
  rintro e w17 ⟨al, cl, rfl, hvl, hsl, hq⟩
  replace HK := HK.below hq
  replace hB12 := Below.tail hB12 hq
  clear hq
  have z7 := HK.lt 0 rfl
  have HXt := Lib.hid (hX12.below hB12)
  have HSl := Lib.hid hsl
  have HVl := Lib.hid hvl
  have hlm := hvl.max
  unfold maxLen at hlm
  clear hsl hvl hX12 hB12 ho12 hu12 hop
  go_wp2_with fail
  go_loopw [23] (fun i wr => ∃ (k : Nat) (wv : World), wv = wr ∧ k ≤ l.length ∧ i = .int .i64 k ∧ Kw [(w15.heap.size, [.int .i64 0, .int .i64 0], 34), (w14.heap.size, [.int .i64 0, .int .i64 0], 34), (w12.heap.size + 1, [.int .i64 0, .int .i64 0], 34), (w12.heap.size, [.slice a12 P.length c12, .slice b12 B1.length d12], 25), (w.heap.size + 1 + 1, [.int .i64 ty, .int .i64 sy, .bool gy, .int .i64 vy], 66), (w.heap.size + 1, [.int .i64 tx, .int .i64 sx, .bool gx, .int .i64 vx], 66), (w.heap.size, [.slice a P.length c, .slice a2 B.length c2], 25)] w wv ∧ Hid (SpIn wv a12 c12 b12 d12 P B1) ∧ Hid (SlAt wv al (dC B B1 l))) (fun i _ => l.length - (intOf i).toNat)
  case atStart => exact ⟨0, _, rfl, Nat.zero_le _, rfl, HK, HXt, HSl⟩
  case round =>
    clear HK HXt HSl
    obtain ⟨k, wv, hw, hk, rfl, HK, HXt, HSl⟩ := hrel
    subst hw
    by_cases hlt : k < l.length
    · have HXt' := Lib.hid HXt.out
      obtain ⟨g1, _, _⟩ := dC_get B B1 l k _ (List.getElem?_eq_getElem hlt)
      obtain ⟨bl, off, rfl, hbl, hc⟩ := slAt_get HSl.out g1
      have c0 := hc _ _ g1
      have k0 : (0 : Int) ≤ (k : Int) := Int.natCast_nonneg _
      have k1 : (k : Int) < (l.length : Int) := by omega
      obtain ⟨i1, i2⟩ := hin.out l[k] (List.getElem_mem hlt)
      clear g1 hc
      generalize l[k] = q at *
      have d1 : decide ((q : Int) < tx) = false := by simpa using i1
      have d2 : decide (tx + sx ≤ (q : Int)) = false := by simpa using i2
      have hsum := hsm.out
      have x_0 := HK.get 5 0 rfl rfl
      have x_1 := HK.get 5 1 rfl rfl
      have HKh := Lib.hid HK
      clear HK
      go_wp2_with fail
      go_quiet (fail)
      clear hsum d1 d2 x_0 x_1
      have hq : Below wv.heap.size wv (wv.drewN nq) := ⟨rfl, rfl, rfl, Nat.le_refl _, fun _ _ => rfl⟩
      go_wp2
      go_roundw
      case rel => exact ⟨k + 1, _, rfl, by omega, by go_num, HKh.out.below hq, HXt.out.below hq, HSl.out.below hq⟩
      case measure => simp [intOf]; omega
    · clear HSl
      have y_0 := HK.get 4 0 rfl rfl
      have y_1 := HK.get 4 1 rfl rfl
      have y_2 := HK.get 4 2 rfl rfl
      have y_3 := HK.get 4 3 rfl rfl
      have y_s := HK.lt 4 rfl
      have x_0 := HK.get 5 0 rfl rfl
      have x_1 := HK.get 5 1 rfl rfl
      have x_2 := HK.get 5 2 rfl rfl
      have x_3 := HK.get 5 3 rfl rfl
      have x_s := HK.lt 5 rfl
      go_wp2_with fail
      clear y_0 y_1 y_2 y_3 y_s x_0 x_1 x_2 x_3 x_s
      refine (hAp _).mono ?_
      rintro e w18 ⟨rfl, hq⟩
      replace HK := HK.below hq
      clear hq
      have z81 := HK.lt 0 rfl
      have hK := HK.base
      clear HK
      go_wp2
      go_ret
      exact ⟨rfl, hK⟩
end Go.Proofs.Ytdbcbmdekdfdoaa
