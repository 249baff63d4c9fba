/- WHAT IS PROVED: taplinelaw03.MemChanges walked, over contracts of the functions (letters). CONDITIONS: those contracts. -/
import Derived.Test.YtdbcbmdekdfdoaaMx
import Derived.Test.YtdbcbmdekdfdoaaMha
import Derived.Deep.RegionHeld3
import Derived.Deep.Cut
import Derived.Deep.CutRange
import Derived.Deep.DeepCutAuto
namespace Go.Proofs.Ytdbcbmdekdfdoaa
open Go Go.RowKit Go.QrBits Go.QrMem

attribute [local go_sem] Oper.semAt_some
/-- A space of one's own is handed back; m is how many bytes it has. -/
def SpOutN (P Bt : List Int) (m : Nat) (w : World) (e : Ending) (w' : World) : Prop :=
  ∃ (a : Option Addr) (c : Nat) (b : Option Addr) (d : Nat), e = .returned (.tuple #[.agg #[.slice a P.length c, .slice b m d], .agg #[.int .i64 0, .int .i64 0], .int .i64 0]) ∧ w'.ownsRow w.heap.size 3 1 (.slice a P.length c) P.length (iV P) ∧ w'.ownsRow w.heap.size 5 1 (.slice b m d) m (bV Bt) ∧ Below w.heap.size w w'
/-- What is known behind Poke's statement: the two new variables, and the space, whose blocks are new. -/
def MetO (X : World) (b b' : Nat) (P Bt : List Int) (m B0 : Nat) (az : Option Addr) (cz : Nat) (bz : Option Addr) (dz : Nat) : Prop :=
  X.cell? ⟨b, 0, none⟩ = some (.slice az P.length cz) ∧ X.cell? ⟨b, 1, none⟩ = some (.slice bz m dz) ∧ X.cell? ⟨b', 0, none⟩ = some (.int .i64 0) ∧
    Hid (∃ base, B0 ≤ base ∧ X.ownsRow base 3 1 (.slice az P.length cz) P.length (iV P) ∧ X.ownsRow base 5 1 (.slice bz m dz) m (bV Bt))
theorem slAt_one {w : World} {g : Nat} {y : Int} (h : w.cell? ⟨g, 0, none⟩ = some (.int .u8 y)) : SlAt w (some ⟨g, 0, none⟩) (bV [y]) :=
  .inr ⟨g, 0, rfl, World.block_lt_of_cell? _ _ h, fun j x hx => by
    cases j with
    | zero => simp [bV] at hx; subst hx; simpa using h
    | succ j => simp [bV] at hx⟩
section
variable {wz : World} {base m B0 : Nat} {P Bt : List Int} {az : Option Addr} {cz : Nat} {bz : Option Addr} {dz : Nat} (hB : B0 ≤ base) (ho : wz.ownsRow base 3 1 (.slice az P.length cz) P.length (iV P)) (hu : wz.ownsRow base 5 1 (.slice bz m dz) m (bV Bt))
include hB ho hu
theorem metO1 : MetO ((wz.alloc (.cells #[.slice az P.length cz, .slice bz m dz] 25)).alloc (.cells #[.int .i64 0, .int .i64 0] 34)) wz.heap.size (wz.heap.size + 1) P Bt m B0 az cz bz dz :=
  ⟨by simp [go_sem], by simp [go_sem], by simp [go_sem], Lib.hid ⟨base, hB, (ho.alloc _).alloc _, (hu.alloc _).alloc _⟩⟩
theorem metO2 : MetO ((wz.alloc (.cells #[.int .i64 0, .int .i64 0] 34)).alloc (.cells #[.slice az P.length cz, .slice bz m dz] 25)) (wz.heap.size + 1) wz.heap.size P Bt m B0 az cz bz dz :=
  ⟨by simp [go_sem], by simp [go_sem], by simp [go_sem], Lib.hid ⟨base, hB, (ho.alloc _).alloc _, (hu.alloc _).alloc _⟩⟩
theorem metO3 {b : Nat} {o0 o1 : Value} (e0 : wz.cell? ⟨b, 0, none⟩ = some o0) (e1 : wz.cell? ⟨b, 1, none⟩ = some o1) (hb : b < base) :
    MetO (((wz.setCell ⟨b, 0, none⟩ (.slice az P.length cz)).setCell ⟨b, 1, none⟩ (.slice bz m dz)).alloc (.cells #[.int .i64 0, .int .i64 0] 34)) b wz.heap.size P Bt m B0 az cz bz dz := by
  obtain ⟨g1, g2⟩ := cell2 (.slice az P.length cz) (.slice bz m dz) e0 e1
  exact ⟨al_cell _ g1, al_cell _ g2, by simp [go_sem], Lib.hid ⟨base, hB, (ownsRow_setCell_below (ownsRow_setCell_below ho (a := ⟨b, 0, none⟩) hb _) (a := ⟨b, 1, none⟩) hb _).alloc _, (ownsRow_setCell_below (ownsRow_setCell_below hu (a := ⟨b, 0, none⟩) hb _) (a := ⟨b, 1, none⟩) hb _).alloc _⟩⟩
theorem metO5 {b : Nat} {x y : Value} (e0 : wz.cell? ⟨b, 0, none⟩ = some x) (e1 : wz.cell? ⟨b, 1, none⟩ = some y) (hb : b < base) :
    MetO (((wz.setCell ⟨b, 0, none⟩ (.int .i64 0)).setCell ⟨b, 1, none⟩ (.int .i64 0)).alloc (.cells #[.slice az P.length cz, .slice bz m dz] 25)) wz.heap.size b P Bt m B0 az cz bz dz := by
  obtain ⟨g1, _⟩ := cell2 (.int .i64 0) (.int .i64 0) e0 e1
  exact ⟨by simp [go_sem], by simp [go_sem], al_cell _ g1, Lib.hid ⟨base, hB, (ownsRow_setCell_below (ownsRow_setCell_below ho (a := ⟨b, 0, none⟩) hb _) (a := ⟨b, 1, none⟩) hb _).alloc _, (ownsRow_setCell_below (ownsRow_setCell_below hu (a := ⟨b, 0, none⟩) hb _) (a := ⟨b, 1, none⟩) hb _).alloc _⟩⟩
theorem metO4 {b b' : Nat} {o0 o1 o2 o3 : Value} (e0 : wz.cell? ⟨b, 0, none⟩ = some o0) (e1 : wz.cell? ⟨b, 1, none⟩ = some o1) (e2 : wz.cell? ⟨b', 0, none⟩ = some o2) (e3 : wz.cell? ⟨b', 1, none⟩ = some o3) (hb : b < base) (hb' : b' < base) (hne : b' ≠ b) :
    MetO ((((wz.setCell ⟨b, 0, none⟩ (.slice az P.length cz)).setCell ⟨b, 1, none⟩ (.slice bz m dz)).setCell ⟨b', 0, none⟩ (.int .i64 0)).setCell ⟨b', 1, none⟩ (.int .i64 0)) b b' P Bt m B0 az cz bz dz := by
  obtain ⟨g1, g2⟩ := cell2 (.slice az P.length cz) (.slice bz m dz) e0 e1
  obtain ⟨g3, _⟩ := cell2 (w := (wz.setCell ⟨b, 0, none⟩ (.slice az P.length cz)).setCell ⟨b, 1, none⟩ (.slice bz m dz)) (.int .i64 0) (.int .i64 0) (((set_ne (wz.setCell ⟨b, 0, none⟩ _) (b := b') (g := b) 0 1 _ hne).trans (set_ne wz 0 0 _ hne)).trans e2) (((set_ne (wz.setCell ⟨b, 0, none⟩ _) (b := b') (g := b) 1 1 _ hne).trans (set_ne wz 1 0 _ hne)).trans e3)
  have hn := hne.symm
  refine ⟨((set_ne _ (b := b) (g := b') 0 1 _ hn).trans (set_ne _ 0 0 _ hn)).trans g1, ((set_ne _ (b := b) (g := b') 1 1 _ hn).trans (set_ne _ 1 0 _ hn)).trans g2, g3, Lib.hid ⟨base, hB, ?_, ?_⟩⟩
  · exact ownsRow_setCell_below (ownsRow_setCell_below (ownsRow_setCell_below (ownsRow_setCell_below ho (a := ⟨b, 0, none⟩) hb _) (a := ⟨b, 1, none⟩) hb _) (a := ⟨b', 0, none⟩) hb' _) (a := ⟨b', 1, none⟩) hb' _
  · exact ownsRow_setCell_below (ownsRow_setCell_below (ownsRow_setCell_below (ownsRow_setCell_below hu (a := ⟨b, 0, none⟩) hb _) (a := ⟨b, 1, none⟩) hb _) (a := ⟨b', 0, none⟩) hb' _) (a := ⟨b', 1, none⟩) hb' _
end
theorem slV_any {w : World} {base n c : Nat} {e : TypeId} {a : Option Addr} {xs : List Value} (h : w.ownsRow base e 1 (.slice a n c) n xs) : SlV a n c := slV_own h
/-- Rows of one's own are a space; m is how many bytes it has. -/
theorem spIn_ownN {w : World} {base m : Nat} {a : Option Addr} {c : Nat} {a2 : Option Addr} {c2 : Nat} {perm bytes : List Int} (hm : bytes.length = m) (h1 : w.ownsRow base 3 1 (.slice a perm.length c) perm.length (iV perm)) (h2 : w.ownsRow base 5 1 (.slice a2 m c2) m (bV bytes)) : SpIn w a c a2 c2 perm bytes := by
  subst hm; exact spIn_own h1 h2
/-- What Same answers of two spaces that are equal, m and m' their sizes. -/
def SmN (P T B : List Int) (m m' : Nat) : Prop := ∀ (a : Option Addr) (c : Nat) (a2 : Option Addr) (c2 : Nat) (a' : Option Addr) (c' : Nat) (a2' : Option Addr) (c2' : Nat) (w : World), SpIn w a c a2 c2 P T → SpIn w a' c' a2' c2' P B → Calls Try.prog 24 #[.agg #[.slice a P.length c, .slice a2 m c2], .agg #[.slice a' P.length c', .slice a2' m' c2']] w fun e w' => e = .returned (.bool true) ∧ Below w.heap.size w w'
def SmB (P A B : List Int) (z : Bool) : Prop := ∀ (a : Option Addr) (c : Nat) (a2 : Option Addr) (c2 : Nat) (a' : Option Addr) (c' : Nat) (a2' : Option Addr) (c2' : Nat) (w : World), SpIn w a c a2 c2 P A → SpIn w a' c' a2' c2' P B → Calls Try.prog 24 #[.agg #[.slice a P.length c, .slice a2 A.length c2], .agg #[.slice a' P.length c', .slice a2' B.length c2']] w fun e w' => e = .returned (.bool z) ∧ Below w.heap.size w w'
/-- What Poke answers: one byte is replaced. -/
def PkN (P T T' : List Int) (m : Nat) (z y : Int) : Prop := ∀ (a : Option Addr) (c : Nat) (a2 : Option Addr) (c2 : Nat) (ab : Option Addr) (cb : Nat) (w : World), SpIn w a c a2 c2 P T → SlAt w ab (bV [y]) → Calls Try.prog 35 #[.agg #[.slice a P.length c, .slice a2 m c2], .int .i64 z, .slice ab 1 cb] w (SpOutN P T' m w)
set_option linter.unusedSimpArgs false in
set_option linter.unusedVariables false in
set_option maxHeartbeats 4000000 in
set_option maxRecDepth 100000 in
theorem mch_n (a : Option Addr) (c : Nat) (a2 : Option Addr) (c2 : Nat) (a' : Option Addr) (c' : Nat) (a2' : Option Addr) (c2' : Nat) (P A P' B : List Int) (w : World) (hS : SpIn w a c a2 c2 P A) (hS' : SpIn w a' c' a2' c2' P' B) (er : Int) (hD : ∀ w, SpIn w a c a2 c2 P A → SpIn w a' c' a2' c2' P' B → Calls Try.prog 39 #[.agg #[.slice a P.length c, .slice a2 A.length c2], .agg #[.slice a' P'.length c', .slice a2' B.length c2']] w fun e w' => e = .returned (.tuple #[.slice none 0 0, .int .i64 er]) ∧ Below w.heap.size w w') (her : (er == 0) = false) :
    Calls Try.prog 12 #[.agg #[.slice a P.length c, .slice a2 A.length c2], .agg #[.slice a' P'.length c', .slice a2' B.length c2']] w fun e w' => e = .returned (.bool true) ∧ Below w.heap.size w w' := by
  have hS0 := Lib.hid hS
  clear hS
  have hS1 := Lib.hid hS'
  clear hS'
  go_enter Try.func12, Try.ntmps12
  have HK := Kw.start w
  go_wp2_with fail
  replace HK := HK.box (vs := [.slice a P.length c, .slice a2 A.length c2]) (t := 25)
  replace HK := HK.box (vs := [.slice a' P'.length c', .slice a2' B.length c2']) (t := 25)
  simp only [World.size_alloc] at HK
  refine (sane_c _).mono ?_
  rintro e w11 ⟨rfl, hq⟩
  replace HK := HK.below hq
  clear hq
  have z1 := HK.lt 0 rfl
  have r_0 := HK.get 0 0 rfl rfl
  have r_1 := HK.get 0 1 rfl rfl
  have r_s := HK.lt 0 rfl
  have p_0 := HK.get 1 0 rfl rfl
  have p_1 := HK.get 1 1 rfl rfl
  have p_s := HK.lt 1 rfl
  go_wp2_with fail
  clear r_0 r_1 r_s p_0 p_1 p_s
  refine (hD _ (hS0.out.below HK.base) (hS1.out.below HK.base)).mono ?_
  rintro e w12 ⟨rfl, hq⟩
  replace HK := HK.below hq
  clear hq
  have z2 := HK.lt 0 rfl
  have hK := HK.base
  clear HK
  go_wp2
  go_ret
  exact ⟨rfl, hK⟩
set_option linter.unusedSimpArgs false in
set_option linter.unusedVariables false in
set_option maxHeartbeats 4000000 in
set_option maxRecDepth 100000 in
theorem mch_y (a : Option Addr) (c : Nat) (a2 : Option Addr) (c2 : Nat) (a' : Option Addr) (c' : Nat) (a2' : Option Addr) (c2' : Nat) (P A B : List Int) (w : World) (hS : SpIn w a c a2 c2 P A) (hS' : SpIn w a' c' a2' c2' P B) (l : List Nat) (z : Bool) (T : Nat → List Int) (hD1 : DfA P A B (dC A B l) l.length) (hD2 : DfA P B A (dC B A l) l.length) (hD3 : DfA P A A [] 0) (hz : Hid (((l.length : Int) == 0) = z)) (hSm : SmB P A B z) (hT0 : Hid (T 0 = A)) (hTl : Hid (∀ k, (T k).length = A.length)) (hTn : SmN P (T l.length) B A.length B.length) (hPk : ∀ (k q : Nat), l[k]? = some q → PkN P (T k) (T (k + 1)) A.length q (B[q]?.getD 0)) (hch : Hid (∀ q ∈ l, chg A B q = true)) (hup : Hid (∀ (k p q : Nat), l[k]? = some p → l[k + 1]? = some q → p < q)) :
    Calls Try.prog 12 #[.agg #[.slice a P.length c, .slice a2 A.length c2], .agg #[.slice a' P.length c', .slice a2' B.length c2']] w fun e w' => e = .returned (.bool true) ∧ Below w.heap.size w w' := by
  have hS0 := Lib.hid hS
  clear hS
  have hS1 := Lib.hid hS'
  clear hS'
  go_enter Try.func12, Try.ntmps12
  have HK := Kw.start w
  go_wp2_with fail
  replace HK := HK.box (vs := [.slice a P.length c, .slice a2 A.length c2]) (t := 25)
  replace HK := HK.box (vs := [.slice a' P.length c', .slice a2' B.length c2']) (t := 25)
  simp only [World.size_alloc] at HK
  refine (sane_c _).mono ?_
  rintro e w11 ⟨rfl, hq⟩
  replace HK := HK.below hq
  clear hq
  have z1 := HK.lt 0 rfl
  have r_0 := HK.get 0 0 rfl rfl
  have r_1 := HK.get 0 1 rfl rfl
  have r_s := HK.lt 0 rfl
  have p_0 := HK.get 1 0 rfl rfl
  have p_1 := HK.get 1 1 rfl rfl
  have p_s := HK.lt 1 rfl
  go_wp2_with fail
  clear r_0 r_1 r_s p_0 p_1 p_s
  refine (hD1 _ _ _ _ _ _ _ _ _ (hS0.out.below HK.base) (hS1.out.below HK.base)).mono ?_
  rintro e w12 ⟨al, cl, rfl, hvl, hsl, hq⟩
  replace HK := HK.below hq
  clear hq
  have z2 := HK.lt 0 rfl
  have hBl := Below.refl w12.heap.size w12
  have HVl := Lib.hid hvl
  have HSl := Lib.hid hsl
  have hlm := hvl.max
  unfold maxLen at hlm
  clear hvl hsl
  have r_0 := HK.get 0 0 rfl rfl
  have r_1 := HK.get 0 1 rfl rfl
  have r_s := HK.lt 0 rfl
  have p_0 := HK.get 1 0 rfl rfl
  have p_1 := HK.get 1 1 rfl rfl
  have p_s := HK.lt 1 rfl
  go_wp2_with fail
  clear r_0 r_1 r_s p_0 p_1 p_s
  refine (hD2 _ _ _ _ _ _ _ _ _ (hS1.out.below HK.base) (hS0.out.below HK.base)).mono ?_
  rintro e w13 ⟨am, cm, rfl, hvm, hsm, hq⟩
  replace HK := HK.below hq
  replace hBl := Below.tail hBl hq
  clear hq
  have z3 := HK.lt 0 rfl
  have hBm := Below.refl w13.heap.size w13
  have HVm := Lib.hid hvm
  have HSm := Lib.hid hsm
  clear hvm hsm
  have p_0 := HK.get 1 0 rfl rfl
  have p_1 := HK.get 1 1 rfl rfl
  have p_s := HK.lt 1 rfl
  go_wp2_with fail
  clear p_0 p_1 p_s
  refine (hD3 _ _ _ _ _ _ _ _ _ (hS0.out.below HK.base) (hS0.out.below HK.base)).mono ?_
  rintro e w14 ⟨an, cn, rfl, hvn, hsn, hq⟩
  replace HK := HK.below hq
  replace hBl := Below.tail hBl hq
  replace hBm := Below.tail hBm hq
  clear hq
  have z4 := HK.lt 0 rfl
  clear hvn hsn
  have hz1 := hz.out
  have r_0 := HK.get 0 0 rfl rfl
  have r_1 := HK.get 0 1 rfl rfl
  have r_s := HK.lt 0 rfl
  have p_0 := HK.get 1 0 rfl rfl
  have p_1 := HK.get 1 1 rfl rfl
  have p_s := HK.lt 1 rfl
  go_wp2_with fail
  clear r_0 r_1 r_s p_0 p_1 p_s
  refine (hSm _ _ _ _ _ _ _ _ _ (hS0.out.below HK.base) (hS1.out.below HK.base)).mono ?_
  rintro e w15 ⟨rfl, hq⟩
  replace HK := HK.below hq
  replace hBl := Below.tail hBl hq
  replace hBm := Below.tail hBm hq
  clear hq
  have z5 := HK.lt 0 rfl
  clear hz1
  have hBl0 := hBl
  have hBm0 := hBm
  have HK15 := HK
  clear hBl hBm
  have p_0 := HK.get 1 0 rfl rfl
  have p_1 := HK.get 1 1 rfl rfl
  have p_s := HK.lt 1 rfl
  go_wp2_with fail
  replace HK := HK.box (vs := [.slice a P.length c, .slice a2 A.length c2]) (t := 25)
  clear p_0 p_1 p_s
  have HLl0 := Lib.hid (HSl.out.below hBl0)
  have HLm0 := Lib.hid (HSm.out.below hBm0)
  have hqw : w.heap.size ≤ w15.heap.size := HK15.size
  have hST : Hid (SpIn (w15.alloc (.cells #[.slice a P.length c, .slice a2 A.length c2] 25)) a c a2 c2 P (T 0)) := Lib.hid (by rw [hT0.out]; exact (hS0.out.below HK.base))
  clear HSl HSm hBl0 hBm0 HK15
  go_loopw [13] (fun i wr => ∃ (k : Nat) (ta : Option Addr) (tc : Nat) (tb : Option Addr) (td : Nat) (wv : World), wv = wr ∧ k ≤ l.length ∧ i = .int .i64 k ∧ Kw [(w15.heap.size, [.slice ta P.length tc, .slice tb A.length td], 25), (w.heap.size + 1, [.slice a' P.length c', .slice a2' B.length c2'], 25), (w.heap.size, [.slice a P.length c, .slice a2 A.length c2], 25)] w wv ∧ Hid (SpIn wv ta tc tb td P (T k)) ∧ Hid (Below w15.heap.size w15 wv) ∧ Hid (l.length ≤ 200 ∨ k = 0)) (fun i _ => l.length - (intOf i).toNat)
  case atStart => exact ⟨0, _, _, _, _, _, rfl, Nat.zero_le _, rfl, HK, hST, Lib.hid (b_alloc (Below.refl _ _)), .inr rfl⟩
  case round =>
    clear HK hST
    obtain ⟨k, ta, tc, tb, td, wv, hw, hk, rfl, HK, hSt, hB15, hk0⟩ := hrel
    subst hw
    have HLl := Lib.hid (HLl0.out.below hB15.out)
    have HLm := Lib.hid (HLm0.out.below hB15.out)
    have r_0 := HK.get 1 0 rfl rfl
    have r_1 := HK.get 1 1 rfl rfl
    have t_0 := HK.get 0 0 rfl rfl
    have t_1 := HK.get 0 1 rfl rfl
    by_cases hb2 : l.length ≤ 200
    · by_cases hlt : k < l.length
      · clear r_0 r_1 t_0 t_1
        have hq0 := List.getElem?_eq_getElem hlt
        have hch1 := hch.out l[k] (List.getElem_mem hlt)
        obtain ⟨g1, g2, g3⟩ := dC_get A B l k _ hq0
        obtain ⟨m1, m2, m3⟩ := dC_get B A l k _ hq0
        obtain ⟨bl, off, rfl, hbl, hc⟩ := slAt_get HLl.out g1
        obtain ⟨bm, offm, rfl, hbm, hcm⟩ := slAt_get HLm.out m1
        have hpk := hPk k _ hq0
        have hY : Hid (∀ q', l[k]? = some q' → q' = l[k]) := Lib.hid fun q' h => by rw [hq0] at h; exact (Option.some.inj h).symm
        have c0 := hc _ _ g1
        have c1 := hc _ _ g2
        have c2x := hc _ _ g3
        have d0 := hcm _ _ m1
        have d1 := hcm _ _ m2
        have d2 := hcm _ _ m3
        rw [← Nat.add_assoc] at c1 c2x d1 d2
        have k0 : (0 : Int) ≤ (k : Int) := Int.natCast_nonneg _
        have k1 : (k : Int) < (l.length : Int) := by omega
        have hHc := Lib.hid hc
        have hHup := Lib.hid hq0
        clear g1 g2 g3 m1 m2 m3 hc hcm hq0
        generalize hlk : l[k] = q at *
        have hxy : (A[q]?.getD 0 == B[q]?.getD 0) = false := by
          have h : (B[q]?.getD 0 != A[q]?.getD 0) = true := hch1
          rw [Bool.eq_false_iff]; intro h'; rw [eq_of_beq h'] at h; simp at h
        generalize A[q]?.getD 0 = x at *
        generalize B[q]?.getD 0 = y at *
        have HQ := Lib.hid hlk
        have hPkh := Lib.hid hpk
        clear hlk hpk hch1
        have HKh := Lib.hid HK
        clear HK
        go_upto_region 13 with fail
        go_cut [133] (fun s1 wx => s1 = .bool false ∧ ∃ (wd : World), wd = wx ∧ Hid (Below wv.heap.size wv wd))
        case first =>
          by_cases hk0' : 0 < k
          · obtain ⟨p, hp⟩ : ∃ p, l[k - 1]? = some p := ⟨l[k - 1]'(by omega), List.getElem?_eq_getElem _⟩
            have hpq := hup.out (k - 1) p q hp (by rw [show k - 1 + 1 = k by omega]; exact hHup.out)
            obtain ⟨g1, _, _⟩ := dC_get A B l (k - 1) _ hp
            have cp := hHc.out _ _ g1
            have hd0 : decide ((0 : Int) < (k : Int)) = true := by simpa using hk0'
            have hd1 : decide (q ≤ p) = false := by simpa using hpq
            have hd2 : decide ((q : Int) ≤ (p : Int)) = false := by simpa using hpq
            have hw1 : IntKind.i64.wrap ((k : Int) - 1) = (k : Int) - 1 := IntWalk.i64_in _ (by omega)
            have hw2 : ((k : Int) - 1).toNat = k - 1 := by omega
            have hw3 : (0 : Int) ≤ (k : Int) - 1 := by omega
            have hw4 : (k : Int) - 1 < (l.length : Int) := by omega
            clear hp g1
            go_quiet (fail)
            clear hw1 hw2
            go_wp2_with fail
            go_meet
            exact ⟨rfl, _, rfl, Lib.hid ⟨rfl, rfl, rfl, Nat.le_refl _, fun _ _ => rfl⟩⟩
          · have hd0 : decide ((0 : Int) < (k : Int)) = false := by simpa using hk0'
            go_quiet (fail)
            go_wp2_with fail
            go_meet
            exact ⟨rfl, _, rfl, Lib.hid ⟨rfl, rfl, rfl, Nat.le_refl _, fun _ _ => rfl⟩⟩
        case rest =>
          obtain ⟨rfl, W, hW, hvW⟩ := hcut
          subst hW
          obtain ⟨hcz, _⟩ := bcell hvW.out
          replace c0 := (hcz _ _ hbl).trans c0
          replace c2x := (hcz _ _ hbl).trans c2x
          have hblW : bl < W.heap.size := Nat.lt_of_lt_of_le hbl hvW.out.size
          have HKW := HKh.out.below hvW.out
          have hSW := Lib.hid (hSt.out.below hvW.out)
          have hB15W := Lib.hid (Below.tail hB15.out hvW.out)
          clear hcz c1 d0 d1 d2 hbl hbm HKh hSt hB15 hvW HLl HLm hHc hHup
          generalize hqt : w15.heap.size = qt at *
          have hqt' := Lib.hid hqt
          clear hqt
          have HSS : Hid (∀ W', Below W.heap.size W W' → Below W.heap.size W W' ∧ W'.cell? ⟨qt, 0, none⟩ = some (.slice ta P.length tc) ∧ W'.cell? ⟨qt, 1, none⟩ = some (.slice tb A.length td) ∧ W'.cell? ⟨bl, off + k * 3, none⟩ = some (.int .i64 (q : Int)) ∧ W'.cell? ⟨bl, off + k * 3 + 2, none⟩ = some (.int .u8 y)) := Lib.hid fun W' hb => ⟨hb, (HKW.below hb).get 0 0 rfl rfl, (HKW.below hb).get 0 1 rfl rfl, (hb.cell (p := ⟨bl, off + k * 3, none⟩) hblW).trans c0, (hb.cell (p := ⟨bl, off + k * 3 + 2, none⟩) hblW).trans c2x⟩
          have HKh := Lib.hid HKW
          clear HKW c0 c2x
          go_upto_region 15 with fail
          go_cut [14, 15, 16] (fun s14 s15 s16 wx => ∃ (b14 b15 : Nat) (az : Option Addr) (cz : Nat) (bz : Option Addr) (dz : Nat) (X : World), X = wx ∧ s14 = .pointer (some ⟨b14, 0, none⟩) ∧ s15 = .pointer (some ⟨b15, 0, none⟩) ∧ s16 = .int .i64 0 ∧ Below W.heap.size W X ∧ MetO X b14 b15 P (T (k + 1)) A.length W.heap.size az cz bz dz)
          case first =>
            go_region_held3 (fun W' => Below W.heap.size W W' ∧ W'.cell? ⟨qt, 0, none⟩ = some (.slice ta P.length tc) ∧ W'.cell? ⟨qt, 1, none⟩ = some (.slice tb A.length td) ∧ W'.cell? ⟨bl, off + k * 3, none⟩ = some (.int .i64 (q : Int)) ∧ W'.cell? ⟨bl, off + k * 3 + 2, none⟩ = some (.int .u8 y)) ((refine HSS.out _ ?_; go_split_ands; repeat (first | with_reducible assumption | with_reducible exact Below.refl _ _ | with_reducible apply b_alloc | with_reducible apply Below.drew | (with_reducible refine Below.tail ?_ (by with_reducible assumption)) | (with_reducible refine Below.setCell ?_ (by first | exact Nat.le_refl _ | (simp only [World.size_alloc, World.size_drew, World.size_setCell]; omega) | (show _ ≤ _; omega)) _)))) ((go_at_call 35; go_split_ands; refine (hPkh.out _ _ _ _ _ _ _ (hSW.out.below (by with_reducible assumption)) (slAt_one (by simp [go_sem]))).mono ?_; rintro e wz ⟨az, cz, bz, dz, rfl, hoz, huz, hqz⟩; have hszz := hqz.size; simp only [World.size_alloc, World.size_drew] at hszz; (try have u2 := Nat.lt_of_succ_le hszz); (try have u3 := Nat.lt_of_succ_lt u2); (try have u4 := Nat.lt_of_succ_lt u3); (try have u5 := Nat.lt_succ_of_lt u2); (try have u6 := Nat.lt_succ_of_lt u3); (try have u7 := Nat.lt_succ_of_lt u4); obtain ⟨hcz, hfz⟩ := bcell hqz; (have q00c := hcz (W.heap.size) 0; try simp [go_sem] at q00c); (have q00f := hfz (W.heap.size) 0; try simp [go_sem] at q00f); (have q01c := hcz (W.heap.size) 1; try simp [go_sem] at q01c); (have q01f := hfz (W.heap.size) 1; try simp [go_sem] at q01f); (have q10c := hcz (W.heap.size + 1) 0; try simp [go_sem] at q10c); (have q10f := hfz (W.heap.size + 1) 0; try simp [go_sem] at q10f); (have q11c := hcz (W.heap.size + 1) 1; try simp [go_sem] at q11c); (have q11f := hfz (W.heap.size + 1) 1; try simp [go_sem] at q11f); (have q20c := hcz (W.heap.size + 1 + 1) 0; try simp [go_sem] at q20c); (have q20f := hfz (W.heap.size + 1 + 1) 0; try simp [go_sem] at q20f); (have q21c := hcz (W.heap.size + 1 + 1) 1; try simp [go_sem] at q21c); (have q21f := hfz (W.heap.size + 1 + 1) 1; try simp [go_sem] at q21f); clear hcz hfz))
            all_goals
              go_wp2_with fail
              go_meet
              go_split_ands
              first
              | with_reducible exact ⟨_, _, az, cz, bz, dz, _, rfl, rfl, rfl, rfl, by with_reducible assumption, metO1 (by simp only [World.size_alloc, World.size_drew]; omega) hoz huz⟩
              | with_reducible exact ⟨_, _, az, cz, bz, dz, _, rfl, rfl, rfl, rfl, by with_reducible assumption, metO2 (by simp only [World.size_alloc, World.size_drew]; omega) hoz huz⟩
              | with_reducible exact ⟨_, _, az, cz, bz, dz, _, rfl, rfl, rfl, rfl, by with_reducible assumption, metO3 (by simp only [World.size_alloc, World.size_drew]; omega) hoz huz q00c q01c (by simp only [World.size_alloc, World.size_drew]; omega)⟩
              | with_reducible exact ⟨_, _, az, cz, bz, dz, _, rfl, rfl, rfl, rfl, by with_reducible assumption, metO5 (by simp only [World.size_alloc, World.size_drew]; omega) hoz huz q00c q01c (by simp only [World.size_alloc, World.size_drew]; omega)⟩
              | with_reducible exact ⟨_, _, az, cz, bz, dz, _, rfl, rfl, rfl, rfl, by with_reducible assumption, metO3 (by simp only [World.size_alloc, World.size_drew]; omega) hoz huz q10c q11c (by simp only [World.size_alloc, World.size_drew]; omega)⟩
              | with_reducible exact ⟨_, _, az, cz, bz, dz, _, rfl, rfl, rfl, rfl, by with_reducible assumption, metO5 (by simp only [World.size_alloc, World.size_drew]; omega) hoz huz q10c q11c (by simp only [World.size_alloc, World.size_drew]; omega)⟩
              | with_reducible exact ⟨_, _, az, cz, bz, dz, _, rfl, rfl, rfl, rfl, by with_reducible assumption, metO4 (by simp only [World.size_alloc, World.size_drew]; omega) hoz huz q00c q01c q10c q11c (by simp only [World.size_alloc, World.size_drew]; omega) (by simp only [World.size_alloc, World.size_drew]; omega) (by omega)⟩
              | with_reducible exact ⟨_, _, az, cz, bz, dz, _, rfl, rfl, rfl, rfl, by with_reducible assumption, metO4 (by simp only [World.size_alloc, World.size_drew]; omega) hoz huz q00c q01c q20c q21c (by simp only [World.size_alloc, World.size_drew]; omega) (by simp only [World.size_alloc, World.size_drew]; omega) (by omega)⟩
              | with_reducible exact ⟨_, _, az, cz, bz, dz, _, rfl, rfl, rfl, rfl, by with_reducible assumption, metO4 (by simp only [World.size_alloc, World.size_drew]; omega) hoz huz q10c q11c q00c q01c (by simp only [World.size_alloc, World.size_drew]; omega) (by simp only [World.size_alloc, World.size_drew]; omega) (by omega)⟩
              | with_reducible exact ⟨_, _, az, cz, bz, dz, _, rfl, rfl, rfl, rfl, by with_reducible assumption, metO4 (by simp only [World.size_alloc, World.size_drew]; omega) hoz huz q10c q11c q20c q21c (by simp only [World.size_alloc, World.size_drew]; omega) (by simp only [World.size_alloc, World.size_drew]; omega) (by omega)⟩
              | with_reducible exact ⟨_, _, az, cz, bz, dz, _, rfl, rfl, rfl, rfl, by with_reducible assumption, metO4 (by simp only [World.size_alloc, World.size_drew]; omega) hoz huz q20c q21c q00c q01c (by simp only [World.size_alloc, World.size_drew]; omega) (by simp only [World.size_alloc, World.size_drew]; omega) (by omega)⟩
              | with_reducible exact ⟨_, _, az, cz, bz, dz, _, rfl, rfl, rfl, rfl, by with_reducible assumption, metO4 (by simp only [World.size_alloc, World.size_drew]; omega) hoz huz q20c q21c q10c q11c (by simp only [World.size_alloc, World.size_drew]; omega) (by simp only [World.size_alloc, World.size_drew]; omega) (by omega)⟩
          case rest =>
            obtain ⟨b14, b15, az, cz, bz, dz, X, hX, rfl, rfl, rfl, hbX, ⟨m1, m2, m3, hO⟩⟩ := hcut
            subst hX
            have HKX := HKh.out.below hbX
            have hWq := HKh.out.lt 0 rfl
            have h15X := Lib.hid (hB15W.out.trans (hbX.mono (Nat.le_of_lt hWq)))
            have q_0 := HKX.get 0 0 rfl rfl
            have q_1 := HKX.get 0 1 rfl rfl
            have q_f0 := HKX.fz 0 0 rfl
            have q_f1 := HKX.fz 0 1 rfl
            have q_s := HKX.lt 0 rfl
            have HKX' := Lib.hid HKX
            clear HKX HSS hbX hB15W HKh
            go_wp2_with fail
            obtain rfl := hqt'.out
            obtain ⟨base, hB, ho, hu⟩ := hO.out
            have hlb : w15.heap.size < base := Nat.lt_of_lt_of_le hWq hB
            have hKN := HKX'.out.put2l (l1 := []) (x := .slice az P.length cz) (y := .slice bz A.length dz) hqw (by
              intro f hf
              simp only [List.nil_append, List.mem_cons, List.not_mem_nil, or_false] at hf
              rcases hf with rfl | rfl
              · exact Nat.ne_of_lt z5
              · exact Nat.ne_of_lt (Nat.lt_of_succ_lt z5))
            simp only [List.nil_append] at hKN
            go_roundw
            case rel => exact ⟨k + 1, az, cz, bz, dz, _, rfl, hlt, by go_num, hKN, Lib.hid (spIn_ownN (hTl.out (k + 1)) (ownsRow_setCell_below (ownsRow_setCell_below ho (a := ⟨w15.heap.size, 0, none⟩) hlb _) (a := ⟨w15.heap.size, 1, none⟩) hlb _) (ownsRow_setCell_below (ownsRow_setCell_below hu (a := ⟨w15.heap.size, 0, none⟩) hlb _) (a := ⟨w15.heap.size, 1, none⟩) hlb _)), Lib.hid ((h15X.out.setCell (p := ⟨w15.heap.size, 0, none⟩) (Nat.le_refl _) _).setCell (p := ⟨w15.heap.size, 1, none⟩) (Nat.le_refl _) _), Lib.hid (.inl hb2)⟩
            case measure => simp only [intOf, Int.toNat_natCast, Int.toNat_natCast_add_one]; exact Nat.sub_lt_sub_left hlt (Nat.lt_succ_self k)
      · have hkn : k = l.length := by omega
        have hSt2 : Hid (SpIn wv ta tc tb td P (T l.length)) := by rw [← hkn]; exact hSt
        have hR := Lib.hid (hS1.out.below HK.base)
        have hK := HK.base
        clear HK hkn
        go_wp2_with fail
        refine (hTn _ _ _ _ _ _ _ _ _ hSt2.out hR.out).mono ?_
        rintro e we ⟨rfl, hqe⟩
        have hfin := Below.tail hK hqe
        clear hqe hK r_0 r_1 t_0 t_1
        go_wp2
        go_ret
        exact ⟨rfl, hfin⟩
    · have hkz : k = 0 := by rcases hk0.out with h | h <;> omega
      subst hkz
      have hlp : 0 < l.length := by omega
      have hK := HK.base
      clear HK
      go_wp2
      go_ret
      exact ⟨rfl, hK⟩
end Go.Proofs.Ytdbcbmdekdfdoaa
