/- WHAT IS PROVED: taplinelaw03.MemHalves walked, over contracts of mem.Check, mem.Load, mem.Store, mem.Same (letters): the small ways. CONDITIONS: those contracts. -/
import Derived.Test.YtdbcbmdekdfdoaaMa
import Derived.Deep.RegionHeld3
import Derived.Deep.Cut
import Derived.Deep.CutRange
import Derived.Deep.DeepCutAuto
namespace Go.Proofs.Ytdbcbmdekdfdoaa
open Go Go.RowKit Go.QrBits Go.QrMem

theorem sh_8 (v : Int) : Op.shift .shr .i64 v .i64 (IntKind.i64.wrap 8) = pure (.int .i64 (v / 256)) := by rw [show IntKind.i64.wrap 8 = 8 by decide]; exact shift_shr .i64 .i64 v 8 (by omega) (by decide)
theorem sh_16 (v : Int) : Op.shift .shr .i64 v .i64 (IntKind.i64.wrap 16) = pure (.int .i64 (v / 65536)) := by rw [show IntKind.i64.wrap 16 = 16 by decide]; exact shift_shr .i64 .i64 v 16 (by omega) (by decide)
theorem sh_32 (v : Int) : Op.shift .shr .i64 v .i64 (IntKind.i64.wrap 32) = pure (.int .i64 (v / 4294967296)) := by rw [show IntKind.i64.wrap 32 = 32 by decide]; exact shift_shr .i64 .i64 v 32 (by omega) (by decide)
/-- What Load answers, of this space. -/
def LdH (a : Option Addr) (c : Nat) (a2 : Option Addr) (c2 : Nat) (P B : List Int) (t s r k x : Int) : Prop := ∀ w, SpIn w a c a2 c2 P B → Calls Try.prog 33 #[.agg #[.slice a P.length c, .slice a2 B.length c2], .int .i64 t, .agg #[.int .i64 s, .bool false]] w fun e w' => e = .returned (.tuple #[.int .i64 r, .agg #[.int .i64 k, .int .i64 x], .int .i64 0]) ∧ Below w.heap.size w w'
/-- The loads have a fault, or none. -/
def LdWay (kf kg ki : Int) (val : Prop) : Prop := (kf = 0 ∧ kg = 0 ∧ ki = 0 ∧ val) ∨ ((kf == 0) = false ∧ (kg == 0) = false) ∨ ((kf == 0) = false ∧ kg = 0 ∧ (ki == 0) = false)
/-- What is known behind the last store: the two new variables, and the space. -/
def MetR (X : World) (b b' : Nat) (P Bt : List Int) (az : Option Addr) (cz : Nat) (bz : Option Addr) (dz : Nat) : Prop :=
  X.cell? ⟨b, 0, none⟩ = some (.slice az P.length cz) ∧ X.cell? ⟨b, 1, none⟩ = some (.slice bz Bt.length dz) ∧ X.cell? ⟨b', 0, none⟩ = some (.int .i64 0) ∧ Hid (SpIn X az cz bz dz P Bt)
section
variable {wz : World} {base : Nat} {P Bt : List Int} {az : Option Addr} {cz : Nat} {bz : Option Addr} {dz : Nat} (ho : wz.ownsRow base 3 1 (.slice az P.length cz) P.length (iV P)) (hu : wz.ownsRow base 5 1 (.slice bz Bt.length dz) Bt.length (bV Bt))
include ho hu
theorem met1 : MetR ((wz.alloc (.cells #[.slice az P.length cz, .slice bz Bt.length dz] 25)).alloc (.cells #[.int .i64 0, .int .i64 0] 34)) wz.heap.size (wz.heap.size + 1) P Bt az cz bz dz :=
  ⟨by simp [go_sem], by simp [go_sem], by simp [go_sem], Lib.hid (spIn_own ((ho.alloc _).alloc _) ((hu.alloc _).alloc _))⟩
theorem met2 : MetR ((wz.alloc (.cells #[.int .i64 0, .int .i64 0] 34)).alloc (.cells #[.slice az P.length cz, .slice bz Bt.length dz] 25)) (wz.heap.size + 1) wz.heap.size P Bt az cz bz dz :=
  ⟨by simp [go_sem], by simp [go_sem], by simp [go_sem], Lib.hid (spIn_own ((ho.alloc _).alloc _) ((hu.alloc _).alloc _))⟩
omit ho hu in
theorem cell2 {w : World} {b : Nat} {o0 o1 : Value} (x y : Value) (e0 : w.cell? ⟨b, 0, none⟩ = some o0) (e1 : w.cell? ⟨b, 1, none⟩ = some o1) :
    ((w.setCell ⟨b, 0, none⟩ x).setCell ⟨b, 1, none⟩ y).cell? ⟨b, 0, none⟩ = some x ∧ ((w.setCell ⟨b, 0, none⟩ x).setCell ⟨b, 1, none⟩ y).cell? ⟨b, 1, none⟩ = some y :=
  ⟨by rw [World.cell?_setCell_other _ _ _ _ (by simp)]; exact (put2 x y e0 e1).1, (put2 x y e0 e1).2⟩
omit ho hu in
theorem al_cell {w : World} {a : Addr} {u : Value} (o : Obj) (h : w.cell? a = some u) : (w.alloc o).cell? a = some u := by rw [World.cell?_alloc_some w a o (by rw [h]; rfl)]; exact h
theorem met3 {b : Nat} {o0 o1 : Value} (e0 : wz.cell? ⟨b, 0, none⟩ = some o0) (e1 : wz.cell? ⟨b, 1, none⟩ = some o1) (hb : b < base) :
    MetR (((wz.setCell ⟨b, 0, none⟩ (.slice az P.length cz)).setCell ⟨b, 1, none⟩ (.slice bz Bt.length dz)).alloc (.cells #[.int .i64 0, .int .i64 0] 34)) b wz.heap.size P Bt az cz bz dz := by
  obtain ⟨g1, g2⟩ := cell2 (.slice az P.length cz) (.slice bz Bt.length dz) e0 e1
  refine ⟨al_cell _ g1, al_cell _ g2, by simp [go_sem], Lib.hid (spIn_own ((ownsRow_setCell_below (ownsRow_setCell_below ho (a := ⟨b, 0, none⟩) hb _) (a := ⟨b, 1, none⟩) hb _).alloc _) ((ownsRow_setCell_below (ownsRow_setCell_below hu (a := ⟨b, 0, none⟩) hb _) (a := ⟨b, 1, none⟩) hb _).alloc _))⟩
theorem met5 {b : Nat} {x y : Value} (e0 : wz.cell? ⟨b, 0, none⟩ = some x) (e1 : wz.cell? ⟨b, 1, none⟩ = some y) (hb : b < base) :
    MetR (((wz.setCell ⟨b, 0, none⟩ (.int .i64 0)).setCell ⟨b, 1, none⟩ (.int .i64 0)).alloc (.cells #[.slice az P.length cz, .slice bz Bt.length dz] 25)) wz.heap.size b P Bt az cz bz dz := by
  obtain ⟨g1, g2⟩ := cell2 (.int .i64 0) (.int .i64 0) e0 e1
  refine ⟨by simp [go_sem], by simp [go_sem], al_cell _ g1, Lib.hid (spIn_own ((ownsRow_setCell_below (ownsRow_setCell_below ho (a := ⟨b, 0, none⟩) hb _) (a := ⟨b, 1, none⟩) hb _).alloc _) ((ownsRow_setCell_below (ownsRow_setCell_below hu (a := ⟨b, 0, none⟩) hb _) (a := ⟨b, 1, none⟩) hb _).alloc _))⟩
theorem met4 {b b' : Nat} {o0 o1 o2 o3 : Value} (e0 : wz.cell? ⟨b, 0, none⟩ = some o0) (e1 : wz.cell? ⟨b, 1, none⟩ = some o1) (e2 : wz.cell? ⟨b', 0, none⟩ = some o2) (e3 : wz.cell? ⟨b', 1, none⟩ = some o3) (hb : b < base) (hb' : b' < base) (hne : b' ≠ b) :
    MetR ((((wz.setCell ⟨b, 0, none⟩ (.slice az P.length cz)).setCell ⟨b, 1, none⟩ (.slice bz Bt.length dz)).setCell ⟨b', 0, none⟩ (.int .i64 0)).setCell ⟨b', 1, none⟩ (.int .i64 0)) b b' P Bt az cz bz dz := by
  obtain ⟨g1, g2⟩ := cell2 (.slice az P.length cz) (.slice bz Bt.length dz) e0 e1
  obtain ⟨g3, g4⟩ := cell2 (w := (wz.setCell ⟨b, 0, none⟩ (.slice az P.length cz)).setCell ⟨b, 1, none⟩ (.slice bz Bt.length dz)) (.int .i64 0) (.int .i64 0) (((set_ne (wz.setCell ⟨b, 0, none⟩ _) (b := b') (g := b) 0 1 _ hne).trans (set_ne wz 0 0 _ hne)).trans e2) (((set_ne (wz.setCell ⟨b, 0, none⟩ _) (b := b') (g := b) 1 1 _ hne).trans (set_ne wz 1 0 _ hne)).trans e3)
  have hn := hne.symm
  refine ⟨((set_ne _ (b := b) (g := b') 0 1 _ hn).trans (set_ne _ 0 0 _ hn)).trans g1, ((set_ne _ (b := b) (g := b') 1 1 _ hn).trans (set_ne _ 1 0 _ hn)).trans g2, g3, Lib.hid (spIn_own (base := base) ?_ ?_)⟩
  · exact ownsRow_setCell_below (ownsRow_setCell_below (ownsRow_setCell_below (ownsRow_setCell_below ho (a := ⟨b, 0, none⟩) hb _) (a := ⟨b, 1, none⟩) hb _) (a := ⟨b', 0, none⟩) hb' _) (a := ⟨b', 1, none⟩) hb' _
  · exact ownsRow_setCell_below (ownsRow_setCell_below (ownsRow_setCell_below (ownsRow_setCell_below hu (a := ⟨b, 0, none⟩) hb _) (a := ⟨b, 1, none⟩) hb _) (a := ⟨b', 0, none⟩) hb' _) (a := ⟨b', 1, none⟩) hb' _
end
attribute [local go_sem] Oper.semAt_some sh_8 sh_16 sh_32
set_option linter.unusedSimpArgs false in
set_option linter.unusedVariables false in
set_option maxHeartbeats 4000000 in
set_option maxRecDepth 100000 in
theorem mh_1 (a : Option Addr) (c : Nat) (a2 : Option Addr) (c2 : Nat) (P B : List Int) (t v : Int) (gx : Bool) (w : World) (hS : SpIn w a c a2 c2 P B) (s : Int) (hck : CkG P B 30) :
    Calls Try.prog 10 #[.agg #[.slice a P.length c, .slice a2 B.length c2], .agg #[.int .i64 t, .int .i64 s, .bool gx, .int .i64 v]] w fun e w' => e = .returned (.bool true) ∧ Below w.heap.size w w' := by
  have hS0 := Lib.hid hS
  clear hS
  go_enter Try.func10, Try.ntmps10
  have HK := Kw.start w
  go_wp2_with fail
  replace HK := HK.box (vs := [.slice a P.length c, .slice a2 B.length c2]) (t := 25)
  replace HK := HK.box (vs := [.int .i64 t, .int .i64 s, .bool gx, .int .i64 v]) (t := 66)
  simp only [World.size_alloc] at HK
  refine (sane_c _).mono ?_
  rintro e w11 ⟨rfl, hq⟩
  replace HK := HK.below hq
  clear hq
  have z1 := HK.lt 0 rfl
  have x_0 := HK.get 0 0 rfl rfl
  have x_f0 := HK.fz 0 0 rfl
  have x_1 := HK.get 0 1 rfl rfl
  have x_f1 := HK.fz 0 1 rfl
  have x_2 := HK.get 0 2 rfl rfl
  have x_f2 := HK.fz 0 2 rfl
  have x_3 := HK.get 0 3 rfl rfl
  have x_f3 := HK.fz 0 3 rfl
  have x_s := HK.lt 0 rfl
  have p_0 := HK.get 1 0 rfl rfl
  have p_1 := HK.get 1 1 rfl rfl
  have p_s := HK.lt 1 rfl
  go_wp2_with fail
  clear x_0 x_f0 x_1 x_f1 x_2 x_f2 x_3 x_f3 x_s p_0 p_1 p_s
  replace HK := HK.put (j := 2) (v := .bool false) (by omega) (by
    intro f hf
    simp only [List.mem_cons, List.not_mem_nil, or_false] at hf
    subst hf
    dsimp only; omega)
  simp only [List.set] at HK
  refine (hck _ _ _ _ _ (hS0.out.below HK.base)).mono ?_
  rintro e w12 ⟨rfl, hq⟩
  replace HK := HK.below hq
  clear hq
  have z9 := HK.lt 0 rfl
  have x_0 := HK.get 0 0 rfl rfl
  have x_1 := HK.get 0 1 rfl rfl
  have x_2 := HK.get 0 2 rfl rfl
  have x_3 := HK.get 0 3 rfl rfl
  have x_s := HK.lt 0 rfl
  have p_0 := HK.get 1 0 rfl rfl
  have p_1 := HK.get 1 1 rfl rfl
  have p_s := HK.lt 1 rfl
  have hK := HK.base
  clear HK
  go_wp2
  go_ret
  exact ⟨rfl, hK⟩
set_option linter.unusedSimpArgs false in
set_option linter.unusedVariables false in
set_option maxHeartbeats 4000000 in
set_option maxRecDepth 100000 in
theorem mh_2 (a : Option Addr) (c : Nat) (a2 : Option Addr) (c2 : Nat) (P B : List Int) (t v : Int) (gx : Bool) (w : World) (hS : SpIn w a c a2 c2 P B) (s : Int) (hck : CkG P B 0) (hr : RcG s false 10) :
    Calls Try.prog 10 #[.agg #[.slice a P.length c, .slice a2 B.length c2], .agg #[.int .i64 t, .int .i64 s, .bool gx, .int .i64 v]] w fun e w' => e = .returned (.bool true) ∧ Below w.heap.size w w' := by
  have hS0 := Lib.hid hS
  clear hS
  go_enter Try.func10, Try.ntmps10
  have HK := Kw.start w
  go_wp2_with fail
  replace HK := HK.box (vs := [.slice a P.length c, .slice a2 B.length c2]) (t := 25)
  replace HK := HK.box (vs := [.int .i64 t, .int .i64 s, .bool gx, .int .i64 v]) (t := 66)
  simp only [World.size_alloc] at HK
  refine (sane_c _).mono ?_
  rintro e w11 ⟨rfl, hq⟩
  replace HK := HK.below hq
  clear hq
  have z1 := HK.lt 0 rfl
  have x_0 := HK.get 0 0 rfl rfl
  have x_f0 := HK.fz 0 0 rfl
  have x_1 := HK.get 0 1 rfl rfl
  have x_f1 := HK.fz 0 1 rfl
  have x_2 := HK.get 0 2 rfl rfl
  have x_f2 := HK.fz 0 2 rfl
  have x_3 := HK.get 0 3 rfl rfl
  have x_f3 := HK.fz 0 3 rfl
  have x_s := HK.lt 0 rfl
  have p_0 := HK.get 1 0 rfl rfl
  have p_1 := HK.get 1 1 rfl rfl
  have p_s := HK.lt 1 rfl
  go_wp2_with fail
  clear x_0 x_f0 x_1 x_f1 x_2 x_f2 x_3 x_f3 x_s p_0 p_1 p_s
  replace HK := HK.put (j := 2) (v := .bool false) (by omega) (by
    intro f hf
    simp only [List.mem_cons, List.not_mem_nil, or_false] at hf
    subst hf
    dsimp only; omega)
  simp only [List.set] at HK
  refine (hck _ _ _ _ _ (hS0.out.below HK.base)).mono ?_
  rintro e w12 ⟨rfl, hq⟩
  replace HK := HK.below hq
  clear hq
  have z9 := HK.lt 0 rfl
  have x_0 := HK.get 0 0 rfl rfl
  have x_1 := HK.get 0 1 rfl rfl
  have x_2 := HK.get 0 2 rfl rfl
  have x_3 := HK.get 0 3 rfl rfl
  have x_s := HK.lt 0 rfl
  have p_0 := HK.get 1 0 rfl rfl
  have p_1 := HK.get 1 1 rfl rfl
  have p_s := HK.lt 1 rfl
  go_wp2_with fail
  clear x_0 x_1 x_2 x_3 x_s p_0 p_1 p_s
  refine (hr _).mono ?_
  rintro e w13 ⟨rfl, hq⟩
  replace HK := HK.below hq
  clear hq
  have z2 := HK.lt 0 rfl
  have x_0 := HK.get 0 0 rfl rfl
  have x_1 := HK.get 0 1 rfl rfl
  have x_2 := HK.get 0 2 rfl rfl
  have x_3 := HK.get 0 3 rfl rfl
  have x_s := HK.lt 0 rfl
  have p_0 := HK.get 1 0 rfl rfl
  have p_1 := HK.get 1 1 rfl rfl
  have p_s := HK.lt 1 rfl
  have hK := HK.base
  clear HK
  go_wp2
  go_ret
  exact ⟨rfl, hK⟩
set_option linter.unusedSimpArgs false in
set_option linter.unusedVariables false in
set_option maxHeartbeats 4000000 in
set_option maxRecDepth 100000 in
theorem mh_3 (a : Option Addr) (c : Nat) (a2 : Option Addr) (c2 : Nat) (P B : List Int) (t v : Int) (gx : Bool) (w : World) (hS : SpIn w a c a2 c2 P B) (hck : CkG P B 0) (hr : RcG 1 false 0) :
    Calls Try.prog 10 #[.agg #[.slice a P.length c, .slice a2 B.length c2], .agg #[.int .i64 t, .int .i64 1, .bool gx, .int .i64 v]] w fun e w' => e = .returned (.bool true) ∧ Below w.heap.size w w' := by
  have hS0 := Lib.hid hS
  clear hS
  go_enter Try.func10, Try.ntmps10
  have HK := Kw.start w
  go_wp2_with fail
  replace HK := HK.box (vs := [.slice a P.length c, .slice a2 B.length c2]) (t := 25)
  replace HK := HK.box (vs := [.int .i64 t, .int .i64 1, .bool gx, .int .i64 v]) (t := 66)
  simp only [World.size_alloc] at HK
  refine (sane_c _).mono ?_
  rintro e w11 ⟨rfl, hq⟩
  replace HK := HK.below hq
  clear hq
  have z1 := HK.lt 0 rfl
  have x_0 := HK.get 0 0 rfl rfl
  have x_f0 := HK.fz 0 0 rfl
  have x_1 := HK.get 0 1 rfl rfl
  have x_f1 := HK.fz 0 1 rfl
  have x_2 := HK.get 0 2 rfl rfl
  have x_f2 := HK.fz 0 2 rfl
  have x_3 := HK.get 0 3 rfl rfl
  have x_f3 := HK.fz 0 3 rfl
  have x_s := HK.lt 0 rfl
  have p_0 := HK.get 1 0 rfl rfl
  have p_1 := HK.get 1 1 rfl rfl
  have p_s := HK.lt 1 rfl
  go_wp2_with fail
  clear x_0 x_f0 x_1 x_f1 x_2 x_f2 x_3 x_f3 x_s p_0 p_1 p_s
  replace HK := HK.put (j := 2) (v := .bool false) (by omega) (by
    intro f hf
    simp only [List.mem_cons, List.not_mem_nil, or_false] at hf
    subst hf
    dsimp only; omega)
  simp only [List.set] at HK
  refine (hck _ _ _ _ _ (hS0.out.below HK.base)).mono ?_
  rintro e w12 ⟨rfl, hq⟩
  replace HK := HK.below hq
  clear hq
  have z9 := HK.lt 0 rfl
  have x_0 := HK.get 0 0 rfl rfl
  have x_1 := HK.get 0 1 rfl rfl
  have x_2 := HK.get 0 2 rfl rfl
  have x_3 := HK.get 0 3 rfl rfl
  have x_s := HK.lt 0 rfl
  have p_0 := HK.get 1 0 rfl rfl
  have p_1 := HK.get 1 1 rfl rfl
  have p_s := HK.lt 1 rfl
  go_wp2_with fail
  clear x_0 x_1 x_2 x_3 x_s p_0 p_1 p_s
  refine (hr _).mono ?_
  rintro e w13 ⟨rfl, hq⟩
  replace HK := HK.below hq
  clear hq
  have z2 := HK.lt 0 rfl
  have x_0 := HK.get 0 0 rfl rfl
  have x_1 := HK.get 0 1 rfl rfl
  have x_2 := HK.get 0 2 rfl rfl
  have x_3 := HK.get 0 3 rfl rfl
  have x_s := HK.lt 0 rfl
  have p_0 := HK.get 1 0 rfl rfl
  have p_1 := HK.get 1 1 rfl rfl
  have p_s := HK.lt 1 rfl
  have hK := HK.base
  clear HK
  go_wp2
  go_ret
  exact ⟨rfl, hK⟩
end Go.Proofs.Ytdbcbmdekdfdoaa
