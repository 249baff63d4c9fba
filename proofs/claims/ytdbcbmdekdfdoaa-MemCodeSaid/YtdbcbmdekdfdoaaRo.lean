/- WHAT IS PROVED: the reference's Store, Poke, Protect and Seal of layer 3. CONDITIONS: the slices' cells hold the lists. -/
import Derived.Test.YtdbcbmdekdfdoaaRw
import Derived.Test.YtdbcbmdekdfdoaaRt
import Derived.Test.YtdbcbmdekdfdoaaRh
import Derived.Test.YtdbcbmdekdfdoaaMf
namespace Go.Proofs.Ytdbcbmdekdfdoaa
open Go Go.RowKit Go.QrBits Go.QrMem


/-- A space (or none) is handed back in a struct, with a fault and an error. -/
def RSpPost (P B : List Int) (k x er : Int) (w : World) (e : Ending) (w' : World) : Prop :=
  ∃ (a : Option Addr) (c : Nat) (a2 : Option Addr) (c2 : Nat), e = .returned (.agg #[.slice a P.length c, .slice a2 B.length c2, .int .i64 k, .int .i64 x, .int .i64 er]) ∧ SpIn w' a c a2 c2 P B ∧ Below w.heap.size w w'
theorem spIn_nil (w : World) : SpIn w none 0 none 0 [] [] := ⟨⟨Nat.le_refl _, Nat.zero_le _, fun _ => ⟨rfl, rfl⟩⟩, ⟨Nat.le_refl _, Nat.zero_le _, fun _ => ⟨rfl, rfl⟩⟩, .inl rfl, .inl rfl⟩
theorem rsp_no {k x er : Int} {w w' : World} {e : Ending} (h : e = .returned (.agg #[.slice none 0 0, .slice none 0 0, .int .i64 k, .int .i64 x, .int .i64 er]) ∧ Below w.heap.size w w') : RSpPost [] [] k x er w e w' :=
  ⟨none, 0, none, 0, h.1, spIn_nil _, h.2⟩
theorem rsp_mk {P B : List Int} {w w' : World} {a1 b1 : Option Addr} {c1 d1 b base : Nat} {v0 v1 v2 v3 v4 : Value} (ho : w'.ownsRow base 3 1 (.slice a1 P.length c1) P.length (iV P)) (hu : w'.ownsRow base 5 1 (.slice b1 B.length d1) B.length (bV B)) (hK : Below w.heap.size w w') (hb : w.heap.size ≤ b) (hb1 : b < base) :
    RSpPost P B 0 0 0 w (.returned (.agg #[.slice a1 P.length c1, .slice b1 B.length d1, .int .i64 0, .int .i64 0, .int .i64 0])) (((((w'.setCell ⟨b, 0, none⟩ v0).setCell ⟨b, 1, none⟩ v1).setCell ⟨b, 2, none⟩ v2).setCell ⟨b, 3, none⟩ v3).setCell ⟨b, 4, none⟩ v4) :=
  ⟨a1, c1, b1, d1, rfl, spIn_own (ownsRow_setCell_below (ownsRow_setCell_below (ownsRow_setCell_below (ownsRow_setCell_below (ownsRow_setCell_below ho hb1 _) hb1 _) hb1 _) hb1 _) hb1 _) (ownsRow_setCell_below (ownsRow_setCell_below (ownsRow_setCell_below (ownsRow_setCell_below (ownsRow_setCell_below hu hb1 _) hb1 _) hb1 _) hb1 _) hb1 _),
    ((((hK.setCell hb _).setCell hb _).setCell hb _).setCell hb _).setCell hb _⟩
set_option maxHeartbeats 4000000 in
set_option maxRecDepth 100000 in
theorem rstore_n (a : Option Addr) (c : Nat) (a2 : Option Addr) (c2 : Nat) (P B : List Int) (t n x : Int) (g : Bool) (w : World) (hs : SpIn w a c a2 c2 P B) (hc : chk P B.length = false) :
    Calls Try.prog 37 #[.agg #[.slice a P.length c, .slice a2 B.length c2], .int .i64 t, .agg #[.int .i64 n, .bool g], .int .i64 x] w fun e w' => e = .returned (.agg #[.slice none 0 0, .slice none 0 0, .int .i64 0, .int .i64 0, .int .i64 30]) ∧ Below w.heap.size w w' := by
  have hS0 := Lib.hid hs
  clear hs
  have HC := Lib.hid hc
  clear hc
  go_enter Try.func37, Try.ntmps37
  have HK := Kw.start w
  go_wp2_with fail
  replace HK := HK.box (vs := [.slice a P.length c, .slice a2 B.length c2]) (t := 25)
  replace HK := HK.box (vs := [.int .i64 n, .bool g]) (t := 64)
  replace HK := HK.box (vs := [.slice none 0 0, .slice none 0 0, .int .i64 0, .int .i64 0, .int .i64 0]) (t := 36)
  simp only [World.size_alloc] at HK
  refine (rspace_n _ _ _ _ _ _ _ (hS0.out.below HK.base) HC.out).mono ?_
  rintro e w1 ⟨rfl, hq⟩
  replace HK := HK.below hq
  clear hq
  have r_0 := HK.get 0 0 rfl rfl
  have r_f0 := HK.fz 0 0 rfl
  have r_1 := HK.get 0 1 rfl rfl
  have r_f1 := HK.fz 0 1 rfl
  have r_2 := HK.get 0 2 rfl rfl
  have r_f2 := HK.fz 0 2 rfl
  have r_3 := HK.get 0 3 rfl rfl
  have r_f3 := HK.fz 0 3 rfl
  have r_4 := HK.get 0 4 rfl rfl
  have r_f4 := HK.fz 0 4 rfl
  have r_s := HK.lt 0 rfl
  have y_0 := HK.get 1 0 rfl rfl
  have y_1 := HK.get 1 1 rfl rfl
  have y_s := HK.lt 1 rfl
  have p_0 := HK.get 2 0 rfl rfl
  have p_1 := HK.get 2 1 rfl rfl
  have p_s := HK.lt 2 rfl
  have hK := HK.base
  obtain ⟨g1, g2, g3, g4, g5⟩ := put5c (.slice none 0 0) (.slice none 0 0) (.int .i64 0) (.int .i64 0) (.int .i64 30) r_0 r_1 r_2 r_3 r_4
  clear HK
  go_wp2
  refine bodyPost_ret (v := .agg #[.slice none 0 0, .slice none 0 0, .int .i64 0, .int .i64 0, .int .i64 30]) (by simp [results, Try.results37, go_sem, g1, g2, g3, g4, g5]) rfl ?_
  exact ⟨rfl, ((((hK.setCell (by show _ ≤ w.heap.size + 1 + 1; omega) _).setCell (by show _ ≤ w.heap.size + 1 + 1; omega) _).setCell (by show _ ≤ w.heap.size + 1 + 1; omega) _).setCell (by show _ ≤ w.heap.size + 1 + 1; omega) _).setCell (by show _ ≤ w.heap.size + 1 + 1; omega) _⟩
set_option maxHeartbeats 4000000 in
set_option maxRecDepth 100000 in
theorem rstore_p (a : Option Addr) (c : Nat) (a2 : Option Addr) (c2 : Nat) (P B : List Int) (t n x : Int) (g : Bool) (w : World) (hs : SpIn w a c a2 c2 P B) (hc : chk P B.length = true) (hv : vB n = false) :
    Calls Try.prog 37 #[.agg #[.slice a P.length c, .slice a2 B.length c2], .int .i64 t, .agg #[.int .i64 n, .bool g], .int .i64 x] w fun e w' => e = .returned (.agg #[.slice none 0 0, .slice none 0 0, .int .i64 0, .int .i64 0, .int .i64 10]) ∧ Below w.heap.size w w' := by
  have hS0 := Lib.hid hs
  clear hs
  have HC := Lib.hid hc
  clear hc
  have HV := Lib.hid hv
  clear hv
  go_enter Try.func37, Try.ntmps37
  have HK := Kw.start w
  go_wp2_with fail
  replace HK := HK.box (vs := [.slice a P.length c, .slice a2 B.length c2]) (t := 25)
  replace HK := HK.box (vs := [.int .i64 n, .bool g]) (t := 64)
  replace HK := HK.box (vs := [.slice none 0 0, .slice none 0 0, .int .i64 0, .int .i64 0, .int .i64 0]) (t := 36)
  simp only [World.size_alloc] at HK
  refine (rspace_y _ _ _ _ _ _ _ (hS0.out.below HK.base) HC.out).mono ?_
  rintro e w1 ⟨rfl, hq⟩
  replace HK := HK.below hq
  clear hq
  have y_0 := HK.get 1 0 rfl rfl
  have y_1 := HK.get 1 1 rfl rfl
  have y_s := HK.lt 1 rfl
  have p_0 := HK.get 2 0 rfl rfl
  have p_1 := HK.get 2 1 rfl rfl
  have p_s := HK.lt 2 rfl
  go_wp2_with fail
  clear y_0 y_1 y_s p_0 p_1 p_s
  refine (rcheck_n _ _ _ HV.out).mono ?_
  rintro e w2 ⟨rfl, hq⟩
  replace HK := HK.below hq
  clear hq
  have r_0 := HK.get 0 0 rfl rfl
  have r_f0 := HK.fz 0 0 rfl
  have r_1 := HK.get 0 1 rfl rfl
  have r_f1 := HK.fz 0 1 rfl
  have r_2 := HK.get 0 2 rfl rfl
  have r_f2 := HK.fz 0 2 rfl
  have r_3 := HK.get 0 3 rfl rfl
  have r_f3 := HK.fz 0 3 rfl
  have r_4 := HK.get 0 4 rfl rfl
  have r_f4 := HK.fz 0 4 rfl
  have r_s := HK.lt 0 rfl
  have y_0 := HK.get 1 0 rfl rfl
  have y_1 := HK.get 1 1 rfl rfl
  have y_s := HK.lt 1 rfl
  have p_0 := HK.get 2 0 rfl rfl
  have p_1 := HK.get 2 1 rfl rfl
  have p_s := HK.lt 2 rfl
  have hK := HK.base
  obtain ⟨g1, g2, g3, g4, g5⟩ := put5c (.slice none 0 0) (.slice none 0 0) (.int .i64 0) (.int .i64 0) (.int .i64 10) r_0 r_1 r_2 r_3 r_4
  clear HK
  go_wp2
  refine bodyPost_ret (v := .agg #[.slice none 0 0, .slice none 0 0, .int .i64 0, .int .i64 0, .int .i64 10]) (by simp [results, Try.results37, go_sem, g1, g2, g3, g4, g5]) rfl ?_
  exact ⟨rfl, ((((hK.setCell (by show _ ≤ w.heap.size + 1 + 1; omega) _).setCell (by show _ ≤ w.heap.size + 1 + 1; omega) _).setCell (by show _ ≤ w.heap.size + 1 + 1; omega) _).setCell (by show _ ≤ w.heap.size + 1 + 1; omega) _).setCell (by show _ ≤ w.heap.size + 1 + 1; omega) _⟩
set_option maxHeartbeats 4000000 in
set_option maxRecDepth 100000 in
theorem rstore_f (a : Option Addr) (c : Nat) (a2 : Option Addr) (c2 : Nat) (P B : List Int) (t x : Int) (n : Nat) (g : Bool) (w : World) (hs : SpIn w a c a2 c2 P B) (hc : chk P B.length = true) (hv : vB (n : Int) = true) (ht : I64 t) (hk : kN P B t 2 n < n) :
    Calls Try.prog 37 #[.agg #[.slice a P.length c, .slice a2 B.length c2], .int .i64 t, .agg #[.int .i64 (n : Int), .bool g], .int .i64 x] w fun e w' => e = .returned (.agg #[.slice none 0 0, .slice none 0 0, .int .i64 (fK P B t 2 n), .int .i64 (fX P B t 2 n), .int .i64 0]) ∧ Below w.heap.size w w' := by
  have hS0 := Lib.hid hs
  clear hs
  have HC := Lib.hid hc
  clear hc
  have HV := Lib.hid hv
  clear hv
  have HT := Lib.hid ht
  clear ht
  have hn8 := vB_le HV.out
  obtain ⟨hn0, hn8⟩ := hn8
  go_enter Try.func37, Try.ntmps37
  have HK := Kw.start w
  go_wp2_with fail
  replace HK := HK.box (vs := [.slice a P.length c, .slice a2 B.length c2]) (t := 25)
  replace HK := HK.box (vs := [.int .i64 (n : Int), .bool g]) (t := 64)
  replace HK := HK.box (vs := [.slice none 0 0, .slice none 0 0, .int .i64 0, .int .i64 0, .int .i64 0]) (t := 36)
  simp only [World.size_alloc] at HK
  refine (rspace_y _ _ _ _ _ _ _ (hS0.out.below HK.base) HC.out).mono ?_
  rintro e w1 ⟨rfl, hq⟩
  replace HK := HK.below hq
  clear hq
  have y_0 := HK.get 1 0 rfl rfl
  have y_1 := HK.get 1 1 rfl rfl
  have y_s := HK.lt 1 rfl
  have p_0 := HK.get 2 0 rfl rfl
  have p_1 := HK.get 2 1 rfl rfl
  have p_s := HK.lt 2 rfl
  go_wp2_with fail
  clear y_0 y_1 y_s p_0 p_1 p_s
  refine (rcheck_y _ _ _ HV.out).mono ?_
  rintro e w2 ⟨rfl, hq⟩
  replace HK := HK.below hq
  clear hq
  have y_0 := HK.get 1 0 rfl rfl
  have y_1 := HK.get 1 1 rfl rfl
  have y_s := HK.lt 1 rfl
  have p_0 := HK.get 2 0 rfl rfl
  have p_1 := HK.get 2 1 rfl rfl
  have p_s := HK.lt 2 rfl
  go_wp2_with fail
  clear y_0 y_1 y_s p_0 p_1 p_s
  refine (fault_c 2 (by omega) _ _ _ _ _ _ _ n _ (hS0.out.below HK.base) HC.out HT.out (by omega)).mono ?_
  rintro e w3 ⟨rfl, hq⟩
  replace HK := HK.below hq
  clear hq
  have hfk := fK_ne hk
  generalize hF : fK P B t 2 n = fk at *
  generalize hX : fX P B t 2 n = fx at *
  have HF := Lib.hid hF
  have HX := Lib.hid hX
  clear hF hX
  have HK2 := Lib.hid hk
  clear hk
  have r_0 := HK.get 0 0 rfl rfl
  have r_f0 := HK.fz 0 0 rfl
  have r_1 := HK.get 0 1 rfl rfl
  have r_f1 := HK.fz 0 1 rfl
  have r_2 := HK.get 0 2 rfl rfl
  have r_f2 := HK.fz 0 2 rfl
  have r_3 := HK.get 0 3 rfl rfl
  have r_f3 := HK.fz 0 3 rfl
  have r_4 := HK.get 0 4 rfl rfl
  have r_f4 := HK.fz 0 4 rfl
  have r_s := HK.lt 0 rfl
  have y_0 := HK.get 1 0 rfl rfl
  have y_1 := HK.get 1 1 rfl rfl
  have y_s := HK.lt 1 rfl
  have p_0 := HK.get 2 0 rfl rfl
  have p_1 := HK.get 2 1 rfl rfl
  have p_s := HK.lt 2 rfl
  have hK := HK.base
  obtain ⟨g1, g2, g3, g4, g5⟩ := put5c (.slice none 0 0) (.slice none 0 0) (.int .i64 fk) (.int .i64 fx) (.int .i64 0) r_0 r_1 r_2 r_3 r_4
  clear HK
  go_wp2
  refine bodyPost_ret (v := .agg #[.slice none 0 0, .slice none 0 0, .int .i64 fk, .int .i64 fx, .int .i64 0]) (by simp [results, Try.results37, go_sem, g1, g2, g3, g4, g5, r_s]) rfl ?_
  exact ⟨by rw [HF.out, HX.out], b_alloc (((((hK.setCell (by show _ ≤ w.heap.size + 1 + 1; omega) _).setCell (by show _ ≤ w.heap.size + 1 + 1; omega) _).setCell (by show _ ≤ w.heap.size + 1 + 1; omega) _).setCell (by show _ ≤ w.heap.size + 1 + 1; omega) _).setCell (by show _ ≤ w.heap.size + 1 + 1; omega) _)⟩
set_option maxHeartbeats 4000000 in
set_option maxRecDepth 100000 in
theorem rstore_y (a : Option Addr) (c : Nat) (a2 : Option Addr) (c2 : Nat) (P B : List Int) (t x : Int) (n : Nat) (g : Bool) (w : World) (hs : SpIn w a c a2 c2 P B) (hc : chk P B.length = true) (hv : vB (n : Int) = true) (ht : I64 t) (hx : I64 x) (hk : kN P B t 2 n = n) :
    Calls Try.prog 37 #[.agg #[.slice a P.length c, .slice a2 B.length c2], .int .i64 t, .agg #[.int .i64 (n : Int), .bool g], .int .i64 x] w (RSpPost P (wrB B t (byL n x) n) 0 0 0 w) := by
  have hS0 := Lib.hid hs
  clear hs
  have HC := Lib.hid hc
  clear hc
  have HV := Lib.hid hv
  clear hv
  have HT := Lib.hid ht
  clear ht
  have hn8 := vB_le HV.out
  obtain ⟨hn0, hn8⟩ := hn8
  have HXv := Lib.hid hx
  clear hx
  go_enter Try.func37, Try.ntmps37
  have HK := Kw.start w
  go_wp2_with fail
  replace HK := HK.box (vs := [.slice a P.length c, .slice a2 B.length c2]) (t := 25)
  replace HK := HK.box (vs := [.int .i64 (n : Int), .bool g]) (t := 64)
  replace HK := HK.box (vs := [.slice none 0 0, .slice none 0 0, .int .i64 0, .int .i64 0, .int .i64 0]) (t := 36)
  simp only [World.size_alloc] at HK
  refine (rspace_y _ _ _ _ _ _ _ (hS0.out.below HK.base) HC.out).mono ?_
  rintro e w1 ⟨rfl, hq⟩
  replace HK := HK.below hq
  clear hq
  have y_0 := HK.get 1 0 rfl rfl
  have y_1 := HK.get 1 1 rfl rfl
  have y_s := HK.lt 1 rfl
  have p_0 := HK.get 2 0 rfl rfl
  have p_1 := HK.get 2 1 rfl rfl
  have p_s := HK.lt 2 rfl
  go_wp2_with fail
  clear y_0 y_1 y_s p_0 p_1 p_s
  refine (rcheck_y _ _ _ HV.out).mono ?_
  rintro e w2 ⟨rfl, hq⟩
  replace HK := HK.below hq
  clear hq
  have y_0 := HK.get 1 0 rfl rfl
  have y_1 := HK.get 1 1 rfl rfl
  have y_s := HK.lt 1 rfl
  have p_0 := HK.get 2 0 rfl rfl
  have p_1 := HK.get 2 1 rfl rfl
  have p_s := HK.lt 2 rfl
  go_wp2_with fail
  clear y_0 y_1 y_s p_0 p_1 p_s
  refine (fault_c 2 (by omega) _ _ _ _ _ _ _ n _ (hS0.out.below HK.base) HC.out HT.out (by omega)).mono ?_
  rintro e w3 ⟨rfl, hq⟩
  replace HK := HK.below hq
  clear hq
  have hfk := fK_eq hk
  have hk0 := fK_end hk
  generalize hF : fK P B t 2 n = fk at *
  generalize hX : fX P B t 2 n = fx at *
  have HF := Lib.hid hF
  have HX := Lib.hid hX
  clear hF hX
  have HK2 := Lib.hid hk
  clear hk
  obtain ⟨hk1, hk2⟩ := hk0
  subst hk1 hk2
  have r_0 := HK.get 0 0 rfl rfl
  have r_f0 := HK.fz 0 0 rfl
  have r_1 := HK.get 0 1 rfl rfl
  have r_f1 := HK.fz 0 1 rfl
  have r_2 := HK.get 0 2 rfl rfl
  have r_f2 := HK.fz 0 2 rfl
  have r_3 := HK.get 0 3 rfl rfl
  have r_f3 := HK.fz 0 3 rfl
  have r_4 := HK.get 0 4 rfl rfl
  have r_f4 := HK.fz 0 4 rfl
  have r_s := HK.lt 0 rfl
  have y_0 := HK.get 1 0 rfl rfl
  have y_1 := HK.get 1 1 rfl rfl
  have y_s := HK.lt 1 rfl
  have p_0 := HK.get 2 0 rfl rfl
  have p_1 := HK.get 2 1 rfl rfl
  have p_s := HK.lt 2 rfl
  go_wp2_with fail
  replace HK := HK.box (vs := [.int .i64 0, .int .i64 0]) (t := 34)
  clear r_0 r_f0 r_1 r_f1 r_2 r_f2 r_3 r_f3 r_4 r_f4 r_s y_0 y_1 y_s p_0 p_1 p_s
  refine (rbytes_c n _ _ _ HV.out HXv.out).mono ?_
  rintro e w4 ⟨B0, cap0, rfl, hob, hq⟩
  replace HK := HK.below hq
  clear hq
  have z4 := HK.lt 1 rfl
  have hsb := SlAt.own hob
  have HSB := Lib.hid hsb
  clear hob hsb
  have r_0 := HK.get 1 0 rfl rfl
  have r_f0 := HK.fz 1 0 rfl
  have r_1 := HK.get 1 1 rfl rfl
  have r_f1 := HK.fz 1 1 rfl
  have r_2 := HK.get 1 2 rfl rfl
  have r_f2 := HK.fz 1 2 rfl
  have r_3 := HK.get 1 3 rfl rfl
  have r_f3 := HK.fz 1 3 rfl
  have r_4 := HK.get 1 4 rfl rfl
  have r_f4 := HK.fz 1 4 rfl
  have r_s := HK.lt 1 rfl
  have y_0 := HK.get 2 0 rfl rfl
  have y_1 := HK.get 2 1 rfl rfl
  have y_s := HK.lt 2 rfl
  have p_0 := HK.get 3 0 rfl rfl
  have p_1 := HK.get 3 1 rfl rfl
  have p_s := HK.lt 3 rfl
  go_wp2_with fail
  clear r_0 r_f0 r_1 r_f1 r_2 r_f2 r_3 r_f3 r_4 r_f4 r_s y_0 y_1 y_s p_0 p_1 p_s
  refine (with_c _ _ _ _ _ _ _ _ _ n (byL n x) _ (hS0.out.below HK.base) HSB.out (byL_len n x) (by have := (chk_le HC.out).1; omega) (by have := (chk_le HC.out).2; omega) (by omega) (in_range HK2.out (by omega)).1 (in_range HK2.out (by omega)).2).mono ?_
  rintro e w5 ⟨v5, rfl, ⟨a1, c1, b1, d1, rfl, ho, hu⟩, hq⟩
  replace HK := HK.below hq
  clear hq
  generalize hR : wrB B t (byL n x) n = R at *
  have HR := Lib.hid hR
  clear hR
  have HO := Lib.hid ho
  have HU := Lib.hid hu
  clear ho hu
  have f_0 := HK.get 0 0 rfl rfl
  have f_1 := HK.get 0 1 rfl rfl
  have f_s := HK.lt 0 rfl
  have r_0 := HK.get 1 0 rfl rfl
  have r_f0 := HK.fz 1 0 rfl
  have r_1 := HK.get 1 1 rfl rfl
  have r_f1 := HK.fz 1 1 rfl
  have r_2 := HK.get 1 2 rfl rfl
  have r_f2 := HK.fz 1 2 rfl
  have r_3 := HK.get 1 3 rfl rfl
  have r_f3 := HK.fz 1 3 rfl
  have r_4 := HK.get 1 4 rfl rfl
  have r_f4 := HK.fz 1 4 rfl
  have r_s := HK.lt 1 rfl
  have y_0 := HK.get 2 0 rfl rfl
  have y_1 := HK.get 2 1 rfl rfl
  have y_s := HK.lt 2 rfl
  have p_0 := HK.get 3 0 rfl rfl
  have p_1 := HK.get 3 1 rfl rfl
  have p_s := HK.lt 3 rfl
  have hK := HK.base
  obtain ⟨g1, g2, g3, g4, g5⟩ := put5c (.slice a1 P.length c1) (.slice b1 R.length d1) (.int .i64 0) (.int .i64 0) (.int .i64 0) r_0 r_1 r_2 r_3 r_4
  clear HK
  go_wp2
  refine bodyPost_ret (v := .agg #[.slice a1 P.length c1, .slice b1 R.length d1, .int .i64 0, .int .i64 0, .int .i64 0]) (by simp [results, Try.results37, go_sem, g1, g2, g3, g4, g5]) rfl ?_
  exact rsp_mk HO.out HU.out hK (by omega) (by omega)
set_option maxHeartbeats 4000000 in
set_option maxRecDepth 100000 in
theorem rpoke_n (a : Option Addr) (c : Nat) (a2 : Option Addr) (c2 : Nat) (P B : List Int) (t : Int) (ab : Option Addr) (nb cb : Nat) (w : World) (hs : SpIn w a c a2 c2 P B) (hc : chk P B.length = false) :
    Calls Try.prog 38 #[.agg #[.slice a P.length c, .slice a2 B.length c2], .int .i64 t, .slice ab nb cb] w fun e w' => e = .returned (.agg #[.slice none 0 0, .slice none 0 0, .int .i64 0, .int .i64 0, .int .i64 30]) ∧ Below w.heap.size w w' := by
  have hS0 := Lib.hid hs
  clear hs
  have HC := Lib.hid hc
  clear hc
  go_enter Try.func38, Try.ntmps38
  have HK := Kw.start w
  go_wp2_with fail
  replace HK := HK.box (vs := [.slice a P.length c, .slice a2 B.length c2]) (t := 25)
  replace HK := HK.box (vs := [.slice none 0 0, .slice none 0 0, .int .i64 0, .int .i64 0, .int .i64 0]) (t := 36)
  simp only [World.size_alloc] at HK
  refine (rspace_n _ _ _ _ _ _ _ (hS0.out.below HK.base) HC.out).mono ?_
  rintro e w1 ⟨rfl, hq⟩
  replace HK := HK.below hq
  clear hq
  have r_0 := HK.get 0 0 rfl rfl
  have r_f0 := HK.fz 0 0 rfl
  have r_1 := HK.get 0 1 rfl rfl
  have r_f1 := HK.fz 0 1 rfl
  have r_2 := HK.get 0 2 rfl rfl
  have r_f2 := HK.fz 0 2 rfl
  have r_3 := HK.get 0 3 rfl rfl
  have r_f3 := HK.fz 0 3 rfl
  have r_4 := HK.get 0 4 rfl rfl
  have r_f4 := HK.fz 0 4 rfl
  have r_s := HK.lt 0 rfl
  have p_0 := HK.get 1 0 rfl rfl
  have p_1 := HK.get 1 1 rfl rfl
  have p_s := HK.lt 1 rfl
  have hK := HK.base
  obtain ⟨g1, g2, g3, g4, g5⟩ := put5c (.slice none 0 0) (.slice none 0 0) (.int .i64 0) (.int .i64 0) (.int .i64 30) r_0 r_1 r_2 r_3 r_4
  clear HK
  go_wp2
  refine bodyPost_ret (v := .agg #[.slice none 0 0, .slice none 0 0, .int .i64 0, .int .i64 0, .int .i64 30]) (by simp [results, Try.results38, go_sem, g1, g2, g3, g4, g5]) rfl ?_
  exact ⟨rfl, ((((hK.setCell (by show _ ≤ w.heap.size + 1; omega) _).setCell (by show _ ≤ w.heap.size + 1; omega) _).setCell (by show _ ≤ w.heap.size + 1; omega) _).setCell (by show _ ≤ w.heap.size + 1; omega) _).setCell (by show _ ≤ w.heap.size + 1; omega) _⟩
set_option maxHeartbeats 4000000 in
set_option maxRecDepth 100000 in
theorem rpoke_l (a : Option Addr) (c : Nat) (a2 : Option Addr) (c2 : Nat) (P B : List Int) (t : Int) (ab : Option Addr) (nb cb : Nat) (w : World) (hs : SpIn w a c a2 c2 P B) (hc : chk P B.length = true) (hn : 2048 < nb) :
    Calls Try.prog 38 #[.agg #[.slice a P.length c, .slice a2 B.length c2], .int .i64 t, .slice ab nb cb] w fun e w' => e = .returned (.agg #[.slice none 0 0, .slice none 0 0, .int .i64 0, .int .i64 0, .int .i64 2]) ∧ Below w.heap.size w w' := by
  have hS0 := Lib.hid hs
  clear hs
  have HC := Lib.hid hc
  clear hc
  go_enter Try.func38, Try.ntmps38
  have HK := Kw.start w
  go_wp2_with fail
  replace HK := HK.box (vs := [.slice a P.length c, .slice a2 B.length c2]) (t := 25)
  replace HK := HK.box (vs := [.slice none 0 0, .slice none 0 0, .int .i64 0, .int .i64 0, .int .i64 0]) (t := 36)
  simp only [World.size_alloc] at HK
  refine (rspace_y _ _ _ _ _ _ _ (hS0.out.below HK.base) HC.out).mono ?_
  rintro e w1 ⟨rfl, hq⟩
  replace HK := HK.below hq
  clear hq
  have r_0 := HK.get 0 0 rfl rfl
  have r_f0 := HK.fz 0 0 rfl
  have r_1 := HK.get 0 1 rfl rfl
  have r_f1 := HK.fz 0 1 rfl
  have r_2 := HK.get 0 2 rfl rfl
  have r_f2 := HK.fz 0 2 rfl
  have r_3 := HK.get 0 3 rfl rfl
  have r_f3 := HK.fz 0 3 rfl
  have r_4 := HK.get 0 4 rfl rfl
  have r_f4 := HK.fz 0 4 rfl
  have r_s := HK.lt 0 rfl
  have p_0 := HK.get 1 0 rfl rfl
  have p_1 := HK.get 1 1 rfl rfl
  have p_s := HK.lt 1 rfl
  have hK := HK.base
  obtain ⟨g1, g2, g3, g4, g5⟩ := put5c (.slice none 0 0) (.slice none 0 0) (.int .i64 0) (.int .i64 0) (.int .i64 2) r_0 r_1 r_2 r_3 r_4
  clear HK
  go_wp2
  refine bodyPost_ret (v := .agg #[.slice none 0 0, .slice none 0 0, .int .i64 0, .int .i64 0, .int .i64 2]) (by simp [results, Try.results38, go_sem, g1, g2, g3, g4, g5]) rfl ?_
  exact ⟨rfl, ((((hK.setCell (by show _ ≤ w.heap.size + 1; omega) _).setCell (by show _ ≤ w.heap.size + 1; omega) _).setCell (by show _ ≤ w.heap.size + 1; omega) _).setCell (by show _ ≤ w.heap.size + 1; omega) _).setCell (by show _ ≤ w.heap.size + 1; omega) _⟩
set_option maxHeartbeats 4000000 in
set_option maxRecDepth 100000 in
theorem rpoke_f (a : Option Addr) (c : Nat) (a2 : Option Addr) (c2 : Nat) (P B : List Int) (t : Int) (ab : Option Addr) (nb cb : Nat) (w : World) (hs : SpIn w a c a2 c2 P B) (hc : chk P B.length = true) (hn : nb ≤ 2048) (ht : I64 t) (hk : kN P B t 0 nb < nb) :
    Calls Try.prog 38 #[.agg #[.slice a P.length c, .slice a2 B.length c2], .int .i64 t, .slice ab nb cb] w fun e w' => e = .returned (.agg #[.slice none 0 0, .slice none 0 0, .int .i64 (fK P B t 0 nb), .int .i64 (fX P B t 0 nb), .int .i64 0]) ∧ Below w.heap.size w w' := by
  have hS0 := Lib.hid hs
  clear hs
  have HC := Lib.hid hc
  clear hc
  have hn1 : ¬ (2048 < (nb : Int)) := by omega
  have HT := Lib.hid ht
  clear ht
  go_enter Try.func38, Try.ntmps38
  have HK := Kw.start w
  go_wp2_with fail
  replace HK := HK.box (vs := [.slice a P.length c, .slice a2 B.length c2]) (t := 25)
  replace HK := HK.box (vs := [.slice none 0 0, .slice none 0 0, .int .i64 0, .int .i64 0, .int .i64 0]) (t := 36)
  simp only [World.size_alloc] at HK
  refine (rspace_y _ _ _ _ _ _ _ (hS0.out.below HK.base) HC.out).mono ?_
  rintro e w1 ⟨rfl, hq⟩
  replace HK := HK.below hq
  clear hq
  have r_0 := HK.get 0 0 rfl rfl
  have r_f0 := HK.fz 0 0 rfl
  have r_1 := HK.get 0 1 rfl rfl
  have r_f1 := HK.fz 0 1 rfl
  have r_2 := HK.get 0 2 rfl rfl
  have r_f2 := HK.fz 0 2 rfl
  have r_3 := HK.get 0 3 rfl rfl
  have r_f3 := HK.fz 0 3 rfl
  have r_4 := HK.get 0 4 rfl rfl
  have r_f4 := HK.fz 0 4 rfl
  have r_s := HK.lt 0 rfl
  have p_0 := HK.get 1 0 rfl rfl
  have p_1 := HK.get 1 1 rfl rfl
  have p_s := HK.lt 1 rfl
  go_wp2_with fail
  clear r_0 r_f0 r_1 r_f1 r_2 r_f2 r_3 r_f3 r_4 r_f4 r_s p_0 p_1 p_s
  refine (fault_c 0 (by omega) _ _ _ _ _ _ _ nb _ (hS0.out.below HK.base) HC.out HT.out (by omega)).mono ?_
  rintro e w2 ⟨rfl, hq⟩
  replace HK := HK.below hq
  clear hq
  have hfk := fK_ne hk
  generalize hF : fK P B t 0 nb = fk at *
  generalize hX : fX P B t 0 nb = fx at *
  have HF := Lib.hid hF
  have HX := Lib.hid hX
  clear hF hX
  have HK2 := Lib.hid hk
  clear hk
  have r_0 := HK.get 0 0 rfl rfl
  have r_f0 := HK.fz 0 0 rfl
  have r_1 := HK.get 0 1 rfl rfl
  have r_f1 := HK.fz 0 1 rfl
  have r_2 := HK.get 0 2 rfl rfl
  have r_f2 := HK.fz 0 2 rfl
  have r_3 := HK.get 0 3 rfl rfl
  have r_f3 := HK.fz 0 3 rfl
  have r_4 := HK.get 0 4 rfl rfl
  have r_f4 := HK.fz 0 4 rfl
  have r_s := HK.lt 0 rfl
  have p_0 := HK.get 1 0 rfl rfl
  have p_1 := HK.get 1 1 rfl rfl
  have p_s := HK.lt 1 rfl
  have hK := HK.base
  obtain ⟨g1, g2, g3, g4, g5⟩ := put5c (.slice none 0 0) (.slice none 0 0) (.int .i64 fk) (.int .i64 fx) (.int .i64 0) r_0 r_1 r_2 r_3 r_4
  clear HK
  go_wp2
  refine bodyPost_ret (v := .agg #[.slice none 0 0, .slice none 0 0, .int .i64 fk, .int .i64 fx, .int .i64 0]) (by simp [results, Try.results38, go_sem, g1, g2, g3, g4, g5, r_s]) rfl ?_
  exact ⟨by rw [HF.out, HX.out], b_alloc (((((hK.setCell (by show _ ≤ w.heap.size + 1; omega) _).setCell (by show _ ≤ w.heap.size + 1; omega) _).setCell (by show _ ≤ w.heap.size + 1; omega) _).setCell (by show _ ≤ w.heap.size + 1; omega) _).setCell (by show _ ≤ w.heap.size + 1; omega) _)⟩
set_option maxHeartbeats 4000000 in
set_option maxRecDepth 100000 in
theorem rpoke_y (a : Option Addr) (c : Nat) (a2 : Option Addr) (c2 : Nat) (P B : List Int) (t : Int) (ab : Option Addr) (nb cb : Nat) (bs : List Int) (w : World) (hs : SpIn w a c a2 c2 P B) (hsb : SlAt w ab (bV bs)) (hl : bs.length = nb) (h0 : 0 < nb) (hc : chk P B.length = true) (hn : nb ≤ 2048) (ht : I64 t) (hk : kN P B t 0 nb = nb) :
    Calls Try.prog 38 #[.agg #[.slice a P.length c, .slice a2 B.length c2], .int .i64 t, .slice ab nb cb] w (RSpPost P (wrB B t bs nb) 0 0 0 w) := by
  have hS0 := Lib.hid hs
  clear hs
  have HC := Lib.hid hc
  clear hc
  have hn1 : ¬ (2048 < (nb : Int)) := by omega
  have HT := Lib.hid ht
  clear ht
  have HSB := Lib.hid hsb
  have HL := Lib.hid hl
  clear hsb hl
  go_enter Try.func38, Try.ntmps38
  have HK := Kw.start w
  go_wp2_with fail
  replace HK := HK.box (vs := [.slice a P.length c, .slice a2 B.length c2]) (t := 25)
  replace HK := HK.box (vs := [.slice none 0 0, .slice none 0 0, .int .i64 0, .int .i64 0, .int .i64 0]) (t := 36)
  simp only [World.size_alloc] at HK
  refine (rspace_y _ _ _ _ _ _ _ (hS0.out.below HK.base) HC.out).mono ?_
  rintro e w1 ⟨rfl, hq⟩
  replace HK := HK.below hq
  clear hq
  have r_0 := HK.get 0 0 rfl rfl
  have r_f0 := HK.fz 0 0 rfl
  have r_1 := HK.get 0 1 rfl rfl
  have r_f1 := HK.fz 0 1 rfl
  have r_2 := HK.get 0 2 rfl rfl
  have r_f2 := HK.fz 0 2 rfl
  have r_3 := HK.get 0 3 rfl rfl
  have r_f3 := HK.fz 0 3 rfl
  have r_4 := HK.get 0 4 rfl rfl
  have r_f4 := HK.fz 0 4 rfl
  have r_s := HK.lt 0 rfl
  have p_0 := HK.get 1 0 rfl rfl
  have p_1 := HK.get 1 1 rfl rfl
  have p_s := HK.lt 1 rfl
  go_wp2_with fail
  clear r_0 r_f0 r_1 r_f1 r_2 r_f2 r_3 r_f3 r_4 r_f4 r_s p_0 p_1 p_s
  refine (fault_c 0 (by omega) _ _ _ _ _ _ _ nb _ (hS0.out.below HK.base) HC.out HT.out (by omega)).mono ?_
  rintro e w2 ⟨rfl, hq⟩
  replace HK := HK.below hq
  clear hq
  have hfk := fK_eq hk
  have hk0 := fK_end hk
  generalize hF : fK P B t 0 nb = fk at *
  generalize hX : fX P B t 0 nb = fx at *
  have HF := Lib.hid hF
  have HX := Lib.hid hX
  clear hF hX
  have HK2 := Lib.hid hk
  clear hk
  obtain ⟨hk1, hk2⟩ := hk0
  subst hk1 hk2
  have r_0 := HK.get 0 0 rfl rfl
  have r_f0 := HK.fz 0 0 rfl
  have r_1 := HK.get 0 1 rfl rfl
  have r_f1 := HK.fz 0 1 rfl
  have r_2 := HK.get 0 2 rfl rfl
  have r_f2 := HK.fz 0 2 rfl
  have r_3 := HK.get 0 3 rfl rfl
  have r_f3 := HK.fz 0 3 rfl
  have r_4 := HK.get 0 4 rfl rfl
  have r_f4 := HK.fz 0 4 rfl
  have r_s := HK.lt 0 rfl
  have p_0 := HK.get 1 0 rfl rfl
  have p_1 := HK.get 1 1 rfl rfl
  have p_s := HK.lt 1 rfl
  go_wp2_with fail
  have z3 := HK.lt 0 rfl
  replace HK := HK.box (vs := [.int .i64 0, .int .i64 0]) (t := 34)
  clear r_0 r_f0 r_1 r_f1 r_2 r_f2 r_3 r_f3 r_4 r_f4 r_s p_0 p_1 p_s
  refine (with_c _ _ _ _ _ _ _ _ _ nb bs _ (hS0.out.below HK.base) (HSB.out.below HK.base) HL.out (by have := (chk_le HC.out).1; omega) (by have := (chk_le HC.out).2; omega) (by omega) (in_range HK2.out (by omega)).1 (in_range HK2.out (by omega)).2).mono ?_
  rintro e w3 ⟨v5, rfl, ⟨a1, c1, b1, d1, rfl, ho, hu⟩, hq⟩
  replace HK := HK.below hq
  clear hq
  generalize hR : wrB B t bs nb = R at *
  have HR := Lib.hid hR
  clear hR
  have HO := Lib.hid ho
  have HU := Lib.hid hu
  clear ho hu
  have f_0 := HK.get 0 0 rfl rfl
  have f_1 := HK.get 0 1 rfl rfl
  have f_s := HK.lt 0 rfl
  have r_0 := HK.get 1 0 rfl rfl
  have r_f0 := HK.fz 1 0 rfl
  have r_1 := HK.get 1 1 rfl rfl
  have r_f1 := HK.fz 1 1 rfl
  have r_2 := HK.get 1 2 rfl rfl
  have r_f2 := HK.fz 1 2 rfl
  have r_3 := HK.get 1 3 rfl rfl
  have r_f3 := HK.fz 1 3 rfl
  have r_4 := HK.get 1 4 rfl rfl
  have r_f4 := HK.fz 1 4 rfl
  have r_s := HK.lt 1 rfl
  have p_0 := HK.get 2 0 rfl rfl
  have p_1 := HK.get 2 1 rfl rfl
  have p_s := HK.lt 2 rfl
  have hK := HK.base
  obtain ⟨g1, g2, g3, g4, g5⟩ := put5c (.slice a1 P.length c1) (.slice b1 R.length d1) (.int .i64 0) (.int .i64 0) (.int .i64 0) r_0 r_1 r_2 r_3 r_4
  clear HK
  go_wp2
  refine bodyPost_ret (v := .agg #[.slice a1 P.length c1, .slice b1 R.length d1, .int .i64 0, .int .i64 0, .int .i64 0]) (by simp [results, Try.results38, go_sem, g1, g2, g3, g4, g5]) rfl ?_
  exact rsp_mk HO.out HU.out hK (by omega) (by simp; omega)
set_option maxHeartbeats 4000000 in
set_option maxRecDepth 100000 in
theorem rpoke_z (a : Option Addr) (c : Nat) (a2 : Option Addr) (c2 : Nat) (P B : List Int) (t : Int) (ab : Option Addr) (cb : Nat) (w : World) (hs : SpIn w a c a2 c2 P B) (hc : chk P B.length = true) (ht : I64 t) (hk : kN P B t 0 0 = 0) :
    Calls Try.prog 38 #[.agg #[.slice a P.length c, .slice a2 B.length c2], .int .i64 t, .slice ab 0 cb] w (RSpPost P B 0 0 0 w) := by
  have hS0 := Lib.hid hs
  clear hs
  have HC := Lib.hid hc
  clear hc
  have hn1 : ¬ (2048 < ((0 : Nat) : Int)) := by omega
  have HT := Lib.hid ht
  clear ht
  go_enter Try.func38, Try.ntmps38
  have HK := Kw.start w
  go_wp2_with fail
  replace HK := HK.box (vs := [.slice a P.length c, .slice a2 B.length c2]) (t := 25)
  replace HK := HK.box (vs := [.slice none 0 0, .slice none 0 0, .int .i64 0, .int .i64 0, .int .i64 0]) (t := 36)
  simp only [World.size_alloc] at HK
  refine (rspace_y _ _ _ _ _ _ _ (hS0.out.below HK.base) HC.out).mono ?_
  rintro e w1 ⟨rfl, hq⟩
  replace HK := HK.below hq
  clear hq
  have r_0 := HK.get 0 0 rfl rfl
  have r_f0 := HK.fz 0 0 rfl
  have r_1 := HK.get 0 1 rfl rfl
  have r_f1 := HK.fz 0 1 rfl
  have r_2 := HK.get 0 2 rfl rfl
  have r_f2 := HK.fz 0 2 rfl
  have r_3 := HK.get 0 3 rfl rfl
  have r_f3 := HK.fz 0 3 rfl
  have r_4 := HK.get 0 4 rfl rfl
  have r_f4 := HK.fz 0 4 rfl
  have r_s := HK.lt 0 rfl
  have p_0 := HK.get 1 0 rfl rfl
  have p_1 := HK.get 1 1 rfl rfl
  have p_s := HK.lt 1 rfl
  go_wp2_with fail
  clear r_0 r_f0 r_1 r_f1 r_2 r_f2 r_3 r_f3 r_4 r_f4 r_s p_0 p_1 p_s
  refine (fault_c 0 (by omega) _ _ _ _ _ _ _ 0 _ (hS0.out.below HK.base) HC.out HT.out (by omega)).mono ?_
  rintro e w2 ⟨rfl, hq⟩
  replace HK := HK.below hq
  clear hq
  have hfk := fK_eq hk
  have hk0 := fK_end hk
  generalize hF : fK P B t 0 0 = fk at *
  generalize hX : fX P B t 0 0 = fx at *
  have HF := Lib.hid hF
  have HX := Lib.hid hX
  clear hF hX
  have HK2 := Lib.hid hk
  clear hk
  obtain ⟨hk1, hk2⟩ := hk0
  subst hk1 hk2
  have r_0 := HK.get 0 0 rfl rfl
  have r_f0 := HK.fz 0 0 rfl
  have r_1 := HK.get 0 1 rfl rfl
  have r_f1 := HK.fz 0 1 rfl
  have r_2 := HK.get 0 2 rfl rfl
  have r_f2 := HK.fz 0 2 rfl
  have r_3 := HK.get 0 3 rfl rfl
  have r_f3 := HK.fz 0 3 rfl
  have r_4 := HK.get 0 4 rfl rfl
  have r_f4 := HK.fz 0 4 rfl
  have r_s := HK.lt 0 rfl
  have p_0 := HK.get 1 0 rfl rfl
  have p_1 := HK.get 1 1 rfl rfl
  have p_s := HK.lt 1 rfl
  go_wp2_with fail
  have z3 := HK.lt 0 rfl
  replace HK := HK.box (vs := [.int .i64 0, .int .i64 0]) (t := 34)
  clear r_0 r_f0 r_1 r_f1 r_2 r_f2 r_3 r_f3 r_4 r_f4 r_s p_0 p_1 p_s
  refine (with_z _ _ _ _ _ _ _ _ _ _ (hS0.out.below HK.base) (by have := (chk_le HC.out).1; omega) (by have := (chk_le HC.out).2; omega)).mono ?_
  rintro e w3 ⟨v5, rfl, ⟨a1, c1, b1, d1, rfl, ho, hu⟩, hq⟩
  replace HK := HK.below hq
  clear hq
  have HO := Lib.hid ho
  have HU := Lib.hid hu
  clear ho hu
  have f_0 := HK.get 0 0 rfl rfl
  have f_1 := HK.get 0 1 rfl rfl
  have f_s := HK.lt 0 rfl
  have r_0 := HK.get 1 0 rfl rfl
  have r_f0 := HK.fz 1 0 rfl
  have r_1 := HK.get 1 1 rfl rfl
  have r_f1 := HK.fz 1 1 rfl
  have r_2 := HK.get 1 2 rfl rfl
  have r_f2 := HK.fz 1 2 rfl
  have r_3 := HK.get 1 3 rfl rfl
  have r_f3 := HK.fz 1 3 rfl
  have r_4 := HK.get 1 4 rfl rfl
  have r_f4 := HK.fz 1 4 rfl
  have r_s := HK.lt 1 rfl
  have p_0 := HK.get 2 0 rfl rfl
  have p_1 := HK.get 2 1 rfl rfl
  have p_s := HK.lt 2 rfl
  have hK := HK.base
  obtain ⟨g1, g2, g3, g4, g5⟩ := put5c (.slice a1 P.length c1) (.slice b1 B.length d1) (.int .i64 0) (.int .i64 0) (.int .i64 0) r_0 r_1 r_2 r_3 r_4
  clear HK
  go_wp2
  refine bodyPost_ret (v := .agg #[.slice a1 P.length c1, .slice b1 B.length d1, .int .i64 0, .int .i64 0, .int .i64 0]) (by simp [results, Try.results38, go_sem, g1, g2, g3, g4, g5]) rfl ?_
  exact rsp_mk HO.out HU.out hK (by omega) (by simp; omega)
end Go.Proofs.Ytdbcbmdekdfdoaa
