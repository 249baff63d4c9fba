/- WHAT IS PROVED: the reference's Protect and Seal of layer 3. CONDITIONS: the slices' cells hold the lists. -/
import Derived.Test.YtdbcbmdekdfdoaaRo
namespace Go.Proofs.Ytdbcbmdekdfdoaa
open Go Go.RowKit Go.QrBits Go.QrMem

theorem rsp_mk2 {P P' B : List Int} {w w' : World} {a1 b1 : Option Addr} {c1 d1 b base : Nat} {v0 v1 v2 v3 v4 : Value} {o : Obj} (hP : P'.length = P.length) (ho : w'.ownsRow base 3 1 (.slice a1 P.length c1) P.length (iV P')) (hu : w'.ownsRow base 5 1 (.slice b1 B.length d1) B.length (bV B)) (hK : Below w.heap.size w w') (hb : w.heap.size ≤ b) (hb1 : b < base) :
    RSpPost P' B 0 0 0 w (.returned (.agg #[.slice a1 P.length c1, .slice b1 B.length d1, .int .i64 0, .int .i64 0, .int .i64 0])) ((((((w'.setCell ⟨b, 0, none⟩ v0).setCell ⟨b, 1, none⟩ v1).setCell ⟨b, 2, none⟩ v2).setCell ⟨b, 3, none⟩ v3).setCell ⟨b, 4, none⟩ v4).alloc o) := by
  rw [← hP] at ho ⊢
  obtain ⟨a, c, a2, c2, he, hs, hq⟩ := rsp_mk (v0 := v0) (v1 := v1) (v2 := v2) (v3 := v3) (v4 := v4) ho hu hK hb hb1
  exact ⟨a, c, a2, c2, he, hs.below (b_alloc (Below.refl _ _)), b_alloc hq⟩
set_option maxHeartbeats 4000000 in
set_option maxRecDepth 100000 in
theorem rprot_n (a : Option Addr) (c : Nat) (a2 : Option Addr) (c2 : Nat) (P B : List Int) (p q : Int) (w : World) (hs : SpIn w a c a2 c2 P B) (hc : chk P B.length = false) :
    Calls Try.prog 19 #[.agg #[.slice a P.length c, .slice a2 B.length c2], .int .i64 p, .int .i64 q] w fun e w' => e = .returned (.agg #[.slice none 0 0, .slice none 0 0, .int .i64 0, .int .i64 0, .int .i64 30]) ∧ Below w.heap.size w w' := by
  have hS0 := Lib.hid hs
  clear hs
  have HC := Lib.hid hc
  clear hc
  go_enter Try.func19, Try.ntmps19
  have HK := Kw.start w
  go_wp2_with fail
  replace HK := HK.box (vs := [.slice a P.length c, .slice a2 B.length c2]) (t := 25)
  replace HK := HK.box (vs := [.slice none 0 0, .slice none 0 0, .int .i64 0, .int .i64 0, .int .i64 0]) (t := 36)
  simp only [World.size_alloc] at HK
  refine (rspace_n _ _ _ _ _ _ _ (hS0.out.below HK.base) HC.out).mono ?_
  rintro e w1 ⟨rfl, hq⟩
  replace HK := HK.below hq
  clear hq
  have r_0 := HK.get 0 0 rfl rfl
  have r_f0 := HK.fz 0 0 rfl
  have r_1 := HK.get 0 1 rfl rfl
  have r_f1 := HK.fz 0 1 rfl
  have r_2 := HK.get 0 2 rfl rfl
  have r_f2 := HK.fz 0 2 rfl
  have r_3 := HK.get 0 3 rfl rfl
  have r_f3 := HK.fz 0 3 rfl
  have r_4 := HK.get 0 4 rfl rfl
  have r_f4 := HK.fz 0 4 rfl
  have r_s := HK.lt 0 rfl
  have p_0 := HK.get 1 0 rfl rfl
  have p_1 := HK.get 1 1 rfl rfl
  have p_s := HK.lt 1 rfl
  have hK := HK.base
  obtain ⟨g1, g2, g3, g4, g5⟩ := put5c (.slice none 0 0) (.slice none 0 0) (.int .i64 0) (.int .i64 0) (.int .i64 30) r_0 r_1 r_2 r_3 r_4
  clear HK
  go_wp2
  refine bodyPost_ret (v := .agg #[.slice none 0 0, .slice none 0 0, .int .i64 0, .int .i64 0, .int .i64 30]) (by simp [results, Try.results19, go_sem, g1, g2, g3, g4, g5]) rfl ?_
  exact ⟨rfl, ((((hK.setCell (by show _ ≤ w.heap.size + 1; omega) _).setCell (by show _ ≤ w.heap.size + 1; omega) _).setCell (by show _ ≤ w.heap.size + 1; omega) _).setCell (by show _ ≤ w.heap.size + 1; omega) _).setCell (by show _ ≤ w.heap.size + 1; omega) _⟩
set_option maxHeartbeats 4000000 in
set_option maxRecDepth 100000 in
theorem rprot_lo (a : Option Addr) (c : Nat) (a2 : Option Addr) (c2 : Nat) (P B : List Int) (p q : Int) (w : World) (hs : SpIn w a c a2 c2 P B) (hc : chk P B.length = true) (hp : p < 0) :
    Calls Try.prog 19 #[.agg #[.slice a P.length c, .slice a2 B.length c2], .int .i64 p, .int .i64 q] w fun e w' => e = .returned (.agg #[.slice none 0 0, .slice none 0 0, .int .i64 0, .int .i64 0, .int .i64 31]) ∧ Below w.heap.size w w' := by
  have hS0 := Lib.hid hs
  clear hs
  have HC := Lib.hid hc
  clear hc
  go_enter Try.func19, Try.ntmps19
  have HK := Kw.start w
  go_wp2_with fail
  replace HK := HK.box (vs := [.slice a P.length c, .slice a2 B.length c2]) (t := 25)
  replace HK := HK.box (vs := [.slice none 0 0, .slice none 0 0, .int .i64 0, .int .i64 0, .int .i64 0]) (t := 36)
  simp only [World.size_alloc] at HK
  refine (rspace_y _ _ _ _ _ _ _ (hS0.out.below HK.base) HC.out).mono ?_
  rintro e w1 ⟨rfl, hq⟩
  replace HK := HK.below hq
  clear hq
  have r_0 := HK.get 0 0 rfl rfl
  have r_f0 := HK.fz 0 0 rfl
  have r_1 := HK.get 0 1 rfl rfl
  have r_f1 := HK.fz 0 1 rfl
  have r_2 := HK.get 0 2 rfl rfl
  have r_f2 := HK.fz 0 2 rfl
  have r_3 := HK.get 0 3 rfl rfl
  have r_f3 := HK.fz 0 3 rfl
  have r_4 := HK.get 0 4 rfl rfl
  have r_f4 := HK.fz 0 4 rfl
  have r_s := HK.lt 0 rfl
  have p_0 := HK.get 1 0 rfl rfl
  have p_1 := HK.get 1 1 rfl rfl
  have p_s := HK.lt 1 rfl
  have hK := HK.base
  obtain ⟨g1, g2, g3, g4, g5⟩ := put5c (.slice none 0 0) (.slice none 0 0) (.int .i64 0) (.int .i64 0) (.int .i64 31) r_0 r_1 r_2 r_3 r_4
  clear HK
  go_wp2
  refine bodyPost_ret (v := .agg #[.slice none 0 0, .slice none 0 0, .int .i64 0, .int .i64 0, .int .i64 31]) (by simp [results, Try.results19, go_sem, g1, g2, g3, g4, g5]) rfl ?_
  exact ⟨rfl, ((((hK.setCell (by show _ ≤ w.heap.size + 1; omega) _).setCell (by show _ ≤ w.heap.size + 1; omega) _).setCell (by show _ ≤ w.heap.size + 1; omega) _).setCell (by show _ ≤ w.heap.size + 1; omega) _).setCell (by show _ ≤ w.heap.size + 1; omega) _⟩
set_option maxHeartbeats 4000000 in
set_option maxRecDepth 100000 in
theorem rprot_hi (a : Option Addr) (c : Nat) (a2 : Option Addr) (c2 : Nat) (P B : List Int) (p q : Int) (w : World) (hs : SpIn w a c a2 c2 P B) (hc : chk P B.length = true) (hp : (P.length : Int) ≤ p) :
    Calls Try.prog 19 #[.agg #[.slice a P.length c, .slice a2 B.length c2], .int .i64 p, .int .i64 q] w fun e w' => e = .returned (.agg #[.slice none 0 0, .slice none 0 0, .int .i64 0, .int .i64 0, .int .i64 31]) ∧ Below w.heap.size w w' := by
  have hS0 := Lib.hid hs
  clear hs
  have HC := Lib.hid hc
  clear hc
  have hp2 : ¬ p < 0 := by omega
  go_enter Try.func19, Try.ntmps19
  have HK := Kw.start w
  go_wp2_with fail
  replace HK := HK.box (vs := [.slice a P.length c, .slice a2 B.length c2]) (t := 25)
  replace HK := HK.box (vs := [.slice none 0 0, .slice none 0 0, .int .i64 0, .int .i64 0, .int .i64 0]) (t := 36)
  simp only [World.size_alloc] at HK
  refine (rspace_y _ _ _ _ _ _ _ (hS0.out.below HK.base) HC.out).mono ?_
  rintro e w1 ⟨rfl, hq⟩
  replace HK := HK.below hq
  clear hq
  have r_0 := HK.get 0 0 rfl rfl
  have r_f0 := HK.fz 0 0 rfl
  have r_1 := HK.get 0 1 rfl rfl
  have r_f1 := HK.fz 0 1 rfl
  have r_2 := HK.get 0 2 rfl rfl
  have r_f2 := HK.fz 0 2 rfl
  have r_3 := HK.get 0 3 rfl rfl
  have r_f3 := HK.fz 0 3 rfl
  have r_4 := HK.get 0 4 rfl rfl
  have r_f4 := HK.fz 0 4 rfl
  have r_s := HK.lt 0 rfl
  have p_0 := HK.get 1 0 rfl rfl
  have p_1 := HK.get 1 1 rfl rfl
  have p_s := HK.lt 1 rfl
  have hK := HK.base
  obtain ⟨g1, g2, g3, g4, g5⟩ := put5c (.slice none 0 0) (.slice none 0 0) (.int .i64 0) (.int .i64 0) (.int .i64 31) r_0 r_1 r_2 r_3 r_4
  clear HK
  go_wp2
  refine bodyPost_ret (v := .agg #[.slice none 0 0, .slice none 0 0, .int .i64 0, .int .i64 0, .int .i64 31]) (by simp [results, Try.results19, go_sem, g1, g2, g3, g4, g5]) rfl ?_
  exact ⟨rfl, ((((hK.setCell (by show _ ≤ w.heap.size + 1; omega) _).setCell (by show _ ≤ w.heap.size + 1; omega) _).setCell (by show _ ≤ w.heap.size + 1; omega) _).setCell (by show _ ≤ w.heap.size + 1; omega) _).setCell (by show _ ≤ w.heap.size + 1; omega) _⟩
set_option maxHeartbeats 4000000 in
set_option maxRecDepth 100000 in
theorem rprot_4 (a : Option Addr) (c : Nat) (a2 : Option Addr) (c2 : Nat) (P B : List Int) (k : Nat) (q : Int) (w : World) (hs : SpIn w a c a2 c2 P B) (hc : chk P B.length = true) (hk : k < P.length) (hx : P[k]? = some 4) :
    Calls Try.prog 19 #[.agg #[.slice a P.length c, .slice a2 B.length c2], .int .i64 (k : Int), .int .i64 q] w fun e w' => e = .returned (.agg #[.slice none 0 0, .slice none 0 0, .int .i64 0, .int .i64 0, .int .i64 31]) ∧ Below w.heap.size w w' := by
  obtain ⟨b, off, rfl⟩ := hs.shape hx
  have HX := Lib.hid hx
  clear hx
  have k0 : (0 : Int) ≤ (k : Int) := Int.natCast_nonneg _
  have k1 : (k : Int) < (P.length : Int) := by omega
  have hS0 := Lib.hid hs
  clear hs
  have HC := Lib.hid hc
  clear hc
  go_enter Try.func19, Try.ntmps19
  have HK := Kw.start w
  go_wp2_with fail
  replace HK := HK.box (vs := [.slice (some ⟨b, off, none⟩) P.length c, .slice a2 B.length c2]) (t := 25)
  replace HK := HK.box (vs := [.slice none 0 0, .slice none 0 0, .int .i64 0, .int .i64 0, .int .i64 0]) (t := 36)
  simp only [World.size_alloc] at HK
  refine (rspace_y _ _ _ _ _ _ _ (hS0.out.below HK.base) HC.out).mono ?_
  rintro e w1 ⟨rfl, hq⟩
  replace HK := HK.below hq
  clear hq
  have hcell := (hS0.out.below HK.base).cell HX.out
  have r_0 := HK.get 0 0 rfl rfl
  have r_f0 := HK.fz 0 0 rfl
  have r_1 := HK.get 0 1 rfl rfl
  have r_f1 := HK.fz 0 1 rfl
  have r_2 := HK.get 0 2 rfl rfl
  have r_f2 := HK.fz 0 2 rfl
  have r_3 := HK.get 0 3 rfl rfl
  have r_f3 := HK.fz 0 3 rfl
  have r_4 := HK.get 0 4 rfl rfl
  have r_f4 := HK.fz 0 4 rfl
  have r_s := HK.lt 0 rfl
  have p_0 := HK.get 1 0 rfl rfl
  have p_1 := HK.get 1 1 rfl rfl
  have p_s := HK.lt 1 rfl
  have hK := HK.base
  obtain ⟨g1, g2, g3, g4, g5⟩ := put5c (.slice none 0 0) (.slice none 0 0) (.int .i64 0) (.int .i64 0) (.int .i64 31) r_0 r_1 r_2 r_3 r_4
  clear HK
  go_wp2
  refine bodyPost_ret (v := .agg #[.slice none 0 0, .slice none 0 0, .int .i64 0, .int .i64 0, .int .i64 31]) (by simp [results, Try.results19, go_sem, g1, g2, g3, g4, g5]) rfl ?_
  exact ⟨rfl, ((((hK.setCell (by show _ ≤ w.heap.size + 1; omega) _).setCell (by show _ ≤ w.heap.size + 1; omega) _).setCell (by show _ ≤ w.heap.size + 1; omega) _).setCell (by show _ ≤ w.heap.size + 1; omega) _).setCell (by show _ ≤ w.heap.size + 1; omega) _⟩
set_option maxHeartbeats 4000000 in
set_option maxRecDepth 100000 in
theorem rprot_d1 (a : Option Addr) (c : Nat) (a2 : Option Addr) (c2 : Nat) (P B : List Int) (k : Nat) (x : Int) (q : Int) (w : World) (hs : SpIn w a c a2 c2 P B) (hc : chk P B.length = true) (hk : k < P.length) (hx : P[k]? = some x) (h4 : (x == 4) = false) (hq : pB q = false) :
    Calls Try.prog 19 #[.agg #[.slice a P.length c, .slice a2 B.length c2], .int .i64 (k : Int), .int .i64 q] w fun e w' => e = .returned (.agg #[.slice none 0 0, .slice none 0 0, .int .i64 0, .int .i64 0, .int .i64 31]) ∧ Below w.heap.size w w' := by
  obtain ⟨b, off, rfl⟩ := hs.shape hx
  have HX := Lib.hid hx
  clear hx
  have k0 : (0 : Int) ≤ (k : Int) := Int.natCast_nonneg _
  have k1 : (k : Int) < (P.length : Int) := by omega
  have hS0 := Lib.hid hs
  clear hs
  have HC := Lib.hid hc
  clear hc
  have HQ := Lib.hid hq
  clear hq
  go_enter Try.func19, Try.ntmps19
  have HK := Kw.start w
  go_wp2_with fail
  replace HK := HK.box (vs := [.slice (some ⟨b, off, none⟩) P.length c, .slice a2 B.length c2]) (t := 25)
  replace HK := HK.box (vs := [.slice none 0 0, .slice none 0 0, .int .i64 0, .int .i64 0, .int .i64 0]) (t := 36)
  simp only [World.size_alloc] at HK
  refine (rspace_y _ _ _ _ _ _ _ (hS0.out.below HK.base) HC.out).mono ?_
  rintro e w1 ⟨rfl, hq⟩
  replace HK := HK.below hq
  clear hq
  have hcell := (hS0.out.below HK.base).cell HX.out
  have p_0 := HK.get 1 0 rfl rfl
  have p_1 := HK.get 1 1 rfl rfl
  have p_s := HK.lt 1 rfl
  go_wp2_with fail
  clear p_0 p_1 p_s
  refine (permitted_n _ _ HQ.out).mono ?_
  rintro e w' ⟨rfl, rfl⟩
  have r_0 := HK.get 0 0 rfl rfl
  have r_f0 := HK.fz 0 0 rfl
  have r_1 := HK.get 0 1 rfl rfl
  have r_f1 := HK.fz 0 1 rfl
  have r_2 := HK.get 0 2 rfl rfl
  have r_f2 := HK.fz 0 2 rfl
  have r_3 := HK.get 0 3 rfl rfl
  have r_f3 := HK.fz 0 3 rfl
  have r_4 := HK.get 0 4 rfl rfl
  have r_f4 := HK.fz 0 4 rfl
  have r_s := HK.lt 0 rfl
  have p_0 := HK.get 1 0 rfl rfl
  have p_1 := HK.get 1 1 rfl rfl
  have p_s := HK.lt 1 rfl
  have hK := HK.base
  obtain ⟨g1, g2, g3, g4, g5⟩ := put5c (.slice none 0 0) (.slice none 0 0) (.int .i64 0) (.int .i64 0) (.int .i64 31) r_0 r_1 r_2 r_3 r_4
  clear HK
  go_wp2
  refine bodyPost_ret (v := .agg #[.slice none 0 0, .slice none 0 0, .int .i64 0, .int .i64 0, .int .i64 31]) (by simp [results, Try.results19, go_sem, g1, g2, g3, g4, g5]) rfl ?_
  exact ⟨rfl, ((((hK.setCell (by show _ ≤ w.heap.size + 1; omega) _).setCell (by show _ ≤ w.heap.size + 1; omega) _).setCell (by show _ ≤ w.heap.size + 1; omega) _).setCell (by show _ ≤ w.heap.size + 1; omega) _).setCell (by show _ ≤ w.heap.size + 1; omega) _⟩
set_option maxHeartbeats 4000000 in
set_option maxRecDepth 100000 in
theorem rprot_d2 (a : Option Addr) (c : Nat) (a2 : Option Addr) (c2 : Nat) (P B : List Int) (k : Nat) (x : Int) (w : World) (hs : SpIn w a c a2 c2 P B) (hc : chk P B.length = true) (hk : k < P.length) (hx : P[k]? = some x) (h4 : (x == 4) = false) (hq : pB 4 = true) :
    Calls Try.prog 19 #[.agg #[.slice a P.length c, .slice a2 B.length c2], .int .i64 (k : Int), .int .i64 4] w fun e w' => e = .returned (.agg #[.slice none 0 0, .slice none 0 0, .int .i64 0, .int .i64 0, .int .i64 31]) ∧ Below w.heap.size w w' := by
  obtain ⟨b, off, rfl⟩ := hs.shape hx
  have HX := Lib.hid hx
  clear hx
  have k0 : (0 : Int) ≤ (k : Int) := Int.natCast_nonneg _
  have k1 : (k : Int) < (P.length : Int) := by omega
  have hS0 := Lib.hid hs
  clear hs
  have HC := Lib.hid hc
  clear hc
  have HQ := Lib.hid hq
  clear hq
  go_enter Try.func19, Try.ntmps19
  have HK := Kw.start w
  go_wp2_with fail
  replace HK := HK.box (vs := [.slice (some ⟨b, off, none⟩) P.length c, .slice a2 B.length c2]) (t := 25)
  replace HK := HK.box (vs := [.slice none 0 0, .slice none 0 0, .int .i64 0, .int .i64 0, .int .i64 0]) (t := 36)
  simp only [World.size_alloc] at HK
  refine (rspace_y _ _ _ _ _ _ _ (hS0.out.below HK.base) HC.out).mono ?_
  rintro e w1 ⟨rfl, hq⟩
  replace HK := HK.below hq
  clear hq
  have hcell := (hS0.out.below HK.base).cell HX.out
  have p_0 := HK.get 1 0 rfl rfl
  have p_1 := HK.get 1 1 rfl rfl
  have p_s := HK.lt 1 rfl
  go_wp2_with fail
  clear p_0 p_1 p_s
  refine (permitted_y _ _ HQ.out).mono ?_
  rintro e w' ⟨rfl, rfl⟩
  have r_0 := HK.get 0 0 rfl rfl
  have r_f0 := HK.fz 0 0 rfl
  have r_1 := HK.get 0 1 rfl rfl
  have r_f1 := HK.fz 0 1 rfl
  have r_2 := HK.get 0 2 rfl rfl
  have r_f2 := HK.fz 0 2 rfl
  have r_3 := HK.get 0 3 rfl rfl
  have r_f3 := HK.fz 0 3 rfl
  have r_4 := HK.get 0 4 rfl rfl
  have r_f4 := HK.fz 0 4 rfl
  have r_s := HK.lt 0 rfl
  have p_0 := HK.get 1 0 rfl rfl
  have p_1 := HK.get 1 1 rfl rfl
  have p_s := HK.lt 1 rfl
  have hK := HK.base
  obtain ⟨g1, g2, g3, g4, g5⟩ := put5c (.slice none 0 0) (.slice none 0 0) (.int .i64 0) (.int .i64 0) (.int .i64 31) r_0 r_1 r_2 r_3 r_4
  clear HK
  go_wp2
  refine bodyPost_ret (v := .agg #[.slice none 0 0, .slice none 0 0, .int .i64 0, .int .i64 0, .int .i64 31]) (by simp [results, Try.results19, go_sem, g1, g2, g3, g4, g5]) rfl ?_
  exact ⟨rfl, ((((hK.setCell (by show _ ≤ w.heap.size + 1; omega) _).setCell (by show _ ≤ w.heap.size + 1; omega) _).setCell (by show _ ≤ w.heap.size + 1; omega) _).setCell (by show _ ≤ w.heap.size + 1; omega) _).setCell (by show _ ≤ w.heap.size + 1; omega) _⟩
theorem own_head {w : World} {base e n c : Nat} {a : Option Addr} {xs : List Value} (ho : w.ownsRow base e 1 (.slice a n c) n xs) (hn : 0 < n) : ∃ g, a = some ⟨g, 0, none⟩ ∧ base ≤ g ∧ g < w.heap.size := by
  obtain ⟨k, rfl⟩ : ∃ k, n = k + 1 := ⟨n - 1, by omega⟩
  obtain ⟨g, cap, hv, hb⟩ := own_form ho
  cases hv
  exact ⟨g, rfl, hb, (own_block ho g rfl).2⟩
set_option linter.unusedSimpArgs false in
set_option maxHeartbeats 4000000 in
set_option maxRecDepth 100000 in
theorem rprot_y (a : Option Addr) (c : Nat) (a2 : Option Addr) (c2 : Nat) (P B : List Int) (k : Nat) (x q : Int) (w : World) (hs : SpIn w a c a2 c2 P B) (hc : chk P B.length = true) (hk : k < P.length) (hx : P[k]? = some x) (h4 : (x == 4) = false) (hq4 : (q == 4) = false) (hq : pB q = true) :
    Calls Try.prog 19 #[.agg #[.slice a P.length c, .slice a2 B.length c2], .int .i64 (k : Int), .int .i64 q] w (RSpPost (P.set k q) B 0 0 0 w) := by
  obtain ⟨b, off, rfl⟩ := hs.shape hx
  have HX := Lib.hid hx
  clear hx
  have k0 : (0 : Int) ≤ (k : Int) := Int.natCast_nonneg _
  have k1 : (k : Int) < (P.length : Int) := by omega
  have hS0 := Lib.hid hs
  clear hs
  have HC := Lib.hid hc
  clear hc
  have HQ := Lib.hid hq
  clear hq
  go_enter Try.func19, Try.ntmps19
  have HK := Kw.start w
  go_wp2_with fail
  replace HK := HK.box (vs := [.slice (some ⟨b, off, none⟩) P.length c, .slice a2 B.length c2]) (t := 25)
  replace HK := HK.box (vs := [.slice none 0 0, .slice none 0 0, .int .i64 0, .int .i64 0, .int .i64 0]) (t := 36)
  simp only [World.size_alloc] at HK
  refine (rspace_y _ _ _ _ _ _ _ (hS0.out.below HK.base) HC.out).mono ?_
  rintro e w1 ⟨rfl, hq⟩
  replace HK := HK.below hq
  clear hq
  have hcell := (hS0.out.below HK.base).cell HX.out
  have p_0 := HK.get 1 0 rfl rfl
  have p_1 := HK.get 1 1 rfl rfl
  have p_s := HK.lt 1 rfl
  go_wp2_with fail
  clear p_0 p_1 p_s
  refine (permitted_y _ _ HQ.out).mono ?_
  rintro e w' ⟨rfl, rfl⟩
  have z1 := HK.lt 0 rfl
  have r_0 := HK.get 0 0 rfl rfl
  have r_f0 := HK.fz 0 0 rfl
  have r_1 := HK.get 0 1 rfl rfl
  have r_f1 := HK.fz 0 1 rfl
  have r_2 := HK.get 0 2 rfl rfl
  have r_f2 := HK.fz 0 2 rfl
  have r_3 := HK.get 0 3 rfl rfl
  have r_f3 := HK.fz 0 3 rfl
  have r_4 := HK.get 0 4 rfl rfl
  have r_f4 := HK.fz 0 4 rfl
  have r_s := HK.lt 0 rfl
  have p_0 := HK.get 1 0 rfl rfl
  have p_1 := HK.get 1 1 rfl rfl
  have p_s := HK.lt 1 rfl
  go_wp2_with fail
  clear r_0 r_f0 r_1 r_f1 r_2 r_f2 r_3 r_f3 r_4 r_f4 r_s p_0 p_1 p_s
  refine (copy_c _ _ _ _ _ _ _ (hS0.out.below HK.base) (by have := (chk_le HC.out).1; omega) (by have := (chk_le HC.out).2; omega)).mono ?_
  rintro e w2 ⟨v2, rfl, ⟨a1, c1, b1, d1, rfl, ho, hu⟩, hq⟩
  replace HK := HK.below hq
  clear hq
  obtain ⟨g, hg, hgb, hgl⟩ := own_head ho (by omega)
  subst hg
  have z2 := HK.lt 0 rfl
  have hne1 := rows_apart' ho hu (by decide) rfl
  have HO := Lib.hid ho
  have HU := Lib.hid hu
  have HNE := Lib.hid hne1
  have dg : w2.cell? ⟨g, k, none⟩ = some (.int .i64 x) := by
    rw [ho.cellAt k (by omega)]
    exact iV_get HX.out
  have df := ho.frozenAt k
  clear ho hu hne1
  have r_0 := HK.get 0 0 rfl rfl
  have r_f0 := HK.fz 0 0 rfl
  have r_1 := HK.get 0 1 rfl rfl
  have r_f1 := HK.fz 0 1 rfl
  have r_2 := HK.get 0 2 rfl rfl
  have r_f2 := HK.fz 0 2 rfl
  have r_3 := HK.get 0 3 rfl rfl
  have r_f3 := HK.fz 0 3 rfl
  have r_4 := HK.get 0 4 rfl rfl
  have r_f4 := HK.fz 0 4 rfl
  have r_s := HK.lt 0 rfl
  have hne2 : w.heap.size + 1 ≠ g := by omega
  have HK2 := HK.setOther (b := g) (j := k) (v := .int .i64 q) (by omega) (by intro f hf; simp only [List.mem_cons, List.not_mem_nil, or_false] at hf; rcases hf with rfl | rfl <;> (dsimp only; omega))
  have q_0 := HK2.get 0 0 rfl rfl
  have q_1 := HK2.get 0 1 rfl rfl
  have q_2 := HK2.get 0 2 rfl rfl
  have q_3 := HK2.get 0 3 rfl rfl
  have q_4 := HK2.get 0 4 rfl rfl
  have hK2 := HK2.base
  clear HK HK2
  go_simp
  repeat (first | go_values | go_skip | go_guarded | go_step | go_upon | (simp only [Int.not_lt, Int.not_le] at *; go_simp))
  obtain ⟨g1, g2, g3, g4, g5⟩ := put5c (.slice (some ⟨g, 0, none⟩) P.length c1) (.slice b1 B.length d1) (.int .i64 0) (.int .i64 0) (.int .i64 0) q_0 q_1 q_2 q_3 q_4
  refine bodyPost_ret (v := .agg #[.slice (some ⟨g, 0, none⟩) P.length c1, .slice b1 B.length d1, .int .i64 0, .int .i64 0, .int .i64 0]) (by simp [results, Try.results19, go_sem, g1, g2, g3, g4, g5, z2]) rfl ?_
  have e : iV (P.set k (q)) = (iV P).set k (.int .i64 (q)) := by simp [iV, List.map_set]
  have hP : (P.set k (q)).length = P.length := by simp
  refine rsp_mk2 (base := w1.heap.size) (hP := hP) ?_ ?_ hK2 (by omega) (by omega)
  · rw [e]; exact (HO.out.stored k _).1
  · exact ownsRow_set_ne HU.out HNE.out
set_option maxHeartbeats 4000000 in
set_option maxRecDepth 100000 in
theorem rseal_n (a : Option Addr) (c : Nat) (a2 : Option Addr) (c2 : Nat) (P B : List Int) (p : Int) (w : World) (hs : SpIn w a c a2 c2 P B) (hc : chk P B.length = false) :
    Calls Try.prog 20 #[.agg #[.slice a P.length c, .slice a2 B.length c2], .int .i64 p] w fun e w' => e = .returned (.agg #[.slice none 0 0, .slice none 0 0, .int .i64 0, .int .i64 0, .int .i64 30]) ∧ Below w.heap.size w w' := by
  have hS0 := Lib.hid hs
  clear hs
  have HC := Lib.hid hc
  clear hc
  go_enter Try.func20, Try.ntmps20
  have HK := Kw.start w
  go_wp2_with fail
  replace HK := HK.box (vs := [.slice a P.length c, .slice a2 B.length c2]) (t := 25)
  replace HK := HK.box (vs := [.slice none 0 0, .slice none 0 0, .int .i64 0, .int .i64 0, .int .i64 0]) (t := 36)
  simp only [World.size_alloc] at HK
  refine (rspace_n _ _ _ _ _ _ _ (hS0.out.below HK.base) HC.out).mono ?_
  rintro e w1 ⟨rfl, hq⟩
  replace HK := HK.below hq
  clear hq
  have r_0 := HK.get 0 0 rfl rfl
  have r_f0 := HK.fz 0 0 rfl
  have r_1 := HK.get 0 1 rfl rfl
  have r_f1 := HK.fz 0 1 rfl
  have r_2 := HK.get 0 2 rfl rfl
  have r_f2 := HK.fz 0 2 rfl
  have r_3 := HK.get 0 3 rfl rfl
  have r_f3 := HK.fz 0 3 rfl
  have r_4 := HK.get 0 4 rfl rfl
  have r_f4 := HK.fz 0 4 rfl
  have r_s := HK.lt 0 rfl
  have p_0 := HK.get 1 0 rfl rfl
  have p_1 := HK.get 1 1 rfl rfl
  have p_s := HK.lt 1 rfl
  have hK := HK.base
  obtain ⟨g1, g2, g3, g4, g5⟩ := put5c (.slice none 0 0) (.slice none 0 0) (.int .i64 0) (.int .i64 0) (.int .i64 30) r_0 r_1 r_2 r_3 r_4
  clear HK
  go_wp2
  refine bodyPost_ret (v := .agg #[.slice none 0 0, .slice none 0 0, .int .i64 0, .int .i64 0, .int .i64 30]) (by simp [results, Try.results20, go_sem, g1, g2, g3, g4, g5]) rfl ?_
  exact ⟨rfl, ((((hK.setCell (by show _ ≤ w.heap.size + 1; omega) _).setCell (by show _ ≤ w.heap.size + 1; omega) _).setCell (by show _ ≤ w.heap.size + 1; omega) _).setCell (by show _ ≤ w.heap.size + 1; omega) _).setCell (by show _ ≤ w.heap.size + 1; omega) _⟩
set_option maxHeartbeats 4000000 in
set_option maxRecDepth 100000 in
theorem rseal_lo (a : Option Addr) (c : Nat) (a2 : Option Addr) (c2 : Nat) (P B : List Int) (p : Int) (w : World) (hs : SpIn w a c a2 c2 P B) (hc : chk P B.length = true) (hp : p < 0) :
    Calls Try.prog 20 #[.agg #[.slice a P.length c, .slice a2 B.length c2], .int .i64 p] w fun e w' => e = .returned (.agg #[.slice none 0 0, .slice none 0 0, .int .i64 0, .int .i64 0, .int .i64 31]) ∧ Below w.heap.size w w' := by
  have hS0 := Lib.hid hs
  clear hs
  have HC := Lib.hid hc
  clear hc
  go_enter Try.func20, Try.ntmps20
  have HK := Kw.start w
  go_wp2_with fail
  replace HK := HK.box (vs := [.slice a P.length c, .slice a2 B.length c2]) (t := 25)
  replace HK := HK.box (vs := [.slice none 0 0, .slice none 0 0, .int .i64 0, .int .i64 0, .int .i64 0]) (t := 36)
  simp only [World.size_alloc] at HK
  refine (rspace_y _ _ _ _ _ _ _ (hS0.out.below HK.base) HC.out).mono ?_
  rintro e w1 ⟨rfl, hq⟩
  replace HK := HK.below hq
  clear hq
  have r_0 := HK.get 0 0 rfl rfl
  have r_f0 := HK.fz 0 0 rfl
  have r_1 := HK.get 0 1 rfl rfl
  have r_f1 := HK.fz 0 1 rfl
  have r_2 := HK.get 0 2 rfl rfl
  have r_f2 := HK.fz 0 2 rfl
  have r_3 := HK.get 0 3 rfl rfl
  have r_f3 := HK.fz 0 3 rfl
  have r_4 := HK.get 0 4 rfl rfl
  have r_f4 := HK.fz 0 4 rfl
  have r_s := HK.lt 0 rfl
  have p_0 := HK.get 1 0 rfl rfl
  have p_1 := HK.get 1 1 rfl rfl
  have p_s := HK.lt 1 rfl
  have hK := HK.base
  obtain ⟨g1, g2, g3, g4, g5⟩ := put5c (.slice none 0 0) (.slice none 0 0) (.int .i64 0) (.int .i64 0) (.int .i64 31) r_0 r_1 r_2 r_3 r_4
  clear HK
  go_wp2
  refine bodyPost_ret (v := .agg #[.slice none 0 0, .slice none 0 0, .int .i64 0, .int .i64 0, .int .i64 31]) (by simp [results, Try.results20, go_sem, g1, g2, g3, g4, g5]) rfl ?_
  exact ⟨rfl, ((((hK.setCell (by show _ ≤ w.heap.size + 1; omega) _).setCell (by show _ ≤ w.heap.size + 1; omega) _).setCell (by show _ ≤ w.heap.size + 1; omega) _).setCell (by show _ ≤ w.heap.size + 1; omega) _).setCell (by show _ ≤ w.heap.size + 1; omega) _⟩
set_option maxHeartbeats 4000000 in
set_option maxRecDepth 100000 in
theorem rseal_hi (a : Option Addr) (c : Nat) (a2 : Option Addr) (c2 : Nat) (P B : List Int) (p : Int) (w : World) (hs : SpIn w a c a2 c2 P B) (hc : chk P B.length = true) (hp : (P.length : Int) ≤ p) :
    Calls Try.prog 20 #[.agg #[.slice a P.length c, .slice a2 B.length c2], .int .i64 p] w fun e w' => e = .returned (.agg #[.slice none 0 0, .slice none 0 0, .int .i64 0, .int .i64 0, .int .i64 31]) ∧ Below w.heap.size w w' := by
  have hS0 := Lib.hid hs
  clear hs
  have HC := Lib.hid hc
  clear hc
  have hp2 : ¬ p < 0 := by omega
  go_enter Try.func20, Try.ntmps20
  have HK := Kw.start w
  go_wp2_with fail
  replace HK := HK.box (vs := [.slice a P.length c, .slice a2 B.length c2]) (t := 25)
  replace HK := HK.box (vs := [.slice none 0 0, .slice none 0 0, .int .i64 0, .int .i64 0, .int .i64 0]) (t := 36)
  simp only [World.size_alloc] at HK
  refine (rspace_y _ _ _ _ _ _ _ (hS0.out.below HK.base) HC.out).mono ?_
  rintro e w1 ⟨rfl, hq⟩
  replace HK := HK.below hq
  clear hq
  have r_0 := HK.get 0 0 rfl rfl
  have r_f0 := HK.fz 0 0 rfl
  have r_1 := HK.get 0 1 rfl rfl
  have r_f1 := HK.fz 0 1 rfl
  have r_2 := HK.get 0 2 rfl rfl
  have r_f2 := HK.fz 0 2 rfl
  have r_3 := HK.get 0 3 rfl rfl
  have r_f3 := HK.fz 0 3 rfl
  have r_4 := HK.get 0 4 rfl rfl
  have r_f4 := HK.fz 0 4 rfl
  have r_s := HK.lt 0 rfl
  have p_0 := HK.get 1 0 rfl rfl
  have p_1 := HK.get 1 1 rfl rfl
  have p_s := HK.lt 1 rfl
  have hK := HK.base
  obtain ⟨g1, g2, g3, g4, g5⟩ := put5c (.slice none 0 0) (.slice none 0 0) (.int .i64 0) (.int .i64 0) (.int .i64 31) r_0 r_1 r_2 r_3 r_4
  clear HK
  go_wp2
  refine bodyPost_ret (v := .agg #[.slice none 0 0, .slice none 0 0, .int .i64 0, .int .i64 0, .int .i64 31]) (by simp [results, Try.results20, go_sem, g1, g2, g3, g4, g5]) rfl ?_
  exact ⟨rfl, ((((hK.setCell (by show _ ≤ w.heap.size + 1; omega) _).setCell (by show _ ≤ w.heap.size + 1; omega) _).setCell (by show _ ≤ w.heap.size + 1; omega) _).setCell (by show _ ≤ w.heap.size + 1; omega) _).setCell (by show _ ≤ w.heap.size + 1; omega) _⟩
set_option linter.unusedSimpArgs false in
set_option maxHeartbeats 4000000 in
set_option maxRecDepth 100000 in
theorem rseal_y (a : Option Addr) (c : Nat) (a2 : Option Addr) (c2 : Nat) (P B : List Int) (k : Nat) (x : Int) (w : World) (hs : SpIn w a c a2 c2 P B) (hc : chk P B.length = true) (hk : k < P.length) (hx : P[k]? = some x) :
    Calls Try.prog 20 #[.agg #[.slice a P.length c, .slice a2 B.length c2], .int .i64 (k : Int)] w (RSpPost (P.set k 4) B 0 0 0 w) := by
  obtain ⟨b, off, rfl⟩ := hs.shape hx
  have HX := Lib.hid hx
  clear hx
  have k0 : (0 : Int) ≤ (k : Int) := Int.natCast_nonneg _
  have k1 : (k : Int) < (P.length : Int) := by omega
  have hS0 := Lib.hid hs
  clear hs
  have HC := Lib.hid hc
  clear hc
  go_enter Try.func20, Try.ntmps20
  have HK := Kw.start w
  go_wp2_with fail
  replace HK := HK.box (vs := [.slice (some ⟨b, off, none⟩) P.length c, .slice a2 B.length c2]) (t := 25)
  replace HK := HK.box (vs := [.slice none 0 0, .slice none 0 0, .int .i64 0, .int .i64 0, .int .i64 0]) (t := 36)
  simp only [World.size_alloc] at HK
  refine (rspace_y _ _ _ _ _ _ _ (hS0.out.below HK.base) HC.out).mono ?_
  rintro e w1 ⟨rfl, hq⟩
  replace HK := HK.below hq
  clear hq
  have z1 := HK.lt 0 rfl
  have r_0 := HK.get 0 0 rfl rfl
  have r_f0 := HK.fz 0 0 rfl
  have r_1 := HK.get 0 1 rfl rfl
  have r_f1 := HK.fz 0 1 rfl
  have r_2 := HK.get 0 2 rfl rfl
  have r_f2 := HK.fz 0 2 rfl
  have r_3 := HK.get 0 3 rfl rfl
  have r_f3 := HK.fz 0 3 rfl
  have r_4 := HK.get 0 4 rfl rfl
  have r_f4 := HK.fz 0 4 rfl
  have r_s := HK.lt 0 rfl
  have p_0 := HK.get 1 0 rfl rfl
  have p_1 := HK.get 1 1 rfl rfl
  have p_s := HK.lt 1 rfl
  go_wp2_with fail
  clear r_0 r_f0 r_1 r_f1 r_2 r_f2 r_3 r_f3 r_4 r_f4 r_s p_0 p_1 p_s
  refine (copy_c _ _ _ _ _ _ _ (hS0.out.below HK.base) (by have := (chk_le HC.out).1; omega) (by have := (chk_le HC.out).2; omega)).mono ?_
  rintro e w2 ⟨v2, rfl, ⟨a1, c1, b1, d1, rfl, ho, hu⟩, hq⟩
  replace HK := HK.below hq
  clear hq
  obtain ⟨g, hg, hgb, hgl⟩ := own_head ho (by omega)
  subst hg
  have z2 := HK.lt 0 rfl
  have hne1 := rows_apart' ho hu (by decide) rfl
  have HO := Lib.hid ho
  have HU := Lib.hid hu
  have HNE := Lib.hid hne1
  have dg : w2.cell? ⟨g, k, none⟩ = some (.int .i64 x) := by
    rw [ho.cellAt k (by omega)]
    exact iV_get HX.out
  have df := ho.frozenAt k
  clear ho hu hne1
  have r_0 := HK.get 0 0 rfl rfl
  have r_f0 := HK.fz 0 0 rfl
  have r_1 := HK.get 0 1 rfl rfl
  have r_f1 := HK.fz 0 1 rfl
  have r_2 := HK.get 0 2 rfl rfl
  have r_f2 := HK.fz 0 2 rfl
  have r_3 := HK.get 0 3 rfl rfl
  have r_f3 := HK.fz 0 3 rfl
  have r_4 := HK.get 0 4 rfl rfl
  have r_f4 := HK.fz 0 4 rfl
  have r_s := HK.lt 0 rfl
  have hne2 : w.heap.size + 1 ≠ g := by omega
  have HK2 := HK.setOther (b := g) (j := k) (v := .int .i64 4) (by omega) (by intro f hf; simp only [List.mem_cons, List.not_mem_nil, or_false] at hf; rcases hf with rfl | rfl <;> (dsimp only; omega))
  have q_0 := HK2.get 0 0 rfl rfl
  have q_1 := HK2.get 0 1 rfl rfl
  have q_2 := HK2.get 0 2 rfl rfl
  have q_3 := HK2.get 0 3 rfl rfl
  have q_4 := HK2.get 0 4 rfl rfl
  have hK2 := HK2.base
  clear HK HK2
  go_simp
  repeat (first | go_values | go_skip | go_guarded | go_step | go_upon | (simp only [Int.not_lt, Int.not_le] at *; go_simp))
  obtain ⟨g1, g2, g3, g4, g5⟩ := put5c (.slice (some ⟨g, 0, none⟩) P.length c1) (.slice b1 B.length d1) (.int .i64 0) (.int .i64 0) (.int .i64 0) q_0 q_1 q_2 q_3 q_4
  refine bodyPost_ret (v := .agg #[.slice (some ⟨g, 0, none⟩) P.length c1, .slice b1 B.length d1, .int .i64 0, .int .i64 0, .int .i64 0]) (by simp [results, Try.results20, go_sem, g1, g2, g3, g4, g5, z2]) rfl ?_
  have e : iV (P.set k (4)) = (iV P).set k (.int .i64 (4)) := by simp [iV, List.map_set]
  have hP : (P.set k (4)).length = P.length := by simp
  refine rsp_mk2 (base := w1.heap.size) (hP := hP) ?_ ?_ hK2 (by omega) (by omega)
  · rw [e]; exact (HO.out.stored k _).1
  · exact ownsRow_set_ne HU.out HNE.out
end Go.Proofs.Ytdbcbmdekdfdoaa
