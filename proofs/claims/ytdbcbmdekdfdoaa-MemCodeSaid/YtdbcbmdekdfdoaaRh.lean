/- WHAT IS PROVED: the reference's Access, Fetch and Peek of layer 3, for every space and part. CONDITIONS: the slices' cells hold the lists. -/
import Derived.Test.YtdbcbmdekdfdoaaRg
import Derived.Test.YtdbcbmdekdfdoaaAr
namespace Go.Proofs.Ytdbcbmdekdfdoaa
open Go Go.RowKit Go.QrBits Go.QrMem

theorem put3c {w : World} {b : Nat} {o0 o1 o2 : Value} (x0 x1 x2 : Value) (e0 : w.cell? ⟨b, 0, none⟩ = some o0) (e1 : w.cell? ⟨b, 1, none⟩ = some o1) (e2 : w.cell? ⟨b, 2, none⟩ = some o2) :
    (w.setCell ⟨b, 0, none⟩ x0).cell? ⟨b, 0, none⟩ = some x0 ∧ ((w.setCell ⟨b, 0, none⟩ x0).setCell ⟨b, 1, none⟩ x1).cell? ⟨b, 1, none⟩ = some x1 ∧ (((w.setCell ⟨b, 0, none⟩ x0).setCell ⟨b, 1, none⟩ x1).setCell ⟨b, 2, none⟩ x2).cell? ⟨b, 2, none⟩ = some x2 :=
  ⟨World.cell?_setCell_same' _ _ _ (by rw [e0]; rfl), World.cell?_setCell_same' _ _ _ (by rw [World.cell?_setCell_other _ _ _ _ (by simp), e1]; rfl), World.cell?_setCell_same' _ _ _ (by rw [World.cell?_setCell_other _ _ _ _ (by simp), World.cell?_setCell_other _ _ _ _ (by simp), e2]; rfl)⟩
theorem put4c {w : World} {b : Nat} {o0 o1 o2 o3 : Value} (x0 x1 x2 x3 : Value) (e0 : w.cell? ⟨b, 0, none⟩ = some o0) (e1 : w.cell? ⟨b, 1, none⟩ = some o1) (e2 : w.cell? ⟨b, 2, none⟩ = some o2) (e3 : w.cell? ⟨b, 3, none⟩ = some o3) :
    (w.setCell ⟨b, 0, none⟩ x0).cell? ⟨b, 0, none⟩ = some x0 ∧ ((w.setCell ⟨b, 0, none⟩ x0).setCell ⟨b, 1, none⟩ x1).cell? ⟨b, 1, none⟩ = some x1 ∧ (((w.setCell ⟨b, 0, none⟩ x0).setCell ⟨b, 1, none⟩ x1).setCell ⟨b, 2, none⟩ x2).cell? ⟨b, 2, none⟩ = some x2 ∧ ((((w.setCell ⟨b, 0, none⟩ x0).setCell ⟨b, 1, none⟩ x1).setCell ⟨b, 2, none⟩ x2).setCell ⟨b, 3, none⟩ x3).cell? ⟨b, 3, none⟩ = some x3 :=
  ⟨World.cell?_setCell_same' _ _ _ (by rw [e0]; rfl), World.cell?_setCell_same' _ _ _ (by rw [World.cell?_setCell_other _ _ _ _ (by simp), e1]; rfl), World.cell?_setCell_same' _ _ _ (by rw [World.cell?_setCell_other _ _ _ _ (by simp), World.cell?_setCell_other _ _ _ _ (by simp), e2]; rfl), World.cell?_setCell_same' _ _ _ (by rw [World.cell?_setCell_other _ _ _ _ (by simp), World.cell?_setCell_other _ _ _ _ (by simp), World.cell?_setCell_other _ _ _ _ (by simp), e3]; rfl)⟩
theorem put5c {w : World} {b : Nat} {o0 o1 o2 o3 o4 : Value} (x0 x1 x2 x3 x4 : Value) (e0 : w.cell? ⟨b, 0, none⟩ = some o0) (e1 : w.cell? ⟨b, 1, none⟩ = some o1) (e2 : w.cell? ⟨b, 2, none⟩ = some o2) (e3 : w.cell? ⟨b, 3, none⟩ = some o3) (e4 : w.cell? ⟨b, 4, none⟩ = some o4) :
    (w.setCell ⟨b, 0, none⟩ x0).cell? ⟨b, 0, none⟩ = some x0 ∧ ((w.setCell ⟨b, 0, none⟩ x0).setCell ⟨b, 1, none⟩ x1).cell? ⟨b, 1, none⟩ = some x1 ∧ (((w.setCell ⟨b, 0, none⟩ x0).setCell ⟨b, 1, none⟩ x1).setCell ⟨b, 2, none⟩ x2).cell? ⟨b, 2, none⟩ = some x2 ∧ ((((w.setCell ⟨b, 0, none⟩ x0).setCell ⟨b, 1, none⟩ x1).setCell ⟨b, 2, none⟩ x2).setCell ⟨b, 3, none⟩ x3).cell? ⟨b, 3, none⟩ = some x3 ∧ (((((w.setCell ⟨b, 0, none⟩ x0).setCell ⟨b, 1, none⟩ x1).setCell ⟨b, 2, none⟩ x2).setCell ⟨b, 3, none⟩ x3).setCell ⟨b, 4, none⟩ x4).cell? ⟨b, 4, none⟩ = some x4 :=
  ⟨World.cell?_setCell_same' _ _ _ (by rw [e0]; rfl), World.cell?_setCell_same' _ _ _ (by rw [World.cell?_setCell_other _ _ _ _ (by simp), e1]; rfl), World.cell?_setCell_same' _ _ _ (by rw [World.cell?_setCell_other _ _ _ _ (by simp), World.cell?_setCell_other _ _ _ _ (by simp), e2]; rfl), World.cell?_setCell_same' _ _ _ (by rw [World.cell?_setCell_other _ _ _ _ (by simp), World.cell?_setCell_other _ _ _ _ (by simp), World.cell?_setCell_other _ _ _ _ (by simp), e3]; rfl), World.cell?_setCell_same' _ _ _ (by rw [World.cell?_setCell_other _ _ _ _ (by simp), World.cell?_setCell_other _ _ _ _ (by simp), World.cell?_setCell_other _ _ _ _ (by simp), World.cell?_setCell_other _ _ _ _ (by simp), e4]; rfl)⟩
set_option maxHeartbeats 4000000 in
set_option maxRecDepth 100000 in
theorem racc_n (a : Option Addr) (c : Nat) (a2 : Option Addr) (c2 : Nat) (P B : List Int) (t n q : Int) (w : World) (hs : SpIn w a c a2 c2 P B) (hc : chk P B.length = false) :
    Calls Try.prog 29 #[.agg #[.slice a P.length c, .slice a2 B.length c2], .int .i64 t, .int .i64 n, .int .i64 q] w fun e w' => e = .returned (.agg #[.int .i64 0, .int .i64 0, .int .i64 30]) ∧ Below w.heap.size w w' := by
  have hS0 := Lib.hid hs
  clear hs
  have HC := Lib.hid hc
  clear hc
  go_enter Try.func29, Try.ntmps29
  have HK := Kw.start w
  go_wp2_with fail
  replace HK := HK.box (vs := [.slice a P.length c, .slice a2 B.length c2]) (t := 25)
  replace HK := HK.box (vs := [.int .i64 0, .int .i64 0, .int .i64 0]) (t := 54)
  simp only [World.size_alloc] at HK
  refine (rspace_n _ _ _ _ _ _ _ (hS0.out.below HK.base) HC.out).mono ?_
  rintro e w1 ⟨rfl, hq⟩
  replace HK := HK.below hq
  clear hq
  have r_0 := HK.get 0 0 rfl rfl
  have r_f0 := HK.fz 0 0 rfl
  have r_1 := HK.get 0 1 rfl rfl
  have r_f1 := HK.fz 0 1 rfl
  have r_2 := HK.get 0 2 rfl rfl
  have r_f2 := HK.fz 0 2 rfl
  have r_s := HK.lt 0 rfl
  have p_0 := HK.get 1 0 rfl rfl
  have p_1 := HK.get 1 1 rfl rfl
  have p_s := HK.lt 1 rfl
  have hK := HK.base
  obtain ⟨g1, g2, g3⟩ := put3c (.int .i64 0) (.int .i64 0) (.int .i64 30) r_0 r_1 r_2
  clear HK
  go_wp2
  refine bodyPost_ret (v := .agg #[.int .i64 0, .int .i64 0, .int .i64 30]) (by simp [results, Try.results29, go_sem, g1, g2, g3]) rfl ?_
  exact ⟨rfl, ((hK.setCell (by show _ ≤ w.heap.size + 1; omega) _).setCell (by show _ ≤ w.heap.size + 1; omega) _).setCell (by show _ ≤ w.heap.size + 1; omega) _⟩
set_option maxHeartbeats 4000000 in
set_option maxRecDepth 100000 in
theorem racc_lo (a : Option Addr) (c : Nat) (a2 : Option Addr) (c2 : Nat) (P B : List Int) (t n q : Int) (w : World) (hs : SpIn w a c a2 c2 P B) (hc : chk P B.length = true) (hn : n < 0) :
    Calls Try.prog 29 #[.agg #[.slice a P.length c, .slice a2 B.length c2], .int .i64 t, .int .i64 n, .int .i64 q] w fun e w' => e = .returned (.agg #[.int .i64 0, .int .i64 0, .int .i64 1]) ∧ Below w.heap.size w w' := by
  have hS0 := Lib.hid hs
  clear hs
  have HC := Lib.hid hc
  clear hc
  go_enter Try.func29, Try.ntmps29
  have HK := Kw.start w
  go_wp2_with fail
  replace HK := HK.box (vs := [.slice a P.length c, .slice a2 B.length c2]) (t := 25)
  replace HK := HK.box (vs := [.int .i64 0, .int .i64 0, .int .i64 0]) (t := 54)
  simp only [World.size_alloc] at HK
  refine (rspace_y _ _ _ _ _ _ _ (hS0.out.below HK.base) HC.out).mono ?_
  rintro e w1 ⟨rfl, hq⟩
  replace HK := HK.below hq
  clear hq
  have r_0 := HK.get 0 0 rfl rfl
  have r_f0 := HK.fz 0 0 rfl
  have r_1 := HK.get 0 1 rfl rfl
  have r_f1 := HK.fz 0 1 rfl
  have r_2 := HK.get 0 2 rfl rfl
  have r_f2 := HK.fz 0 2 rfl
  have r_s := HK.lt 0 rfl
  have p_0 := HK.get 1 0 rfl rfl
  have p_1 := HK.get 1 1 rfl rfl
  have p_s := HK.lt 1 rfl
  have hK := HK.base
  obtain ⟨g1, g2, g3⟩ := put3c (.int .i64 0) (.int .i64 0) (.int .i64 1) r_0 r_1 r_2
  clear HK
  go_wp2
  refine bodyPost_ret (v := .agg #[.int .i64 0, .int .i64 0, .int .i64 1]) (by simp [results, Try.results29, go_sem, g1, g2, g3]) rfl ?_
  exact ⟨rfl, ((hK.setCell (by show _ ≤ w.heap.size + 1; omega) _).setCell (by show _ ≤ w.heap.size + 1; omega) _).setCell (by show _ ≤ w.heap.size + 1; omega) _⟩
set_option maxHeartbeats 4000000 in
set_option maxRecDepth 100000 in
theorem racc_hi (a : Option Addr) (c : Nat) (a2 : Option Addr) (c2 : Nat) (P B : List Int) (t n q : Int) (w : World) (hs : SpIn w a c a2 c2 P B) (hc : chk P B.length = true) (hn : 2048 < n) :
    Calls Try.prog 29 #[.agg #[.slice a P.length c, .slice a2 B.length c2], .int .i64 t, .int .i64 n, .int .i64 q] w fun e w' => e = .returned (.agg #[.int .i64 0, .int .i64 0, .int .i64 1]) ∧ Below w.heap.size w w' := by
  have hS0 := Lib.hid hs
  clear hs
  have HC := Lib.hid hc
  clear hc
  have hn2 : ¬ n < 0 := by omega
  go_enter Try.func29, Try.ntmps29
  have HK := Kw.start w
  go_wp2_with fail
  replace HK := HK.box (vs := [.slice a P.length c, .slice a2 B.length c2]) (t := 25)
  replace HK := HK.box (vs := [.int .i64 0, .int .i64 0, .int .i64 0]) (t := 54)
  simp only [World.size_alloc] at HK
  refine (rspace_y _ _ _ _ _ _ _ (hS0.out.below HK.base) HC.out).mono ?_
  rintro e w1 ⟨rfl, hq⟩
  replace HK := HK.below hq
  clear hq
  have r_0 := HK.get 0 0 rfl rfl
  have r_f0 := HK.fz 0 0 rfl
  have r_1 := HK.get 0 1 rfl rfl
  have r_f1 := HK.fz 0 1 rfl
  have r_2 := HK.get 0 2 rfl rfl
  have r_f2 := HK.fz 0 2 rfl
  have r_s := HK.lt 0 rfl
  have p_0 := HK.get 1 0 rfl rfl
  have p_1 := HK.get 1 1 rfl rfl
  have p_s := HK.lt 1 rfl
  have hK := HK.base
  obtain ⟨g1, g2, g3⟩ := put3c (.int .i64 0) (.int .i64 0) (.int .i64 1) r_0 r_1 r_2
  clear HK
  go_wp2
  refine bodyPost_ret (v := .agg #[.int .i64 0, .int .i64 0, .int .i64 1]) (by simp [results, Try.results29, go_sem, g1, g2, g3]) rfl ?_
  exact ⟨rfl, ((hK.setCell (by show _ ≤ w.heap.size + 1; omega) _).setCell (by show _ ≤ w.heap.size + 1; omega) _).setCell (by show _ ≤ w.heap.size + 1; omega) _⟩
set_option maxHeartbeats 4000000 in
set_option maxRecDepth 100000 in
theorem racc_q (a : Option Addr) (c : Nat) (a2 : Option Addr) (c2 : Nat) (P B : List Int) (t : Int) (n : Nat) (q : Int) (w : World) (hs : SpIn w a c a2 c2 P B) (hc : chk P B.length = true) (hn : n ≤ 2048) (q1 : (q != 1) = true) (q2 : (q != 2) = true) (q4 : (q != 4) = true) :
    Calls Try.prog 29 #[.agg #[.slice a P.length c, .slice a2 B.length c2], .int .i64 t, .int .i64 (n : Int), .int .i64 q] w fun e w' => e = .returned (.agg #[.int .i64 0, .int .i64 0, .int .i64 1]) ∧ Below w.heap.size w w' := by
  have hS0 := Lib.hid hs
  clear hs
  have HC := Lib.hid hc
  clear hc
  have hn0 : ¬ ((n : Int) < 0) := by omega
  have hn1 : ¬ (2048 < (n : Int)) := by omega
  go_enter Try.func29, Try.ntmps29
  have HK := Kw.start w
  go_wp2_with fail
  replace HK := HK.box (vs := [.slice a P.length c, .slice a2 B.length c2]) (t := 25)
  replace HK := HK.box (vs := [.int .i64 0, .int .i64 0, .int .i64 0]) (t := 54)
  simp only [World.size_alloc] at HK
  refine (rspace_y _ _ _ _ _ _ _ (hS0.out.below HK.base) HC.out).mono ?_
  rintro e w1 ⟨rfl, hq⟩
  replace HK := HK.below hq
  clear hq
  have r_0 := HK.get 0 0 rfl rfl
  have r_f0 := HK.fz 0 0 rfl
  have r_1 := HK.get 0 1 rfl rfl
  have r_f1 := HK.fz 0 1 rfl
  have r_2 := HK.get 0 2 rfl rfl
  have r_f2 := HK.fz 0 2 rfl
  have r_s := HK.lt 0 rfl
  have p_0 := HK.get 1 0 rfl rfl
  have p_1 := HK.get 1 1 rfl rfl
  have p_s := HK.lt 1 rfl
  have hK := HK.base
  obtain ⟨g1, g2, g3⟩ := put3c (.int .i64 0) (.int .i64 0) (.int .i64 1) r_0 r_1 r_2
  clear HK
  go_wp2
  refine bodyPost_ret (v := .agg #[.int .i64 0, .int .i64 0, .int .i64 1]) (by simp [results, Try.results29, go_sem, g1, g2, g3]) rfl ?_
  exact ⟨rfl, ((hK.setCell (by show _ ≤ w.heap.size + 1; omega) _).setCell (by show _ ≤ w.heap.size + 1; omega) _).setCell (by show _ ≤ w.heap.size + 1; omega) _⟩
set_option maxHeartbeats 4000000 in
set_option maxRecDepth 100000 in
theorem racc_1 (a : Option Addr) (c : Nat) (a2 : Option Addr) (c2 : Nat) (P B : List Int) (t : Int) (n : Nat) (w : World) (hs : SpIn w a c a2 c2 P B) (hc : chk P B.length = true) (hn : n ≤ 2048) (ht : I64 t) :
    Calls Try.prog 29 #[.agg #[.slice a P.length c, .slice a2 B.length c2], .int .i64 t, .int .i64 (n : Int), .int .i64 1] w fun e w' => e = .returned (.agg #[.int .i64 (fK P B t 1 n), .int .i64 (fX P B t 1 n), .int .i64 0]) ∧ Below w.heap.size w w' := by
  have hS0 := Lib.hid hs
  clear hs
  have HC := Lib.hid hc
  clear hc
  have hn0 : ¬ ((n : Int) < 0) := by omega
  have hn1 : ¬ (2048 < (n : Int)) := by omega
  have HT := Lib.hid ht
  clear ht
  have HN := Lib.hid hn
  clear hn
  go_enter Try.func29, Try.ntmps29
  have HK := Kw.start w
  go_wp2_with fail
  replace HK := HK.box (vs := [.slice a P.length c, .slice a2 B.length c2]) (t := 25)
  replace HK := HK.box (vs := [.int .i64 0, .int .i64 0, .int .i64 0]) (t := 54)
  simp only [World.size_alloc] at HK
  refine (rspace_y _ _ _ _ _ _ _ (hS0.out.below HK.base) HC.out).mono ?_
  rintro e w1 ⟨rfl, hq⟩
  replace HK := HK.below hq
  clear hq
  have r_0 := HK.get 0 0 rfl rfl
  have r_f0 := HK.fz 0 0 rfl
  have r_1 := HK.get 0 1 rfl rfl
  have r_f1 := HK.fz 0 1 rfl
  have r_2 := HK.get 0 2 rfl rfl
  have r_f2 := HK.fz 0 2 rfl
  have r_s := HK.lt 0 rfl
  have p_0 := HK.get 1 0 rfl rfl
  have p_1 := HK.get 1 1 rfl rfl
  have p_s := HK.lt 1 rfl
  go_wp2_with fail
  clear r_0 r_f0 r_1 r_f1 r_2 r_f2 r_s p_0 p_1 p_s
  refine (fault_c 1 (by omega) _ _ _ _ _ _ _ n _ (hS0.out.below HK.base) HC.out HT.out (by have := HN.out; omega)).mono ?_
  rintro e w2 ⟨rfl, hq⟩
  replace HK := HK.below hq
  clear hq
  generalize hF : fK P B t 1 n = fk at *
  generalize hX : fX P B t 1 n = fx at *
  have HF := Lib.hid hF
  have HX := Lib.hid hX
  clear hF hX
  have r_0 := HK.get 0 0 rfl rfl
  have r_f0 := HK.fz 0 0 rfl
  have r_1 := HK.get 0 1 rfl rfl
  have r_f1 := HK.fz 0 1 rfl
  have r_2 := HK.get 0 2 rfl rfl
  have r_f2 := HK.fz 0 2 rfl
  have r_s := HK.lt 0 rfl
  have p_0 := HK.get 1 0 rfl rfl
  have p_1 := HK.get 1 1 rfl rfl
  have p_s := HK.lt 1 rfl
  have hK := HK.base
  obtain ⟨g1, g2, g3⟩ := put3c (.int .i64 fk) (.int .i64 fx) (.int .i64 0) r_0 r_1 r_2
  clear HK
  go_wp2
  refine bodyPost_ret (v := .agg #[.int .i64 fk, .int .i64 fx, .int .i64 0]) (by simp [results, Try.results29, go_sem, g1, g2, g3]) rfl ?_
  exact ⟨by rw [HF.out, HX.out], ((hK.setCell (by show _ ≤ w.heap.size + 1; omega) _).setCell (by show _ ≤ w.heap.size + 1; omega) _).setCell (by show _ ≤ w.heap.size + 1; omega) _⟩
set_option maxHeartbeats 4000000 in
set_option maxRecDepth 100000 in
theorem racc_2 (a : Option Addr) (c : Nat) (a2 : Option Addr) (c2 : Nat) (P B : List Int) (t : Int) (n : Nat) (w : World) (hs : SpIn w a c a2 c2 P B) (hc : chk P B.length = true) (hn : n ≤ 2048) (ht : I64 t) :
    Calls Try.prog 29 #[.agg #[.slice a P.length c, .slice a2 B.length c2], .int .i64 t, .int .i64 (n : Int), .int .i64 2] w fun e w' => e = .returned (.agg #[.int .i64 (fK P B t 2 n), .int .i64 (fX P B t 2 n), .int .i64 0]) ∧ Below w.heap.size w w' := by
  have hS0 := Lib.hid hs
  clear hs
  have HC := Lib.hid hc
  clear hc
  have hn0 : ¬ ((n : Int) < 0) := by omega
  have hn1 : ¬ (2048 < (n : Int)) := by omega
  have HT := Lib.hid ht
  clear ht
  have HN := Lib.hid hn
  clear hn
  go_enter Try.func29, Try.ntmps29
  have HK := Kw.start w
  go_wp2_with fail
  replace HK := HK.box (vs := [.slice a P.length c, .slice a2 B.length c2]) (t := 25)
  replace HK := HK.box (vs := [.int .i64 0, .int .i64 0, .int .i64 0]) (t := 54)
  simp only [World.size_alloc] at HK
  refine (rspace_y _ _ _ _ _ _ _ (hS0.out.below HK.base) HC.out).mono ?_
  rintro e w1 ⟨rfl, hq⟩
  replace HK := HK.below hq
  clear hq
  have r_0 := HK.get 0 0 rfl rfl
  have r_f0 := HK.fz 0 0 rfl
  have r_1 := HK.get 0 1 rfl rfl
  have r_f1 := HK.fz 0 1 rfl
  have r_2 := HK.get 0 2 rfl rfl
  have r_f2 := HK.fz 0 2 rfl
  have r_s := HK.lt 0 rfl
  have p_0 := HK.get 1 0 rfl rfl
  have p_1 := HK.get 1 1 rfl rfl
  have p_s := HK.lt 1 rfl
  go_wp2_with fail
  clear r_0 r_f0 r_1 r_f1 r_2 r_f2 r_s p_0 p_1 p_s
  refine (fault_c 2 (by omega) _ _ _ _ _ _ _ n _ (hS0.out.below HK.base) HC.out HT.out (by have := HN.out; omega)).mono ?_
  rintro e w2 ⟨rfl, hq⟩
  replace HK := HK.below hq
  clear hq
  generalize hF : fK P B t 2 n = fk at *
  generalize hX : fX P B t 2 n = fx at *
  have HF := Lib.hid hF
  have HX := Lib.hid hX
  clear hF hX
  have r_0 := HK.get 0 0 rfl rfl
  have r_f0 := HK.fz 0 0 rfl
  have r_1 := HK.get 0 1 rfl rfl
  have r_f1 := HK.fz 0 1 rfl
  have r_2 := HK.get 0 2 rfl rfl
  have r_f2 := HK.fz 0 2 rfl
  have r_s := HK.lt 0 rfl
  have p_0 := HK.get 1 0 rfl rfl
  have p_1 := HK.get 1 1 rfl rfl
  have p_s := HK.lt 1 rfl
  have hK := HK.base
  obtain ⟨g1, g2, g3⟩ := put3c (.int .i64 fk) (.int .i64 fx) (.int .i64 0) r_0 r_1 r_2
  clear HK
  go_wp2
  refine bodyPost_ret (v := .agg #[.int .i64 fk, .int .i64 fx, .int .i64 0]) (by simp [results, Try.results29, go_sem, g1, g2, g3]) rfl ?_
  exact ⟨by rw [HF.out, HX.out], ((hK.setCell (by show _ ≤ w.heap.size + 1; omega) _).setCell (by show _ ≤ w.heap.size + 1; omega) _).setCell (by show _ ≤ w.heap.size + 1; omega) _⟩
set_option maxHeartbeats 4000000 in
set_option maxRecDepth 100000 in
theorem racc_4 (a : Option Addr) (c : Nat) (a2 : Option Addr) (c2 : Nat) (P B : List Int) (t : Int) (n : Nat) (w : World) (hs : SpIn w a c a2 c2 P B) (hc : chk P B.length = true) (hn : n ≤ 2048) (ht : I64 t) :
    Calls Try.prog 29 #[.agg #[.slice a P.length c, .slice a2 B.length c2], .int .i64 t, .int .i64 (n : Int), .int .i64 4] w fun e w' => e = .returned (.agg #[.int .i64 (fK P B t 4 n), .int .i64 (fX P B t 4 n), .int .i64 0]) ∧ Below w.heap.size w w' := by
  have hS0 := Lib.hid hs
  clear hs
  have HC := Lib.hid hc
  clear hc
  have hn0 : ¬ ((n : Int) < 0) := by omega
  have hn1 : ¬ (2048 < (n : Int)) := by omega
  have HT := Lib.hid ht
  clear ht
  have HN := Lib.hid hn
  clear hn
  go_enter Try.func29, Try.ntmps29
  have HK := Kw.start w
  go_wp2_with fail
  replace HK := HK.box (vs := [.slice a P.length c, .slice a2 B.length c2]) (t := 25)
  replace HK := HK.box (vs := [.int .i64 0, .int .i64 0, .int .i64 0]) (t := 54)
  simp only [World.size_alloc] at HK
  refine (rspace_y _ _ _ _ _ _ _ (hS0.out.below HK.base) HC.out).mono ?_
  rintro e w1 ⟨rfl, hq⟩
  replace HK := HK.below hq
  clear hq
  have r_0 := HK.get 0 0 rfl rfl
  have r_f0 := HK.fz 0 0 rfl
  have r_1 := HK.get 0 1 rfl rfl
  have r_f1 := HK.fz 0 1 rfl
  have r_2 := HK.get 0 2 rfl rfl
  have r_f2 := HK.fz 0 2 rfl
  have r_s := HK.lt 0 rfl
  have p_0 := HK.get 1 0 rfl rfl
  have p_1 := HK.get 1 1 rfl rfl
  have p_s := HK.lt 1 rfl
  go_wp2_with fail
  clear r_0 r_f0 r_1 r_f1 r_2 r_f2 r_s p_0 p_1 p_s
  refine (fault_c 4 (by omega) _ _ _ _ _ _ _ n _ (hS0.out.below HK.base) HC.out HT.out (by have := HN.out; omega)).mono ?_
  rintro e w2 ⟨rfl, hq⟩
  replace HK := HK.below hq
  clear hq
  generalize hF : fK P B t 4 n = fk at *
  generalize hX : fX P B t 4 n = fx at *
  have HF := Lib.hid hF
  have HX := Lib.hid hX
  clear hF hX
  have r_0 := HK.get 0 0 rfl rfl
  have r_f0 := HK.fz 0 0 rfl
  have r_1 := HK.get 0 1 rfl rfl
  have r_f1 := HK.fz 0 1 rfl
  have r_2 := HK.get 0 2 rfl rfl
  have r_f2 := HK.fz 0 2 rfl
  have r_s := HK.lt 0 rfl
  have p_0 := HK.get 1 0 rfl rfl
  have p_1 := HK.get 1 1 rfl rfl
  have p_s := HK.lt 1 rfl
  have hK := HK.base
  obtain ⟨g1, g2, g3⟩ := put3c (.int .i64 fk) (.int .i64 fx) (.int .i64 0) r_0 r_1 r_2
  clear HK
  go_wp2
  refine bodyPost_ret (v := .agg #[.int .i64 fk, .int .i64 fx, .int .i64 0]) (by simp [results, Try.results29, go_sem, g1, g2, g3]) rfl ?_
  exact ⟨by rw [HF.out, HX.out], ((hK.setCell (by show _ ≤ w.heap.size + 1; omega) _).setCell (by show _ ≤ w.heap.size + 1; omega) _).setCell (by show _ ≤ w.heap.size + 1; omega) _⟩
set_option maxHeartbeats 4000000 in
set_option maxRecDepth 100000 in
theorem rfet_n (a : Option Addr) (c : Nat) (a2 : Option Addr) (c2 : Nat) (P B : List Int) (t n : Int) (w : World) (hs : SpIn w a c a2 c2 P B) (hc : chk P B.length = false) :
    Calls Try.prog 30 #[.agg #[.slice a P.length c, .slice a2 B.length c2], .int .i64 t, .int .i64 n] w fun e w' => e = .returned (.agg #[.slice none 0 0, .int .i64 0, .int .i64 0, .int .i64 30]) ∧ Below w.heap.size w w' := by
  have hS0 := Lib.hid hs
  clear hs
  have HC := Lib.hid hc
  clear hc
  go_enter Try.func30, Try.ntmps30
  have HK := Kw.start w
  go_wp2_with fail
  replace HK := HK.box (vs := [.slice a P.length c, .slice a2 B.length c2]) (t := 25)
  replace HK := HK.box (vs := [.slice none 0 0, .int .i64 0, .int .i64 0, .int .i64 0]) (t := 57)
  simp only [World.size_alloc] at HK
  refine (rspace_n _ _ _ _ _ _ _ (hS0.out.below HK.base) HC.out).mono ?_
  rintro e w1 ⟨rfl, hq⟩
  replace HK := HK.below hq
  clear hq
  have r_0 := HK.get 0 0 rfl rfl
  have r_f0 := HK.fz 0 0 rfl
  have r_1 := HK.get 0 1 rfl rfl
  have r_f1 := HK.fz 0 1 rfl
  have r_2 := HK.get 0 2 rfl rfl
  have r_f2 := HK.fz 0 2 rfl
  have r_3 := HK.get 0 3 rfl rfl
  have r_f3 := HK.fz 0 3 rfl
  have r_s := HK.lt 0 rfl
  have p_0 := HK.get 1 0 rfl rfl
  have p_1 := HK.get 1 1 rfl rfl
  have p_s := HK.lt 1 rfl
  have hK := HK.base
  obtain ⟨g1, g2, g3, g4⟩ := put4c (.slice none 0 0) (.int .i64 0) (.int .i64 0) (.int .i64 30) r_0 r_1 r_2 r_3
  clear HK
  go_wp2
  refine bodyPost_ret (v := .agg #[.slice none 0 0, .int .i64 0, .int .i64 0, .int .i64 30]) (by simp [results, Try.results30, go_sem, g1, g2, g3, g4]) rfl ?_
  exact ⟨rfl, (((hK.setCell (by show _ ≤ w.heap.size + 1; omega) _).setCell (by show _ ≤ w.heap.size + 1; omega) _).setCell (by show _ ≤ w.heap.size + 1; omega) _).setCell (by show _ ≤ w.heap.size + 1; omega) _⟩
set_option maxHeartbeats 4000000 in
set_option maxRecDepth 100000 in
theorem rfet_lo (a : Option Addr) (c : Nat) (a2 : Option Addr) (c2 : Nat) (P B : List Int) (t n : Int) (w : World) (hs : SpIn w a c a2 c2 P B) (hc : chk P B.length = true) (hn : n < 0) :
    Calls Try.prog 30 #[.agg #[.slice a P.length c, .slice a2 B.length c2], .int .i64 t, .int .i64 n] w fun e w' => e = .returned (.agg #[.slice none 0 0, .int .i64 0, .int .i64 0, .int .i64 1]) ∧ Below w.heap.size w w' := by
  have hS0 := Lib.hid hs
  clear hs
  have HC := Lib.hid hc
  clear hc
  go_enter Try.func30, Try.ntmps30
  have HK := Kw.start w
  go_wp2_with fail
  replace HK := HK.box (vs := [.slice a P.length c, .slice a2 B.length c2]) (t := 25)
  replace HK := HK.box (vs := [.slice none 0 0, .int .i64 0, .int .i64 0, .int .i64 0]) (t := 57)
  simp only [World.size_alloc] at HK
  refine (rspace_y _ _ _ _ _ _ _ (hS0.out.below HK.base) HC.out).mono ?_
  rintro e w1 ⟨rfl, hq⟩
  replace HK := HK.below hq
  clear hq
  have r_0 := HK.get 0 0 rfl rfl
  have r_f0 := HK.fz 0 0 rfl
  have r_1 := HK.get 0 1 rfl rfl
  have r_f1 := HK.fz 0 1 rfl
  have r_2 := HK.get 0 2 rfl rfl
  have r_f2 := HK.fz 0 2 rfl
  have r_3 := HK.get 0 3 rfl rfl
  have r_f3 := HK.fz 0 3 rfl
  have r_s := HK.lt 0 rfl
  have p_0 := HK.get 1 0 rfl rfl
  have p_1 := HK.get 1 1 rfl rfl
  have p_s := HK.lt 1 rfl
  have hK := HK.base
  obtain ⟨g1, g2, g3, g4⟩ := put4c (.slice none 0 0) (.int .i64 0) (.int .i64 0) (.int .i64 1) r_0 r_1 r_2 r_3
  clear HK
  go_wp2
  refine bodyPost_ret (v := .agg #[.slice none 0 0, .int .i64 0, .int .i64 0, .int .i64 1]) (by simp [results, Try.results30, go_sem, g1, g2, g3, g4]) rfl ?_
  exact ⟨rfl, (((hK.setCell (by show _ ≤ w.heap.size + 1; omega) _).setCell (by show _ ≤ w.heap.size + 1; omega) _).setCell (by show _ ≤ w.heap.size + 1; omega) _).setCell (by show _ ≤ w.heap.size + 1; omega) _⟩
set_option maxHeartbeats 4000000 in
set_option maxRecDepth 100000 in
theorem rfet_hi (a : Option Addr) (c : Nat) (a2 : Option Addr) (c2 : Nat) (P B : List Int) (t n : Int) (w : World) (hs : SpIn w a c a2 c2 P B) (hc : chk P B.length = true) (hn : 2048 < n) :
    Calls Try.prog 30 #[.agg #[.slice a P.length c, .slice a2 B.length c2], .int .i64 t, .int .i64 n] w fun e w' => e = .returned (.agg #[.slice none 0 0, .int .i64 0, .int .i64 0, .int .i64 1]) ∧ Below w.heap.size w w' := by
  have hS0 := Lib.hid hs
  clear hs
  have HC := Lib.hid hc
  clear hc
  have hn2 : ¬ n < 0 := by omega
  go_enter Try.func30, Try.ntmps30
  have HK := Kw.start w
  go_wp2_with fail
  replace HK := HK.box (vs := [.slice a P.length c, .slice a2 B.length c2]) (t := 25)
  replace HK := HK.box (vs := [.slice none 0 0, .int .i64 0, .int .i64 0, .int .i64 0]) (t := 57)
  simp only [World.size_alloc] at HK
  refine (rspace_y _ _ _ _ _ _ _ (hS0.out.below HK.base) HC.out).mono ?_
  rintro e w1 ⟨rfl, hq⟩
  replace HK := HK.below hq
  clear hq
  have r_0 := HK.get 0 0 rfl rfl
  have r_f0 := HK.fz 0 0 rfl
  have r_1 := HK.get 0 1 rfl rfl
  have r_f1 := HK.fz 0 1 rfl
  have r_2 := HK.get 0 2 rfl rfl
  have r_f2 := HK.fz 0 2 rfl
  have r_3 := HK.get 0 3 rfl rfl
  have r_f3 := HK.fz 0 3 rfl
  have r_s := HK.lt 0 rfl
  have p_0 := HK.get 1 0 rfl rfl
  have p_1 := HK.get 1 1 rfl rfl
  have p_s := HK.lt 1 rfl
  have hK := HK.base
  obtain ⟨g1, g2, g3, g4⟩ := put4c (.slice none 0 0) (.int .i64 0) (.int .i64 0) (.int .i64 1) r_0 r_1 r_2 r_3
  clear HK
  go_wp2
  refine bodyPost_ret (v := .agg #[.slice none 0 0, .int .i64 0, .int .i64 0, .int .i64 1]) (by simp [results, Try.results30, go_sem, g1, g2, g3, g4]) rfl ?_
  exact ⟨rfl, (((hK.setCell (by show _ ≤ w.heap.size + 1; omega) _).setCell (by show _ ≤ w.heap.size + 1; omega) _).setCell (by show _ ≤ w.heap.size + 1; omega) _).setCell (by show _ ≤ w.heap.size + 1; omega) _⟩
set_option maxHeartbeats 4000000 in
set_option maxRecDepth 100000 in
theorem rpek_n (a : Option Addr) (c : Nat) (a2 : Option Addr) (c2 : Nat) (P B : List Int) (t n : Int) (w : World) (hs : SpIn w a c a2 c2 P B) (hc : chk P B.length = false) :
    Calls Try.prog 31 #[.agg #[.slice a P.length c, .slice a2 B.length c2], .int .i64 t, .int .i64 n] w fun e w' => e = .returned (.agg #[.slice none 0 0, .int .i64 0, .int .i64 0, .int .i64 30]) ∧ Below w.heap.size w w' := by
  have hS0 := Lib.hid hs
  clear hs
  have HC := Lib.hid hc
  clear hc
  go_enter Try.func31, Try.ntmps31
  have HK := Kw.start w
  go_wp2_with fail
  replace HK := HK.box (vs := [.slice a P.length c, .slice a2 B.length c2]) (t := 25)
  replace HK := HK.box (vs := [.slice none 0 0, .int .i64 0, .int .i64 0, .int .i64 0]) (t := 57)
  simp only [World.size_alloc] at HK
  refine (rspace_n _ _ _ _ _ _ _ (hS0.out.below HK.base) HC.out).mono ?_
  rintro e w1 ⟨rfl, hq⟩
  replace HK := HK.below hq
  clear hq
  have r_0 := HK.get 0 0 rfl rfl
  have r_f0 := HK.fz 0 0 rfl
  have r_1 := HK.get 0 1 rfl rfl
  have r_f1 := HK.fz 0 1 rfl
  have r_2 := HK.get 0 2 rfl rfl
  have r_f2 := HK.fz 0 2 rfl
  have r_3 := HK.get 0 3 rfl rfl
  have r_f3 := HK.fz 0 3 rfl
  have r_s := HK.lt 0 rfl
  have p_0 := HK.get 1 0 rfl rfl
  have p_1 := HK.get 1 1 rfl rfl
  have p_s := HK.lt 1 rfl
  have hK := HK.base
  obtain ⟨g1, g2, g3, g4⟩ := put4c (.slice none 0 0) (.int .i64 0) (.int .i64 0) (.int .i64 30) r_0 r_1 r_2 r_3
  clear HK
  go_wp2
  refine bodyPost_ret (v := .agg #[.slice none 0 0, .int .i64 0, .int .i64 0, .int .i64 30]) (by simp [results, Try.results31, go_sem, g1, g2, g3, g4]) rfl ?_
  exact ⟨rfl, (((hK.setCell (by show _ ≤ w.heap.size + 1; omega) _).setCell (by show _ ≤ w.heap.size + 1; omega) _).setCell (by show _ ≤ w.heap.size + 1; omega) _).setCell (by show _ ≤ w.heap.size + 1; omega) _⟩
set_option maxHeartbeats 4000000 in
set_option maxRecDepth 100000 in
theorem rpek_lo (a : Option Addr) (c : Nat) (a2 : Option Addr) (c2 : Nat) (P B : List Int) (t n : Int) (w : World) (hs : SpIn w a c a2 c2 P B) (hc : chk P B.length = true) (hn : n < 0) :
    Calls Try.prog 31 #[.agg #[.slice a P.length c, .slice a2 B.length c2], .int .i64 t, .int .i64 n] w fun e w' => e = .returned (.agg #[.slice none 0 0, .int .i64 0, .int .i64 0, .int .i64 1]) ∧ Below w.heap.size w w' := by
  have hS0 := Lib.hid hs
  clear hs
  have HC := Lib.hid hc
  clear hc
  go_enter Try.func31, Try.ntmps31
  have HK := Kw.start w
  go_wp2_with fail
  replace HK := HK.box (vs := [.slice a P.length c, .slice a2 B.length c2]) (t := 25)
  replace HK := HK.box (vs := [.slice none 0 0, .int .i64 0, .int .i64 0, .int .i64 0]) (t := 57)
  simp only [World.size_alloc] at HK
  refine (rspace_y _ _ _ _ _ _ _ (hS0.out.below HK.base) HC.out).mono ?_
  rintro e w1 ⟨rfl, hq⟩
  replace HK := HK.below hq
  clear hq
  have r_0 := HK.get 0 0 rfl rfl
  have r_f0 := HK.fz 0 0 rfl
  have r_1 := HK.get 0 1 rfl rfl
  have r_f1 := HK.fz 0 1 rfl
  have r_2 := HK.get 0 2 rfl rfl
  have r_f2 := HK.fz 0 2 rfl
  have r_3 := HK.get 0 3 rfl rfl
  have r_f3 := HK.fz 0 3 rfl
  have r_s := HK.lt 0 rfl
  have p_0 := HK.get 1 0 rfl rfl
  have p_1 := HK.get 1 1 rfl rfl
  have p_s := HK.lt 1 rfl
  have hK := HK.base
  obtain ⟨g1, g2, g3, g4⟩ := put4c (.slice none 0 0) (.int .i64 0) (.int .i64 0) (.int .i64 1) r_0 r_1 r_2 r_3
  clear HK
  go_wp2
  refine bodyPost_ret (v := .agg #[.slice none 0 0, .int .i64 0, .int .i64 0, .int .i64 1]) (by simp [results, Try.results31, go_sem, g1, g2, g3, g4]) rfl ?_
  exact ⟨rfl, (((hK.setCell (by show _ ≤ w.heap.size + 1; omega) _).setCell (by show _ ≤ w.heap.size + 1; omega) _).setCell (by show _ ≤ w.heap.size + 1; omega) _).setCell (by show _ ≤ w.heap.size + 1; omega) _⟩
set_option maxHeartbeats 4000000 in
set_option maxRecDepth 100000 in
theorem rpek_hi (a : Option Addr) (c : Nat) (a2 : Option Addr) (c2 : Nat) (P B : List Int) (t n : Int) (w : World) (hs : SpIn w a c a2 c2 P B) (hc : chk P B.length = true) (hn : 2048 < n) :
    Calls Try.prog 31 #[.agg #[.slice a P.length c, .slice a2 B.length c2], .int .i64 t, .int .i64 n] w fun e w' => e = .returned (.agg #[.slice none 0 0, .int .i64 0, .int .i64 0, .int .i64 1]) ∧ Below w.heap.size w w' := by
  have hS0 := Lib.hid hs
  clear hs
  have HC := Lib.hid hc
  clear hc
  have hn2 : ¬ n < 0 := by omega
  go_enter Try.func31, Try.ntmps31
  have HK := Kw.start w
  go_wp2_with fail
  replace HK := HK.box (vs := [.slice a P.length c, .slice a2 B.length c2]) (t := 25)
  replace HK := HK.box (vs := [.slice none 0 0, .int .i64 0, .int .i64 0, .int .i64 0]) (t := 57)
  simp only [World.size_alloc] at HK
  refine (rspace_y _ _ _ _ _ _ _ (hS0.out.below HK.base) HC.out).mono ?_
  rintro e w1 ⟨rfl, hq⟩
  replace HK := HK.below hq
  clear hq
  have r_0 := HK.get 0 0 rfl rfl
  have r_f0 := HK.fz 0 0 rfl
  have r_1 := HK.get 0 1 rfl rfl
  have r_f1 := HK.fz 0 1 rfl
  have r_2 := HK.get 0 2 rfl rfl
  have r_f2 := HK.fz 0 2 rfl
  have r_3 := HK.get 0 3 rfl rfl
  have r_f3 := HK.fz 0 3 rfl
  have r_s := HK.lt 0 rfl
  have p_0 := HK.get 1 0 rfl rfl
  have p_1 := HK.get 1 1 rfl rfl
  have p_s := HK.lt 1 rfl
  have hK := HK.base
  obtain ⟨g1, g2, g3, g4⟩ := put4c (.slice none 0 0) (.int .i64 0) (.int .i64 0) (.int .i64 1) r_0 r_1 r_2 r_3
  clear HK
  go_wp2
  refine bodyPost_ret (v := .agg #[.slice none 0 0, .int .i64 0, .int .i64 0, .int .i64 1]) (by simp [results, Try.results31, go_sem, g1, g2, g3, g4]) rfl ?_
  exact ⟨rfl, (((hK.setCell (by show _ ≤ w.heap.size + 1; omega) _).setCell (by show _ ≤ w.heap.size + 1; omega) _).setCell (by show _ ≤ w.heap.size + 1; omega) _).setCell (by show _ ≤ w.heap.size + 1; omega) _⟩
/-- Bytes of one's own are handed back in a struct, no fault. -/
def BytesPost4 (xs : List Int) (w : World) (e : Ending) (w' : World) : Prop :=
  ∃ (a : Option Addr) (c : Nat), e = .returned (.agg #[.slice a xs.length c, .int .i64 0, .int .i64 0, .int .i64 0]) ∧ w'.ownsRow w.heap.size 5 1 (.slice a xs.length c) xs.length (bV xs) ∧ Below w.heap.size w w'
theorem bytesPost4_mk {xs : List Int} {w w1 w' : World} {a : Option Addr} {n c b : Nat} {v : Value} (hn : n = xs.length) (ho : w'.ownsRow w1.heap.size 5 1 (.slice a n c) n (bV xs)) (hK : Below w.heap.size w w') (hb : w.heap.size ≤ b) (hb1 : b < w1.heap.size) (hw : w.heap.size ≤ w1.heap.size) :
    BytesPost4 xs w (.returned (.agg #[.slice a n c, .int .i64 0, .int .i64 0, .int .i64 0])) ((((w'.setCell ⟨b, 0, none⟩ v).setCell ⟨b, 1, none⟩ (.int .i64 0)).setCell ⟨b, 2, none⟩ (.int .i64 0)).setCell ⟨b, 3, none⟩ (.int .i64 0)) := by
  subst hn
  exact ⟨a, c, rfl, ownsRow_base (ownsRow_setCell_below (ownsRow_setCell_below (ownsRow_setCell_below (ownsRow_setCell_below ho hb1 _) hb1 _) hb1 _) hb1 _) hw, (((hK.setCell hb _).setCell hb _).setCell hb _).setCell hb _⟩
set_option maxHeartbeats 4000000 in
set_option maxRecDepth 100000 in
theorem rfet_y (a : Option Addr) (c : Nat) (a2 : Option Addr) (c2 : Nat) (P B : List Int) (t : Int) (n : Nat) (w : World) (hs : SpIn w a c a2 c2 P B) (hc : chk P B.length = true) (hn : n ≤ 2048) (ht : I64 t) :
    Calls Try.prog 30 #[.agg #[.slice a P.length c, .slice a2 B.length c2], .int .i64 t, .int .i64 (n : Int)] w (BytesPost4 (rd B t (kN P B t 4 n)) w) := by
  have hS0 := Lib.hid hs
  clear hs
  have HC := Lib.hid hc
  clear hc
  have hn0 : ¬ ((n : Int) < 0) := by omega
  have hn1 : ¬ (2048 < (n : Int)) := by omega
  have HT := Lib.hid ht
  clear ht
  have HN := Lib.hid hn
  clear hn
  go_enter Try.func30, Try.ntmps30
  have HK := Kw.start w
  go_wp2_with fail
  replace HK := HK.box (vs := [.slice a P.length c, .slice a2 B.length c2]) (t := 25)
  replace HK := HK.box (vs := [.slice none 0 0, .int .i64 0, .int .i64 0, .int .i64 0]) (t := 57)
  simp only [World.size_alloc] at HK
  refine (rspace_y _ _ _ _ _ _ _ (hS0.out.below HK.base) HC.out).mono ?_
  rintro e w1 ⟨rfl, hq⟩
  replace HK := HK.below hq
  clear hq
  have z1 := HK.lt 0 rfl
  have r_0 := HK.get 0 0 rfl rfl
  have r_f0 := HK.fz 0 0 rfl
  have r_1 := HK.get 0 1 rfl rfl
  have r_f1 := HK.fz 0 1 rfl
  have r_2 := HK.get 0 2 rfl rfl
  have r_f2 := HK.fz 0 2 rfl
  have r_3 := HK.get 0 3 rfl rfl
  have r_f3 := HK.fz 0 3 rfl
  have r_s := HK.lt 0 rfl
  have p_0 := HK.get 1 0 rfl rfl
  have p_1 := HK.get 1 1 rfl rfl
  have p_s := HK.lt 1 rfl
  go_wp2_with fail
  clear r_0 r_f0 r_1 r_f1 r_2 r_f2 r_3 r_f3 r_s p_0 p_1 p_s
  refine (fetched_c _ _ _ _ _ _ _ n _ (hS0.out.below HK.base) HC.out HT.out (by have := HN.out; omega)).mono ?_
  rintro e w2 ⟨b1, d1, rfl, ho, hq⟩
  replace HK := HK.below hq
  clear hq
  rw [bV_len] at ho ⊢
  have HO := Lib.hid ho
  clear ho
  generalize hR : rd B t (kN P B t 4 n) = R at *
  have HR := Lib.hid hR
  clear hR
  generalize hL : R.length = rl at *
  have HL := Lib.hid hL
  clear hL
  have r_0 := HK.get 0 0 rfl rfl
  have r_f0 := HK.fz 0 0 rfl
  have r_1 := HK.get 0 1 rfl rfl
  have r_f1 := HK.fz 0 1 rfl
  have r_2 := HK.get 0 2 rfl rfl
  have r_f2 := HK.fz 0 2 rfl
  have r_3 := HK.get 0 3 rfl rfl
  have r_f3 := HK.fz 0 3 rfl
  have r_s := HK.lt 0 rfl
  have p_0 := HK.get 1 0 rfl rfl
  have p_1 := HK.get 1 1 rfl rfl
  have p_s := HK.lt 1 rfl
  have hK := HK.base
  obtain ⟨g1, g2, g3, g4⟩ := put4c (.slice b1 rl d1) (.int .i64 0) (.int .i64 0) (.int .i64 0) r_0 r_1 r_2 r_3
  clear HK
  go_wp2
  refine bodyPost_ret (v := .agg #[.slice b1 rl d1, .int .i64 0, .int .i64 0, .int .i64 0]) (by simp [results, Try.results30, go_sem, g1, g2, g3, g4]) rfl ?_
  exact bytesPost4_mk HL.out.symm HO.out hK (by omega) z1 (by omega)
set_option maxHeartbeats 4000000 in
set_option maxRecDepth 100000 in
theorem rpek_f (a : Option Addr) (c : Nat) (a2 : Option Addr) (c2 : Nat) (P B : List Int) (t : Int) (n : Nat) (w : World) (hs : SpIn w a c a2 c2 P B) (hc : chk P B.length = true) (hn : n ≤ 2048) (ht : I64 t) (hk : kN P B t 0 n < n) :
    Calls Try.prog 31 #[.agg #[.slice a P.length c, .slice a2 B.length c2], .int .i64 t, .int .i64 (n : Int)] w fun e w' => e = .returned (.agg #[.slice none 0 0, .int .i64 (fK P B t 0 n), .int .i64 (fX P B t 0 n), .int .i64 0]) ∧ Below w.heap.size w w' := by
  have hS0 := Lib.hid hs
  clear hs
  have HC := Lib.hid hc
  clear hc
  have hn0 : ¬ ((n : Int) < 0) := by omega
  have hn1 : ¬ (2048 < (n : Int)) := by omega
  have HT := Lib.hid ht
  clear ht
  have HN := Lib.hid hn
  clear hn
  go_enter Try.func31, Try.ntmps31
  have HK := Kw.start w
  go_wp2_with fail
  replace HK := HK.box (vs := [.slice a P.length c, .slice a2 B.length c2]) (t := 25)
  replace HK := HK.box (vs := [.slice none 0 0, .int .i64 0, .int .i64 0, .int .i64 0]) (t := 57)
  simp only [World.size_alloc] at HK
  refine (rspace_y _ _ _ _ _ _ _ (hS0.out.below HK.base) HC.out).mono ?_
  rintro e w1 ⟨rfl, hq⟩
  replace HK := HK.below hq
  clear hq
  have r_0 := HK.get 0 0 rfl rfl
  have r_f0 := HK.fz 0 0 rfl
  have r_1 := HK.get 0 1 rfl rfl
  have r_f1 := HK.fz 0 1 rfl
  have r_2 := HK.get 0 2 rfl rfl
  have r_f2 := HK.fz 0 2 rfl
  have r_3 := HK.get 0 3 rfl rfl
  have r_f3 := HK.fz 0 3 rfl
  have r_s := HK.lt 0 rfl
  have p_0 := HK.get 1 0 rfl rfl
  have p_1 := HK.get 1 1 rfl rfl
  have p_s := HK.lt 1 rfl
  go_wp2_with fail
  clear r_0 r_f0 r_1 r_f1 r_2 r_f2 r_3 r_f3 r_s p_0 p_1 p_s
  refine (fault_c 0 (by omega) _ _ _ _ _ _ _ n _ (hS0.out.below HK.base) HC.out HT.out (by have := HN.out; omega)).mono ?_
  rintro e w2 ⟨rfl, hq⟩
  replace HK := HK.below hq
  clear hq
  have hfk := fK_ne hk
  generalize hF : fK P B t 0 n = fk at *
  generalize hX : fX P B t 0 n = fx at *
  have HF := Lib.hid hF
  have HX := Lib.hid hX
  clear hF hX
  have HK2 := Lib.hid hk
  clear hk
  have r_0 := HK.get 0 0 rfl rfl
  have r_f0 := HK.fz 0 0 rfl
  have r_1 := HK.get 0 1 rfl rfl
  have r_f1 := HK.fz 0 1 rfl
  have r_2 := HK.get 0 2 rfl rfl
  have r_f2 := HK.fz 0 2 rfl
  have r_3 := HK.get 0 3 rfl rfl
  have r_f3 := HK.fz 0 3 rfl
  have r_s := HK.lt 0 rfl
  have p_0 := HK.get 1 0 rfl rfl
  have p_1 := HK.get 1 1 rfl rfl
  have p_s := HK.lt 1 rfl
  have hK := HK.base
  obtain ⟨g1, g2, g3, g4⟩ := put4c (.slice none 0 0) (.int .i64 fk) (.int .i64 fx) (.int .i64 0) r_0 r_1 r_2 r_3
  clear HK
  go_wp2
  refine bodyPost_ret (v := .agg #[.slice none 0 0, .int .i64 fk, .int .i64 fx, .int .i64 0]) (by simp [results, Try.results31, go_sem, g1, g2, g3, g4, r_s]) rfl ?_
  exact ⟨by rw [HF.out, HX.out], b_alloc ((((hK.setCell (by show _ ≤ w.heap.size + 1; omega) _).setCell (by show _ ≤ w.heap.size + 1; omega) _).setCell (by show _ ≤ w.heap.size + 1; omega) _).setCell (by show _ ≤ w.heap.size + 1; omega) _)⟩
set_option maxHeartbeats 4000000 in
set_option maxRecDepth 100000 in
theorem rpek_y (a : Option Addr) (c : Nat) (a2 : Option Addr) (c2 : Nat) (P B : List Int) (t : Int) (n : Nat) (w : World) (hs : SpIn w a c a2 c2 P B) (hc : chk P B.length = true) (hn : n ≤ 2048) (ht : I64 t) (hk : kN P B t 0 n = n) :
    Calls Try.prog 31 #[.agg #[.slice a P.length c, .slice a2 B.length c2], .int .i64 t, .int .i64 (n : Int)] w (BytesPost4 (rd B t n) w) := by
  have hS0 := Lib.hid hs
  clear hs
  have HC := Lib.hid hc
  clear hc
  have hn0 : ¬ ((n : Int) < 0) := by omega
  have hn1 : ¬ (2048 < (n : Int)) := by omega
  have HT := Lib.hid ht
  clear ht
  have HN := Lib.hid hn
  clear hn
  go_enter Try.func31, Try.ntmps31
  have HK := Kw.start w
  go_wp2_with fail
  replace HK := HK.box (vs := [.slice a P.length c, .slice a2 B.length c2]) (t := 25)
  replace HK := HK.box (vs := [.slice none 0 0, .int .i64 0, .int .i64 0, .int .i64 0]) (t := 57)
  simp only [World.size_alloc] at HK
  refine (rspace_y _ _ _ _ _ _ _ (hS0.out.below HK.base) HC.out).mono ?_
  rintro e w1 ⟨rfl, hq⟩
  replace HK := HK.below hq
  clear hq
  have r_0 := HK.get 0 0 rfl rfl
  have r_f0 := HK.fz 0 0 rfl
  have r_1 := HK.get 0 1 rfl rfl
  have r_f1 := HK.fz 0 1 rfl
  have r_2 := HK.get 0 2 rfl rfl
  have r_f2 := HK.fz 0 2 rfl
  have r_3 := HK.get 0 3 rfl rfl
  have r_f3 := HK.fz 0 3 rfl
  have r_s := HK.lt 0 rfl
  have p_0 := HK.get 1 0 rfl rfl
  have p_1 := HK.get 1 1 rfl rfl
  have p_s := HK.lt 1 rfl
  go_wp2_with fail
  clear r_0 r_f0 r_1 r_f1 r_2 r_f2 r_3 r_f3 r_s p_0 p_1 p_s
  refine (fault_c 0 (by omega) _ _ _ _ _ _ _ n _ (hS0.out.below HK.base) HC.out HT.out (by have := HN.out; omega)).mono ?_
  rintro e w2 ⟨rfl, hq⟩
  replace HK := HK.below hq
  clear hq
  have hfk := fK_eq hk
  have hk0 := fK_end hk
  generalize hF : fK P B t 0 n = fk at *
  generalize hX : fX P B t 0 n = fx at *
  have HF := Lib.hid hF
  have HX := Lib.hid hX
  clear hF hX
  have HK2 := Lib.hid hk
  clear hk
  obtain ⟨hk1, hk2⟩ := hk0
  subst hk1 hk2
  have r_0 := HK.get 0 0 rfl rfl
  have r_f0 := HK.fz 0 0 rfl
  have r_1 := HK.get 0 1 rfl rfl
  have r_f1 := HK.fz 0 1 rfl
  have r_2 := HK.get 0 2 rfl rfl
  have r_f2 := HK.fz 0 2 rfl
  have r_3 := HK.get 0 3 rfl rfl
  have r_f3 := HK.fz 0 3 rfl
  have r_s := HK.lt 0 rfl
  have p_0 := HK.get 1 0 rfl rfl
  have p_1 := HK.get 1 1 rfl rfl
  have p_s := HK.lt 1 rfl
  go_wp2_with fail
  have z1 := HK.lt 0 rfl
  replace HK := HK.box (vs := [.int .i64 0, .int .i64 0]) (t := 34)
  clear r_0 r_f0 r_1 r_f1 r_2 r_f2 r_3 r_f3 r_s p_0 p_1 p_s
  refine (bytesOf_c _ _ _ _ _ _ _ n _ (hS0.out.below HK.base) (by have := chk_len4 HC.out; omega) (by have := HN.out; omega) (by rcases Nat.eq_zero_or_pos n with h0 | h0; exact .inl h0; exact .inr (in_range HK2.out h0))).mono ?_
  rintro e w3 ⟨b1, d1, rfl, ho, hq⟩
  replace HK := HK.below hq
  clear hq
  rw [bV_len] at ho ⊢
  have HO := Lib.hid ho
  clear ho
  generalize hR : rd B t n = R at *
  have HR := Lib.hid hR
  clear hR
  generalize hL : R.length = rl at *
  have HL := Lib.hid hL
  clear hL
  have f_0 := HK.get 0 0 rfl rfl
  have f_1 := HK.get 0 1 rfl rfl
  have f_s := HK.lt 0 rfl
  have r_0 := HK.get 1 0 rfl rfl
  have r_f0 := HK.fz 1 0 rfl
  have r_1 := HK.get 1 1 rfl rfl
  have r_f1 := HK.fz 1 1 rfl
  have r_2 := HK.get 1 2 rfl rfl
  have r_f2 := HK.fz 1 2 rfl
  have r_3 := HK.get 1 3 rfl rfl
  have r_f3 := HK.fz 1 3 rfl
  have r_s := HK.lt 1 rfl
  have p_0 := HK.get 2 0 rfl rfl
  have p_1 := HK.get 2 1 rfl rfl
  have p_s := HK.lt 2 rfl
  have hK := HK.base
  obtain ⟨g1, g2, g3, g4⟩ := put4c (.slice b1 rl d1) (.int .i64 0) (.int .i64 0) (.int .i64 0) r_0 r_1 r_2 r_3
  clear HK
  go_wp2
  refine bodyPost_ret (v := .agg #[.slice b1 rl d1, .int .i64 0, .int .i64 0, .int .i64 0]) (by simp [results, Try.results31, go_sem, g1, g2, g3, g4]) rfl ?_
  exact bytesPost4_mk HL.out.symm HO.out hK (by omega) (by simp; omega) (by simp; omega)
end Go.Proofs.Ytdbcbmdekdfdoaa
