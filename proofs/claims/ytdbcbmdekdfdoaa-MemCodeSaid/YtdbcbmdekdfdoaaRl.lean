/- WHAT IS PROVED: the reference's Load of layer 3, for every space, address and type. CONDITIONS: the slices' cells hold the lists. -/
import Derived.Test.YtdbcbmdekdfdoaaRh
import Derived.Test.YtdbcbmdekdfdoaaRt
namespace Go.Proofs.Ytdbcbmdekdfdoaa
open Go Go.RowKit Go.QrBits Go.QrMem

set_option maxHeartbeats 4000000 in
set_option maxRecDepth 100000 in
theorem rload_n (a : Option Addr) (c : Nat) (a2 : Option Addr) (c2 : Nat) (P B : List Int) (t n : Int) (g : Bool) (w : World) (hs : SpIn w a c a2 c2 P B) (hc : chk P B.length = false) :
    Calls Try.prog 36 #[.agg #[.slice a P.length c, .slice a2 B.length c2], .int .i64 t, .agg #[.int .i64 n, .bool g]] w fun e w' => e = .returned (.agg #[.int .i64 0, .int .i64 0, .int .i64 0, .int .i64 30]) ∧ Below w.heap.size w w' := by
  have hS0 := Lib.hid hs
  clear hs
  have HC := Lib.hid hc
  clear hc
  go_enter Try.func36, Try.ntmps36
  have HK := Kw.start w
  go_wp2_with fail
  replace HK := HK.box (vs := [.slice a P.length c, .slice a2 B.length c2]) (t := 25)
  replace HK := HK.box (vs := [.int .i64 n, .bool g]) (t := 64)
  replace HK := HK.box (vs := [.int .i64 0, .int .i64 0, .int .i64 0, .int .i64 0]) (t := 73)
  simp only [World.size_alloc] at HK
  refine (rspace_n _ _ _ _ _ _ _ (hS0.out.below HK.base) HC.out).mono ?_
  rintro e w1 ⟨rfl, hq⟩
  replace HK := HK.below hq
  clear hq
  have r_0 := HK.get 0 0 rfl rfl
  have r_f0 := HK.fz 0 0 rfl
  have r_1 := HK.get 0 1 rfl rfl
  have r_f1 := HK.fz 0 1 rfl
  have r_2 := HK.get 0 2 rfl rfl
  have r_f2 := HK.fz 0 2 rfl
  have r_3 := HK.get 0 3 rfl rfl
  have r_f3 := HK.fz 0 3 rfl
  have r_s := HK.lt 0 rfl
  have y_0 := HK.get 1 0 rfl rfl
  have y_1 := HK.get 1 1 rfl rfl
  have y_s := HK.lt 1 rfl
  have p_0 := HK.get 2 0 rfl rfl
  have p_1 := HK.get 2 1 rfl rfl
  have p_s := HK.lt 2 rfl
  have hK := HK.base
  obtain ⟨g1, g2, g3, g4⟩ := put4c (.int .i64 0) (.int .i64 0) (.int .i64 0) (.int .i64 30) r_0 r_1 r_2 r_3
  clear HK
  go_wp2
  refine bodyPost_ret (v := .agg #[.int .i64 0, .int .i64 0, .int .i64 0, .int .i64 30]) (by simp [results, Try.results36, go_sem, g1, g2, g3, g4]) rfl ?_
  exact ⟨rfl, (((hK.setCell (by show _ ≤ w.heap.size + 1 + 1; omega) _).setCell (by show _ ≤ w.heap.size + 1 + 1; omega) _).setCell (by show _ ≤ w.heap.size + 1 + 1; omega) _).setCell (by show _ ≤ w.heap.size + 1 + 1; omega) _⟩
set_option maxHeartbeats 4000000 in
set_option maxRecDepth 100000 in
theorem rload_p (a : Option Addr) (c : Nat) (a2 : Option Addr) (c2 : Nat) (P B : List Int) (t n : Int) (g : Bool) (w : World) (hs : SpIn w a c a2 c2 P B) (hc : chk P B.length = true) (hv : vB n = false) :
    Calls Try.prog 36 #[.agg #[.slice a P.length c, .slice a2 B.length c2], .int .i64 t, .agg #[.int .i64 n, .bool g]] w fun e w' => e = .returned (.agg #[.int .i64 0, .int .i64 0, .int .i64 0, .int .i64 10]) ∧ Below w.heap.size w w' := by
  have hS0 := Lib.hid hs
  clear hs
  have HC := Lib.hid hc
  clear hc
  have HV := Lib.hid hv
  clear hv
  go_enter Try.func36, Try.ntmps36
  have HK := Kw.start w
  go_wp2_with fail
  replace HK := HK.box (vs := [.slice a P.length c, .slice a2 B.length c2]) (t := 25)
  replace HK := HK.box (vs := [.int .i64 n, .bool g]) (t := 64)
  replace HK := HK.box (vs := [.int .i64 0, .int .i64 0, .int .i64 0, .int .i64 0]) (t := 73)
  simp only [World.size_alloc] at HK
  refine (rspace_y _ _ _ _ _ _ _ (hS0.out.below HK.base) HC.out).mono ?_
  rintro e w1 ⟨rfl, hq⟩
  replace HK := HK.below hq
  clear hq
  have y_0 := HK.get 1 0 rfl rfl
  have y_1 := HK.get 1 1 rfl rfl
  have y_s := HK.lt 1 rfl
  have p_0 := HK.get 2 0 rfl rfl
  have p_1 := HK.get 2 1 rfl rfl
  have p_s := HK.lt 2 rfl
  go_wp2_with fail
  clear y_0 y_1 y_s p_0 p_1 p_s
  refine (rcheck_n _ _ _ HV.out).mono ?_
  rintro e w2 ⟨rfl, hq⟩
  replace HK := HK.below hq
  clear hq
  have r_0 := HK.get 0 0 rfl rfl
  have r_f0 := HK.fz 0 0 rfl
  have r_1 := HK.get 0 1 rfl rfl
  have r_f1 := HK.fz 0 1 rfl
  have r_2 := HK.get 0 2 rfl rfl
  have r_f2 := HK.fz 0 2 rfl
  have r_3 := HK.get 0 3 rfl rfl
  have r_f3 := HK.fz 0 3 rfl
  have r_s := HK.lt 0 rfl
  have y_0 := HK.get 1 0 rfl rfl
  have y_1 := HK.get 1 1 rfl rfl
  have y_s := HK.lt 1 rfl
  have p_0 := HK.get 2 0 rfl rfl
  have p_1 := HK.get 2 1 rfl rfl
  have p_s := HK.lt 2 rfl
  have hK := HK.base
  obtain ⟨g1, g2, g3, g4⟩ := put4c (.int .i64 0) (.int .i64 0) (.int .i64 0) (.int .i64 10) r_0 r_1 r_2 r_3
  clear HK
  go_wp2
  refine bodyPost_ret (v := .agg #[.int .i64 0, .int .i64 0, .int .i64 0, .int .i64 10]) (by simp [results, Try.results36, go_sem, g1, g2, g3, g4]) rfl ?_
  exact ⟨rfl, (((hK.setCell (by show _ ≤ w.heap.size + 1 + 1; omega) _).setCell (by show _ ≤ w.heap.size + 1 + 1; omega) _).setCell (by show _ ≤ w.heap.size + 1 + 1; omega) _).setCell (by show _ ≤ w.heap.size + 1 + 1; omega) _⟩
set_option maxHeartbeats 4000000 in
set_option maxRecDepth 100000 in
theorem rload_f (a : Option Addr) (c : Nat) (a2 : Option Addr) (c2 : Nat) (P B : List Int) (t : Int) (n : Nat) (g : Bool) (w : World) (hs : SpIn w a c a2 c2 P B) (hc : chk P B.length = true) (hv : vB (n : Int) = true) (ht : I64 t) (hk : kN P B t 1 n < n) :
    Calls Try.prog 36 #[.agg #[.slice a P.length c, .slice a2 B.length c2], .int .i64 t, .agg #[.int .i64 (n : Int), .bool g]] w fun e w' => e = .returned (.agg #[.int .i64 0, .int .i64 (fK P B t 1 n), .int .i64 (fX P B t 1 n), .int .i64 0]) ∧ Below w.heap.size w w' := by
  have hS0 := Lib.hid hs
  clear hs
  have HC := Lib.hid hc
  clear hc
  have HV := Lib.hid hv
  clear hv
  have HT := Lib.hid ht
  clear ht
  have hn8 := vB_le HV.out
  obtain ⟨hn0, hn8⟩ := hn8
  go_enter Try.func36, Try.ntmps36
  have HK := Kw.start w
  go_wp2_with fail
  replace HK := HK.box (vs := [.slice a P.length c, .slice a2 B.length c2]) (t := 25)
  replace HK := HK.box (vs := [.int .i64 (n : Int), .bool g]) (t := 64)
  replace HK := HK.box (vs := [.int .i64 0, .int .i64 0, .int .i64 0, .int .i64 0]) (t := 73)
  simp only [World.size_alloc] at HK
  refine (rspace_y _ _ _ _ _ _ _ (hS0.out.below HK.base) HC.out).mono ?_
  rintro e w1 ⟨rfl, hq⟩
  replace HK := HK.below hq
  clear hq
  have y_0 := HK.get 1 0 rfl rfl
  have y_1 := HK.get 1 1 rfl rfl
  have y_s := HK.lt 1 rfl
  have p_0 := HK.get 2 0 rfl rfl
  have p_1 := HK.get 2 1 rfl rfl
  have p_s := HK.lt 2 rfl
  go_wp2_with fail
  clear y_0 y_1 y_s p_0 p_1 p_s
  refine (rcheck_y _ _ _ HV.out).mono ?_
  rintro e w2 ⟨rfl, hq⟩
  replace HK := HK.below hq
  clear hq
  have y_0 := HK.get 1 0 rfl rfl
  have y_1 := HK.get 1 1 rfl rfl
  have y_s := HK.lt 1 rfl
  have p_0 := HK.get 2 0 rfl rfl
  have p_1 := HK.get 2 1 rfl rfl
  have p_s := HK.lt 2 rfl
  go_wp2_with fail
  clear y_0 y_1 y_s p_0 p_1 p_s
  refine (fault_c 1 (by omega) _ _ _ _ _ _ _ n _ (hS0.out.below HK.base) HC.out HT.out (by omega)).mono ?_
  rintro e w3 ⟨rfl, hq⟩
  replace HK := HK.below hq
  clear hq
  have hfk := fK_ne hk
  generalize hF : fK P B t 1 n = fk at *
  generalize hX : fX P B t 1 n = fx at *
  have HF := Lib.hid hF
  have HX := Lib.hid hX
  clear hF hX
  have HK2 := Lib.hid hk
  clear hk
  have r_0 := HK.get 0 0 rfl rfl
  have r_f0 := HK.fz 0 0 rfl
  have r_1 := HK.get 0 1 rfl rfl
  have r_f1 := HK.fz 0 1 rfl
  have r_2 := HK.get 0 2 rfl rfl
  have r_f2 := HK.fz 0 2 rfl
  have r_3 := HK.get 0 3 rfl rfl
  have r_f3 := HK.fz 0 3 rfl
  have r_s := HK.lt 0 rfl
  have y_0 := HK.get 1 0 rfl rfl
  have y_1 := HK.get 1 1 rfl rfl
  have y_s := HK.lt 1 rfl
  have p_0 := HK.get 2 0 rfl rfl
  have p_1 := HK.get 2 1 rfl rfl
  have p_s := HK.lt 2 rfl
  have hK := HK.base
  obtain ⟨g1, g2, g3, g4⟩ := put4c (.int .i64 0) (.int .i64 fk) (.int .i64 fx) (.int .i64 0) r_0 r_1 r_2 r_3
  clear HK
  go_wp2
  refine bodyPost_ret (v := .agg #[.int .i64 0, .int .i64 fk, .int .i64 fx, .int .i64 0]) (by simp [results, Try.results36, go_sem, g1, g2, g3, g4, r_s]) rfl ?_
  exact ⟨by rw [HF.out, HX.out], b_alloc ((((hK.setCell (by show _ ≤ w.heap.size + 1 + 1; omega) _).setCell (by show _ ≤ w.heap.size + 1 + 1; omega) _).setCell (by show _ ≤ w.heap.size + 1 + 1; omega) _).setCell (by show _ ≤ w.heap.size + 1 + 1; omega) _)⟩
theorem rfrom_any (n : Nat) (g : Bool) (a : Option Addr) (cap : Nat) (cs : List Int) (w : World) (h : vB (n : Int) = true) (hl : cs.length = n) (hok : okB cs) (hn : 0 < n) {base : Nat} (ho : w.ownsRow base 5 1 (.slice a n cap) n (bV cs)) :
    Calls Try.prog 43 #[.agg #[.int .i64 n, .bool g], .slice a n cap] w fun e w' => e = .returned (.tuple #[.int .i64 (wr n g (wrap64 (fbS cs))), .int .i64 0]) ∧ Below w.heap.size w w' := by
  obtain ⟨k, rfl⟩ : ∃ k, n = k + 1 := ⟨n - 1, by omega⟩
  obtain ⟨g1, cap1, hv, hb⟩ := own_form ho
  cases hv
  refine rfrom_c (k + 1) g g1 cap cs w h hl ⟨(own_block ho g1 rfl).2, fun j x hx => ?_, hok⟩
  have := ho.cellAt j (by have := (List.getElem?_eq_some_iff.1 hx).1; omega)
  rw [this]; exact bV_get hx
set_option maxHeartbeats 4000000 in
set_option maxRecDepth 100000 in
theorem rload_y (a : Option Addr) (c : Nat) (a2 : Option Addr) (c2 : Nat) (P B : List Int) (t : Int) (n : Nat) (g : Bool) (w : World) (hs : SpIn w a c a2 c2 P B) (hc : chk P B.length = true) (hv : vB (n : Int) = true) (ht : I64 t) (hok : okB B) (hk : kN P B t 1 n = n) :
    Calls Try.prog 36 #[.agg #[.slice a P.length c, .slice a2 B.length c2], .int .i64 t, .agg #[.int .i64 (n : Int), .bool g]] w fun e w' => e = .returned (.agg #[.int .i64 (ldV n g B t), .int .i64 0, .int .i64 0, .int .i64 0]) ∧ Below w.heap.size w w' := by
  have hS0 := Lib.hid hs
  clear hs
  have HC := Lib.hid hc
  clear hc
  have HV := Lib.hid hv
  clear hv
  have HT := Lib.hid ht
  clear ht
  have hn8 := vB_le HV.out
  obtain ⟨hn0, hn8⟩ := hn8
  have HOK := Lib.hid hok
  clear hok
  go_enter Try.func36, Try.ntmps36
  have HK := Kw.start w
  go_wp2_with fail
  replace HK := HK.box (vs := [.slice a P.length c, .slice a2 B.length c2]) (t := 25)
  replace HK := HK.box (vs := [.int .i64 (n : Int), .bool g]) (t := 64)
  replace HK := HK.box (vs := [.int .i64 0, .int .i64 0, .int .i64 0, .int .i64 0]) (t := 73)
  simp only [World.size_alloc] at HK
  refine (rspace_y _ _ _ _ _ _ _ (hS0.out.below HK.base) HC.out).mono ?_
  rintro e w1 ⟨rfl, hq⟩
  replace HK := HK.below hq
  clear hq
  have y_0 := HK.get 1 0 rfl rfl
  have y_1 := HK.get 1 1 rfl rfl
  have y_s := HK.lt 1 rfl
  have p_0 := HK.get 2 0 rfl rfl
  have p_1 := HK.get 2 1 rfl rfl
  have p_s := HK.lt 2 rfl
  go_wp2_with fail
  clear y_0 y_1 y_s p_0 p_1 p_s
  refine (rcheck_y _ _ _ HV.out).mono ?_
  rintro e w2 ⟨rfl, hq⟩
  replace HK := HK.below hq
  clear hq
  have y_0 := HK.get 1 0 rfl rfl
  have y_1 := HK.get 1 1 rfl rfl
  have y_s := HK.lt 1 rfl
  have p_0 := HK.get 2 0 rfl rfl
  have p_1 := HK.get 2 1 rfl rfl
  have p_s := HK.lt 2 rfl
  go_wp2_with fail
  clear y_0 y_1 y_s p_0 p_1 p_s
  refine (fault_c 1 (by omega) _ _ _ _ _ _ _ n _ (hS0.out.below HK.base) HC.out HT.out (by omega)).mono ?_
  rintro e w3 ⟨rfl, hq⟩
  replace HK := HK.below hq
  clear hq
  have hfk := fK_eq hk
  have hk0 := fK_end hk
  generalize hF : fK P B t 1 n = fk at *
  generalize hX : fX P B t 1 n = fx at *
  have HF := Lib.hid hF
  have HX := Lib.hid hX
  clear hF hX
  have HK2 := Lib.hid hk
  clear hk
  obtain ⟨hk1, hk2⟩ := hk0
  subst hk1 hk2
  have r_0 := HK.get 0 0 rfl rfl
  have r_f0 := HK.fz 0 0 rfl
  have r_1 := HK.get 0 1 rfl rfl
  have r_f1 := HK.fz 0 1 rfl
  have r_2 := HK.get 0 2 rfl rfl
  have r_f2 := HK.fz 0 2 rfl
  have r_3 := HK.get 0 3 rfl rfl
  have r_f3 := HK.fz 0 3 rfl
  have r_s := HK.lt 0 rfl
  have y_0 := HK.get 1 0 rfl rfl
  have y_1 := HK.get 1 1 rfl rfl
  have y_s := HK.lt 1 rfl
  have p_0 := HK.get 2 0 rfl rfl
  have p_1 := HK.get 2 1 rfl rfl
  have p_s := HK.lt 2 rfl
  go_wp2_with fail
  replace HK := HK.box (vs := [.int .i64 0, .int .i64 0]) (t := 34)
  have hW := HK.base
  have hw3 : w.heap.size + 1 + 1 < w3.heap.size := r_s
  have y_s2 := Nat.lt_succ_of_lt y_s
  have p_s2 := Nat.lt_succ_of_lt p_s
  have r_s2 := Nat.lt_succ_of_lt r_s
  have HK0 := Lib.hid HK
  clear HK
  go_region_with (first
    | (go_at_call 60; refine (bytesOf_c _ _ _ _ _ _ _ n _ (hS0.out.below (by repeat (first | exact hW | apply b_alloc | apply Below.drew))) (by have := chk_len4 HC.out; omega) (by omega) (.inr (in_range HK2.out hn0))).mono ?_; rintro e w4 ⟨b1, d1, rfl, ho, hq4⟩; obtain ⟨hc4, hf4⟩ := bcell hq4; rw [bV_len, rd_len] at ho ⊢; have hba := Lib.hid ho; clear ho)
    | (go_at_call 43; refine (rfrom_any n g _ _ (rd B t n) _ HV.out (rd_len _ _ _) (rd_ok HOK.out _ _) hn0 hba.out).mono ?_; rintro e w5 ⟨rfl, hq5⟩; obtain ⟨hc5, hf5⟩ := bcell hq5))
  all_goals
    have HK5 : Kw _ w w5 := Kw.below (by repeat (first | exact Kw.below (by repeat (first | exact HK0.out | apply Kw.drew)) hq4 | apply Kw.drew)) hq5
    clear hc4 hf4 hc5 hf5 p_0 p_1 p_s p_s2 y_0 y_1 y_s y_s2 r_0 r_1 r_2 r_3 r_f0 r_f1 r_f2 r_f3 r_s r_s2
    have r_0 := HK5.get 1 0 rfl rfl
    have r_1 := HK5.get 1 1 rfl rfl
    have r_2 := HK5.get 1 2 rfl rfl
    have r_3 := HK5.get 1 3 rfl rfl
    have r_f0 := HK5.fz 1 0 rfl
    have r_f1 := HK5.fz 1 1 rfl
    have r_f2 := HK5.fz 1 2 rfl
    have r_f3 := HK5.fz 1 3 rfl
    have r_s := HK5.lt 1 rfl
    have hK := HK5.base
    obtain ⟨g1, g2, g3, g4⟩ := put4c (.int .i64 (wr n g (wrap64 (fbS (rd B t n))))) (.int .i64 0) (.int .i64 0) (.int .i64 0) r_0 r_1 r_2 r_3
    clear HK5
    go_wp2
    refine bodyPost_ret (v := .agg #[.int .i64 (wr n g (wrap64 (fbS (rd B t n)))), .int .i64 0, .int .i64 0, .int .i64 0]) (by simp [results, Try.results36, go_sem, g1, g2, g3, g4]) rfl ?_
    exact ⟨rfl, by repeat (first | exact hK | apply Below.drew | refine Below.setCell ?_ (by show _ ≤ w.heap.size + 1 + 1; omega) _)⟩
end Go.Proofs.Ytdbcbmdekdfdoaa
