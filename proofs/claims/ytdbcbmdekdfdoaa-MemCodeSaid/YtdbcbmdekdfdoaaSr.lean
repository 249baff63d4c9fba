/- WHAT IS PROVED: mem.String, for every space, address and limit. CONDITIONS: the slices' cells hold the lists. -/
import Derived.Test.YtdbcbmdekdfdoaaIx
import Derived.Test.YtdbcbmdekdfdoaaAr
import Derived.Test.YtdbcbmdekdfdoaaMa
namespace Go.Proofs.Ytdbcbmdekdfdoaa
open Go Go.RowKit Go.QrBits Go.QrMem

attribute [local go_sem] Oper.semAt_some
theorem spIn_own2 {w : World} {base : Nat} {a : Option Addr} {c : Nat} {l : List Int} (h : w.ownsRow base 5 1 (.slice a l.length c) l.length (bV l)) : SlV a l.length c := by
  obtain ⟨_, (⟨h, h0⟩ | ⟨g, cap, cur, h, _, _, hn, hm, _⟩)⟩ := h
  · simp only [Value.slice.injEq] at h
    exact ⟨by omega, by unfold maxLen; omega, fun _ => ⟨h0, h.2.2⟩⟩
  · simp only [Value.slice.injEq] at h
    exact ⟨by rw [h.2.2]; exact hn, by rw [h.2.2]; exact hm, fun e => by rw [h.1] at e; cases e⟩
set_option maxHeartbeats 4000000 in
set_option maxRecDepth 100000 in
theorem string_n (a : Option Addr) (c : Nat) (a2 : Option Addr) (c2 : Nat) (perm bytes : List Int) (t n : Int) (w : World) (hs : SpIn w a c a2 c2 perm bytes) (hc : chk perm bytes.length = false) :
    Calls Try.prog 28 #[.agg #[.slice a perm.length c, .slice a2 bytes.length c2], .int .i64 t, .int .i64 n] w fun e w' => e = .returned (.tuple #[.string ⟨#[]⟩, .agg #[.int .i64 0, .int .i64 0], .int .i64 30]) ∧ Below w.heap.size w w' := by
  have hS0 := Lib.hid hs
  clear hs
  have HC := Lib.hid hc
  clear hc
  go_enter Try.func28, Try.ntmps28
  have HK := Kw.start w
  go_wp2_with fail
  replace HK := HK.box (vs := [.slice a perm.length c, .slice a2 bytes.length c2]) (t := 25)
  replace HK := HK.box (vs := [.int .i64 0, .int .i64 0]) (t := 34)
  simp only [World.size_alloc] at HK
  refine (check_n _ _ _ _ _ _ _ (hS0.out.below HK.base) HC.out).mono ?_
  rintro e w1 ⟨rfl, hq⟩
  replace HK := HK.below hq
  clear hq
  have z1 := HK.lt 0 rfl
  have r_0 := HK.get 0 0 rfl rfl
  have r_f0 := HK.fz 0 0 rfl
  have r_1 := HK.get 0 1 rfl rfl
  have r_f1 := HK.fz 0 1 rfl
  have r_s := HK.lt 0 rfl
  have p_0 := HK.get 1 0 rfl rfl
  have p_1 := HK.get 1 1 rfl rfl
  have p_s := HK.lt 1 rfl
  have hK := HK.base
  obtain ⟨g1, g2⟩ := put2 (.int .i64 0) (.int .i64 0) r_0 r_1
  clear HK
  go_wp2
  refine bodyPost_ret (v := .tuple #[.string ⟨#[]⟩, .agg #[.int .i64 0, .int .i64 0], .int .i64 30]) (by simp [results, Try.results28, go_sem, g1, g2]) rfl ?_
  exact ⟨rfl, (hK.setCell (by simp) _).setCell (by simp) _⟩
set_option maxHeartbeats 4000000 in
set_option maxRecDepth 100000 in
theorem string_lo (a : Option Addr) (c : Nat) (a2 : Option Addr) (c2 : Nat) (perm bytes : List Int) (t n : Int) (w : World) (hs : SpIn w a c a2 c2 perm bytes) (hc : chk perm bytes.length = true) (hn : n < 0) :
    Calls Try.prog 28 #[.agg #[.slice a perm.length c, .slice a2 bytes.length c2], .int .i64 t, .int .i64 n] w fun e w' => e = .returned (.tuple #[.string ⟨#[]⟩, .agg #[.int .i64 0, .int .i64 0], .int .i64 1]) ∧ Below w.heap.size w w' := by
  have hS0 := Lib.hid hs
  clear hs
  have HC := Lib.hid hc
  clear hc
  go_enter Try.func28, Try.ntmps28
  have HK := Kw.start w
  go_wp2_with fail
  replace HK := HK.box (vs := [.slice a perm.length c, .slice a2 bytes.length c2]) (t := 25)
  replace HK := HK.box (vs := [.int .i64 0, .int .i64 0]) (t := 34)
  simp only [World.size_alloc] at HK
  refine (check_y _ _ _ _ _ _ _ (hS0.out.below HK.base) HC.out).mono ?_
  rintro e w1 ⟨rfl, hq⟩
  replace HK := HK.below hq
  clear hq
  have z1 := HK.lt 0 rfl
  have r_0 := HK.get 0 0 rfl rfl
  have r_f0 := HK.fz 0 0 rfl
  have r_1 := HK.get 0 1 rfl rfl
  have r_f1 := HK.fz 0 1 rfl
  have r_s := HK.lt 0 rfl
  have p_0 := HK.get 1 0 rfl rfl
  have p_1 := HK.get 1 1 rfl rfl
  have p_s := HK.lt 1 rfl
  have hK := HK.base
  obtain ⟨g1, g2⟩ := put2 (.int .i64 0) (.int .i64 0) r_0 r_1
  clear HK
  go_wp2
  refine bodyPost_ret (v := .tuple #[.string ⟨#[]⟩, .agg #[.int .i64 0, .int .i64 0], .int .i64 1]) (by simp [results, Try.results28, go_sem, g1, g2]) rfl ?_
  exact ⟨rfl, (hK.setCell (by simp) _).setCell (by simp) _⟩
set_option maxHeartbeats 4000000 in
set_option maxRecDepth 100000 in
theorem string_hi (a : Option Addr) (c : Nat) (a2 : Option Addr) (c2 : Nat) (perm bytes : List Int) (t n : Int) (w : World) (hs : SpIn w a c a2 c2 perm bytes) (hc : chk perm bytes.length = true) (hn : 64 < n) :
    Calls Try.prog 28 #[.agg #[.slice a perm.length c, .slice a2 bytes.length c2], .int .i64 t, .int .i64 n] w fun e w' => e = .returned (.tuple #[.string ⟨#[]⟩, .agg #[.int .i64 0, .int .i64 0], .int .i64 1]) ∧ Below w.heap.size w w' := by
  have hn2 : ¬ n < 0 := by omega
  have hS0 := Lib.hid hs
  clear hs
  have HC := Lib.hid hc
  clear hc
  go_enter Try.func28, Try.ntmps28
  have HK := Kw.start w
  go_wp2_with fail
  replace HK := HK.box (vs := [.slice a perm.length c, .slice a2 bytes.length c2]) (t := 25)
  replace HK := HK.box (vs := [.int .i64 0, .int .i64 0]) (t := 34)
  simp only [World.size_alloc] at HK
  refine (check_y _ _ _ _ _ _ _ (hS0.out.below HK.base) HC.out).mono ?_
  rintro e w1 ⟨rfl, hq⟩
  replace HK := HK.below hq
  clear hq
  have z1 := HK.lt 0 rfl
  have r_0 := HK.get 0 0 rfl rfl
  have r_f0 := HK.fz 0 0 rfl
  have r_1 := HK.get 0 1 rfl rfl
  have r_f1 := HK.fz 0 1 rfl
  have r_s := HK.lt 0 rfl
  have p_0 := HK.get 1 0 rfl rfl
  have p_1 := HK.get 1 1 rfl rfl
  have p_s := HK.lt 1 rfl
  have hK := HK.base
  obtain ⟨g1, g2⟩ := put2 (.int .i64 0) (.int .i64 0) r_0 r_1
  clear HK
  go_wp2
  refine bodyPost_ret (v := .tuple #[.string ⟨#[]⟩, .agg #[.int .i64 0, .int .i64 0], .int .i64 1]) (by simp [results, Try.results28, go_sem, g1, g2]) rfl ?_
  exact ⟨rfl, (hK.setCell (by simp) _).setCell (by simp) _⟩
set_option maxHeartbeats 4000000 in
set_option maxRecDepth 100000 in
theorem string_z (a : Option Addr) (c : Nat) (a2 : Option Addr) (c2 : Nat) (perm bytes : List Int) (t : Int) (n : Nat) (w : World) (hs : SpIn w a c a2 c2 perm bytes) (hc : chk perm bytes.length = true) (hn : n ≤ 64) (ht : I64 t) (hok : okB (rd bytes t (kN perm bytes t 1 n))) (k : Nat) (hzk : zi (rd bytes t (kN perm bytes t 1 n)) = k) (hkl : k < (rd bytes t (kN perm bytes t 1 n)).length) :
    Calls Try.prog 28 #[.agg #[.slice a perm.length c, .slice a2 bytes.length c2], .int .i64 t, .int .i64 (n : Int)] w fun e w' => e = .returned (.tuple #[.string (strB ((rd bytes t (kN perm bytes t 1 n)).take k)), .agg #[.int .i64 0, .int .i64 0], .int .i64 0]) ∧ Below w.heap.size w w' := by
  have hn0 : ¬ ((n : Int) < 0) := by omega
  have hn1 : ¬ (64 < (n : Int)) := by omega
  have HT := Lib.hid ht
  clear ht
  have hS0 := Lib.hid hs
  clear hs
  have HC := Lib.hid hc
  clear hc
  go_enter Try.func28, Try.ntmps28
  have HK := Kw.start w
  go_wp2_with fail
  replace HK := HK.box (vs := [.slice a perm.length c, .slice a2 bytes.length c2]) (t := 25)
  replace HK := HK.box (vs := [.int .i64 0, .int .i64 0]) (t := 34)
  simp only [World.size_alloc] at HK
  refine (check_y _ _ _ _ _ _ _ (hS0.out.below HK.base) HC.out).mono ?_
  rintro e w1 ⟨rfl, hq⟩
  replace HK := HK.below hq
  clear hq
  have z1 := HK.lt 0 rfl
  have p_0 := HK.get 1 0 rfl rfl
  have p_1 := HK.get 1 1 rfl rfl
  have p_s := HK.lt 1 rfl
  go_wp2_with fail
  clear p_0 p_1 p_s
  refine (read_c n t 1 _ _ _ _ _ _ _ HC.out (by omega) HT.out (hS0.out.below HK.base)).mono ?_
  rintro e w2 ⟨av, cv, rfl, ho, hq⟩
  replace HK := HK.below hq
  clear hq
  have z2 := HK.lt 0 rfl
  have hvl := spIn_own2 ho
  have hsl := SlAt.own ho
  clear ho
  generalize hR : rd bytes t (kN perm bytes t 1 n) = R at *
  generalize hF : fK perm bytes t 1 n = fk at *
  generalize hX : fX perm bytes t 1 n = fx at *
  have HR := Lib.hid hR
  have HF := Lib.hid hF
  have HX := Lib.hid hX
  clear hR hF hX
  have HOK := Lib.hid hok
  clear hok
  have r_0 := HK.get 0 0 rfl rfl
  have r_f0 := HK.fz 0 0 rfl
  have r_1 := HK.get 0 1 rfl rfl
  have r_f1 := HK.fz 0 1 rfl
  have r_s := HK.lt 0 rfl
  have p_0 := HK.get 1 0 rfl rfl
  have p_1 := HK.get 1 1 rfl rfl
  have p_s := HK.lt 1 rfl
  have hK := HK.base
  have hvl' := Lib.hid hvl
  have hsl' := Lib.hid hsl
  clear hvl hsl
  go_wp2_with fail
  replace HK := HK.box (vs := [.int .i64 fk, .int .i64 fx]) (t := 34)
  have hsl2 := hsl'.out.below (b_alloc (o := .cells #[.int .i64 fk, .int .i64 fx] 34) (Below.refl _ _))
  refine (ib_c _ _ R _ hvl'.out hsl2 HOK.out).mono ?_
  rintro e w' ⟨rfl, hw⟩
  subst hw
  have hcv := str_k hvl'.out hsl2 HOK.out (Nat.le_of_lt hkl)
  rw [hzk]
  have hkl2 := hkl
  have hmx := hvl'.out.1
  have hmx2 := hvl'.out.2.1
  unfold maxLen at hmx2
  generalize hSt : strB (R.take k) = St at *
  have HSt := Lib.hid hSt
  clear hSt
  generalize R.length = rn at *
  obtain ⟨g1, g2⟩ := put2 (.int .i64 0) (.int .i64 0) r_0 r_1
  clear HK
  go_wp2
  refine bodyPost_ret (v := .tuple #[.string St, .agg #[.int .i64 0, .int .i64 0], .int .i64 0]) (by simp [results, Try.results28, go_sem, g1, g2, r_s]) rfl ?_
  exact ⟨by rw [HR.out, HSt.out], b_alloc ((hK.setCell (by show _ ≤ w.heap.size + 1; omega) _).setCell (by show _ ≤ w.heap.size + 1; omega) _)⟩
set_option maxHeartbeats 4000000 in
set_option maxRecDepth 100000 in
theorem string_f (a : Option Addr) (c : Nat) (a2 : Option Addr) (c2 : Nat) (perm bytes : List Int) (t : Int) (n : Nat) (w : World) (hs : SpIn w a c a2 c2 perm bytes) (hc : chk perm bytes.length = true) (hn : n ≤ 64) (ht : I64 t) (hok : okB (rd bytes t (kN perm bytes t 1 n))) (hz : zi (rd bytes t (kN perm bytes t 1 n)) = -1) (hk : kN perm bytes t 1 n < n) :
    Calls Try.prog 28 #[.agg #[.slice a perm.length c, .slice a2 bytes.length c2], .int .i64 t, .int .i64 (n : Int)] w fun e w' => e = .returned (.tuple #[.string ⟨#[]⟩, .agg #[.int .i64 (fK perm bytes t 1 n), .int .i64 (fX perm bytes t 1 n)], .int .i64 0]) ∧ Below w.heap.size w w' := by
  have hn0 : ¬ ((n : Int) < 0) := by omega
  have hn1 : ¬ (64 < (n : Int)) := by omega
  have HT := Lib.hid ht
  clear ht
  have hS0 := Lib.hid hs
  clear hs
  have HC := Lib.hid hc
  clear hc
  go_enter Try.func28, Try.ntmps28
  have HK := Kw.start w
  go_wp2_with fail
  replace HK := HK.box (vs := [.slice a perm.length c, .slice a2 bytes.length c2]) (t := 25)
  replace HK := HK.box (vs := [.int .i64 0, .int .i64 0]) (t := 34)
  simp only [World.size_alloc] at HK
  refine (check_y _ _ _ _ _ _ _ (hS0.out.below HK.base) HC.out).mono ?_
  rintro e w1 ⟨rfl, hq⟩
  replace HK := HK.below hq
  clear hq
  have z1 := HK.lt 0 rfl
  have p_0 := HK.get 1 0 rfl rfl
  have p_1 := HK.get 1 1 rfl rfl
  have p_s := HK.lt 1 rfl
  go_wp2_with fail
  clear p_0 p_1 p_s
  refine (read_c n t 1 _ _ _ _ _ _ _ HC.out (by omega) HT.out (hS0.out.below HK.base)).mono ?_
  rintro e w2 ⟨av, cv, rfl, ho, hq⟩
  replace HK := HK.below hq
  clear hq
  have z2 := HK.lt 0 rfl
  have hvl := spIn_own2 ho
  have hsl := SlAt.own ho
  clear ho
  generalize hR : rd bytes t (kN perm bytes t 1 n) = R at *
  generalize hF : fK perm bytes t 1 n = fk at *
  generalize hX : fX perm bytes t 1 n = fx at *
  have HR := Lib.hid hR
  have HF := Lib.hid hF
  have HX := Lib.hid hX
  clear hR hF hX
  have HOK := Lib.hid hok
  clear hok
  have hfk : (fk != 0) = true := by rw [← HF.out]; exact fK_ne hk
  clear hk
  have r_0 := HK.get 0 0 rfl rfl
  have r_f0 := HK.fz 0 0 rfl
  have r_1 := HK.get 0 1 rfl rfl
  have r_f1 := HK.fz 0 1 rfl
  have r_s := HK.lt 0 rfl
  have p_0 := HK.get 1 0 rfl rfl
  have p_1 := HK.get 1 1 rfl rfl
  have p_s := HK.lt 1 rfl
  have hK := HK.base
  have hvl' := Lib.hid hvl
  have hsl' := Lib.hid hsl
  clear hvl hsl
  go_wp2_with fail
  replace HK := HK.box (vs := [.int .i64 fk, .int .i64 fx]) (t := 34)
  have hsl2 := hsl'.out.below (b_alloc (o := .cells #[.int .i64 fk, .int .i64 fx] 34) (Below.refl _ _))
  refine (ib_c _ _ R _ hvl'.out hsl2 HOK.out).mono ?_
  rintro e w' ⟨rfl, hw⟩
  subst hw
  rw [hz]
  generalize R.length = rn at *
  obtain ⟨g1, g2⟩ := put2 (.int .i64 fk) (.int .i64 fx) r_0 r_1
  clear HK
  go_wp2
  go_region
  go_wp2
  refine bodyPost_ret (v := .tuple #[.string ⟨#[]⟩, .agg #[.int .i64 fk, .int .i64 fx], .int .i64 0]) (by simp [results, Try.results28, go_sem, g1, g2, r_s]) rfl ?_
  exact ⟨by rw [HF.out, HX.out], (b_alloc ((hK.setCell (by show _ ≤ w.heap.size + 1; omega) _).setCell (by show _ ≤ w.heap.size + 1; omega) _)).drew⟩
set_option maxHeartbeats 4000000 in
set_option maxRecDepth 100000 in
theorem string_y (a : Option Addr) (c : Nat) (a2 : Option Addr) (c2 : Nat) (perm bytes : List Int) (t : Int) (n : Nat) (w : World) (hs : SpIn w a c a2 c2 perm bytes) (hc : chk perm bytes.length = true) (hn : n ≤ 64) (ht : I64 t) (hok : okB (rd bytes t (kN perm bytes t 1 n))) (hz : zi (rd bytes t (kN perm bytes t 1 n)) = -1) (hk : kN perm bytes t 1 n = n) :
    Calls Try.prog 28 #[.agg #[.slice a perm.length c, .slice a2 bytes.length c2], .int .i64 t, .int .i64 (n : Int)] w fun e w' => e = .returned (.tuple #[.string (strB (rd bytes t (kN perm bytes t 1 n))), .agg #[.int .i64 0, .int .i64 0], .int .i64 0]) ∧ Below w.heap.size w w' := by
  have hn0 : ¬ ((n : Int) < 0) := by omega
  have hn1 : ¬ (64 < (n : Int)) := by omega
  have HT := Lib.hid ht
  clear ht
  have hS0 := Lib.hid hs
  clear hs
  have HC := Lib.hid hc
  clear hc
  go_enter Try.func28, Try.ntmps28
  have HK := Kw.start w
  go_wp2_with fail
  replace HK := HK.box (vs := [.slice a perm.length c, .slice a2 bytes.length c2]) (t := 25)
  replace HK := HK.box (vs := [.int .i64 0, .int .i64 0]) (t := 34)
  simp only [World.size_alloc] at HK
  refine (check_y _ _ _ _ _ _ _ (hS0.out.below HK.base) HC.out).mono ?_
  rintro e w1 ⟨rfl, hq⟩
  replace HK := HK.below hq
  clear hq
  have z1 := HK.lt 0 rfl
  have p_0 := HK.get 1 0 rfl rfl
  have p_1 := HK.get 1 1 rfl rfl
  have p_s := HK.lt 1 rfl
  go_wp2_with fail
  clear p_0 p_1 p_s
  refine (read_c n t 1 _ _ _ _ _ _ _ HC.out (by omega) HT.out (hS0.out.below HK.base)).mono ?_
  rintro e w2 ⟨av, cv, rfl, ho, hq⟩
  replace HK := HK.below hq
  clear hq
  have z2 := HK.lt 0 rfl
  have hvl := spIn_own2 ho
  have hsl := SlAt.own ho
  clear ho
  generalize hR : rd bytes t (kN perm bytes t 1 n) = R at *
  generalize hF : fK perm bytes t 1 n = fk at *
  generalize hX : fX perm bytes t 1 n = fx at *
  have HR := Lib.hid hR
  have HF := Lib.hid hF
  have HX := Lib.hid hX
  clear hR hF hX
  have HOK := Lib.hid hok
  clear hok
  have hfk : (fk != 0) = false := by rw [← HF.out]; exact fK_eq hk
  clear hk
  have r_0 := HK.get 0 0 rfl rfl
  have r_f0 := HK.fz 0 0 rfl
  have r_1 := HK.get 0 1 rfl rfl
  have r_f1 := HK.fz 0 1 rfl
  have r_s := HK.lt 0 rfl
  have p_0 := HK.get 1 0 rfl rfl
  have p_1 := HK.get 1 1 rfl rfl
  have p_s := HK.lt 1 rfl
  have hK := HK.base
  have hvl' := Lib.hid hvl
  have hsl' := Lib.hid hsl
  clear hvl hsl
  go_wp2_with fail
  replace HK := HK.box (vs := [.int .i64 fk, .int .i64 fx]) (t := 34)
  have hsl2 := hsl'.out.below (b_alloc (o := .cells #[.int .i64 fk, .int .i64 fx] 34) (Below.refl _ _))
  refine (ib_c _ _ R _ hvl'.out hsl2 HOK.out).mono ?_
  rintro e w' ⟨rfl, hw⟩
  subst hw
  rw [hz]
  have hcv := str_c hvl'.out hsl2 HOK.out
  generalize hSt : strB R = St at *
  have HSt := Lib.hid hSt
  clear hSt
  generalize R.length = rn at *
  obtain ⟨g1, g2⟩ := put2 (.int .i64 0) (.int .i64 0) r_0 r_1
  clear HK
  go_wp2
  refine bodyPost_ret (v := .tuple #[.string St, .agg #[.int .i64 0, .int .i64 0], .int .i64 0]) (by simp [results, Try.results28, go_sem, g1, g2, r_s]) rfl ?_
  exact ⟨by rw [HR.out, HSt.out], b_alloc ((hK.setCell (by show _ ≤ w.heap.size + 1; omega) _).setCell (by show _ ≤ w.heap.size + 1; omega) _)⟩
end Go.Proofs.Ytdbcbmdekdfdoaa
