/- WHAT IS PROVED: mem.Store, mem.Poke, for every space, address, type, value and bytes. CONDITIONS: the slices' cells hold the lists. -/
import Derived.Test.YtdbcbmdekdfdoaaSt
namespace Go.Proofs.Ytdbcbmdekdfdoaa
open Go Go.RowKit Go.QrBits Go.QrMem

theorem write_fn (t need : Int) (a : Option Addr) (c : Nat) (a2 : Option Addr) (c2 : Nat) (ab : Option Addr) (cb nb : Nat) (perm bytes bs : List Int) (w : World) (hs : SpIn w a c a2 c2 perm bytes) (hsb : SlAt w ab (bV bs)) (hc : chk perm bytes.length = true) (hn : nb ≤ 4096) (hl : bs.length = nb) (ht : I64 t) (hk : kN perm bytes t need nb < nb) : Calls Try.prog 64 #[.agg #[.slice a perm.length c, .slice a2 bytes.length c2], .int .i64 t, .slice ab nb cb, .int .i64 need] w fun e w' => e = .returned (.tuple #[.agg #[.slice none 0 0, .slice none 0 0], .agg #[.int .i64 (fK perm bytes t need nb), .int .i64 (fX perm bytes t need nb)]]) ∧ Below w.heap.size w w' := by
  subst hl; exact write_f t need a c a2 c2 ab cb perm bytes bs w hs hsb hc hn ht hk
theorem write_yn (t need : Int) (a : Option Addr) (c : Nat) (a2 : Option Addr) (c2 : Nat) (ab : Option Addr) (cb nb : Nat) (perm bytes bs : List Int) (w : World) (hs : SpIn w a c a2 c2 perm bytes) (hsb : SlAt w ab (bV bs)) (hc : chk perm bytes.length = true) (hn : nb ≤ 4096) (hl : bs.length = nb) (ht : I64 t) (hk : kN perm bytes t need nb = nb) : Calls Try.prog 64 #[.agg #[.slice a perm.length c, .slice a2 bytes.length c2], .int .i64 t, .slice ab nb cb, .int .i64 need] w (WritePost perm (wrB bytes t bs nb) w) := by
  subst hl; exact write_y t need a c a2 c2 ab cb perm bytes bs w hs hsb hc hn ht hk
theorem put22 {w : World} {b b2 : Nat} {o0 o1 o2 o3 : Value} (x y u v : Value) (e0 : w.cell? ⟨b, 0, none⟩ = some o0) (e1 : w.cell? ⟨b, 1, none⟩ = some o1) (e2 : w.cell? ⟨b2, 0, none⟩ = some o2) (e3 : w.cell? ⟨b2, 1, none⟩ = some o3) (hne : b2 ≠ b) :
    (w.setCell ⟨b, 0, none⟩ x).cell? ⟨b, 0, none⟩ = some x ∧ ((w.setCell ⟨b, 0, none⟩ x).setCell ⟨b, 1, none⟩ y).cell? ⟨b, 1, none⟩ = some y ∧
    ((((w.setCell ⟨b, 0, none⟩ x).setCell ⟨b, 1, none⟩ y).setCell ⟨b2, 0, none⟩ u).cell? ⟨b2, 0, none⟩ = some u) ∧
    ((((w.setCell ⟨b, 0, none⟩ x).setCell ⟨b, 1, none⟩ y).setCell ⟨b2, 0, none⟩ u).setCell ⟨b2, 1, none⟩ v).cell? ⟨b2, 1, none⟩ = some v := by
  obtain ⟨g1, g2⟩ := put2 x y e0 e1
  obtain ⟨g3, g4⟩ := put2 u v (((set_ne (w.setCell ⟨b, 0, none⟩ x) (b := b2) (g := b) 0 1 y hne).trans (set_ne w 0 0 x hne)).trans e2) (((set_ne (w.setCell ⟨b, 0, none⟩ x) (b := b2) (g := b) 1 1 y hne).trans (set_ne w 1 0 x hne)).trans e3)
  exact ⟨g1, g2, g3, g4⟩
theorem SlAt.own {w : World} {base n c : Nat} {e : TypeId} {a : Option Addr} {xs : List Value} (h : w.ownsRow base e 1 (.slice a n c) n xs) : SlAt w a xs := by
  have hl := h.1
  rcases Nat.eq_zero_or_pos n with h0 | h0
  · left; exact List.eq_nil_of_length_eq_zero (by omega)
  · obtain ⟨b, rfl, _, hb⟩ := own_open h h0
    right; refine ⟨b, 0, rfl, hb, fun j x hx => ?_⟩
    have hj := (List.getElem?_eq_some_iff.1 hx).1
    rw [Nat.zero_add, h.cellAt j (by omega)]; exact hx
/-- What Store and Poke hand back where there is no fault. -/
def StPost (perm bytes : List Int) (w : World) (e : Ending) (w' : World) : Prop :=
  ∃ v : Value, e = .returned (.tuple #[v, .agg #[.int .i64 0, .int .i64 0], .int .i64 0]) ∧ OwnSp w.heap.size w' v perm bytes ∧ Below w.heap.size w w'
set_option maxHeartbeats 4000000 in
set_option maxRecDepth 100000 in
theorem store_n (a : Option Addr) (c : Nat) (a2 : Option Addr) (c2 : Nat) (perm bytes : List Int) (t n x : Int) (g : Bool) (w : World) (hs : SpIn w a c a2 c2 perm bytes) (hc : chk perm bytes.length = false) :
    Calls Try.prog 34 #[.agg #[.slice a perm.length c, .slice a2 bytes.length c2], .int .i64 t, .agg #[.int .i64 n, .bool g], .int .i64 x] w fun e w' => e = .returned (.tuple #[.agg #[.slice none 0 0, .slice none 0 0], .agg #[.int .i64 0, .int .i64 0], .int .i64 30]) ∧ Below w.heap.size w w' := by
  have HC := Lib.hid hc
  have HS := Lib.hid hs
  clear hc hs
  go_enter Try.func34, Try.ntmps34
  have HK := Kw.start w
  go_wp2_with fail
  replace HK := HK.box (vs := [.slice a perm.length c, .slice a2 bytes.length c2]) (t := 25)
  replace HK := HK.box (vs := [.int .i64 n, .bool g]) (t := 64)
  replace HK := HK.box (vs := [.slice none 0 0, .slice none 0 0]) (t := 25)
  replace HK := HK.box (vs := [.int .i64 0, .int .i64 0]) (t := 34)
  simp only [World.size_alloc] at HK
  refine (type_n _ _ _ _ _ _ n g _ (HS.out.below HK.base) HC.out).mono ?_
  rintro e w1 ⟨rfl, hq⟩
  replace HK := HK.below hq
  have rf_0 := HK.get 0 0 rfl rfl
  have rf_f0 := HK.fz 0 0 rfl
  have rf_1 := HK.get 0 1 rfl rfl
  have rf_f1 := HK.fz 0 1 rfl
  have rf_s := HK.lt 0 rfl
  have r_0 := HK.get 1 0 rfl rfl
  have r_f0 := HK.fz 1 0 rfl
  have r_1 := HK.get 1 1 rfl rfl
  have r_f1 := HK.fz 1 1 rfl
  have r_s := HK.lt 1 rfl
  have ty_0 := HK.get 2 0 rfl rfl
  have ty_1 := HK.get 2 1 rfl rfl
  have ty_s := HK.lt 2 rfl
  have p_0 := HK.get 3 0 rfl rfl
  have p_1 := HK.get 3 1 rfl rfl
  have p_s := HK.lt 3 rfl
  have hK := HK.base
  have hsz := hK.size
  have hsz' : w.heap.size + 1 + 1 + 1 ≠ w.heap.size + 1 + 1 := by omega
  obtain ⟨g1, g2, g3, g4⟩ := put22 (.slice none 0 0) (.slice none 0 0) (.int .i64 0) (.int .i64 0) r_0 r_1 rf_0 rf_1 hsz'
  clear HK
  go_wp2
  refine bodyPost_ret (v := .tuple #[.agg #[.slice none 0 0, .slice none 0 0], .agg #[.int .i64 0, .int .i64 0], .int .i64 30]) (by simp [results, Try.results34, go_sem, g1, g2, g3, g4]) rfl ⟨rfl, ?_⟩
  exact ((((hK.setCell (by show _ ≤ w.heap.size + 1 + 1; omega) _).setCell (by show _ ≤ w.heap.size + 1 + 1; omega) _).setCell (by show _ ≤ w.heap.size + 1 + 1 + 1; omega) _).setCell (by show _ ≤ w.heap.size + 1 + 1 + 1; omega) _)
set_option maxHeartbeats 4000000 in
set_option maxRecDepth 100000 in
theorem store_p (a : Option Addr) (c : Nat) (a2 : Option Addr) (c2 : Nat) (perm bytes : List Int) (t n x : Int) (g : Bool) (w : World) (hs : SpIn w a c a2 c2 perm bytes) (hc : chk perm bytes.length = true) (hv : vB n = false) :
    Calls Try.prog 34 #[.agg #[.slice a perm.length c, .slice a2 bytes.length c2], .int .i64 t, .agg #[.int .i64 n, .bool g], .int .i64 x] w fun e w' => e = .returned (.tuple #[.agg #[.slice none 0 0, .slice none 0 0], .agg #[.int .i64 0, .int .i64 0], .int .i64 10]) ∧ Below w.heap.size w w' := by
  have HC := Lib.hid hc
  have HS := Lib.hid hs
  clear hc hs
  go_enter Try.func34, Try.ntmps34
  have HK := Kw.start w
  go_wp2_with fail
  replace HK := HK.box (vs := [.slice a perm.length c, .slice a2 bytes.length c2]) (t := 25)
  replace HK := HK.box (vs := [.int .i64 n, .bool g]) (t := 64)
  replace HK := HK.box (vs := [.slice none 0 0, .slice none 0 0]) (t := 25)
  replace HK := HK.box (vs := [.int .i64 0, .int .i64 0]) (t := 34)
  simp only [World.size_alloc] at HK
  refine (type_p _ _ _ _ _ _ n g _ (HS.out.below HK.base) HC.out hv).mono ?_
  rintro e w1 ⟨rfl, hq⟩
  replace HK := HK.below hq
  have rf_0 := HK.get 0 0 rfl rfl
  have rf_f0 := HK.fz 0 0 rfl
  have rf_1 := HK.get 0 1 rfl rfl
  have rf_f1 := HK.fz 0 1 rfl
  have rf_s := HK.lt 0 rfl
  have r_0 := HK.get 1 0 rfl rfl
  have r_f0 := HK.fz 1 0 rfl
  have r_1 := HK.get 1 1 rfl rfl
  have r_f1 := HK.fz 1 1 rfl
  have r_s := HK.lt 1 rfl
  have ty_0 := HK.get 2 0 rfl rfl
  have ty_1 := HK.get 2 1 rfl rfl
  have ty_s := HK.lt 2 rfl
  have p_0 := HK.get 3 0 rfl rfl
  have p_1 := HK.get 3 1 rfl rfl
  have p_s := HK.lt 3 rfl
  have hK := HK.base
  have hsz := hK.size
  have hsz' : w.heap.size + 1 + 1 + 1 ≠ w.heap.size + 1 + 1 := by omega
  obtain ⟨g1, g2, g3, g4⟩ := put22 (.slice none 0 0) (.slice none 0 0) (.int .i64 0) (.int .i64 0) r_0 r_1 rf_0 rf_1 hsz'
  clear HK
  go_wp2
  refine bodyPost_ret (v := .tuple #[.agg #[.slice none 0 0, .slice none 0 0], .agg #[.int .i64 0, .int .i64 0], .int .i64 10]) (by simp [results, Try.results34, go_sem, g1, g2, g3, g4]) rfl ⟨rfl, ?_⟩
  exact ((((hK.setCell (by show _ ≤ w.heap.size + 1 + 1; omega) _).setCell (by show _ ≤ w.heap.size + 1 + 1; omega) _).setCell (by show _ ≤ w.heap.size + 1 + 1 + 1; omega) _).setCell (by show _ ≤ w.heap.size + 1 + 1 + 1; omega) _)
set_option maxHeartbeats 4000000 in
set_option maxRecDepth 100000 in
theorem store_f (a : Option Addr) (c : Nat) (a2 : Option Addr) (c2 : Nat) (perm bytes : List Int) (t x : Int) (n : Nat) (g : Bool) (w : World) (hs : SpIn w a c a2 c2 perm bytes) (hc : chk perm bytes.length = true) (hv : vB (n : Int) = true) (ht : I64 t) (hk : kN perm bytes t 2 n < n) :
    Calls Try.prog 34 #[.agg #[.slice a perm.length c, .slice a2 bytes.length c2], .int .i64 t, .agg #[.int .i64 (n : Int), .bool g], .int .i64 x] w fun e w' => e = .returned (.tuple #[.agg #[.slice none 0 0, .slice none 0 0], .agg #[(.int .i64 (fK perm bytes t 2 n)), (.int .i64 (fX perm bytes t 2 n))], .int .i64 0]) ∧ Below w.heap.size w w' := by
  have HC := Lib.hid hc
  have HS := Lib.hid hs
  clear hc hs
  have HT := Lib.hid ht
  clear ht
  obtain ⟨hn0, hn8⟩ := vB_le hv
  have HN := Lib.hid hk
  clear hk
  go_enter Try.func34, Try.ntmps34
  have HK := Kw.start w
  go_wp2_with fail
  replace HK := HK.box (vs := [.slice a perm.length c, .slice a2 bytes.length c2]) (t := 25)
  replace HK := HK.box (vs := [.int .i64 (n : Int), .bool g]) (t := 64)
  replace HK := HK.box (vs := [.slice none 0 0, .slice none 0 0]) (t := 25)
  replace HK := HK.box (vs := [.int .i64 0, .int .i64 0]) (t := 34)
  simp only [World.size_alloc] at HK
  refine (type_y _ _ _ _ _ _ n g _ (HS.out.below HK.base) HC.out hv).mono ?_
  rintro e w1 ⟨rfl, hq⟩
  replace HK := HK.below hq
  have rf_0 := HK.get 0 0 rfl rfl
  have rf_f0 := HK.fz 0 0 rfl
  have rf_1 := HK.get 0 1 rfl rfl
  have rf_f1 := HK.fz 0 1 rfl
  have rf_s := HK.lt 0 rfl
  have r_0 := HK.get 1 0 rfl rfl
  have r_f0 := HK.fz 1 0 rfl
  have r_1 := HK.get 1 1 rfl rfl
  have r_f1 := HK.fz 1 1 rfl
  have r_s := HK.lt 1 rfl
  have ty_0 := HK.get 2 0 rfl rfl
  have ty_1 := HK.get 2 1 rfl rfl
  have ty_s := HK.lt 2 rfl
  have p_0 := HK.get 3 0 rfl rfl
  have p_1 := HK.get 3 1 rfl rfl
  have p_s := HK.lt 3 rfl
  go_wp2_with fail
  clear rf_0 rf_f0 rf_1 rf_f1 rf_s r_0 r_f0 r_1 r_f1 r_s ty_0 ty_1 ty_s p_0 p_1 p_s
  refine (bytes_c n g x _ hv).mono ?_
  rintro e w2 ⟨B, rfl, hob, hqb⟩
  replace HK := HK.below hqb
  have rf_0 := HK.get 0 0 rfl rfl
  have rf_f0 := HK.fz 0 0 rfl
  have rf_1 := HK.get 0 1 rfl rfl
  have rf_f1 := HK.fz 0 1 rfl
  have rf_s := HK.lt 0 rfl
  have r_0 := HK.get 1 0 rfl rfl
  have r_f0 := HK.fz 1 0 rfl
  have r_1 := HK.get 1 1 rfl rfl
  have r_f1 := HK.fz 1 1 rfl
  have r_s := HK.lt 1 rfl
  have ty_0 := HK.get 2 0 rfl rfl
  have ty_1 := HK.get 2 1 rfl rfl
  have ty_s := HK.lt 2 rfl
  have p_0 := HK.get 3 0 rfl rfl
  have p_1 := HK.get 3 1 rfl rfl
  have p_s := HK.lt 3 rfl
  go_wp2_with fail
  clear rf_0 rf_f0 rf_1 rf_f1 rf_s r_0 r_f0 r_1 r_f1 r_s ty_0 ty_1 ty_s p_0 p_1 p_s
  refine (write_fn t 2 _ _ _ _ _ _ n _ _ (byL n x) _ (HS.out.below HK.base) (SlAt.own hob) HC.out (by omega) (byL_len _ _) HT.out HN.out).mono ?_
  rintro e w3 ⟨rfl, hq⟩
  replace HK := HK.below hq
  clear hob
  have rf_0 := HK.get 0 0 rfl rfl
  have rf_f0 := HK.fz 0 0 rfl
  have rf_1 := HK.get 0 1 rfl rfl
  have rf_f1 := HK.fz 0 1 rfl
  have rf_s := HK.lt 0 rfl
  have r_0 := HK.get 1 0 rfl rfl
  have r_f0 := HK.fz 1 0 rfl
  have r_1 := HK.get 1 1 rfl rfl
  have r_f1 := HK.fz 1 1 rfl
  have r_s := HK.lt 1 rfl
  have ty_0 := HK.get 2 0 rfl rfl
  have ty_1 := HK.get 2 1 rfl rfl
  have ty_s := HK.lt 2 rfl
  have p_0 := HK.get 3 0 rfl rfl
  have p_1 := HK.get 3 1 rfl rfl
  have p_s := HK.lt 3 rfl
  have hK := HK.base
  have hsz := hK.size
  have hsz' : w.heap.size + 1 + 1 + 1 ≠ w.heap.size + 1 + 1 := by omega
  obtain ⟨g1, g2, g3, g4⟩ := put22 (.slice none 0 0) (.slice none 0 0) (.int .i64 (fK perm bytes t 2 n)) (.int .i64 (fX perm bytes t 2 n)) r_0 r_1 rf_0 rf_1 hsz'
  clear HK
  go_wp2
  go_region
  go_wp2
  have r_s2 : w.heap.size + 1 + 1 < w3.heap.size + 1 := by omega
  have rf_s2 : w.heap.size + 1 + 1 + 1 < w3.heap.size + 1 := by omega
  refine bodyPost_ret (v := .tuple #[.agg #[.slice none 0 0, .slice none 0 0], .agg #[(.int .i64 (fK perm bytes t 2 n)), (.int .i64 (fX perm bytes t 2 n))], .int .i64 0]) (by simp [results, Try.results34, go_sem, g1, g2, g3, g4, r_s, rf_s, r_s2, rf_s2]) rfl ⟨rfl, ?_⟩
  exact ((((((hK.setCell (by show _ ≤ w.heap.size + 1 + 1; omega) _).setCell (by show _ ≤ w.heap.size + 1 + 1; omega) _).setCell (by show _ ≤ w.heap.size + 1 + 1 + 1; omega) _).setCell (by show _ ≤ w.heap.size + 1 + 1 + 1; omega) _).alloc (by simp; omega) _).alloc (by simp; omega) _).drew
set_option maxHeartbeats 4000000 in
set_option maxRecDepth 100000 in
theorem store_y (a : Option Addr) (c : Nat) (a2 : Option Addr) (c2 : Nat) (perm bytes : List Int) (t x : Int) (n : Nat) (g : Bool) (w : World) (hs : SpIn w a c a2 c2 perm bytes) (hc : chk perm bytes.length = true) (hv : vB (n : Int) = true) (ht : I64 t) (hk : kN perm bytes t 2 n = n) :
    Calls Try.prog 34 #[.agg #[.slice a perm.length c, .slice a2 bytes.length c2], .int .i64 t, .agg #[.int .i64 (n : Int), .bool g], .int .i64 x] w (StPost perm (wrB bytes t (byL n x) n) w) := by
  have HC := Lib.hid hc
  have HS := Lib.hid hs
  clear hc hs
  have HT := Lib.hid ht
  clear ht
  obtain ⟨hn0, hn8⟩ := vB_le hv
  have HN := Lib.hid hk
  clear hk
  go_enter Try.func34, Try.ntmps34
  have HK := Kw.start w
  go_wp2_with fail
  replace HK := HK.box (vs := [.slice a perm.length c, .slice a2 bytes.length c2]) (t := 25)
  replace HK := HK.box (vs := [.int .i64 (n : Int), .bool g]) (t := 64)
  replace HK := HK.box (vs := [.slice none 0 0, .slice none 0 0]) (t := 25)
  replace HK := HK.box (vs := [.int .i64 0, .int .i64 0]) (t := 34)
  simp only [World.size_alloc] at HK
  refine (type_y _ _ _ _ _ _ n g _ (HS.out.below HK.base) HC.out hv).mono ?_
  rintro e w1 ⟨rfl, hq⟩
  replace HK := HK.below hq
  have rf_0 := HK.get 0 0 rfl rfl
  have rf_f0 := HK.fz 0 0 rfl
  have rf_1 := HK.get 0 1 rfl rfl
  have rf_f1 := HK.fz 0 1 rfl
  have rf_s := HK.lt 0 rfl
  have r_0 := HK.get 1 0 rfl rfl
  have r_f0 := HK.fz 1 0 rfl
  have r_1 := HK.get 1 1 rfl rfl
  have r_f1 := HK.fz 1 1 rfl
  have r_s := HK.lt 1 rfl
  have ty_0 := HK.get 2 0 rfl rfl
  have ty_1 := HK.get 2 1 rfl rfl
  have ty_s := HK.lt 2 rfl
  have p_0 := HK.get 3 0 rfl rfl
  have p_1 := HK.get 3 1 rfl rfl
  have p_s := HK.lt 3 rfl
  go_wp2_with fail
  clear rf_0 rf_f0 rf_1 rf_f1 rf_s r_0 r_f0 r_1 r_f1 r_s ty_0 ty_1 ty_s p_0 p_1 p_s
  refine (bytes_c n g x _ hv).mono ?_
  rintro e w2 ⟨B, rfl, hob, hqb⟩
  replace HK := HK.below hqb
  have rf_0 := HK.get 0 0 rfl rfl
  have rf_f0 := HK.fz 0 0 rfl
  have rf_1 := HK.get 0 1 rfl rfl
  have rf_f1 := HK.fz 0 1 rfl
  have rf_s := HK.lt 0 rfl
  have r_0 := HK.get 1 0 rfl rfl
  have r_f0 := HK.fz 1 0 rfl
  have r_1 := HK.get 1 1 rfl rfl
  have r_f1 := HK.fz 1 1 rfl
  have r_s := HK.lt 1 rfl
  have ty_0 := HK.get 2 0 rfl rfl
  have ty_1 := HK.get 2 1 rfl rfl
  have ty_s := HK.lt 2 rfl
  have p_0 := HK.get 3 0 rfl rfl
  have p_1 := HK.get 3 1 rfl rfl
  have p_s := HK.lt 3 rfl
  go_wp2_with fail
  clear rf_0 rf_f0 rf_1 rf_f1 rf_s r_0 r_f0 r_1 r_f1 r_s ty_0 ty_1 ty_s p_0 p_1 p_s
  have r_b := HK.lt 1 rfl
  have rf_b := HK.lt 0 rfl
  have hzb := HK.size
  refine (write_yn t 2 _ _ _ _ _ _ n _ _ (byL n x) _ (HS.out.below HK.base) (SlAt.own hob) HC.out (by omega) (byL_len _ _) HT.out HN.out).mono ?_
  rintro e w3 ⟨v, rfl, ⟨a', c', a2', c2', rfl, ho1, ho2⟩, hq⟩
  replace HK := HK.below hq
  clear hob
  have rf_0 := HK.get 0 0 rfl rfl
  have rf_f0 := HK.fz 0 0 rfl
  have rf_1 := HK.get 0 1 rfl rfl
  have rf_f1 := HK.fz 0 1 rfl
  have rf_s := HK.lt 0 rfl
  have r_0 := HK.get 1 0 rfl rfl
  have r_f0 := HK.fz 1 0 rfl
  have r_1 := HK.get 1 1 rfl rfl
  have r_f1 := HK.fz 1 1 rfl
  have r_s := HK.lt 1 rfl
  have ty_0 := HK.get 2 0 rfl rfl
  have ty_1 := HK.get 2 1 rfl rfl
  have ty_s := HK.lt 2 rfl
  have p_0 := HK.get 3 0 rfl rfl
  have p_1 := HK.get 3 1 rfl rfl
  have p_s := HK.lt 3 rfl
  have hK := HK.base
  have hsz := hK.size
  have hsz' : w.heap.size + 1 + 1 + 1 ≠ w.heap.size + 1 + 1 := by omega
  obtain ⟨g1, g2, g3, g4⟩ := put22 (.slice a' perm.length c') (.slice a2' (wrB bytes t (byL n x) n).length c2') (.int .i64 0) (.int .i64 0) r_0 r_1 rf_0 rf_1 hsz'
  clear HK
  go_wp2
  go_region
  go_wp2
  have r_s2 : w.heap.size + 1 + 1 < w3.heap.size + 1 := by omega
  have rf_s2 : w.heap.size + 1 + 1 + 1 < w3.heap.size + 1 := by omega
  refine bodyPost_ret (v := .tuple #[.agg #[(.slice a' perm.length c'), (.slice a2' (wrB bytes t (byL n x) n).length c2')], .agg #[.int .i64 0, .int .i64 0], .int .i64 0]) (by simp [results, Try.results34, go_sem, g1, g2, g3, g4, r_s, rf_s, r_s2, rf_s2]) rfl ⟨_, rfl, ⟨a', c', a2', c2', rfl, ?_, ?_⟩, ?_⟩
  · exact ownsRow_base (((ownsRow_setCell_below (ownsRow_setCell_below (ownsRow_setCell_below (ownsRow_setCell_below ho1 (by show w.heap.size + 1 + 1 < w2.heap.size; omega) _) (by show w.heap.size + 1 + 1 < w2.heap.size; omega) _) (by show w.heap.size + 1 + 1 + 1 < w2.heap.size; omega) _) (by show w.heap.size + 1 + 1 + 1 < w2.heap.size; omega) _).alloc _).alloc _) (by omega)
  · exact ownsRow_base (((ownsRow_setCell_below (ownsRow_setCell_below (ownsRow_setCell_below (ownsRow_setCell_below ho2 (by show w.heap.size + 1 + 1 < w2.heap.size; omega) _) (by show w.heap.size + 1 + 1 < w2.heap.size; omega) _) (by show w.heap.size + 1 + 1 + 1 < w2.heap.size; omega) _) (by show w.heap.size + 1 + 1 + 1 < w2.heap.size; omega) _).alloc _).alloc _) (by omega)
  · exact ((((((hK.setCell (by show _ ≤ w.heap.size + 1 + 1; omega) _).setCell (by show _ ≤ w.heap.size + 1 + 1; omega) _).setCell (by show _ ≤ w.heap.size + 1 + 1 + 1; omega) _).setCell (by show _ ≤ w.heap.size + 1 + 1 + 1; omega) _).alloc (by simp; omega) _).alloc (by simp; omega) _).drew
set_option maxHeartbeats 4000000 in
set_option maxRecDepth 100000 in
theorem poke_n (a : Option Addr) (c : Nat) (a2 : Option Addr) (c2 : Nat) (perm bytes : List Int) (t : Int) (ab : Option Addr) (nb cb : Nat) (w : World) (hs : SpIn w a c a2 c2 perm bytes) (hc : chk perm bytes.length = false) :
    Calls Try.prog 35 #[.agg #[.slice a perm.length c, .slice a2 bytes.length c2], .int .i64 t, .slice ab nb cb] w fun e w' => e = .returned (.tuple #[.agg #[.slice none 0 0, .slice none 0 0], .agg #[.int .i64 0, .int .i64 0], .int .i64 30]) ∧ Below w.heap.size w w' := by
  have HC := Lib.hid hc
  have HS := Lib.hid hs
  clear hc hs
  go_enter Try.func35, Try.ntmps35
  have HK := Kw.start w
  go_wp2_with fail
  replace HK := HK.box (vs := [.slice a perm.length c, .slice a2 bytes.length c2]) (t := 25)
  replace HK := HK.box (vs := [.slice none 0 0, .slice none 0 0]) (t := 25)
  replace HK := HK.box (vs := [.int .i64 0, .int .i64 0]) (t := 34)
  simp only [World.size_alloc] at HK
  refine (check_n _ _ _ _ _ _ _ (HS.out.below HK.base) HC.out).mono ?_
  rintro e w1 ⟨rfl, hq⟩
  replace HK := HK.below hq
  have rf_0 := HK.get 0 0 rfl rfl
  have rf_f0 := HK.fz 0 0 rfl
  have rf_1 := HK.get 0 1 rfl rfl
  have rf_f1 := HK.fz 0 1 rfl
  have rf_s := HK.lt 0 rfl
  have r_0 := HK.get 1 0 rfl rfl
  have r_f0 := HK.fz 1 0 rfl
  have r_1 := HK.get 1 1 rfl rfl
  have r_f1 := HK.fz 1 1 rfl
  have r_s := HK.lt 1 rfl
  have p_0 := HK.get 2 0 rfl rfl
  have p_1 := HK.get 2 1 rfl rfl
  have p_s := HK.lt 2 rfl
  have hK := HK.base
  have hsz := hK.size
  have hsz' : w.heap.size + 1 + 1 ≠ w.heap.size + 1 := by omega
  obtain ⟨g1, g2, g3, g4⟩ := put22 (.slice none 0 0) (.slice none 0 0) (.int .i64 0) (.int .i64 0) r_0 r_1 rf_0 rf_1 hsz'
  clear HK
  go_wp2
  refine bodyPost_ret (v := .tuple #[.agg #[.slice none 0 0, .slice none 0 0], .agg #[.int .i64 0, .int .i64 0], .int .i64 30]) (by simp [results, Try.results35, go_sem, g1, g2, g3, g4]) rfl ⟨rfl, ?_⟩
  exact ((((hK.setCell (by show _ ≤ w.heap.size + 1; omega) _).setCell (by show _ ≤ w.heap.size + 1; omega) _).setCell (by show _ ≤ w.heap.size + 1 + 1; omega) _).setCell (by show _ ≤ w.heap.size + 1 + 1; omega) _)
set_option maxHeartbeats 4000000 in
set_option maxRecDepth 100000 in
theorem poke_l (a : Option Addr) (c : Nat) (a2 : Option Addr) (c2 : Nat) (perm bytes : List Int) (t : Int) (ab : Option Addr) (nb cb : Nat) (w : World) (hs : SpIn w a c a2 c2 perm bytes) (hc : chk perm bytes.length = true) (hn : 2048 < nb) :
    Calls Try.prog 35 #[.agg #[.slice a perm.length c, .slice a2 bytes.length c2], .int .i64 t, .slice ab nb cb] w fun e w' => e = .returned (.tuple #[.agg #[.slice none 0 0, .slice none 0 0], .agg #[.int .i64 0, .int .i64 0], .int .i64 2]) ∧ Below w.heap.size w w' := by
  have HC := Lib.hid hc
  have HS := Lib.hid hs
  clear hc hs
  go_enter Try.func35, Try.ntmps35
  have HK := Kw.start w
  go_wp2_with fail
  replace HK := HK.box (vs := [.slice a perm.length c, .slice a2 bytes.length c2]) (t := 25)
  replace HK := HK.box (vs := [.slice none 0 0, .slice none 0 0]) (t := 25)
  replace HK := HK.box (vs := [.int .i64 0, .int .i64 0]) (t := 34)
  simp only [World.size_alloc] at HK
  refine (check_y _ _ _ _ _ _ _ (HS.out.below HK.base) HC.out).mono ?_
  rintro e w1 ⟨rfl, hq⟩
  replace HK := HK.below hq
  have rf_0 := HK.get 0 0 rfl rfl
  have rf_f0 := HK.fz 0 0 rfl
  have rf_1 := HK.get 0 1 rfl rfl
  have rf_f1 := HK.fz 0 1 rfl
  have rf_s := HK.lt 0 rfl
  have r_0 := HK.get 1 0 rfl rfl
  have r_f0 := HK.fz 1 0 rfl
  have r_1 := HK.get 1 1 rfl rfl
  have r_f1 := HK.fz 1 1 rfl
  have r_s := HK.lt 1 rfl
  have p_0 := HK.get 2 0 rfl rfl
  have p_1 := HK.get 2 1 rfl rfl
  have p_s := HK.lt 2 rfl
  have hK := HK.base
  have hsz := hK.size
  have hsz' : w.heap.size + 1 + 1 ≠ w.heap.size + 1 := by omega
  obtain ⟨g1, g2, g3, g4⟩ := put22 (.slice none 0 0) (.slice none 0 0) (.int .i64 0) (.int .i64 0) r_0 r_1 rf_0 rf_1 hsz'
  clear HK
  go_wp2
  refine bodyPost_ret (v := .tuple #[.agg #[.slice none 0 0, .slice none 0 0], .agg #[.int .i64 0, .int .i64 0], .int .i64 2]) (by simp [results, Try.results35, go_sem, g1, g2, g3, g4]) rfl ⟨rfl, ?_⟩
  exact ((((hK.setCell (by show _ ≤ w.heap.size + 1; omega) _).setCell (by show _ ≤ w.heap.size + 1; omega) _).setCell (by show _ ≤ w.heap.size + 1 + 1; omega) _).setCell (by show _ ≤ w.heap.size + 1 + 1; omega) _)
set_option maxHeartbeats 4000000 in
set_option maxRecDepth 100000 in
theorem poke_f (a : Option Addr) (c : Nat) (a2 : Option Addr) (c2 : Nat) (perm bytes : List Int) (t : Int) (ab : Option Addr) (nb cb : Nat) (bs : List Int) (w : World) (hs : SpIn w a c a2 c2 perm bytes) (hsb : SlAt w ab (bV bs)) (hl : bs.length = nb) (hc : chk perm bytes.length = true) (hn : nb ≤ 2048) (ht : I64 t) (hk : kN perm bytes t 0 nb < nb) :
    Calls Try.prog 35 #[.agg #[.slice a perm.length c, .slice a2 bytes.length c2], .int .i64 t, .slice ab nb cb] w fun e w' => e = .returned (.tuple #[.agg #[.slice none 0 0, .slice none 0 0], .agg #[(.int .i64 (fK perm bytes t 0 nb)), (.int .i64 (fX perm bytes t 0 nb))], .int .i64 0]) ∧ Below w.heap.size w w' := by
  have HC := Lib.hid hc
  have HS := Lib.hid hs
  clear hc hs
  have HT := Lib.hid ht
  clear ht
  have HB := Lib.hid hsb
  have HN := Lib.hid hk
  have HL := Lib.hid hl
  clear hsb hk hl
  go_enter Try.func35, Try.ntmps35
  have HK := Kw.start w
  go_wp2_with fail
  replace HK := HK.box (vs := [.slice a perm.length c, .slice a2 bytes.length c2]) (t := 25)
  replace HK := HK.box (vs := [.slice none 0 0, .slice none 0 0]) (t := 25)
  replace HK := HK.box (vs := [.int .i64 0, .int .i64 0]) (t := 34)
  simp only [World.size_alloc] at HK
  refine (check_y _ _ _ _ _ _ _ (HS.out.below HK.base) HC.out).mono ?_
  rintro e w1 ⟨rfl, hq⟩
  replace HK := HK.below hq
  have rf_0 := HK.get 0 0 rfl rfl
  have rf_f0 := HK.fz 0 0 rfl
  have rf_1 := HK.get 0 1 rfl rfl
  have rf_f1 := HK.fz 0 1 rfl
  have rf_s := HK.lt 0 rfl
  have r_0 := HK.get 1 0 rfl rfl
  have r_f0 := HK.fz 1 0 rfl
  have r_1 := HK.get 1 1 rfl rfl
  have r_f1 := HK.fz 1 1 rfl
  have r_s := HK.lt 1 rfl
  have p_0 := HK.get 2 0 rfl rfl
  have p_1 := HK.get 2 1 rfl rfl
  have p_s := HK.lt 2 rfl
  go_wp2_with fail
  clear rf_0 rf_f0 rf_1 rf_f1 rf_s r_0 r_f0 r_1 r_f1 r_s p_0 p_1 p_s
  refine (write_fn t 0 _ _ _ _ ab cb nb _ _ bs _ (HS.out.below HK.base) (HB.out.below HK.base) HC.out (by omega) HL.out HT.out HN.out).mono ?_
  rintro e w2 ⟨rfl, hq⟩
  replace HK := HK.below hq
  have rf_0 := HK.get 0 0 rfl rfl
  have rf_f0 := HK.fz 0 0 rfl
  have rf_1 := HK.get 0 1 rfl rfl
  have rf_f1 := HK.fz 0 1 rfl
  have rf_s := HK.lt 0 rfl
  have r_0 := HK.get 1 0 rfl rfl
  have r_f0 := HK.fz 1 0 rfl
  have r_1 := HK.get 1 1 rfl rfl
  have r_f1 := HK.fz 1 1 rfl
  have r_s := HK.lt 1 rfl
  have p_0 := HK.get 2 0 rfl rfl
  have p_1 := HK.get 2 1 rfl rfl
  have p_s := HK.lt 2 rfl
  have hK := HK.base
  have hsz := hK.size
  have hsz' : w.heap.size + 1 + 1 ≠ w.heap.size + 1 := by omega
  obtain ⟨g1, g2, g3, g4⟩ := put22 (.slice none 0 0) (.slice none 0 0) (.int .i64 (fK perm bytes t 0 nb)) (.int .i64 (fX perm bytes t 0 nb)) r_0 r_1 rf_0 rf_1 hsz'
  clear HK
  go_wp2
  go_region
  go_wp2
  have r_s2 : w.heap.size + 1 < w2.heap.size + 1 := by omega
  have rf_s2 : w.heap.size + 1 + 1 < w2.heap.size + 1 := by omega
  refine bodyPost_ret (v := .tuple #[.agg #[.slice none 0 0, .slice none 0 0], .agg #[(.int .i64 (fK perm bytes t 0 nb)), (.int .i64 (fX perm bytes t 0 nb))], .int .i64 0]) (by simp [results, Try.results35, go_sem, g1, g2, g3, g4, r_s, rf_s, r_s2, rf_s2]) rfl ⟨rfl, ?_⟩
  exact ((((((hK.setCell (by show _ ≤ w.heap.size + 1; omega) _).setCell (by show _ ≤ w.heap.size + 1; omega) _).setCell (by show _ ≤ w.heap.size + 1 + 1; omega) _).setCell (by show _ ≤ w.heap.size + 1 + 1; omega) _).alloc (by simp; omega) _).alloc (by simp; omega) _).drew
set_option maxHeartbeats 4000000 in
set_option maxRecDepth 100000 in
theorem poke_y (a : Option Addr) (c : Nat) (a2 : Option Addr) (c2 : Nat) (perm bytes : List Int) (t : Int) (ab : Option Addr) (nb cb : Nat) (bs : List Int) (w : World) (hs : SpIn w a c a2 c2 perm bytes) (hsb : SlAt w ab (bV bs)) (hl : bs.length = nb) (hc : chk perm bytes.length = true) (hn : nb ≤ 2048) (ht : I64 t) (hk : kN perm bytes t 0 nb = nb) :
    Calls Try.prog 35 #[.agg #[.slice a perm.length c, .slice a2 bytes.length c2], .int .i64 t, .slice ab nb cb] w (StPost perm (wrB bytes t bs nb) w) := by
  have HC := Lib.hid hc
  have HS := Lib.hid hs
  clear hc hs
  have HT := Lib.hid ht
  clear ht
  have HB := Lib.hid hsb
  have HN := Lib.hid hk
  have HL := Lib.hid hl
  clear hsb hk hl
  go_enter Try.func35, Try.ntmps35
  have HK := Kw.start w
  go_wp2_with fail
  replace HK := HK.box (vs := [.slice a perm.length c, .slice a2 bytes.length c2]) (t := 25)
  replace HK := HK.box (vs := [.slice none 0 0, .slice none 0 0]) (t := 25)
  replace HK := HK.box (vs := [.int .i64 0, .int .i64 0]) (t := 34)
  simp only [World.size_alloc] at HK
  refine (check_y _ _ _ _ _ _ _ (HS.out.below HK.base) HC.out).mono ?_
  rintro e w1 ⟨rfl, hq⟩
  replace HK := HK.below hq
  have rf_0 := HK.get 0 0 rfl rfl
  have rf_f0 := HK.fz 0 0 rfl
  have rf_1 := HK.get 0 1 rfl rfl
  have rf_f1 := HK.fz 0 1 rfl
  have rf_s := HK.lt 0 rfl
  have r_0 := HK.get 1 0 rfl rfl
  have r_f0 := HK.fz 1 0 rfl
  have r_1 := HK.get 1 1 rfl rfl
  have r_f1 := HK.fz 1 1 rfl
  have r_s := HK.lt 1 rfl
  have p_0 := HK.get 2 0 rfl rfl
  have p_1 := HK.get 2 1 rfl rfl
  have p_s := HK.lt 2 rfl
  go_wp2_with fail
  clear rf_0 rf_f0 rf_1 rf_f1 rf_s r_0 r_f0 r_1 r_f1 r_s p_0 p_1 p_s
  have r_b := HK.lt 1 rfl
  have rf_b := HK.lt 0 rfl
  have hzb := HK.size
  refine (write_yn t 0 _ _ _ _ ab cb nb _ _ bs _ (HS.out.below HK.base) (HB.out.below HK.base) HC.out (by omega) HL.out HT.out HN.out).mono ?_
  rintro e w2 ⟨v, rfl, ⟨a', c', a2', c2', rfl, ho1, ho2⟩, hq⟩
  replace HK := HK.below hq
  have rf_0 := HK.get 0 0 rfl rfl
  have rf_f0 := HK.fz 0 0 rfl
  have rf_1 := HK.get 0 1 rfl rfl
  have rf_f1 := HK.fz 0 1 rfl
  have rf_s := HK.lt 0 rfl
  have r_0 := HK.get 1 0 rfl rfl
  have r_f0 := HK.fz 1 0 rfl
  have r_1 := HK.get 1 1 rfl rfl
  have r_f1 := HK.fz 1 1 rfl
  have r_s := HK.lt 1 rfl
  have p_0 := HK.get 2 0 rfl rfl
  have p_1 := HK.get 2 1 rfl rfl
  have p_s := HK.lt 2 rfl
  have hK := HK.base
  have hsz := hK.size
  have hsz' : w.heap.size + 1 + 1 ≠ w.heap.size + 1 := by omega
  obtain ⟨g1, g2, g3, g4⟩ := put22 (.slice a' perm.length c') (.slice a2' (wrB bytes t bs nb).length c2') (.int .i64 0) (.int .i64 0) r_0 r_1 rf_0 rf_1 hsz'
  clear HK
  go_wp2
  go_region
  go_wp2
  have r_s2 : w.heap.size + 1 < w2.heap.size + 1 := by omega
  have rf_s2 : w.heap.size + 1 + 1 < w2.heap.size + 1 := by omega
  refine bodyPost_ret (v := .tuple #[.agg #[(.slice a' perm.length c'), (.slice a2' (wrB bytes t bs nb).length c2')], .agg #[.int .i64 0, .int .i64 0], .int .i64 0]) (by simp [results, Try.results35, go_sem, g1, g2, g3, g4, r_s, rf_s, r_s2, rf_s2]) rfl ⟨_, rfl, ⟨a', c', a2', c2', rfl, ?_, ?_⟩, ?_⟩
  · exact ownsRow_base (((ownsRow_setCell_below (ownsRow_setCell_below (ownsRow_setCell_below (ownsRow_setCell_below ho1 (by show w.heap.size + 1 < w1.heap.size; omega) _) (by show w.heap.size + 1 < w1.heap.size; omega) _) (by show w.heap.size + 1 + 1 < w1.heap.size; omega) _) (by show w.heap.size + 1 + 1 < w1.heap.size; omega) _).alloc _).alloc _) (by omega)
  · exact ownsRow_base (((ownsRow_setCell_below (ownsRow_setCell_below (ownsRow_setCell_below (ownsRow_setCell_below ho2 (by show w.heap.size + 1 < w1.heap.size; omega) _) (by show w.heap.size + 1 < w1.heap.size; omega) _) (by show w.heap.size + 1 + 1 < w1.heap.size; omega) _) (by show w.heap.size + 1 + 1 < w1.heap.size; omega) _).alloc _).alloc _) (by omega)
  · exact ((((((hK.setCell (by show _ ≤ w.heap.size + 1; omega) _).setCell (by show _ ≤ w.heap.size + 1; omega) _).setCell (by show _ ≤ w.heap.size + 1 + 1; omega) _).setCell (by show _ ≤ w.heap.size + 1 + 1; omega) _).alloc (by simp; omega) _).alloc (by simp; omega) _).drew
end Go.Proofs.Ytdbcbmdekdfdoaa
