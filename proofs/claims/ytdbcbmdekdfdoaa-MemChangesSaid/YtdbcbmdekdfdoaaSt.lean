/- WHAT IS PROVED: mem.Load, mem.Store, mem.Poke, for every space, address, type, value and bytes. CONDITIONS: the slices' cells hold the lists; bytes are numbers from 0 to 255. -/
import Derived.Test.YtdbcbmdekdfdoaaWq
import Derived.Test.YtdbcbmdekdfdoaaBz
namespace Go.Proofs.Ytdbcbmdekdfdoaa
open Go Go.RowKit Go.QrBits Go.QrMem

theorem rd_ok {bytes : List Int} (h : okB bytes) (t : Int) (n : Nat) : okB (rd bytes t n) := by
  intro x hx
  simp only [rd, List.mem_map] at hx
  obtain ⟨j, _, rfl⟩ := hx
  cases hb : bytes[(t + (j : Int)).toNat]? with
  | none => simp
  | some y => simpa [hb] using h y (List.mem_of_getElem? hb)
/-- What read hands back where there is no fault. -/
def ReadY (xs : List Int) (n : Nat) (w : World) (e : Ending) (w' : World) : Prop :=
  ∃ b c : Nat, e = .returned (.tuple #[.slice (some ⟨b, 0, none⟩) n c, .agg #[.int .i64 0, .int .i64 0]]) ∧ BytesAt w' b xs ∧ Below w.heap.size w w'
theorem read_y (n : Nat) (t need : Int) (a : Option Addr) (c : Nat) (a2 : Option Addr) (c2 : Nat) (perm bytes : List Int) (w : World) (hck : chk perm bytes.length = true) (hn : n ≤ 4096) (hn0 : 0 < n) (ht : I64 t) (hs : SpIn w a c a2 c2 perm bytes) (hok : okB bytes) (hk : kN perm bytes t need n = n) :
    Calls Try.prog 56 #[.agg #[.slice a perm.length c, .slice a2 bytes.length c2], .int .i64 t, .int .i64 (n : Int), .int .i64 need] w (ReadY (rd bytes t n) n w) := by
  refine (read_c n t need a c a2 c2 perm bytes w hck hn ht hs).mono ?_
  rintro e w' ⟨av, cv, rfl, ho, hq⟩
  have e1 : fK perm bytes t need n = 0 := by unfold fK; rw [if_neg (by omega)]
  have e2 : fX perm bytes t need n = 0 := by unfold fX; rw [if_neg (by omega)]
  rw [e1, e2]
  rw [rd_len, hk] at ho ⊢
  obtain ⟨b, rfl, h1, h2⟩ := own_open ho hn0
  refine ⟨b, cv, rfl, ⟨h2, fun j x hx => ?_, rd_ok hok t n⟩, hq⟩
  have hj : j < n := by have := (List.getElem?_eq_some_iff.1 hx).1; rwa [rd_len] at this
  rw [ho.cellAt j (by omega)]; exact bV_get hx
/-- The value of a type whose bytes lie at an address. -/
def ldV (n : Nat) (g : Bool) (bytes : List Int) (t : Int) : Int := wr n g (wrap64 (fbS (rd bytes t n)))
theorem vB_le {n : Nat} (h : vB (n : Int) = true) : 0 < n ∧ n ≤ 8 := by rcases vB_cases h with e | e | e | e <;> omega
set_option maxHeartbeats 4000000 in
set_option maxRecDepth 100000 in
theorem load_n (a : Option Addr) (c : Nat) (a2 : Option Addr) (c2 : Nat) (perm bytes : List Int) (t n : Int) (g : Bool) (w : World) (hs : SpIn w a c a2 c2 perm bytes) (hc : chk perm bytes.length = false) :
    Calls Try.prog 33 #[.agg #[.slice a perm.length c, .slice a2 bytes.length c2], .int .i64 t, .agg #[.int .i64 n, .bool g]] w fun e w' => e = .returned (.tuple #[.int .i64 0, .agg #[.int .i64 0, .int .i64 0], .int .i64 30]) ∧ Below w.heap.size w w' := by
  have HC := Lib.hid hc
  have HS := Lib.hid hs
  clear hc hs
  go_enter Try.func33, Try.ntmps33
  have HK := Kw.start w
  go_wp2_with fail
  replace HK := HK.box (vs := [.slice a perm.length c, .slice a2 bytes.length c2]) (t := 25)
  replace HK := HK.box (vs := [.int .i64 n, .bool g]) (t := 64)
  replace HK := HK.box (vs := [.int .i64 0, .int .i64 0]) (t := 34)
  simp only [World.size_alloc] at HK
  refine (type_n _ _ _ _ _ _ n g _ (HS.out.below HK.base) HC.out).mono ?_
  rintro e w1 ⟨rfl, hq⟩
  replace HK := HK.below hq
  have r_0 := HK.get 0 0 rfl rfl
  have r_f0 := HK.fz 0 0 rfl
  have r_1 := HK.get 0 1 rfl rfl
  have r_f1 := HK.fz 0 1 rfl
  have r_s := HK.lt 0 rfl
  have ty_0 := HK.get 1 0 rfl rfl
  have ty_1 := HK.get 1 1 rfl rfl
  have ty_s := HK.lt 1 rfl
  have p_0 := HK.get 2 0 rfl rfl
  have p_1 := HK.get 2 1 rfl rfl
  have p_s := HK.lt 2 rfl
  have hK := HK.base
  obtain ⟨g1, g2⟩ := put2 (.int .i64 0) (.int .i64 0) r_0 r_1
  clear HK
  go_wp2
  refine bodyPost_ret (v := .tuple #[.int .i64 0, .agg #[.int .i64 0, .int .i64 0], .int .i64 30]) (by simp [results, Try.results33, go_sem, g1, g2]) rfl ?_
  exact ⟨rfl, (hK.setCell (by simp; try omega) _).setCell (by simp; try omega) _⟩
set_option maxHeartbeats 4000000 in
set_option maxRecDepth 100000 in
theorem load_p (a : Option Addr) (c : Nat) (a2 : Option Addr) (c2 : Nat) (perm bytes : List Int) (t n : Int) (g : Bool) (w : World) (hs : SpIn w a c a2 c2 perm bytes) (hc : chk perm bytes.length = true) (hv : vB n = false) :
    Calls Try.prog 33 #[.agg #[.slice a perm.length c, .slice a2 bytes.length c2], .int .i64 t, .agg #[.int .i64 n, .bool g]] w fun e w' => e = .returned (.tuple #[.int .i64 0, .agg #[.int .i64 0, .int .i64 0], .int .i64 10]) ∧ Below w.heap.size w w' := by
  have HC := Lib.hid hc
  have HS := Lib.hid hs
  clear hc hs
  go_enter Try.func33, Try.ntmps33
  have HK := Kw.start w
  go_wp2_with fail
  replace HK := HK.box (vs := [.slice a perm.length c, .slice a2 bytes.length c2]) (t := 25)
  replace HK := HK.box (vs := [.int .i64 n, .bool g]) (t := 64)
  replace HK := HK.box (vs := [.int .i64 0, .int .i64 0]) (t := 34)
  simp only [World.size_alloc] at HK
  refine (type_p _ _ _ _ _ _ n g _ (HS.out.below HK.base) HC.out hv).mono ?_
  rintro e w1 ⟨rfl, hq⟩
  replace HK := HK.below hq
  have r_0 := HK.get 0 0 rfl rfl
  have r_f0 := HK.fz 0 0 rfl
  have r_1 := HK.get 0 1 rfl rfl
  have r_f1 := HK.fz 0 1 rfl
  have r_s := HK.lt 0 rfl
  have ty_0 := HK.get 1 0 rfl rfl
  have ty_1 := HK.get 1 1 rfl rfl
  have ty_s := HK.lt 1 rfl
  have p_0 := HK.get 2 0 rfl rfl
  have p_1 := HK.get 2 1 rfl rfl
  have p_s := HK.lt 2 rfl
  have hK := HK.base
  obtain ⟨g1, g2⟩ := put2 (.int .i64 0) (.int .i64 0) r_0 r_1
  clear HK
  go_wp2
  refine bodyPost_ret (v := .tuple #[.int .i64 0, .agg #[.int .i64 0, .int .i64 0], .int .i64 10]) (by simp [results, Try.results33, go_sem, g1, g2]) rfl ?_
  exact ⟨rfl, (hK.setCell (by simp; try omega) _).setCell (by simp; try omega) _⟩
set_option maxHeartbeats 4000000 in
set_option maxRecDepth 100000 in
theorem load_f (a : Option Addr) (c : Nat) (a2 : Option Addr) (c2 : Nat) (perm bytes : List Int) (t : Int) (n : Nat) (g : Bool) (w : World) (hs : SpIn w a c a2 c2 perm bytes) (hc : chk perm bytes.length = true) (hv : vB (n : Int) = true) (ht : I64 t) (hk : kN perm bytes t 1 n < n) :
    Calls Try.prog 33 #[.agg #[.slice a perm.length c, .slice a2 bytes.length c2], .int .i64 t, .agg #[.int .i64 (n : Int), .bool g]] w fun e w' => e = .returned (.tuple #[.int .i64 0, .agg #[(.int .i64 (fK perm bytes t 1 n)), (.int .i64 (fX perm bytes t 1 n))], .int .i64 0]) ∧ Below w.heap.size w w' := by
  have HC := Lib.hid hc
  have HS := Lib.hid hs
  clear hc hs
  have HT := Lib.hid ht
  clear ht
  obtain ⟨hn0, hn8⟩ := vB_le hv
  go_enter Try.func33, Try.ntmps33
  have HK := Kw.start w
  go_wp2_with fail
  replace HK := HK.box (vs := [.slice a perm.length c, .slice a2 bytes.length c2]) (t := 25)
  replace HK := HK.box (vs := [.int .i64 (n : Int), .bool g]) (t := 64)
  replace HK := HK.box (vs := [.int .i64 0, .int .i64 0]) (t := 34)
  simp only [World.size_alloc] at HK
  refine (type_y _ _ _ _ _ _ n g _ (HS.out.below HK.base) HC.out hv).mono ?_
  rintro e w1 ⟨rfl, hq⟩
  replace HK := HK.below hq
  have r_0 := HK.get 0 0 rfl rfl
  have r_f0 := HK.fz 0 0 rfl
  have r_1 := HK.get 0 1 rfl rfl
  have r_f1 := HK.fz 0 1 rfl
  have r_s := HK.lt 0 rfl
  have ty_0 := HK.get 1 0 rfl rfl
  have ty_1 := HK.get 1 1 rfl rfl
  have ty_s := HK.lt 1 rfl
  have p_0 := HK.get 2 0 rfl rfl
  have p_1 := HK.get 2 1 rfl rfl
  have p_s := HK.lt 2 rfl
  go_wp2_with fail
  clear r_0 r_f0 r_1 r_f1 r_s ty_0 ty_1 ty_s p_0 p_1 p_s
  have hz1 := HK.size
  refine (read_c n t 1 _ _ _ _ _ _ _ HC.out (by omega) HT.out (HS.out.below HK.base)).mono ?_
  rintro e w2 ⟨av, cv, rfl, ho, hq⟩
  replace HK := HK.below hq
  have r_0 := HK.get 0 0 rfl rfl
  have r_f0 := HK.fz 0 0 rfl
  have r_1 := HK.get 0 1 rfl rfl
  have r_f1 := HK.fz 0 1 rfl
  have r_s := HK.lt 0 rfl
  have ty_0 := HK.get 1 0 rfl rfl
  have ty_1 := HK.get 1 1 rfl rfl
  have ty_s := HK.lt 1 rfl
  have p_0 := HK.get 2 0 rfl rfl
  have p_1 := HK.get 2 1 rfl rfl
  have p_s := HK.lt 2 rfl
  have hK := HK.base
  have hsz := hK.size
  obtain ⟨g1, g2⟩ := put2 (.int .i64 (fK perm bytes t 1 n)) (.int .i64 (fX perm bytes t 1 n)) r_0 r_1
  clear HK
  have hne := fK_ne (perm := perm) (bytes := bytes) (t := t) (need := 1) (n := n) hk
  have HH := Lib.hid hk
  clear hk ho
  go_wp2
  go_region
  go_wp2
  refine bodyPost_ret (v := .tuple #[.int .i64 0, .agg #[(.int .i64 (fK perm bytes t 1 n)), (.int .i64 (fX perm bytes t 1 n))], .int .i64 0]) (by simp [results, Try.results33, go_sem, g1, g2, r_s]) rfl ?_
  exact ⟨rfl, (((hK.setCell (by simp; try omega) _).setCell (by simp; try omega) _).alloc (by simp; omega) _).drew⟩
set_option maxHeartbeats 4000000 in
set_option maxRecDepth 100000 in
theorem load_y (a : Option Addr) (c : Nat) (a2 : Option Addr) (c2 : Nat) (perm bytes : List Int) (t : Int) (n : Nat) (g : Bool) (w : World) (hs : SpIn w a c a2 c2 perm bytes) (hc : chk perm bytes.length = true) (hv : vB (n : Int) = true) (ht : I64 t) (hok : okB bytes) (hk : kN perm bytes t 1 n = n) :
    Calls Try.prog 33 #[.agg #[.slice a perm.length c, .slice a2 bytes.length c2], .int .i64 t, .agg #[.int .i64 (n : Int), .bool g]] w fun e w' => e = .returned (.tuple #[.int .i64 (ldV n g bytes t), .agg #[.int .i64 0, .int .i64 0], .int .i64 0]) ∧ Below w.heap.size w w' := by
  have HC := Lib.hid hc
  have HS := Lib.hid hs
  clear hc hs
  have HT := Lib.hid ht
  clear ht
  obtain ⟨hn0, hn8⟩ := vB_le hv
  have HO := Lib.hid hok
  have HN := Lib.hid hk
  clear hok hk
  go_enter Try.func33, Try.ntmps33
  have HK := Kw.start w
  go_wp2_with fail
  replace HK := HK.box (vs := [.slice a perm.length c, .slice a2 bytes.length c2]) (t := 25)
  replace HK := HK.box (vs := [.int .i64 (n : Int), .bool g]) (t := 64)
  replace HK := HK.box (vs := [.int .i64 0, .int .i64 0]) (t := 34)
  simp only [World.size_alloc] at HK
  refine (type_y _ _ _ _ _ _ n g _ (HS.out.below HK.base) HC.out hv).mono ?_
  rintro e w1 ⟨rfl, hq⟩
  replace HK := HK.below hq
  have r_0 := HK.get 0 0 rfl rfl
  have r_f0 := HK.fz 0 0 rfl
  have r_1 := HK.get 0 1 rfl rfl
  have r_f1 := HK.fz 0 1 rfl
  have r_s := HK.lt 0 rfl
  have ty_0 := HK.get 1 0 rfl rfl
  have ty_1 := HK.get 1 1 rfl rfl
  have ty_s := HK.lt 1 rfl
  have p_0 := HK.get 2 0 rfl rfl
  have p_1 := HK.get 2 1 rfl rfl
  have p_s := HK.lt 2 rfl
  go_wp2_with fail
  clear r_0 r_f0 r_1 r_f1 r_s ty_0 ty_1 ty_s p_0 p_1 p_s
  refine (read_y n t 1 _ _ _ _ _ _ _ HC.out (by omega) hn0 HT.out (HS.out.below HK.base) HO.out HN.out).mono ?_
  rintro e w2 ⟨b, cv, rfl, hby, hq⟩
  replace HK := HK.below hq
  have r_0 := HK.get 0 0 rfl rfl
  have r_f0 := HK.fz 0 0 rfl
  have r_1 := HK.get 0 1 rfl rfl
  have r_f1 := HK.fz 0 1 rfl
  have r_s := HK.lt 0 rfl
  have ty_0 := HK.get 1 0 rfl rfl
  have ty_1 := HK.get 1 1 rfl rfl
  have ty_s := HK.lt 1 rfl
  have p_0 := HK.get 2 0 rfl rfl
  have p_1 := HK.get 2 1 rfl rfl
  have p_s := HK.lt 2 rfl
  go_wp2_with fail
  replace HK := HK.box (vs := [.int .i64 0, .int .i64 0]) (t := 34)
  clear r_0 r_f0 r_1 r_f1 r_s ty_0 ty_1 ty_s p_0 p_1 p_s
  refine (from_c n g b cv (rd bytes t n) _ hv (rd_len _ _ _) (hby.below (b_alloc (Below.refl _ _)))).mono ?_
  rintro e w3 ⟨rfl, hq2⟩
  replace HK := HK.below hq2
  have r_0 := HK.get 1 0 rfl rfl
  have r_f0 := HK.fz 1 0 rfl
  have r_1 := HK.get 1 1 rfl rfl
  have r_f1 := HK.fz 1 1 rfl
  have r_s := HK.lt 1 rfl
  have hK := HK.base
  have hsz := hK.size
  obtain ⟨g1, g2⟩ := put2 (.int .i64 0) (.int .i64 0) r_0 r_1
  clear HK
  go_wp2
  refine bodyPost_ret (v := .tuple #[.int .i64 (ldV n g bytes t), .agg #[.int .i64 0, .int .i64 0], .int .i64 0]) (by simp [results, Try.results33, go_sem, g1, g2, ldV]) rfl ?_
  exact ⟨rfl, (hK.setCell (by simp; try omega) _).setCell (by simp; try omega) _⟩
end Go.Proofs.Ytdbcbmdekdfdoaa
