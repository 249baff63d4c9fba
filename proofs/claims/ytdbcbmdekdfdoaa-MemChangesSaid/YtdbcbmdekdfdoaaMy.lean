/- WHAT IS PROVED: taplinelaw03.MemStored answers true, for every space and two words. CONDITIONS: the arguments read as lists of numbers. -/
import Derived.Test.YtdbcbmdekdfdoaaMx
import Derived.Test.YtdbcbmdekdfdoaaMb
namespace Go.Proofs.Ytdbcbmdekdfdoaa
open Go Go.RowKit Go.QrBits Go.QrMem
theorem rWrap_c (s : Int) (g : Bool) (v : Int) (w : World) (h : vB s = true) : Calls Try.prog 42 #[.agg #[.int .i64 s, .bool g], .int .i64 v] w fun e w' => e = .returned (.tuple #[.int .i64 (wr s g v), .int .i64 0]) ∧ Below w.heap.size w w' := by
  have hW : ∀ w, Calls Try.prog 68 #[.agg #[.int .i64 s, .bool g], .int .i64 v] w fun e w' => e = .returned (.int .i64 (wr s g v)) ∧ Below w.heap.size w w' := fun w => rWrapped_c s g v w h
  generalize wr s g v = r at hW ⊢
  have H := Lib.hid h
  clear h
  have HK := (Kw.start w).box (vs := [.int .i64 s, .bool g]) (t := 64)
  go_enter Try.func42, Try.ntmps42
  go_wp2_with fail
  refine (rcheck_y s g _ H.out).mono ?_
  rintro e w1 ⟨rfl, hq⟩
  replace HK := HK.below hq
  clear hq
  have a_0 := HK.get 0 0 rfl rfl
  have a_1 := HK.get 0 1 rfl rfl
  go_wp2_with fail
  refine (hW _).mono ?_
  rintro e w2 ⟨rfl, hq⟩
  have hK := (HK.below hq).base
  clear hq HK
  go_wp2
  exact bodyPost_ret (v := .tuple #[.int .i64 r, .int .i64 0]) (by simp [results, Try.results42, go_sem]) rfl ⟨rfl, hK⟩
def BoolPost (w : World) (e : Ending) (w' : World) : Prop := (∃ b : Bool, e = .returned (.bool b)) ∧ Below w.heap.size w w'
set_option maxHeartbeats 4000000 in
theorem apart_any (t s u r x y : Int) (g h : Bool) (w : World) (hs : 0 < s ∧ s ≤ 8) :
    Calls Try.prog 44 #[.agg #[.int .i64 t, .int .i64 s, .bool g, .int .i64 x], .agg #[.int .i64 u, .int .i64 r, .bool h, .int .i64 y]] w (BoolPost w) := by
  obtain ⟨s0, s1⟩ := hs
  by_cases h1 : 0 ≤ t
  rotate_left
  · go_enter Try.func44, Try.ntmps44
    go_wp2
    go_ret
    exact ⟨⟨false, rfl⟩, b_alloc (b_alloc (Below.refl _ _))⟩
  by_cases h2 : 0 ≤ u
  rotate_left
  · go_enter Try.func44, Try.ntmps44
    go_wp2
    go_ret
    exact ⟨⟨false, rfl⟩, b_alloc (b_alloc (Below.refl _ _))⟩
  by_cases h3 : t < 1099511627776
  rotate_left
  · go_enter Try.func44, Try.ntmps44
    go_wp2
    go_ret
    exact ⟨⟨false, rfl⟩, b_alloc (b_alloc (Below.refl _ _))⟩
  by_cases h4 : u < 1099511627776
  rotate_left
  · go_enter Try.func44, Try.ntmps44
    go_wp2
    go_ret
    exact ⟨⟨false, rfl⟩, b_alloc (b_alloc (Below.refl _ _))⟩
  by_cases h5 : t + s ≤ u
  · go_enter Try.func44, Try.ntmps44
    go_wp2
    go_ret
    exact ⟨⟨true, rfl⟩, b_alloc (b_alloc (Below.refl _ _))⟩
  · go_enter Try.func44, Try.ntmps44
    go_wp2
    go_ret
    exact ⟨⟨_, rfl⟩, b_alloc (b_alloc (Below.refl _ _))⟩
theorem dI_mem {A B : List Int} : ∀ {k i : Nat}, i ∈ dI A B k → i < k ∧ chg A B i = true
  | 0, i, h => by simp [dI] at h
  | k + 1, i, h => by
    rw [dI] at h
    rcases List.mem_append.1 h with h | h
    · have := dI_mem h; exact ⟨by omega, this.2⟩
    · split at h
      · simp at h; subst h; exact ⟨by omega, by assumption⟩
      · simp at h
theorem rd_wr {B bs : List Int} {t : Int} {n : Nat} (h0 : 0 ≤ t) (h1 : t + n ≤ B.length) (hl : bs.length = n) : rd (wrB B t bs n) t n = bs := by
  refine List.ext_getElem (by rw [rd_len, hl]) fun j h2 h3 => ?_
  rw [rd_len] at h2
  simp only [rd, List.getElem_map, List.getElem_range]
  rw [wrB_get h0 n _ h1, if_pos (by omega), show (t + (j : Int)).toNat - t.toNat = j by omega]
  simp [h3]
theorem rd_far {B bs : List Int} {t u : Int} {n m : Nat} (h0 : 0 ≤ t) (h1 : t + n ≤ B.length) (hu : 0 ≤ u) (hd : t + n ≤ u ∨ u + m ≤ t) : rd (wrB B t bs n) u m = rd B u m := by
  refine List.ext_getElem (by rw [rd_len, rd_len]) fun j h2 h3 => ?_
  rw [rd_len] at h2
  simp only [rd, List.getElem_map, List.getElem_range]
  rw [wrB_get h0 n _ h1, if_neg (by omega)]
theorem chg_in {B bs : List Int} {t : Int} {n i : Nat} (h0 : 0 ≤ t) (h1 : t + n ≤ B.length) (h : chg B (wrB B t bs n) i = true) : t ≤ i ∧ (i : Int) < t + n := by
  unfold chg at h
  rw [wrB_get h0 n _ h1] at h
  by_cases hc : t ≤ i ∧ (i : Int) < t + n
  · exact hc
  · rw [if_neg hc] at h; simp at h
theorem good_21 {P B : List Int} {x : Int} (hc : chk P B.length = true) (h : good P B 2 x = true) : good P B 1 x = true ∧ good P B 0 x = true := by
  obtain ⟨x0, x1, p, q, hp, hq, hm⟩ := good_out h
  have hpq : pB q = true := by
    simp only [chk, Bool.and_eq_true, List.all_eq_true] at hc
    exact hc.2 q (List.mem_of_getElem? hq)
  have hq3 : q = 3 := by
    simp only [pB, dB, Bool.or_eq_true, beq_iff_eq] at hpq
    rcases hpq with rfl | (rfl | rfl) | rfl
    · exact absurd hm (by decide)
    · exact absurd hm (by decide)
    · exact absurd hm (by decide)
    · rfl
  subst hq3
  simp only [good, x0, x1, decide_true, Bool.true_and, hp, hq]
  exact ⟨by decide, by decide⟩
theorem kN_21 {P B : List Int} {t : Int} {n : Nat} (hc : chk P B.length = true) (h : kN P B t 2 n = n) : kN P B t 1 n = n ∧ kN P B t 0 n = n :=
  ⟨lead_uniq _ n n (Nat.le_refl _) (fun j hj => (good_21 hc (kN_all (n := n) (i := j) (by omega))).1) (fun h => by omega),
   lead_uniq _ n n (Nat.le_refl _) (fun j hj => (good_21 hc (kN_all (n := n) (i := j) (by omega))).2) (fun h => by omega)⟩
theorem fb_own (n : Nat) (g : Bool) (cs : List Int) (h : vB (n : Int) = true) (hl : cs.length = n) (hok : okB cs) : FbA n g cs (wr n g (wrap64 (fbS cs))) := by
  intro a c base w ho
  rw [hl] at ho ⊢
  obtain ⟨k, rfl⟩ : ∃ k, n = k + 1 := ⟨n - 1, by have := (vB_le h).1; omega⟩
  obtain ⟨g1, cap1, hv, hb⟩ := own_form ho
  cases hv
  refine rfrom_c (k + 1) g g1 c cs w h hl ⟨(own_block ho g1 rfl).2, fun j x hx => ?_, hok⟩
  have := ho.cellAt j (by have := (List.getElem?_eq_some_iff.1 hx).1; omega)
  rw [this]; exact bV_get hx
theorem ld_f {P B : List Int} {t : Int} {n : Nat} {g : Bool} (hc : chk P B.length = true) (hv : vB (n : Int) = true) (ht : I64 t) (hk : kN P B t 1 n < n) : LdA P B t n g 0 (fK P B t 1 n) (fX P B t 1 n) 0 :=
  fun a c a2 c2 w h => load_f a c a2 c2 P B t n g w h hc hv ht hk
theorem ld_y {P B : List Int} {t : Int} {n : Nat} {g : Bool} (hc : chk P B.length = true) (hv : vB (n : Int) = true) (ht : I64 t) (hok : okB B) (hk : kN P B t 1 n = n) : LdA P B t n g (ldV n g B t) 0 0 0 :=
  fun a c a2 c2 w h => load_y a c a2 c2 P B t n g w h hc hv ht hok hk
theorem memStored_walk (a : Option Addr) (c : Nat) (a2 : Option Addr) (c2 : Nat) (P B : List Int) (tx sx vx ty sy vy : Int) (gx gy : Bool) (w : World) (hS : SpIn w a c a2 c2 P B) (hok : okB B) (htx : I64 tx) (hty : I64 ty) (hvx : I64 vx) :
    Calls Try.prog 7 #[.agg #[.slice a P.length c, .slice a2 B.length c2], .agg #[.int .i64 tx, .int .i64 sx, .bool gx, .int .i64 vx], .agg #[.int .i64 ty, .int .i64 sy, .bool gy, .int .i64 vy]] w fun e w' => e = .returned (.bool true) ∧ Below w.heap.size w w' := by
  cases hc : chk P B.length with
  | false => exact mst_n a c a2 c2 P B tx sx vx ty sy vy gx gy w hS 0 0 30 (fun w h => (store_n a c a2 c2 P B tx sx vx gx w h hc).mono fun e w' ⟨he, hb⟩ => ⟨undef, undef, he, hb⟩) (.inl (by decide))
  | true =>
  cases hx : vB sx with
  | false => exact mst_n a c a2 c2 P B tx sx vx ty sy vy gx gy w hS 0 0 10 (fun w h => (store_p a c a2 c2 P B tx sx vx gx w h hc hx).mono fun e w' ⟨he, hb⟩ => ⟨undef, undef, he, hb⟩) (.inl (by decide))
  | true =>
  obtain ⟨n, rfl, hn8⟩ := vB_nat hx
  have hn := vB_le hx
  have hkx := kN_le P B tx 2 n
  by_cases kx : kN P B tx 2 n < n
  · exact mst_n a c a2 c2 P B tx n vx ty sy vy gx gy w hS _ _ 0 (fun w h => (store_f a c a2 c2 P B tx vx n gx w h hc hx htx kx).mono fun e w' ⟨he, hb⟩ => ⟨undef, undef, he, hb⟩) (.inr ⟨rfl, by have := fK_ne kx; simpa using this⟩)
  have k2 : kN P B tx 2 n = n := by omega
  obtain ⟨x0, x1⟩ := in_range (q := 2) (perm := P) (B := B) (t := tx) (n := n) k2 (by omega)
  have lx : (wrB B tx (byL n vx) n).length = B.length := wrB_len _ _ _ _
  have cx : chk P (wrB B tx (byL n vx) n).length = true := by rw [lx]; exact hc
  have okx := wrB_ok tx hok (byL_ok n vx) n
  obtain ⟨k1, k0⟩ := kN_21 hc k2
  have hl4 := chk_le hc
  have hrd := rd_wr (bs := byL n vx) x0 x1 (byL_len n vx)
  have hback := back_1 (g := gx) hx hvx
  have hL1 : LdA P (wrB B tx (byL n vx) n) tx n gx (wr n gx vx) 0 0 0 := by
    have := ld_y (g := gx) cx hx htx okx (by rw [kN_len lx]; exact k1)
    rwa [ldV, hrd, hback] at this
  have hPk : PkA P (wrB B tx (byL n vx) n) tx n (byL n vx) := fun a c a2 c2 w h => by
    have := peek_y a c a2 c2 P (wrB B tx (byL n vx) n) tx n w h cx (by omega) htx (by rw [kN_len lx]; exact k0)
    rwa [kN_len lx, k0, hrd] at this
  have hFb : FbA n gx (byL n vx) (wr n gx vx) := by
    have := fb_own n gx (byL n vx) hx (byL_len n vx) (byL_ok n vx)
    rwa [hback] at this
  have hDf : DfA P B (wrB B tx (byL n vx) n) (dC B (wrB B tx (byL n vx) n) (dI B (wrB B tx (byL n vx) n) B.length)) (dI B (wrB B tx (byL n vx) n) B.length).length :=
    fun a c a2 c2 a' c' a2' c2' w h h' => diff_y a c a2 c2 P B a' c' a2' c2' _ w h h' hc cx lx.symm
  have hin : Hid (∀ i ∈ dI B (wrB B tx (byL n vx) n) B.length, tx ≤ (i : Int) ∧ (i : Int) < tx + (n : Int)) := Lib.hid fun i hi => chg_in x0 x1 (dI_mem hi).2
  have hsm : Hid (IntKind.i64.wrap (tx + (n : Int)) = tx + (n : Int)) := Lib.hid (IntWalk.i64_in _ (by omega))
  have hW : WrA n gx vx (wr n gx vx) := fun w => rWrap_c n gx vx w hx
  have hSt := st_y (v := vx) (g := gx) hc hx htx k2
  cases hy : vB sy with
  | false => exact mst_y a c a2 c2 P B tx n vx ty sy vy gx gy w hS _ _ _ _ 0 0 0 10 hSt hW hL1 hPk hFb hDf hin hsm (fun w => apart_any tx n ty sy vx vy gx gy w (by omega)) (fun a c a2 c2 w h => load_p a c a2 c2 P B ty sy gy w h hc hy) (fun a c a2 c2 w h => load_p a c a2 c2 P _ ty sy gy w h cx hy)
  | true =>
  obtain ⟨m, rfl, hm8⟩ := vB_nat hy
  have hm := vB_le hy
  by_cases hap : apP tx n ty m
  rotate_left
  · exact mst_0 a c a2 c2 P B tx n vx ty m vy gx gy w hS _ _ _ _ hSt hW hL1 hPk hFb hDf hin hsm (fun w => apart_n _ _ _ _ _ _ _ _ w (by omega) (by omega) hap)
  have hA : ∀ w : World, Calls Try.prog 44 #[.agg #[.int .i64 tx, .int .i64 n, .bool gx, .int .i64 vx], .agg #[.int .i64 ty, .int .i64 m, .bool gy, .int .i64 vy]] w (BoolPost w) := fun w => apart_any tx n ty m vx vy gx gy w (by omega)
  have hky := kN_le P B ty 1 m
  by_cases ky : kN P B ty 1 m < m
  · have f2 := ld_f (g := gy) cx hy hty (by rw [kN_len lx]; exact ky)
    rw [fK_len lx, fX_len lx] at f2
    exact mst_y a c a2 c2 P B tx n vx ty m vy gx gy w hS _ _ _ _ _ _ _ _ hSt hW hL1 hPk hFb hDf hin hsm hA (ld_f (g := gy) hc hy hty ky) f2
  · have f2 := ld_y (g := gy) cx hy hty okx (by rw [kN_len lx]; omega)
    rw [ldV, rd_far x0 x1 hap.2.1 hap.2.2.2.2] at f2
    exact mst_y a c a2 c2 P B tx n vx ty m vy gx gy w hS _ _ _ _ _ _ _ _ hSt hW hL1 hPk hFb hDf hin hsm hA (ld_y (g := gy) hc hy hty hok (by omega)) f2
end Go.Proofs.Ytdbcbmdekdfdoaa
