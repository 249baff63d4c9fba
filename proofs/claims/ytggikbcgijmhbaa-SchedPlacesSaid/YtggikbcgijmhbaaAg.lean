/- WHAT IS PROVED: the law SchedWaits, walked. -/
import Derived.Test.YtggikbcgijmhbaaAc
import Derived.Test.YtggikbcgijmhbaaPw
set_option linter.unusedSimpArgs false
set_option linter.unusedVariables false
namespace Go.Proofs.Ytggikbcgijmhbaa
open Go Go.RowKit Go.QrBits Go.QrMem
attribute [local go_sem] reg_cell reg_frozen reg_setCell reg_lt reg_lt_add reg_drew reg_of_drew
theorem Owned.below {z : Nat} {s : St} {g d : Nat} {b : Option Addr} {e : Nat} {w w' : World} (h : Owned z s g d b e w) (hb : Below w.heap.size w w') : Owned z s g d b e w' := by
  obtain ⟨B, b0, rs, hB, ho⟩ := h; exact ⟨B, b0, rs, hB, ho.below hb⟩
theorem Owned.set3 {z x : Nat} {s : St} {g d : Nat} {b : Option Addr} {e : Nat} {w : World} (h : Owned z s g d b e w) (hx : x < z) (a0 a1 a2 : Value) : Owned z s g d b e (((w.setCell ⟨x, 0, none⟩ a0).setCell ⟨x, 1, none⟩ a1).setCell ⟨x, 2, none⟩ a2) := by
  obtain ⟨B, b0, rs, hB, ho⟩ := h; exact ⟨B, b0, rs, hB, ((ho.setXj (by omega) 0 _).setXj (by omega) 1 _).setXj (by omega) 2 _⟩
theorem Owned.scIn {z : Nat} {s : St} {g d : Nat} {b : Option Addr} {e : Nat} {w : World} (h : Owned z s g d b e w) (hok : Ok s) : ScIn w (some ⟨g, 0, none⟩) d b e s.qs s.ts := by
  obtain ⟨B, b0, rs, hB, ho⟩ := h; exact ho.scIn (short_of_ok hok)
theorem set3_row {w : World} {x : Nat} {u0 u1 u2 : Value} {t : TypeId} (h : w.heap[x]? = some (.cells #[u0, u1, u2] t (0, 0))) (a0 a1 a2 : Value) : (((w.setCell ⟨x, 0, none⟩ a0).setCell ⟨x, 1, none⟩ a1).setCell ⟨x, 2, none⟩ a2).heap[x]? = some (.cells #[a0, a1, a2] t (0, 0)) := by
  have f1 := heap_setCell_same w x 0 _ t a0 h
  have f2 := heap_setCell_same _ x 1 _ t a1 f1
  have f3 := heap_setCell_same _ x 2 _ t a2 f2
  simpa using f3
theorem set3_far {w : World} {x y : Nat} (hne : y ≠ x) (a0 a1 a2 : Value) : (((w.setCell ⟨x, 0, none⟩ a0).setCell ⟨x, 1, none⟩ a1).setCell ⟨x, 2, none⟩ a2).heap[y]? = w.heap[y]? :=
  (Below.heap_setCell _ _ _ _ hne).trans ((Below.heap_setCell _ _ _ _ hne).trans (Below.heap_setCell _ _ _ _ hne))
theorem set3_below {z x : Nat} {w0 w : World} (h : Below z w0 w) (hz : z ≤ x) (a0 a1 a2 : Value) : Below z w0 (((w.setCell ⟨x, 0, none⟩ a0).setCell ⟨x, 1, none⟩ a1).setCell ⟨x, 2, none⟩ a2) :=
  ((h.setCell (p := ⟨x, 0, none⟩) hz a0).setCell (p := ⟨x, 1, none⟩) hz a1).setCell (p := ⟨x, 2, none⟩) hz a2
theorem tickM_m (s : St) (c : Nat) : (tickM s c).ts.length = s.ts.length := rfl
/-- What an operation hands back, with the lengths as letters. -/
def RtAt (n m : Nat) (q : Int) (s : St) (r : Value) (w : World) (y : Ending) (w' : World) : Prop :=
  ∃ (g d : Nat) (b : Option Addr) (e : Nat), y = .returned (.tuple #[.agg #[.slice (some ⟨g, 0, none⟩) n d, .slice b m e, .int .i64 q], r, .int .i64 0]) ∧ Below w.heap.size w w' ∧ Owned w.heap.size s g d b e w'
theorem RtAt.of {s : St} {r : Value} {w : World} {y : Ending} {w' : World} (h : Res3 s r w y w') {n m : Nat} {q : Int} (hn : s.qs.length = n) (hm : s.ts.length = m) (hq : s.q = q) : RtAt n m q s r w y w' := by
  subst hn hm hq
  obtain ⟨g, d, b, e, h1, _, h3, h4⟩ := h
  exact ⟨g, d, b, e, h1, h3, h4⟩
theorem tick_at (s : St) (n m : Nat) (q : Int) (c : Nat) (hn : s.qs.length = n) (hm : s.ts.length = m) (hq : s.q = q) (hok : Ok s) (hc : c < s.qs.length) (a : Option Addr) (d : Nat) (b : Option Addr) (e : Nat) (w : World) (hs : ScIn w a d b e s.qs s.ts) :
    Calls Try.prog 23 #[.agg #[.slice a n d, .slice b m e, .int .i64 q], .int .i64 c] w (RtAt n m q (tickM s c) (.bool (dueM (tickM s c) c)) w) := by
  have h := tick_y a d b e s.qs s.ts s.q c w hs (chk_of_ok hok) hc
  subst hn hm hq
  exact h.mono fun y w' h => RtAt.of h (tickM_n s c) rfl rfl
theorem switch_at (s : St) (n m : Nat) (q : Int) (c : Nat) (hn : s.qs.length = n) (hm : s.ts.length = m) (hq : s.q = q) (hok : Ok s) (hc : c < s.qs.length) (a : Option Addr) (d : Nat) (b : Option Addr) (e : Nat) (w : World) (hs : ScIn w a d b e s.qs s.ts) :
    Calls Try.prog 22 #[.agg #[.slice a n d, .slice b m e, .int .i64 q], .int .i64 c] w (RtAt n m q (switchM s c) (.int .i64 (quOf (switchM s c).qs (c : Int)).run) w) := by
  have h := switch_y a d b e s.qs s.ts s.q c w hs (chk_of_ok hok) hc
  subst hn hm hq
  exact h.mono fun y w' h => RtAt.of h (switchM_n s c) (switchM_m s c) (switchM_q s c)
theorem roundM_m (s : St) (c : Nat) : (roundM s c).ts.length = s.ts.length := by
  unfold roundM; split
  · rw [switchM_m]; rfl
  · rfl
theorem roundM_q (s : St) (c : Nat) : (roundM s c).q = s.q := by
  unfold roundM; split
  · rw [switchM_q]; rfl
  · rfl
/-- What the law's loop keeps. -/
def WRel (w : World) (k nq nt : Nat) (q N thr P : Int) (i : Value) (wr : World) : Prop :=
  ∃ (j : Nat) (wv : World) (s : St) (a : Option Addr) (d : Nat) (b : Option Addr) (e : Nat), wv = wr ∧ i = .int .i64 j ∧ (j : Int) ≤ N ∧ wv.heap[w.heap.size]? = some (.cells #[.slice a nq d, .slice b nt e, .int .i64 q] 25 (0, 0)) ∧ Hid (Below w.heap.size w wv ∧ ScIn wv a d b e s.qs s.ts ∧ s.qs.length = nq ∧ s.ts.length = nt ∧ s.q = q ∧ Iw s k j N thr P)
set_option maxHeartbeats 8000000 in
set_option maxRecDepth 100000 in
theorem wait_n (a : Option Addr) (c : Nat) (a2 : Option Addr) (c2 : Nat) (qs : List Qu) (ts : List Th) (q : Int) (k l : Int) (hck : chkB qs ts q = false) (w : World) (hs : ScIn w a c a2 c2 qs ts) :
    Calls Try.prog 6 #[.agg #[.slice a qs.length c, .slice a2 ts.length c2, .int .i64 q], .int .i64 k, .int .i64 l] w fun y w' => y = .returned (.bool true) ∧ Below w.heap.size w w' := by
  have HCK := Lib.hid (show okE (chkB qs ts q) = 50 by rw [hck]; rfl)
  have HK := (Kw.start w).box (vs := [.slice a qs.length c, .slice a2 ts.length c2, .int .i64 q]) (t := 25)
  have HS := Lib.hid hs
  have HC := Lib.hid (fun w hs => check_c a c a2 c2 qs ts q w hs)
  clear hs hck
  go_enter Try.func6, Try.ntmps6
  go_wp2_with fail
  refine (sane_c _).mono ?_
  rintro y w1 ⟨rfl, hq⟩
  replace HK := HK.below hq
  clear hq
  have p_0 := HK.get 0 0 rfl rfl
  have p_1 := HK.get 0 1 rfl rfl
  have p_2 := HK.get 0 2 rfl rfl
  go_wp2_with fail
  refine (HC.out _ (HS.out.below HK.base)).mono ?_
  rintro y w2 ⟨rfl, hq⟩
  rw [HCK.out]
  replace HK := HK.below hq
  clear hq p_0 p_1 p_2 HC
  have p_0 := HK.get 0 0 rfl rfl
  have p_1 := HK.get 0 1 rfl rfl
  have p_2 := HK.get 0 2 rfl rfl
  have hA := HK.base
  clear HK
  go_wp2
  go_ret
  exact ⟨rfl, hA⟩
set_option maxHeartbeats 8000000 in
set_option maxRecDepth 100000 in
theorem wait_c0 (a : Option Addr) (c : Nat) (a2 : Option Addr) (c2 : Nat) (qs : List Qu) (ts : List Th) (q : Int) (k l : Int) (hck : chkB qs ts q = true) (h0 : k < 0) (w : World) (hs : ScIn w a c a2 c2 qs ts) :
    Calls Try.prog 6 #[.agg #[.slice a qs.length c, .slice a2 ts.length c2, .int .i64 q], .int .i64 k, .int .i64 l] w fun y w' => y = .returned (.bool true) ∧ Below w.heap.size w w' := by
  have HCK := Lib.hid (show okE (chkB qs ts q) = 0 by rw [hck]; rfl)
  have HK := (Kw.start w).box (vs := [.slice a qs.length c, .slice a2 ts.length c2, .int .i64 q]) (t := 25)
  have HS := Lib.hid hs
  have HC := Lib.hid (fun w hs => check_c a c a2 c2 qs ts q w hs)
  clear hs hck
  go_enter Try.func6, Try.ntmps6
  go_wp2_with fail
  refine (sane_c _).mono ?_
  rintro y w1 ⟨rfl, hq⟩
  replace HK := HK.below hq
  clear hq
  have p_0 := HK.get 0 0 rfl rfl
  have p_1 := HK.get 0 1 rfl rfl
  have p_2 := HK.get 0 2 rfl rfl
  go_wp2_with fail
  refine (HC.out _ (HS.out.below HK.base)).mono ?_
  rintro y w2 ⟨rfl, hq⟩
  rw [HCK.out]
  replace HK := HK.below hq
  clear hq p_0 p_1 p_2 HC
  have p_0 := HK.get 0 0 rfl rfl
  have p_1 := HK.get 0 1 rfl rfl
  have p_2 := HK.get 0 2 rfl rfl
  have hA := HK.base
  clear HK
  go_wp2
  go_ret
  exact ⟨rfl, hA⟩
set_option maxHeartbeats 8000000 in
set_option maxRecDepth 100000 in
theorem wait_c1 (a : Option Addr) (c : Nat) (a2 : Option Addr) (c2 : Nat) (qs : List Qu) (ts : List Th) (q : Int) (k l : Int) (hck : chkB qs ts q = true) (h0 : ¬ k < 0) (h1 : (qs.length : Int) ≤ k) (w : World) (hs : ScIn w a c a2 c2 qs ts) :
    Calls Try.prog 6 #[.agg #[.slice a qs.length c, .slice a2 ts.length c2, .int .i64 q], .int .i64 k, .int .i64 l] w fun y w' => y = .returned (.bool true) ∧ Below w.heap.size w w' := by
  have HCK := Lib.hid (show okE (chkB qs ts q) = 0 by rw [hck]; rfl)
  have HK := (Kw.start w).box (vs := [.slice a qs.length c, .slice a2 ts.length c2, .int .i64 q]) (t := 25)
  have HS := Lib.hid hs
  have HC := Lib.hid (fun w hs => check_c a c a2 c2 qs ts q w hs)
  clear hs hck
  go_enter Try.func6, Try.ntmps6
  go_wp2_with fail
  refine (sane_c _).mono ?_
  rintro y w1 ⟨rfl, hq⟩
  replace HK := HK.below hq
  clear hq
  have p_0 := HK.get 0 0 rfl rfl
  have p_1 := HK.get 0 1 rfl rfl
  have p_2 := HK.get 0 2 rfl rfl
  go_wp2_with fail
  refine (HC.out _ (HS.out.below HK.base)).mono ?_
  rintro y w2 ⟨rfl, hq⟩
  rw [HCK.out]
  replace HK := HK.below hq
  clear hq p_0 p_1 p_2 HC
  have p_0 := HK.get 0 0 rfl rfl
  have p_1 := HK.get 0 1 rfl rfl
  have p_2 := HK.get 0 2 rfl rfl
  have hA := HK.base
  clear HK
  go_wp2
  go_ret
  exact ⟨rfl, hA⟩
set_option maxHeartbeats 8000000 in
set_option maxRecDepth 100000 in
theorem wait_k0 (a : Option Addr) (c : Nat) (a2 : Option Addr) (c2 : Nat) (qs : List Qu) (ts : List Th) (q : Int) (k : Nat) (l : Int) (hck : chkB qs ts q = true) (hk : k < qs.length) (h0 : l < 0) (w : World) (hs : ScIn w a c a2 c2 qs ts) :
    Calls Try.prog 6 #[.agg #[.slice a qs.length c, .slice a2 ts.length c2, .int .i64 q], .int .i64 k, .int .i64 l] w fun y w' => y = .returned (.bool true) ∧ Below w.heap.size w w' := by
  have HCK := Lib.hid (show okE (chkB qs ts q) = 0 by rw [hck]; rfl)
  have k0 : (0 : Int) ≤ (k : Int) := Int.natCast_nonneg _
  have k1 : (k : Int) < (qs.length : Int) := by omega
  have HK := (Kw.start w).box (vs := [.slice a qs.length c, .slice a2 ts.length c2, .int .i64 q]) (t := 25)
  have HS := Lib.hid hs
  have HC := Lib.hid (fun w hs => check_c a c a2 c2 qs ts q w hs)
  clear hs hck hk
  go_enter Try.func6, Try.ntmps6
  go_wp2_with fail
  refine (sane_c _).mono ?_
  rintro y w1 ⟨rfl, hq⟩
  replace HK := HK.below hq
  clear hq
  have p_0 := HK.get 0 0 rfl rfl
  have p_1 := HK.get 0 1 rfl rfl
  have p_2 := HK.get 0 2 rfl rfl
  go_wp2_with fail
  refine (HC.out _ (HS.out.below HK.base)).mono ?_
  rintro y w2 ⟨rfl, hq⟩
  rw [HCK.out]
  replace HK := HK.below hq
  clear hq p_0 p_1 p_2 HC
  have p_0 := HK.get 0 0 rfl rfl
  have p_1 := HK.get 0 1 rfl rfl
  have p_2 := HK.get 0 2 rfl rfl
  have hA := HK.base
  clear HK
  go_wp2
  go_ret
  exact ⟨rfl, hA⟩
set_option maxHeartbeats 8000000 in
set_option maxRecDepth 100000 in
theorem wait_k1 (a : Option Addr) (c : Nat) (a2 : Option Addr) (c2 : Nat) (qs : List Qu) (ts : List Th) (q : Int) (k : Nat) (l : Int) (hck : chkB qs ts q = true) (hk : k < qs.length) (h0 : ¬ l < 0) (h1 : ((quOf qs (k : Int)).ready.length : Int) ≤ l) (w : World) (hs : ScIn w a c a2 c2 qs ts) :
    Calls Try.prog 6 #[.agg #[.slice a qs.length c, .slice a2 ts.length c2, .int .i64 q], .int .i64 k, .int .i64 l] w fun y w' => y = .returned (.bool true) ∧ Below w.heap.size w w' := by
  have HCK := Lib.hid (show okE (chkB qs ts q) = 0 by rw [hck]; rfl)
  have hok := ok_of_chk hck
  have k0 : (0 : Int) ≤ (k : Int) := Int.natCast_nonneg _
  have k1 : (k : Int) < (qs.length : Int) := by omega
  obtain ⟨bq, oq, rfl, hbq, c0, c1, ar, cr, cx, hv, h5⟩ := hs.qu (qu_some hk)
  have hm1 := hs.v1.max
  unfold maxLen at hm1
  have hl16 : (quOf qs (k : Int)).ready.length ≤ 16 := short16 hok k _ (qu_some hk)
  generalize (quOf qs (k : Int)).ready.length = nr at *
  have HK := (Kw.start w).box (vs := [.slice (some ⟨bq, oq, none⟩) qs.length c, .slice a2 ts.length c2, .int .i64 q]) (t := 25)
  have HS := Lib.hid hs
  have HC := Lib.hid (fun w hs => check_c (some ⟨bq, oq, none⟩) c a2 c2 qs ts q w hs)
  clear hs hck hk hok h5 hv
  go_enter Try.func6, Try.ntmps6
  go_wp2_with fail
  refine (sane_c _).mono ?_
  rintro y w1 ⟨rfl, hq⟩
  replace HK := HK.below hq
  clear hq
  have p_0 := HK.get 0 0 rfl rfl
  have p_1 := HK.get 0 1 rfl rfl
  have p_2 := HK.get 0 2 rfl rfl
  go_wp2_with fail
  refine (HC.out _ (HS.out.below HK.base)).mono ?_
  rintro y w2 ⟨rfl, hq⟩
  rw [HCK.out]
  replace HK := HK.below hq
  clear hq p_0 p_1 p_2 HC
  have p_0 := HK.get 0 0 rfl rfl
  have p_1 := HK.get 0 1 rfl rfl
  have p_2 := HK.get 0 2 rfl rfl
  have e_0 := (HK.base.cell (p := ⟨bq, oq + k * 3, none⟩) hbq).trans c0
  have e_1 := (HK.base.cell (p := ⟨bq, oq + k * 3 + 1, none⟩) hbq).trans c1
  have e_2 := (HK.base.cell (p := ⟨bq, oq + k * 3 + 2, none⟩) hbq).trans cx
  clear c0 c1 cx
  have hA := HK.base
  clear HK
  go_wp2
  go_ret
  exact ⟨rfl, hA⟩
set_option maxHeartbeats 8000000 in
set_option maxRecDepth 100000 in
theorem wait_f1 (a : Option Addr) (c : Nat) (a2 : Option Addr) (c2 : Nat) (qs : List Qu) (ts : List Th) (q : Int) (k l : Nat) (hck : chkB qs ts q = true) (hk : k < qs.length) (hl : l < (quOf qs (k : Int)).ready.length) (my mt : Nat) (h0 : (quOf qs (k : Int)).ready[0]? = some (my : Int)) (ht : (quOf qs (k : Int)).ready[l]? = some (mt : Int)) (ty tt : Th) (hty : ts[my]? = some ty) (htt : ts[mt]? = some tt) (hp : ty.pri ≠ tt.pri) (w : World) (hs : ScIn w a c a2 c2 qs ts) :
    Calls Try.prog 6 #[.agg #[.slice a qs.length c, .slice a2 ts.length c2, .int .i64 q], .int .i64 k, .int .i64 l] w fun y w' => y = .returned (.bool true) ∧ Below w.heap.size w w' := by
  have HCK := Lib.hid (show okE (chkB qs ts q) = 0 by rw [hck]; rfl)
  have hok := ok_of_chk hck
  have k0 : (0 : Int) ≤ (k : Int) := Int.natCast_nonneg _
  have k1 : (k : Int) < (qs.length : Int) := by omega
  obtain ⟨bq, oq, rfl, hbq, c0, c1, ar, cr, cx, hv, h5⟩ := hs.qu (qu_some hk)
  have hm1 := hs.v1.max
  unfold maxLen at hm1
  have hl16 : (quOf qs (k : Int)).ready.length ≤ 16 := short16 hok k _ (qu_some hk)
  obtain ⟨br, orr, rfl, hbr, hcr⟩ : ∃ b off : Nat, ar = some ⟨b, off, none⟩ ∧ b < w.heap.size ∧ ∀ (j : Nat) (x_1 : Value), (iV (quOf qs (k : Int)).ready)[j]? = some x_1 → w.cell? ⟨b, off + j, none⟩ = some x_1 := by
    rcases h5 with h | h
    · simp [iV] at h; rw [h] at hl; simp at hl
    · exact h
  have g0 : w.cell? ⟨br, orr, none⟩ = some (.int .i64 my) := hcr 0 _ (by simp [iV, h0])
  have gl : w.cell? ⟨br, orr + l, none⟩ = some (.int .i64 mt) := hcr l _ (by simp [iV, ht])
  obtain ⟨bb, oo, rfl, hbb, y0, _, _⟩ := hs.th hty
  obtain ⟨bb', oo', e', _, t0, _, _⟩ := hs.th htt
  obtain ⟨rfl, rfl⟩ : bb = bb' ∧ oo = oo' := by simpa using e'
  clear e' hcr h5
  have l0 : (0 : Int) ≤ (l : Int) := Int.natCast_nonneg _
  have l1 : (l : Int) < ((quOf qs (k : Int)).ready.length : Int) := by omega
  have r1 : (0 : Int) < ((quOf qs (k : Int)).ready.length : Int) := by omega
  have a0 : (0 : Int) ≤ (my : Int) := Int.natCast_nonneg _
  have a1 : (my : Int) < (ts.length : Int) := by have := (List.getElem?_eq_some_iff.1 hty).1; omega
  have b0 : (0 : Int) ≤ (mt : Int) := Int.natCast_nonneg _
  have b1 : (mt : Int) < (ts.length : Int) := by have := (List.getElem?_eq_some_iff.1 htt).1; omega
  have hm2 := hs.v2.max
  unfold maxLen at hm2
  have hl2 : l ≤ 16 := by omega
  have r2 : 0 < (quOf qs (k : Int)).ready.length := by omega
  have n_0 : ((k : Int) < 0) = False := eq_false (by omega)
  have n_1 : ¬ (qs.length ≤ k) := by omega
  have n_2 : ((l : Int) < 0) = False := eq_false (by omega)
  have n_3 : ¬ ((quOf qs (k : Int)).ready.length ≤ l) := by omega
  generalize (quOf qs (k : Int)).ready.length = nr at *
  generalize (quOf qs (k : Int)).left = lf at *
  generalize (quOf qs (k : Int)).run = ru at *
  have hpe : (ty.pri == tt.pri) = false := by simpa using hp
  have hpb : (ty.pri != tt.pri) = true := by simpa using hp
  have hpd : decide (ty.pri ≠ tt.pri) = true := by simpa using hp
  generalize ty.pri = py at *
  generalize tt.pri = pt at *
  have HK := (Kw.start w).box (vs := [.slice (some ⟨bq, oq, none⟩) qs.length c, .slice (some ⟨bb, oo, none⟩) ts.length c2, .int .i64 q]) (t := 25)
  have HS := Lib.hid hs
  have HC := Lib.hid (fun w hs => check_c (some ⟨bq, oq, none⟩) c (some ⟨bb, oo, none⟩) c2 qs ts q w hs)
  clear hs hck hk hv hl h0 ht hty htt hok
  go_enter Try.func6, Try.ntmps6
  go_wp2_with fail
  refine (sane_c _).mono ?_
  rintro y w1 ⟨rfl, hq⟩
  replace HK := HK.below hq
  clear hq
  have p_0 := HK.get 0 0 rfl rfl
  have p_1 := HK.get 0 1 rfl rfl
  have p_2 := HK.get 0 2 rfl rfl
  go_wp2_with fail
  refine (HC.out _ (HS.out.below HK.base)).mono ?_
  rintro y w2 ⟨rfl, hq⟩
  rw [HCK.out]
  replace HK := HK.below hq
  clear hq p_0 p_1 p_2 HC
  have p_0 := HK.get 0 0 rfl rfl
  have p_1 := HK.get 0 1 rfl rfl
  have p_2 := HK.get 0 2 rfl rfl
  have e_0 := (HK.base.cell (p := ⟨bq, oq + k * 3, none⟩) hbq).trans c0
  have e_1 := (HK.base.cell (p := ⟨bq, oq + k * 3 + 1, none⟩) hbq).trans c1
  have e_2 := (HK.base.cell (p := ⟨bq, oq + k * 3 + 2, none⟩) hbq).trans cx
  have f_0 := (HK.base.cell (p := ⟨br, orr, none⟩) hbr).trans g0
  have f_l := (HK.base.cell (p := ⟨br, orr + l, none⟩) hbr).trans gl
  have f_y := (HK.base.cell (p := ⟨bb, oo + my * 3, none⟩) hbb).trans y0
  have f_t := (HK.base.cell (p := ⟨bb, oo + mt * 3, none⟩) hbb).trans t0
  have z_q : bq < w2.heap.size := Nat.lt_of_lt_of_le hbq HK.base.size
  have z_r : br < w2.heap.size := Nat.lt_of_lt_of_le hbr HK.base.size
  have z_b : bb < w2.heap.size := Nat.lt_of_lt_of_le hbb HK.base.size
  have z_w : w.heap.size < w2.heap.size := HK.lt 0 rfl
  clear c0 c1 cx g0 gl y0 t0
  replace HK := HK.box (vs := [.int .i64 ru, .int .i64 lf, .slice (some ⟨br, orr, none⟩) nr cr]) (t := 47)
  have hA := HK.base
  clear HK
  go_wp2
  go_region
  go_wp2
  go_ret
  exact ⟨rfl, by first | exact hA | exact hA.drew | exact below_drewN hA _⟩
set_option maxHeartbeats 8000000 in
set_option maxRecDepth 100000 in
theorem wait_f2 (a : Option Addr) (c : Nat) (a2 : Option Addr) (c2 : Nat) (qs : List Qu) (ts : List Th) (q : Int) (k l : Nat) (hck : chkB qs ts q = true) (hk : k < qs.length) (hl : l < (quOf qs (k : Int)).ready.length) (my mt : Nat) (h0 : (quOf qs (k : Int)).ready[0]? = some (my : Int)) (ht : (quOf qs (k : Int)).ready[l]? = some (mt : Int)) (ty tt : Th) (hty : ts[my]? = some ty) (htt : ts[mt]? = some tt) (hp : ty.pri = tt.pri) (mr : Nat) (tr : Th) (hr : (quOf qs (k : Int)).run = mr) (htr : ts[mr]? = some tr) (hgt : tt.pri < tr.pri) (w : World) (hs : ScIn w a c a2 c2 qs ts) :
    Calls Try.prog 6 #[.agg #[.slice a qs.length c, .slice a2 ts.length c2, .int .i64 q], .int .i64 k, .int .i64 l] w fun y w' => y = .returned (.bool true) ∧ Below w.heap.size w w' := by
  have HCK := Lib.hid (show okE (chkB qs ts q) = 0 by rw [hck]; rfl)
  have hok := ok_of_chk hck
  have k0 : (0 : Int) ≤ (k : Int) := Int.natCast_nonneg _
  have k1 : (k : Int) < (qs.length : Int) := by omega
  obtain ⟨bq, oq, rfl, hbq, c0, c1, ar, cr, cx, hv, h5⟩ := hs.qu (qu_some hk)
  have hm1 := hs.v1.max
  unfold maxLen at hm1
  have hl16 : (quOf qs (k : Int)).ready.length ≤ 16 := short16 hok k _ (qu_some hk)
  obtain ⟨br, orr, rfl, hbr, hcr⟩ : ∃ b off : Nat, ar = some ⟨b, off, none⟩ ∧ b < w.heap.size ∧ ∀ (j : Nat) (x_1 : Value), (iV (quOf qs (k : Int)).ready)[j]? = some x_1 → w.cell? ⟨b, off + j, none⟩ = some x_1 := by
    rcases h5 with h | h
    · simp [iV] at h; rw [h] at hl; simp at hl
    · exact h
  have g0 : w.cell? ⟨br, orr, none⟩ = some (.int .i64 my) := hcr 0 _ (by simp [iV, h0])
  have gl : w.cell? ⟨br, orr + l, none⟩ = some (.int .i64 mt) := hcr l _ (by simp [iV, ht])
  obtain ⟨bb, oo, rfl, hbb, y0, _, _⟩ := hs.th hty
  obtain ⟨bb', oo', e', _, t0, _, _⟩ := hs.th htt
  obtain ⟨rfl, rfl⟩ : bb = bb' ∧ oo = oo' := by simpa using e'
  clear e' hcr h5
  have l0 : (0 : Int) ≤ (l : Int) := Int.natCast_nonneg _
  have l1 : (l : Int) < ((quOf qs (k : Int)).ready.length : Int) := by omega
  have r1 : (0 : Int) < ((quOf qs (k : Int)).ready.length : Int) := by omega
  have a0 : (0 : Int) ≤ (my : Int) := Int.natCast_nonneg _
  have a1 : (my : Int) < (ts.length : Int) := by have := (List.getElem?_eq_some_iff.1 hty).1; omega
  have b0 : (0 : Int) ≤ (mt : Int) := Int.natCast_nonneg _
  have b1 : (mt : Int) < (ts.length : Int) := by have := (List.getElem?_eq_some_iff.1 htt).1; omega
  have hm2 := hs.v2.max
  unfold maxLen at hm2
  have hl2 : l ≤ 16 := by omega
  have r2 : 0 < (quOf qs (k : Int)).ready.length := by omega
  have n_0 : ((k : Int) < 0) = False := eq_false (by omega)
  have n_1 : ¬ (qs.length ≤ k) := by omega
  have n_2 : ((l : Int) < 0) = False := eq_false (by omega)
  have n_3 : ¬ ((quOf qs (k : Int)).ready.length ≤ l) := by omega
  obtain ⟨bb', oo', e', _, u0, _, _⟩ := hs.th htr
  obtain ⟨rfl, rfl⟩ : bb = bb' ∧ oo = oo' := by simpa using e'
  clear e'
  have d0 : (0 : Int) ≤ (mr : Int) := Int.natCast_nonneg _
  have d1 : (mr : Int) < (ts.length : Int) := by have := (List.getElem?_eq_some_iff.1 htr).1; omega
  have hr0 : ((mr : Int) == -1) = false := by simp
  have hr2 : ((mr : Int) != -1) = true := by rw [bne, hr0]; rfl
  rw [hr] at c0
  rw [hp] at y0
  clear hr htr hp
  generalize (quOf qs (k : Int)).ready.length = nr at *
  generalize (quOf qs (k : Int)).left = lf at *
  generalize tt.pri = pt at *
  generalize tr.pri = pr at *
  have HK := (Kw.start w).box (vs := [.slice (some ⟨bq, oq, none⟩) qs.length c, .slice (some ⟨bb, oo, none⟩) ts.length c2, .int .i64 q]) (t := 25)
  have HS := Lib.hid hs
  have HC := Lib.hid (fun w hs => check_c (some ⟨bq, oq, none⟩) c (some ⟨bb, oo, none⟩) c2 qs ts q w hs)
  clear hs hck hk hv hl h0 ht hty htt hok
  go_enter Try.func6, Try.ntmps6
  go_wp2_with fail
  refine (sane_c _).mono ?_
  rintro y w1 ⟨rfl, hq⟩
  replace HK := HK.below hq
  clear hq
  have p_0 := HK.get 0 0 rfl rfl
  have p_1 := HK.get 0 1 rfl rfl
  have p_2 := HK.get 0 2 rfl rfl
  go_wp2_with fail
  refine (HC.out _ (HS.out.below HK.base)).mono ?_
  rintro y w2 ⟨rfl, hq⟩
  rw [HCK.out]
  replace HK := HK.below hq
  clear hq p_0 p_1 p_2 HC
  have p_0 := HK.get 0 0 rfl rfl
  have p_1 := HK.get 0 1 rfl rfl
  have p_2 := HK.get 0 2 rfl rfl
  have e_0 := (HK.base.cell (p := ⟨bq, oq + k * 3, none⟩) hbq).trans c0
  have e_1 := (HK.base.cell (p := ⟨bq, oq + k * 3 + 1, none⟩) hbq).trans c1
  have e_2 := (HK.base.cell (p := ⟨bq, oq + k * 3 + 2, none⟩) hbq).trans cx
  have f_0 := (HK.base.cell (p := ⟨br, orr, none⟩) hbr).trans g0
  have f_l := (HK.base.cell (p := ⟨br, orr + l, none⟩) hbr).trans gl
  have f_y := (HK.base.cell (p := ⟨bb, oo + my * 3, none⟩) hbb).trans y0
  have f_t := (HK.base.cell (p := ⟨bb, oo + mt * 3, none⟩) hbb).trans t0
  have z_q : bq < w2.heap.size := Nat.lt_of_lt_of_le hbq HK.base.size
  have z_r : br < w2.heap.size := Nat.lt_of_lt_of_le hbr HK.base.size
  have z_b : bb < w2.heap.size := Nat.lt_of_lt_of_le hbb HK.base.size
  have z_w : w.heap.size < w2.heap.size := HK.lt 0 rfl
  have f_r := (HK.base.cell (p := ⟨bb, oo + mr * 3, none⟩) hbb).trans u0
  clear u0
  clear c0 c1 cx g0 gl y0 t0
  replace HK := HK.box (vs := [.int .i64 mr, .int .i64 lf, .slice (some ⟨br, orr, none⟩) nr cr]) (t := 47)
  have hA := HK.base
  clear HK
  go_wp2
  go_region
  go_wp2
  go_ret
  exact ⟨rfl, by first | exact hA | exact hA.drew | exact below_drewN hA _⟩
set_option maxHeartbeats 8000000 in
set_option maxRecDepth 100000 in
theorem wait_f4 (a : Option Addr) (c : Nat) (a2 : Option Addr) (c2 : Nat) (qs : List Qu) (ts : List Th) (q : Int) (k l : Nat) (hck : chkB qs ts q = true) (hk : k < qs.length) (hl : l < (quOf qs (k : Int)).ready.length) (my mt : Nat) (h0 : (quOf qs (k : Int)).ready[0]? = some (my : Int)) (ht : (quOf qs (k : Int)).ready[l]? = some (mt : Int)) (ty tt : Th) (hty : ts[my]? = some ty) (htt : ts[mt]? = some tt) (hp : ty.pri = tt.pri) (mr : Nat) (tr : Th) (hr : (quOf qs (k : Int)).run = mr) (htr : ts[mr]? = some tr) (hgt : ¬ tt.pri < tr.pri) (w : World) (hs : ScIn w a c a2 c2 qs ts) :
    Calls Try.prog 6 #[.agg #[.slice a qs.length c, .slice a2 ts.length c2, .int .i64 q], .int .i64 k, .int .i64 l] w fun y w' => y = .returned (.bool true) ∧ Below w.heap.size w w' := by
  have HCK := Lib.hid (show okE (chkB qs ts q) = 0 by rw [hck]; rfl)
  have hok := ok_of_chk hck
  have k0 : (0 : Int) ≤ (k : Int) := Int.natCast_nonneg _
  have k1 : (k : Int) < (qs.length : Int) := by omega
  obtain ⟨bq, oq, rfl, hbq, c0, c1, ar, cr, cx, hv, h5⟩ := hs.qu (qu_some hk)
  have hm1 := hs.v1.max
  unfold maxLen at hm1
  have hl16 : (quOf qs (k : Int)).ready.length ≤ 16 := short16 hok k _ (qu_some hk)
  obtain ⟨br, orr, rfl, hbr, hcr⟩ : ∃ b off : Nat, ar = some ⟨b, off, none⟩ ∧ b < w.heap.size ∧ ∀ (j : Nat) (x_1 : Value), (iV (quOf qs (k : Int)).ready)[j]? = some x_1 → w.cell? ⟨b, off + j, none⟩ = some x_1 := by
    rcases h5 with h | h
    · simp [iV] at h; rw [h] at hl; simp at hl
    · exact h
  have g0 : w.cell? ⟨br, orr, none⟩ = some (.int .i64 my) := hcr 0 _ (by simp [iV, h0])
  have gl : w.cell? ⟨br, orr + l, none⟩ = some (.int .i64 mt) := hcr l _ (by simp [iV, ht])
  obtain ⟨bb, oo, rfl, hbb, y0, _, _⟩ := hs.th hty
  obtain ⟨bb', oo', e', _, t0, _, _⟩ := hs.th htt
  obtain ⟨rfl, rfl⟩ : bb = bb' ∧ oo = oo' := by simpa using e'
  clear e' hcr h5
  have l0 : (0 : Int) ≤ (l : Int) := Int.natCast_nonneg _
  have l1 : (l : Int) < ((quOf qs (k : Int)).ready.length : Int) := by omega
  have r1 : (0 : Int) < ((quOf qs (k : Int)).ready.length : Int) := by omega
  have a0 : (0 : Int) ≤ (my : Int) := Int.natCast_nonneg _
  have a1 : (my : Int) < (ts.length : Int) := by have := (List.getElem?_eq_some_iff.1 hty).1; omega
  have b0 : (0 : Int) ≤ (mt : Int) := Int.natCast_nonneg _
  have b1 : (mt : Int) < (ts.length : Int) := by have := (List.getElem?_eq_some_iff.1 htt).1; omega
  have hm2 := hs.v2.max
  unfold maxLen at hm2
  have hl2 : l ≤ 16 := by omega
  have r2 : 0 < (quOf qs (k : Int)).ready.length := by omega
  have n_0 : ((k : Int) < 0) = False := eq_false (by omega)
  have n_1 : ¬ (qs.length ≤ k) := by omega
  have n_2 : ((l : Int) < 0) = False := eq_false (by omega)
  have n_3 : ¬ ((quOf qs (k : Int)).ready.length ≤ l) := by omega
  have hP0 : (thOf ts (my : Int)).pri = tt.pri := by rw [thOf_of hty]; exact hp
  have hPt : (thOf ts (mt : Int)).pri = tt.pri := by rw [thOf_of htt]
  have hal := wait_start (s := ⟨qs, ts, q⟩) (c := k) (k := l) hok hk ht hPt (fun y hy => by
    have : y = (my : Int) := by have := hy.symm.trans h0; simpa using this
    rw [this]; exact hP0)
  have hIw : Iw ⟨qs, ts, q⟩ k 0 (((l : Int) + 1) * q) mt tt.pri := by
    obtain ⟨h1, h2⟩ := wait_run (s := ⟨qs, ts, q⟩) (c := k) (k := l) (thr := mt) (P := tt.pri) hok hk (by show (quOf qs (k : Int)).run ≠ -1; rw [hr]; omega) (by show (thOf ts (quOf qs (k : Int)).run).pri ≤ _; rw [hr, thOf_of htr]; omega) ht hal
    exact ⟨hok, hk, .inr ⟨l, h1, by simpa using h2⟩⟩
  have q1 : 1 ≤ q := hok.q1
  have q2 : q ≤ 20 := hok.q2
  obtain ⟨L1, hL1⟩ : ∃ L1 : Int, L1 = (l : Int) + 1 := ⟨_, rfl⟩
  obtain ⟨N, hN⟩ : ∃ N : Int, N = L1 * q := ⟨_, rfl⟩
  have hNb : 0 ≤ N ∧ N ≤ 340 := by
    rw [hN]
    have h1 : L1 * q ≤ 17 * 20 := Int.mul_le_mul (by omega) q2 (by omega) (by omega)
    have h2 : 0 ≤ L1 * q := Int.mul_nonneg (by omega) (by omega)
    omega
  have hw1 : IntKind.i64.wrap ((l : Int) + 1) = L1 := by rw [IntWalk.i64_in _ (by omega)]; exact hL1.symm
  have hw2 : IntKind.i64.wrap (L1 * q) = N := by rw [← hN]; exact IntWalk.i64_in _ (by omega)
  rw [← hL1, ← hN] at hIw
  have HIW := Lib.hid hIw
  clear hal hIw hP0 hPt hL1 hN
  obtain ⟨bb', oo', e', _, u0, _, _⟩ := hs.th htr
  obtain ⟨rfl, rfl⟩ : bb = bb' ∧ oo = oo' := by simpa using e'
  clear e'
  have d0 : (0 : Int) ≤ (mr : Int) := Int.natCast_nonneg _
  have d1 : (mr : Int) < (ts.length : Int) := by have := (List.getElem?_eq_some_iff.1 htr).1; omega
  have hr0 : ((mr : Int) == -1) = false := by simp
  have hr2 : ((mr : Int) != -1) = true := by rw [bne, hr0]; rfl
  rw [hr] at c0
  rw [hp] at y0
  clear hr htr hp
  generalize (quOf qs (k : Int)).ready.length = nr at *
  generalize (quOf qs (k : Int)).left = lf at *
  generalize hpt : tt.pri = pt at *
  generalize tr.pri = pr at *
  have HK := (Kw.start w).box (vs := [.slice (some ⟨bq, oq, none⟩) qs.length c, .slice (some ⟨bb, oo, none⟩) ts.length c2, .int .i64 q]) (t := 25)
  have HS := Lib.hid hs
  have HC := Lib.hid (fun w hs => check_c (some ⟨bq, oq, none⟩) c (some ⟨bb, oo, none⟩) c2 qs ts q w hs)
  clear hs hck hk hv hl h0 ht hty htt hok
  go_enter Try.func6, Try.ntmps6
  go_wp2_with fail
  refine (sane_c _).mono ?_
  rintro y w1 ⟨rfl, hq⟩
  replace HK := HK.below hq
  clear hq
  have p_0 := HK.get 0 0 rfl rfl
  have p_1 := HK.get 0 1 rfl rfl
  have p_2 := HK.get 0 2 rfl rfl
  go_wp2_with fail
  refine (HC.out _ (HS.out.below HK.base)).mono ?_
  rintro y w2 ⟨rfl, hq⟩
  rw [HCK.out]
  replace HK := HK.below hq
  clear hq p_0 p_1 p_2 HC
  have p_0 := HK.get 0 0 rfl rfl
  have p_1 := HK.get 0 1 rfl rfl
  have p_2 := HK.get 0 2 rfl rfl
  have e_0 := (HK.base.cell (p := ⟨bq, oq + k * 3, none⟩) hbq).trans c0
  have e_1 := (HK.base.cell (p := ⟨bq, oq + k * 3 + 1, none⟩) hbq).trans c1
  have e_2 := (HK.base.cell (p := ⟨bq, oq + k * 3 + 2, none⟩) hbq).trans cx
  have f_0 := (HK.base.cell (p := ⟨br, orr, none⟩) hbr).trans g0
  have f_l := (HK.base.cell (p := ⟨br, orr + l, none⟩) hbr).trans gl
  have f_y := (HK.base.cell (p := ⟨bb, oo + my * 3, none⟩) hbb).trans y0
  have f_t := (HK.base.cell (p := ⟨bb, oo + mt * 3, none⟩) hbb).trans t0
  have z_q : bq < w2.heap.size := Nat.lt_of_lt_of_le hbq HK.base.size
  have z_r : br < w2.heap.size := Nat.lt_of_lt_of_le hbr HK.base.size
  have z_b : bb < w2.heap.size := Nat.lt_of_lt_of_le hbb HK.base.size
  have z_w : w.heap.size < w2.heap.size := HK.lt 0 rfl
  have f_r := (HK.base.cell (p := ⟨bb, oo + mr * 3, none⟩) hbb).trans u0
  have HXR := Lib.hid (HK.row 0 rfl)
  clear c0 c1 cx g0 gl y0 t0 u0
  have hal0 := b_alloc (o := .cells #[.int .i64 mr, .int .i64 lf, .slice (some ⟨br, orr, none⟩) nr cr] 47) (Below.refl w2.heap.size w2)
  have HXR2 := Lib.hid ((hal0.block _ z_w).trans HXR.out)
  have HBB := Lib.hid (Below.tail HK.base hal0)
  have HSS := Lib.hid (HS.out.below HBB.out)
  have HST : Hid (∀ W', Below (w2.alloc (.cells #[.int .i64 mr, .int .i64 lf, .slice (some ⟨br, orr, none⟩) nr cr] 47)).heap.size (w2.alloc (.cells #[.int .i64 mr, .int .i64 lf, .slice (some ⟨br, orr, none⟩) nr cr] 47)) W' → WRel w k qs.length ts.length q N mt pt (.int .i64 0) W') :=
    Lib.hid fun W' hW => ⟨0, _, ⟨qs, ts, q⟩, (some ⟨bq, oq, none⟩), c, (some ⟨bb, oo, none⟩), c2, rfl, rfl, hNb.1, (hW.block _ (Array.getElem?_eq_some_iff.1 HXR2.out).1).trans HXR2.out, Lib.hid ⟨Below.tail HBB.out hW, HSS.out.below hW, rfl, rfl, rfl, HIW.out⟩⟩
  clear HK hal0 HXR2 HXR HSS HBB HIW
  go_wp2
  go_region
  go_wp2_with fail
  go_loopw [11] (fun i wr => WRel w k qs.length ts.length q N mt pt i wr) (fun i _ => (N - intOf i).toNat)
  case atStart => exact HST.out _ (by first | exact Below.refl _ _ | exact (Below.refl _ _).drew | exact below_drewN (Below.refl _ _) _)
  case round =>
    clear p_0 p_1 p_2 HST
    obtain ⟨j, wv, s, a, d, b, e, hw, rfl, hj, hrow, hH⟩ := hrel
    subst hw
    obtain ⟨hB, hsc, hn, hm, hsq, hI⟩ := hH.out
    have hck : k < s.qs.length := hI.2.1
    obtain ⟨bq, oq, rfl, hbq, c0, _⟩ := hsc.qu (qu_some hck)
    obtain ⟨p_0, p_1, p_2, s_0, s_1, s_2, xl⟩ := row3 hrow
    have HSC := Lib.hid hsc
    have HB := Lib.hid hB
    have HI := Lib.hid hI
    have hok := hI.1
    have j0 : (0 : Int) ≤ (j : Int) := Int.natCast_nonneg _
    by_cases hlt : (j : Int) < N
    · by_cases hrun : (quOf s.qs (k : Int)).run = mt
      · rw [hrun] at c0
        clear hsc hB hI hH hok hrow
        go_wp2
        go_ret
        exact ⟨rfl, HB.out⟩
      · have hne : ((quOf s.qs (k : Int)).run == (mt : Int)) = false := by simpa using hrun
        have HT := Lib.hid (tick_at s qs.length ts.length q k hn hm hsq hok hck)
        have HSW := Lib.hid (switch_at (tickM s k) qs.length ts.length q k ((tickM_n s k).trans hn) hm hsq (tick_ok hok hck) (by rw [tickM_n]; exact hck))
        have HNX := Lib.hid (hI.next hrun)
        have HOKT := Lib.hid (tick_ok hok hck)
        have HROW := Lib.hid hrow
        have HLN := Lib.hid (show (roundM s k).qs.length = qs.length from (roundM_n s k).trans hn)
        have HLM := Lib.hid (show (roundM s k).ts.length = ts.length from (roundM_m s k).trans hm)
        have HLQ := Lib.hid (show (roundM s k).q = q from (roundM_q s k).trans hsq)
        generalize (quOf s.qs (k : Int)).run = ru at *
        cases hd : dueM (tickM s k) k with
        | false =>
          have HR := Lib.hid (show roundM s k = tickM s k by unfold roundM; rw [hd]; rfl)
          rw [hd] at HT
          clear hsc hB hI hH hok hrow hrun hd HSW HI
          go_wp2_with fail
          refine (HT.out _ _ _ _ _ HSC.out).mono ?_
          rintro y w1 ⟨g, d1, b1, e1, rfl, hb, ho⟩
          have hV := b_alloc (o := .cells #[.slice (some ⟨g, 0, none⟩) qs.length d1, .slice b1 ts.length e1, .int .i64 q] 25) (Below.refl w1.heap.size w1)
          have hT := heap_alloc_new w1 (.cells #[.slice (some ⟨g, 0, none⟩) qs.length d1, .slice b1 ts.length e1, .int .i64 q] 25)
          have hbV := Below.tail hb hV
          have HO := Lib.hid (ho.below hV)
          clear p_0 p_1 p_2 s_0 s_1 s_2 hb ho hV HT c0 hne hbq
          go_upto_region 17 with fail
          generalize hTT : w1.heap.size = T at *
          generalize (w1.alloc (.cells #[.slice (some ⟨g, 0, none⟩) qs.length d1, .slice b1 ts.length e1, .int .i64 q] 25)) = V at *
          obtain ⟨q_0, q_1, q_2, z_0, z_1, z_2, Tl2⟩ := row3 hT
          have hX3 := (hbV.block _ xl).trans HROW.out
          obtain ⟨p_0, p_1, p_2, s_0, s_1, s_2, xl2⟩ := row3 hX3
          have hUX := set3_row hX3 (.slice (some ⟨g, 0, none⟩) qs.length d1) (.slice b1 ts.length e1) (.int .i64 q)
          have hUO := (HO.out.set3 (x := w.heap.size) xl (.slice (some ⟨g, 0, none⟩) qs.length d1) (.slice b1 ts.length e1) (.int .i64 q))
          rw [← HR.out] at hUO
          have HU := Lib.hid (show Below w.heap.size w _ ∧ _ from And.intro (set3_below (HB.out.trans (hbV.mono (Nat.le_of_lt xl))) (Nat.le_refl _) (.slice (some ⟨g, 0, none⟩) qs.length d1) (.slice b1 ts.length e1) (.int .i64 q)) (And.intro (hUO.scIn HNX.out.1) (And.intro HLN.out (And.intro HLM.out (And.intro HLQ.out HNX.out)))))
          have HUX := Lib.hid hUX
          clear hUX hUO hX3 hbV hT HO
          go_wp2
          go_roundw
          case rel => exact ⟨j + 1, _, roundM s k, _, d1, b1, e1, rfl, by go_num, by omega, HUX.out, HU⟩
          case measure => simp [intOf]; omega
        | true =>
          have HR := Lib.hid (show roundM s k = switchM (tickM s k) k by unfold roundM; rw [hd]; rfl)
          rw [hd] at HT
          clear hsc hB hI hH hok hrow hrun hd HI
          go_wp2_with fail
          refine (HT.out _ _ _ _ _ HSC.out).mono ?_
          rintro y w1 ⟨g, d1, b1, e1, rfl, hb, ho⟩
          have hV := b_alloc (o := .cells #[.slice (some ⟨g, 0, none⟩) qs.length d1, .slice b1 ts.length e1, .int .i64 q] 25) (Below.refl w1.heap.size w1)
          have hT := heap_alloc_new w1 (.cells #[.slice (some ⟨g, 0, none⟩) qs.length d1, .slice b1 ts.length e1, .int .i64 q] 25)
          have hbV := Below.tail hb hV
          have HO := Lib.hid (ho.below hV)
          have hTz := hb.size
          clear p_0 p_1 p_2 s_0 s_1 s_2 hb ho hV HT c0 hne hbq
          go_upto_region 17 with fail
          generalize hTT : w1.heap.size = T at *
          generalize (w1.alloc (.cells #[.slice (some ⟨g, 0, none⟩) qs.length d1, .slice b1 ts.length e1, .int .i64 q] 25)) = V at *
          obtain ⟨q_0, q_1, q_2, z_0, z_1, z_2, Tl⟩ := row3 hT
          go_wp2_with fail
          refine (HSW.out _ _ _ _ _ (HO.out.scIn HOKT.out)).mono ?_
          rintro y w2 ⟨g2, d2, b2, e2, rfl, hb2, ho2⟩
          have hT2 := (hb2.block _ Tl).trans hT
          clear q_0 q_1 q_2 z_0 z_1 z_2 HSW
          obtain ⟨q_0, q_1, q_2, z_0, z_1, z_2, Tl2⟩ := row3 hT2
          have hT3 := set3_row hT2 (.slice (some ⟨g2, 0, none⟩) qs.length d2) (.slice b2 ts.length e2) (.int .i64 q)
          have hX3 : (((w2.setCell ⟨T, 0, none⟩ (.slice (some ⟨g2, 0, none⟩) qs.length d2)).setCell ⟨T, 1, none⟩ (.slice b2 ts.length e2)).setCell ⟨T, 2, none⟩ (.int .i64 q)).heap[w.heap.size]? = some (.cells #[.slice (some ⟨bq, oq, none⟩) qs.length d, .slice b ts.length e, .int .i64 q] 25 (0, 0)) :=
            (set3_far (by omega) _ _ _).trans ((hb2.block _ (Nat.lt_of_lt_of_le xl hbV.size)).trans ((hbV.block _ xl).trans HROW.out))
          have ho3 := ho2.set3 (x := T) Tl (.slice (some ⟨g2, 0, none⟩) qs.length d2) (.slice b2 ts.length e2) (.int .i64 q)
          have hb3 : Below wv.heap.size wv (((w2.setCell ⟨T, 0, none⟩ (.slice (some ⟨g2, 0, none⟩) qs.length d2)).setCell ⟨T, 1, none⟩ (.slice b2 ts.length e2)).setCell ⟨T, 2, none⟩ (.int .i64 q)) := set3_below (Below.tail hbV hb2) (by omega) _ _ _
          have hVz := hbV.size
          go_upto_region 21 with fail
          clear q_0 q_1 q_2 z_0 z_1 z_2 Tl2 hT2 hT hb2 ho2 HO
          generalize (((w2.setCell ⟨T, 0, none⟩ (.slice (some ⟨g2, 0, none⟩) qs.length d2)).setCell ⟨T, 1, none⟩ (.slice b2 ts.length e2)).setCell ⟨T, 2, none⟩ (.int .i64 q)) = V2 at *
          obtain ⟨q_0, q_1, q_2, z_0, z_1, z_2, Tl2⟩ := row3 hT3
          obtain ⟨p_0, p_1, p_2, s_0, s_1, s_2, xl2⟩ := row3 hX3
          have hUX := set3_row hX3 (.slice (some ⟨g2, 0, none⟩) qs.length d2) (.slice b2 ts.length e2) (.int .i64 q)
          have hUO := (ho3.set3 (x := w.heap.size) (by omega) (.slice (some ⟨g2, 0, none⟩) qs.length d2) (.slice b2 ts.length e2) (.int .i64 q))
          rw [← HR.out] at hUO
          have HU := Lib.hid (show Below w.heap.size w _ ∧ _ from And.intro (set3_below (HB.out.trans (hb3.mono (Nat.le_of_lt xl))) (Nat.le_refl _) (.slice (some ⟨g2, 0, none⟩) qs.length d2) (.slice b2 ts.length e2) (.int .i64 q)) (And.intro (hUO.scIn HNX.out.1) (And.intro HLN.out (And.intro HLM.out (And.intro HLQ.out HNX.out)))))
          have HUX := Lib.hid hUX
          clear hUX hUO ho3 hb3 hT3 hX3 hbV
          go_wp2
          go_roundw
          case rel => exact ⟨j + 1, _, roundM s k, _, d2, b2, e2, rfl, by go_num, by omega, HUX.out, HU⟩
          case measure => simp [intOf]; omega
    · obtain hrun := HI.out.last (by omega)
      rw [hrun] at c0
      clear hsc hB hI hH hok hrow
      go_wp2
      go_ret
      exact ⟨by simp, HB.out⟩
set_option maxHeartbeats 8000000 in
set_option maxRecDepth 100000 in
theorem wait_f3 (a : Option Addr) (c : Nat) (a2 : Option Addr) (c2 : Nat) (qs : List Qu) (ts : List Th) (q : Int) (k l : Nat) (hck : chkB qs ts q = true) (hk : k < qs.length) (hl : l < (quOf qs (k : Int)).ready.length) (my mt : Nat) (h0 : (quOf qs (k : Int)).ready[0]? = some (my : Int)) (ht : (quOf qs (k : Int)).ready[l]? = some (mt : Int)) (ty tt : Th) (hty : ts[my]? = some ty) (htt : ts[mt]? = some tt) (hp : ty.pri = tt.pri) (hr : (quOf qs (k : Int)).run = -1) (w : World) (hs : ScIn w a c a2 c2 qs ts) :
    Calls Try.prog 6 #[.agg #[.slice a qs.length c, .slice a2 ts.length c2, .int .i64 q], .int .i64 k, .int .i64 l] w fun y w' => y = .returned (.bool true) ∧ Below w.heap.size w w' := by
  have HCK := Lib.hid (show okE (chkB qs ts q) = 0 by rw [hck]; rfl)
  have hok := ok_of_chk hck
  have k0 : (0 : Int) ≤ (k : Int) := Int.natCast_nonneg _
  have k1 : (k : Int) < (qs.length : Int) := by omega
  obtain ⟨bq, oq, rfl, hbq, c0, c1, ar, cr, cx, hv, h5⟩ := hs.qu (qu_some hk)
  have hm1 := hs.v1.max
  unfold maxLen at hm1
  have hl16 : (quOf qs (k : Int)).ready.length ≤ 16 := short16 hok k _ (qu_some hk)
  obtain ⟨br, orr, rfl, hbr, hcr⟩ : ∃ b off : Nat, ar = some ⟨b, off, none⟩ ∧ b < w.heap.size ∧ ∀ (j : Nat) (x_1 : Value), (iV (quOf qs (k : Int)).ready)[j]? = some x_1 → w.cell? ⟨b, off + j, none⟩ = some x_1 := by
    rcases h5 with h | h
    · simp [iV] at h; rw [h] at hl; simp at hl
    · exact h
  have g0 : w.cell? ⟨br, orr, none⟩ = some (.int .i64 my) := hcr 0 _ (by simp [iV, h0])
  have gl : w.cell? ⟨br, orr + l, none⟩ = some (.int .i64 mt) := hcr l _ (by simp [iV, ht])
  obtain ⟨bb, oo, rfl, hbb, y0, _, _⟩ := hs.th hty
  obtain ⟨bb', oo', e', _, t0, _, _⟩ := hs.th htt
  obtain ⟨rfl, rfl⟩ : bb = bb' ∧ oo = oo' := by simpa using e'
  clear e' hcr h5
  have l0 : (0 : Int) ≤ (l : Int) := Int.natCast_nonneg _
  have l1 : (l : Int) < ((quOf qs (k : Int)).ready.length : Int) := by omega
  have r1 : (0 : Int) < ((quOf qs (k : Int)).ready.length : Int) := by omega
  have a0 : (0 : Int) ≤ (my : Int) := Int.natCast_nonneg _
  have a1 : (my : Int) < (ts.length : Int) := by have := (List.getElem?_eq_some_iff.1 hty).1; omega
  have b0 : (0 : Int) ≤ (mt : Int) := Int.natCast_nonneg _
  have b1 : (mt : Int) < (ts.length : Int) := by have := (List.getElem?_eq_some_iff.1 htt).1; omega
  have hm2 := hs.v2.max
  unfold maxLen at hm2
  have hl2 : l ≤ 16 := by omega
  have r2 : 0 < (quOf qs (k : Int)).ready.length := by omega
  have n_0 : ((k : Int) < 0) = False := eq_false (by omega)
  have n_1 : ¬ (qs.length ≤ k) := by omega
  have n_2 : ((l : Int) < 0) = False := eq_false (by omega)
  have n_3 : ¬ ((quOf qs (k : Int)).ready.length ≤ l) := by omega
  have hP0 : (thOf ts (my : Int)).pri = tt.pri := by rw [thOf_of hty]; exact hp
  have hPt : (thOf ts (mt : Int)).pri = tt.pri := by rw [thOf_of htt]
  have hal := wait_start (s := ⟨qs, ts, q⟩) (c := k) (k := l) hok hk ht hPt (fun y hy => by
    have : y = (my : Int) := by have := hy.symm.trans h0; simpa using this
    rw [this]; exact hP0)
  have hIw : Iw (switchM ⟨qs, ts, q⟩ k) k 0 (((l : Int) + 1) * q) mt tt.pri := by
    obtain ⟨h1, _, h2⟩ := wait_idle (s := ⟨qs, ts, q⟩) (c := k) (k := l) (thr := mt) (P := tt.pri) hok hk hr ht hal
    have hn : k < (switchM ⟨qs, ts, q⟩ k).qs.length := by rw [switchM_n]; exact hk
    rcases h2 with h2 | ⟨j', h3, h4⟩
    · exact ⟨h1, hn, .inl h2⟩
    · exact ⟨h1, hn, .inr ⟨j', h3, by simpa using h4⟩⟩
  have q1 : 1 ≤ q := hok.q1
  have q2 : q ≤ 20 := hok.q2
  obtain ⟨L1, hL1⟩ : ∃ L1 : Int, L1 = (l : Int) + 1 := ⟨_, rfl⟩
  obtain ⟨N, hN⟩ : ∃ N : Int, N = L1 * q := ⟨_, rfl⟩
  have hNb : 0 ≤ N ∧ N ≤ 340 := by
    rw [hN]
    have h1 : L1 * q ≤ 17 * 20 := Int.mul_le_mul (by omega) q2 (by omega) (by omega)
    have h2 : 0 ≤ L1 * q := Int.mul_nonneg (by omega) (by omega)
    omega
  have hw1 : IntKind.i64.wrap ((l : Int) + 1) = L1 := by rw [IntWalk.i64_in _ (by omega)]; exact hL1.symm
  have hw2 : IntKind.i64.wrap (L1 * q) = N := by rw [← hN]; exact IntWalk.i64_in _ (by omega)
  rw [← hL1, ← hN] at hIw
  have HIW := Lib.hid hIw
  have HOK := Lib.hid hok
  have HKL := Lib.hid hk
  clear hal hIw hP0 hPt hL1 hN
  rw [hr] at c0
  rw [hp] at y0
  clear hr hp
  generalize (quOf qs (k : Int)).ready.length = nr at *
  generalize (quOf qs (k : Int)).left = lf at *
  generalize hpt : tt.pri = pt at *
  have HK := (Kw.start w).box (vs := [.slice (some ⟨bq, oq, none⟩) qs.length c, .slice (some ⟨bb, oo, none⟩) ts.length c2, .int .i64 q]) (t := 25)
  have HS := Lib.hid hs
  have HC := Lib.hid (fun w hs => check_c (some ⟨bq, oq, none⟩) c (some ⟨bb, oo, none⟩) c2 qs ts q w hs)
  clear hs hck hk hv hl h0 ht hty htt hok
  go_enter Try.func6, Try.ntmps6
  go_wp2_with fail
  refine (sane_c _).mono ?_
  rintro y w1 ⟨rfl, hq⟩
  replace HK := HK.below hq
  clear hq
  have p_0 := HK.get 0 0 rfl rfl
  have p_1 := HK.get 0 1 rfl rfl
  have p_2 := HK.get 0 2 rfl rfl
  go_wp2_with fail
  refine (HC.out _ (HS.out.below HK.base)).mono ?_
  rintro y w2 ⟨rfl, hq⟩
  rw [HCK.out]
  replace HK := HK.below hq
  clear hq p_0 p_1 p_2 HC
  have p_0 := HK.get 0 0 rfl rfl
  have p_1 := HK.get 0 1 rfl rfl
  have p_2 := HK.get 0 2 rfl rfl
  have e_0 := (HK.base.cell (p := ⟨bq, oq + k * 3, none⟩) hbq).trans c0
  have e_1 := (HK.base.cell (p := ⟨bq, oq + k * 3 + 1, none⟩) hbq).trans c1
  have e_2 := (HK.base.cell (p := ⟨bq, oq + k * 3 + 2, none⟩) hbq).trans cx
  have f_0 := (HK.base.cell (p := ⟨br, orr, none⟩) hbr).trans g0
  have f_l := (HK.base.cell (p := ⟨br, orr + l, none⟩) hbr).trans gl
  have f_y := (HK.base.cell (p := ⟨bb, oo + my * 3, none⟩) hbb).trans y0
  have f_t := (HK.base.cell (p := ⟨bb, oo + mt * 3, none⟩) hbb).trans t0
  have z_q : bq < w2.heap.size := Nat.lt_of_lt_of_le hbq HK.base.size
  have z_r : br < w2.heap.size := Nat.lt_of_lt_of_le hbr HK.base.size
  have z_b : bb < w2.heap.size := Nat.lt_of_lt_of_le hbb HK.base.size
  have z_w : w.heap.size < w2.heap.size := HK.lt 0 rfl
  have HXR := Lib.hid (HK.row 0 rfl)
  clear c0 c1 cx g0 gl y0 t0
  have hal0 := b_alloc (o := .cells #[.int .i64 (-1), .int .i64 lf, .slice (some ⟨br, orr, none⟩) nr cr] 47) (Below.refl w2.heap.size w2)
  have HXR2 := Lib.hid ((hal0.block _ z_w).trans HXR.out)
  have HBB := Lib.hid (Below.tail HK.base hal0)
  have HSS := Lib.hid (HS.out.below HBB.out)
  have HF : Hid (∀ W', Below (w2.alloc (.cells #[.int .i64 (-1), .int .i64 lf, .slice (some ⟨br, orr, none⟩) nr cr] 47)).heap.size (w2.alloc (.cells #[.int .i64 (-1), .int .i64 lf, .slice (some ⟨br, orr, none⟩) nr cr] 47)) W' →
      Calls Try.prog 22 #[.agg #[.slice (some ⟨bq, oq, none⟩) qs.length c, .slice (some ⟨bb, oo, none⟩) ts.length c2, .int .i64 q], .int .i64 k] W' fun y w' => ∃ (g d : Nat) (b : Option Addr) (e z : Nat), y = .returned (.tuple #[.agg #[.slice (some ⟨g, 0, none⟩) qs.length d, .slice b ts.length e, .int .i64 q], .int .i64 (quOf (switchM ⟨qs, ts, q⟩ k).qs (k : Int)).run, .int .i64 0]) ∧
        w'.heap[w.heap.size]? = some (.cells #[.slice (some ⟨bq, oq, none⟩) qs.length c, .slice (some ⟨bb, oo, none⟩) ts.length c2, .int .i64 q] 25 (0, 0)) ∧ Below w.heap.size w w' ∧ Owned z (switchM ⟨qs, ts, q⟩ k) g d b e w' ∧ w.heap.size < z) :=
    Lib.hid fun W' hW => (switch_at ⟨qs, ts, q⟩ qs.length ts.length q k rfl rfl rfl HOK.out HKL.out _ _ _ _ W' (HSS.out.below hW)).mono fun y w' h => by
      obtain ⟨g, d, b, e, h1, hb, ho⟩ := h
      have hr := (hW.block _ (Array.getElem?_eq_some_iff.1 HXR2.out).1).trans HXR2.out
      have hl := (Array.getElem?_eq_some_iff.1 hr).1
      exact ⟨g, d, b, e, _, h1, (hb.block _ hl).trans hr, (Below.tail HBB.out hW).trans (hb.mono (Nat.le_of_lt hl)), ho, hl⟩
  generalize (quOf (switchM ⟨qs, ts, q⟩ k).qs (k : Int)).run = ra at *
  clear HK hal0 HXR2 HXR HSS HBB HS
  go_wp2
  go_region
  go_wp2_with fail
  refine (HF.out _ (by first | exact Below.refl _ _ | exact (Below.refl _ _).drew | exact below_drewN (Below.refl _ _) _)).mono ?_
  rintro y w3 ⟨g, d, b, e, z, rfl, hrow, hb, ho, hz⟩
  have hUX := set3_row hrow (.slice (some ⟨g, 0, none⟩) qs.length d) (.slice b ts.length e) (.int .i64 q)
  have hUO := (ho.set3 (x := w.heap.size) hz (.slice (some ⟨g, 0, none⟩) qs.length d) (.slice b ts.length e) (.int .i64 q))
  have hUB := set3_below hb (Nat.le_refl _) (.slice (some ⟨g, 0, none⟩) qs.length d) (.slice b ts.length e) (.int .i64 q)
  have HST : Hid (∀ W', Below (((w3.setCell ⟨w.heap.size, 0, none⟩ (.slice (some ⟨g, 0, none⟩) qs.length d)).setCell ⟨w.heap.size, 1, none⟩ (.slice b ts.length e)).setCell ⟨w.heap.size, 2, none⟩ (.int .i64 q)).heap.size (((w3.setCell ⟨w.heap.size, 0, none⟩ (.slice (some ⟨g, 0, none⟩) qs.length d)).setCell ⟨w.heap.size, 1, none⟩ (.slice b ts.length e)).setCell ⟨w.heap.size, 2, none⟩ (.int .i64 q)) W' → WRel w k qs.length ts.length q N mt pt (.int .i64 0) W') :=
    Lib.hid fun W' hW => ⟨0, _, switchM ⟨qs, ts, q⟩ k, _, d, b, e, rfl, rfl, hNb.1, (hW.block _ (Array.getElem?_eq_some_iff.1 hUX).1).trans hUX, Lib.hid ⟨Below.tail hUB hW, (hUO.scIn HIW.out.1).below hW, switchM_n _ _, switchM_m _ _, switchM_q _ _, HIW.out⟩⟩
  obtain ⟨r_0, r_1, r_2, y_0, y_1, y_2, xl⟩ := row3 hrow
  clear p_0 p_1 p_2 hrow hb ho hUX hUO hUB HF HIW
  go_wp2_with fail
  go_loopw [11] (fun i wr => WRel w k qs.length ts.length q N mt pt i wr) (fun i _ => (N - intOf i).toNat)
  case atStart => exact HST.out _ (by first | exact Below.refl _ _ | exact (Below.refl _ _).drew | exact below_drewN (Below.refl _ _) _)
  case round =>
    clear r_0 r_1 r_2 y_0 y_1 y_2 xl HST
    obtain ⟨j, wv, s, a, d, b, e, hw, rfl, hj, hrow, hH⟩ := hrel
    subst hw
    obtain ⟨hB, hsc, hn, hm, hsq, hI⟩ := hH.out
    have hck : k < s.qs.length := hI.2.1
    obtain ⟨bq, oq, rfl, hbq, c0, _⟩ := hsc.qu (qu_some hck)
    obtain ⟨p_0, p_1, p_2, s_0, s_1, s_2, xl⟩ := row3 hrow
    have HSC := Lib.hid hsc
    have HB := Lib.hid hB
    have HI := Lib.hid hI
    have hok := hI.1
    have j0 : (0 : Int) ≤ (j : Int) := Int.natCast_nonneg _
    by_cases hlt : (j : Int) < N
    · by_cases hrun : (quOf s.qs (k : Int)).run = mt
      · rw [hrun] at c0
        clear hsc hB hI hH hok hrow
        go_wp2
        go_ret
        exact ⟨rfl, HB.out⟩
      · have hne : ((quOf s.qs (k : Int)).run == (mt : Int)) = false := by simpa using hrun
        have HT := Lib.hid (tick_at s qs.length ts.length q k hn hm hsq hok hck)
        have HSW := Lib.hid (switch_at (tickM s k) qs.length ts.length q k ((tickM_n s k).trans hn) hm hsq (tick_ok hok hck) (by rw [tickM_n]; exact hck))
        have HNX := Lib.hid (hI.next hrun)
        have HOKT := Lib.hid (tick_ok hok hck)
        have HROW := Lib.hid hrow
        have HLN := Lib.hid (show (roundM s k).qs.length = qs.length from (roundM_n s k).trans hn)
        have HLM := Lib.hid (show (roundM s k).ts.length = ts.length from (roundM_m s k).trans hm)
        have HLQ := Lib.hid (show (roundM s k).q = q from (roundM_q s k).trans hsq)
        generalize (quOf s.qs (k : Int)).run = ru at *
        cases hd : dueM (tickM s k) k with
        | false =>
          have HR := Lib.hid (show roundM s k = tickM s k by unfold roundM; rw [hd]; rfl)
          rw [hd] at HT
          clear hsc hB hI hH hok hrow hrun hd HSW HI
          go_wp2_with fail
          refine (HT.out _ _ _ _ _ HSC.out).mono ?_
          rintro y w1 ⟨g, d1, b1, e1, rfl, hb, ho⟩
          have hV := b_alloc (o := .cells #[.slice (some ⟨g, 0, none⟩) qs.length d1, .slice b1 ts.length e1, .int .i64 q] 25) (Below.refl w1.heap.size w1)
          have hT := heap_alloc_new w1 (.cells #[.slice (some ⟨g, 0, none⟩) qs.length d1, .slice b1 ts.length e1, .int .i64 q] 25)
          have hbV := Below.tail hb hV
          have HO := Lib.hid (ho.below hV)
          clear p_0 p_1 p_2 s_0 s_1 s_2 hb ho hV HT c0 hne hbq
          go_upto_region 17 with fail
          generalize hTT : w1.heap.size = T at *
          generalize (w1.alloc (.cells #[.slice (some ⟨g, 0, none⟩) qs.length d1, .slice b1 ts.length e1, .int .i64 q] 25)) = V at *
          obtain ⟨q_0, q_1, q_2, z_0, z_1, z_2, Tl2⟩ := row3 hT
          have hX3 := (hbV.block _ xl).trans HROW.out
          obtain ⟨p_0, p_1, p_2, s_0, s_1, s_2, xl2⟩ := row3 hX3
          have hUX := set3_row hX3 (.slice (some ⟨g, 0, none⟩) qs.length d1) (.slice b1 ts.length e1) (.int .i64 q)
          have hUO := (HO.out.set3 (x := w.heap.size) xl (.slice (some ⟨g, 0, none⟩) qs.length d1) (.slice b1 ts.length e1) (.int .i64 q))
          rw [← HR.out] at hUO
          have HU := Lib.hid (show Below w.heap.size w _ ∧ _ from And.intro (set3_below (HB.out.trans (hbV.mono (Nat.le_of_lt xl))) (Nat.le_refl _) (.slice (some ⟨g, 0, none⟩) qs.length d1) (.slice b1 ts.length e1) (.int .i64 q)) (And.intro (hUO.scIn HNX.out.1) (And.intro HLN.out (And.intro HLM.out (And.intro HLQ.out HNX.out)))))
          have HUX := Lib.hid hUX
          clear hUX hUO hX3 hbV hT HO
          go_wp2
          go_roundw
          case rel => exact ⟨j + 1, _, roundM s k, _, d1, b1, e1, rfl, by go_num, by omega, HUX.out, HU⟩
          case measure => simp [intOf]; omega
        | true =>
          have HR := Lib.hid (show roundM s k = switchM (tickM s k) k by unfold roundM; rw [hd]; rfl)
          rw [hd] at HT
          clear hsc hB hI hH hok hrow hrun hd HI
          go_wp2_with fail
          refine (HT.out _ _ _ _ _ HSC.out).mono ?_
          rintro y w1 ⟨g, d1, b1, e1, rfl, hb, ho⟩
          have hV := b_alloc (o := .cells #[.slice (some ⟨g, 0, none⟩) qs.length d1, .slice b1 ts.length e1, .int .i64 q] 25) (Below.refl w1.heap.size w1)
          have hT := heap_alloc_new w1 (.cells #[.slice (some ⟨g, 0, none⟩) qs.length d1, .slice b1 ts.length e1, .int .i64 q] 25)
          have hbV := Below.tail hb hV
          have HO := Lib.hid (ho.below hV)
          have hTz := hb.size
          clear p_0 p_1 p_2 s_0 s_1 s_2 hb ho hV HT c0 hne hbq
          go_upto_region 17 with fail
          generalize hTT : w1.heap.size = T at *
          generalize (w1.alloc (.cells #[.slice (some ⟨g, 0, none⟩) qs.length d1, .slice b1 ts.length e1, .int .i64 q] 25)) = V at *
          obtain ⟨q_0, q_1, q_2, z_0, z_1, z_2, Tl⟩ := row3 hT
          go_wp2_with fail
          refine (HSW.out _ _ _ _ _ (HO.out.scIn HOKT.out)).mono ?_
          rintro y w2 ⟨g2, d2, b2, e2, rfl, hb2, ho2⟩
          have hT2 := (hb2.block _ Tl).trans hT
          clear q_0 q_1 q_2 z_0 z_1 z_2 HSW
          obtain ⟨q_0, q_1, q_2, z_0, z_1, z_2, Tl2⟩ := row3 hT2
          have hT3 := set3_row hT2 (.slice (some ⟨g2, 0, none⟩) qs.length d2) (.slice b2 ts.length e2) (.int .i64 q)
          have hX3 : (((w2.setCell ⟨T, 0, none⟩ (.slice (some ⟨g2, 0, none⟩) qs.length d2)).setCell ⟨T, 1, none⟩ (.slice b2 ts.length e2)).setCell ⟨T, 2, none⟩ (.int .i64 q)).heap[w.heap.size]? = some (.cells #[.slice (some ⟨bq, oq, none⟩) qs.length d, .slice b ts.length e, .int .i64 q] 25 (0, 0)) :=
            (set3_far (by omega) _ _ _).trans ((hb2.block _ (Nat.lt_of_lt_of_le xl hbV.size)).trans ((hbV.block _ xl).trans HROW.out))
          have ho3 := ho2.set3 (x := T) Tl (.slice (some ⟨g2, 0, none⟩) qs.length d2) (.slice b2 ts.length e2) (.int .i64 q)
          have hb3 : Below wv.heap.size wv (((w2.setCell ⟨T, 0, none⟩ (.slice (some ⟨g2, 0, none⟩) qs.length d2)).setCell ⟨T, 1, none⟩ (.slice b2 ts.length e2)).setCell ⟨T, 2, none⟩ (.int .i64 q)) := set3_below (Below.tail hbV hb2) (by omega) _ _ _
          have hVz := hbV.size
          go_upto_region 21 with fail
          clear q_0 q_1 q_2 z_0 z_1 z_2 Tl2 hT2 hT hb2 ho2 HO
          generalize (((w2.setCell ⟨T, 0, none⟩ (.slice (some ⟨g2, 0, none⟩) qs.length d2)).setCell ⟨T, 1, none⟩ (.slice b2 ts.length e2)).setCell ⟨T, 2, none⟩ (.int .i64 q)) = V2 at *
          obtain ⟨q_0, q_1, q_2, z_0, z_1, z_2, Tl2⟩ := row3 hT3
          obtain ⟨p_0, p_1, p_2, s_0, s_1, s_2, xl2⟩ := row3 hX3
          have hUX := set3_row hX3 (.slice (some ⟨g2, 0, none⟩) qs.length d2) (.slice b2 ts.length e2) (.int .i64 q)
          have hUO := (ho3.set3 (x := w.heap.size) (by omega) (.slice (some ⟨g2, 0, none⟩) qs.length d2) (.slice b2 ts.length e2) (.int .i64 q))
          rw [← HR.out] at hUO
          have HU := Lib.hid (show Below w.heap.size w _ ∧ _ from And.intro (set3_below (HB.out.trans (hb3.mono (Nat.le_of_lt xl))) (Nat.le_refl _) (.slice (some ⟨g2, 0, none⟩) qs.length d2) (.slice b2 ts.length e2) (.int .i64 q)) (And.intro (hUO.scIn HNX.out.1) (And.intro HLN.out (And.intro HLM.out (And.intro HLQ.out HNX.out)))))
          have HUX := Lib.hid hUX
          clear hUX hUO ho3 hb3 hT3 hX3 hbV
          go_wp2
          go_roundw
          case rel => exact ⟨j + 1, _, roundM s k, _, d2, b2, e2, rfl, by go_num, by omega, HUX.out, HU⟩
          case measure => simp [intOf]; omega
    · obtain hrun := HI.out.last (by omega)
      rw [hrun] at c0
      clear hsc hB hI hH hok hrow
      go_wp2
      go_ret
      exact ⟨by simp, HB.out⟩
theorem waits_walk (a : Option Addr) (c : Nat) (a2 : Option Addr) (c2 : Nat) (qs : List Qu) (ts : List Th) (q k l : Int) (w : World) (hs : ScIn w a c a2 c2 qs ts) :
    Calls Try.prog 6 #[.agg #[.slice a qs.length c, .slice a2 ts.length c2, .int .i64 q], .int .i64 k, .int .i64 l] w fun y w' => y = .returned (.bool true) ∧ Below w.heap.size w w' := by
  cases hck : chkB qs ts q with
  | false => exact wait_n a c a2 c2 qs ts q k l hck w hs
  | true =>
    by_cases h0 : k < 0
    · exact wait_c0 a c a2 c2 qs ts q k l hck h0 w hs
    by_cases h1 : (qs.length : Int) ≤ k
    · exact wait_c1 a c a2 c2 qs ts q k l hck h0 h1 w hs
    obtain ⟨n, rfl⟩ : ∃ n : Nat, k = n := ⟨k.toNat, by omega⟩
    have hn : n < qs.length := by omega
    by_cases h2 : l < 0
    · exact wait_k0 a c a2 c2 qs ts q n l hck hn h2 w hs
    by_cases h3 : ((quOf qs (n : Int)).ready.length : Int) ≤ l
    · exact wait_k1 a c a2 c2 qs ts q n l hck hn h2 h3 w hs
    obtain ⟨m, rfl⟩ : ∃ m : Nat, l = m := ⟨l.toNat, by omega⟩
    have hm : m < (quOf qs (n : Int)).ready.length := by omega
    have hok := ok_of_chk hck
    have key : ∀ i, i < (quOf qs (n : Int)).ready.length → ∃ (j : Nat) (t : Th), (quOf qs (n : Int)).ready[i]? = some (j : Int) ∧ ts[j]? = some t := by
      intro i hi
      obtain ⟨j, hj, _, t, ht, _⟩ := hok.rd n _ (qu_some hn) _ (List.getElem_mem hi)
      exact ⟨j, t, by rw [List.getElem?_eq_getElem hi, hj], ht⟩
    obtain ⟨my, ty, hy, hty⟩ := key 0 (by omega)
    obtain ⟨mt, tt, ht, htt⟩ := key m hm
    by_cases hp : ty.pri = tt.pri
    · by_cases hr : (quOf qs (n : Int)).run = -1
      · exact wait_f3 a c a2 c2 qs ts q n m hck hn hm my mt hy ht ty tt hty htt hp hr w hs
      · obtain ⟨mr, hmr, hmrl, _⟩ := run_thr (s := ⟨qs, ts, q⟩) (c := n) hok hn hr
        have hmrl : mr < ts.length := hmrl
        by_cases hg : tt.pri < ts[mr].pri
        · exact wait_f2 a c a2 c2 qs ts q n m hck hn hm my mt hy ht ty tt hty htt hp mr ts[mr] hmr (List.getElem?_eq_getElem hmrl) hg w hs
        · exact wait_f4 a c a2 c2 qs ts q n m hck hn hm my mt hy ht ty tt hty htt hp mr ts[mr] hmr (List.getElem?_eq_getElem hmrl) hg w hs
    · exact wait_f1 a c a2 c2 qs ts q n m hck hn hm my mt hy ht ty tt hty htt hp w hs
end Go.Proofs.Ytggikbcgijmhbaa
