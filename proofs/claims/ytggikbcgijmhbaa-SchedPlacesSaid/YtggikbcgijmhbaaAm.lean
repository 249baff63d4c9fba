/- WHAT IS PROVED: the board's toProcessor; Steal of a valid state. CONDITIONS: a valid state in memory of one's own. -/
import Derived.Test.YtggikbcgijmhbaaAl
import Derived.Test.YtggikbcgijmhbaaU
set_option linter.unusedSimpArgs false
set_option linter.unusedVariables false
namespace Go.Proofs.Ytggikbcgijmhbaa
open Go Go.RowKit Go.QrBits Go.QrMem
attribute [local go_sem] reg_cell reg_frozen reg_setCell reg_lt reg_lt_add reg_drew reg_of_drew
section
variable {B b0 bc cc ct e : Nat} {at_ : Option Addr} {rs : List (Option Addr × Nat)} {s : St} {w : World}
theorem setCpu_at {bt : Nat} (h : Own B b0 bc cc (some ⟨bt, 0, none⟩) ct rs s w) {k : Nat} (hk : k < s.ts.length) (p : Int) : Own B b0 bc cc (some ⟨bt, 0, none⟩) ct rs { s with ts := s.ts.set k { (thOf s.ts (k : Int)) with cpu := p } } (w.setCell ⟨bt, k * 3 + 1, none⟩ (.int .i64 p)) :=
  h.setT ((tV_set (th_some hk)).2.1 p) (by simp)
set_option maxHeartbeats 4000000 in
set_option maxRecDepth 100000 in
theorem toProc_c (he : Env b0 e w) (h : Own B b0 bc cc at_ ct rs s w) (hok : Ok s) {k c0 c : Nat} (hk : k < s.ts.length) (hc : (thOf s.ts (k : Int)).cpu = c0) (hcl : c0 < s.qs.length) (hc' : c < s.qs.length) :
    Calls Try.prog 97 #[.int .i64 k, .int .i64 c, .pointer (some ⟨e + 3, 0, none⟩), .pointer (some ⟨e, 0, none⟩), .pointer (some ⟨e + 5, 0, none⟩)] w (Moved B b0 bc cc at_ ct (toProcM s k c) w) := by
  obtain ⟨bt, rfl⟩ := h.at_some hk
  obtain ⟨lv0, _, lvl⟩ := cell0 he.lv
  have HL := Lib.hid (leave_c he h hk hc hcl (short_of_ok hok) 1)
  have h1 := leave_okx hok (.inl rfl) hk (st := 1) (by omega)
  have hk1 : k < (leaveM s k 1).ts.length := by rw [leaveM_m]; exact hk
  have hb1 := h1.th _ _ (th_some hk1)
  have hn1 : (leaveM s k 1).qs.length = s.qs.length := leaveM_n _ _ _
  have h2 := h1.setTh (t := { (thOf (leaveM s k 1).ts (k : Int)) with cpu := (c : Int) }) hk1 (by simp only []; omega)
  have hM : toProcM s k c = toEndM { (leaveM s k 1) with ts := (leaveM s k 1).ts.set k { (thOf (leaveM s k 1).ts (k : Int)) with cpu := (c : Int) } } k := rfl
  have HM := Lib.hid hM
  have HE := Lib.hid he
  have HO := Lib.hid h
  have H2 := Lib.hid h2
  clear he h hok hb1 h1 h2 hc hcl hM
  generalize leaveM s k 1 = s1 at *
  have hlen := hk1
  have k0 : (0 : Int) ≤ (k : Int) := Int.natCast_nonneg _
  have k1 : (k : Int) < (s1.ts.length : Int) := by omega
  go_enter Try.func97, Try.ntmps97
  go_wp2_with fail
  refine HL.out.mono ?_
  rintro y w1 ⟨rfl, ⟨rs1, O1⟩, F1⟩
  have E1 := HE.out.fr HO.out F1
  obtain ⟨s0, _, _⟩ := cell0 E1.sx
  obtain ⟨n0, n1, n2, _, _, _, nl⟩ := row3 O1.nxt
  obtain ⟨_, t_1, _, _, f_1, _⟩ := O1.tcells (th_some hk1)
  have hm := (slV_own O1.th).max
  unfold maxLen at hm
  have O2 := setCpu_at O1 hk1 c
  have F2 := F1.setT (k * 3 + 1) (.int .i64 c)
  have E2 := E1.fr O1 ((Fr.refl bc (some ⟨bt, 0, none⟩) w1).setT (k * 3 + 1) (.int .i64 c))
  obtain ⟨te0, _, _⟩ := cell0 E2.te
  have hk2 : k < ({ s1 with ts := s1.ts.set k { (thOf s1.ts (k : Int)) with cpu := (c : Int) } } : St).ts.length := by simpa using hk1
  have hc2 : (thOf ({ s1 with ts := s1.ts.set k { (thOf s1.ts (k : Int)) with cpu := (c : Int) } } : St).ts (k : Int)).cpu = c := by
    have := thOf_set s1.ts k (k : Int) { (thOf s1.ts (k : Int)) with cpu := (c : Int) } hk1
    simp only [Int.toNat_natCast, if_true] at this
    show (thOf (s1.ts.set k _) (k : Int)).cpu = c
    rw [this]
  have hcl2 : c < ({ s1 with ts := s1.ts.set k { (thOf s1.ts (k : Int)) with cpu := (c : Int) } } : St).qs.length := by show c < s1.qs.length; omega
  have HT := Lib.hid (toEnd_c E2 O2 hk2 hc2 hcl2 (short_of_ok H2.out) (rng_of_ok H2.out hcl2))
  have HF2 := Lib.hid F2
  clear O2 F2 E2 E1 O1 F1 HL HE HO lv0
  go_wp2_with fail
  refine HT.out.mono ?_
  rintro y w2 ⟨rfl, ⟨rs2, O3⟩, F3⟩
  have HO3 := Lib.hid O3
  have HF3 := Lib.hid (HF2.out.trans F3)
  clear O3 F3 HT te0 s0 n0 n1 n2 t_1 f_1
  go_wp2
  refine bodyPost_end (results_none rfl _ _ _) rfl ?_
  exact ⟨rfl, ⟨rs2, by rw [HM.out]; exact HO3.out⟩, HF3.out⟩
theorem Env.setI {x : Nat} (he : Env b0 e w) {v0 : Int} (hx : IsI x v0 w) (v : Value) : Env b0 e (w.setCell ⟨x, 0, none⟩ v) := by
  have key : ∀ {b : Nat} {cs : Array Value} {t : TypeId}, w.heap[b]? = some (.cells cs t (0, 0)) → t ≠ 3 → (w.setCell ⟨x, 0, none⟩ v).heap[b]? = some (.cells cs t (0, 0)) := by
    intro b cs t hb ht
    refine (Below.heap_setCell _ _ _ _ ?_).trans hb
    rintro rfl
    have := hb.symm.trans hx
    simp at this; exact ht this.2
  exact ⟨key he.sx (by decide), key he.pr (by decide), key he.lv (by decide), key he.en (by decide), key he.te (by decide)⟩
/-- What Steal's operation keeps while it looks. -/
structure StP (B b0 e bc cc ct : Nat) (at_ : Option Addr) (rs : List (Option Addr × Nat)) (s : St) (xr xc bx T5 : Nat) (v c : Int) (row : Array Value) (w W : World) : Prop where
  ow : Own B b0 bc cc at_ ct rs s W
  en : Env b0 e W
  fr : OpFr xr b0 bc at_ w W
  xr_ : IsI xr v W
  xc_ : IsI xc c W
  bd : W.heap[bx]? = some (.cells (bdC b0 e).toArray 77 (0, 0))
  t5 : W.heap[T5]? = some (.cells row 47 (0, 0))
theorem StP.below {xr xc bx T5 : Nat} {v c : Int} {row : Array Value} {W W' : World} (h : StP B b0 e bc cc ct at_ rs s xr xc bx T5 v c row w W) (hb : Below W.heap.size W W') : StP B b0 e bc cc ct at_ rs s xr xc bx T5 v c row w W' :=
  ⟨h.ow.below hb, h.en.below hb, h.fr.trans (Fr.of_below hb).op, (hb.block _ (Array.getElem?_eq_some_iff.1 h.xr_).1).trans h.xr_, (hb.block _ (Array.getElem?_eq_some_iff.1 h.xc_).1).trans h.xc_, (hb.block _ (Array.getElem?_eq_some_iff.1 h.bd).1).trans h.bd, (hb.block _ (Array.getElem?_eq_some_iff.1 h.t5).1).trans h.t5⟩
set_option maxHeartbeats 4000000 in
set_option maxRecDepth 100000 in
theorem steal1_c (he : Env b0 e w) (h : Own B b0 bc cc at_ ct rs s w) (hok : Ok s) {c : Nat} (hc : c < s.qs.length) {xc xr : Nat} (hxB : xr < B) (hne : xr ≠ xc) (hxc : IsI xc c w) (o : Int) (hxr : IsI xr o w) :
    Calls Try.prog 70 #[bdV b0 e, .pointer (some ⟨xc, 0, none⟩), .pointer (some ⟨xr, 0, none⟩)] w (OpRes B xr b0 bc at_ (stealM s c) (IsI xr (stealN s c)) w) := by
  obtain ⟨x0, _, xl⟩ := cell0 hxc
  have xrl : xr < w.heap.size := (Array.getElem?_eq_some_iff.1 hxr).1
  have hn1 := hok.n1
  have hfl : mxI s.qs < s.qs.length := by have := mxP_le s.qs (s.qs.length - 1); unfold mxI; omega
  have HXC := Lib.hid hxc
  have HXR := Lib.hid hxr
  have HE := Lib.hid he
  have HO := Lib.hid h
  have HOK := Lib.hid hok
  have HU := Lib.hid (qu_some hc)
  have HF := Lib.hid (qu_some hfl)
  have hlu := short16 hok c _ (qu_some hc)
  have hlf := short16 hok _ _ (qu_some hfl)
  have HLL := Lib.hid (fun (k : Nat) (u : Qu) (hu : s.qs[k]? = some u) => short16 hok k u hu)
  have HSM : Hid (stealM s c = if nThP (quOf s.qs (c : Int)) = 0 ∧ 2 ≤ nThP (quOf s.qs ((mxI s.qs : Nat) : Int)) then toProcM s ((quOf s.qs ((mxI s.qs : Nat) : Int)).ready.headD 0).toNat c else s) := Lib.hid rfl
  have HSN : Hid (stealN s c = if nThP (quOf s.qs (c : Int)) = 0 ∧ 2 ≤ nThP (quOf s.qs ((mxI s.qs : Nat) : Int)) then (quOf s.qs ((mxI s.qs : Nat) : Int)).ready.headD 0 else -1) := Lib.hid rfl
  have HHD : Hid (2 ≤ nThP (quOf s.qs ((mxI s.qs : Nat) : Int)) → ∃ (j : Nat) (l : List Int), (quOf s.qs ((mxI s.qs : Nat) : Int)).ready = (j : Int) :: l ∧ j < s.ts.length ∧ (thOf s.ts (j : Int)).cpu = (mxI s.qs : Nat) ∧ (thOf s.ts (j : Int)).st = 1) := Lib.hid (fullest_head hok)
  clear hxc hxr he h hok
  unfold bdV
  have HK := (Kw.start w).box (vs := bdC b0 e) (t := 77)
  go_enter Try.func70, Try.ntmps70
  go_wp2_with fail
  show Calls Try.prog 51 #[bdV b0 e, .int .i64 c] (w.alloc (.cells (bdC b0 e).toArray 77)) _
  generalize w.alloc (.cells (bdC b0 e).toArray 77) = W at *
  have HKK := Lib.hid HK
  clear HK
  refine (processor_y (e := e) (HO.out.below HKK.out.base) hc).mono ?_
  rintro y w1 ⟨rfl, hb1⟩
  have HK1 := Lib.hid (HKK.out.below hb1)
  clear HKK hb1 x0
  have O1 := HO.out.below HK1.out.base
  obtain ⟨k_0, k_1, k_2, k_3, k_4, k_5, hxl⟩ := board_cells (HK1.out.row 0 rfl)
  obtain ⟨n0, n1, n2, _, _, _, nl⟩ := row3 O1.nxt
  have HFU := Lib.hid (full_y (some ⟨bc, 0, none⟩) cc at_ ct s.qs s.ts s.q w1 (O1.scIn (short_of_ok HOK.out)) hn1 HLL.out)
  obtain ⟨rf, hrf, _, _, dd, _⟩ := O1.cells HF.out
  have HRF := Lib.hid hrf
  have HDD := Lib.hid dd
  clear O1 hrf dd
  go_wp2_with fail
  refine HFU.out.mono ?_
  rintro y w2 ⟨ar, cr, rfl, -, -, hcl, hb2⟩
  have hcl2 := hcl bc 0 rfl
  rw [Nat.zero_add, HDD.out] at hcl2
  obtain ⟨rfl, rfl⟩ : rf.1 = ar ∧ rf.2 = cr := by simpa using hcl2
  clear hcl hcl2 HFU HDD
  generalize hff : quOf s.qs ((mxI s.qs : Nat) : Int) = f at *
  generalize huu : quOf s.qs (c : Int) = u at *
  have HK2 := HK1.out.below hb2
  have hal := b_alloc (o := .cells #[.int .i64 f.run, .int .i64 f.left, .slice rf.1 f.ready.length rf.2] 47) (Below.refl w2.heap.size w2)
  have hT := heap_alloc_new w2 (.cells #[.int .i64 f.run, .int .i64 f.left, .slice rf.1 f.ready.length rf.2] 47)
  have HK3 := HK2.below hal
  have hwz := Lib.hid HK2.base.size
  unfold quV
  clear n0 n1 n2 k_0 k_1 k_2 k_3 k_4 k_5 HK1 hb2 HK2 hal
  go_upto_region 3 with fail
  generalize (w2.alloc (.cells #[.int .i64 f.run, .int .i64 f.left, .slice rf.1 f.ready.length rf.2] 47)) = V at *
  have hTz : w.heap.size ≤ w2.heap.size := hwz.out
  generalize w2.heap.size = T5 at *
  have hb := HK3.base
  have xr1 := (hb.block _ xrl).trans HXR.out
  obtain ⟨z0, z1, _⟩ := cell0 xr1
  have P : StP B b0 e bc cc ct at_ rs s xr xc w.heap.size T5 (-1) c #[.int .i64 f.run, .int .i64 f.left, .slice rf.1 f.ready.length rf.2] w (V.setCell ⟨xr, 0, none⟩ (.int .i64 (-1))) := by
    refine ⟨(HO.out.below hb).setX hxB _, (HE.out.below hb).setI xr1 _, (Fr.of_below hb).op.setX _, ?_, ?_, ?_, ?_⟩
    · have := heap_setCell_same V xr 0 _ 3 (.int .i64 (-1)) xr1
      simpa [IsI] using this
    · exact (Below.heap_setCell _ _ _ _ (fun e => hne e.symm)).trans ((hb.block _ xl).trans HXC.out)
    · exact (Below.heap_setCell _ _ _ _ (show w.heap.size ≠ xr by omega)).trans (HK3.row 0 rfl)
    · exact (Below.heap_setCell _ _ _ _ (show T5 ≠ xr by omega)).trans hT
  have HP := Lib.hid P
  clear P HK3 hT hb xr1 HO HE HXC HXR
  go_upto_region 4 with fail
  generalize (V.setCell ⟨xr, 0, none⟩ (.int .i64 (-1))) = V2 at *
  clear z0 z1
  obtain ⟨ru, _, c_0, c_1, c_2, _⟩ := HP.out.ow.cells HU.out
  have HTu := Lib.hid (fun w => threads_y u ru.1 ru.2 w hlu)
  have HTf := Lib.hid (fun w => threads_y f rf.1 rf.2 w hlf)
  generalize hnu : nThP u = nu at *
  generalize hnf : nThP f = nf at *
  have HUU := Lib.hid huu
  have HFF := Lib.hid hff
  clear huu hff hnu hnf hlu hlf
  go_wp2_with fail
  refine (HTu.out _).mono ?_
  rintro y w3 ⟨rfl, hb3⟩
  have HP3 := Lib.hid (HP.out.below hb3)
  clear hb3 HP c_0 c_1 c_2
  obtain ⟨t_0, t_1, t_2, _, _, _, tl⟩ := row3 HP3.out.t5
  by_cases h0 : nu = 0
  · subst h0
    go_wp2_with fail
    refine (HTf.out _).mono ?_
    rintro y w4 ⟨rfl, hb4⟩
    have HP4 := Lib.hid (HP3.out.below hb4)
    clear hb4 HP3 t_0 t_1 t_2 tl
    by_cases h2 : 2 ≤ nf
    · obtain ⟨j, l, hjl, hjt, hjc, hjs⟩ := HHD.out h2
      have HSM2 : Hid (stealM s c = toProcM s j c) := Lib.hid (by rw [HSM.out, if_pos (by simp [h2]), hjl]; rfl)
      have HSN2 : Hid (stealN s c = j) := Lib.hid (by rw [HSN.out, if_pos (by simp [h2]), hjl]; rfl)
      obtain ⟨t_0, t_1, t_2, _, _, _, tl⟩ := row3 HP4.out.t5
      obtain ⟨-, hrd⟩ := HP4.out.ow.rd _ f rf HF.out HRF.out
      obtain ⟨br, orr, cur, hrf1, _, hcr⟩ : ∃ (b off : Nat) (cur : Array Value), rf.1 = some ⟨b, off, none⟩ ∧ w4.heap[b]? = some (.cells cur 3 (0, 0)) ∧ ∀ (j : Nat) (x : Value), (iV f.ready)[j]? = some x → w4.cell? ⟨b, off + j, none⟩ = some x := by
        rcases hrd with h | h
        · rw [hjl] at h; simp at h
        · exact h
      have g0 : w4.cell? ⟨br, orr, none⟩ = some (.int .i64 j) := hcr 0 _ (by rw [hjl]; rfl)
      have hfn : (0 : Int) < (f.ready.length : Int) := by rw [hjl]; simp only [List.length_cons]; omega
      have hfn2 : 0 < f.ready.length := by rw [hjl]; simp only [List.length_cons]; omega
      rw [hrf1] at t_2
      obtain ⟨z_0, z_1, zl⟩ := cell0 HP4.out.xr_
      have xr5 := heap_setCell_same w4 xr 0 _ 3 (.int .i64 j) HP4.out.xr_
      have hxr5 : IsI xr j (w4.setCell ⟨xr, 0, none⟩ (.int .i64 j)) := by simpa [IsI] using xr5
      have hxc5 : IsI xc c (w4.setCell ⟨xr, 0, none⟩ (.int .i64 j)) := (Below.heap_setCell _ _ _ _ (fun e => hne e.symm)).trans HP4.out.xc_
      have hbd5 : (w4.setCell ⟨xr, 0, none⟩ (.int .i64 j)).heap[w.heap.size]? = some (.cells (bdC b0 e).toArray 77 (0, 0)) := (Below.heap_setCell _ _ _ _ (show w.heap.size ≠ xr by omega)).trans HP4.out.bd
      obtain ⟨k_0, k_1, k_2, k_3, k_4, k_5, hxl⟩ := board_cells hbd5
      obtain ⟨y_0, _, _⟩ := cell0 hxr5
      obtain ⟨y_1, _, _⟩ := cell0 hxc5
      have O5 := HP4.out.ow.setX hxB (.int .i64 j)
      have E5 := HP4.out.en.setI HP4.out.xr_ (.int .i64 j)
      have hfl2 : mxI s.qs < s.qs.length := hfl
      have HTP := Lib.hid (toProc_c E5 O5 HOK.out hjt hjc hfl2 hc)
      have HO5 := Lib.hid O5
      have HF5 := Lib.hid (HP4.out.fr.setX (.int .i64 j))
      have HX5 := Lib.hid hxr5
      clear O5 E5 hxr5 hxc5 hbd5 xr5 hcr hrd hjt hjc hjs HSM HSN HHD
      generalize f.ready.length = nr at *
      go_wp2_with fail
      refine HTP.out.mono ?_
      rintro y w6 ⟨rfl, ⟨rs6, O6⟩, F6⟩
      have X6 := HO5.out.kept F6 HX5.out (by decide)
      have HO6 := Lib.hid O6
      have HF6 := Lib.hid (HF5.out.trans (F6.op (x := xr) (b0 := b0)))
      have HX6 := Lib.hid X6
      clear O6 F6 X6 HTP k_0 k_1 k_2 k_3 k_4 k_5 y_0 y_1 z_0 z_1 t_0 t_1 t_2 g0
      go_wp2
      refine bodyPost_end (results_none rfl _ _ _) rfl ?_
      exact ⟨rfl, ⟨bc, cc, _, ct, rs6, by rw [HSM2.out]; exact HO6.out⟩, HF6.out, by rw [HSN2.out]; exact HX6.out⟩
    · have HSM2 : Hid (stealM s c = s) := Lib.hid (by rw [HSM.out, if_neg (fun h => h2 h.2)])
      have HSN2 : Hid (stealN s c = -1) := Lib.hid (by rw [HSN.out, if_neg (fun h => h2 h.2)])
      clear HSM HSN HHD
      go_wp2
      refine bodyPost_end (results_none rfl _ _ _) rfl ?_
      exact ⟨rfl, ⟨bc, cc, _, ct, rs, by rw [HSM2.out]; exact HP4.out.ow⟩, HP4.out.fr, by rw [HSN2.out]; exact HP4.out.xr_⟩
  · have hnz : (nu == 0) = false := by simpa using h0
    have HSM2 : Hid (stealM s c = s) := Lib.hid (by rw [HSM.out, if_neg (fun h => h0 h.1)])
    have HSN2 : Hid (stealN s c = -1) := Lib.hid (by rw [HSN.out, if_neg (fun h => h0 h.1)])
    clear HSM HSN HHD
    go_wp2
    refine bodyPost_end (results_none rfl _ _ _) rfl ?_
    exact ⟨rfl, ⟨bc, cc, _, ct, rs, by rw [HSM2.out]; exact HP3.out.ow⟩, HP3.out.fr, by rw [HSN2.out]; exact HP3.out.xr_⟩
end
set_option maxHeartbeats 4000000 in
set_option maxRecDepth 100000 in
theorem steal_y (a : Option Addr) (c : Nat) (a2 : Option Addr) (c2 : Nat) (qs : List Qu) (ts : List Th) (q : Int) (k : Nat) (w : World) (hs : ScIn w a c a2 c2 qs ts) (hck : chkB qs ts q = true) (hk : k < qs.length) :
    Calls Try.prog 48 #[.agg #[.slice a qs.length c, .slice a2 ts.length c2, .int .i64 q], .int .i64 k] w (Res3 (stealM ⟨qs, ts, q⟩ k) (.int .i64 (stealN ⟨qs, ts, q⟩ k)) w) := by
  have hok := ok_of_chk hck
  have hok2 : Ok (stealM ⟨qs, ts, q⟩ k) := steal_ok hok hk
  have HS := Lib.hid hs
  have HC := Lib.hid hck
  have HK := ((Kw.start w).box (vs := [.slice a qs.length c, .slice a2 ts.length c2, .int .i64 q]) (t := 25)).box (vs := [.int .i64 k]) (t := 3)
  replace HK := (HK.box (vs := [.slice none 0 0, .slice none 0 0, .int .i64 0]) (t := 25)).box (vs := [.int .i64 0]) (t := 3)
  simp only [World.size_alloc] at HK
  have hmf : ∀ (fn : Fn) (first cap : Array Value) (w : World), (Instr.makeFunc fn first cap).run Try.prog w = .ok (.func fn first cap) w := fun _ _ _ _ => rfl
  have HOK := Lib.hid hok
  have HOK2 := Lib.hid hok2
  clear hs hck hok hok2
  go_enter Try.func48, Try.ntmps48
  go_wp2_with fail
  have hw : ∃ W, (((w.alloc (.cells #[.slice a qs.length c, .slice a2 ts.length c2, .int .i64 q] 25)).alloc (.cells #[.int .i64 k] 3)).alloc (.cells #[.slice none 0 0, .slice none 0 0, .int .i64 0] 25)).alloc (.cells #[.int .i64 0] 3) = W := ⟨_, rfl⟩
  obtain ⟨W, hW⟩ := hw
  have hWs : W.heap.size = w.heap.size + 4 := by rw [← hW]; simp
  rw [hW] at HK ⊢
  clear hW
  have hch := change_y a c a2 c2 qs ts q 70 #[.pointer (some ⟨w.heap.size + 1, 0, none⟩), .pointer (some ⟨w.heap.size + 1 + 1 + 1, 0, none⟩)] (w.heap.size + 1 + 1 + 1) (stealM ⟨qs, ts, q⟩ k) (IsI (w.heap.size + 1 + 1 + 1) ((stealN ⟨qs, ts, q⟩ k))) W (HS.out.below HK.base) HC.out (stable_I _ _ (by omega)) (by omega) (enters_of Try.func70 (by kernel_rfl) rfl)
    (fun b0 e bc cc at_ ct rs V hb0 hV hO hE => steal1_c hE hO HOK.out hk (by omega) (by omega) ((hV.block _ (by omega)).trans (HK.row 2 rfl)) _ ((hV.block _ (by omega)).trans (HK.row 0 rfl)))
  have HCH := Lib.hid hch
  clear hch
  refine HCH.out.mono ?_
  rintro y w1 ⟨g, d, b, d2, rfl, ⟨B, b0, rs, hBz, hsc⟩, hfx, hI⟩
  have hrow4 := (hfx.blk (w.heap.size + 1 + 1) (by omega) (by omega)).trans (HK.row 1 rfl)
  have hb1 : Below w.heap.size w w1 := HK.base.trans (hfx.below (B := w.heap.size) (by omega) (by omega))
  have HSC := Lib.hid hsc
  have HB1 := Lib.hid hb1
  have hz1 : w.heap.size + 4 ≤ w1.heap.size := by have := hfx.size; omega
  have hBw : w.heap.size + 4 ≤ B := by omega
  obtain ⟨i0, i1, il⟩ := cell0 hI
  obtain ⟨r0, r1, r2, s0, s1, s2, rl⟩ := row3 hrow4
  have HR4 := Lib.hid hrow4
  generalize stealN ⟨qs, ts, q⟩ k = sn at *
  generalize stealM ⟨qs, ts, q⟩ k = st at *
  clear hsc hfx hb1 hI hrow4 HCH HK hWs
  go_wp2_with fail
  have hw2 : Below w1.heap.size w1 (w1.alloc (.cells #[.slice (some ⟨g, 0, none⟩) st.qs.length d, .slice b st.ts.length d2, .int .i64 st.q] 25)) := b_alloc (Below.refl _ _)
  have hx2 : (w1.alloc (.cells #[.slice (some ⟨g, 0, none⟩) st.qs.length d, .slice b st.ts.length d2, .int .i64 st.q] 25)).heap[w1.heap.size]? = some (.cells #[.slice (some ⟨g, 0, none⟩) st.qs.length d, .slice b st.ts.length d2, .int .i64 st.q] 25 (0, 0)) := heap_alloc_new w1 _
  obtain ⟨e0, e1, e2, _, _, _, el⟩ := row3 hx2
  replace i0 := (hw2.cell (p := ⟨w.heap.size + 1 + 1 + 1, 0, none⟩) il).trans i0
  have HR5 := Lib.hid ((hw2.block _ rl).trans HR4.out)
  have HSC2 := Lib.hid (HSC.out.below hw2)
  have HB2 := Lib.hid (Below.tail HB1.out hw2)
  generalize (w1.alloc (.cells #[.slice (some ⟨g, 0, none⟩) st.qs.length d, .slice b st.ts.length d2, .int .i64 st.q] 25)) = w2 at *
  have il2 : w.heap.size + 1 + 1 + 1 < w2.heap.size := Nat.lt_of_lt_of_le il hw2.size
  clear hw2 hx2 i1 il HR4 HSC HB1 r0 r1 r2 s0 s1 s2 rl
  have hz : w.heap.size + 4 ≤ w1.heap.size := hz1
  generalize w1.heap.size = z at *
  refine wp_region_any (by kernel_rfl) (wpAny_of_held (S := fun W' : World => W'.cell? ⟨z, 0, none⟩ = some (.slice (some ⟨g, 0, none⟩) st.qs.length d) ∧ W'.cell? ⟨z, 1, none⟩ = some (.slice b st.ts.length d2) ∧ W'.cell? ⟨z, 2, none⟩ = some (.int .i64 st.q) ∧ W'.cell? ⟨w.heap.size + 1 + 1 + 1, 0, none⟩ = some (.int .i64 sn)) _ _ _ _ ?_)
  change wpAnyH _ _ _ _ _ _ _ _ (World.drew _)
  have hbp : Below w2.heap.size w2 w2.drew := (Below.refl _ _).drew
  have HS0 : w2.drew.cell? ⟨z, 0, none⟩ = some (.slice (some ⟨g, 0, none⟩) st.qs.length d) ∧ w2.drew.cell? ⟨z, 1, none⟩ = some (.slice b st.ts.length d2) ∧ w2.drew.cell? ⟨z, 2, none⟩ = some (.int .i64 st.q) ∧ w2.drew.cell? ⟨w.heap.size + 1 + 1 + 1, 0, none⟩ = some (.int .i64 sn) := ⟨e0, e1, e2, i0⟩
  have h5 := (hbp.block _ (Array.getElem?_eq_some_iff.1 HR5.out).1).trans HR5.out
  have hsc3 := HSC2.out.below hbp
  have HB2' := Below.tail HB2.out hbp
  generalize w2.drew = w3 at *
  obtain ⟨r0, r1, r2, s0, s1, s2, rl⟩ := row3 h5
  have f1 := heap_setCell_same w3 (w.heap.size + 1 + 1) 0 _ 25 (.slice (some ⟨g, 0, none⟩) st.qs.length d) h5
  have f2 := heap_setCell_same _ (w.heap.size + 1 + 1) 1 _ 25 (.slice b st.ts.length d2) f1
  have f3 := heap_setCell_same _ (w.heap.size + 1 + 1) 2 _ 25 (.int .i64 st.q) f2
  obtain ⟨u0, u1, u2, _⟩ := row3 (x := .slice (some ⟨g, 0, none⟩) st.qs.length d) (y := .slice b st.ts.length d2) (z := .int .i64 st.q) (by simpa using f3)
  have HB3 : Hid (Below w.heap.size w (((w3.setCell ⟨w.heap.size + 1 + 1, 0, none⟩ (.slice (some ⟨g, 0, none⟩) st.qs.length d)).setCell ⟨w.heap.size + 1 + 1, 1, none⟩ (.slice b st.ts.length d2)).setCell ⟨w.heap.size + 1 + 1, 2, none⟩ (.int .i64 st.q))) :=
    Lib.hid (((HB2'.setCell (by show _ ≤ w.heap.size + 1 + 1; omega) _).setCell (by show _ ≤ w.heap.size + 1 + 1; omega) _).setCell (by show _ ≤ w.heap.size + 1 + 1; omega) _)
  have HOW4 : Hid (Owned w.heap.size st g d b d2 (((w3.setCell ⟨w.heap.size + 1 + 1, 0, none⟩ (.slice (some ⟨g, 0, none⟩) st.qs.length d)).setCell ⟨w.heap.size + 1 + 1, 1, none⟩ (.slice b st.ts.length d2)).setCell ⟨w.heap.size + 1 + 1, 2, none⟩ (.int .i64 st.q))) := Lib.hid ⟨B, b0, rs, by omega, (((hsc3.setXj (by omega) 0 _).setXj (by omega) 1 _).setXj (by omega) 2 _)⟩
  have HSC4 : Hid (ScIn (((w3.setCell ⟨w.heap.size + 1 + 1, 0, none⟩ (.slice (some ⟨g, 0, none⟩) st.qs.length d)).setCell ⟨w.heap.size + 1 + 1, 1, none⟩ (.slice b st.ts.length d2)).setCell ⟨w.heap.size + 1 + 1, 2, none⟩ (.int .i64 st.q)) (some ⟨g, 0, none⟩) d b d2 st.qs st.ts) := Lib.hid ((((hsc3.setXj (by omega) 0 _).setXj (by omega) 1 _).setXj (by omega) 2 _).scIn (short_of_ok HOK2.out))
  have hfar : ∀ (k o : Nat), k ≠ w.heap.size + 1 + 1 → (((w3.setCell ⟨w.heap.size + 1 + 1, 0, none⟩ (.slice (some ⟨g, 0, none⟩) st.qs.length d)).setCell ⟨w.heap.size + 1 + 1, 1, none⟩ (.slice b st.ts.length d2)).setCell ⟨w.heap.size + 1 + 1, 2, none⟩ (.int .i64 st.q)).cell? ⟨k, o, none⟩ = w3.cell? ⟨k, o, none⟩ := fun k o hk =>
    World.cell?_of_block (w := w3) (a := ⟨k, o, none⟩) ((Below.heap_setCell _ _ _ _ hk).trans ((Below.heap_setCell _ _ _ _ hk).trans (Below.heap_setCell _ _ _ _ hk)))
  have HSF : Hid ((((w3.setCell ⟨w.heap.size + 1 + 1, 0, none⟩ (.slice (some ⟨g, 0, none⟩) st.qs.length d)).setCell ⟨w.heap.size + 1 + 1, 1, none⟩ (.slice b st.ts.length d2)).setCell ⟨w.heap.size + 1 + 1, 2, none⟩ (.int .i64 st.q)).cell? ⟨z, 0, none⟩ = some (.slice (some ⟨g, 0, none⟩) st.qs.length d) ∧ (((w3.setCell ⟨w.heap.size + 1 + 1, 0, none⟩ (.slice (some ⟨g, 0, none⟩) st.qs.length d)).setCell ⟨w.heap.size + 1 + 1, 1, none⟩ (.slice b st.ts.length d2)).setCell ⟨w.heap.size + 1 + 1, 2, none⟩ (.int .i64 st.q)).cell? ⟨z, 1, none⟩ = some (.slice b st.ts.length d2) ∧ (((w3.setCell ⟨w.heap.size + 1 + 1, 0, none⟩ (.slice (some ⟨g, 0, none⟩) st.qs.length d)).setCell ⟨w.heap.size + 1 + 1, 1, none⟩ (.slice b st.ts.length d2)).setCell ⟨w.heap.size + 1 + 1, 2, none⟩ (.int .i64 st.q)).cell? ⟨z, 2, none⟩ = some (.int .i64 st.q) ∧ (((w3.setCell ⟨w.heap.size + 1 + 1, 0, none⟩ (.slice (some ⟨g, 0, none⟩) st.qs.length d)).setCell ⟨w.heap.size + 1 + 1, 1, none⟩ (.slice b st.ts.length d2)).setCell ⟨w.heap.size + 1 + 1, 2, none⟩ (.int .i64 st.q)).cell? ⟨w.heap.size + 1 + 1 + 1, 0, none⟩ = some (.int .i64 sn)) :=
    Lib.hid ⟨(hfar z 0 (by omega)).trans HS0.1, (hfar z 1 (by omega)).trans HS0.2.1, (hfar z 2 (by omega)).trans HS0.2.2.1, (hfar _ 0 (by omega)).trans HS0.2.2.2⟩
  clear hfar h5 f1 f2 f3 hsc3 hbp e0 e1 e2 i0 HSC2 HB2 HB2' HR5 el
  refine wpAnyH_take (i := 0) (oi := _) (v := .agg #[.slice (some ⟨g, 0, none⟩) st.qs.length d, .slice b st.ts.length d2, .int .i64 st.q]) rfl (by kernel_rfl) (by kernel_rfl) (by kernel_rfl) (fun _ _ _ h => h) (Or.inl ⟨by rfl, ?_⟩) HS0 ?_
  · intro W' hW'
    have h := hW'.1; have h2 := hW'.2.1; have h3 := hW'.2.2.1; go_simp
  try simp only [Act.put, List.setIfInBounds_toArray, List.set_cons_zero, List.set_cons_succ]
  refine wpAnyH_take (i := 1) (oi := _) (v := .int .i64 sn) rfl (by kernel_rfl) (by kernel_rfl) (by kernel_rfl) (fun _ _ _ h => h) (Or.inl ⟨by rfl, ?_⟩) HS0 ?_
  · intro W' hW'
    have h := hW'.2.2.2; go_simp
  try simp only [Act.put, List.setIfInBounds_toArray, List.set_cons_zero, List.set_cons_succ]
  refine wpAnyH_take (i := 2) (oi := _) (v := .int .i64 0) rfl (by kernel_rfl) (by kernel_rfl) (by kernel_rfl) (fun _ _ _ h => h) (Or.inl ⟨by rfl, ?_⟩) HS0 ?_
  · intro W' hW'
    go_simp
  try simp only [Act.put, List.setIfInBounds_toArray, List.set_cons_zero, List.set_cons_succ]
  refine wpAnyH_ready (rs := [3]) (by kernel_rfl) (by simp) ?_
  refine AllReadyH.cons (o := _) rfl (fun K hK => ?_) AllReadyH.nil
  go_simp
  refine hK.out _ _ HSF.out (fun hHeld => ?_)
  clear hK K hHeld
  try simp only [Act.put, List.setIfInBounds_toArray, List.set_cons_zero, List.set_cons_succ]
  refine wpAnyH_ready (rs := [4]) (by kernel_rfl) (by simp) ?_
  refine AllReadyH.cons (o := _) rfl (fun K hK => ?_) AllReadyH.nil
  go_simp
  refine hK.out _ _ HSF.out (fun hHeld => ?_)
  clear hK K hHeld
  try simp only [Act.put, List.setIfInBounds_toArray, List.set_cons_zero, List.set_cons_succ]
  refine wpAnyH_ready (rs := [5]) (by kernel_rfl) (by simp) ?_
  refine AllReadyH.cons (o := _) rfl (fun K hK => ?_) AllReadyH.nil
  go_simp
  refine hK.out _ _ HSF.out (fun hHeld => ?_)
  clear hK K hHeld
  refine wpAnyH_done (by kernel_rfl) ?_ _
  go_wp2
  exact bodyPost_ret (v := .tuple #[.agg #[.slice (some ⟨g, 0, none⟩) st.qs.length d, .slice b st.ts.length d2, .int .i64 st.q], .int .i64 sn, .int .i64 0]) (by simp [results, Try.results48, go_sem, u0, u1, u2]) rfl ⟨g, d, b, d2, rfl, HSC4.out, HB3.out, HOW4.out⟩
end Go.Proofs.Ytggikbcgijmhbaa
