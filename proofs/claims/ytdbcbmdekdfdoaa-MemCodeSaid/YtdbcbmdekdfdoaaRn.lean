/- WHAT IS PROVED: append of made zeros onto a row of one's own, as a law for the walk; the reference's New of layer 3, for every number of pages. CONDITIONS: an int. -/
import Derived.Test.YtdbcbmdekdfdoaaRp
import Derived.Lib.AppendZerosOnto
namespace Go.Proofs.Ytdbcbmdekdfdoaa
open Go Go.RowKit Go.QrBits Go.QrMem

theorem ownsRow_grown_ne {w w' : World} {base e size n : Nat} {v : Value} {xs : List Value} {row : Option Nat} (h : w.ownsRow base e size v n xs) (hg : w.grownBy w' row) (hne : ∀ k, v.ownBlock = some k → row ≠ some k) : w'.ownsRow base e size v n xs := by
  obtain ⟨h1, (h2 | ⟨g1, cap, cur, h3, h4, h5, h6⟩)⟩ := h
  · exact ⟨h1, .inl h2⟩
  · subst h3
    exact ⟨h1, .inr ⟨g1, cap, cur, rfl, h4, by rw [hg.block g1 (Array.getElem?_eq_some_iff.1 h5).1 (fun e => hne g1 rfl e.symm)]; exact h5, h6⟩⟩
theorem apart_rows {w : World} {base base' n n2 : Nat} {e e2 : TypeId} {v v2 : Value} {xs ys : List Value} (h : w.ownsRow base e 1 v n xs) (h2 : w.ownsRow base' e2 1 v2 n2 ys) (he : e ≠ e2) : ∀ k, v.ownBlock = some k → v2.ownBlock ≠ some k :=
  fun _ hk => rows_apart' h h2 he hk
/-- append of one number onto a row of one's own; another row of one's own stays. -/
theorem wpList_appi {w : World} {ops : Array Oper} {rest : List Oper} {o : Oper} {a : Act} {Q : Exit → Act → World → Prop} (hgd : o.guard = none) (s x : Operand)
    (ho : o.op = .call { callee := .builtin .append, args := #[s, x], argTypes := #[22, 22] })
    (base : Nat) (v : Value) (n : Nat) (xs : List Int) (hs : a.eval s = v) (hown : w.ownsRow base 3 1 v n (iV xs)) (g : Nat) (y : Int) (hx : a.eval x = .slice (some ⟨g, 0, none⟩) 1 1) (hy : w.cell? ⟨g, 0, none⟩ = some (.int .i64 y))
    (hn : n ≤ 4096) {v2 : Value} {n2 : Nat} {ys : List Value} (hown2 : w.ownsRow base 5 1 v2 n2 ys) {fs : List (Nat × List Value × TypeId)} {w0 : World} (HK : Kw fs w0 w) (hb0 : w0.heap.size ≤ base) (hbw : base ≤ w.heap.size) (hfs : ∀ f ∈ fs, f.1 < base)
    (h : ∀ v' w', w'.ownsRow base 3 1 v' (n + 1) (iV (xs ++ [y])) → w'.ownsRow base 5 1 v2 n2 ys → Kw fs w0 w' → wpList Try.prog ops Q rest (a.put o.dst v') w') : wpList Try.prog ops Q (o :: rest) a w := by
  obtain ⟨i1, hi1, hy0, hy1, hy2⟩ := info_parts Try.info3
  refine wpList_append_own w hgd s x 22 ho base 3 i1 (.int .i64 0) 1 8 Try.underlying22 hi1 hy0 hy1 hy2 rfl (by decide) v n (iV xs) hs hown ⟨g, 0, none⟩ 1 1 [.int .i64 y] hx rfl (one_cell hy) (by intro u hu; simp at hu; subst hu; rfl) (by unfold maxLen; omega) (by omega) hbw ?_
  intro v' w' h2 h3 _
  refine h v' w' (by simpa [iV] using h2) (ownsRow_grown_ne hown2 h3 fun k hk e => apart_rows hown2 hown (by decide) k hk e) (HK.grown h3 fun k hk => ?_)
  have := own_block hown k hk
  exact ⟨by omega, fun f hf => by have := hfs f hf; omega⟩
theorem zero64 : Builtin.zeroCells (Value.cells (.int .u8 0)) 64 = (bV (zL 64)).toArray := by kernel_rfl
theorem run_append_room_zeros {w : World} (ty : TypeId) (g n cap : Nat) (cur : Array Value) (hg : w.heap[g]? = some (.cells cur 5 (0, 0))) (hroom : n + 64 ≤ cap) (hfit : n + 64 ≤ cur.size) :
    (Builtin.append_ #[23, 3] ty #[.slice (some ⟨g, 0, none⟩) n cap, .int .i64 64]).run Try.prog w =
      .ok (.slice (some ⟨g, 0, none⟩) (n + 64) cap) (w.setRow g (cur.toList.take n ++ bV (zL 64) ++ cur.toList.drop (n + 64)).toArray) := by
  obtain ⟨i1, hi1, hy0, hy1, hy2⟩ := info_parts Try.info5
  have hl : (bV (zL 64)).length = 64 := by rw [bV_len, zL_len]
  have hst := run_storeCells_at Try.prog g n 5 (bV (zL 64)) 0 cur w hg (by rw [hl]; simpa using hfit) (bV_one _)
  simp only [Nat.add_zero, hl] at hst
  have hw : IntKind.i64.wrap (64 : Int) = 64 := by rw [IntKind.wrap_i64]; omega
  simp [Builtin.append_, run_underlying Try.underlying23, run_underlying Try.underlying3, sizeOf, typeInfo, hi1, hy0, hy1, hy2, zeroValue, asInt, asIntOf, hw, hroom, Addr.add_lit, zero64, hst]
theorem take_two {n : Nat} {xs : List Int} (h : xs.length = n) (l : List Value) : (bV xs ++ bV (zL 64) ++ l).take (n + 64) = bV (xs ++ zL 64) := by
  have e : (bV xs ++ bV (zL 64)).length = n + 64 := by rw [List.length_append, bV_len, bV_len, zL_len, h]
  rw [← e, List.take_left]; simp [bV]
/-- append of 64 zero bytes onto a row of one's own; another row of one's own stays. -/
theorem wpList_appz {w : World} {ops : Array Oper} {rest : List Oper} {o : Oper} {a : Act} {Q : Exit → Act → World → Prop} (hgd : o.guard = none) (s x : Operand)
    (ho : o.op = .call { callee := .builtin .append, args := #[s, x], argTypes := #[23, 3] })
    (base : Nat) (v : Value) (n : Nat) (xs : List Int) (hs : a.eval s = v) (hown : w.ownsRow base 5 1 v n (bV xs)) (hx : a.eval x = .int .i64 64)
    (hn : n ≤ 4096) {v2 : Value} {n2 : Nat} {ys : List Value} (hown2 : w.ownsRow base 3 1 v2 n2 ys) {fs : List (Nat × List Value × TypeId)} {w0 : World} (HK : Kw fs w0 w) (hb0 : w0.heap.size ≤ base) (hbw : base ≤ w.heap.size) (hfs : ∀ f ∈ fs, f.1 < base)
    (h : ∀ v' w', w'.ownsRow base 5 1 v' (n + 64) (bV (xs ++ zL 64)) → w'.ownsRow base 3 1 v2 n2 ys → Kw fs w0 w' → wpList Try.prog ops Q rest (a.put o.dst v') w') : wpList Try.prog ops Q (o :: rest) a w := by
  obtain ⟨i1, hi1, hy0, hy1, hy2⟩ := info_parts Try.info5
  have hz1 : (Value.cells (.int .u8 0)).size = 1 := rfl
  have hl : (bV (zL 64)).length = 64 := by rw [bV_len, zL_len]
  have hxl := hown.1
  rw [bV_len, Nat.mul_one] at hxl
  rcases hown.2 with ⟨rfl, h0⟩ | ⟨g, cap, cur, rfl, hbg, hg, hnc, hcm, hcs, htake⟩
  · subst h0
    have hxs : xs = [] := List.eq_nil_of_length_eq_zero hxl
    subst hxs
    have hr := Lib.run_append_nil_zeros (P := Try.prog) w 23 3 o.type 5 i1 (.int .u8 0) .i64 .i64 Try.underlying23 Try.underlying3 hi1 hy0 64 (by omega) (by omega) (by omega) (by omega)
    have hge := grownCap_ge w 64 0 5
    have hle := grownCap_le_maxLen w 64 0 5 (by unfold maxLen; omega)
    refine Lib.wpList_append_run w hgd s x 23 3 ho _ _ hs hx _ _ hr (h _ _ ⟨by simp [hl], .inr ⟨w.heap.size, _, _, rfl, hbw, heap_alloc_new w.drew _, by omega, hle, ?_, ?_⟩⟩ ((hown2.drew).alloc _) (HK.drew.alloc))
    · simp only [Array.size_append, size_zeroCells, hz1]; omega
    · rw [zero64]; simp [hl]
  · by_cases hroom : n + 64 ≤ cap
    · have hr := run_append_room_zeros (w := w) o.type g n cap cur hg hroom (by omega)
      have hgr : w.grownBy (w.setRow g (cur.toList.take n ++ bV (zL 64) ++ cur.toList.drop (n + 64)).toArray) (some g) :=
        ⟨rfl, rfl, rfl, by simp, fun k _ hk => setRow_other w g k _ (fun e => hk (by simp [e]))⟩
      refine Lib.wpList_append_run w hgd s x 23 3 ho _ _ hs hx _ _ hr (h _ _ ⟨by simp [bV_len, hxl, zL_len], .inr ⟨g, cap, _, rfl, hbg, setRow_heap w g cur _ 5 _ hg, hroom, hcm, ?_, ?_⟩⟩ (ownsRow_grown_ne hown2 hgr fun k hk e => apart_rows hown2 hown (by decide) k hk (by rw [← e]; rfl)) (HK.grown hgr fun k hk => ?_))
      · simp only [List.size_toArray, List.length_append, List.length_take, List.length_drop, Array.length_toList, hl]; omega
      · simp only [Nat.mul_one] at htake ⊢
        rw [htake]
        exact take_two hxl _
      · cases hk
        exact ⟨by omega, fun f hf => by have := hfs f hf; omega⟩
    · have hold : (Builtin.firstCells i1.size n (.slice (some ⟨g, 0, none⟩) n cap)).run Try.prog w.drew = .ok (bV xs).toArray w.drew :=
        run_firstCells_some (P := Try.prog) w.drew i1.size n ⟨g, 0, none⟩ n cap (bV xs) (by rw [bV_len, hxl, hy1]; omega) (fun j u hu => by
          have := hown.cells (g := g) rfl j u hu
          exact this)
      have hr := Lib.run_append_grow_zeros (P := Try.prog) w 23 3 o.type 5 i1 (.int .u8 0) .i64 .i64 Try.underlying23 Try.underlying3 hi1 hy0 (some ⟨g, 0, none⟩) n cap (bV xs) hold 64 (by omega) (by omega) (by omega) (by omega) (by omega) (growslice_fits (by omega) (by rw [hy2]; omega))
      have hge := grownCap_ge w (n + 64) cap 5
      have hle := grownCap_le_maxLen w (n + 64) cap 5 (by unfold maxLen; omega)
      refine Lib.wpList_append_run w hgd s x 23 3 ho _ _ hs hx _ _ hr (h _ _ ⟨by simp [bV_len, hxl, zL_len], .inr ⟨w.heap.size, _, _, rfl, by omega, heap_alloc_new w.drew _, by omega, hle, ?_, ?_⟩⟩ ((hown2.drew).alloc _) (HK.drew.alloc))
      · simp only [Array.size_append, size_zeroCells, hz1, List.size_toArray, bV_len, hxl]; omega
      · rw [zero64]
        simp only [Nat.mul_one, Array.toList_append]
        exact take_two hxl _
theorem zL_succ (n : Nat) : zL (n + 1) = zL n ++ [0] := by simp [zL, List.replicate_succ']
theorem zL_add (n m : Nat) : zL (n + m) = zL n ++ zL m := by simp [zL, List.replicate_append_replicate]
set_option maxHeartbeats 4000000 in
set_option maxRecDepth 100000 in
theorem rnew_n (p : Int) (w : World) (hp : p < 0 ∨ 32 < p) : Calls Try.prog 18 #[.int .i64 p] w fun e w' => e = .returned (.agg #[.slice none 0 0, .slice none 0 0, .int .i64 0, .int .i64 0, .int .i64 1]) ∧ Below w.heap.size w w' := by
  rcases hp with hp | hp
  · go_enter Try.func18, Try.ntmps18
    go_wp2
    refine bodyPost_ret (v := .agg #[.slice none 0 0, .slice none 0 0, .int .i64 0, .int .i64 0, .int .i64 1]) (by simp [results, Try.results18, go_sem]) rfl ?_
    exact ⟨rfl, by go_grown⟩
  · have hp' : decide (p < 0) = false := by simp; omega
    go_enter Try.func18, Try.ntmps18
    go_wp2
    refine bodyPost_ret (v := .agg #[.slice none 0 0, .slice none 0 0, .int .i64 0, .int .i64 0, .int .i64 1]) (by simp [results, Try.results18, go_sem]) rfl ?_
    exact ⟨rfl, by go_grown⟩
set_option maxHeartbeats 4000000 in
set_option maxRecDepth 100000 in
theorem rnew_y (n : Nat) (w : World) (hn : n ≤ 32) : Calls Try.prog 18 #[.int .i64 (n : Int)] w (RSpPost (zL n) (zL (n * 64)) 0 0 0 w) := by
  have hn0 : ¬ ((n : Int) < 0) := by omega
  have hn1 : ¬ (32 < (n : Int)) := by omega
  have HK := ((Kw.start w).box (vs := [.slice none 0 0, .slice none 0 0, .int .i64 0, .int .i64 0, .int .i64 0]) (t := 36)).box (vs := [.slice none 0 0, .slice none 0 0]) (t := 25)
  simp only [World.size_alloc] at HK
  go_enter Try.func18, Try.ntmps18
  go_wp2_with fail
  go_loopw [4] (fun i wr => ∃ (k : Nat) (a1 : Option Addr) (c1 : Nat) (b1 : Option Addr) (d1 : Nat) (w5 : World), w5 = wr ∧ k ≤ n ∧ i = .int .i64 k ∧ Hid (w5.ownsRow (w.heap.size + 1 + 1) 3 1 (.slice a1 k c1) k (iV (zL k))) ∧ Hid (w5.ownsRow (w.heap.size + 1 + 1) 5 1 (.slice b1 (k * 64) d1) (k * 64) (bV (zL (k * 64)))) ∧
    Kw [(w.heap.size + 1, [.slice a1 k c1, .slice b1 (k * 64) d1], 25), (w.heap.size, [.slice none 0 0, .slice none 0 0, .int .i64 0, .int .i64 0, .int .i64 0], 36)] w w5) (fun i _ => n - (intOf i).toNat)
  case atStart => exact ⟨0, none, 0, none, 0, _, rfl, Nat.zero_le _, rfl, World.ownsRow_nil _ _ _ _, World.ownsRow_nil _ _ _ _, HK⟩
  case round =>
    clear HK
    obtain ⟨k, a1, c1, b1, d1, w5, hw, hk, rfl, HO1, HO2, HK⟩ := hrel
    subst hw
    by_cases hlt : k < n
    · have x_0 := HK.get 0 0 rfl rfl
      have x_1 := HK.get 0 1 rfl rfl
      have x_f0 := HK.fz 0 0 rfl
      have x_f1 := HK.fz 0 1 rfl
      have x_s := HK.lt 0 rfl
      have hsz := HK.size
      have HKh := Lib.hid HK
      clear HK
      go_wp2_with (first
        | (at_builtin
           refine wpList_appi rfl (.tmp 18) (.tmp 19) rfl (w.heap.size + 1 + 1) _ k (zL k) rfl (HO1.out.alloc _) w5.heap.size 0 rfl (by simp [go_sem]) (by omega) (HO2.out.alloc _) HKh.out.alloc (by omega) (by simp; omega) (by intro f hf; simp only [List.mem_cons, List.not_mem_nil, or_false] at hf; rcases hf with rfl | rfl <;> (dsimp only; omega)) ?_
           intro v6 w6 h6 h6b HK6
           obtain ⟨a6, c6, hv6⟩ := own_slice h6
           subst hv6
           clear x_0 x_1 x_f0 x_f1 x_s hsz
           have x_0 := HK6.get 0 0 rfl rfl
           have x_1 := HK6.get 0 1 rfl rfl
           have x_f0 := HK6.fz 0 0 rfl
           have x_f1 := HK6.fz 0 1 rfl
           have x_s := HK6.lt 0 rfl
           have HK7 := Lib.hid (HK6.put (j := 0) (v := .slice a6 (k + 1) c6) (by omega) (by intro f hf; simp only [List.mem_cons, List.not_mem_nil, or_false] at hf; subst hf; dsimp only; omega))
           have H6 := Lib.hid (ownsRow_setCell_below (a := ⟨w.heap.size + 1, 0, none⟩) h6 (by show w.heap.size + 1 < _; omega) (.slice a6 (k + 1) c6))
           have H6b := Lib.hid (ownsRow_setCell_below (a := ⟨w.heap.size + 1, 0, none⟩) h6b (by show w.heap.size + 1 < _; omega) (.slice a6 (k + 1) c6))
           have hsz6 := HK6.size
           clear HK6 h6 h6b)
        | (at_builtin
           refine wpList_appz rfl (.tmp 23) (.const (.int .i64 64)) rfl (w.heap.size + 1 + 1) _ (k * 64) (zL (k * 64)) rfl H6b.out rfl (by omega) H6.out HK7.out (by omega) (by simp; omega) (by intro f hf; simp only [List.set_cons_zero, List.mem_cons, List.not_mem_nil, or_false] at hf; rcases hf with rfl | rfl <;> (dsimp only; omega)) ?_
           intro v8 w8 h8 h8b HK8
           obtain ⟨a8, c8, hv8⟩ := own_slice h8
           subst hv8
           clear x_0 x_1 x_f0 x_f1 x_s hsz6
           simp only [List.set_cons_zero] at HK8
           have x_0 := HK8.get 0 0 rfl rfl
           have x_1 := HK8.get 0 1 rfl rfl
           have x_f0 := HK8.fz 0 0 rfl
           have x_f1 := HK8.fz 0 1 rfl
           have x_s := HK8.lt 0 rfl
           have HK9 := Lib.hid (HK8.put (j := 1) (v := .slice a8 (k * 64 + 64) c8) (by omega) (by intro f hf; simp only [List.mem_cons, List.not_mem_nil, or_false] at hf; subst hf; dsimp only; omega))
           have H8 := Lib.hid (ownsRow_setCell_below (a := ⟨w.heap.size + 1, 1, none⟩) h8 (by show w.heap.size + 1 < _; omega) (.slice a8 (k * 64 + 64) c8))
           have H8b := Lib.hid (ownsRow_setCell_below (a := ⟨w.heap.size + 1, 1, none⟩) h8b (by show w.heap.size + 1 < _; omega) (.slice a8 (k * 64 + 64) c8))
           clear HK8 h8 h8b))
      go_roundw
      case rel =>
        refine ⟨k + 1, a6, c6, a8, c8, _, rfl, by omega, by go_num, ?_, ?_, ?_⟩
        · have := H8b.out; rw [← zL_succ] at this; exact this
        · have := H8.out; rw [← zL_add] at this; rw [show (k + 1) * 64 = k * 64 + 64 by omega]; exact this
        · have := HK9.out; rw [show (k + 1) * 64 = k * 64 + 64 by omega]; exact this
      case measure => simp [intOf]; omega
    · have hkn : n = k := by omega
      have HN := Lib.hid hkn
      clear hkn
      have x_0 := HK.get 0 0 rfl rfl
      have x_1 := HK.get 0 1 rfl rfl
      have x_s := HK.lt 0 rfl
      have r_0 := HK.get 1 0 rfl rfl
      have r_1 := HK.get 1 1 rfl rfl
      have r_2 := HK.get 1 2 rfl rfl
      have r_3 := HK.get 1 3 rfl rfl
      have r_4 := HK.get 1 4 rfl rfl
      have r_f0 := HK.fz 1 0 rfl
      have r_f1 := HK.fz 1 1 rfl
      have r_f2 := HK.fz 1 2 rfl
      have r_f3 := HK.fz 1 3 rfl
      have r_f4 := HK.fz 1 4 rfl
      have r_s := HK.lt 1 rfl
      have hK := HK.base
      obtain ⟨g1, g2, g3, g4, g5⟩ := put5c (.slice a1 k c1) (.slice b1 (k * 64) d1) (.int .i64 0) (.int .i64 0) (.int .i64 0) r_0 r_1 r_2 r_3 r_4
      clear HK
      go_wp2
      refine bodyPost_ret (v := .agg #[.slice a1 k c1, .slice b1 (k * 64) d1, .int .i64 0, .int .i64 0, .int .i64 0]) (by simp [results, Try.results18, go_sem, g1, g2, g3, g4, g5]) rfl ?_
      have e1 : k = (zL k).length := (zL_len k).symm
      have e2 : k * 64 = (zL (k * 64)).length := (zL_len _).symm
      have o1 := HO1.out
      have o2 := HO2.out
      rw [HN.out]
      have := @rsp_mk (zL k) (zL (k * 64)) w w5 a1 b1 c1 d1 w.heap.size (w.heap.size + 1 + 1) (.slice a1 k c1) (.slice b1 (k * 64) d1) (.int .i64 0) (.int .i64 0) (.int .i64 0) (by rw [zL_len]; exact o1) (by rw [zL_len]; exact o2) hK (by omega) (by omega)
      rw [zL_len, zL_len] at this
      exact this
end Go.Proofs.Ytdbcbmdekdfdoaa
