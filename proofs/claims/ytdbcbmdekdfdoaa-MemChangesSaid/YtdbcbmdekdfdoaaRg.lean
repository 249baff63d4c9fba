/- WHAT IS PROVED: the reference's Fetched and Bytes of layer 3: the bytes of an access. CONDITIONS: the slices' cells hold the lists; at most 4096 of them. -/
import Derived.Test.YtdbcbmdekdfdoaaRf
import Derived.Test.YtdbcbmdekdfdoaaRq
namespace Go.QrMem
open Go Go.RowKit Go.QrBits
theorem Kw.grown {fs : List (Nat × List Value × TypeId)} {w0 w w' : World} {row : Option Nat} (h : Kw fs w0 w) (hg : w.grownBy w' row) (hr : ∀ k, row = some k → w0.heap.size ≤ k ∧ ∀ f ∈ fs, f.1 ≠ k) : Kw fs w0 w' :=
  ⟨h.base.grown hg h.size (fun k e => (hr k e).1), fun f hf => by
    rw [hg.block f.1 (Array.getElem?_eq_some_iff.1 (h.blk f hf)).1 (fun e => (hr _ e.symm).2 f hf rfl)]; exact h.blk f hf⟩
end Go.QrMem
namespace Go.Proofs.Ytdbcbmdekdfdoaa
open Go Go.RowKit Go.QrBits Go.QrMem

theorem own_block {w : World} {base e size n : Nat} {v : Value} {xs : List Value} (h : w.ownsRow base e size v n xs) : ∀ k, v.ownBlock = some k → base ≤ k ∧ k < w.heap.size := by
  intro k hk
  obtain ⟨_, (⟨rfl, _⟩ | ⟨g, cap, cur, rfl, hb, hg, _⟩)⟩ := h
  · simp [Value.ownBlock] at hk
  · simp only [Value.ownBlock, Option.some.injEq] at hk
    subst hk
    exact ⟨hb, (Array.getElem?_eq_some_iff.1 hg).1⟩
theorem one_cell {w : World} {g : Nat} {y : Value} (h : w.cell? ⟨g, 0, none⟩ = some y) : ∀ (j : Nat) (u : Value), [y][j]? = some u → w.cell? ((⟨g, 0, none⟩ : Addr).add j) = some u := by
  intro j u hu
  cases j with
  | zero => simp at hu; subst hu; exact h
  | succ j => simp at hu
/-- append of one byte onto a row of one's own. -/
theorem wpList_app1 {w : World} {ops : Array Oper} {rest : List Oper} {o : Oper} {a : Act} {Q : Exit → Act → World → Prop} (hgd : o.guard = none) (s x : Operand)
    (ho : o.op = .call { callee := .builtin .append, args := #[s, x], argTypes := #[23, 23] })
    (base : Nat) (v : Value) (n : Nat) (xs : List Int) (hs : a.eval s = v) (hown : w.ownsRow base 5 1 v n (bV xs)) (g : Nat) (y : Int) (hx : a.eval x = .slice (some ⟨g, 0, none⟩) 1 1) (hy : w.cell? ⟨g, 0, none⟩ = some (.int .u8 y))
    (hn : n ≤ 4096) {fs : List (Nat × List Value × TypeId)} {w0 : World} (HK : Kw fs w0 w) (hb0 : w0.heap.size ≤ base) (hbw : base ≤ w.heap.size) (hfs : ∀ f ∈ fs, f.1 < base)
    (h : ∀ v' w', w'.ownsRow base 5 1 v' (n + 1) (bV (xs ++ [y])) → Kw fs w0 w' → wpList Try.prog ops Q rest (a.put o.dst v') w') : wpList Try.prog ops Q (o :: rest) a w := by
  obtain ⟨i1, hi1, hy0, hy1, hy2⟩ := info_parts Try.info5
  refine wpList_append_own w hgd s x 23 ho base 5 i1 (.int .u8 0) 1 1 Try.underlying23 hi1 hy0 hy1 hy2 rfl (by decide) v n (bV xs) hs hown ⟨g, 0, none⟩ 1 1 [.int .u8 y] hx rfl (one_cell hy) (by intro u hu; simp at hu; subst hu; rfl) (by unfold maxLen; omega) (by omega) hbw ?_
  intro v' w' h2 h3 _
  refine h v' w' (by simpa [bV] using h2) (HK.grown h3 fun k hk => ?_)
  have := own_block hown k hk
  exact ⟨by omega, fun f hf => by have := hfs f hf; omega⟩
theorem SpIn.byte {w : World} {a : Option Addr} {b off c c2 k : Nat} {perm bytes : List Int} (h : SpIn w a c (some ⟨b, off, none⟩) c2 perm bytes) (hk : k < bytes.length) : w.cell? ⟨b, off + k, none⟩ = some (.int .u8 (bytes[k]?.getD 0)) := by
  rcases h.s2 with h | ⟨b', off', ha, _, hc⟩
  · have : bytes = [] := by simpa [bV] using h
    subst this; simp at hk
  · cases ha; exact hc k _ (by simp [bV, hk])

set_option maxHeartbeats 4000000 in
set_option maxRecDepth 100000 in
theorem bytesOf_c (a : Option Addr) (c : Nat) (a2 : Option Addr) (c2 : Nat) (P B : List Int) (t : Int) (n : Nat) (w : World) (hs : SpIn w a c a2 c2 P B) (hl : B.length ≤ 4096) (hn : n ≤ 4096) (hr : n = 0 ∨ (0 ≤ t ∧ t + n ≤ B.length)) :
    Calls Try.prog 60 #[.agg #[.slice a P.length c, .slice a2 B.length c2], .int .i64 t, .int .i64 (n : Int)] w (Cloned 5 (bV (rd B t n)) w) := by
  have HS := Lib.hid hs
  have HR := Lib.hid hr
  clear hs hr
  have HK := (Kw.start w).box (vs := [.slice a P.length c, .slice a2 B.length c2]) (t := 25)
  go_enter Try.func60, Try.ntmps60
  go_wp2
  go_loopw [7, 8] (fun v i wr => ∃ (k : Nat) (w5 : World), w5 = wr ∧ k ≤ n ∧ i = .int .i64 k ∧ w5.ownsRow (w.heap.size + 1) 5 1 v k (bV (rd B t k)) ∧ Kw [(w.heap.size, [.slice a P.length c, .slice a2 B.length c2], 25)] w w5) (fun _ i _ => n - (intOf i).toNat)
  case atStart => exact ⟨0, _, rfl, Nat.zero_le _, rfl, World.ownsRow_nil _ _ _ _, HK⟩
  case round =>
    clear HK
    obtain ⟨k, w5, hw, hk, rfl, ho, HK⟩ := hrel
    subst hw
    have HO := Lib.hid ho
    clear ho
    have p_0 := HK.get 0 0 rfl rfl
    have p_1 := HK.get 0 1 rfl rfl
    by_cases hlt : k < n
    · obtain ⟨m, hm0⟩ : ∃ m : Nat, t + (k : Int) = m := ⟨(t + k).toNat, by have := HR.out; omega⟩
      have hmB : m < B.length := by have := HR.out; omega
      obtain ⟨b, off, rfl, _, _⟩ := HS.out.shape2 hmB
      have hcell := (HS.out.below HK.base).byte hmB
      have hsz := HK.size
      have hps := HK.lt 0 rfl
      have m0 : (0 : Int) ≤ (m : Int) := Int.natCast_nonneg _
      have m1 : (m : Int) < (B.length : Int) := by omega
      have hY : rd B t (k + 1) = rd B t k ++ [B[m]?.getD 0] := by rw [rd_succ, hm0, Int.toNat_natCast]
      have HY := Lib.hid hY
      clear hY
      generalize B[m]?.getD 0 = y at *
      generalize hX : rd B t k = xs at *
      have HX := Lib.hid hX
      clear hX
      have HKh := Lib.hid HK
      clear HK
      go_wp2_with (at_builtin; refine wpList_app1 rfl (.tmp 14) (.tmp 22) rfl (w.heap.size + 1) _ k xs rfl (HO.out.alloc _) w5.heap.size y rfl (by simp [go_sem]) (by omega) HKh.out.alloc (by omega) (by simp; omega) (by intro f hf; simp only [List.mem_cons, List.not_mem_nil, or_false] at hf; subst hf; dsimp only; omega) ?_; intro v' w6 ho6 HK6; have HO6 := Lib.hid ho6; clear ho6)
      go_roundw
      case rel => exact ⟨k + 1, _, rfl, by omega, by go_num, by rw [HY.out]; exact HO6.out, HK6⟩
      case measure => simp [intOf]; omega
    · have hkn : n = k := by omega
      have HN := Lib.hid hkn
      clear hkn
      have HB := HK.base
      obtain ⟨b', d', hv⟩ := own_slice HO.out
      subst hv
      clear HK
      go_wp2
      go_ret
      have hkn := HN.out
      subst hkn
      refine ⟨b', d', by rw [bV_len, rd_len]; rfl, ?_, HB⟩
      rw [bV_len, rd_len]
      exact ownsRow_base HO.out (by omega)
set_option maxHeartbeats 4000000 in
set_option maxRecDepth 100000 in
theorem fetched_c (a : Option Addr) (c : Nat) (a2 : Option Addr) (c2 : Nat) (P B : List Int) (t : Int) (n : Nat) (w : World) (hs : SpIn w a c a2 c2 P B) (hc : chk P B.length = true) (ht : I64 t) (hn : n ≤ 4096) :
    Calls Try.prog 59 #[.agg #[.slice a P.length c, .slice a2 B.length c2], .int .i64 t, .int .i64 (n : Int)] w (Cloned 5 (bV (rd B t (kN P B t 4 n))) w) := by
  have HS := Lib.hid hs
  have HL := Lib.hid (chk_len4 hc)
  have HC := Lib.hid hc
  have HT := Lib.hid ht
  clear hs hc ht
  have HK := (Kw.start w).box (vs := [.slice a P.length c, .slice a2 B.length c2]) (t := 25)
  go_enter Try.func59, Try.ntmps59
  go_wp2
  go_loopw [7, 8] (fun v i wr => ∃ (k : Nat) (w5 : World), w5 = wr ∧ k ≤ n ∧ i = .int .i64 k ∧ Hid (k ≤ kN P B t 4 n) ∧ w5.ownsRow (w.heap.size + 1) 5 1 v k (bV (rd B t k)) ∧ Kw [(w.heap.size, [.slice a P.length c, .slice a2 B.length c2], 25)] w w5) (fun _ i _ => n - (intOf i).toNat)
  case atStart => exact ⟨0, _, rfl, Nat.zero_le _, rfl, Nat.zero_le _, World.ownsRow_nil _ _ _ _, HK⟩
  case round =>
    clear HK
    obtain ⟨k, w5, hw, hk, rfl, HG, ho, HK⟩ := hrel
    subst hw
    have HO := Lib.hid ho
    clear ho
    have p_0 := HK.get 0 0 rfl rfl
    have p_1 := HK.get 0 1 rfl rfl
    obtain ⟨hb0, hb1⟩ := kN_in (by have := HL.out; omega) HT.out HG.out
    by_cases hlt : k < n
    · by_cases hg : good P B 4 (t + k) = true
      · obtain ⟨x0, x1, p, x, hp, hx, hm⟩ := good_out hg
        obtain ⟨b1, off1, rfl⟩ := HS.out.shape hx
        obtain ⟨m, hm0⟩ : ∃ m : Nat, t + (k : Int) = m := ⟨(t + k).toNat, by omega⟩
        have hmy := may4 (chk_pB HC.out hx)
        rw [hm] at hmy
        simp only [Bool.not_true] at hmy
        have hpl := (List.getElem?_eq_some_iff.1 hx).1
        have HG2 := Lib.hid (good_lt HG.out hlt hg)
        rw [hm0] at hp x0 x1
        have HD : ((m : Int) / 64) = (p : Int) := by simp only [Int.toNat_natCast] at hp; omega
        have HX := Lib.hid hx
        have hmB : m < B.length := by omega
        obtain ⟨b, off, rfl, _, _⟩ := HS.out.shape2 hmB
        have m0 : (0 : Int) ≤ (m : Int) := Int.natCast_nonneg _
        have m1 : (m : Int) < (B.length : Int) := by omega
        have q0 : (0 : Int) ≤ (p : Int) := Int.natCast_nonneg _
        have q1 : (p : Int) < (P.length : Int) := by omega
        clear hx hp hg hm
        go_wp2_with fail
        refine (inside_y _ _ _ _ _ _ _ _ (by omega) (by omega)).mono ?_
        rintro e w6 ⟨rfl, hq⟩
        have HO6 := Lib.hid (ownsRow_below HO.out hq)
        replace HK := HK.below hq
        have p_0 := HK.get 0 0 rfl rfl
        have p_1 := HK.get 0 1 rfl rfl
        have hcell := (HS.out.below HK.base).cell HX.out
        have hbyte := (HS.out.below HK.base).byte hmB
        have hsz := HK.size
        have hps := HK.lt 0 rfl
        have hY : rd B t (k + 1) = rd B t k ++ [B[m]?.getD 0] := by rw [rd_succ, hm0, Int.toNat_natCast]
        have HY := Lib.hid hY
        clear hY hq
        generalize B[m]?.getD 0 = y at *
        generalize hX : rd B t k = xs at *
        have HXS := Lib.hid hX
        clear hX
        have HKh := Lib.hid HK
        clear HK
        go_wp2_with (at_builtin; refine wpList_app1 rfl (.tmp 31) (.tmp 37) rfl (w.heap.size + 1) _ k xs rfl (HO6.out.alloc _) w6.heap.size y rfl (by simp [go_sem]) (by omega) HKh.out.alloc (by omega) (by simp; omega) (by intro f hf; simp only [List.mem_cons, List.not_mem_nil, or_false] at hf; subst hf; dsimp only; omega) ?_; intro v' w7 ho7 HK7; have HO7 := Lib.hid ho7; clear ho7)
        go_roundw
        case rel => exact ⟨k + 1, _, rfl, by omega, by go_num, HG2.out, by rw [HY.out]; exact HO7.out, HK7⟩
        case measure => simp [intOf]; omega
      · have hg : good P B 4 (t + k) = false := by simpa using hg
        have HZ := Lib.hid (kN_at HG.out hg)
        obtain ⟨b', d', hv⟩ := own_slice HO.out
        subst hv
        rcases good_not HC.out hg with ho | ⟨x0, x1, p, x, hp, hx, hm⟩
        · clear hg
          go_wp2_with fail
          refine (inside_n _ _ _ _ _ _ _ _ ho).mono ?_
          rintro e w6 ⟨rfl, hq⟩
          have HO6 := Lib.hid (ownsRow_below HO.out hq)
          have HB := (HK.below hq).base
          clear ho HK hq
          go_wp2
          go_ret
          refine ⟨b', d', by rw [bV_len, rd_len, HZ.out]; rfl, ?_, HB⟩
          rw [bV_len, rd_len, HZ.out]
          exact ownsRow_base HO6.out (by omega)
        · obtain ⟨b1, off1, rfl⟩ := HS.out.shape hx
          obtain ⟨m, hm0⟩ : ∃ m : Nat, t + (k : Int) = m := ⟨(t + k).toNat, by omega⟩
          have hmy := may4 (chk_pB HC.out hx)
          rw [hm] at hmy
          simp only [Bool.not_false] at hmy
          have hpl := (List.getElem?_eq_some_iff.1 hx).1
          rw [hm0] at hp x0 x1
          have HD : ((m : Int) / 64) = (p : Int) := by simp only [Int.toNat_natCast] at hp; omega
          have HX := Lib.hid hx
          have m0 : (0 : Int) ≤ (m : Int) := Int.natCast_nonneg _
          have m1 : (m : Int) < (B.length : Int) := by omega
          have q0 : (0 : Int) ≤ (p : Int) := Int.natCast_nonneg _
          have q1 : (p : Int) < (P.length : Int) := by omega
          clear hx hp hg hm
          go_wp2_with fail
          refine (inside_y _ _ _ _ _ _ _ _ (by omega) (by omega)).mono ?_
          rintro e w6 ⟨rfl, hq⟩
          have HO6 := Lib.hid (ownsRow_below HO.out hq)
          replace HK := HK.below hq
          have p_0 := HK.get 0 0 rfl rfl
          have p_1 := HK.get 0 1 rfl rfl
          have hcell := (HS.out.below HK.base).cell HX.out
          have HB := HK.base
          clear HK hq
          go_wp2
          go_ret
          refine ⟨b', d', by rw [bV_len, rd_len, HZ.out]; rfl, ?_, HB⟩
          rw [bV_len, rd_len, HZ.out]
          exact ownsRow_base HO6.out (by omega)
    · have hkn : kN P B t 4 n = k := by have := kN_le P B t 4 n; have := HG.out; omega
      have HZ := Lib.hid hkn
      clear hkn
      have HB := HK.base
      obtain ⟨b', d', hv⟩ := own_slice HO.out
      subst hv
      clear HK
      go_wp2
      go_ret
      refine ⟨b', d', by rw [bV_len, rd_len, HZ.out]; rfl, ?_, HB⟩
      rw [bV_len, rd_len, HZ.out]
      exact ownsRow_base HO.out (by omega)
end Go.Proofs.Ytdbcbmdekdfdoaa
