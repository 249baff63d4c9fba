/- WHAT IS PROVED: the law SchedPlaces, walked. -/
import Derived.Test.YtggikbcgijmhbaaAc
import Derived.Test.YtggikbcgijmhbaaAt
set_option linter.unusedSimpArgs false
set_option linter.unusedVariables false
namespace Go.Proofs.Ytggikbcgijmhbaa
open Go Go.RowKit Go.QrBits Go.QrMem
attribute [local go_sem] reg_cell reg_frozen reg_setCell reg_lt reg_lt_add reg_drew reg_of_drew
/-- A list of operations as it comes in. -/
def OpsIn (w : World) (a : Option Addr) (n : Nat) : Prop :=
  n = 0 ∨ ∃ b o : Nat, a = some ⟨b, o, none⟩ ∧ b < w.heap.size ∧ ∀ i, i < n → ∃ K N P : Int, w.cell? ⟨b, o + i * 3, none⟩ = some (.int .i64 K) ∧ w.cell? ⟨b, o + i * 3 + 1, none⟩ = some (.int .i64 N) ∧ w.cell? ⟨b, o + i * 3 + 2, none⟩ = some (.int .i64 P)
set_option maxHeartbeats 8000000 in
set_option maxRecDepth 100000 in
theorem places_n (a : Option Addr) (c : Nat) (a2 : Option Addr) (c2 : Nat) (qs : List Qu) (ts : List Th) (q : Int) (al : Option Addr) (nl cl : Nat) (w : World) (hs : ScIn w a c a2 c2 qs ts) (hck : chkB qs ts q = false) :
    Calls Try.prog 4 #[.agg #[.slice a qs.length c, .slice a2 ts.length c2, .int .i64 q], .slice al nl cl] w fun y w' => y = .returned (.bool true) ∧ Below w.heap.size w w' := by
  have HK := (Kw.start w).box (vs := [.slice a qs.length c, .slice a2 ts.length c2, .int .i64 q]) (t := 25)
  have HC := Lib.hid (fun w hs => check_c a c a2 c2 qs ts q w hs)
  have HCK := Lib.hid (show okE (chkB qs ts q) = 50 by rw [hck]; rfl)
  have HS := Lib.hid hs
  clear hs hck
  go_enter Try.func4, Try.ntmps4
  go_wp2_with fail
  refine (sane_c _).mono ?_
  rintro y w1 ⟨rfl, hq⟩
  replace HK := HK.below hq
  clear hq
  have p_0 := HK.get 0 0 rfl rfl
  have p_1 := HK.get 0 1 rfl rfl
  have p_2 := HK.get 0 2 rfl rfl
  go_wp2_with fail
  refine (HC.out _ (HS.out.below HK.base)).mono ?_
  rintro y w2 ⟨rfl, hq⟩
  rw [HCK.out]
  have hA := (HK.below hq).base
  clear HK hq p_0 p_1 p_2 HC
  go_wp2
  go_ret
  exact ⟨rfl, hA⟩
set_option maxHeartbeats 8000000 in
set_option maxRecDepth 100000 in
theorem places_l (a : Option Addr) (c : Nat) (a2 : Option Addr) (c2 : Nat) (qs : List Qu) (ts : List Th) (q : Int) (al : Option Addr) (nl cl : Nat) (w : World) (hs : ScIn w a c a2 c2 qs ts) (hck : chkB qs ts q = true) (h60 : 60 < nl) :
    Calls Try.prog 4 #[.agg #[.slice a qs.length c, .slice a2 ts.length c2, .int .i64 q], .slice al nl cl] w fun y w' => y = .returned (.bool true) ∧ Below w.heap.size w w' := by
  have h1 : (60 : Int) < (nl : Int) := by omega
  have HK := (Kw.start w).box (vs := [.slice a qs.length c, .slice a2 ts.length c2, .int .i64 q]) (t := 25)
  have HC := Lib.hid (fun w hs => check_c a c a2 c2 qs ts q w hs)
  have HCK := Lib.hid (show okE (chkB qs ts q) = 0 by rw [hck]; rfl)
  have HS := Lib.hid hs
  clear hs hck
  go_enter Try.func4, Try.ntmps4
  go_wp2_with fail
  refine (sane_c _).mono ?_
  rintro y w1 ⟨rfl, hq⟩
  replace HK := HK.below hq
  clear hq
  have p_0 := HK.get 0 0 rfl rfl
  have p_1 := HK.get 0 1 rfl rfl
  have p_2 := HK.get 0 2 rfl rfl
  go_wp2_with fail
  refine (HC.out _ (HS.out.below HK.base)).mono ?_
  rintro y w2 ⟨rfl, hq⟩
  rw [HCK.out]
  have hA := (HK.below hq).base
  clear HK hq p_0 p_1 p_2 HC
  go_wp2
  go_ret
  exact ⟨rfl, hA⟩
/-- What the law's loop keeps. -/
def PRel (w : World) (n : Nat) (q : Int) (wr : World) : Prop :=
  ∃ (s : St) (a : Option Addr) (d : Nat) (b : Option Addr) (e : Nat), wr.heap[w.heap.size]? = some (.cells #[.slice a n d, .slice b s.ts.length e, .int .i64 q] 25 (0, 0)) ∧ Hid (Below w.heap.size w wr ∧ ScF (fun k => k = w.heap.size) wr s a d b e ∧ s.qs.length = n ∧ s.q = q ∧ Ok s)
/-- What lies behind an operation. -/
def QRel (w wv : World) (n : Nat) (q : Int) (s : St) (K N : Int) (row : Array Value) (sp : Value) (wx : World) : Prop :=
  ∃ (T : Nat) (s' : St) (a : Option Addr) (d : Nat) (b : Option Addr) (e : Nat), sp = .pointer (some ⟨T, 0, none⟩) ∧ Hid (wv.heap.size ≤ T ∧ Spec s K N s') ∧ wx.heap[T]? = some (.cells #[.slice a n d, .slice b s'.ts.length e, .int .i64 q] 25 (0, 0)) ∧ wx.heap[w.heap.size]? = some (.cells row 25 (0, 0)) ∧ Hid (Below wv.heap.size wv wx ∧ ScF (fun k => k = w.heap.size) wx s' a d b e)
set_option maxHeartbeats 8000000 in
set_option maxRecDepth 100000 in
theorem places_y (a : Option Addr) (c : Nat) (a2 : Option Addr) (c2 : Nat) (qs : List Qu) (ts : List Th) (q : Int) (al : Option Addr) (nl cl : Nat) (w : World) (hs : ScIn w a c a2 c2 qs ts) (hck : chkB qs ts q = true) (h60 : nl ≤ 60) (hops : OpsIn w al nl) :
    Calls Try.prog 4 #[.agg #[.slice a qs.length c, .slice a2 ts.length c2, .int .i64 q], .slice al nl cl] w fun y w' => y = .returned (.bool true) ∧ Below w.heap.size w w' := by
  have hok := ok_of_chk hck
  have hn4 : qs.length ≤ 4 := hok.n2
  have HOK := Lib.hid hok
  have hnl : ¬ ((60 : Int) < (nl : Int)) := by omega
  have HOP := Lib.hid hops
  have HK := (Kw.start w).box (vs := [.slice a qs.length c, .slice a2 ts.length c2, .int .i64 q]) (t := 25)
  have HC := Lib.hid (fun w hs => check_c a c a2 c2 qs ts q w hs)
  have HCK := Lib.hid (show okE (chkB qs ts q) = 0 by rw [hck]; rfl)
  have HS := Lib.hid hs
  clear hs hck hok hops h60
  go_enter Try.func4, Try.ntmps4
  go_wp2_with fail
  refine (sane_c _).mono ?_
  rintro y w1 ⟨rfl, hq⟩
  replace HK := HK.below hq
  clear hq
  have p_0 := HK.get 0 0 rfl rfl
  have p_1 := HK.get 0 1 rfl rfl
  have p_2 := HK.get 0 2 rfl rfl
  go_wp2_with fail
  refine (HC.out _ (HS.out.below HK.base)).mono ?_
  rintro y w2 ⟨rfl, hq⟩
  rw [HCK.out]
  replace HK := HK.below hq
  clear hq p_0 p_1 p_2 HC
  have HST : Hid (PRel w qs.length q w2) := Lib.hid ⟨⟨qs, ts, q⟩, a, c, a2, c2, HK.row 0 rfl, Lib.hid ⟨HK.base, ScF.arg (s := ⟨qs, ts, q⟩) HS.out (fun k hk => by omega) HK.base, rfl, rfl, HOK.out⟩⟩
  clear HK
  go_wp2_with fail
  go_loopw [6] (fun iv wr => ∃ i : Nat, i ≤ nl ∧ iv = .int .i64 i ∧ PRel w qs.length q wr) (fun iv _ => nl - (intOf iv).toNat)
  case atStart => exact ⟨0, by omega, rfl, HST.out⟩
  case round =>
    clear HST
    obtain ⟨i, hi, rfl, s, a, d, b, e, hrow, hH⟩ := hrel
    by_cases hlt : i < nl
    · obtain ⟨hB, hscf, hn, hsq, hok⟩ := hH.out
      obtain ⟨bo, oo, rfl, hbo, hcell⟩ : ∃ b o : Nat, al = some ⟨b, o, none⟩ ∧ b < w.heap.size ∧ ∀ i, i < nl → ∃ K N P : Int, w.cell? ⟨b, o + i * 3, none⟩ = some (.int .i64 K) ∧ w.cell? ⟨b, o + i * 3 + 1, none⟩ = some (.int .i64 N) ∧ w.cell? ⟨b, o + i * 3 + 2, none⟩ = some (.int .i64 P) := by
        rcases HOP.out with h | h
        · omega
        · exact h
      obtain ⟨K, N, P, c_0, c_1, c_2⟩ := hcell i hlt
      have i0 : (0 : Int) ≤ (i : Int) := Int.natCast_nonneg _
      have i1 : (i : Int) < (nl : Int) := by omega
      have hX := (Array.getElem?_eq_some_iff.1 hrow).1
      have hwx : w.heap.size ≤ wr.heap.size := hB.size
      have HD : Hid (∀ (X : Nat → Prop) (W : World), Below wr.heap.size wr W → (∀ k, k < wr.heap.size → X k → k = w.heap.size) → (∀ k, X k → ∃ cur : Array Value, W.heap[k]? = some (.cells cur 25 (0, 0))) → Calls Try.prog 21 #[.agg #[.slice a qs.length d, .slice b s.ts.length e, .int .i64 q], .agg #[.int .i64 K, .int .i64 N, .int .i64 P]] W (DnR X qs.length s.ts.length q s K N W)) := Lib.hid fun X W hW hXX hc => by
        have h := done_any s hok K N P X W hc a d b e (hscf.step hW.size hXX fun k hk _ => hW.block k hk)
        rw [hn, hsq] at h
        exact h
      have HSC := Lib.hid hscf
      have HB := Lib.hid hB
      have HROW := Lib.hid hrow
      have HN := Lib.hid hn
      have HSQ := Lib.hid hsq
      have HOKS := Lib.hid hok
      obtain ⟨p_0, p_1, p_2, s_0, s_1, s_2, xl⟩ := row3 hrow
      have e_0 := (hB.cell (p := ⟨bo, oo + i * 3, none⟩) hbo).trans c_0
      have e_1 := (hB.cell (p := ⟨bo, oo + i * 3 + 1, none⟩) hbo).trans c_1
      have e_2 := (hB.cell (p := ⟨bo, oo + i * 3 + 2, none⟩) hbo).trans c_2
      have hbo2 : bo < wr.heap.size := Nat.lt_of_lt_of_le hbo hB.size
      clear hB hscf hn hsq hok hH hrow hcell
      go_upto_region 7 with fail
      go_cut [7] (fun s7 wx => ∃ X : World, X = wx ∧ QRel w wr qs.length q s K N #[.slice a qs.length d, .slice b s.ts.length e, .int .i64 q] s7 X)
      case first =>
        have HSS : Hid (∀ W', Below wr.heap.size wr W' → W'.cell? ⟨w.heap.size, 0, none⟩ = some (.slice a qs.length d) ∧ W'.cell? ⟨w.heap.size, 1, none⟩ = some (.slice b s.ts.length e) ∧ W'.cell? ⟨w.heap.size, 2, none⟩ = some (.int .i64 q) ∧ W'.cell? ⟨bo, oo + i * 3, none⟩ = some (.int .i64 K) ∧ W'.cell? ⟨bo, oo + i * 3 + 1, none⟩ = some (.int .i64 N) ∧ W'.cell? ⟨bo, oo + i * 3 + 2, none⟩ = some (.int .i64 P)) := Lib.hid fun W' hb =>
          ⟨(hb.cell (p := ⟨w.heap.size, 0, none⟩) xl).trans p_0, (hb.cell (p := ⟨w.heap.size, 1, none⟩) xl).trans p_1, (hb.cell (p := ⟨w.heap.size, 2, none⟩) xl).trans p_2, (hb.cell (p := ⟨bo, oo + i * 3, none⟩) hbo2).trans e_0, (hb.cell (p := ⟨bo, oo + i * 3 + 1, none⟩) hbo2).trans e_1, (hb.cell (p := ⟨bo, oo + i * 3 + 2, none⟩) hbo2).trans e_2⟩
        clear p_0 p_1 p_2 s_0 s_1 s_2 e_0 e_1 e_2 c_0 c_1 c_2
        refine wp_region_any (by kernel_rfl) (wpAny_of_held (S := fun W' : World => W'.cell? ⟨w.heap.size, 0, none⟩ = some (.slice a qs.length d) ∧ W'.cell? ⟨w.heap.size, 1, none⟩ = some (.slice b s.ts.length e) ∧ W'.cell? ⟨w.heap.size, 2, none⟩ = some (.int .i64 q) ∧ W'.cell? ⟨bo, oo + i * 3, none⟩ = some (.int .i64 K) ∧ W'.cell? ⟨bo, oo + i * 3 + 1, none⟩ = some (.int .i64 N) ∧ W'.cell? ⟨bo, oo + i * 3 + 2, none⟩ = some (.int .i64 P)) _ _ _ _ ?_)
        change wpAnyH _ _ _ _ _ _ _ _ (World.drew _)
        have hb0 : Below wr.heap.size wr wr.drew := (Below.refl _ _).drew
        have HS0 := HSS.out _ hb0
        refine wpAnyH_take (i := 0) (oi := _) (v := .agg #[.slice a qs.length d, .slice b s.ts.length e, .int .i64 q]) rfl (by kernel_rfl) (by kernel_rfl) (by kernel_rfl) (fun _ _ _ h => h) (Or.inl ⟨by rfl, ?_⟩) HS0 ?_
        · intro W' hW'
          have h := hW'.1; have h2 := hW'.2.1; have h3 := hW'.2.2.1; go_simp
        try simp only [Act.put, List.setIfInBounds_toArray, List.set_cons_zero, List.set_cons_succ]
        refine wpAnyH_take (i := 1) (oi := _) (v := .slice (some ⟨bo, oo, none⟩) nl cl) rfl (by kernel_rfl) (by kernel_rfl) (by kernel_rfl) (fun _ _ _ h => h) (Or.inl ⟨by rfl, ?_⟩) HS0 ?_
        · intro W' hW'
          go_simp
        try simp only [Act.put, List.setIfInBounds_toArray, List.set_cons_zero, List.set_cons_succ]
        refine wpAnyH_take (i := 2) (oi := _) (v := .int .i64 i) rfl (by kernel_rfl) (by kernel_rfl) (by kernel_rfl) (fun _ _ _ h => h) (Or.inl ⟨by rfl, ?_⟩) HS0 ?_
        · intro W' hW'
          go_simp
        try simp only [Act.put, List.setIfInBounds_toArray, List.set_cons_zero, List.set_cons_succ]
        refine wpAnyH_take (i := 3) (oi := _) (v := .pointer (some ⟨bo, oo + i * 3, none⟩)) rfl (by kernel_rfl) (by kernel_rfl) (by kernel_rfl) (fun _ _ _ h => h) (Or.inl ⟨by rfl, ?_⟩) HS0 ?_
        · intro W' hW'
          go_simp
        try simp only [Act.put, List.setIfInBounds_toArray, List.set_cons_zero, List.set_cons_succ]
        refine wpAnyH_take (i := 4) (oi := _) (v := .agg #[.int .i64 K, .int .i64 N, .int .i64 P]) rfl (by kernel_rfl) (by kernel_rfl) (by kernel_rfl) (fun _ _ _ h => h) (Or.inl ⟨by rfl, ?_⟩) HS0 ?_
        · intro W' hW'
          have h := hW'.2.2.2.1; have h2 := hW'.2.2.2.2.1; have h3 := hW'.2.2.2.2.2; go_simp
        try simp only [Act.put, List.setIfInBounds_toArray, List.set_cons_zero, List.set_cons_succ]
        refine wpAnyH_ready (rs := [5, 6]) (by kernel_rfl) (by simp) ?_
        refine AllReadyH.cons (o := _) rfl (fun K' hK => ?_) (AllReadyH.cons (o := _) rfl (fun K' hK => ?_) AllReadyH.nil)
        · go_simp
          refine (HD.out (fun k => k = w.heap.size) _ hb0 (fun k _ h => h) (fun k h => by subst h; exact ⟨_, (hb0.block _ xl).trans HROW.out⟩)).mono ?_
          rintro y w3 ⟨s', a', d', b', e', hsp, rfl, hst, hsf⟩
          have hb3 := Below.tail hb0 hst
          refine hK.out _ _ (HSS.out _ hb3) (fun hHeld => ?_)
          clear hK K' hHeld hst
          try simp only [Act.put, List.setIfInBounds_toArray, List.set_cons_zero, List.set_cons_succ]
          refine wpAnyH_ready (rs := [6]) (by kernel_rfl) (by simp) ?_
          refine AllReadyH.cons (o := _) rfl (fun K' hK => ?_) AllReadyH.nil
          go_simp
          have hst : Below w3.heap.size w3 (w3.alloc (.cells #[.slice none 0 0, .slice none 0 0, .int .i64 0] 25)) := b_alloc (Below.refl _ _)
          have hb4 := Below.tail hb3 hst
          have hx4 : (w3.alloc (.cells #[.slice none 0 0, .slice none 0 0, .int .i64 0] 25)).heap[w3.heap.size]? = some (.cells #[.slice none 0 0, .slice none 0 0, .int .i64 0] 25 (0, 0)) := heap_new rfl
          have hT : wr.heap.size ≤ w3.heap.size := hb3.size
          have HSF := Lib.hid hsf
          have hbl := Lib.hid hst
          have htq : w3.heap.size = w3.heap.size := rfl
          refine hK.out _ _ (HSS.out _ hb4) (fun hHeld => ?_)
          clear hK K' hHeld hst hsf hb3
          generalize hTT : w3.heap.size = T at hx4 hT ⊢
          generalize (w3.alloc (.cells #[.slice none 0 0, .slice none 0 0, .int .i64 0] 25)) = w4 at *
          try simp only [Act.put, List.setIfInBounds_toArray, List.set_cons_zero, List.set_cons_succ]
          obtain ⟨t_0, t_1, t_2, f_0, f_1, f_2, tl⟩ := row3 hx4
          have HROW4 := Lib.hid ((hb4.block _ xl).trans HROW.out)
          have hxT : w.heap.size ≠ T := by omega
          have gT := set3_row hx4 (.slice a' qs.length d') (.slice b' s'.ts.length e') (.int .i64 q)
          have gX := (set3_far (w := w4) (x := T) (y := w.heap.size) hxT (.slice a' qs.length d') (.slice b' s'.ts.length e') (.int .i64 q)).trans HROW4.out
          have gB := set3_below hb4 (x := T) hT (.slice a' qs.length d') (.slice b' s'.ts.length e') (.int .i64 q)
          have HFIN : Hid (QRel w wr qs.length q s K N #[.slice a qs.length d, .slice b s.ts.length e, .int .i64 q] (.pointer (some ⟨T, 0, none⟩)) (((w4.setCell ⟨T, 0, none⟩ (.slice a' qs.length d')).setCell ⟨T, 1, none⟩ (.slice b' s'.ts.length e')).setCell ⟨T, 2, none⟩ (.int .i64 q))) :=
            Lib.hid ⟨T, s', a', d', b', e', rfl, Lib.hid ⟨hT, hsp⟩, gT, gX, Lib.hid ⟨gB, (HSF.out.step (by have := hbl.out.size; have := gB.size; simp [World.setCell]; omega) (fun _ _ h => h) fun k hk _ => (set3_far (by omega) _ _ _).trans (hbl.out.block k hk))⟩⟩
          have HSH := Lib.hid (HSS.out _ gB)
          clear gT gX gB hx4
          refine wpAnyH_ready (rs := [7]) (by kernel_rfl) (by simp) ?_
          refine AllReadyH.cons (o := _) rfl (fun K' hK => ?_) AllReadyH.nil
          go_simp
          refine hK.out _ _ HSH.out (fun hHeld => ?_)
          clear hK K' hHeld
          refine wpAnyH_done (by kernel_rfl) ?_ _
          go_wp2_with fail
          go_meet
          exact ⟨_, rfl, HFIN.out⟩
        · go_simp
          have hst : Below wr.heap.size wr (wr.alloc (.cells #[.slice none 0 0, .slice none 0 0, .int .i64 0] 25)).drew := (b_alloc (Below.refl _ _)).drew
          have hb3 := hst
          have hx3 : (wr.alloc (.cells #[.slice none 0 0, .slice none 0 0, .int .i64 0] 25)).drew.heap[wr.heap.size]? = some (.cells #[.slice none 0 0, .slice none 0 0, .int .i64 0] 25 (0, 0)) := heap_new (w := wr) rfl
          have hT : wr.heap.size ≤ wr.heap.size := Nat.le_refl _
          refine hK.out _ _ (HSS.out _ hb3) (fun hHeld => ?_)
          clear hK K' hHeld hst
          try simp only [Act.put, List.setIfInBounds_toArray, List.set_cons_zero, List.set_cons_succ]
          refine wpAnyH_ready (rs := [5]) (by kernel_rfl) (by simp) ?_
          refine AllReadyH.cons (o := _) rfl (fun K' hK => ?_) AllReadyH.nil
          go_simp
          refine (HD.out (fun k => k = w.heap.size ∨ k = wr.heap.size) _ hb3 (fun k hk h => by omega) (fun k h => by rcases h with h | h; (subst h; exact ⟨_, (hb3.block _ xl).trans HROW.out⟩); (subst h; exact ⟨_, hx3⟩))).mono ?_
          rintro y w4 ⟨s', a', d', b', e', hsp, rfl, hst, hsf4⟩
          have hb4 := Below.tail hb3 hst
          have hx4 := (hst.block _ (Array.getElem?_eq_some_iff.1 hx3).1).trans hx3
          refine hK.out _ _ (HSS.out _ hb4) (fun hHeld => ?_)
          clear hK K' hHeld hst hb3 hx3
          try simp only [Act.put, List.setIfInBounds_toArray, List.set_cons_zero, List.set_cons_succ]
          obtain ⟨t_0, t_1, t_2, f_0, f_1, f_2, tl⟩ := row3 hx4
          have HROW4 := Lib.hid ((hb4.block _ xl).trans HROW.out)
          have hxT : w.heap.size ≠ wr.heap.size := by omega
          have gT := set3_row hx4 (.slice a' qs.length d') (.slice b' s'.ts.length e') (.int .i64 q)
          have gX := (set3_far (w := w4) (x := wr.heap.size) (y := w.heap.size) hxT (.slice a' qs.length d') (.slice b' s'.ts.length e') (.int .i64 q)).trans HROW4.out
          have gB := set3_below hb4 (x := wr.heap.size) hT (.slice a' qs.length d') (.slice b' s'.ts.length e') (.int .i64 q)
          have HFIN : Hid (QRel w wr qs.length q s K N #[.slice a qs.length d, .slice b s.ts.length e, .int .i64 q] (.pointer (some ⟨wr.heap.size, 0, none⟩)) (((w4.setCell ⟨wr.heap.size, 0, none⟩ (.slice a' qs.length d')).setCell ⟨wr.heap.size, 1, none⟩ (.slice b' s'.ts.length e')).setCell ⟨wr.heap.size, 2, none⟩ (.int .i64 q))) :=
            Lib.hid ⟨wr.heap.size, s', a', d', b', e', rfl, Lib.hid ⟨hT, hsp⟩, gT, gX, Lib.hid ⟨gB, (hsf4.step (by simp [World.setCell]) (fun k _ h => .inl h) fun k hk h => set3_far (fun e => h (.inr e)) _ _ _)⟩⟩
          have HSH := Lib.hid (HSS.out _ gB)
          clear gT gX gB hx4
          refine wpAnyH_ready (rs := [7]) (by kernel_rfl) (by simp) ?_
          refine AllReadyH.cons (o := _) rfl (fun K' hK => ?_) AllReadyH.nil
          go_simp
          refine hK.out _ _ HSH.out (fun hHeld => ?_)
          clear hK K' hHeld
          refine wpAnyH_done (by kernel_rfl) ?_ _
          go_wp2_with fail
          go_meet
          exact ⟨_, rfl, HFIN.out⟩
      case rest =>
        obtain ⟨X, hXX, T, s', a', d', b', e', rfl, hTS, hTr, hXr, hQ⟩ := hcut
        subst hXX
        obtain ⟨hT, hsp⟩ := hTS.out
        obtain ⟨hbX, hsf⟩ := hQ.out
        obtain ⟨hok', hn', hm1, hm2, hq', hsts⟩ := hsp
        have HSPC := Lib.hid hsts
        have HOK' := Lib.hid hok'
        have HN' := Lib.hid (hn'.trans HN.out)
        have HQ' := Lib.hid (hq'.trans HSQ.out)
        have hm16 : s.ts.length ≤ 16 := HOKS.out.m2
        have HCH : Hid (Calls Try.prog 13 #[.agg #[.slice a' qs.length d', .slice b' s'.ts.length e', .int .i64 q]] X fun y w' => y = .returned (.int .i64 0) ∧ Below X.heap.size X w') := Lib.hid (by
          have h := check_c a' d' b' e' s'.qs s'.ts s'.q X hsf.at_
          rw [show chkB s'.qs s'.ts s'.q = true from chk_of_ok hok', hn', HN.out, hq', HSQ.out] at h
          exact h)
        have HSF := Lib.hid hsf
        have HBX := Lib.hid hbX
        have HXR := Lib.hid hXr
        have HTR := Lib.hid hTr
        have HTZ := Lib.hid hT
        clear p_0 p_1 p_2 s_0 s_1 s_2 e_0 e_1 e_2 hTS hQ hbX hsf hok' hn' hq' hsts hT
        obtain ⟨p_0, p_1, p_2, _, _, _, xl2⟩ := row3 hXr
        obtain ⟨q_0, q_1, q_2, _, _, _, tl2⟩ := row3 hTr
        have hw1 : IntKind.i64.wrap ((s.ts.length : Int) + 1) = (s.ts.length : Int) + 1 := IntWalk.i64_in _ (by omega)
        have k_0 : ¬ ((s'.ts.length : Int) < (s.ts.length : Int)) := by omega
        have k_1 : ¬ (((s.ts.length : Int) + 1) < (s'.ts.length : Int)) := by omega
        have k_2 : ¬ (s'.ts.length < s.ts.length) := by omega
        clear hXr hTr
        go_wp2_with fail
        refine HCH.out.mono ?_
        rintro y w5 ⟨rfl, hb5⟩
        have HX5 := Lib.hid ((hb5.block _ xl2).trans HXR.out)
        have HT5 := Lib.hid ((hb5.block _ tl2).trans HTR.out)
        have HB5 := Lib.hid (Below.tail HBX.out hb5)
        have HS5 := Lib.hid (HSC.out.below (Below.tail HBX.out hb5)).at_
        have HF5 := Lib.hid (HSF.out.below hb5)
        clear p_0 p_1 p_2 q_0 q_1 q_2 hb5 HXR HTR HCH HBX HSF HD
        obtain ⟨p_0, p_1, p_2, _, _, _, xl5⟩ := row3 HX5.out
        obtain ⟨q_0, q_1, q_2, _, _, _, tl5⟩ := row3 HT5.out
        go_wp2_with fail
        clear p_0 p_1 p_2 q_0 q_1 q_2
        have HOC := Lib.hid (show w.cell? ⟨bo, oo + i * 3, none⟩ = some (.int .i64 K) ∧ w.cell? ⟨bo, oo + i * 3 + 1, none⟩ = some (.int .i64 N) from ⟨c_0, c_1⟩)
        clear c_0 c_1 c_2
        go_loopw [8] (fun kv wx => ∃ (k : Nat) (wv : World), wv = wx ∧ k ≤ s.ts.length ∧ kv = .int .i64 k ∧ Below w5.heap.size w5 wv) (fun kv _ => s.ts.length - (intOf kv).toNat)
        case atStart => exact ⟨0, _, rfl, Nat.zero_le _, rfl, Below.refl _ _⟩
        case round =>
          obtain ⟨k, wv, hw, hk, rfl, hbv⟩ := hrel
          subst hw
          obtain ⟨p_0, p_1, p_2, s_0, s_1, s_2, xlv⟩ := row3 ((hbv.block _ xl5).trans HX5.out)
          obtain ⟨q_0, q_1, q_2, _, _, _, tlv⟩ := row3 ((hbv.block _ tl5).trans HT5.out)
          have HBV := Lib.hid hbv
          by_cases hlt2 : k < s.ts.length
          · have hkk0 : (0 : Int) ≤ (k : Int) := Int.natCast_nonneg _
            have hkk1 : (k : Int) < (s.ts.length : Int) := by omega
            have hkk2 : (k : Int) < (s'.ts.length : Int) := by omega
            obtain ⟨bb, ob, rfl, hbb, _, _, u_2⟩ := HS5.out.th (th_some hlt2)
            obtain ⟨bb', ob', rfl, hbb', _, _, v_2⟩ := HF5.out.at_.th (th_some (ts := s'.ts) (c := k) (by omega))
            replace u_2 := (hbv.cell (p := ⟨bb, ob + k * 3 + 2, none⟩) hbb).trans u_2
            replace v_2 := (hbv.cell (p := ⟨bb', ob' + k * 3 + 2, none⟩) hbb').trans v_2
            have hBw : Below w.heap.size w wv := HB.out.trans ((Below.tail HB5.out hbv).mono hwx)
            have e_0 := (hBw.cell (p := ⟨bo, oo + i * 3, none⟩) hbo).trans HOC.out.1
            have e_1 := (hBw.cell (p := ⟨bo, oo + i * 3 + 1, none⟩) hbo).trans HOC.out.2
            have hs3 := HSPC.out k hlt2
            have HRW := Lib.hid (HS5.out.qu (k := 0) (x := quOf s.qs ((0 : Nat) : Int)))
            by_cases hst : (thOf s'.ts (k : Int)).st = (thOf s.ts (k : Int)).st
            · rw [hst] at v_2
              clear hs3 hst hlt2 HRW
              generalize (thOf s.ts (k : Int)).st = st at *
              go_wp2
              go_region
              go_wp2
              go_roundw
              case rel => exact ⟨k + 1, _, rfl, by omega, by go_num, by have hB := HBV.out; first | exact hB | exact hB.drew | exact below_drewN hB _⟩
              case measure => simp [intOf]; omega
            · have hst2 : ((thOf s'.ts (k : Int)).st == (thOf s.ts (k : Int)).st) = false := by simpa using hst
              by_cases hcase : 1 ≤ K ∧ K ≤ 4 ∧ N = k
              · obtain ⟨K1, K4, rfl⟩ := hcase
                clear hs3 hst hlt2 HRW
                generalize (thOf s.ts (k : Int)).st = st at *
                generalize (thOf s'.ts (k : Int)).st = st' at *
                have hst3 : ¬ (st' = st) := by simpa using hst2
                go_wp2
                go_region
                go_wp2
                go_roundw
                case rel => exact ⟨k + 1, _, rfl, by omega, by go_num, by have hB := HBV.out; first | exact hB | exact hB.drew | exact below_drewN hB _⟩
                case measure => simp [intOf]; omega
              · have h5 : K = 5 ∧ ∃ c : Nat, N = c ∧ c < s.qs.length ∧ ((quOf s.qs (c : Int)).run = k ∨ (quOf s'.qs (c : Int)).run = k) := by
                  rcases hs3 with h | h | h
                  · exact absurd h hst
                  · exact absurd h hcase
                  · exact h
                obtain ⟨rfl, cc, rfl, hcl, hrun⟩ := h5
                have hcl2 : cc < s'.qs.length := by rw [HN'.out, ← HN.out]; exact hcl
                obtain ⟨bq, oq, rfl, hbq, r_0, _⟩ := HS5.out.qu (qu_some hcl)
                obtain ⟨bq', oq', rfl, hbq', r_1, _⟩ := HF5.out.at_.qu (qu_some hcl2)
                replace r_0 := (hbv.cell (p := ⟨bq, oq + cc * 3, none⟩) hbq).trans r_0
                replace r_1 := (hbv.cell (p := ⟨bq', oq' + cc * 3, none⟩) hbq').trans r_1
                have cc0 : (0 : Int) ≤ (cc : Int) := Int.natCast_nonneg _
                have cc1 : (cc : Int) < (qs.length : Int) := by have := HN.out; omega
                have g41 : ((5 : Int) ≤ 4) = False := by simp
                clear hs3 hst hlt2 HRW hcase hcl hcl2
                generalize (thOf s.ts (k : Int)).st = st at *
                generalize (thOf s'.ts (k : Int)).st = st' at *
                have hst3 : ¬ (st' = st) := by simpa using hst2
                generalize (quOf s.qs (cc : Int)).run = ra at *
                generalize (quOf s'.qs (cc : Int)).run = rb at *
                by_cases hra : ra = k
                · rw [hra] at r_0
                  clear hrun hra
                  go_wp2
                  go_region
                  go_wp2
                  go_region
                  go_wp2
                  go_roundw
                  case rel => exact ⟨k + 1, _, rfl, by omega, by go_num, by have hB := HBV.out; first | exact hB | exact hB.drew | exact hB.drew.drew | exact below_drewN hB _⟩
                  case measure => simp [intOf]; omega
                · have hrb : rb = k := by rcases hrun with h | h; (exact absurd h hra); (exact h)
                  rw [hrb] at r_1
                  have hra1 : (ra == (k : Int)) = false := by simpa using hra
                  have hra2 : (ra != (k : Int)) = true := by rw [bne, hra1]; rfl
                  clear hrun hrb
                  go_wp2
                  go_region
                  go_wp2
                  go_region
                  go_wp2
                  go_roundw
                  case rel => exact ⟨k + 1, _, rfl, by omega, by go_num, by have hB := HBV.out; first | exact hB | exact hB.drew | exact hB.drew.drew | exact below_drewN hB _⟩
                  case measure => simp [intOf]; omega
          · have hXv := (hbv.block _ xl5).trans HX5.out
            have hUX := set3_row hXv (.slice a' qs.length d') (.slice b' s'.ts.length e') (.int .i64 q)
            have hBw : Below w.heap.size w wv := HB.out.trans ((Below.tail HB5.out hbv).mono hwx)
            have HU := Lib.hid (And.intro (set3_below hBw (x := w.heap.size) (Nat.le_refl _) (.slice a' qs.length d') (.slice b' s'.ts.length e') (.int .i64 q)) (And.intro ((HF5.out.below hbv).step (X' := fun k => k = w.heap.size) (w' := (((wv.setCell ⟨w.heap.size, 0, none⟩ (.slice a' qs.length d')).setCell ⟨w.heap.size, 1, none⟩ (.slice b' s'.ts.length e')).setCell ⟨w.heap.size, 2, none⟩ (.int .i64 q))) (by simp [World.setCell]) (fun _ _ h => h) fun k hk h => set3_far h _ _ _) (And.intro HN'.out (And.intro HQ'.out HOK'.out))))
            have HUX := Lib.hid hUX
            have hlt3 : ¬ ((k : Int) < (s.ts.length : Int)) := by omega
            have hlt4 : ((k : Int) < (s.ts.length : Int)) = False := eq_false hlt3
            clear hXv hUX hBw hbv
            go_wp2
            go_roundw
            case rel => exact ⟨i + 1, by omega, by go_num, s', a', d', b', e', HUX.out, HU⟩
            case measure => simp [intOf]; omega
    · obtain rfl : i = nl := by omega
      have HA := Lib.hid hH.out.1
      clear hrow hH
      go_wp2
      go_ret
      exact ⟨rfl, HA.out⟩
theorem places_walk (a : Option Addr) (c : Nat) (a2 : Option Addr) (c2 : Nat) (qs : List Qu) (ts : List Th) (q : Int) (al : Option Addr) (nl cl : Nat) (w : World) (hs : ScIn w a c a2 c2 qs ts) (hops : OpsIn w al nl) :
    Calls Try.prog 4 #[.agg #[.slice a qs.length c, .slice a2 ts.length c2, .int .i64 q], .slice al nl cl] w fun y w' => y = .returned (.bool true) ∧ Below w.heap.size w w' := by
  cases hck : chkB qs ts q with
  | false => exact places_n a c a2 c2 qs ts q al nl cl w hs hck
  | true =>
    by_cases h60 : 60 < nl
    · exact places_l a c a2 c2 qs ts q al nl cl w hs hck h60
    · exact places_y a c a2 c2 qs ts q al nl cl w hs hck (by omega) hops
end Go.Proofs.Ytggikbcgijmhbaa
