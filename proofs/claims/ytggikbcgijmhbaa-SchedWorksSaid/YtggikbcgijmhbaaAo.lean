/- WHAT IS PROVED: the law SchedWorks, walked. -/
import Derived.Test.YtggikbcgijmhbaaAc
import Derived.Test.YtggikbcgijmhbaaAn
import Derived.Test.YtggikbcgijmhbaaAm
set_option linter.unusedSimpArgs false
set_option linter.unusedVariables false
namespace Go.Proofs.Ytggikbcgijmhbaa
open Go Go.RowKit Go.QrBits Go.QrMem
attribute [local go_sem] reg_cell reg_frozen reg_setCell reg_lt reg_lt_add reg_drew reg_of_drew
theorem steal_at (s : St) (n m : Nat) (q : Int) (c : Nat) (hn : s.qs.length = n) (hm : s.ts.length = m) (hq : s.q = q) (hok : Ok s) (hc : c < s.qs.length) (a : Option Addr) (d : Nat) (b : Option Addr) (e : Nat) (w : World) (hs : ScIn w a d b e s.qs s.ts) :
    Calls Try.prog 48 #[.agg #[.slice a n d, .slice b m e, .int .i64 q], .int .i64 c] w (RtAt n m q (stealM s c) (.int .i64 (stealN s c)) w) := by
  have h := steal_y a d b e s.qs s.ts s.q c w hs (chk_of_ok hok) hc
  subst hn hm hq
  exact h.mono fun y w' h => RtAt.of h (steal_n s c) (steal_m s c) (steal_q s c)
/-- The two rounds of the law: stealing, switching. -/
def phM (ph : Nat) (s : St) (c : Nat) : St := if ph = 0 then stealM s c else switchM s c
def PhP (ph n : Nat) (s : St) (j : Nat) : Prop := if ph = 0 then Fed s j else Fed s n ∧ Idl s j
theorem ph_next {ph n : Nat} {s : St} {c : Nat} (hok : Ok s) (hn : s.qs.length = n) (hc : c < n) (h : PhP ph n s c) : Ok (phM ph s c) ∧ (phM ph s c).qs.length = n ∧ (phM ph s c).ts.length = s.ts.length ∧ (phM ph s c).q = s.q ∧ PhP ph n (phM ph s c) (c + 1) := by
  subst hn
  unfold phM PhP at *
  split
  · rename_i h0
    rw [if_pos h0] at h
    exact ⟨steal_ok hok hc, steal_n _ _, steal_m _ _, steal_q _ _, steal_fed hok hc h⟩
  · rename_i h0
    rw [if_neg h0] at h
    exact ⟨switch_ok hok hc, switchM_n _ _, switchM_m _ _, switchM_q _ _, switch_fed hok hc h.1, switch_idl hok hc h.2⟩
theorem done_at (ph : Nat) (hph : ph < 2) (s : St) (n m : Nat) (q : Int) (c : Nat) (hn : s.qs.length = n) (hm : s.ts.length = m) (hq : s.q = q) (hok : Ok s) (hc : c < n) (a : Option Addr) (d : Nat) (b : Option Addr) (e : Nat) (w : World) (hs : ScIn w a d b e s.qs s.ts) :
    Calls Try.prog 21 #[.agg #[.slice a n d, .slice b m e, .int .i64 q], .agg #[.int .i64 (8 - 3 * (ph : Int)), .int .i64 c, .int .i64 0]] w (DnAt n m q (phM ph s c) w) := by
  match ph, hph with
  | 0, _ => exact done8_y a n d b m e q n m q (stealM s c) _ c 0 w fun W hW => steal_at s n m q c hn hm hq hok (by omega) a d b e W (hs.below hW)
  | 1, _ => exact done5_y a n d b m e q n m q (switchM s c) _ c 0 w fun W hW => switch_at s n m q c hn hm hq hok (by omega) a d b e W (hs.below hW)
/-- Is one of the first j processors idle; has one a ready thread? -/
def idB (s : St) : Nat → Bool
  | 0 => false
  | j + 1 => idB s j || (quOf s.qs (j : Int)).run == -1
def moB (s : St) : Nat → Bool
  | 0 => false
  | j + 1 => moB s j || decide (0 < (quOf s.qs (j : Int)).ready.length)
theorem idB_ex {s : St} : ∀ {j : Nat}, idB s j = true → ∃ c, c < j ∧ (quOf s.qs (c : Int)).run = -1
  | 0, h => by simp [idB] at h
  | j + 1, h => by
    simp only [idB, Bool.or_eq_true, beq_iff_eq] at h
    rcases h with h | h
    · obtain ⟨c, h1, h2⟩ := idB_ex h; exact ⟨c, by omega, h2⟩
    · exact ⟨j, by omega, h⟩
theorem moB_ex {s : St} : ∀ {j : Nat}, moB s j = true → ∃ c, c < j ∧ (quOf s.qs (c : Int)).ready ≠ []
  | 0, h => by simp [moB] at h
  | j + 1, h => by
    simp only [moB, Bool.or_eq_true, decide_eq_true_eq] at h
    rcases h with h | h
    · obtain ⟨c, h1, h2⟩ := moB_ex h; exact ⟨c, by omega, h2⟩
    · exact ⟨j, by omega, fun e => by rw [e] at h; simp at h⟩
theorem works_end {s : St} {n : Nat} (hn : s.qs.length = n) (h : PhP 1 n s n) : (!idB s n || !moB s n) = true := by
  subst hn
  unfold PhP at h
  rw [if_neg (by decide)] at h
  cases h1 : idB s s.qs.length with
  | false => rfl
  | true =>
    cases h2 : moB s s.qs.length with
    | false => rfl
    | true =>
      obtain ⟨c, hc, hr⟩ := idB_ex h1
      obtain ⟨d, hd, hne⟩ := moB_ex h2
      exact absurd (works_ok h.1 h.2 hc hd hr) hne
/-- What the loops keep. -/
def KRel (w : World) (n m : Nat) (q : Int) (P : St → Prop) (wr : World) : Prop :=
  ∃ (s : St) (a : Option Addr) (d : Nat) (b : Option Addr) (e : Nat), wr.heap[w.heap.size]? = some (.cells #[.slice a n d, .slice b m e, .int .i64 q] 25 (0, 0)) ∧ Hid (Below w.heap.size w wr ∧ ScIn wr a d b e s.qs s.ts ∧ s.qs.length = n ∧ s.ts.length = m ∧ s.q = q ∧ Ok s ∧ P s)
set_option maxHeartbeats 8000000 in
set_option maxRecDepth 100000 in
theorem works_n (a : Option Addr) (c : Nat) (a2 : Option Addr) (c2 : Nat) (qs : List Qu) (ts : List Th) (q : Int) (w : World) (hs : ScIn w a c a2 c2 qs ts) (hck : chkB qs ts q = false) :
    Calls Try.prog 9 #[.agg #[.slice a qs.length c, .slice a2 ts.length c2, .int .i64 q]] w fun y w' => y = .returned (.bool true) ∧ Below w.heap.size w w' := by
  have HK := (Kw.start w).box (vs := [.slice a qs.length c, .slice a2 ts.length c2, .int .i64 q]) (t := 25)
  have HC := Lib.hid (fun w hs => check_c a c a2 c2 qs ts q w hs)
  have HCK := Lib.hid (show okE (chkB qs ts q) = 50 by rw [hck]; rfl)
  have HS := Lib.hid hs
  clear hs hck
  go_enter Try.func9, Try.ntmps9
  go_wp2_with fail
  refine (sane_c _).mono ?_
  rintro y w1 ⟨rfl, hq⟩
  replace HK := HK.below hq
  clear hq
  have p_0 := HK.get 0 0 rfl rfl
  have p_1 := HK.get 0 1 rfl rfl
  have p_2 := HK.get 0 2 rfl rfl
  go_wp2_with fail
  refine (HC.out _ (HS.out.below HK.base)).mono ?_
  rintro y w2 ⟨rfl, hq⟩
  rw [HCK.out]
  have hA := (HK.below hq).base
  clear HK hq p_0 p_1 p_2 HC
  go_wp2
  go_ret
  exact ⟨rfl, hA⟩
set_option maxHeartbeats 8000000 in
set_option maxRecDepth 100000 in
theorem works_y (a : Option Addr) (c : Nat) (a2 : Option Addr) (c2 : Nat) (qs : List Qu) (ts : List Th) (q : Int) (w : World) (hs : ScIn w a c a2 c2 qs ts) (hck : chkB qs ts q = true) :
    Calls Try.prog 9 #[.agg #[.slice a qs.length c, .slice a2 ts.length c2, .int .i64 q]] w fun y w' => y = .returned (.bool true) ∧ Below w.heap.size w w' := by
  have HK := (Kw.start w).box (vs := [.slice a qs.length c, .slice a2 ts.length c2, .int .i64 q]) (t := 25)
  have HC := Lib.hid (fun w hs => check_c a c a2 c2 qs ts q w hs)
  have HCK := Lib.hid (show okE (chkB qs ts q) = 0 by rw [hck]; rfl)
  have HS := Lib.hid hs
  have hok := ok_of_chk hck
  have HOK := Lib.hid hok
  have hn4 : qs.length ≤ 4 := hok.n2
  have hm16 : ts.length ≤ 16 := hok.m2
  clear hs hck hok
  go_enter Try.func9, Try.ntmps9
  go_wp2_with fail
  refine (sane_c _).mono ?_
  rintro y w1 ⟨rfl, hq⟩
  replace HK := HK.below hq
  clear hq
  have p_0 := HK.get 0 0 rfl rfl
  have p_1 := HK.get 0 1 rfl rfl
  have p_2 := HK.get 0 2 rfl rfl
  go_wp2_with fail
  refine (HC.out _ (HS.out.below HK.base)).mono ?_
  rintro y w2 ⟨rfl, hq⟩
  rw [HCK.out]
  replace HK := HK.below hq
  clear hq p_0 p_1 p_2 HC
  have HST : Hid (KRel w qs.length ts.length q (fun s => PhP 0 qs.length s 0) w2) := Lib.hid ⟨⟨qs, ts, q⟩, a, c, a2, c2, HK.row 0 rfl, Lib.hid ⟨HK.base, HS.out.below HK.base, rfl, rfl, rfl, HOK.out, fun c' hc' => absurd hc' (Nat.not_lt_zero c')⟩⟩
  clear HK
  go_wp2_with fail
  go_loopw [4] (fun kv wr => ∃ ph : Nat, ph ≤ 2 ∧ kv = .int .i64 (8 - 3 * (ph : Int)) ∧ KRel w qs.length ts.length q (fun s => PhP (ph - 1) qs.length s (if ph = 0 then 0 else qs.length)) wr) (fun kv _ => (intOf kv).toNat)
  case atStart => exact ⟨0, by omega, rfl, HST.out⟩
  case round =>
    clear HST
    obtain ⟨ph, hph, rfl, hrel2⟩ := hrel
    by_cases h2 : ph < 2
    · obtain ⟨kv, hkv⟩ : ∃ kv : Int, kv = 8 - 3 * (ph : Int) := ⟨_, rfl⟩
      have hk5 : 5 ≤ kv := by omega
      have hw3 : IntKind.i64.wrap (kv - 3) = kv - 3 := IntWalk.i64_in _ (by omega)
      rw [← hkv]
      have HKV := Lib.hid hkv
      obtain ⟨s, a, d, b, e, hrow, hH⟩ := hrel2
      have HST : Hid (KRel w qs.length ts.length q (fun s => PhP ph qs.length s 0) wr) := Lib.hid ⟨s, a, d, b, e, hrow, Lib.hid (by
        obtain ⟨x1, x2, x3, x4, x5, x6, x7⟩ := hH.out
        refine ⟨x1, x2, x3, x4, x5, x6, ?_⟩
        have : ph = 0 ∨ ph = 1 := by omega
        rcases this with rfl | rfl
        · exact fun c' hc' => absurd hc' (Nat.not_lt_zero c')
        · exact ⟨x7, fun c' hc' => absurd hc' (Nat.not_lt_zero c')⟩)⟩
      clear hrow hH hkv
      go_wp2_with fail
      go_loopw [5] (fun cv wr => ∃ j : Nat, j ≤ qs.length ∧ cv = .int .i64 j ∧ KRel w qs.length ts.length q (fun s => PhP ph qs.length s j) wr) (fun cv _ => qs.length - (intOf cv).toNat)
      case atStart => exact ⟨0, by omega, rfl, HST.out⟩
      case round =>
        clear HST
        obtain ⟨j, hj, rfl, s, a, d, b, e, hrow, hH⟩ := hrel
        obtain ⟨hB, hsc, hn, hm, hsq, hok, hP⟩ := hH.out
        obtain ⟨p_0, p_1, p_2, s_0, s_1, s_2, xl⟩ := row3 hrow
        have HSC := Lib.hid hsc
        have HB := Lib.hid hB
        have HROW := Lib.hid hrow
        have j0 : (0 : Int) ≤ (j : Int) := Int.natCast_nonneg _
        by_cases hlt : j < qs.length
        · have HD := Lib.hid (done_at ph h2 s qs.length ts.length q j hn hm hsq hok hlt)
          rw [← HKV.out] at HD
          have HNX := Lib.hid (ph_next hok hn hlt hP)
          have HLM := Lib.hid hm
          have HLQ := Lib.hid hsq
          have j1 : (j : Int) < (qs.length : Int) := by omega
          clear hB hsc hn hm hsq hok hP hH hrow
          go_wp2_with fail
          refine (HD.out _ _ _ _ _ HSC.out).mono ?_
          rintro y w3 ⟨g, d1, b1, e1, rfl, hb, ho⟩
          have hV := b_alloc (o := .cells #[.slice (some ⟨g, 0, none⟩) qs.length d1, .slice b1 ts.length e1, .int .i64 q] 25) (Below.refl w3.heap.size w3)
          have hT := heap_alloc_new w3 (.cells #[.slice (some ⟨g, 0, none⟩) qs.length d1, .slice b1 ts.length e1, .int .i64 q] 25)
          have hbV := Below.tail hb hV
          have HO := Lib.hid (ho.below hV)
          clear p_0 p_1 p_2 s_0 s_1 s_2 hb ho hV HD
          go_upto_region 11 with fail
          generalize hTT : w3.heap.size = T at *
          generalize (w3.alloc (.cells #[.slice (some ⟨g, 0, none⟩) qs.length d1, .slice b1 ts.length e1, .int .i64 q] 25)) = V at *
          obtain ⟨q_0, q_1, q_2, z_0, z_1, z_2, Tl2⟩ := row3 hT
          have hX3 := (hbV.block _ xl).trans HROW.out
          obtain ⟨p_0, p_1, p_2, s_0, s_1, s_2, xl2⟩ := row3 hX3
          have hUX := set3_row hX3 (.slice (some ⟨g, 0, none⟩) qs.length d1) (.slice b1 ts.length e1) (.int .i64 q)
          have hUO := (HO.out.set3 (x := w.heap.size) xl (.slice (some ⟨g, 0, none⟩) qs.length d1) (.slice b1 ts.length e1) (.int .i64 q))
          have HU := Lib.hid (And.intro (set3_below (HB.out.trans (hbV.mono (Nat.le_of_lt xl))) (Nat.le_refl _) (.slice (some ⟨g, 0, none⟩) qs.length d1) (.slice b1 ts.length e1) (.int .i64 q)) (And.intro (hUO.scIn HNX.out.1) (And.intro HNX.out.2.1 (And.intro (HNX.out.2.2.1.trans HLM.out) (And.intro (HNX.out.2.2.2.1.trans HLQ.out) (And.intro HNX.out.1 HNX.out.2.2.2.2))))))
          have HUX := Lib.hid hUX
          clear hUX hUO hX3 hbV hT HO HROW HSC HB
          go_wp2
          go_roundw
          case rel => exact ⟨j + 1, by omega, by go_num, phM ph s j, _, d1, b1, e1, HUX.out, HU⟩
          case measure => simp [intOf]; omega
        · obtain rfl : j = qs.length := by omega
          have HRR : Hid (KRel w qs.length ts.length q (fun s => PhP (ph + 1 - 1) qs.length s (if ph + 1 = 0 then 0 else qs.length)) wr) := Lib.hid ⟨s, a, d, b, e, hrow, Lib.hid (by
            refine ⟨hB, hsc, hn, hm, hsq, hok, ?_⟩
            rw [if_neg (by omega)]; exact hP)⟩
          clear hB hsc hn hm hsq hok hP hH hrow
          go_wp2
          go_roundw
          case rel => exact ⟨ph + 1, by omega, by have := HKV.out; rw [this]; go_num, HRR.out⟩
          case measure => have := HKV.out; simp [intOf]; omega
    · obtain rfl : ph = 2 := by omega
      rw [show (8 - 3 * ((2 : Nat) : Int)) = 2 from rfl]
      obtain ⟨s, a, d, b, e, hrow, hH⟩ := hrel2
      obtain ⟨hB, hsc, hn, hm, hsq, hok, hP⟩ := hH.out
      have HEND := Lib.hid (works_end hn hP)
      obtain ⟨p_0, p_1, p_2, _, _, _, xl⟩ := row3 hrow
      have HQ := Lib.hid (fun (k : Nat) (hk : k < s.qs.length) => hsc.qu (qu_some hk))
      have HB := Lib.hid hB
      have HN := Lib.hid hn
      have hl16 := Lib.hid (fun k hk => short16 hok k _ (qu_some hk))
      clear hB hsc hn hm hsq hok hP hH hrow
      go_wp2_with fail
      go_loopw [7, 8, 9] (fun iv mv cv wx => ∃ j : Nat, j ≤ qs.length ∧ cv = .int .i64 j ∧ iv = .bool (idB s j) ∧ mv = .bool (moB s j) ∧ wx = wr) (fun _ _ cv _ => qs.length - (intOf cv).toNat)
      case atStart => exact ⟨0, by omega, rfl, rfl, rfl, rfl⟩
      case round =>
        obtain ⟨j, hj, rfl, rfl, rfl, rfl⟩ := hrel
        have j0 : (0 : Int) ≤ (j : Int) := Int.natCast_nonneg _
        by_cases hlt : j < qs.length
        · obtain ⟨bq, oq, rfl, hbq, c_0, _, ar, cr, c_2, _, _⟩ := HQ.out j (by rw [HN.out]; exact hlt)
          have j1 : (j : Int) < (qs.length : Int) := by omega
          have hl := hl16.out j (by rw [HN.out]; exact hlt)
          have hid : idB s (j + 1) = (idB s j || (quOf s.qs (j : Int)).run == -1) := rfl
          have hmo : moB s (j + 1) = (moB s j || decide (0 < (quOf s.qs (j : Int)).ready.length)) := rfl
          have HID := Lib.hid hid
          have HMO := Lib.hid hmo
          generalize (quOf s.qs (j : Int)).run = ru at *
          generalize (quOf s.qs (j : Int)).ready.length = rl at *
          clear hid hmo hlt
          generalize idB s j = bi at *
          generalize moB s j = bm at *
          cases bi with
          | true =>
            cases bm with
            | true =>
              go_wp2
              go_roundw
              case rel => exact ⟨j + 1, by omega, by go_num, by rw [HID.out]; simp, by rw [HMO.out]; simp, by first | rfl | trivial⟩
              case measure => simp [intOf]; omega
            | false =>
              go_wp2
              go_roundw
              case rel => exact ⟨j + 1, by omega, by go_num, by rw [HID.out]; simp, by rw [HMO.out]; simp, by first | rfl | trivial⟩
              case measure => simp [intOf]; omega
          | false =>
            cases bm with
            | true =>
              go_wp2
              go_roundw
              case rel => exact ⟨j + 1, by omega, by go_num, by rw [HID.out]; simp, by rw [HMO.out]; simp, by first | rfl | trivial⟩
              case measure => simp [intOf]; omega
            | false =>
              go_wp2
              go_roundw
              case rel => exact ⟨j + 1, by omega, by go_num, by rw [HID.out]; simp, by rw [HMO.out]; simp, by first | rfl | trivial⟩
              case measure => simp [intOf]; omega
        · obtain rfl : j = qs.length := by omega
          have hend := HEND.out
          generalize idB s qs.length = bi at *
          generalize moB s qs.length = bm at *
          clear HEND HQ HN hl16
          cases bi with
          | true =>
            cases bm with
            | true => simp at hend
            | false =>
              go_wp2
              go_ret
              exact ⟨rfl, HB.out⟩
          | false =>
            go_wp2
            go_ret
            exact ⟨rfl, HB.out⟩
theorem works_walk (a : Option Addr) (c : Nat) (a2 : Option Addr) (c2 : Nat) (qs : List Qu) (ts : List Th) (q : Int) (w : World) (hs : ScIn w a c a2 c2 qs ts) :
    Calls Try.prog 9 #[.agg #[.slice a qs.length c, .slice a2 ts.length c2, .int .i64 q]] w fun y w' => y = .returned (.bool true) ∧ Below w.heap.size w w' := by
  cases hck : chkB qs ts q with
  | false => exact works_n a c a2 c2 qs ts q w hs hck
  | true => exact works_y a c a2 c2 qs ts q w hs hck
end Go.Proofs.Ytggikbcgijmhbaa
