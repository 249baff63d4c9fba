/- WHAT IS PROVED: taplinelaw03.MemHalves walked, over contracts of mem.Check, mem.Load, mem.Store, mem.Same (letters): size 4. CONDITIONS: those contracts. -/
import Derived.Test.YtdbcbmdekdfdoaaMha
import Derived.Deep.RegionHeld3
import Derived.Deep.Cut
import Derived.Deep.CutRange
import Derived.Deep.DeepCutAuto
namespace Go.Proofs.Ytdbcbmdekdfdoaa
open Go Go.RowKit Go.QrBits Go.QrMem

attribute [local go_sem] Oper.semAt_some sh_8 sh_16 sh_32
set_option linter.unusedSimpArgs false in
set_option linter.unusedVariables false in
set_option maxHeartbeats 4000000 in
set_option maxRecDepth 100000 in
theorem mh_w4 (a : Option Addr) (c : Nat) (a2 : Option Addr) (c2 : Nat) (P B : List Int) (t v : Int) (gx : Bool) (w : World) (hS : SpIn w a c a2 c2 P B) (r1 r2 r3 kf xf kg xg ki xi k4 x4 : Int) (Bt Bu : List Int) (hck : CkG P B 0) (hr : RcG 4 false 0) (hl1 : LdH a c a2 c2 P B t 4 r1 kf xf) (hl2 : LdH a c a2 c2 P B t 2 r2 kg xg) (hl3 : LdH a c a2 c2 P B (wrap64 (t + 2)) 2 r3 ki xi) (hway : LdWay kf kg ki (r1 = wrap64 (r2 + wrap64 (r3 * 65536)))) (hst : (StF P B t 4 false v k4 x4 ∧ (k4 != 0) = true) ∨ (StY P B t 4 false v Bt ∧ StY P B t 2 false v Bu ∧ StY P Bu (wrap64 (t + 2)) 2 false (v / 65536) Bt)) (hsm : SmY P Bt Bt) :
    Calls Try.prog 10 #[.agg #[.slice a P.length c, .slice a2 B.length c2], .agg #[.int .i64 t, .int .i64 4, .bool gx, .int .i64 v]] w fun e w' => e = .returned (.bool true) ∧ Below w.heap.size w w' := by
  have hw' := Lib.hid hway
  clear hway
  have hst' := Lib.hid hst
  clear hst
  have hS0 := Lib.hid hS
  clear hS
  go_enter Try.func10, Try.ntmps10
  have HK := Kw.start w
  go_wp2_with fail
  replace HK := HK.box (vs := [.slice a P.length c, .slice a2 B.length c2]) (t := 25)
  replace HK := HK.box (vs := [.int .i64 t, .int .i64 4, .bool gx, .int .i64 v]) (t := 66)
  simp only [World.size_alloc] at HK
  refine (sane_c _).mono ?_
  rintro e w11 ⟨rfl, hq⟩
  replace HK := HK.below hq
  clear hq
  have z1 := HK.lt 0 rfl
  have x_0 := HK.get 0 0 rfl rfl
  have x_f0 := HK.fz 0 0 rfl
  have x_1 := HK.get 0 1 rfl rfl
  have x_f1 := HK.fz 0 1 rfl
  have x_2 := HK.get 0 2 rfl rfl
  have x_f2 := HK.fz 0 2 rfl
  have x_3 := HK.get 0 3 rfl rfl
  have x_f3 := HK.fz 0 3 rfl
  have x_s := HK.lt 0 rfl
  have p_0 := HK.get 1 0 rfl rfl
  have p_1 := HK.get 1 1 rfl rfl
  have p_s := HK.lt 1 rfl
  go_wp2_with fail
  clear x_0 x_f0 x_1 x_f1 x_2 x_f2 x_3 x_f3 x_s p_0 p_1 p_s
  replace HK := HK.put (j := 2) (v := .bool false) (by omega) (by
    intro f hf
    simp only [List.mem_cons, List.not_mem_nil, or_false] at hf
    subst hf
    dsimp only; omega)
  simp only [List.set] at HK
  refine (hck _ _ _ _ _ (hS0.out.below HK.base)).mono ?_
  rintro e w12 ⟨rfl, hq⟩
  replace HK := HK.below hq
  clear hq
  have z9 := HK.lt 0 rfl
  have x_0 := HK.get 0 0 rfl rfl
  have x_1 := HK.get 0 1 rfl rfl
  have x_2 := HK.get 0 2 rfl rfl
  have x_3 := HK.get 0 3 rfl rfl
  have x_s := HK.lt 0 rfl
  have p_0 := HK.get 1 0 rfl rfl
  have p_1 := HK.get 1 1 rfl rfl
  have p_s := HK.lt 1 rfl
  go_wp2_with fail
  clear x_0 x_1 x_2 x_3 x_s p_0 p_1 p_s
  refine (hr _).mono ?_
  rintro e w13 ⟨rfl, hq⟩
  replace HK := HK.below hq
  clear hq
  have z2 := HK.lt 0 rfl
  have x_0 := HK.get 0 0 rfl rfl
  have x_1 := HK.get 0 1 rfl rfl
  have x_2 := HK.get 0 2 rfl rfl
  have x_3 := HK.get 0 3 rfl rfl
  have x_s := HK.lt 0 rfl
  have p_0 := HK.get 1 0 rfl rfl
  have p_1 := HK.get 1 1 rfl rfl
  have p_s := HK.lt 1 rfl
  go_wp2_with fail
  replace HK := HK.box (vs := [.int .i64 2, .bool false]) (t := 64)
  clear x_0 x_1 x_2 x_3 x_s p_0 p_1 p_s
  refine (hl1 _ (hS0.out.below HK.base)).mono ?_
  rintro e w14 ⟨rfl, hq⟩
  replace HK := HK.below hq
  clear hq
  have z3 := HK.lt 0 rfl
  have h_0 := HK.get 0 0 rfl rfl
  have h_1 := HK.get 0 1 rfl rfl
  have h_s := HK.lt 0 rfl
  have x_0 := HK.get 1 0 rfl rfl
  have x_1 := HK.get 1 1 rfl rfl
  have x_2 := HK.get 1 2 rfl rfl
  have x_3 := HK.get 1 3 rfl rfl
  have x_s := HK.lt 1 rfl
  have p_0 := HK.get 2 0 rfl rfl
  have p_1 := HK.get 2 1 rfl rfl
  have p_s := HK.lt 2 rfl
  go_wp2_with fail
  replace HK := HK.box (vs := [.int .i64 kf, .int .i64 xf]) (t := 34)
  clear h_0 h_1 h_s x_0 x_1 x_2 x_3 x_s p_0 p_1 p_s
  refine (hl2 _ (hS0.out.below HK.base)).mono ?_
  rintro e w15 ⟨rfl, hq⟩
  replace HK := HK.below hq
  clear hq
  have z4 := HK.lt 0 rfl
  have h_0 := HK.get 1 0 rfl rfl
  have h_1 := HK.get 1 1 rfl rfl
  have h_s := HK.lt 1 rfl
  have x_0 := HK.get 2 0 rfl rfl
  have x_1 := HK.get 2 1 rfl rfl
  have x_2 := HK.get 2 2 rfl rfl
  have x_3 := HK.get 2 3 rfl rfl
  have x_s := HK.lt 2 rfl
  have p_0 := HK.get 3 0 rfl rfl
  have p_1 := HK.get 3 1 rfl rfl
  have p_s := HK.lt 3 rfl
  go_wp2_with fail
  replace HK := HK.box (vs := [.int .i64 kg, .int .i64 xg]) (t := 34)
  clear h_0 h_1 h_s x_0 x_1 x_2 x_3 x_s p_0 p_1 p_s
  refine (hl3 _ (hS0.out.below HK.base)).mono ?_
  rintro e w16 ⟨rfl, hq⟩
  replace HK := HK.below hq
  clear hq
  have z5 := HK.lt 0 rfl
  have h_0 := HK.get 2 0 rfl rfl
  have h_1 := HK.get 2 1 rfl rfl
  have h_s := HK.lt 2 rfl
  have x_0 := HK.get 3 0 rfl rfl
  have x_1 := HK.get 3 1 rfl rfl
  have x_2 := HK.get 3 2 rfl rfl
  have x_3 := HK.get 3 3 rfl rfl
  have x_s := HK.lt 3 rfl
  have p_0 := HK.get 4 0 rfl rfl
  have p_1 := HK.get 4 1 rfl rfl
  have p_s := HK.lt 4 rfl
  go_upto_region 10 with fail
  replace HK := HK.box (vs := [.int .i64 ki, .int .i64 xi]) (t := 34)
  clear h_0 h_1 h_s x_0 x_1 x_2 x_3 x_s p_0 p_1 p_s
  go_cut [109] (fun s1 wx => s1 = .bool false ∧ ∃ (wv : World), wv = wx ∧ Kw [(w16.heap.size, [.int .i64 ki, .int .i64 xi], 34), (w15.heap.size, [.int .i64 kg, .int .i64 xg], 34), (w14.heap.size, [.int .i64 kf, .int .i64 xf], 34), (w13.heap.size, [.int .i64 2, .bool false], 64), (w.heap.size + 1, [.int .i64 t, .int .i64 4, .bool false, .int .i64 v], 66), (w.heap.size, [.slice a P.length c, .slice a2 B.length c2], 25)] w wv)
  case first =>
    have i_0 := HK.get 0 0 rfl rfl
    have i_1 := HK.get 0 1 rfl rfl
    have i_s := HK.lt 0 rfl
    have g_0 := HK.get 1 0 rfl rfl
    have g_1 := HK.get 1 1 rfl rfl
    have g_s := HK.lt 1 rfl
    have f_0 := HK.get 2 0 rfl rfl
    have f_1 := HK.get 2 1 rfl rfl
    have f_s := HK.lt 2 rfl
    have h_0 := HK.get 3 0 rfl rfl
    have h_1 := HK.get 3 1 rfl rfl
    have h_s := HK.lt 3 rfl
    have hw := hw'.out
    unfold LdWay at hw
    rcases hw with ⟨rfl, rfl, rfl, hv⟩ | ⟨h1, h2⟩ | ⟨h1, rfl, h2⟩
    · go_wp2_with fail
      go_meet
      exact ⟨rfl, _, rfl, HK⟩
    · go_wp2_with fail
      go_meet
      exact ⟨rfl, _, rfl, HK⟩
    · go_wp2_with fail
      go_meet
      exact ⟨rfl, _, rfl, HK⟩
  case rest =>
    obtain ⟨rfl, wa, ha, HKa⟩ := hcut
    subst ha
    clear HK
    have HK := HKa
    clear HKa
    go_upto_region 12 with fail
    go_cut [123] (fun s1 wx => s1 = .bool false ∧ ∃ (wv : World), wv = wx ∧ Kw [(w16.heap.size, [.int .i64 ki, .int .i64 xi], 34), (w15.heap.size, [.int .i64 kg, .int .i64 xg], 34), (w14.heap.size, [.int .i64 kf, .int .i64 xf], 34), (w13.heap.size, [.int .i64 2, .bool false], 64), (w.heap.size + 1, [.int .i64 t, .int .i64 4, .bool false, .int .i64 v], 66), (w.heap.size, [.slice a P.length c, .slice a2 B.length c2], 25)] w wv)
    case first =>
      have i_0 := HK.get 0 0 rfl rfl
      have i_1 := HK.get 0 1 rfl rfl
      have i_s := HK.lt 0 rfl
      have g_0 := HK.get 1 0 rfl rfl
      have g_1 := HK.get 1 1 rfl rfl
      have g_s := HK.lt 1 rfl
      have f_0 := HK.get 2 0 rfl rfl
      have f_1 := HK.get 2 1 rfl rfl
      have f_s := HK.lt 2 rfl
      have h_0 := HK.get 3 0 rfl rfl
      have h_1 := HK.get 3 1 rfl rfl
      have h_s := HK.lt 3 rfl
      have hw := hw'.out
      unfold LdWay at hw
      rcases hw with ⟨rfl, rfl, rfl, hv⟩ | ⟨h1, h2⟩ | ⟨h1, rfl, h2⟩
      · go_wp2_with fail
        go_meet
        exact ⟨rfl, _, rfl, HK⟩
      · go_wp2_with fail
        go_meet
        exact ⟨rfl, _, rfl, HK⟩
      · go_wp2_with fail
        go_meet
        exact ⟨rfl, _, rfl, HK⟩
    case rest =>
      obtain ⟨rfl, wb, hb, HKb⟩ := hcut
      subst hb
      clear HK
      have HK := HKb
      clear HKb
      clear hw'
      replace HK := HK.drop.drop.drop
      have z60 := HK.lt 0 rfl
      rcases hst'.out with ⟨h1, hk⟩ | ⟨h1, h2, h3⟩
      · have x_0 := HK.get 1 0 rfl rfl
        have x_1 := HK.get 1 1 rfl rfl
        have x_2 := HK.get 1 2 rfl rfl
        have x_3 := HK.get 1 3 rfl rfl
        have x_s := HK.lt 1 rfl
        have p_0 := HK.get 2 0 rfl rfl
        have p_1 := HK.get 2 1 rfl rfl
        have p_s := HK.lt 2 rfl
        go_wp2_with fail
        clear x_0 x_1 x_2 x_3 x_s p_0 p_1 p_s
        refine (h1 _ _ _ _ _ (hS0.out.below HK.base)).mono ?_
        rintro e w21 ⟨rfl, hq⟩
        replace HK := HK.below hq
        clear hq
        have z62 := HK.lt 0 rfl
        have hK := HK.base
        clear HK
        go_wp2
        go_ret
        exact ⟨rfl, b_alloc (b_alloc hK)⟩
      · have x_0 := HK.get 1 0 rfl rfl
        have x_1 := HK.get 1 1 rfl rfl
        have x_2 := HK.get 1 2 rfl rfl
        have x_3 := HK.get 1 3 rfl rfl
        have x_s := HK.lt 1 rfl
        have p_0 := HK.get 2 0 rfl rfl
        have p_1 := HK.get 2 1 rfl rfl
        have p_s := HK.lt 2 rfl
        go_wp2_with fail
        clear x_0 x_1 x_2 x_3 x_s p_0 p_1 p_s
        refine (h1 _ _ _ _ _ (hS0.out.below HK.base)).mono ?_
        rintro e w21 ⟨a21, c21, b21, d21, rfl, ho21, hu21, hq⟩
        replace HK := HK.below hq
        clear hq
        have z62 := HK.lt 0 rfl
        have hX21 := spIn_own ho21 hu21
        have hB21 := Below.refl w21.heap.size w21
        have h_0 := HK.get 0 0 rfl rfl
        have h_1 := HK.get 0 1 rfl rfl
        have h_s := HK.lt 0 rfl
        have x_0 := HK.get 1 0 rfl rfl
        have x_1 := HK.get 1 1 rfl rfl
        have x_2 := HK.get 1 2 rfl rfl
        have x_3 := HK.get 1 3 rfl rfl
        have x_s := HK.lt 1 rfl
        have p_0 := HK.get 2 0 rfl rfl
        have p_1 := HK.get 2 1 rfl rfl
        have p_s := HK.lt 2 rfl
        go_wp2_with fail
        replace HK := HK.box (vs := [.slice a21 P.length c21, .slice b21 Bt.length d21]) (t := 25)
        replace hB21 := b_alloc (o := (.cells #[.slice a21 P.length c21, .slice b21 Bt.length d21] 25)) hB21
        replace HK := HK.alloc (o := (.cells #[.int .i64 0, .int .i64 0] 34))
        replace hB21 := b_alloc (o := (.cells #[.int .i64 0, .int .i64 0] 34)) hB21
        try simp only [World.size_alloc] at HK
        clear h_0 h_1 h_s x_0 x_1 x_2 x_3 x_s p_0 p_1 p_s
        refine (h2 _ _ _ _ _ (hS0.out.below HK.base)).mono ?_
        rintro e w22 ⟨a22, c22, b22, d22, rfl, ho22, hu22, hq⟩
        replace HK := HK.below hq
        replace hB21 := Below.tail hB21 hq
        clear hq
        have z63 := HK.lt 0 rfl
        have hX22 := spIn_own ho22 hu22
        have hB22 := Below.refl w22.heap.size w22
        have t_0 := HK.get 0 0 rfl rfl
        have t_1 := HK.get 0 1 rfl rfl
        have t_s := HK.lt 0 rfl
        have h_0 := HK.get 1 0 rfl rfl
        have h_1 := HK.get 1 1 rfl rfl
        have h_s := HK.lt 1 rfl
        have x_0 := HK.get 2 0 rfl rfl
        have x_1 := HK.get 2 1 rfl rfl
        have x_2 := HK.get 2 2 rfl rfl
        have x_3 := HK.get 2 3 rfl rfl
        have x_s := HK.lt 2 rfl
        go_upto_region 18 with fail
        replace HK := HK.box (vs := [.slice a22 P.length c22, .slice b22 Bu.length d22]) (t := 25)
        replace hB21 := b_alloc (o := (.cells #[.slice a22 P.length c22, .slice b22 Bu.length d22] 25)) hB21
        replace hB22 := b_alloc (o := (.cells #[.slice a22 P.length c22, .slice b22 Bu.length d22] 25)) hB22
        replace HK := HK.box (vs := [.int .i64 0, .int .i64 0]) (t := 34)
        replace hB21 := b_alloc (o := (.cells #[.int .i64 0, .int .i64 0] 34)) hB21
        replace hB22 := b_alloc (o := (.cells #[.int .i64 0, .int .i64 0] 34)) hB22
        try simp only [World.size_alloc] at HK
        clear t_0 t_1 t_s h_0 h_1 h_s x_0 x_1 x_2 x_3 x_s
        have hXt := Lib.hid (hX21.below hB21)
        have hXu := Lib.hid (hX22.below hB22)
        clear hX21 hB21 ho21 hu21 hX22 hB22 ho22 hu22
        obtain ⟨W, hW⟩ : ∃ W, ((w22.alloc (.cells #[.slice a22 P.length c22, .slice b22 Bu.length d22] 25)).alloc (.cells #[.int .i64 0, .int .i64 0] 34)) = W := ⟨_, rfl⟩
        rw [hW] at HK hXt hXu ⊢
        clear hW
        obtain ⟨ql, hle⟩ : ∃ q, w22.heap.size + 1 = q := ⟨_, rfl⟩
        have hll : w.heap.size ≤ ql := by omega
        rw [hle] at HK ⊢
        clear hle
        obtain ⟨qu, hue⟩ : ∃ q, w22.heap.size = q := ⟨_, rfl⟩
        have hlu : w.heap.size ≤ qu := by omega
        rw [hue] at HK ⊢
        clear hue
        obtain ⟨qt, hte⟩ : ∃ q, w21.heap.size = q := ⟨_, rfl⟩
        have hlt : w.heap.size ≤ qt := by omega
        rw [hte] at HK ⊢
        clear hte
        obtain ⟨qh, hhe⟩ : ∃ q, w13.heap.size = q := ⟨_, rfl⟩
        have hlh : w.heap.size ≤ qh := by omega
        rw [hhe] at HK ⊢
        clear hhe
        obtain ⟨qx, hxe⟩ : ∃ q, w.heap.size + 1 = q := ⟨_, rfl⟩
        have hlx : w.heap.size ≤ qx := by omega
        rw [hxe] at HK ⊢
        clear hxe
        obtain ⟨qp, hpe⟩ : ∃ q, w.heap.size = q := ⟨_, rfl⟩
        have hlp : w.heap.size ≤ qp := by omega
        rw [hpe] at HK ⊢
        clear hpe
        have HSS : Hid (∀ W', Below W.heap.size W W' → Below W.heap.size W W' ∧ W'.cell? ⟨qu, 0, none⟩ = some (.slice a22 P.length c22) ∧ W'.cell? ⟨qu, 1, none⟩ = some (.slice b22 Bu.length d22) ∧ W'.cell? ⟨qh, 0, none⟩ = some (.int .i64 2) ∧ W'.cell? ⟨qh, 1, none⟩ = some (.bool false) ∧ W'.cell? ⟨qx, 3, none⟩ = some (.int .i64 v)) := Lib.hid fun W' hb => ⟨hb, (HK.below hb).get 1 0 rfl rfl, (HK.below hb).get 1 1 rfl rfl, (HK.below hb).get 3 0 rfl rfl, (HK.below hb).get 3 1 rfl rfl, (HK.below hb).get 4 3 rfl rfl⟩
        have HKh := Lib.hid HK
        clear HK
        go_cut [23, 24, 25] (fun s23 s24 s25 wx => ∃ (b23 b24 : Nat) (az : Option Addr) (cz : Nat) (bz : Option Addr) (dz : Nat) (X : World), X = wx ∧ s23 = .pointer (some ⟨b23, 0, none⟩) ∧ s24 = .pointer (some ⟨b24, 0, none⟩) ∧ Below W.heap.size W X ∧ MetR X b23 b24 P Bt az cz bz dz)
        case first =>
          have hst0 := 0
          go_region_held3 (fun W' => Below W.heap.size W W' ∧ W'.cell? ⟨qu, 0, none⟩ = some (.slice a22 P.length c22) ∧ W'.cell? ⟨qu, 1, none⟩ = some (.slice b22 Bu.length d22) ∧ W'.cell? ⟨qh, 0, none⟩ = some (.int .i64 2) ∧ W'.cell? ⟨qh, 1, none⟩ = some (.bool false) ∧ W'.cell? ⟨qx, 3, none⟩ = some (.int .i64 v)) ((refine HSS.out _ ?_; go_split_ands; repeat (first | with_reducible assumption | with_reducible exact Below.refl _ _ | with_reducible apply b_alloc | with_reducible apply Below.drew | (with_reducible refine Below.tail ?_ (by with_reducible assumption)) | (with_reducible refine Below.setCell ?_ (by first | exact Nat.le_refl _ | (simp only [World.size_alloc, World.size_drew, World.size_setCell]; omega) | (show _ ≤ _; omega)) _)))) ((go_at_call 34; go_split_ands; refine (h3 _ _ _ _ _ (hXu.out.below (by with_reducible assumption))).mono ?_; rintro e wz ⟨az, cz, bz, dz, rfl, hoz, huz, hqz⟩; have hszz := hqz.size; simp only [World.size_alloc, World.size_drew] at hszz; (try have u2 := Nat.lt_of_succ_le hszz); (try have u3 := Nat.lt_of_succ_lt u2); (try have u4 := Nat.lt_succ_of_lt u2); (try have u5 := Nat.lt_succ_of_lt u3); obtain ⟨hcz, hfz⟩ := bcell hqz; (have q00c := hcz (W.heap.size) 0; try simp [go_sem] at q00c); (have q00f := hfz (W.heap.size) 0; try simp [go_sem] at q00f); (have q01c := hcz (W.heap.size) 1; try simp [go_sem] at q01c); (have q01f := hfz (W.heap.size) 1; try simp [go_sem] at q01f); (have q10c := hcz (W.heap.size + 1) 0; try simp [go_sem] at q10c); (have q10f := hfz (W.heap.size + 1) 0; try simp [go_sem] at q10f); (have q11c := hcz (W.heap.size + 1) 1; try simp [go_sem] at q11c); (have q11f := hfz (W.heap.size + 1) 1; try simp [go_sem] at q11f); clear hcz hfz))
          all_goals
            go_wp2_with fail
            go_meet
            go_split_ands
            first
              | with_reducible exact ⟨_, _, az, cz, bz, dz, _, rfl, rfl, rfl, by with_reducible assumption, met1 hoz huz⟩
              | with_reducible exact ⟨_, _, az, cz, bz, dz, _, rfl, rfl, rfl, by with_reducible assumption, met2 hoz huz⟩
              | with_reducible exact ⟨_, _, az, cz, bz, dz, _, rfl, rfl, rfl, by with_reducible assumption, met3 hoz huz q00c q01c (by simp only [World.size_alloc, World.size_drew]; omega)⟩
              | with_reducible exact ⟨_, _, az, cz, bz, dz, _, rfl, rfl, rfl, by with_reducible assumption, met5 hoz huz q00c q01c (by simp only [World.size_alloc, World.size_drew]; omega)⟩
              | with_reducible exact ⟨_, _, az, cz, bz, dz, _, rfl, rfl, rfl, by with_reducible assumption, met4 hoz huz q00c q01c q10c q11c (by simp only [World.size_alloc, World.size_drew]; omega) (by simp only [World.size_alloc, World.size_drew]; omega) (by omega)⟩
              | with_reducible exact ⟨_, _, az, cz, bz, dz, _, rfl, rfl, rfl, by with_reducible assumption, met4 hoz huz q10c q11c q00c q01c (by simp only [World.size_alloc, World.size_drew]; omega) (by simp only [World.size_alloc, World.size_drew]; omega) (by omega)⟩
        case rest =>
          obtain ⟨b23, b24, az, cz, bz, dz, X, hx, rfl, rfl, hbX, ⟨m1, m2, m3, hXz⟩⟩ := hcut
          subst hx
          have HKx := HKh.out.below hbX
          have l_0 := HKx.get 0 0 rfl rfl
          have t_0 := HKx.get 2 0 rfl rfl
          have t_1 := HKx.get 2 1 rfl rfl
          have hXt2 := Lib.hid (hXt.out.below hbX)
          have hKx := Lib.hid HKx.base
          clear HKx HKh HSS hbX hXt hXu
          go_wp2_with fail
          refine (hsm _ _ _ _ _ _ _ _ _ hXt2.out hXz.out).mono ?_
          rintro e wy ⟨rfl, hqy⟩
          have hfin := Below.tail hKx.out hqy
          clear hqy l_0 t_0 t_1 m1 m2 m3
          go_wp2
          go_ret
          exact ⟨rfl, hfin⟩
end Go.Proofs.Ytdbcbmdekdfdoaa
