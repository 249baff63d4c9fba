/- WHAT IS PROVED: the reference's Parse returns what bits.Parse returns. CONDITIONS: the string is one that can be. -/
import Derived.Test.YtfgmfkiknogdeaaDoorFq
namespace Go.Proofs.YtfgmfkiknogdeaaDoor
open Go Go.RowKit Go.QrBits

theorem tl_ne {a b : ByteArray} (h : ¬ a = b) : (a.toList == b.toList) = false := by
  rw [beq_eq_false_iff_ne]
  intro e
  apply h
  rw [ByteArray.toList_eq, ByteArray.toList_eq] at e
  exact ba_ext (by unfold bts; rw [e])
/-- Parse gives this value, or refuses. -/
def RP (s : Int) (g : Bool) (str : ByteArray) : Prop := ∀ w, Calls Tryd.prog 39 #[.agg #[.int .i64 s, .bool g], .string str] w fun e w' => e = .returned (.tuple #[.int .i64 (pV s g str), .int .i64 (pE s g str)]) ∧ Below w.heap.size w w'
theorem RP_no {s : Int} {g : Bool} {str : ByteArray} (h : pO s g str = false) (c : ∀ w, Calls Tryd.prog 39 #[.agg #[.int .i64 s, .bool g], .string str] w fun e w' => e = .returned (.tuple #[.int .i64 0, .int .i64 13]) ∧ Below w.heap.size w w') : RP s g str := by
  unfold RP; rw [(ans_no h).1, (ans_no h).2]; exact c
theorem RP_yes {s : Int} {g : Bool} {str : ByteArray} {v : Int} (h : pO s g str = true ∧ pv s g str = v) (c : ∀ w, Calls Tryd.prog 39 #[.agg #[.int .i64 s, .bool g], .string str] w fun e w' => e = .returned (.tuple #[.int .i64 v, .int .i64 0]) ∧ Below w.heap.size w w') : RP s g str := by
  unfold RP; rw [(ans_yes h).1, (ans_yes h).2]; exact c
section
variable {s : Int} {g : Bool} {str : ByteArray}
theorem wrc (h : vB s = true) {v : Int} (hw : wr s g v = v) (w : World) : Calls Tryd.prog 47 #[.agg #[.int .i64 s, .bool g], .int .i64 v] w fun e w' => e = .returned (.int .i64 v) ∧ Below w.heap.size w w' := by
  have := rWrapped_c s g v w h
  rwa [hw] at this
theorem txc (h : vB s = true) {v : Int} (hv : I64 v) {T : ByteArray} (hT : txV s g v = T) (w : World) : Calls Tryd.prog 37 #[.agg #[.int .i64 s, .bool g], .int .i64 v] w fun e w' => e = .returned (.tuple #[.string T, .int .i64 0]) ∧ Below w.heap.size w w' := by
  rw [← hT]; exact rText_c s g v w h hv
theorem dgc {u : Int} (h0 : 0 ≤ u) (h1 : u ≤ 18446744073709551615) {T : ByteArray} (hT : strOf (decL u.toNat) = T) (w : World) : Calls Tryd.prog 66 #[.int .u64 u] w fun e w' => e = .returned (.string T) ∧ Below w.heap.size w w' := by
  rw [← hT]; exact rDigits_c u w h0 h1
theorem n16 {t : ByteArray} (ht : t.size ≤ maxLen) {u : Int} {b : Bool} (hu : (dg 16 t).getD 0 = u) (hb : (dg 16 t).isSome = b) (w : World) : Calls Tryd.prog 69 #[.string t, .int .u64 16] w fun e w' => e = .returned (.tuple #[.int .u64 u, .bool b]) ∧ Below w.heap.size w w' := by
  rw [← hu, ← hb]; exact rnumber_16 t w ht
theorem n10 {t : ByteArray} (ht : t.size ≤ maxLen) {u : Int} {b : Bool} (hu : (dg 10 t).getD 0 = u) (hb : (dg 10 t).isSome = b) (w : World) : Calls Tryd.prog 69 #[.string t, .int .u64 10] w fun e w' => e = .returned (.tuple #[.int .u64 u, .bool b]) ∧ Below w.heap.size w w' := by
  rw [← hu, ← hb]; exact rnumber_10 t w ht
theorem RP_h (h : vB s = true) (hs : str.size ≤ 20) (h2 : 2 < str.size) (e0 : ((str[0]'(by omega)).toNat : Int) = 48) (e1 : ((str[1]'(by omega)).toNat : Int) = 120) : RP s g str := by
  have hx : hx str = true := hx_of (h2 := h2) e0 e1
  have hD' : hD str = str.extract 2 str.size := by unfold hD; rw [if_pos hx]
  have hsz : (str.extract 2 str.size).size ≤ maxLen := by have := hD_size str; rw [hD'] at this; unfold maxLen; omega
  generalize hu : (dg 16 (hD str)).getD 0 = u
  have hub := dg_bd (base := 16) (by omega) (hD str)
  rw [hu] at hub
  have hu' := hu
  rw [hD'] at hu'
  cases hd : (dg 16 (hD str)).isSome
  · exact RP_no (hex_none hx hd) fun w => rp_h_none s g str w h u hs h2 e0 e1 (n16 hsz hu' (by rw [← hD']; exact hd))
  by_cases hb : str.size ≤ 18
  case neg => exact RP_no (hex_big hx (by omega)) fun w => rp_h_big s g str w h u hb hs h2 e0 e1 (n16 hsz hu' (by rw [← hD']; exact hd))
  have hn := fun w => n16 (b := true) hsz hu' (by rw [← hD']; exact hd) w
  by_cases hw : wr s g (wrap64 u) = wrap64 u
  case neg => exact RP_no (no_wr (n := false) (u := u) h (fun _ => ⟨hex_rN hx, by rw [hex_rS hx, hu]⟩) hw) fun w => rp_h_wr s g str w h u _ hb h2 e0 e1 hw hn (fun w => rWrapped_c s g _ w h)
  by_cases ht : txV s g (wrap64 u) = strOf (decL u.toNat)
  · exact RP_yes (v := wrap64 u) (hex_yes h hx hd (by omega) hu hw ht) fun w => rp_h_ok s g str w h u _ hb h2 e0 e1 hn (wrc h hw) (txc h (I64_wrap64 _) ht) (dgc hub.1 hub.2 rfl)
  · exact RP_no (hex_tx h hx hu ht) fun w => rp_h_tx s g str w h u _ _ hb h2 e0 e1 (tl_ne ht) hn (wrc h hw) (txc h (I64_wrap64 _) rfl) (dgc hub.1 hub.2 rfl)
theorem RP_s0 (h : vB s = true) (hs : str.size ≤ 20) (h2 : ¬ 0 < str.size) : RP s g str := by
  have hmi : mi str = false := mi_empty (by omega)
  have hm : mD str = str := by unfold mD; rw [hmi]; first | rfl | done
  have hsz : str.size ≤ maxLen := by have := mD_size str; rw [hm] at this; unfold maxLen; omega
  have hx : hx str = false := hx_short (by omega)
  generalize hu : (dg 10 (mD str)).getD 0 = u
  have hu' := hu
  rw [hm] at hu'
  cases hd : (dg 10 (mD str)).isSome
  · exact RP_no (dec_none hx hd) fun w => rp_s0_none s g str w h u hs h2 (n10 hsz hu' (by rw [← hm]; exact hd))
  have hn := fun w => n10 (b := true) hsz hu' (by rw [← hm]; exact hd) w
  have hp : pat (mi str) u = (wrap64 u) := by rw [hmi]; rfl
  by_cases hw : wr s g (wrap64 u) = (wrap64 u)
  case neg => exact RP_no (no_wr (n := mi str) (u := u) h (fun hO => ⟨(dec_facts hx hO).1, by rw [(dec_facts hx hO).2.1, hu]⟩) (by rw [hp]; exact hw)) fun w => rp_s0_wr s g str w h u _ hs h2 hw hn (fun w => rWrapped_c s g _ w h)
  by_cases ht : txV s g (wrap64 u) = str
  · exact RP_yes (v := (wrap64 u)) (dec_yes h (I64_wrap64 _) hw ht) fun w => rp_s0_ok s g str w h u hs h2 hn (wrc h hw) (txc h (I64_wrap64 _) ht)
  · exact RP_no (dec_tx h hx hu (by rw [hp]; exact ht)) fun w => rp_s0_tx s g str w h u _ hs h2 (tl_ne ht) hn (wrc h hw) (txc h (I64_wrap64 _) rfl)
theorem RP_s1 (h : vB s = true) (hs : str.size ≤ 20) (h2 : 0 < str.size) (h3 : str.size ≤ 2) (e0 : ((str[0]'(by omega)).toNat : Int) = 45) : RP s g str := by
  have hmi : mi str = true := mi_yes e0
  have hm : mD str = (str.extract 1 str.size) := by unfold mD; rw [hmi]; first | rfl | done
  have hsz : (str.extract 1 str.size).size ≤ maxLen := by have := mD_size str; rw [hm] at this; unfold maxLen; omega
  have hx : hx str = false := hx_no0 (h0 := h2) (by omega)
  generalize hu : (dg 10 (mD str)).getD 0 = u
  have hu' := hu
  rw [hm] at hu'
  cases hd : (dg 10 (mD str)).isSome
  · exact RP_no (dec_none hx hd) fun w => rp_s1_none s g str w h u hs h2 h3 e0 (n10 hsz hu' (by rw [← hm]; exact hd))
  have hn := fun w => n10 (b := true) hsz hu' (by rw [← hm]; exact hd) w
  have hp : pat (mi str) u = (wrap64 (-(wrap64 u))) := by rw [hmi]; rfl
  by_cases hw : wr s g (wrap64 (-(wrap64 u))) = (wrap64 (-(wrap64 u)))
  case neg => exact RP_no (no_wr (n := mi str) (u := u) h (fun hO => ⟨(dec_facts hx hO).1, by rw [(dec_facts hx hO).2.1, hu]⟩) (by rw [hp]; exact hw)) fun w => rp_s1_wr s g str w h u _ hs h2 h3 e0 hw hn (fun w => rWrapped_c s g _ w h)
  by_cases ht : txV s g (wrap64 (-(wrap64 u))) = str
  · exact RP_yes (v := (wrap64 (-(wrap64 u)))) (dec_yes h (I64_wrap64 _) hw ht) fun w => rp_s1_ok s g str w h u hs h2 h3 e0 hn (wrc h hw) (txc h (I64_wrap64 _) ht)
  · exact RP_no (dec_tx h hx hu (by rw [hp]; exact ht)) fun w => rp_s1_tx s g str w h u _ hs h2 h3 e0 (tl_ne ht) hn (wrc h hw) (txc h (I64_wrap64 _) rfl)
theorem RP_s2 (h : vB s = true) (hs : str.size ≤ 20) (h2 : 0 < str.size) (h3 : str.size ≤ 2) (e0 : ¬ ((str[0]'(by omega)).toNat : Int) = 45) : RP s g str := by
  have hmi : mi str = false := mi_no e0
  have hm : mD str = str := by unfold mD; rw [hmi]; first | rfl | done
  have hsz : str.size ≤ maxLen := by have := mD_size str; rw [hm] at this; unfold maxLen; omega
  by_cases hxt : hx str = true
  case pos =>
    have hd := (hx_two hxt).2
    exact RP_no (hex_none hxt (hx_twoD h3 hxt)) fun w => rp_s2_none s g str w h _ hs h2 h3 e0 (n10 hsz rfl hd)
  have hx : hx str = false := by simpa using hxt
  generalize hu : (dg 10 (mD str)).getD 0 = u
  have hu' := hu
  rw [hm] at hu'
  cases hd : (dg 10 (mD str)).isSome
  · exact RP_no (dec_none hx hd) fun w => rp_s2_none s g str w h u hs h2 h3 e0 (n10 hsz hu' (by rw [← hm]; exact hd))
  have hn := fun w => n10 (b := true) hsz hu' (by rw [← hm]; exact hd) w
  have hp : pat (mi str) u = (wrap64 u) := by rw [hmi]; rfl
  by_cases hw : wr s g (wrap64 u) = (wrap64 u)
  case neg => exact RP_no (no_wr (n := mi str) (u := u) h (fun hO => ⟨(dec_facts hx hO).1, by rw [(dec_facts hx hO).2.1, hu]⟩) (by rw [hp]; exact hw)) fun w => rp_s2_wr s g str w h u _ hs h2 h3 e0 hw hn (fun w => rWrapped_c s g _ w h)
  by_cases ht : txV s g (wrap64 u) = str
  · exact RP_yes (v := (wrap64 u)) (dec_yes h (I64_wrap64 _) hw ht) fun w => rp_s2_ok s g str w h u hs h2 h3 e0 hn (wrc h hw) (txc h (I64_wrap64 _) ht)
  · exact RP_no (dec_tx h hx hu (by rw [hp]; exact ht)) fun w => rp_s2_tx s g str w h u _ hs h2 h3 e0 (tl_ne ht) hn (wrc h hw) (txc h (I64_wrap64 _) rfl)
theorem RP_s3 (h : vB s = true) (hs : str.size ≤ 20) (h2 : 2 < str.size) (e0 : ((str[0]'(by omega)).toNat : Int) = 45) : RP s g str := by
  have hmi : mi str = true := mi_yes e0
  have hm : mD str = (str.extract 1 str.size) := by unfold mD; rw [hmi]; first | rfl | done
  have hsz : (str.extract 1 str.size).size ≤ maxLen := by have := mD_size str; rw [hm] at this; unfold maxLen; omega
  have hx : hx str = false := hx_no0 (h0 := by omega) (by omega)
  generalize hu : (dg 10 (mD str)).getD 0 = u
  have hu' := hu
  rw [hm] at hu'
  cases hd : (dg 10 (mD str)).isSome
  · exact RP_no (dec_none hx hd) fun w => rp_s3_none s g str w h u hs h2 e0 (n10 hsz hu' (by rw [← hm]; exact hd))
  have hn := fun w => n10 (b := true) hsz hu' (by rw [← hm]; exact hd) w
  have hp : pat (mi str) u = (wrap64 (-(wrap64 u))) := by rw [hmi]; rfl
  by_cases hw : wr s g (wrap64 (-(wrap64 u))) = (wrap64 (-(wrap64 u)))
  case neg => exact RP_no (no_wr (n := mi str) (u := u) h (fun hO => ⟨(dec_facts hx hO).1, by rw [(dec_facts hx hO).2.1, hu]⟩) (by rw [hp]; exact hw)) fun w => rp_s3_wr s g str w h u _ hs h2 e0 hw hn (fun w => rWrapped_c s g _ w h)
  by_cases ht : txV s g (wrap64 (-(wrap64 u))) = str
  · exact RP_yes (v := (wrap64 (-(wrap64 u)))) (dec_yes h (I64_wrap64 _) hw ht) fun w => rp_s3_ok s g str w h u hs h2 e0 hn (wrc h hw) (txc h (I64_wrap64 _) ht)
  · exact RP_no (dec_tx h hx hu (by rw [hp]; exact ht)) fun w => rp_s3_tx s g str w h u _ hs h2 e0 (tl_ne ht) hn (wrc h hw) (txc h (I64_wrap64 _) rfl)
theorem RP_s4 (h : vB s = true) (hs : str.size ≤ 20) (h2 : 2 < str.size) (e0 : ¬ ((str[0]'(by omega)).toNat : Int) = 45) (e1 : ¬ ((str[0]'(by omega)).toNat : Int) = 48) : RP s g str := by
  have hmi : mi str = false := mi_no e0
  have hm : mD str = str := by unfold mD; rw [hmi]; first | rfl | done
  have hsz : str.size ≤ maxLen := by have := mD_size str; rw [hm] at this; unfold maxLen; omega
  have hx : hx str = false := hx_no0 (h0 := by omega) e1
  generalize hu : (dg 10 (mD str)).getD 0 = u
  have hu' := hu
  rw [hm] at hu'
  cases hd : (dg 10 (mD str)).isSome
  · exact RP_no (dec_none hx hd) fun w => rp_s4_none s g str w h u hs h2 e0 e1 (n10 hsz hu' (by rw [← hm]; exact hd))
  have hn := fun w => n10 (b := true) hsz hu' (by rw [← hm]; exact hd) w
  have hp : pat (mi str) u = (wrap64 u) := by rw [hmi]; rfl
  by_cases hw : wr s g (wrap64 u) = (wrap64 u)
  case neg => exact RP_no (no_wr (n := mi str) (u := u) h (fun hO => ⟨(dec_facts hx hO).1, by rw [(dec_facts hx hO).2.1, hu]⟩) (by rw [hp]; exact hw)) fun w => rp_s4_wr s g str w h u _ hs h2 e0 e1 hw hn (fun w => rWrapped_c s g _ w h)
  by_cases ht : txV s g (wrap64 u) = str
  · exact RP_yes (v := (wrap64 u)) (dec_yes h (I64_wrap64 _) hw ht) fun w => rp_s4_ok s g str w h u hs h2 e0 e1 hn (wrc h hw) (txc h (I64_wrap64 _) ht)
  · exact RP_no (dec_tx h hx hu (by rw [hp]; exact ht)) fun w => rp_s4_tx s g str w h u _ hs h2 e0 e1 (tl_ne ht) hn (wrc h hw) (txc h (I64_wrap64 _) rfl)
theorem RP_s5 (h : vB s = true) (hs : str.size ≤ 20) (h2 : 2 < str.size) (e0 : ((str[0]'(by omega)).toNat : Int) = 48) (e1 : ¬ ((str[1]'(by omega)).toNat : Int) = 120) : RP s g str := by
  have hmi : mi str = false := mi_no (h0 := by omega) (by omega)
  have hm : mD str = str := by unfold mD; rw [hmi]; first | rfl | done
  have hsz : str.size ≤ maxLen := by have := mD_size str; rw [hm] at this; unfold maxLen; omega
  have hx : hx str = false := hx_no1 (h1 := by omega) e1
  generalize hu : (dg 10 (mD str)).getD 0 = u
  have hu' := hu
  rw [hm] at hu'
  cases hd : (dg 10 (mD str)).isSome
  · exact RP_no (dec_none hx hd) fun w => rp_s5_none s g str w h u hs h2 e0 e1 (n10 hsz hu' (by rw [← hm]; exact hd))
  have hn := fun w => n10 (b := true) hsz hu' (by rw [← hm]; exact hd) w
  have hp : pat (mi str) u = (wrap64 u) := by rw [hmi]; rfl
  by_cases hw : wr s g (wrap64 u) = (wrap64 u)
  case neg => exact RP_no (no_wr (n := mi str) (u := u) h (fun hO => ⟨(dec_facts hx hO).1, by rw [(dec_facts hx hO).2.1, hu]⟩) (by rw [hp]; exact hw)) fun w => rp_s5_wr s g str w h u _ hs h2 e0 e1 hw hn (fun w => rWrapped_c s g _ w h)
  by_cases ht : txV s g (wrap64 u) = str
  · exact RP_yes (v := (wrap64 u)) (dec_yes h (I64_wrap64 _) hw ht) fun w => rp_s5_ok s g str w h u hs h2 e0 e1 hn (wrc h hw) (txc h (I64_wrap64 _) ht)
  · exact RP_no (dec_tx h hx hu (by rw [hp]; exact ht)) fun w => rp_s5_tx s g str w h u _ hs h2 e0 e1 (tl_ne ht) hn (wrc h hw) (txc h (I64_wrap64 _) rfl)
end
theorem rParse_c (s : Int) (g : Bool) (str : ByteArray) (h : vB s = true) (hs : str.size ≤ maxLen) : RP s g str := by
  by_cases hl : 20 < str.size
  · exact RP_no (no_size h hl) fun w => rp_long s g str w h hl (by unfold maxLen at hs; omega)
  have hs : str.size ≤ 20 := by omega
  by_cases h0 : 0 < str.size
  case neg => exact RP_s0 h hs h0
  by_cases h2 : 2 < str.size
  case neg =>
    by_cases e0 : ((str[0]'h0).toNat : Int) = 45
    · exact RP_s1 h hs h0 (by omega) e0
    · exact RP_s2 h hs h0 (by omega) e0
  by_cases e0 : ((str[0]'h0).toNat : Int) = 45
  · exact RP_s3 h hs h2 e0
  by_cases e1 : ((str[0]'h0).toNat : Int) = 48
  case neg => exact RP_s4 h hs h2 e0 e1
  by_cases e2 : ((str[1]'(by omega)).toNat : Int) = 120
  · exact RP_h h hs h2 e1 e2
  · exact RP_s5 h hs h2 e1 e2
end Go.Proofs.YtfgmfkiknogdeaaDoor
