/- WHAT IS PROVED: the reference's FromBytes on bytes that lie in memory; a byte slice of one's own as a string, in a later world. CONDITIONS: a valid type. -/
import Derived.Test.YtfgmfkiknogdeaaDoorFo7
import Derived.Test.YtfgmfkiknogdeaaDoorFo2
import Derived.Test.YtfgmfkiknogdeaaDoorBkA
namespace Go.Proofs.YtfgmfkiknogdeaaDoor
open Go Go.RowKit Go.QrBits

theorem own_lt' {n L cap : Nat} {w : World} {base B : Nat} {xs : List Value} (h : w.ownsRow base 5 1 (.slice (some ⟨B, 0, none⟩) L cap) n xs) : B < w.heap.size := by
  obtain ⟨_, (⟨hc, _⟩ | ⟨g, cap, cur, hv, _, hw, _⟩)⟩ := h
  · cases hc
  · cases hv
    exact (Array.getElem?_eq_some_iff.1 hw).1
theorem BytesAt.own' {w : World} {base B n cap : Nat} {cs : List Int} (h : w.ownsRow base 5 1 (.slice (some ⟨B, 0, none⟩) n cap) n (bV cs)) (ok : okB cs) : BytesAt w B cs :=
  ⟨own_lt' h, fun j c hj => by
    obtain ⟨hl, (⟨hc, _⟩ | ⟨g, cap, cur, hv, _, hw, hn, _, hsz, ht⟩)⟩ := h
    · cases hc
    · cases hv
      simp only [World.cell?, hw, Option.isSome_none, Bool.false_eq_true, if_false]
      have e : (bV cs)[j]? = some (.int .u8 c) := by simp [bV, hj]
      rw [← ht] at e
      have hj2 : j < n * 1 := by
        rcases Nat.lt_or_ge j (n * 1) with h | h
        · exact h
        · rw [List.getElem?_take, if_neg (by omega)] at e; cases e
      rw [List.getElem?_take, if_pos hj2] at e
      simpa using e, ok⟩
theorem str_at {w : World} {B L cap : Nat} {cs : List Int} (h : BytesAt w B cs) (hl : cs.length = L) : (convert 48 9 (.slice (some ⟨B, 0, none⟩) L cap)).run Tryd.prog w = .ok (.string (strOf cs)) w := by
  have hlen : L = (bV cs).length := by simp [bV, hl]
  rw [run_convert_bytes_string w 48 9 5 _ L cap Tryd.underlying48 Tryd.underlying5 Tryd.underlying9]
  refine run_bytesToString w _ L cap cs ?_
  rw [hlen]
  refine run_loadCells_list _ _ _ ?_
  intro j u hj
  simp only [bV, List.getElem?_map, Option.map_eq_some_iff] at hj
  obtain ⟨c, hc, rfl⟩ := hj
  have := h.cell j c hc
  unfold Addr.add
  split
  · rename_i h0; subst h0; exact this
  · simpa using this
theorem str_nil (w : World) : (convert 48 9 (.slice none 0 0)).run Tryd.prog w = .ok (.string ByteArray.empty) w := by
  rw [run_convert_bytes_string w 48 9 5 _ 0 0 Tryd.underlying48 Tryd.underlying5 Tryd.underlying9]
  rfl
theorem rfrom_c (n : Nat) (g : Bool) (b cap : Nat) (cs : List Int) (w : World) (h : vB n = true) (hl : cs.length = n) (hb : BytesAt w b cs) :
    Calls Tryd.prog 35 #[.agg #[.int .i64 n, .bool g], .slice (some ⟨b, 0, none⟩) n cap] w fun e w' => e = .returned (.tuple #[.int .i64 (wr n g (wrap64 (fbS cs))), .int .i64 0]) ∧ Below w.heap.size w w' := by
  obtain ⟨hlt, hc, ok⟩ := hb
  rcases size_cases h with rfl | rfl | rfl | rfl
  · match cs, hl with
    | [c0], _ =>
      exact rfrom_1 g b cap c0 w hlt (hc 0 c0 rfl) (ok c0 (by simp))
  · match cs, hl with
    | [c0, c1], _ =>
      exact rfrom_2 g b cap c0 c1 w hlt (hc 0 c0 rfl) (ok c0 (by simp)) (hc 1 c1 rfl) (ok c1 (by simp))
  · match cs, hl with
    | [c0, c1, c2, c3], _ =>
      exact rfrom_4 g b cap c0 c1 c2 c3 w hlt (hc 0 c0 rfl) (ok c0 (by simp)) (hc 1 c1 rfl) (ok c1 (by simp)) (hc 2 c2 rfl) (ok c2 (by simp)) (hc 3 c3 rfl) (ok c3 (by simp))
  · match cs, hl with
    | [c0, c1, c2, c3, c4, c5, c6, c7], _ =>
      exact rfrom_8 g b cap c0 c1 c2 c3 c4 c5 c6 c7 w hlt (hc 0 c0 rfl) (ok c0 (by simp)) (hc 1 c1 rfl) (ok c1 (by simp)) (hc 2 c2 rfl) (ok c2 (by simp)) (hc 3 c3 rfl) (ok c3 (by simp)) (hc 4 c4 rfl) (ok c4 (by simp)) (hc 5 c5 rfl) (ok c5 (by simp)) (hc 6 c6 rfl) (ok c6 (by simp)) (hc 7 c7 rfl) (ok c7 (by simp))
theorem rfrom_s (n : Nat) (g : Bool) (b cap : Nat) (str : ByteArray) (w : World) (h : vB (n : Int) = true) (hl : str.size = n) (hb : BytesAt w b (bts str)) :
    Calls Tryd.prog 35 #[.agg #[.int .i64 n, .bool g], .slice (some ⟨b, 0, none⟩) str.size cap] w fun e w' => e = .returned (.tuple #[.int .i64 (wr n g (wrap64 (fbS (bts str)))), .int .i64 0]) ∧ Below w.heap.size w w' := by
  rw [hl]; exact rfrom_c n g b cap _ w h (by rw [bts_len]; exact hl) hb
end Go.Proofs.YtfgmfkiknogdeaaDoor
