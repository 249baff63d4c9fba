/- WHAT IS PROVED: taplinelaw01.BitsBack answers true, for any type, value and string. CONDITIONS: the package variable 'plain' holds the signed type of 4 bytes. -/
import Derived.Test.YtfgmfkiknogdeaaDoorBkB
import Derived.Test.YtfgmfkiknogdeaaDoorBkC
namespace Go.Proofs.YtfgmfkiknogdeaaDoor
open Go Go.RowKit Go.QrBits
theorem hxL_yes {str : ByteArray} (h : hxL (bts str) = true) : ∃ h1 : 1 < str.size, (str[1]'h1).toNat = 120 := by
  unfold hxL at h
  have e := beq_iff_eq.1 h
  have hl : 2 ≤ (bts str).length := by
    have := congrArg List.length e
    rw [List.length_take] at this
    simp at this; omega
  rw [bts_len] at hl
  refine ⟨by omega, ?_⟩
  have e1 : (bts str)[1]? = some 120 := by
    have := congrArg (fun l => l[1]?) e
    simp only [List.getElem?_take] at this
    simpa using this
  have e2 : (bts str)[1]? = some (((str[1]'(by omega)).toNat : Nat) : Int) := by
    unfold bts
    rw [List.getElem?_map]
    have : 1 < str.data.toList.length := by simpa using (by omega : 1 < str.size)
    rw [List.getElem?_eq_getElem this]
    rfl
  rw [e2] at e1
  have := Option.some.inj e1
  omega
theorem back_walk (s : Int) (g : Bool) (v : Int) (str : ByteArray) (w : World) (hp : PlainAt w) (iv : I64 v) (hs : str.size ≤ maxLen) :
    Calls Tryd.prog 9 #[.agg #[.int .i64 s, .bool g], .int .i64 v, .string str] w fun e w' => e = .returned (.bool true) ∧ Below w.heap.size w w' := by
  cases h : vB s
  · exact back_w1 s g v str w hp h
  obtain ⟨n, rfl⟩ : ∃ n : Nat, s = n := by
    rcases vB_cases h with e | e | e | e
    · exact ⟨1, e⟩
    · exact ⟨2, e⟩
    · exact ⟨4, e⟩
    · exact ⟨8, e⟩
  have hW : Gives 41 #[.agg #[.int .i64 n, .bool g], .int .i64 v] (.int .i64 (wr n g v)) := fun w _ => wrapL_c n g v w h iv
  have hF := back_1 (g := g) h iv
  have hT : Gives 36 #[.agg #[.int .i64 n, .bool g], .int .i64 v] (.tuple #[.string (txV n g v), .int .i64 0]) := fun w _ => Text_c n g v w h iv
  have hP : Gives 38 #[.agg #[.int .i64 n, .bool g], .string (txV n g v)] (.tuple #[.int .i64 (wr n g v), .int .i64 0]) := by
    intro w _
    have := Parse_c n g (txV n g v) w h (txV_size h iv)
    have ho : pO n g (txV n g v) = true := by rw [pO_tx h iv, wr_wr h]; simp
    unfold pV pE at this
    rwa [if_pos ho, if_pos ho, pv_tx h iv, wr_wr h] at this
  have hQ : Gives 38 #[.agg #[.int .i64 n, .bool g], .string str] (.tuple #[.int .i64 (pV n g str), .int .i64 (pE n g str)]) := fun w _ => Parse_c n g str w h hs
  have hD : pO n g str = true → hxL (bts str) = false → Gives 36 #[.agg #[.int .i64 n, .bool g], .int .i64 (pv n g str)] (.tuple #[.string str, .int .i64 0]) := by
    intro ho hx w _
    have := Text_c n g (pv n g str) w h (wr_I64 h (pat_I64 _ _))
    rwa [text_back h ho hx] at this
  have hno : (∀ h1 : 1 < str.size, ¬ (str[1]'h1).toNat = 120) → hxL (bts str) = false := by
    intro hh
    cases hx : hxL (bts str)
    · rfl
    · obtain ⟨h1, h2⟩ := hxL_yes hx
      exact absurd h2 (hh h1)
  unfold pV pE at hQ
  by_cases hl : str.size = n
  · have hz := back_2 (g := g) h (cs := bts str) (by rw [bts_len]; exact hl) (bts_ok str)
    cases ho : pO n g str
    · rw [if_neg (by simp [ho]), if_neg (by simp [ho])] at hQ
      exact back_m10 n g v str _ _ _ w hp h hW hF hT hP hl hz hQ
    · rw [if_pos ho, if_pos ho] at hQ
      by_cases h1 : 1 < str.size
      · by_cases hx : (str[1]'h1).toNat = 120
        · exact back_m11 n g v str _ _ _ w hp h hW hF hT hP hl hz hQ h1 hx
        · exact back_m13 n g v str _ _ _ w hp h hW hF hT hP hl hz hQ h1 hx (hD ho (hno fun _ => hx))
      · exact back_m12 n g v str _ _ _ w hp h hW hF hT hP hl hz hQ h1 (hD ho (hno fun h2 => absurd h2 h1))
  · have hl' : ((str.size : Int) == (n : Int)) = false := beq_eq_false_iff_ne.2 (by omega)
    cases ho : pO n g str
    · rw [if_neg (by simp [ho]), if_neg (by simp [ho])] at hQ
      exact back_m00 n g v str _ _ _ w hp h hW hF hT hP hl' hQ
    · rw [if_pos ho, if_pos ho] at hQ
      by_cases h1 : 1 < str.size
      · by_cases hx : (str[1]'h1).toNat = 120
        · exact back_m01 n g v str _ _ _ w hp h hW hF hT hP hl' hQ h1 hx
        · exact back_m03 n g v str _ _ _ w hp h hW hF hT hP hl' hQ h1 hx (hD ho (hno fun _ => hx))
      · exact back_m02 n g v str _ _ _ w hp h hW hF hT hP hl' hQ h1 (hD ho (hno fun h2 => absurd h2 h1))
end Go.Proofs.YtfgmfkiknogdeaaDoor
