/- WHAT IS PROVED: taplinelaw03.MemApart answers true, for every space and two words. CONDITIONS: the arguments read as lists of numbers. -/
import Derived.Test.YtdbcbmdekdfdoaaMa
import Derived.Test.YtdbcbmdekdfdoaaMg
namespace Go.Proofs.Ytdbcbmdekdfdoaa
open Go Go.RowKit Go.QrBits Go.QrMem

theorem st_y {P B : List Int} {t v : Int} {n : Nat} {g : Bool} (hc : chk P B.length = true) (hv : vB (n : Int) = true) (ht : I64 t) (hk : kN P B t 2 n = n) : StY P B t n g v (wrB B t (byL n v) n) :=
  fun a c a2 c2 w hs => (store_y a c a2 c2 P B t v n g w hs hc hv ht hk).mono fun _ _ h => spOut3_of h
theorem st_f {P B : List Int} {t v : Int} {n : Nat} {g : Bool} (hc : chk P B.length = true) (hv : vB (n : Int) = true) (ht : I64 t) (hk : kN P B t 2 n < n) : StF P B t n g v (fK P B t 2 n) (fX P B t 2 n) :=
  fun a c a2 c2 w hs => store_f a c a2 c2 P B t v n g w hs hc hv ht hk
theorem sm_y {P B : List Int} (hok : okB B) : SmY P B B := fun a c a2 c2 a' c' a2' c2' w h h' => by
  have := same_c a c a2 c2 P B a' c' a2' c2' P B w h h' hok hok
  simpa using this
theorem ck_y {P B : List Int} (hc : chk P B.length = true) : CkG P B 0 := fun a c a2 c2 w h => check_y a c a2 c2 P B w h hc
theorem ck_n {P B : List Int} (hc : chk P B.length = false) : CkG P B 30 := fun a c a2 c2 w h => check_n a c a2 c2 P B w h hc
theorem memApart_walk (a : Option Addr) (c : Nat) (a2 : Option Addr) (c2 : Nat) (P B : List Int) (tx sx vx ty sy vy : Int) (gx gy : Bool) (w : World) (hS : SpIn w a c a2 c2 P B) (hok : okB B) (htx : I64 tx) (hty : I64 ty) :
    Calls Try.prog 8 #[.agg #[.slice a P.length c, .slice a2 B.length c2], .agg #[.int .i64 tx, .int .i64 sx, .bool gx, .int .i64 vx], .agg #[.int .i64 ty, .int .i64 sy, .bool gy, .int .i64 vy]] w fun e w' => e = .returned (.bool true) ∧ Below w.heap.size w w' := by
  cases hc : chk P B.length with
  | false => exact ma_1 a c a2 c2 P B tx sx vx ty sy vy gx gy w hS (ck_n hc)
  | true =>
  cases hx : vB sx with
  | false => exact ma_2 a c a2 c2 P B tx sx vx ty sy vy gx gy w hS (ck_y hc) (fun w => rcheck_n sx gx w hx)
  | true =>
  cases hy : vB sy with
  | false => exact ma_3 a c a2 c2 P B tx sx vx ty sy vy gx gy w hS (ck_y hc) (fun w => rcheck_y sx gx w hx) (fun w => rcheck_n sy gy w hy)
  | true =>
  obtain ⟨n, rfl, hn8⟩ := vB_nat hx
  obtain ⟨m, rfl, hm8⟩ := vB_nat hy
  have hn := vB_le hx
  have hm := vB_le hy
  by_cases hap : apP tx n ty m
  rotate_left
  · exact ma_4 a c a2 c2 P B tx n vx ty m vy gx gy w hS (ck_y hc) (fun w => rcheck_y n gx w hx) (fun w => rcheck_y m gy w hy) (fun w => apart_n _ _ _ _ _ _ _ _ w (by omega) (by omega) hap)
  have ha : ApG tx n gx vx ty m gy vy true := fun w => apart_y _ _ _ _ _ _ _ _ w (by omega) (by omega) hap
  have lx : (wrB B tx (byL n vx) n).length = B.length := wrB_len _ _ _ _
  have ly : (wrB B ty (byL m vy) m).length = B.length := wrB_len _ _ _ _
  have cx : chk P (wrB B tx (byL n vx) n).length = true := by rw [lx]; exact hc
  have cy : chk P (wrB B ty (byL m vy) m).length = true := by rw [ly]; exact hc
  have hkx := kN_le P B tx 2 n
  have hky := kN_le P B ty 2 m
  have okx := wrB_ok tx hok (byL_ok n vx) n
  have oky := wrB_ok ty hok (byL_ok m vy) m
  by_cases kx : kN P B tx 2 n < n
  · have fx := st_f (v := vx) (g := gx) hc hx htx kx
    by_cases ky : kN P B ty 2 m < m
    · have fy := st_f (v := vy) (g := gy) hc hy hty ky
      exact ma_nn a c a2 c2 P B tx n vx ty m vy gx gy w hS _ _ _ _ (ck_y hc) (fun w => rcheck_y n gx w hx) (fun w => rcheck_y m gy w hy) ha fx (fK_ne kx) fy (fK_ne ky) fy fx (sm_y hok)
    · have fy := st_y (v := vy) (g := gy) hc hy hty (by omega)
      have f4 := st_f (v := vx) (g := gx) cy hx htx (by rw [kN_len ly]; exact kx)
      rw [fK_len ly, fX_len ly] at f4
      exact ma_ny a c a2 c2 P B tx n vx ty m vy gx gy w hS _ _ _ (ck_y hc) (fun w => rcheck_y n gx w hx) (fun w => rcheck_y m gy w hy) ha fx (fK_ne kx) fy fy f4 (sm_y oky)
  · have fx := st_y (v := vx) (g := gx) hc hx htx (by omega)
    by_cases ky : kN P B ty 2 m < m
    · have fy := st_f (v := vy) (g := gy) hc hy hty ky
      have f3 := st_f (v := vy) (g := gy) cx hy hty (by rw [kN_len lx]; exact ky)
      rw [fK_len lx, fX_len lx] at f3
      exact ma_yn a c a2 c2 P B tx n vx ty m vy gx gy w hS _ _ _ (ck_y hc) (fun w => rcheck_y n gx w hx) (fun w => rcheck_y m gy w hy) ha fx fy (fK_ne ky) f3 fx (sm_y okx)
    · have fy := st_y (v := vy) (g := gy) hc hy hty (by omega)
      have f3 := st_y (v := vy) (g := gy) cx hy hty (by rw [kN_len lx]; omega)
      have f4 := st_y (v := vx) (g := gx) cy hx htx (by rw [kN_len ly]; omega)
      obtain ⟨x0, x1⟩ := in_range (q := 2) (perm := P) (B := B) (t := tx) (n := n) (by omega) (by omega)
      obtain ⟨y0, y1⟩ := in_range (q := 2) (perm := P) (B := B) (t := ty) (n := m) (by omega) (by omega)
      rw [← wrB_comm x0 y0 x1 y1 hap.2.2.2.2] at f4
      exact ma_yy a c a2 c2 P B tx n vx ty m vy gx gy w hS _ _ _ (ck_y hc) (fun w => rcheck_y n gx w hx) (fun w => rcheck_y m gy w hy) ha fx fy f3 f4 (sm_y (wrB_ok ty okx (byL_ok m vy) m))
end Go.Proofs.Ytdbcbmdekdfdoaa
