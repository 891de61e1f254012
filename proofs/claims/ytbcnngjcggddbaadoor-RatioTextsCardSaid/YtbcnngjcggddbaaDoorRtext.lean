/- Contract of the reference's Text. -/
import Derived.Test.YtbcnngjcggddbaaDoorDec
import Derived.Test.YtbcnngjcggddbaaDoorRef
import Derived.Test.YtbcnngjcggddbaaDoorTextw
import Derived.RegionTactic
namespace Go.Proofs.YtbcnngjcggddbaaDoor
open Go.RowKit

theorem rText_bad (n d : Int) (w : World) (n0 : -9223372036854775808 ≤ n) (n1 : n ≤ 9223372036854775807) (d0 : -9223372036854775808 ≤ d) (d1 : d ≤ 9223372036854775807) (h : Rp.chk n d = 8) :
    Calls Tryd.prog 5 #[.agg #[.int .i64 n, .int .i64 d]] w fun e w' => e = .returned (.tuple #[.string ⟨#[]⟩, .int .i64 8]) ∧ Below w.heap.size w w' := by
  have cb := fun w => rCheck_any n d w n0 n1 d0 d1
  rw [h] at cb
  have CB := Lib.hid cb
  clear cb h
  go_enter Tryd.func5, Tryd.ntmps5
  go_wp2_with fail
  refine (CB.out _).mono ?_
  rintro e w1 ⟨rfl, hb1⟩
  have x0 : w1.cell? ⟨w.heap.size, 0, none⟩ = some (.int .i64 n) := keepC hb1 (by go_simp)
  have x1 : w1.cell? ⟨w.heap.size, 1, none⟩ = some (.int .i64 d) := keepC hb1 (by go_simp)
  have hbb : Below w.heap.size w w1 := keepB ((Below.refl _ _).alloc (Nat.le_refl _) _) hb1
  clear hb1
  go_wp2_with fail
  refine (CB.out _).mono ?_
  rintro e w2 ⟨rfl, hb2⟩
  replace hbb := keepB hbb hb2
  clear hb2
  go_wp2
  go_ret2
  exact ⟨rfl, hbb⟩

set_option maxHeartbeats 1000000 in
theorem rText_neg (n : Int) (m : Nat) (d : Nat) (w : World) (hn : n < 0) (hm : IntKind.i64.wrap (-n) = m) (n0 : -9223372036854775808 ≤ n) (m1 : m ≤ 1000000000000000000) (d0 : 1 < d) (d1 : d ≤ 1000000000000000000) (h : Rp.chk n (d : Int) = 0) :
    Calls Tryd.prog 5 #[.agg #[.int .i64 n, .int .i64 (d : Int)]] w fun e w' => e = .returned (.tuple #[.string ⟨(45 :: Lib.decDigits m ++ 47 :: Lib.decDigits d).toArray⟩, .int .i64 0]) ∧ Below w.heap.size w w' := by
  have cb := fun w => rCheck_any n (d : Int) w n0 (by omega) (by omega) (by omega)
  rw [h] at cb
  have CB := Lib.hid cb
  have CM := Lib.hid (fun w => Decimal_any m m1 w)
  have CD := Lib.hid (fun w => Decimal_any d d1 w)
  have lD : (Lib.decDigits d).length ≤ 20 := by rw [Lib.decDigits_length]; exact Lib.nDigits_le20 d (by omega)
  have lM : (Lib.decDigits m).length ≤ 20 := by rw [Lib.decDigits_length]; exact Lib.nDigits_le20 m (by omega)
  generalize Lib.decDigits m = M at *
  generalize Lib.decDigits d = D at *
  clear cb h
  have b1 : ¬ 9223372036854775807 < 1 + M.length := by omega
  have b1' : ¬ 9223372036854775807 < M.length := by omega
  have b2 : ¬ 9223372036854775807 < 1 + D.length := by omega
  have b3 : ¬ 9223372036854775807 < 1 + M.length + (1 + D.length) := by omega
  go_enter Tryd.func5, Tryd.ntmps5
  go_wp2_with fail
  refine (CB.out _).mono ?_
  rintro e w1 ⟨rfl, hb1⟩
  have x0 : w1.cell? ⟨w.heap.size, 0, none⟩ = some (.int .i64 n) := keepC hb1 (by go_simp)
  have x1 : w1.cell? ⟨w.heap.size, 1, none⟩ = some (.int .i64 d) := keepC hb1 (by go_simp)
  have f0 : w1.frozen? ⟨w.heap.size, 0, none⟩ = false := keepF (v := .int .i64 n) hb1 (by go_simp) (by go_simp)
  have hbb : Below w.heap.size w w1 := keepB ((Below.refl _ _).alloc (Nat.le_refl _) _) hb1
  clear hb1 CB
  go_wp2_with fail
  go_region
  have y0 : (w1.setCell ⟨w.heap.size, 0, none⟩ (.int .i64 m)).drew.cell? ⟨w.heap.size, 0, none⟩ = some (.int .i64 m) := World.cell?_setCell_same _ _ _ x0
  have y1 : (w1.setCell ⟨w.heap.size, 0, none⟩ (.int .i64 m)).drew.cell? ⟨w.heap.size, 1, none⟩ = some (.int .i64 d) := (World.cell?_setCell_other _ _ _ _ (by simp)).trans x1
  have hb2 : Below w.heap.size w (w1.setCell ⟨w.heap.size, 0, none⟩ (.int .i64 m)).drew := (hbb.setCell (Nat.le_refl _) _).drew
  generalize (w1.setCell ⟨w.heap.size, 0, none⟩ (.int .i64 m)).drew = V at *
  clear x0 x1 f0 hbb hm hn n0
  go_wp2_with fail
  refine (CM.out _).mono ?_
  rintro e w2 ⟨rfl, hb3⟩
  replace y1 := keepC hb3 y1
  replace hb2 := keepB hb2 hb3
  clear y0 hb3
  go_wp2_with fail
  refine (CD.out _).mono ?_
  rintro e w3 ⟨rfl, hb4⟩
  replace hb2 := keepB hb2 hb4
  clear hb4
  go_wp2
  go_ret2
  exact ⟨by simp [ByteArray.mk_append_mk], hb2⟩

set_option maxHeartbeats 1000000 in
theorem rText_neg1 (n : Int) (m : Nat) (w : World) (hn : n < 0) (hm : IntKind.i64.wrap (-n) = m) (n0 : -9223372036854775808 ≤ n) (m1 : m ≤ 1000000000000000000) (h : Rp.chk n 1 = 0) :
    Calls Tryd.prog 5 #[.agg #[.int .i64 n, .int .i64 1]] w fun e w' => e = .returned (.tuple #[.string ⟨(45 :: Lib.decDigits m).toArray⟩, .int .i64 0]) ∧ Below w.heap.size w w' := by
  have cb := fun w => rCheck_any n 1 w n0 (by omega) (by omega) (by omega)
  rw [h] at cb
  have CB := Lib.hid cb
  have CM := Lib.hid (fun w => Decimal_any m m1 w)
  have lM : (Lib.decDigits m).length ≤ 20 := by rw [Lib.decDigits_length]; exact Lib.nDigits_le20 m (by omega)
  generalize Lib.decDigits m = M at *
  clear cb h
  have b1 : ¬ 9223372036854775807 < 1 + M.length := by omega
  have b1' : ¬ 9223372036854775807 < M.length := by omega
  go_enter Tryd.func5, Tryd.ntmps5
  go_wp2_with fail
  refine (CB.out _).mono ?_
  rintro e w1 ⟨rfl, hb1⟩
  have x0 : w1.cell? ⟨w.heap.size, 0, none⟩ = some (.int .i64 n) := keepC hb1 (by go_simp)
  have x1 : w1.cell? ⟨w.heap.size, 1, none⟩ = some (.int .i64 1) := keepC hb1 (by go_simp)
  have f0 : w1.frozen? ⟨w.heap.size, 0, none⟩ = false := keepF (v := .int .i64 n) hb1 (by go_simp) (by go_simp)
  have hbb : Below w.heap.size w w1 := keepB ((Below.refl _ _).alloc (Nat.le_refl _) _) hb1
  clear hb1 CB
  go_wp2_with fail
  go_region
  have y0 : (w1.setCell ⟨w.heap.size, 0, none⟩ (.int .i64 m)).drew.cell? ⟨w.heap.size, 0, none⟩ = some (.int .i64 m) := World.cell?_setCell_same _ _ _ x0
  have y1 : (w1.setCell ⟨w.heap.size, 0, none⟩ (.int .i64 m)).drew.cell? ⟨w.heap.size, 1, none⟩ = some (.int .i64 1) := (World.cell?_setCell_other _ _ _ _ (by simp)).trans x1
  have hb2 : Below w.heap.size w (w1.setCell ⟨w.heap.size, 0, none⟩ (.int .i64 m)).drew := (hbb.setCell (Nat.le_refl _) _).drew
  generalize (w1.setCell ⟨w.heap.size, 0, none⟩ (.int .i64 m)).drew = V at *
  clear x0 x1 f0 hbb hm hn n0
  go_wp2_with fail
  refine (CM.out _).mono ?_
  rintro e w2 ⟨rfl, hb3⟩
  replace y1 := keepC hb3 y1
  replace hb2 := keepB hb2 hb3
  clear y0 hb3
  go_wp2
  go_ret2
  exact ⟨by simp [ByteArray.mk_append_mk], hb2⟩

set_option maxHeartbeats 1000000 in
theorem rText_pos (m : Nat) (d : Nat) (w : World) (m1 : m ≤ 1000000000000000000) (d0 : 1 < d) (d1 : d ≤ 1000000000000000000) (h : Rp.chk (m : Int) (d : Int) = 0) :
    Calls Tryd.prog 5 #[.agg #[.int .i64 (m : Int), .int .i64 (d : Int)]] w fun e w' => e = .returned (.tuple #[.string ⟨(Lib.decDigits m ++ 47 :: Lib.decDigits d).toArray⟩, .int .i64 0]) ∧ Below w.heap.size w w' := by
  have cb := fun w => rCheck_any (m : Int) (d : Int) w (by omega) (by omega) (by omega) (by omega)
  rw [h] at cb
  have CB := Lib.hid cb
  have CM := Lib.hid (fun w => Decimal_any m m1 w)
  have CD := Lib.hid (fun w => Decimal_any d d1 w)
  have lD : (Lib.decDigits d).length ≤ 20 := by rw [Lib.decDigits_length]; exact Lib.nDigits_le20 d (by omega)
  have lM : (Lib.decDigits m).length ≤ 20 := by rw [Lib.decDigits_length]; exact Lib.nDigits_le20 m (by omega)
  generalize Lib.decDigits m = M at *
  generalize Lib.decDigits d = D at *
  clear cb h
  have b1 : ¬ 9223372036854775807 < 1 + M.length := by omega
  have b1' : ¬ 9223372036854775807 < M.length := by omega
  have b2 : ¬ 9223372036854775807 < 1 + D.length := by omega
  have b3 : ¬ 9223372036854775807 < M.length + (1 + D.length) := by omega
  go_enter Tryd.func5, Tryd.ntmps5
  go_wp2_with fail
  refine (CB.out _).mono ?_
  rintro e w1 ⟨rfl, hb1⟩
  have x0 : w1.cell? ⟨w.heap.size, 0, none⟩ = some (.int .i64 m) := keepC hb1 (by go_simp)
  have x1 : w1.cell? ⟨w.heap.size, 1, none⟩ = some (.int .i64 d) := keepC hb1 (by go_simp)
  have f0 : w1.frozen? ⟨w.heap.size, 0, none⟩ = false := keepF (v := .int .i64 m) hb1 (by go_simp) (by go_simp)
  have hbb : Below w.heap.size w w1 := keepB ((Below.refl _ _).alloc (Nat.le_refl _) _) hb1
  clear hb1 CB
  go_wp2_with fail
  refine (CM.out _).mono ?_
  rintro e w2 ⟨rfl, hb3⟩
  have y0 := x0
  have y1 := x1
  have hb2 := hbb
  clear x0 x1 hbb
  replace y1 := keepC hb3 y1
  replace hb2 := keepB hb2 hb3
  clear y0 hb3
  go_wp2_with fail
  refine (CD.out _).mono ?_
  rintro e w3 ⟨rfl, hb4⟩
  replace hb2 := keepB hb2 hb4
  clear hb4
  go_wp2
  go_ret2
  exact ⟨by simp [ByteArray.mk_append_mk], hb2⟩

set_option maxHeartbeats 1000000 in
theorem rText_pos1 (m : Nat) (w : World) (m1 : m ≤ 1000000000000000000) (h : Rp.chk (m : Int) 1 = 0) :
    Calls Tryd.prog 5 #[.agg #[.int .i64 (m : Int), .int .i64 1]] w fun e w' => e = .returned (.tuple #[.string ⟨(Lib.decDigits m).toArray⟩, .int .i64 0]) ∧ Below w.heap.size w w' := by
  have cb := fun w => rCheck_any (m : Int) 1 w (by omega) (by omega) (by omega) (by omega)
  rw [h] at cb
  have CB := Lib.hid cb
  have CM := Lib.hid (fun w => Decimal_any m m1 w)
  have lM : (Lib.decDigits m).length ≤ 20 := by rw [Lib.decDigits_length]; exact Lib.nDigits_le20 m (by omega)
  generalize Lib.decDigits m = M at *
  clear cb h
  have b1 : ¬ 9223372036854775807 < 1 + M.length := by omega
  have b1' : ¬ 9223372036854775807 < M.length := by omega
  go_enter Tryd.func5, Tryd.ntmps5
  go_wp2_with fail
  refine (CB.out _).mono ?_
  rintro e w1 ⟨rfl, hb1⟩
  have x0 : w1.cell? ⟨w.heap.size, 0, none⟩ = some (.int .i64 m) := keepC hb1 (by go_simp)
  have x1 : w1.cell? ⟨w.heap.size, 1, none⟩ = some (.int .i64 1) := keepC hb1 (by go_simp)
  have f0 : w1.frozen? ⟨w.heap.size, 0, none⟩ = false := keepF (v := .int .i64 m) hb1 (by go_simp) (by go_simp)
  have hbb : Below w.heap.size w w1 := keepB ((Below.refl _ _).alloc (Nat.le_refl _) _) hb1
  clear hb1 CB
  go_wp2_with fail
  refine (CM.out _).mono ?_
  rintro e w2 ⟨rfl, hb3⟩
  have y0 := x0
  have y1 := x1
  have hb2 := hbb
  clear x0 x1 hbb
  replace y1 := keepC hb3 y1
  replace hb2 := keepB hb2 hb3
  clear y0 hb3
  go_wp2
  go_ret2
  exact ⟨by simp [ByteArray.mk_append_mk], hb2⟩

theorem rText_any (n d : Int) (w : World) (n0 : -9223372036854775808 ≤ n) (n1 : n ≤ 9223372036854775807) (d0 : -9223372036854775808 ≤ d) (d1 : d ≤ 9223372036854775807) :
    Calls Tryd.prog 5 #[.agg #[.int .i64 n, .int .i64 d]] w fun e w' => e = .returned (.tuple #[.string ⟨(Rp.txtS n d).1.toArray⟩, .int .i64 (Rp.txtS n d).2]) ∧ Below w.heap.size w w' := by
  rcases chk_cases n d with ⟨h, hx⟩ | ⟨h, hx⟩
  · have e : Rp.txtS n d = (Rp.txt n d, 0) := by unfold Rp.txtS; rw [if_pos hx]
    rw [e]
    have hx' := hx
    unfold Rp.Ok at hx'
    obtain ⟨c0, c1, c2, c3⟩ : 1 ≤ d ∧ d ≤ 1000000000000000000 ∧ -1000000000000000000 ≤ n ∧ n ≤ 1000000000000000000 := by omega
    clear hx' hx e
    obtain ⟨D, rfl⟩ := Int.eq_ofNat_of_zero_le (show 0 ≤ d by omega)
    unfold Rp.txt
    rw [Lib.itoa_nonneg D]
    by_cases hn : n < 0
    · have hw : IntKind.i64.wrap (-n) = (n.natAbs : Int) := by rw [IntKind.wrap_i64]; omega
      have hi : Lib.itoa n = 45 :: Lib.decDigits n.natAbs := by unfold Lib.itoa; rw [if_pos hn]
      rw [hi]
      by_cases hd : (D : Int) = 1
      · rw [if_pos hd]
        rw [hd] at h ⊢
        have := rText_neg1 n n.natAbs w hn hw n0 (by omega) h
        simpa using this
      · rw [if_neg hd]
        exact rText_neg n n.natAbs D w hn hw n0 (by omega) (by omega) (by omega) h
    · obtain ⟨m, rfl⟩ := Int.eq_ofNat_of_zero_le (show 0 ≤ n by omega)
      rw [Lib.itoa_nonneg m]
      by_cases hd : (D : Int) = 1
      · rw [if_pos hd]
        rw [hd] at h ⊢
        have := rText_pos1 m w (by omega) h
        simpa using this
      · rw [if_neg hd]
        exact rText_pos m D w (by omega) (by omega) (by omega) h
  · have e : Rp.txtS n d = ([], 8) := by unfold Rp.txtS; rw [if_neg hx]
    rw [e]
    exact rText_bad n d w n0 n1 d0 d1 h
end Go.Proofs.YtbcnngjcggddbaaDoor
