/- Contract of package ratio's Text. -/
import Derived.Test.YtbcnngjcggddbaaDoorText
import Derived.Lib.ItoaLen
namespace Go.Proofs.YtbcnngjcggddbaaDoor
open Go.RowKit Go.Shelf

theorem ret_text {a b : List UInt8} {k : Int} (h : a = b) : Ending.returned (.tuple #[.string ⟨a.toArray⟩, .int .i64 k]) = .returned (.tuple #[.string ⟨b.toArray⟩, .int .i64 k]) := by rw [h]

theorem itoa_len (n : Int) (h0 : -9223372036854775808 ≤ n) (h1 : n ≤ 9223372036854775807) : (Lib.itoa n).length ≤ 21 := by
  unfold Lib.itoa
  split
  · rw [List.length_cons, Lib.decDigits_length]
    have := Lib.nDigits_le20 n.natAbs (by omega)
    omega
  · rw [Lib.decDigits_length]
    have := Lib.nDigits_le20 n.toNat (by omega)
    omega

set_option maxHeartbeats 1000000 in
theorem Text_any (n d : Int) (w : World) (n0 : -9223372036854775808 ≤ n) (n1 : n ≤ 9223372036854775807) (d0 : -9223372036854775808 ≤ d) (d1 : d ≤ 9223372036854775807) (E : Env w) :
    Calls Tryd.prog 4 #[.agg #[.int .i64 n, .int .i64 d]] w fun e w' => e = .returned (.tuple #[.string ⟨(Rp.txtS n d).1.toArray⟩, .int .i64 (Rp.txtS n d).2]) ∧ Below w.heap.size w w' := by
  have cb := fun w => check_any n d w n0 n1 d0 d1
  have CF := Lib.hid (fun w => format_any n n0 n1 w)
  have CD := Lib.hid (fun w => format_any d d0 d1 w)
  rcases chk_cases n d with ⟨h, hx⟩ | ⟨h, hx⟩
  · have e : Rp.txtS n d = (Rp.txt n d, 0) := by unfold Rp.txtS; rw [if_pos hx]
    rw [e]
    rw [h] at cb
    have CB := Lib.hid cb
    dsimp only
    have e2 : Rp.txt n d = Lib.itoa n ++ (if d = 1 then [] else 47 :: Lib.itoa d) := rfl
    rw [e2]
    clear cb h hx e e2
    have E1 := Lib.hid E
    by_cases hd : d = 1
    · have hb : (d != 1) = false := by rw [hd]; rfl
      rw [if_pos hd]
      generalize Lib.itoa n = N at *
      clear hd CD E
      go_enter Tryd.func4, Tryd.ntmps4
      go_wp2_with fail
      refine (CB.out _).mono ?_
      rintro e w1 ⟨rfl, hb1⟩
      have x0 : w1.cell? ⟨w.heap.size, 0, none⟩ = some (.int .i64 n) := keepC hb1 (by go_simp)
      have x1 : w1.cell? ⟨w.heap.size, 1, none⟩ = some (.int .i64 d) := keepC hb1 (by go_simp)
      have E2 := Lib.hid (((E1.out).keep ((Below.refl _ _).alloc (Nat.le_refl _) _)).keep hb1)
      have hbb : Below w.heap.size w w1 := keepB ((Below.refl _ _).alloc (Nat.le_refl _) _) hb1
      clear hb1 CB
      go_wp2_with fail
      refine (CF.out _ E2.out).mono ?_
      rintro e w2 ⟨rfl, hb2⟩
      replace x0 := keepC hb2 x0
      replace x1 := keepC hb2 x1
      replace hbb := keepB hbb hb2
      clear hb2
      go_wp2
      go_ret2
      exact ⟨ret_text (by simp), hbb⟩
    · have hb : (d != 1) = true := by rw [bne_iff_ne]; exact hd
      rw [if_neg hd]
      have lN := itoa_len n n0 n1
      have lD := itoa_len d d0 d1
      generalize Lib.itoa n = N at *
      generalize Lib.itoa d = D at *
      have b1 : ¬ 9223372036854775807 < 1 + D.length := by omega
      have b2 : ¬ 9223372036854775807 < N.length + (1 + D.length) := by omega
      clear hd E
      go_enter Tryd.func4, Tryd.ntmps4
      go_wp2_with fail
      refine (CB.out _).mono ?_
      rintro e w1 ⟨rfl, hb1⟩
      have x0 : w1.cell? ⟨w.heap.size, 0, none⟩ = some (.int .i64 n) := keepC hb1 (by go_simp)
      have x1 : w1.cell? ⟨w.heap.size, 1, none⟩ = some (.int .i64 d) := keepC hb1 (by go_simp)
      have E2 := Lib.hid (((E1.out).keep ((Below.refl _ _).alloc (Nat.le_refl _) _)).keep hb1)
      have hbb : Below w.heap.size w w1 := keepB ((Below.refl _ _).alloc (Nat.le_refl _) _) hb1
      clear hb1 CB
      go_wp2_with fail
      refine (CF.out _ E2.out).mono ?_
      rintro e w2 ⟨rfl, hb2⟩
      replace x0 := keepC hb2 x0
      replace x1 := keepC hb2 x1
      have E3 := Lib.hid ((E2.out).keep hb2)
      replace hbb := keepB hbb hb2
      clear hb2
      go_wp2_with fail
      refine (CD.out _ E3.out).mono ?_
      rintro e w3 ⟨rfl, hb3⟩
      replace hbb := keepB hbb hb3
      clear hb3
      go_wp2
      go_ret2
      exact ⟨by simp [ByteArray.mk_append_mk], hbb⟩
  · have e : Rp.txtS n d = ([], 8) := by unfold Rp.txtS; rw [if_neg hx]
    rw [e]
    rw [h] at cb
    have CB := Lib.hid cb
    clear cb h hx e CF CD E
    go_enter Tryd.func4, Tryd.ntmps4
    go_wp2_with fail
    refine (CB.out _).mono ?_
    rintro e w1 ⟨rfl, hb1⟩
    have hbb : Below w.heap.size w w1 := keepB ((Below.refl _ _).alloc (Nat.le_refl _) _) hb1
    go_wp2
    go_ret2
    exact ⟨rfl, hbb⟩
end Go.Proofs.YtbcnngjcggddbaaDoor
