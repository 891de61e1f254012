/- The reference's set operations of pieces, and its comparison. -/
import Derived.Test.YtomokdepndclpaaQd
import Derived.Test.YtomokdepndclpaaPrjoin0
import Derived.Test.YtomokdepndclpaaPrjoin1
import Derived.Test.YtomokdepndclpaaPrjoin2
namespace Go.Proofs.Ytomokdepndclpaa
open Go.RowKit
set_option maxHeartbeats 1000000 in
theorem rpBoth_any (A B : Option Addr) (ca cb : Nat) (xs ys : List Raw) (w : World) (ha : IsS w A xs) (hb : IsS w B ys) :
    Calls Try.prog 137 #[.slice A xs.length ca, .slice B ys.length cb] w fun e w' => e = .returned (.int .i64 (if Pc.chk xs = 0 then Pc.chk ys else Pc.chk xs)) ∧ Below w.heap.size w w' := by
  have ck := fun v (hv : Below w.heap.size w v) => rChk_any A ca xs v (ha.keep hv)
  have dk := fun v (hv : Below w.heap.size w v) => rChk_any B cb ys v (hb.keep hv)
  by_cases hx : Pc.chk xs = 0
  · rw [if_pos hx]
    rw [hx] at ck
    generalize Pc.chk ys = c at *
    have CK := Lib.hid ck
    have DK := Lib.hid dk
    clear ck dk hx ha hb
    go_enter Try.func137, Try.ntmps137
    go_wp2_with fail
    refine (CK.out _ (Below.refl _ _)).mono ?_
    rintro e w1 ⟨rfl, hb1⟩
    go_wp2_with fail
    refine (DK.out _ hb1).mono ?_
    rintro e w2 ⟨rfl, hb2⟩
    go_wp2_with fail
    go_ret
    exact ⟨rfl, keepB hb1 hb2⟩
  · rw [if_neg hx]
    have n1 : (Pc.chk xs != 0) = true := by rw [bne_iff_ne]; exact hx
    generalize Pc.chk xs = c at *
    have CK := Lib.hid ck
    clear ck dk hx ha hb
    go_enter Try.func137, Try.ntmps137
    go_wp2_with fail
    refine (CK.out _ (Below.refl _ _)).mono ?_
    rintro e w1 ⟨rfl, hb1⟩
    go_wp2_with fail
    refine (CK.out _ hb1).mono ?_
    rintro e w2 ⟨rfl, hb2⟩
    go_wp2_with fail
    go_ret
    exact ⟨rfl, keepB hb1 hb2⟩
set_option linter.unusedSimpArgs false in
set_option linter.unusedVariables false in
set_option maxHeartbeats 4000000 in
set_option maxRecDepth 100000 in
theorem rset0_any (A B : Option Addr) (ca cb : Nat) (xs ys : List Raw) (w : World) (ha : IsS w A xs) (hb : IsS w B ys) :
    Calls Try.prog 111 #[.slice A xs.length ca, .slice B ys.length cb, .int .i64 0] w fun e w' => ∃ v, e = .returned (.tuple #[v, .int .i64 (Pc.setS (fun x y => x || y) xs ys).2]) ∧ Acc w w.heap.size 51 4 v (Pc.setS (fun x y => x || y) xs ys).1.length (Pc.cells4 (Pc.setS (fun x y => x || y) xs ys).1) w' := by
  have bt := fun v (hv : Below w.heap.size w v) => rpBoth_any A B ca cb xs ys v (ha.keep hv) (hb.keep hv)
  by_cases hx : Pc.chk xs = 0
  · rw [if_pos hx] at bt
    by_cases hy : Pc.chk ys = 0
    · obtain ⟨La, rfl, gA⟩ := Pc.chk_good hx
      obtain ⟨Lb, rfl, gB⟩ := Pc.chk_good hy
      have hs := Pc.swp_fit (fun x y => x || y) gA gB
      rw [Pc.setS_both hx hy]
      rw [hy] at bt
      rw [List.length_map, List.length_map] at bt
      rw [List.length_map, List.length_map]
      have BT := Lib.hid bt
      have jo := fun v (hv : Below w.heap.size w v) => rjoined0_any A B ca cb La Lb v gA gB (ha.keep hv) (hb.keep hv)
      have hpl := Pc.pairs_len _ (Pc.swp (fun x y => x || y) (Pc.ends La) (Pc.ends Lb) false false false) (Nat.le_refl _)
      unfold Pc.ofE
      rw [← hpl]
      generalize Pc.pairs (Pc.swp (fun x y => x || y) (Pc.ends La) (Pc.ends Lb) false false false) = R at *
      have JO := Lib.hid jo
      clear bt jo hx hy ha hb gA gB hs hpl
      by_cases hm : 60 < R.length
      · rw [if_pos hm]
        have e1 : decide ((60 : Int) < (R.length : Int)) = true := decide_eq_true (by omega)
        clear hm
        go_enter Try.func111, Try.ntmps111
        go_wp2_with fail
        refine (BT.out _ (Below.refl _ _)).mono ?_
        rintro e w1 ⟨rfl, hb1⟩
        go_wp2_with fail
        refine (JO.out _ hb1).mono ?_
        rintro e w2 ⟨v2, rfl, hv2⟩
        obtain ⟨A2, c2, rfl, hc2⟩ := row_cap hv2.row
        have hr := Acc.rebase0 hb1 hv2
        clear hv2 hb1
        go_wp2_with fail
        go_ret2
        exact ⟨_, rfl, hr.bb, hr.hB, World.ownsRow_nil _ _ _ _⟩
      · rw [if_neg hm]
        have e1 : decide ((60 : Int) < (R.length : Int)) = false := decide_eq_false (by omega)
        clear hm
        go_enter Try.func111, Try.ntmps111
        go_wp2_with fail
        refine (BT.out _ (Below.refl _ _)).mono ?_
        rintro e w1 ⟨rfl, hb1⟩
        go_wp2_with fail
        refine (JO.out _ hb1).mono ?_
        rintro e w2 ⟨v2, rfl, hv2⟩
        obtain ⟨A2, c2, rfl, hc2⟩ := row_cap hv2.row
        have hr := Acc.rebase0 hb1 hv2
        clear hv2 hb1
        go_wp2_with fail
        go_ret2
        exact ⟨_, rfl, hr⟩
    · rw [Pc.setS_second hx hy]
      have n1 : (Pc.chk ys != 0) = true := by rw [bne_iff_ne]; exact hy
      clear hx hy
      generalize Pc.chk ys = c at *
      have BT := Lib.hid bt
      clear bt ha hb
      go_enter Try.func111, Try.ntmps111
      go_wp2_with fail
      refine (BT.out _ (Below.refl _ _)).mono ?_
      rintro e w1 ⟨rfl, hb1⟩
      go_wp2_with fail
      refine (BT.out _ hb1).mono ?_
      rintro e w2 ⟨rfl, hb2⟩
      replace hb2 := keepB hb1 hb2
      go_wp2_with fail
      go_ret2
      exact ⟨_, rfl, hb2, hb2.size, World.ownsRow_nil _ _ _ _⟩
  · rw [Pc.setS_first hx]
    rw [if_neg hx] at bt
    have n1 : (Pc.chk xs != 0) = true := by rw [bne_iff_ne]; exact hx
    clear hx
    generalize Pc.chk xs = c at *
    have BT := Lib.hid bt
    clear bt ha hb
    go_enter Try.func111, Try.ntmps111
    go_wp2_with fail
    refine (BT.out _ (Below.refl _ _)).mono ?_
    rintro e w1 ⟨rfl, hb1⟩
    go_wp2_with fail
    refine (BT.out _ hb1).mono ?_
    rintro e w2 ⟨rfl, hb2⟩
    replace hb2 := keepB hb1 hb2
    go_wp2_with fail
    go_ret2
    exact ⟨_, rfl, hb2, hb2.size, World.ownsRow_nil _ _ _ _⟩
set_option linter.unusedSimpArgs false in
set_option linter.unusedVariables false in
set_option maxHeartbeats 4000000 in
set_option maxRecDepth 100000 in
theorem rset1_any (A B : Option Addr) (ca cb : Nat) (xs ys : List Raw) (w : World) (ha : IsS w A xs) (hb : IsS w B ys) :
    Calls Try.prog 111 #[.slice A xs.length ca, .slice B ys.length cb, .int .i64 1] w fun e w' => ∃ v, e = .returned (.tuple #[v, .int .i64 (Pc.setS (fun x y => x && y) xs ys).2]) ∧ Acc w w.heap.size 51 4 v (Pc.setS (fun x y => x && y) xs ys).1.length (Pc.cells4 (Pc.setS (fun x y => x && y) xs ys).1) w' := by
  have bt := fun v (hv : Below w.heap.size w v) => rpBoth_any A B ca cb xs ys v (ha.keep hv) (hb.keep hv)
  by_cases hx : Pc.chk xs = 0
  · rw [if_pos hx] at bt
    by_cases hy : Pc.chk ys = 0
    · obtain ⟨La, rfl, gA⟩ := Pc.chk_good hx
      obtain ⟨Lb, rfl, gB⟩ := Pc.chk_good hy
      have hs := Pc.swp_fit (fun x y => x && y) gA gB
      rw [Pc.setS_both hx hy]
      rw [hy] at bt
      rw [List.length_map, List.length_map] at bt
      rw [List.length_map, List.length_map]
      have BT := Lib.hid bt
      have jo := fun v (hv : Below w.heap.size w v) => rjoined1_any A B ca cb La Lb v gA gB (ha.keep hv) (hb.keep hv)
      have hpl := Pc.pairs_len _ (Pc.swp (fun x y => x && y) (Pc.ends La) (Pc.ends Lb) false false false) (Nat.le_refl _)
      unfold Pc.ofE
      rw [← hpl]
      generalize Pc.pairs (Pc.swp (fun x y => x && y) (Pc.ends La) (Pc.ends Lb) false false false) = R at *
      have JO := Lib.hid jo
      clear bt jo hx hy ha hb gA gB hs hpl
      by_cases hm : 60 < R.length
      · rw [if_pos hm]
        have e1 : decide ((60 : Int) < (R.length : Int)) = true := decide_eq_true (by omega)
        clear hm
        go_enter Try.func111, Try.ntmps111
        go_wp2_with fail
        refine (BT.out _ (Below.refl _ _)).mono ?_
        rintro e w1 ⟨rfl, hb1⟩
        go_wp2_with fail
        refine (JO.out _ hb1).mono ?_
        rintro e w2 ⟨v2, rfl, hv2⟩
        obtain ⟨A2, c2, rfl, hc2⟩ := row_cap hv2.row
        have hr := Acc.rebase0 hb1 hv2
        clear hv2 hb1
        go_wp2_with fail
        go_ret2
        exact ⟨_, rfl, hr.bb, hr.hB, World.ownsRow_nil _ _ _ _⟩
      · rw [if_neg hm]
        have e1 : decide ((60 : Int) < (R.length : Int)) = false := decide_eq_false (by omega)
        clear hm
        go_enter Try.func111, Try.ntmps111
        go_wp2_with fail
        refine (BT.out _ (Below.refl _ _)).mono ?_
        rintro e w1 ⟨rfl, hb1⟩
        go_wp2_with fail
        refine (JO.out _ hb1).mono ?_
        rintro e w2 ⟨v2, rfl, hv2⟩
        obtain ⟨A2, c2, rfl, hc2⟩ := row_cap hv2.row
        have hr := Acc.rebase0 hb1 hv2
        clear hv2 hb1
        go_wp2_with fail
        go_ret2
        exact ⟨_, rfl, hr⟩
    · rw [Pc.setS_second hx hy]
      have n1 : (Pc.chk ys != 0) = true := by rw [bne_iff_ne]; exact hy
      clear hx hy
      generalize Pc.chk ys = c at *
      have BT := Lib.hid bt
      clear bt ha hb
      go_enter Try.func111, Try.ntmps111
      go_wp2_with fail
      refine (BT.out _ (Below.refl _ _)).mono ?_
      rintro e w1 ⟨rfl, hb1⟩
      go_wp2_with fail
      refine (BT.out _ hb1).mono ?_
      rintro e w2 ⟨rfl, hb2⟩
      replace hb2 := keepB hb1 hb2
      go_wp2_with fail
      go_ret2
      exact ⟨_, rfl, hb2, hb2.size, World.ownsRow_nil _ _ _ _⟩
  · rw [Pc.setS_first hx]
    rw [if_neg hx] at bt
    have n1 : (Pc.chk xs != 0) = true := by rw [bne_iff_ne]; exact hx
    clear hx
    generalize Pc.chk xs = c at *
    have BT := Lib.hid bt
    clear bt ha hb
    go_enter Try.func111, Try.ntmps111
    go_wp2_with fail
    refine (BT.out _ (Below.refl _ _)).mono ?_
    rintro e w1 ⟨rfl, hb1⟩
    go_wp2_with fail
    refine (BT.out _ hb1).mono ?_
    rintro e w2 ⟨rfl, hb2⟩
    replace hb2 := keepB hb1 hb2
    go_wp2_with fail
    go_ret2
    exact ⟨_, rfl, hb2, hb2.size, World.ownsRow_nil _ _ _ _⟩
set_option linter.unusedSimpArgs false in
set_option linter.unusedVariables false in
set_option maxHeartbeats 4000000 in
set_option maxRecDepth 100000 in
theorem rset2_any (A B : Option Addr) (ca cb : Nat) (xs ys : List Raw) (w : World) (ha : IsS w A xs) (hb : IsS w B ys) :
    Calls Try.prog 111 #[.slice A xs.length ca, .slice B ys.length cb, .int .i64 2] w fun e w' => ∃ v, e = .returned (.tuple #[v, .int .i64 (Pc.setS (fun x y => x && !y) xs ys).2]) ∧ Acc w w.heap.size 51 4 v (Pc.setS (fun x y => x && !y) xs ys).1.length (Pc.cells4 (Pc.setS (fun x y => x && !y) xs ys).1) w' := by
  have bt := fun v (hv : Below w.heap.size w v) => rpBoth_any A B ca cb xs ys v (ha.keep hv) (hb.keep hv)
  by_cases hx : Pc.chk xs = 0
  · rw [if_pos hx] at bt
    by_cases hy : Pc.chk ys = 0
    · obtain ⟨La, rfl, gA⟩ := Pc.chk_good hx
      obtain ⟨Lb, rfl, gB⟩ := Pc.chk_good hy
      have hs := Pc.swp_fit (fun x y => x && !y) gA gB
      rw [Pc.setS_both hx hy]
      rw [hy] at bt
      rw [List.length_map, List.length_map] at bt
      rw [List.length_map, List.length_map]
      have BT := Lib.hid bt
      have jo := fun v (hv : Below w.heap.size w v) => rjoined2_any A B ca cb La Lb v gA gB (ha.keep hv) (hb.keep hv)
      have hpl := Pc.pairs_len _ (Pc.swp (fun x y => x && !y) (Pc.ends La) (Pc.ends Lb) false false false) (Nat.le_refl _)
      unfold Pc.ofE
      rw [← hpl]
      generalize Pc.pairs (Pc.swp (fun x y => x && !y) (Pc.ends La) (Pc.ends Lb) false false false) = R at *
      have JO := Lib.hid jo
      clear bt jo hx hy ha hb gA gB hs hpl
      by_cases hm : 60 < R.length
      · rw [if_pos hm]
        have e1 : decide ((60 : Int) < (R.length : Int)) = true := decide_eq_true (by omega)
        clear hm
        go_enter Try.func111, Try.ntmps111
        go_wp2_with fail
        refine (BT.out _ (Below.refl _ _)).mono ?_
        rintro e w1 ⟨rfl, hb1⟩
        go_wp2_with fail
        refine (JO.out _ hb1).mono ?_
        rintro e w2 ⟨v2, rfl, hv2⟩
        obtain ⟨A2, c2, rfl, hc2⟩ := row_cap hv2.row
        have hr := Acc.rebase0 hb1 hv2
        clear hv2 hb1
        go_wp2_with fail
        go_ret2
        exact ⟨_, rfl, hr.bb, hr.hB, World.ownsRow_nil _ _ _ _⟩
      · rw [if_neg hm]
        have e1 : decide ((60 : Int) < (R.length : Int)) = false := decide_eq_false (by omega)
        clear hm
        go_enter Try.func111, Try.ntmps111
        go_wp2_with fail
        refine (BT.out _ (Below.refl _ _)).mono ?_
        rintro e w1 ⟨rfl, hb1⟩
        go_wp2_with fail
        refine (JO.out _ hb1).mono ?_
        rintro e w2 ⟨v2, rfl, hv2⟩
        obtain ⟨A2, c2, rfl, hc2⟩ := row_cap hv2.row
        have hr := Acc.rebase0 hb1 hv2
        clear hv2 hb1
        go_wp2_with fail
        go_ret2
        exact ⟨_, rfl, hr⟩
    · rw [Pc.setS_second hx hy]
      have n1 : (Pc.chk ys != 0) = true := by rw [bne_iff_ne]; exact hy
      clear hx hy
      generalize Pc.chk ys = c at *
      have BT := Lib.hid bt
      clear bt ha hb
      go_enter Try.func111, Try.ntmps111
      go_wp2_with fail
      refine (BT.out _ (Below.refl _ _)).mono ?_
      rintro e w1 ⟨rfl, hb1⟩
      go_wp2_with fail
      refine (BT.out _ hb1).mono ?_
      rintro e w2 ⟨rfl, hb2⟩
      replace hb2 := keepB hb1 hb2
      go_wp2_with fail
      go_ret2
      exact ⟨_, rfl, hb2, hb2.size, World.ownsRow_nil _ _ _ _⟩
  · rw [Pc.setS_first hx]
    rw [if_neg hx] at bt
    have n1 : (Pc.chk xs != 0) = true := by rw [bne_iff_ne]; exact hx
    clear hx
    generalize Pc.chk xs = c at *
    have BT := Lib.hid bt
    clear bt ha hb
    go_enter Try.func111, Try.ntmps111
    go_wp2_with fail
    refine (BT.out _ (Below.refl _ _)).mono ?_
    rintro e w1 ⟨rfl, hb1⟩
    go_wp2_with fail
    refine (BT.out _ hb1).mono ?_
    rintro e w2 ⟨rfl, hb2⟩
    replace hb2 := keepB hb1 hb2
    go_wp2_with fail
    go_ret2
    exact ⟨_, rfl, hb2, hb2.size, World.ownsRow_nil _ _ _ _⟩
set_option maxHeartbeats 1000000 in
theorem rUnion_any (A B : Option Addr) (ca cb : Nat) (xs ys : List Raw) (w : World) (ha : IsS w A xs) (hb : IsS w B ys) :
    Calls Try.prog 47 #[.slice A xs.length ca, .slice B ys.length cb] w fun e w' => ∃ v, e = .returned (.tuple #[v, .int .i64 (Pc.setS (fun x y => x || y) xs ys).2]) ∧ Acc w w.heap.size 51 4 v (Pc.setS (fun x y => x || y) xs ys).1.length (Pc.cells4 (Pc.setS (fun x y => x || y) xs ys).1) w' := by
  have C := Lib.hid (rset0_any A B ca cb xs ys w ha hb)
  generalize Pc.setS (fun x y => x || y) xs ys = R at *
  clear ha hb
  go_enter Try.func47, Try.ntmps47
  go_wp2_with fail
  refine C.out.mono ?_
  rintro e w1 ⟨v, rfl, hv⟩
  go_wp2_with fail
  go_ret2
  exact ⟨_, rfl, hv⟩
set_option maxHeartbeats 1000000 in
theorem rMeet_any (A B : Option Addr) (ca cb : Nat) (xs ys : List Raw) (w : World) (ha : IsS w A xs) (hb : IsS w B ys) :
    Calls Try.prog 48 #[.slice A xs.length ca, .slice B ys.length cb] w fun e w' => ∃ v, e = .returned (.tuple #[v, .int .i64 (Pc.setS (fun x y => x && y) xs ys).2]) ∧ Acc w w.heap.size 51 4 v (Pc.setS (fun x y => x && y) xs ys).1.length (Pc.cells4 (Pc.setS (fun x y => x && y) xs ys).1) w' := by
  have C := Lib.hid (rset1_any A B ca cb xs ys w ha hb)
  generalize Pc.setS (fun x y => x && y) xs ys = R at *
  clear ha hb
  go_enter Try.func48, Try.ntmps48
  go_wp2_with fail
  refine C.out.mono ?_
  rintro e w1 ⟨v, rfl, hv⟩
  go_wp2_with fail
  go_ret2
  exact ⟨_, rfl, hv⟩
set_option maxHeartbeats 1000000 in
theorem rMinus_any (A B : Option Addr) (ca cb : Nat) (xs ys : List Raw) (w : World) (ha : IsS w A xs) (hb : IsS w B ys) :
    Calls Try.prog 49 #[.slice A xs.length ca, .slice B ys.length cb] w fun e w' => ∃ v, e = .returned (.tuple #[v, .int .i64 (Pc.setS (fun x y => x && !y) xs ys).2]) ∧ Acc w w.heap.size 51 4 v (Pc.setS (fun x y => x && !y) xs ys).1.length (Pc.cells4 (Pc.setS (fun x y => x && !y) xs ys).1) w' := by
  have C := Lib.hid (rset2_any A B ca cb xs ys w ha hb)
  generalize Pc.setS (fun x y => x && !y) xs ys = R at *
  clear ha hb
  go_enter Try.func49, Try.ntmps49
  go_wp2_with fail
  refine C.out.mono ?_
  rintro e w1 ⟨v, rfl, hv⟩
  go_wp2_with fail
  go_ret2
  exact ⟨_, rfl, hv⟩
set_option linter.unusedSimpArgs false in
set_option maxHeartbeats 4000000 in
set_option maxRecDepth 100000 in
theorem rpSame_any (A B : Option Addr) (ca cb : Nat) (xs : List Raw) (w : World) (ha : IsS w A xs) (hb : IsS w B xs) :
    Calls Try.prog 50 #[.slice A xs.length ca, .slice B xs.length cb] w fun e w' => e = .returned (.bool true) ∧ Below w.heap.size w w' := by
  have cells : ∀ (A : Option Addr), IsS w A xs → ∃ b off, (0 < xs.length → A = some ⟨b, off, none⟩) ∧ ∀ i, i < xs.length → w.cell? ⟨b, off + i * 4, none⟩ = some (.int .i64 (Pc.at_ xs i).a) ∧ w.cell? ⟨b, off + i * 4 + 1, none⟩ = some (.int .i64 (Pc.at_ xs i).b) ∧ w.cell? ⟨b, off + i * 4 + 2, none⟩ = some (.int .i64 (Pc.at_ xs i).c) ∧ w.cell? ⟨b, off + i * 4 + 3, none⟩ = some (.int .i64 (Pc.at_ xs i).d) := by
    intro A h
    by_cases h0 : 0 < xs.length
    · obtain ⟨b, off, e, k⟩ := h.1 h0
      exact ⟨b, off, fun _ => e, k⟩
    · exact ⟨0, 0, fun k => absurd k h0, fun i hi => absurd hi (by omega)⟩
  obtain ⟨b1, o1, hA, hc⟩ := cells A ha
  obtain ⟨b2, o2, hB, hd⟩ := cells B hb
  have HC := Lib.hid hc
  have HD := Lib.hid hd
  have HA := Lib.hid hA
  have HB := Lib.hid hB
  have hml := ha.2.2
  clear hc hd hA hB cells ha hb
  have hm2 : (xs.length : Int) ≤ 9223372036854775807 := by unfold maxLen at hml; omega
  go_enter Try.func50, Try.ntmps50
  go_wp2_with fail
  go_loopw [5] (fun i W => ∃ k : Nat, k ≤ xs.length ∧ i = .int .i64 k ∧ Below w.heap.size w W) (fun i _ => xs.length - (intOf i).toNat)
  case atStart => exact ⟨0, Nat.zero_le _, rfl, Below.refl _ _⟩
  case round =>
    obtain ⟨k, hk, rfl, hbb⟩ := hrel
    by_cases hlt : k < xs.length
    · have hA' := HA.out (by omega)
      subst hA'
      have hB' := HB.out (by omega)
      subst hB'
      obtain ⟨s, hs⟩ : ∃ s, Pc.at_ xs k = s := ⟨_, rfl⟩
      obtain ⟨c0, c1, c2, c3⟩ := HC.out k hlt
      obtain ⟨d0, d1, d2, d3⟩ := HD.out k hlt
      rw [hs] at c0 c1 c2 c3 d0 d1 d2 d3
      replace c0 := keepC hbb c0
      replace c1 := keepC hbb c1
      replace c2 := keepC hbb c2
      replace c3 := keepC hbb c3
      replace d0 := keepC hbb d0
      replace d1 := keepC hbb d1
      replace d2 := keepC hbb d2
      replace d3 := keepC hbb d3
      have i1 : (0 : Int) ≤ (k : Int) := by omega
      have i2 : (k : Int) < (xs.length : Int) := by omega
      clear hs
      go_upto_region 6 with fail
      refine at_worldQ (fun v => Below w.heap.size w v ∧ v.cell? ⟨b1, o1 + k * 4, none⟩ = some (.int .i64 s.a) ∧ v.cell? ⟨b1, o1 + k * 4 + 1, none⟩ = some (.int .i64 s.b) ∧ v.cell? ⟨b1, o1 + k * 4 + 2, none⟩ = some (.int .i64 s.c) ∧ v.cell? ⟨b1, o1 + k * 4 + 3, none⟩ = some (.int .i64 s.d) ∧ v.cell? ⟨b2, o2 + k * 4, none⟩ = some (.int .i64 s.a) ∧ v.cell? ⟨b2, o2 + k * 4 + 1, none⟩ = some (.int .i64 s.b) ∧ v.cell? ⟨b2, o2 + k * 4 + 2, none⟩ = some (.int .i64 s.c) ∧ v.cell? ⟨b2, o2 + k * 4 + 3, none⟩ = some (.int .i64 s.d)) ⟨hbb, c0, c1, c2, c3, d0, d1, d2, d3⟩ (fun V hS => ?_)
      clear hbb c0 c1 c2 c3 d0 d1 d2 d3
      obtain ⟨hbb, c0, c1, c2, c3, d0, d1, d2, d3⟩ := hS
      refine wp_region_noPanic ?_
      refine wp_region_held_drew (S := (Below V.heap.size V)) (by kernel_rfl) ((Below.refl _ _).drew) (fun hHeld => ?_)
      refine at_anyH (Below V.heap.size V) hHeld (fun wq0 hNew => ?_)
      clear hHeld
      have hHeld := hNew
      clear hNew
      refine wpAnyH_take (i := 0) (oi := _) (v := ?vq1) rfl (by kernel_rfl) (by kernel_rfl) (by kernel_rfl) (fun _ _ _ h => h) (Or.inl ⟨by kernel_rfl, ?hyq1⟩) hHeld ?restq1
      case hyq1 => (intro w hSw; go_simp; first | done | (with_reducible rfl))
      try simp only [Act.put, List.getElem_toArray, List.getElem_cons_succ, List.getElem_cons_zero, List.setIfInBounds_toArray, List.set_cons_zero, List.set_cons_succ]
      refine wpAnyH_take (i := 1) (oi := _) (v := ?vq2) rfl (by kernel_rfl) (by kernel_rfl) (by kernel_rfl) (fun _ _ _ h => h) (Or.inl ⟨by kernel_rfl, ?hyq2⟩) hHeld ?restq2
      case hyq2 => (intro w hSw; go_simp; first | done | (with_reducible rfl))
      try simp only [Act.put, List.getElem_toArray, List.getElem_cons_succ, List.getElem_cons_zero, List.setIfInBounds_toArray, List.set_cons_zero, List.set_cons_succ]
      refine wpAnyH_take (i := 2) (oi := _) (v := ?vq3) rfl (by kernel_rfl) (by kernel_rfl) (by kernel_rfl) (fun _ _ _ h => h) (Or.inl ⟨by kernel_rfl, ?hyq3⟩) hHeld ?restq3
      case hyq3 => (intro w hSw; go_simp; first | done | (with_reducible rfl))
      try simp only [Act.put, List.getElem_toArray, List.getElem_cons_succ, List.getElem_cons_zero, List.setIfInBounds_toArray, List.set_cons_zero, List.set_cons_succ]
      refine wpAnyH_take (i := 3) (oi := _) (v := ?vq4) rfl (by kernel_rfl) (by kernel_rfl) (by kernel_rfl) (fun _ _ _ h => h) (Or.inl ⟨by kernel_rfl, ?hyq4⟩) hHeld ?restq4
      case hyq4 => (intro w hSw; have kc0 := keepC hSw c0; have kc1 := keepC hSw c1; have kc2 := keepC hSw c2; have kc3 := keepC hSw c3; have kd0 := keepC hSw d0; have kd1 := keepC hSw d1; have kd2 := keepC hSw d2; have kd3 := keepC hSw d3; go_simp; first | done | (with_reducible rfl))
      try simp only [Act.put, List.getElem_toArray, List.getElem_cons_succ, List.getElem_cons_zero, List.setIfInBounds_toArray, List.set_cons_zero, List.set_cons_succ]
      refine wpAnyH_take (i := 4) (oi := _) (v := ?vq5) rfl (by kernel_rfl) (by kernel_rfl) (by kernel_rfl) (fun _ _ _ h => h) (Or.inl ⟨by kernel_rfl, ?hyq5⟩) hHeld ?restq5
      case hyq5 => (intro w hSw; go_simp; first | done | (with_reducible rfl))
      try simp only [Act.put, List.getElem_toArray, List.getElem_cons_succ, List.getElem_cons_zero, List.setIfInBounds_toArray, List.set_cons_zero, List.set_cons_succ]
      refine wpAnyH_take (i := 5) (oi := _) (v := ?vq6) rfl (by kernel_rfl) (by kernel_rfl) (by kernel_rfl) (fun _ _ _ h => h) (Or.inl ⟨by kernel_rfl, ?hyq6⟩) hHeld ?restq6
      case hyq6 => (intro w hSw; go_simp; first | done | (with_reducible rfl))
      try simp only [Act.put, List.getElem_toArray, List.getElem_cons_succ, List.getElem_cons_zero, List.setIfInBounds_toArray, List.set_cons_zero, List.set_cons_succ]
      refine wpAnyH_take (i := 6) (oi := _) (v := ?vq7) rfl (by kernel_rfl) (by kernel_rfl) (by kernel_rfl) (fun _ _ _ h => h) (Or.inl ⟨by kernel_rfl, ?hyq7⟩) hHeld ?restq7
      case hyq7 => (intro w hSw; go_simp; first | done | (with_reducible rfl))
      try simp only [Act.put, List.getElem_toArray, List.getElem_cons_succ, List.getElem_cons_zero, List.setIfInBounds_toArray, List.set_cons_zero, List.set_cons_succ]
      refine wpAnyH_take (i := 7) (oi := _) (v := ?vq8) rfl (by kernel_rfl) (by kernel_rfl) (by kernel_rfl) (fun _ _ _ h => h) (Or.inl ⟨by kernel_rfl, ?hyq8⟩) hHeld ?restq8
      case hyq8 => (intro w hSw; have kc0 := keepC hSw c0; have kc1 := keepC hSw c1; have kc2 := keepC hSw c2; have kc3 := keepC hSw c3; have kd0 := keepC hSw d0; have kd1 := keepC hSw d1; have kd2 := keepC hSw d2; have kd3 := keepC hSw d3; go_simp; first | done | (with_reducible rfl))
      try simp only [Act.put, List.getElem_toArray, List.getElem_cons_succ, List.getElem_cons_zero, List.setIfInBounds_toArray, List.set_cons_zero, List.set_cons_succ]
      refine wpAnyH_take (i := 8) (oi := _) (v := ?vq9) rfl (by kernel_rfl) (by kernel_rfl) (by kernel_rfl) (fun _ _ _ h => h) (Or.inl ⟨by kernel_rfl, ?hyq9⟩) hHeld ?restq9
      case hyq9 => (intro w hSw; go_simp; first | done | (with_reducible rfl))
      try simp only [Act.put, List.getElem_toArray, List.getElem_cons_succ, List.getElem_cons_zero, List.setIfInBounds_toArray, List.set_cons_zero, List.set_cons_succ]
      refine wpAnyH_done (by kernel_rfl) ?_ _
      refine NoPanic.normal ?_
      replace hbb := keepB hbb hHeld
      go_wp2_with fail
      go_roundw
      case rel => exact ⟨k + 1, by omega, by go_num, hbb⟩
      case measure => simp [intOf]; omega
    · obtain rfl : k = xs.length := by omega
      clear HA HB HC HD
      go_wp2_with fail
      go_ret
      exact ⟨rfl, hbb⟩
def Pc.greatB (n : Nat) : Bool := (decide (20 < (n : Int)) && decide ((n : Int) ≤ 60)) || decide (70 < (n : Int))
set_option maxHeartbeats 1000000 in
theorem rpGreat_any (A : Option Addr) (n c : Nat) (w : World) : Calls Try.prog 46 #[.slice A n c] w fun e w' => e = .returned (.bool (Pc.greatB n)) ∧ Below w.heap.size w w' := by
  unfold Pc.greatB
  by_cases h1 : 20 < (n : Int)
  · by_cases h2 : (n : Int) ≤ 60
    · rw [decide_eq_true h1, decide_eq_true h2]
      go_enter Try.func46, Try.ntmps46
      go_wp2
      go_ret
      exact ⟨rfl, Below.refl _ _⟩
    · rw [decide_eq_true h1, decide_eq_false h2]
      by_cases h3 : 70 < (n : Int)
      · rw [decide_eq_true h3]
        go_enter Try.func46, Try.ntmps46
        go_wp2
        go_ret
        exact ⟨rfl, Below.refl _ _⟩
      · rw [decide_eq_false h3]
        go_enter Try.func46, Try.ntmps46
        go_wp2
        go_ret
        exact ⟨rfl, Below.refl _ _⟩
  · have h3 : ¬ 70 < (n : Int) := by omega
    rw [decide_eq_false h1, decide_eq_false h3]
    go_enter Try.func46, Try.ntmps46
    go_wp2
    go_ret
    exact ⟨rfl, Below.refl _ _⟩
end Go.Proofs.Ytomokdepndclpaa
