/- The laws' own functions of layer 2: given, of, valid. -/
import Derived.Test.YtomokdepndclpaaMark
import Derived.Test.YtomokdepndclpaaTot
import Derived.Test.YtomokdepndclpaaSame
namespace Go.Proofs.Ytomokdepndclpaa
open Go.RowKit
theorem of2_any (n : Int) (w : World) : Calls Try.prog 18 #[.int .i64 n] w fun e w' => e = .returned (.agg #[.int .i64 n, .int .i64 1]) ∧ Below w.heap.size w w' := by
  go_enter Try.func18, Try.ntmps18
  go_wp2
  exact bodyPost_ret (v := .agg #[.int .i64 n, .int .i64 1]) (by simp [results, Try.results18, go_sem]) rfl ⟨rfl, (Below.refl _ _).alloc (Nat.le_refl _) _⟩
/-- The cake of the examples, in new memory. -/
def GivenP (w : World) (e : Ending) (w' : World) : Prop :=
  ∃ K ck Z cz, e = .returned (.agg #[.int .i64 10, .slice K 4 ck, .slice Z 3 cz]) ∧ IsCake w' 10 K [0, 4, 6, 10] Z [2, 0, 3] ∧ Below w.heap.size w w'
set_option maxRecDepth 100000 in
theorem given_any (w : World) : Calls Try.prog 17 #[] w (GivenP w) := by
  go_enter Try.func17, Try.ntmps17
  go_wp2
  refine bodyPost_ret (v := .agg #[.int .i64 10, .slice (some ⟨w.heap.size + 1, 0, none⟩) 4 4, .slice (some ⟨w.heap.size + 1 + 1, 0, none⟩) 3 3]) (by simp [results, Try.results17, go_sem]) rfl ⟨_, _, _, _, rfl, ?_, ?_⟩
  · refine ⟨⟨by decide, by decide⟩, ⟨by simp [maxLen], by simp [maxLen]⟩, ⟨fun _ => ⟨_, _, rfl, fun i hi => ?_⟩, by intro z hz; simp at hz; rcases hz with rfl | rfl | rfl | rfl <;> exact ⟨by decide, by decide⟩⟩, ⟨fun _ => ⟨_, _, rfl, fun i hi => ?_⟩, by intro z hz; simp at hz; rcases hz with rfl | rfl | rfl <;> exact ⟨by decide, by decide⟩⟩⟩
    · match i with
      | 0 => go_simp; rfl
      | 1 => go_simp; rfl
      | 2 => go_simp; rfl
      | 3 => go_simp; rfl
      | i + 4 => simp at hi; omega
    · match i with
      | 0 => go_simp; rfl
      | 1 => go_simp; rfl
      | 2 => go_simp; rfl
      | i + 3 => simp at hi; omega
  · exact below_al (below_al (below_al (Below.refl _ _) _) _) _
/-- What valid answers. -/
def Ck.vld (len : Int) (c d : List Int) (n1 d1 n2 d2 : Int) : Bool := !(decide (60 < c.length) || decide (60 < d.length)) && (decide (Ck.chk len c d = 0) && (Ck.pt len n1 d1 && (Ck.pt len n2 d2 && !decide (Rp.q n2 d2 < Rp.q n1 d1))))
set_option maxHeartbeats 4000000 in
set_option maxRecDepth 100000 in
theorem vld_any (len : Int) (K : Option Addr) (cuts : List Int) (ck : Nat) (Z : Option Addr) (dens : List Int) (cz : Nat) (n1 d1 n2 d2 : Int) (w : World) (h : IsCake w len K cuts Z dens) (hn1 : I64 n1) (hd1 : I64 d1) (hn2 : I64 n2) (hd2 : I64 d2) :
    Calls Try.prog 27 #[.agg #[.int .i64 len, .slice K cuts.length ck, .slice Z dens.length cz], .agg #[.int .i64 n1, .int .i64 d1], .agg #[.int .i64 n2, .int .i64 d2]] w fun e w' => e = .returned (.bool (Ck.vld len cuts dens n1 d1 n2 d2)) ∧ Below w.heap.size w w' := by
  have cg := fun v => great_any len K cuts ck Z dens cz v h.2.1.1 h.2.1.2
  have cc := fun v (hb : Below w.heap.size w v) => rckCheck_any len K cuts ck Z dens cz v (h.keep hb)
  obtain ⟨R, hR⟩ : ∃ R, Ck.vld len cuts dens n1 d1 n2 d2 = R := ⟨_, rfl⟩
  rw [hR]
  unfold Ck.vld at hR
  generalize (decide (60 < cuts.length) || decide (60 < dens.length)) = G at *
  cases G
  · by_cases hc : Ck.chk len cuts dens = 0
    · have hG := Ck.chk_good hc
      have cp := fun v => rpoint_any len n1 d1 v hG.len0 hG.len1 hn1 hd1
      have cq := fun v => rpoint_any len n2 d2 v hG.len0 hG.len1 hn2 hd2
      rw [hc] at cc
      have e0 : (((0 : Int)) == 0) = true := rfl
      rw [decide_eq_true hc] at hR
      obtain ⟨P, hP⟩ : ∃ P, Ck.pt len n1 d1 = P := ⟨_, rfl⟩
      obtain ⟨Q, hQ⟩ : ∃ Q, Ck.pt len n2 d2 = Q := ⟨_, rfl⟩
      rw [hP] at cp hR
      rw [hQ] at cq hR
      cases P
      · obtain rfl : false = R := by simpa using hR
        have CG := Lib.hid cg
        have CC := Lib.hid cc
        have CP := Lib.hid cp
        clear cg cc cp cq hG hc hP hQ hR h
        go_enter Try.func27, Try.ntmps27
        go_wp2_with fail
        refine (CG.out _).mono ?_
        rintro e w1 ⟨rfl, hb⟩
        have c0 : w1.cell? ⟨w.heap.size, 0, none⟩ = some (.int .i64 len) := keepC hb (by go_simp)
        have c1 : w1.cell? ⟨w.heap.size, 1, none⟩ = some (.slice K cuts.length ck) := keepC hb (by go_simp)
        have c2 : w1.cell? ⟨w.heap.size, 2, none⟩ = some (.slice Z dens.length cz) := keepC hb (by go_simp)
        have a0 : w1.cell? ⟨w.heap.size + 1, 0, none⟩ = some (.int .i64 n1) := keepC hb (by go_simp)
        have a1 : w1.cell? ⟨w.heap.size + 1, 1, none⟩ = some (.int .i64 d1) := keepC hb (by go_simp)
        have b0 : w1.cell? ⟨w.heap.size + 1 + 1, 0, none⟩ = some (.int .i64 n2) := keepC hb (by go_simp)
        have b1 : w1.cell? ⟨w.heap.size + 1 + 1, 1, none⟩ = some (.int .i64 d2) := keepC hb (by go_simp)
        have hbb : Below w.heap.size w w1 := keepB ((((Below.refl _ _).alloc (Nat.le_refl _) _).alloc (by simp) _).alloc (by simp; omega) _) hb
        clear hb
        go_wp2_with fail
        refine (CC.out _ hbb).mono ?_
        rintro e w2 ⟨rfl, hb⟩
        replace c0 := keepC hb c0
        replace c1 := keepC hb c1
        replace c2 := keepC hb c2
        replace a0 := keepC hb a0
        replace a1 := keepC hb a1
        replace b0 := keepC hb b0
        replace b1 := keepC hb b1
        replace hbb := keepB hbb hb
        clear hb
        go_wp2_with fail
        refine (CP.out _).mono ?_
        rintro e w3 ⟨rfl, hb⟩
        replace c0 := keepC hb c0
        replace c1 := keepC hb c1
        replace c2 := keepC hb c2
        replace a0 := keepC hb a0
        replace a1 := keepC hb a1
        replace b0 := keepC hb b0
        replace b1 := keepC hb b1
        replace hbb := keepB hbb hb
        clear hb
        go_wp2_with fail
        go_ret
        exact ⟨by simp, hbb⟩
      · cases Q
        · obtain rfl : false = R := by simpa using hR
          have CG := Lib.hid cg
          have CC := Lib.hid cc
          have CP := Lib.hid cp
          have CQ := Lib.hid cq
          clear cg cc cp cq hG hc hP hQ hR h
          go_enter Try.func27, Try.ntmps27
          go_wp2_with fail
          refine (CG.out _).mono ?_
          rintro e w1 ⟨rfl, hb⟩
          have c0 : w1.cell? ⟨w.heap.size, 0, none⟩ = some (.int .i64 len) := keepC hb (by go_simp)
          have c1 : w1.cell? ⟨w.heap.size, 1, none⟩ = some (.slice K cuts.length ck) := keepC hb (by go_simp)
          have c2 : w1.cell? ⟨w.heap.size, 2, none⟩ = some (.slice Z dens.length cz) := keepC hb (by go_simp)
          have a0 : w1.cell? ⟨w.heap.size + 1, 0, none⟩ = some (.int .i64 n1) := keepC hb (by go_simp)
          have a1 : w1.cell? ⟨w.heap.size + 1, 1, none⟩ = some (.int .i64 d1) := keepC hb (by go_simp)
          have b0 : w1.cell? ⟨w.heap.size + 1 + 1, 0, none⟩ = some (.int .i64 n2) := keepC hb (by go_simp)
          have b1 : w1.cell? ⟨w.heap.size + 1 + 1, 1, none⟩ = some (.int .i64 d2) := keepC hb (by go_simp)
          have hbb : Below w.heap.size w w1 := keepB ((((Below.refl _ _).alloc (Nat.le_refl _) _).alloc (by simp) _).alloc (by simp; omega) _) hb
          clear hb
          go_wp2_with fail
          refine (CC.out _ hbb).mono ?_
          rintro e w2 ⟨rfl, hb⟩
          replace c0 := keepC hb c0
          replace c1 := keepC hb c1
          replace c2 := keepC hb c2
          replace a0 := keepC hb a0
          replace a1 := keepC hb a1
          replace b0 := keepC hb b0
          replace b1 := keepC hb b1
          replace hbb := keepB hbb hb
          clear hb
          go_wp2_with fail
          refine (CP.out _).mono ?_
          rintro e w3 ⟨rfl, hb⟩
          replace c0 := keepC hb c0
          replace c1 := keepC hb c1
          replace c2 := keepC hb c2
          replace a0 := keepC hb a0
          replace a1 := keepC hb a1
          replace b0 := keepC hb b0
          replace b1 := keepC hb b1
          replace hbb := keepB hbb hb
          clear hb
          go_wp2_with fail
          refine (CQ.out _).mono ?_
          rintro e w4 ⟨rfl, hb⟩
          replace c0 := keepC hb c0
          replace c1 := keepC hb c1
          replace c2 := keepC hb c2
          replace a0 := keepC hb a0
          replace a1 := keepC hb a1
          replace b0 := keepC hb b0
          replace b1 := keepC hb b1
          replace hbb := keepB hbb hb
          clear hb
          go_wp2_with fail
          go_ret
          exact ⟨by simp, hbb⟩
        · obtain ⟨o1, _, _⟩ := pt_spec hP
          obtain ⟨o2, _, _⟩ := pt_spec hQ
          have cl := fun v => Less_any n2 d2 n1 d1 o2 o1 v
          generalize decide (Rp.q n2 d2 < Rp.q n1 d1) = L at *
          obtain rfl : (!L) = R := by simpa using hR
          have CG := Lib.hid cg
          have CC := Lib.hid cc
          have CP := Lib.hid cp
          have CQ := Lib.hid cq
          have CL := Lib.hid cl
          clear cg cc cp cq cl hG hc hP hQ hR h o1 o2
          go_enter Try.func27, Try.ntmps27
          go_wp2_with fail
          refine (CG.out _).mono ?_
          rintro e w1 ⟨rfl, hb⟩
          have c0 : w1.cell? ⟨w.heap.size, 0, none⟩ = some (.int .i64 len) := keepC hb (by go_simp)
          have c1 : w1.cell? ⟨w.heap.size, 1, none⟩ = some (.slice K cuts.length ck) := keepC hb (by go_simp)
          have c2 : w1.cell? ⟨w.heap.size, 2, none⟩ = some (.slice Z dens.length cz) := keepC hb (by go_simp)
          have a0 : w1.cell? ⟨w.heap.size + 1, 0, none⟩ = some (.int .i64 n1) := keepC hb (by go_simp)
          have a1 : w1.cell? ⟨w.heap.size + 1, 1, none⟩ = some (.int .i64 d1) := keepC hb (by go_simp)
          have b0 : w1.cell? ⟨w.heap.size + 1 + 1, 0, none⟩ = some (.int .i64 n2) := keepC hb (by go_simp)
          have b1 : w1.cell? ⟨w.heap.size + 1 + 1, 1, none⟩ = some (.int .i64 d2) := keepC hb (by go_simp)
          have hbb : Below w.heap.size w w1 := keepB ((((Below.refl _ _).alloc (Nat.le_refl _) _).alloc (by simp) _).alloc (by simp; omega) _) hb
          clear hb
          go_wp2_with fail
          refine (CC.out _ hbb).mono ?_
          rintro e w2 ⟨rfl, hb⟩
          replace c0 := keepC hb c0
          replace c1 := keepC hb c1
          replace c2 := keepC hb c2
          replace a0 := keepC hb a0
          replace a1 := keepC hb a1
          replace b0 := keepC hb b0
          replace b1 := keepC hb b1
          replace hbb := keepB hbb hb
          clear hb
          go_wp2_with fail
          refine (CP.out _).mono ?_
          rintro e w3 ⟨rfl, hb⟩
          replace c0 := keepC hb c0
          replace c1 := keepC hb c1
          replace c2 := keepC hb c2
          replace a0 := keepC hb a0
          replace a1 := keepC hb a1
          replace b0 := keepC hb b0
          replace b1 := keepC hb b1
          replace hbb := keepB hbb hb
          clear hb
          go_wp2_with fail
          refine (CQ.out _).mono ?_
          rintro e w4 ⟨rfl, hb⟩
          replace c0 := keepC hb c0
          replace c1 := keepC hb c1
          replace c2 := keepC hb c2
          replace a0 := keepC hb a0
          replace a1 := keepC hb a1
          replace b0 := keepC hb b0
          replace b1 := keepC hb b1
          replace hbb := keepB hbb hb
          clear hb
          go_wp2_with fail
          refine (CL.out _).mono ?_
          rintro e w5 ⟨rfl, hb⟩
          replace c0 := keepC hb c0
          replace c1 := keepC hb c1
          replace c2 := keepC hb c2
          replace a0 := keepC hb a0
          replace a1 := keepC hb a1
          replace b0 := keepC hb b0
          replace b1 := keepC hb b1
          replace hbb := keepB hbb hb
          clear hb
          go_wp2_with fail
          go_ret
          exact ⟨by simp, hbb⟩
    · obtain rfl : false = R := by simpa [hc] using hR
      obtain ⟨T, hT⟩ : ∃ T, Ck.chk len cuts dens = T := ⟨_, rfl⟩
      rw [hT] at cc hc
      have e0 : (T == 0) = false := by simpa using hc
      have CG := Lib.hid cg
      have CC := Lib.hid cc
      clear cg cc hc hT hR h
      go_enter Try.func27, Try.ntmps27
      go_wp2_with fail
      refine (CG.out _).mono ?_
      rintro e w1 ⟨rfl, hb⟩
      have c0 : w1.cell? ⟨w.heap.size, 0, none⟩ = some (.int .i64 len) := keepC hb (by go_simp)
      have c1 : w1.cell? ⟨w.heap.size, 1, none⟩ = some (.slice K cuts.length ck) := keepC hb (by go_simp)
      have c2 : w1.cell? ⟨w.heap.size, 2, none⟩ = some (.slice Z dens.length cz) := keepC hb (by go_simp)
      have a0 : w1.cell? ⟨w.heap.size + 1, 0, none⟩ = some (.int .i64 n1) := keepC hb (by go_simp)
      have a1 : w1.cell? ⟨w.heap.size + 1, 1, none⟩ = some (.int .i64 d1) := keepC hb (by go_simp)
      have b0 : w1.cell? ⟨w.heap.size + 1 + 1, 0, none⟩ = some (.int .i64 n2) := keepC hb (by go_simp)
      have b1 : w1.cell? ⟨w.heap.size + 1 + 1, 1, none⟩ = some (.int .i64 d2) := keepC hb (by go_simp)
      have hbb : Below w.heap.size w w1 := keepB ((((Below.refl _ _).alloc (Nat.le_refl _) _).alloc (by simp) _).alloc (by simp; omega) _) hb
      clear hb
      go_wp2_with fail
      refine (CC.out _ hbb).mono ?_
      rintro e w2 ⟨rfl, hb⟩
      replace c0 := keepC hb c0
      replace c1 := keepC hb c1
      replace c2 := keepC hb c2
      replace a0 := keepC hb a0
      replace a1 := keepC hb a1
      replace b0 := keepC hb b0
      replace b1 := keepC hb b1
      replace hbb := keepB hbb hb
      clear hb
      go_wp2_with fail
      go_ret
      exact ⟨by simp, hbb⟩
  · obtain rfl : false = R := by simpa using hR
    have CG := Lib.hid cg
    clear cg cc hR h
    go_enter Try.func27, Try.ntmps27
    go_wp2_with fail
    refine (CG.out _).mono ?_
    rintro e w1 ⟨rfl, hb⟩
    have c0 : w1.cell? ⟨w.heap.size, 0, none⟩ = some (.int .i64 len) := keepC hb (by go_simp)
    have c1 : w1.cell? ⟨w.heap.size, 1, none⟩ = some (.slice K cuts.length ck) := keepC hb (by go_simp)
    have c2 : w1.cell? ⟨w.heap.size, 2, none⟩ = some (.slice Z dens.length cz) := keepC hb (by go_simp)
    have a0 : w1.cell? ⟨w.heap.size + 1, 0, none⟩ = some (.int .i64 n1) := keepC hb (by go_simp)
    have a1 : w1.cell? ⟨w.heap.size + 1, 1, none⟩ = some (.int .i64 d1) := keepC hb (by go_simp)
    have b0 : w1.cell? ⟨w.heap.size + 1 + 1, 0, none⟩ = some (.int .i64 n2) := keepC hb (by go_simp)
    have b1 : w1.cell? ⟨w.heap.size + 1 + 1, 1, none⟩ = some (.int .i64 d2) := keepC hb (by go_simp)
    have hbb : Below w.heap.size w w1 := keepB ((((Below.refl _ _).alloc (Nat.le_refl _) _).alloc (by simp) _).alloc (by simp; omega) _) hb
    clear hb
    go_wp2_with fail
    go_ret
    exact ⟨by simp, hbb⟩
end Go.Proofs.Ytomokdepndclpaa
