/- Contract of the reference's Parse. -/
import Derived.Test.YtbcnngjcggddbaaDoorDig
import Derived.Test.YtbcnngjcggddbaaDoorRef
import Derived.Test.YtbcnngjcggddbaaDoorRpm
import Derived.LoopTactic
import Derived.Laws.Strings
namespace Go.Proofs.YtbcnngjcggddbaaDoor
open Go.RowKit

theorem ext_tail (c : UInt8) (r : List UInt8) : (⟨(c :: r).toArray⟩ : ByteArray).extract 1 (r.length + 1) = ⟨r.toArray⟩ := by
  apply ByteArray.ext
  rw [ByteArray.data_extract]
  simp
theorem ext_take (m : List UInt8) (k : Nat) : (⟨m.toArray⟩ : ByteArray).extract 0 k = ⟨(m.take k).toArray⟩ := by
  apply ByteArray.ext
  rw [ByteArray.data_extract]
  simp
theorem ext_drop (m : List UInt8) (k : Nat) : (⟨m.toArray⟩ : ByteArray).extract k m.length = ⟨(m.drop k).toArray⟩ := by
  apply ByteArray.ext
  rw [ByteArray.data_extract]
  simp
  rw [List.take_of_length_le (by simp)]

set_option maxHeartbeats 4000000 in
set_option maxRecDepth 100000 in
theorem rParse_neg (m : List UInt8) (w : World) (hs : m.length < 4294967281) :
    Calls Tryd.prog 7 #[.string ⟨(45 :: m).toArray⟩] w fun e w' => e = .returned (.tuple #[.agg #[.int .i64 (Rp.fromS true m).1, .int .i64 (Rp.fromS true m).2.1], .int .i64 (Rp.fromS true m).2.2]) ∧ Below w.heap.size w w' := by
  have g1 : decide (0 < ((45 :: m).length : Int)) = true := decide_eq_true (by simp)
  have hg : (⟨(45 :: m).toArray⟩ : ByteArray)[0]'(by simp [ByteArray.size]) = 45 := rfl
  have ht := ext_tail 45 m
  obtain ⟨N, B, hd⟩ : ∃ N B, Rp.digS (Rp.numOf m) = (N, B) := ⟨_, _, rfl⟩
  obtain ⟨D, I, hi⟩ : ∃ D I, Rp.denOf m = (D, I) := ⟨_, _, rfl⟩
  generalize hR : Rp.fromS true m = R at *
  obtain ⟨R1, R2, R3⟩ := R
  unfold Rp.fromS at hR
  rw [hd, hi] at hR
  dsimp only at hR
  have HR := Lib.hid hR
  clear hR
  have hla := Rp.num_len m
  have cd := fun w => digits_any (Rp.numOf m) w (by omega)
  rw [hd] at cd
  dsimp only at cd
  have CD0 := Lib.hid cd
  have HD0 := Lib.hid hd
  have HI0 := Lib.hid hi
  clear cd hd hi
  go_enter Tryd.func7, Tryd.ntmps7
  go_wp2_with fail
  go_loop [5] (fun i => ∃ k : Nat, k ≤ (Rp.numOf m).length ∧ i = .int .i64 k) (fun i => m.length - (intOf i).toNat)
  case atStart => exact ⟨0, Nat.zero_le _, rfl⟩
  case round =>
    obtain ⟨k, hk, rfl⟩ := hrel
    by_cases hlt : k < (Rp.numOf m).length
    · have hkm : k < m.length := by omega
      have hn := Rp.num_at m k hlt hkm
      have hg2 : ∀ h' : k < (⟨m.toArray⟩ : ByteArray).size, (⟨m.toArray⟩ : ByteArray)[k]'h' = m[k] := fun h' => ba_get m k hkm h'
      have n1 : ((m[k].toNat : Int) == 47) = false := by rw [beq_eq_false_iff_ne]; omega
      have n2 : ((m[k].toNat : Int) != 47) = true := by rw [bne, n1]; rfl
      go_wp2_with fail
      refine ⟨⟨k + 1, hlt, by go_num⟩, ?_⟩
      simp only [intOf]
      omega
    · obtain rfl : k = (Rp.numOf m).length := by omega
      have cd := CD0.out
      have hd := HD0.out
      have hi := HI0.out
      clear CD0 HD0 HI0 hk hlt
      rcases hr : Rp.restOf m with _ | ⟨c0, b⟩
      · simp only [Rp.denOf, hr, Prod.mk.injEq] at hi
        obtain ⟨rfl, rfl⟩ := hi
        have hkm : (Rp.numOf m).length = m.length := by
          have := congrArg List.length (Rp.rest_join m)
          rw [hr] at this
          simpa using this
        have e0 := ext_take m m.length
        rw [List.take_length] at e0
        have hnm : Rp.numOf m = m := by
          have := Rp.rest_join m
          rw [hr] at this
          simpa using this
        rw [hnm] at cd hd
        rw [hkm] at *
        have CD := Lib.hid cd
        have HD := Lib.hid hd
        clear cd hkm hnm hr hla
        rcases B with _ | _
        · clear HD hd
          go_wp2_with fail
          try rw [e0]
          refine (CD.out _).mono ?_
          rintro e w' ⟨rfl, rfl⟩
          obtain ⟨rfl, rfl, rfl⟩ := Rp.sel_err HR.out (by simp)
          clear HR
          go_wp2_with fail
          exact bodyPost_ret (v := .tuple #[.agg #[.int .i64 0, .int .i64 0], .int .i64 12]) (by simp [results, Tryd.results7, go_sem]) rfl ⟨rfl, (Below.refl _ _).alloc (Nat.le_refl _) _⟩
        · go_wp2_with fail
          try rw [e0]
          refine (CD.out _).mono ?_
          rintro e w' ⟨rfl, rfl⟩
          clear CD e0 hd
          have hd := HD.out
          clear HD
          by_cases hz : N = 0
          · subst hz
            obtain ⟨rfl, rfl, rfl⟩ := Rp.sel_err HR.out (by simp)
            clear HR
            go_wp2_with fail
            exact bodyPost_ret (v := .tuple #[.agg #[.int .i64 0, .int .i64 0], .int .i64 12]) (by simp [results, Tryd.results7, go_sem]) rfl ⟨rfl, (Below.refl _ _).alloc (Nat.le_refl _) _⟩
          · have hnz : ¬ N = 0 := hz
            have n0 : (((N : Nat) : Int) == 0) = false := by rw [beq_eq_false_iff_ne]; omega
            have hRR := HR.out
            have hN0 : N ≤ 1000000000000000000 := Rp.digS_le _ _ hd
            have cc := fun w => rCheck_any (-(N : Int)) (1 : Int) w (by omega) (by omega) (by omega) (by omega)
            clear HR
            by_cases hok : Rp.Ok (-(N : Int)) (1 : Int)
            · have hch : Rp.chk (-(N : Int)) (1 : Int) = 0 := by unfold Rp.chk; exact if_pos hok
              rw [hch] at cc
              have CC := Lib.hid cc
              clear cc hch
              obtain ⟨rfl, rfl, rfl⟩ := Rp.sel_ok hRR (by simp [hnz]) (n := -(N : Int)) rfl hok
              clear hRR
              go_wp2_with fail
              refine (CC.out _).mono ?_
              rintro e w1 ⟨rfl, hb1⟩
              have z0 : w1.cell? ⟨w.heap.size, 0, none⟩ = some (.int .i64 0) := keepC hb1 (by go_simp)
              have fz0 : w1.frozen? ⟨w.heap.size, 0, none⟩ = false := keepF hb1 (v := .int .i64 0) (by go_simp) (by go_simp)
              have z1 : w1.cell? ⟨w.heap.size, 1, none⟩ = some (.int .i64 0) := keepC hb1 (by go_simp)
              have fz1 : w1.frozen? ⟨w.heap.size, 1, none⟩ = false := keepF hb1 (v := .int .i64 0) (by go_simp) (by go_simp)
              have y0 : w1.cell? ⟨w.heap.size + 1, 0, none⟩ = some (.int .i64 (-(N : Int))) := keepC hb1 (by go_simp)
              have y1 : w1.cell? ⟨w.heap.size + 1, 1, none⟩ = some (.int .i64 (1 : Int)) := keepC hb1 (by go_simp)
              have hbb : Below w.heap.size w w1 := keepB (by (first | exact (((Below.refl _ _).alloc (Nat.le_refl _) _).alloc (by simp) _) | exact (((((Below.refl _ _).alloc (Nat.le_refl _) _).alloc (by simp) _).setCell (by simp) _)))) hb1
              clear hb1 CC
              go_wp2_with fail
              exact bodyPost_ret (v := .tuple #[.agg #[.int .i64 (-(N : Int)), .int .i64 (1 : Int)], .int .i64 0]) (by simp [results, Tryd.results7, go_sem, z0, z1]) rfl ⟨rfl, below_set (below_set hbb (by omega) _) (by omega) _⟩
            · have hch : Rp.chk (-(N : Int)) (1 : Int) = 8 := by unfold Rp.chk; exact if_neg hok
              rw [hch] at cc
              have CC := Lib.hid cc
              clear cc hch
              obtain ⟨rfl, rfl, rfl⟩ := Rp.sel_bad hRR (by simp [hnz]) (n := -(N : Int)) rfl hok
              clear hRR
              go_wp2_with fail
              refine (CC.out _).mono ?_
              rintro e w1 ⟨rfl, hb1⟩
              have z0 : w1.cell? ⟨w.heap.size, 0, none⟩ = some (.int .i64 0) := keepC hb1 (by go_simp)
              have fz0 : w1.frozen? ⟨w.heap.size, 0, none⟩ = false := keepF hb1 (v := .int .i64 0) (by go_simp) (by go_simp)
              have z1 : w1.cell? ⟨w.heap.size, 1, none⟩ = some (.int .i64 0) := keepC hb1 (by go_simp)
              have fz1 : w1.frozen? ⟨w.heap.size, 1, none⟩ = false := keepF hb1 (v := .int .i64 0) (by go_simp) (by go_simp)
              have hbb : Below w.heap.size w w1 := keepB (by (first | exact (((Below.refl _ _).alloc (Nat.le_refl _) _).alloc (by simp) _) | exact (((((Below.refl _ _).alloc (Nat.le_refl _) _).alloc (by simp) _).setCell (by simp) _)))) hb1
              clear hb1 CC
              go_wp2_with fail
              exact bodyPost_ret (v := .tuple #[.agg #[.int .i64 0, .int .i64 0], .int .i64 12]) (by simp [results, Tryd.results7, go_sem, z0, z1]) rfl ⟨rfl, below_set (below_set hbb (by omega) _) (by omega) _⟩
      · obtain ⟨hkm, h47⟩ := Rp.rest_at m c0 b hr
        obtain ⟨E, J, hE⟩ : ∃ E J, Rp.digS b = (E, J) := ⟨_, _, rfl⟩
        simp only [Rp.denOf, hr, hE, Prod.mk.injEq] at hi
        obtain ⟨rfl, rfl⟩ := hi
        have hg2 : ∀ h' : (Rp.numOf m).length < (⟨m.toArray⟩ : ByteArray).size, (⟨m.toArray⟩ : ByteArray)[(Rp.numOf m).length]'h' = 47 := fun h' => (ba_get m _ hkm h').trans h47
        have e0 := ext_take m (Rp.numOf m).length
        rw [Rp.num_take] at e0
        have e1 := ext_drop m ((Rp.numOf m).length + 1)
        have hbd : m.drop ((Rp.numOf m).length + 1) = b := by
          rw [← List.drop_drop, Rp.rest_drop, hr]
          rfl
        rw [hbd] at e1
        have hbl : b.length ≤ m.length := by
          rw [← hbd, List.length_drop]
          omega
        have ce := fun w => digits_any b w (by omega)
        rw [hE] at ce
        have CD := Lib.hid cd
        have CE := Lib.hid ce
        have HD := Lib.hid hd
        have HE := Lib.hid hE
        clear cd ce hd hE hr hbd h47 hla
        generalize (Rp.numOf m).length = k at *
        rcases J with _ | _
        · rcases B with _ | _
          · go_wp2_with fail
            try rw [e0]
            refine (CD.out _).mono ?_
            rintro e w' ⟨rfl, rfl⟩
            go_wp2_with fail
            try rw [e1]
            refine (CE.out _).mono ?_
            rintro e w' ⟨rfl, rfl⟩
            clear CD CE e0 e1 HD HE hg2
            obtain ⟨rfl, rfl, rfl⟩ := Rp.sel_err HR.out (by simp)
            clear HR
            go_wp2_with fail
            exact bodyPost_ret (v := .tuple #[.agg #[.int .i64 0, .int .i64 0], .int .i64 12]) (by simp [results, Tryd.results7, go_sem]) rfl ⟨rfl, (Below.refl _ _).alloc (Nat.le_refl _) _⟩
          · go_wp2_with fail
            try rw [e0]
            refine (CD.out _).mono ?_
            rintro e w' ⟨rfl, rfl⟩
            go_wp2_with fail
            try rw [e1]
            refine (CE.out _).mono ?_
            rintro e w' ⟨rfl, rfl⟩
            clear CD CE e0 e1 HD HE hg2
            obtain ⟨rfl, rfl, rfl⟩ := Rp.sel_err HR.out (by simp)
            clear HR
            go_wp2_with fail
            exact bodyPost_ret (v := .tuple #[.agg #[.int .i64 0, .int .i64 0], .int .i64 12]) (by simp [results, Tryd.results7, go_sem]) rfl ⟨rfl, (Below.refl _ _).alloc (Nat.le_refl _) _⟩
        · by_cases h1 : 1 < E
          · have d1 : decide (1 < (E : Int)) = true := decide_eq_true (by omega)
            have d1n : decide (1 < E) = true := decide_eq_true h1
            rw [d1n] at HR
            clear d1n
            rcases B with _ | _
            · go_wp2_with fail
              try rw [e0]
              refine (CD.out _).mono ?_
              rintro e w' ⟨rfl, rfl⟩
              go_wp2_with fail
              try rw [e1]
              refine (CE.out _).mono ?_
              rintro e w' ⟨rfl, rfl⟩
              clear CD CE e0 e1 HD HE hg2
              obtain ⟨rfl, rfl, rfl⟩ := Rp.sel_err HR.out (by simp)
              clear HR
              go_wp2_with fail
              exact bodyPost_ret (v := .tuple #[.agg #[.int .i64 0, .int .i64 0], .int .i64 12]) (by simp [results, Tryd.results7, go_sem]) rfl ⟨rfl, (Below.refl _ _).alloc (Nat.le_refl _) _⟩
            · go_wp2_with fail
              try rw [e0]
              refine (CD.out _).mono ?_
              rintro e w' ⟨rfl, rfl⟩
              go_wp2_with fail
              try rw [e1]
              refine (CE.out _).mono ?_
              rintro e w' ⟨rfl, rfl⟩
              have hd := HD.out
              have hE1 : E ≤ 1000000000000000000 := Rp.digS_le _ _ HE.out
              clear CD CE e0 e1 HD HE hg2
              by_cases hz : N = 0
              · subst hz
                obtain ⟨rfl, rfl, rfl⟩ := Rp.sel_err HR.out (by simp)
                clear HR
                go_wp2_with fail
                exact bodyPost_ret (v := .tuple #[.agg #[.int .i64 0, .int .i64 0], .int .i64 12]) (by simp [results, Tryd.results7, go_sem]) rfl ⟨rfl, (Below.refl _ _).alloc (Nat.le_refl _) _⟩
              · have hnz : ¬ N = 0 := hz
                have n0 : (((N : Nat) : Int) == 0) = false := by rw [beq_eq_false_iff_ne]; omega
                have hRR := HR.out
                have hN0 : N ≤ 1000000000000000000 := Rp.digS_le _ _ hd
                have cc := fun w => rCheck_any (-(N : Int)) (E : Int) w (by omega) (by omega) (by omega) (by omega)
                clear HR
                by_cases hok : Rp.Ok (-(N : Int)) (E : Int)
                · have hch : Rp.chk (-(N : Int)) (E : Int) = 0 := by unfold Rp.chk; exact if_pos hok
                  rw [hch] at cc
                  have CC := Lib.hid cc
                  clear cc hch
                  obtain ⟨rfl, rfl, rfl⟩ := Rp.sel_ok hRR (by simp [hnz]) (n := -(N : Int)) rfl hok
                  clear hRR
                  go_wp2_with fail
                  refine (CC.out _).mono ?_
                  rintro e w1 ⟨rfl, hb1⟩
                  have z0 : w1.cell? ⟨w.heap.size, 0, none⟩ = some (.int .i64 0) := keepC hb1 (by go_simp)
                  have fz0 : w1.frozen? ⟨w.heap.size, 0, none⟩ = false := keepF hb1 (v := .int .i64 0) (by go_simp) (by go_simp)
                  have z1 : w1.cell? ⟨w.heap.size, 1, none⟩ = some (.int .i64 0) := keepC hb1 (by go_simp)
                  have fz1 : w1.frozen? ⟨w.heap.size, 1, none⟩ = false := keepF hb1 (v := .int .i64 0) (by go_simp) (by go_simp)
                  have y0 : w1.cell? ⟨w.heap.size + 1, 0, none⟩ = some (.int .i64 (-(N : Int))) := keepC hb1 (by go_simp)
                  have y1 : w1.cell? ⟨w.heap.size + 1, 1, none⟩ = some (.int .i64 (E : Int)) := keepC hb1 (by go_simp)
                  have hbb : Below w.heap.size w w1 := keepB (by (first | exact (((Below.refl _ _).alloc (Nat.le_refl _) _).alloc (by simp) _) | exact (((((Below.refl _ _).alloc (Nat.le_refl _) _).alloc (by simp) _).setCell (by simp) _)))) hb1
                  clear hb1 CC
                  go_wp2_with fail
                  exact bodyPost_ret (v := .tuple #[.agg #[.int .i64 (-(N : Int)), .int .i64 (E : Int)], .int .i64 0]) (by simp [results, Tryd.results7, go_sem, z0, z1]) rfl ⟨rfl, below_set (below_set hbb (by omega) _) (by omega) _⟩
                · have hch : Rp.chk (-(N : Int)) (E : Int) = 8 := by unfold Rp.chk; exact if_neg hok
                  rw [hch] at cc
                  have CC := Lib.hid cc
                  clear cc hch
                  obtain ⟨rfl, rfl, rfl⟩ := Rp.sel_bad hRR (by simp [hnz]) (n := -(N : Int)) rfl hok
                  clear hRR
                  go_wp2_with fail
                  refine (CC.out _).mono ?_
                  rintro e w1 ⟨rfl, hb1⟩
                  have z0 : w1.cell? ⟨w.heap.size, 0, none⟩ = some (.int .i64 0) := keepC hb1 (by go_simp)
                  have fz0 : w1.frozen? ⟨w.heap.size, 0, none⟩ = false := keepF hb1 (v := .int .i64 0) (by go_simp) (by go_simp)
                  have z1 : w1.cell? ⟨w.heap.size, 1, none⟩ = some (.int .i64 0) := keepC hb1 (by go_simp)
                  have fz1 : w1.frozen? ⟨w.heap.size, 1, none⟩ = false := keepF hb1 (v := .int .i64 0) (by go_simp) (by go_simp)
                  have hbb : Below w.heap.size w w1 := keepB (by (first | exact (((Below.refl _ _).alloc (Nat.le_refl _) _).alloc (by simp) _) | exact (((((Below.refl _ _).alloc (Nat.le_refl _) _).alloc (by simp) _).setCell (by simp) _)))) hb1
                  clear hb1 CC
                  go_wp2_with fail
                  exact bodyPost_ret (v := .tuple #[.agg #[.int .i64 0, .int .i64 0], .int .i64 12]) (by simp [results, Tryd.results7, go_sem, z0, z1]) rfl ⟨rfl, below_set (below_set hbb (by omega) _) (by omega) _⟩
          · have d1 : decide (1 < (E : Int)) = false := decide_eq_false (by omega)
            have d1n : decide (1 < E) = false := decide_eq_false h1
            rw [d1n] at HR
            clear d1n
            rcases B with _ | _
            · go_wp2_with fail
              try rw [e0]
              refine (CD.out _).mono ?_
              rintro e w' ⟨rfl, rfl⟩
              go_wp2_with fail
              try rw [e1]
              refine (CE.out _).mono ?_
              rintro e w' ⟨rfl, rfl⟩
              clear CD CE e0 e1 HD HE hg2
              obtain ⟨rfl, rfl, rfl⟩ := Rp.sel_err HR.out (by simp)
              clear HR
              go_wp2_with fail
              exact bodyPost_ret (v := .tuple #[.agg #[.int .i64 0, .int .i64 0], .int .i64 12]) (by simp [results, Tryd.results7, go_sem]) rfl ⟨rfl, (Below.refl _ _).alloc (Nat.le_refl _) _⟩
            · go_wp2_with fail
              try rw [e0]
              refine (CD.out _).mono ?_
              rintro e w' ⟨rfl, rfl⟩
              go_wp2_with fail
              try rw [e1]
              refine (CE.out _).mono ?_
              rintro e w' ⟨rfl, rfl⟩
              clear CD CE e0 e1 HD HE hg2
              obtain ⟨rfl, rfl, rfl⟩ := Rp.sel_err HR.out (by simp)
              clear HR
              go_wp2_with fail
              exact bodyPost_ret (v := .tuple #[.agg #[.int .i64 0, .int .i64 0], .int .i64 12]) (by simp [results, Tryd.results7, go_sem]) rfl ⟨rfl, (Below.refl _ _).alloc (Nat.le_refl _) _⟩

set_option maxHeartbeats 4000000 in
set_option maxRecDepth 100000 in
theorem rParse_pos (m : List UInt8) (w : World) (hs : m.length < 4294967281) (h0 : 0 < m.length) (h45 : m[0].toNat ≠ 45) :
    Calls Tryd.prog 7 #[.string ⟨m.toArray⟩] w fun e w' => e = .returned (.tuple #[.agg #[.int .i64 (Rp.fromS false m).1, .int .i64 (Rp.fromS false m).2.1], .int .i64 (Rp.fromS false m).2.2]) ∧ Below w.heap.size w w' := by
  have g1 : decide (0 < (m.length : Int)) = true := decide_eq_true (by omega)
  have hg : ((((⟨m.toArray⟩ : ByteArray)[0]'h0).toNat : Int) == 45) = false := by
    rw [ba_get m 0 h0, beq_eq_false_iff_ne]
    omega
  clear h45
  obtain ⟨N, B, hd⟩ : ∃ N B, Rp.digS (Rp.numOf m) = (N, B) := ⟨_, _, rfl⟩
  obtain ⟨D, I, hi⟩ : ∃ D I, Rp.denOf m = (D, I) := ⟨_, _, rfl⟩
  generalize hR : Rp.fromS false m = R at *
  obtain ⟨R1, R2, R3⟩ := R
  unfold Rp.fromS at hR
  rw [hd, hi] at hR
  dsimp only at hR
  have HR := Lib.hid hR
  clear hR
  have hla := Rp.num_len m
  have cd := fun w => digits_any (Rp.numOf m) w (by omega)
  rw [hd] at cd
  dsimp only at cd
  have CD0 := Lib.hid cd
  have HD0 := Lib.hid hd
  have HI0 := Lib.hid hi
  clear cd hd hi
  go_enter Tryd.func7, Tryd.ntmps7
  go_wp2_with fail
  go_loop [5] (fun i => ∃ k : Nat, k ≤ (Rp.numOf m).length ∧ i = .int .i64 k) (fun i => m.length - (intOf i).toNat)
  case atStart => exact ⟨0, Nat.zero_le _, rfl⟩
  case round =>
    obtain ⟨k, hk, rfl⟩ := hrel
    by_cases hlt : k < (Rp.numOf m).length
    · have hkm : k < m.length := by omega
      have hn := Rp.num_at m k hlt hkm
      have hg2 : ∀ h' : k < (⟨m.toArray⟩ : ByteArray).size, (⟨m.toArray⟩ : ByteArray)[k]'h' = m[k] := fun h' => ba_get m k hkm h'
      have n1 : ((m[k].toNat : Int) == 47) = false := by rw [beq_eq_false_iff_ne]; omega
      have n2 : ((m[k].toNat : Int) != 47) = true := by rw [bne, n1]; rfl
      go_wp2_with fail
      refine ⟨⟨k + 1, hlt, by go_num⟩, ?_⟩
      simp only [intOf]
      omega
    · obtain rfl : k = (Rp.numOf m).length := by omega
      have cd := CD0.out
      have hd := HD0.out
      have hi := HI0.out
      clear CD0 HD0 HI0 hk hlt
      rcases hr : Rp.restOf m with _ | ⟨c0, b⟩
      · simp only [Rp.denOf, hr, Prod.mk.injEq] at hi
        obtain ⟨rfl, rfl⟩ := hi
        have hkm : (Rp.numOf m).length = m.length := by
          have := congrArg List.length (Rp.rest_join m)
          rw [hr] at this
          simpa using this
        have e0 := ext_take m m.length
        rw [List.take_length] at e0
        have hnm : Rp.numOf m = m := by
          have := Rp.rest_join m
          rw [hr] at this
          simpa using this
        rw [hnm] at cd hd
        rw [hkm] at *
        have CD := Lib.hid cd
        have HD := Lib.hid hd
        clear cd hkm hnm hr hla
        rcases B with _ | _
        · clear HD hd
          go_wp2_with fail
          try rw [e0]
          refine (CD.out _).mono ?_
          rintro e w' ⟨rfl, rfl⟩
          obtain ⟨rfl, rfl, rfl⟩ := Rp.sel_err HR.out (by simp)
          clear HR
          go_wp2_with fail
          exact bodyPost_ret (v := .tuple #[.agg #[.int .i64 0, .int .i64 0], .int .i64 12]) (by simp [results, Tryd.results7, go_sem]) rfl ⟨rfl, (Below.refl _ _).alloc (Nat.le_refl _) _⟩
        · go_wp2_with fail
          try rw [e0]
          refine (CD.out _).mono ?_
          rintro e w' ⟨rfl, rfl⟩
          clear CD e0 hd
          have hd := HD.out
          clear HD
          have hRR := HR.out
          have hN0 : N ≤ 1000000000000000000 := Rp.digS_le _ _ hd
          have cc := fun w => rCheck_any ((N : Int)) (1 : Int) w (by omega) (by omega) (by omega) (by omega)
          clear HR
          by_cases hok : Rp.Ok ((N : Int)) (1 : Int)
          · have hch : Rp.chk ((N : Int)) (1 : Int) = 0 := by unfold Rp.chk; exact if_pos hok
            rw [hch] at cc
            have CC := Lib.hid cc
            clear cc hch
            obtain ⟨rfl, rfl, rfl⟩ := Rp.sel_ok hRR rfl (n := (N : Int)) rfl hok
            clear hRR
            go_wp2_with fail
            refine (CC.out _).mono ?_
            rintro e w1 ⟨rfl, hb1⟩
            have z0 : w1.cell? ⟨w.heap.size, 0, none⟩ = some (.int .i64 0) := keepC hb1 (by go_simp)
            have fz0 : w1.frozen? ⟨w.heap.size, 0, none⟩ = false := keepF hb1 (v := .int .i64 0) (by go_simp) (by go_simp)
            have z1 : w1.cell? ⟨w.heap.size, 1, none⟩ = some (.int .i64 0) := keepC hb1 (by go_simp)
            have fz1 : w1.frozen? ⟨w.heap.size, 1, none⟩ = false := keepF hb1 (v := .int .i64 0) (by go_simp) (by go_simp)
            have y0 : w1.cell? ⟨w.heap.size + 1, 0, none⟩ = some (.int .i64 ((N : Int))) := keepC hb1 (by go_simp)
            have y1 : w1.cell? ⟨w.heap.size + 1, 1, none⟩ = some (.int .i64 (1 : Int)) := keepC hb1 (by go_simp)
            have hbb : Below w.heap.size w w1 := keepB (by (first | exact (((Below.refl _ _).alloc (Nat.le_refl _) _).alloc (by simp) _) | exact (((((Below.refl _ _).alloc (Nat.le_refl _) _).alloc (by simp) _).setCell (by simp) _)))) hb1
            clear hb1 CC
            go_wp2_with fail
            exact bodyPost_ret (v := .tuple #[.agg #[.int .i64 ((N : Int)), .int .i64 (1 : Int)], .int .i64 0]) (by simp [results, Tryd.results7, go_sem, z0, z1]) rfl ⟨rfl, below_set (below_set hbb (by omega) _) (by omega) _⟩
          · have hch : Rp.chk ((N : Int)) (1 : Int) = 8 := by unfold Rp.chk; exact if_neg hok
            rw [hch] at cc
            have CC := Lib.hid cc
            clear cc hch
            obtain ⟨rfl, rfl, rfl⟩ := Rp.sel_bad hRR rfl (n := (N : Int)) rfl hok
            clear hRR
            go_wp2_with fail
            refine (CC.out _).mono ?_
            rintro e w1 ⟨rfl, hb1⟩
            have z0 : w1.cell? ⟨w.heap.size, 0, none⟩ = some (.int .i64 0) := keepC hb1 (by go_simp)
            have fz0 : w1.frozen? ⟨w.heap.size, 0, none⟩ = false := keepF hb1 (v := .int .i64 0) (by go_simp) (by go_simp)
            have z1 : w1.cell? ⟨w.heap.size, 1, none⟩ = some (.int .i64 0) := keepC hb1 (by go_simp)
            have fz1 : w1.frozen? ⟨w.heap.size, 1, none⟩ = false := keepF hb1 (v := .int .i64 0) (by go_simp) (by go_simp)
            have hbb : Below w.heap.size w w1 := keepB (by (first | exact (((Below.refl _ _).alloc (Nat.le_refl _) _).alloc (by simp) _) | exact (((((Below.refl _ _).alloc (Nat.le_refl _) _).alloc (by simp) _).setCell (by simp) _)))) hb1
            clear hb1 CC
            go_wp2_with fail
            exact bodyPost_ret (v := .tuple #[.agg #[.int .i64 0, .int .i64 0], .int .i64 12]) (by simp [results, Tryd.results7, go_sem, z0, z1]) rfl ⟨rfl, below_set (below_set hbb (by omega) _) (by omega) _⟩
      · obtain ⟨hkm, h47⟩ := Rp.rest_at m c0 b hr
        obtain ⟨E, J, hE⟩ : ∃ E J, Rp.digS b = (E, J) := ⟨_, _, rfl⟩
        simp only [Rp.denOf, hr, hE, Prod.mk.injEq] at hi
        obtain ⟨rfl, rfl⟩ := hi
        have hg2 : ∀ h' : (Rp.numOf m).length < (⟨m.toArray⟩ : ByteArray).size, (⟨m.toArray⟩ : ByteArray)[(Rp.numOf m).length]'h' = 47 := fun h' => (ba_get m _ hkm h').trans h47
        have e0 := ext_take m (Rp.numOf m).length
        rw [Rp.num_take] at e0
        have e1 := ext_drop m ((Rp.numOf m).length + 1)
        have hbd : m.drop ((Rp.numOf m).length + 1) = b := by
          rw [← List.drop_drop, Rp.rest_drop, hr]
          rfl
        rw [hbd] at e1
        have hbl : b.length ≤ m.length := by
          rw [← hbd, List.length_drop]
          omega
        have ce := fun w => digits_any b w (by omega)
        rw [hE] at ce
        have CD := Lib.hid cd
        have CE := Lib.hid ce
        have HD := Lib.hid hd
        have HE := Lib.hid hE
        clear cd ce hd hE hr hbd h47 hla
        generalize (Rp.numOf m).length = k at *
        rcases J with _ | _
        · rcases B with _ | _
          · go_wp2_with fail
            try rw [e0]
            refine (CD.out _).mono ?_
            rintro e w' ⟨rfl, rfl⟩
            go_wp2_with fail
            try rw [e1]
            refine (CE.out _).mono ?_
            rintro e w' ⟨rfl, rfl⟩
            clear CD CE e0 e1 HD HE hg2
            obtain ⟨rfl, rfl, rfl⟩ := Rp.sel_err HR.out (by simp)
            clear HR
            go_wp2_with fail
            exact bodyPost_ret (v := .tuple #[.agg #[.int .i64 0, .int .i64 0], .int .i64 12]) (by simp [results, Tryd.results7, go_sem]) rfl ⟨rfl, (Below.refl _ _).alloc (Nat.le_refl _) _⟩
          · go_wp2_with fail
            try rw [e0]
            refine (CD.out _).mono ?_
            rintro e w' ⟨rfl, rfl⟩
            go_wp2_with fail
            try rw [e1]
            refine (CE.out _).mono ?_
            rintro e w' ⟨rfl, rfl⟩
            clear CD CE e0 e1 HD HE hg2
            obtain ⟨rfl, rfl, rfl⟩ := Rp.sel_err HR.out (by simp)
            clear HR
            go_wp2_with fail
            exact bodyPost_ret (v := .tuple #[.agg #[.int .i64 0, .int .i64 0], .int .i64 12]) (by simp [results, Tryd.results7, go_sem]) rfl ⟨rfl, (Below.refl _ _).alloc (Nat.le_refl _) _⟩
        · by_cases h1 : 1 < E
          · have d1 : decide (1 < (E : Int)) = true := decide_eq_true (by omega)
            have d1n : decide (1 < E) = true := decide_eq_true h1
            rw [d1n] at HR
            clear d1n
            rcases B with _ | _
            · go_wp2_with fail
              try rw [e0]
              refine (CD.out _).mono ?_
              rintro e w' ⟨rfl, rfl⟩
              go_wp2_with fail
              try rw [e1]
              refine (CE.out _).mono ?_
              rintro e w' ⟨rfl, rfl⟩
              clear CD CE e0 e1 HD HE hg2
              obtain ⟨rfl, rfl, rfl⟩ := Rp.sel_err HR.out (by simp)
              clear HR
              go_wp2_with fail
              exact bodyPost_ret (v := .tuple #[.agg #[.int .i64 0, .int .i64 0], .int .i64 12]) (by simp [results, Tryd.results7, go_sem]) rfl ⟨rfl, (Below.refl _ _).alloc (Nat.le_refl _) _⟩
            · go_wp2_with fail
              try rw [e0]
              refine (CD.out _).mono ?_
              rintro e w' ⟨rfl, rfl⟩
              go_wp2_with fail
              try rw [e1]
              refine (CE.out _).mono ?_
              rintro e w' ⟨rfl, rfl⟩
              have hd := HD.out
              have hE1 : E ≤ 1000000000000000000 := Rp.digS_le _ _ HE.out
              clear CD CE e0 e1 HD HE hg2
              have hRR := HR.out
              have hN0 : N ≤ 1000000000000000000 := Rp.digS_le _ _ hd
              have cc := fun w => rCheck_any ((N : Int)) (E : Int) w (by omega) (by omega) (by omega) (by omega)
              clear HR
              by_cases hok : Rp.Ok ((N : Int)) (E : Int)
              · have hch : Rp.chk ((N : Int)) (E : Int) = 0 := by unfold Rp.chk; exact if_pos hok
                rw [hch] at cc
                have CC := Lib.hid cc
                clear cc hch
                obtain ⟨rfl, rfl, rfl⟩ := Rp.sel_ok hRR rfl (n := (N : Int)) rfl hok
                clear hRR
                go_wp2_with fail
                refine (CC.out _).mono ?_
                rintro e w1 ⟨rfl, hb1⟩
                have z0 : w1.cell? ⟨w.heap.size, 0, none⟩ = some (.int .i64 0) := keepC hb1 (by go_simp)
                have fz0 : w1.frozen? ⟨w.heap.size, 0, none⟩ = false := keepF hb1 (v := .int .i64 0) (by go_simp) (by go_simp)
                have z1 : w1.cell? ⟨w.heap.size, 1, none⟩ = some (.int .i64 0) := keepC hb1 (by go_simp)
                have fz1 : w1.frozen? ⟨w.heap.size, 1, none⟩ = false := keepF hb1 (v := .int .i64 0) (by go_simp) (by go_simp)
                have y0 : w1.cell? ⟨w.heap.size + 1, 0, none⟩ = some (.int .i64 ((N : Int))) := keepC hb1 (by go_simp)
                have y1 : w1.cell? ⟨w.heap.size + 1, 1, none⟩ = some (.int .i64 (E : Int)) := keepC hb1 (by go_simp)
                have hbb : Below w.heap.size w w1 := keepB (by (first | exact (((Below.refl _ _).alloc (Nat.le_refl _) _).alloc (by simp) _) | exact (((((Below.refl _ _).alloc (Nat.le_refl _) _).alloc (by simp) _).setCell (by simp) _)))) hb1
                clear hb1 CC
                go_wp2_with fail
                exact bodyPost_ret (v := .tuple #[.agg #[.int .i64 ((N : Int)), .int .i64 (E : Int)], .int .i64 0]) (by simp [results, Tryd.results7, go_sem, z0, z1]) rfl ⟨rfl, below_set (below_set hbb (by omega) _) (by omega) _⟩
              · have hch : Rp.chk ((N : Int)) (E : Int) = 8 := by unfold Rp.chk; exact if_neg hok
                rw [hch] at cc
                have CC := Lib.hid cc
                clear cc hch
                obtain ⟨rfl, rfl, rfl⟩ := Rp.sel_bad hRR rfl (n := (N : Int)) rfl hok
                clear hRR
                go_wp2_with fail
                refine (CC.out _).mono ?_
                rintro e w1 ⟨rfl, hb1⟩
                have z0 : w1.cell? ⟨w.heap.size, 0, none⟩ = some (.int .i64 0) := keepC hb1 (by go_simp)
                have fz0 : w1.frozen? ⟨w.heap.size, 0, none⟩ = false := keepF hb1 (v := .int .i64 0) (by go_simp) (by go_simp)
                have z1 : w1.cell? ⟨w.heap.size, 1, none⟩ = some (.int .i64 0) := keepC hb1 (by go_simp)
                have fz1 : w1.frozen? ⟨w.heap.size, 1, none⟩ = false := keepF hb1 (v := .int .i64 0) (by go_simp) (by go_simp)
                have hbb : Below w.heap.size w w1 := keepB (by (first | exact (((Below.refl _ _).alloc (Nat.le_refl _) _).alloc (by simp) _) | exact (((((Below.refl _ _).alloc (Nat.le_refl _) _).alloc (by simp) _).setCell (by simp) _)))) hb1
                clear hb1 CC
                go_wp2_with fail
                exact bodyPost_ret (v := .tuple #[.agg #[.int .i64 0, .int .i64 0], .int .i64 12]) (by simp [results, Tryd.results7, go_sem, z0, z1]) rfl ⟨rfl, below_set (below_set hbb (by omega) _) (by omega) _⟩
          · have d1 : decide (1 < (E : Int)) = false := decide_eq_false (by omega)
            have d1n : decide (1 < E) = false := decide_eq_false h1
            rw [d1n] at HR
            clear d1n
            rcases B with _ | _
            · go_wp2_with fail
              try rw [e0]
              refine (CD.out _).mono ?_
              rintro e w' ⟨rfl, rfl⟩
              go_wp2_with fail
              try rw [e1]
              refine (CE.out _).mono ?_
              rintro e w' ⟨rfl, rfl⟩
              clear CD CE e0 e1 HD HE hg2
              obtain ⟨rfl, rfl, rfl⟩ := Rp.sel_err HR.out (by simp)
              clear HR
              go_wp2_with fail
              exact bodyPost_ret (v := .tuple #[.agg #[.int .i64 0, .int .i64 0], .int .i64 12]) (by simp [results, Tryd.results7, go_sem]) rfl ⟨rfl, (Below.refl _ _).alloc (Nat.le_refl _) _⟩
            · go_wp2_with fail
              try rw [e0]
              refine (CD.out _).mono ?_
              rintro e w' ⟨rfl, rfl⟩
              go_wp2_with fail
              try rw [e1]
              refine (CE.out _).mono ?_
              rintro e w' ⟨rfl, rfl⟩
              clear CD CE e0 e1 HD HE hg2
              obtain ⟨rfl, rfl, rfl⟩ := Rp.sel_err HR.out (by simp)
              clear HR
              go_wp2_with fail
              exact bodyPost_ret (v := .tuple #[.agg #[.int .i64 0, .int .i64 0], .int .i64 12]) (by simp [results, Tryd.results7, go_sem]) rfl ⟨rfl, (Below.refl _ _).alloc (Nat.le_refl _) _⟩

set_option maxHeartbeats 1000000 in
set_option maxRecDepth 100000 in
theorem rParse_nil (w : World) :
    Calls Tryd.prog 7 #[.string ⟨#[]⟩] w fun e w' => e = .returned (.tuple #[.agg #[.int .i64 0, .int .i64 0], .int .i64 12]) ∧ Below w.heap.size w w' := by
  have CD := Lib.hid (fun w => digits_any [] w (by simp))
  go_enter Tryd.func7, Tryd.ntmps7
  go_wp2_with fail
  go_loop [5] (fun i => i = .int .i64 0) (fun _ => 0)
  case atStart => rfl
  case round =>
    subst hrel
    go_wp2_with fail
    refine (CD.out _).mono ?_
    rintro e w' ⟨rfl, rfl⟩
    go_wp2_with fail
    exact bodyPost_ret (v := .tuple #[.agg #[.int .i64 0, .int .i64 0], .int .i64 12]) (by simp [results, Tryd.results7, go_sem]) rfl ⟨rfl, (Below.refl _ _).alloc (Nat.le_refl _) _⟩

/-- The reference's Parse says what package ratio's does. -/
theorem rParse_any (l : List UInt8) (w : World) (hs : l.length < 4294967281) :
    Calls Tryd.prog 7 #[.string ⟨l.toArray⟩] w fun e w' => e = .returned (.tuple #[.agg #[.int .i64 (Rp.parseS l).1, .int .i64 (Rp.parseS l).2.1], .int .i64 (Rp.parseS l).2.2]) ∧ Below w.heap.size w w' := by
  rw [← Rp.rParseS_eq, Rp.rParseS_from]
  rcases l with _ | ⟨c, r⟩
  · exact rParse_nil w
  · by_cases hc : c = 45
    · subst hc
      exact rParse_neg r w (by simp at hs; omega)
    · have e1 : Rp.negS (c :: r) = false := by
        unfold Rp.negS
        rw [List.head?_cons, beq_eq_false_iff_ne]
        intro h
        exact hc (Option.some.inj h)
      have e2 : Rp.bodyS (c :: r) = c :: r := by unfold Rp.bodyS; rw [e1]; rfl
      rw [e1, e2]
      refine rParse_pos (c :: r) w hs (by simp) ?_
      intro h
      exact hc (UInt8.toNat_inj.1 h)
end Go.Proofs.YtbcnngjcggddbaaDoor
