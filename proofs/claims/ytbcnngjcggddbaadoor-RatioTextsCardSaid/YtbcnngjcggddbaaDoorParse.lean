/- Contract of package ratio's Parse. -/
import Derived.Test.YtbcnngjcggddbaaDoorTextw
import Derived.Lib.ParseIntBTie
import Derived.Laws.Strings
namespace Go.Proofs.YtbcnngjcggddbaaDoor
open Go.RowKit Go.Shelf

theorem ok_bounds {l : List UInt8} {v : Int} (h : Rp.okOf (Lib.parseIntB 64 l) = some v) : -9223372036854775808 ≤ v ∧ v ≤ 9223372036854775807 := by
  rcases hp : Lib.parseIntB 64 l with u | _ | _
  · rw [hp] at h
    obtain rfl : u = v := by simpa [Rp.okOf] using h
    have := Lib.parseIntB_bounds hp
    have e : ((2 ^ (64 - 1) : Nat) : Int) = 9223372036854775808 := by decide
    omega
  · rw [hp] at h; simp [Rp.okOf] at h
  · rw [hp] at h; simp [Rp.okOf] at h
theorem cut_len (l sep : List UInt8) : (Lib.cut l sep).1.length ≤ l.length ∧ (Lib.cut l sep).2.1.length ≤ l.length := by
  unfold Lib.cut
  split
  · simp; omega
  · simp

theorem ba_self (a : ByteArray) : (a != a) = false := by
  obtain ⟨x⟩ := a
  show (!(x == x)) = false
  simp

set_option maxRecDepth 100000 in
set_option maxHeartbeats 4000000 in
theorem Parse_any (s : ByteArray) (w : World) (hs : s.size < 4294967281) (E0 : Env w) :
    Calls Tryd.prog 6 #[.string s] w fun e w' => e = .returned (.tuple #[.agg #[.int .i64 (Rp.parseS s.data.toList).1, .int .i64 (Rp.parseS s.data.toList).2.1], .int .i64 (Rp.parseS s.data.toList).2.2]) ∧ Below w.heap.size w w' := by
  have cc := fun w => cut_any s ⟨#[47]⟩ w hs
  have hl := cut_len s.data.toList [47]
  have hsz : s.data.toList.length = s.size := by rw [Array.length_toList]; rfl
  unfold Rp.parseS Rp.topOf Rp.botOf
  have e47 : (⟨#[47]⟩ : ByteArray).data.toList = [47] := rfl
  rw [e47] at cc
  generalize Lib.cut s.data.toList [47] = X at *
  obtain ⟨A, B, f⟩ := X
  dsimp only at cc hl ⊢
  have ca := fun w => parse_any ⟨A.toArray⟩ w (by show Array.size _ < _; rw [List.size_toArray]; omega)
  have eA : (⟨A.toArray⟩ : ByteArray).data.toList = A := by simp
  rw [eA] at ca
  have E := Lib.hid E0
  have CC := Lib.hid cc
  have CA := Lib.hid ca
  clear E0 cc ca e47 eA
  cases f
  · rw [if_neg (by simp)]
    have cb := fun w => parse_any ⟨#[49]⟩ w (by decide)
    have eB : (⟨#[49]⟩ : ByteArray).data.toList = [49] := rfl
    rw [eB] at cb
    have CB := Lib.hid cb
    clear cb eB hl hsz hs
    rcases hp : Rp.okOf (Lib.parseIntB 64 A) with _ | n
    · rw [hp] at CA
      rcases hq : Rp.okOf (Lib.parseIntB 64 [49]) with _ | d
      · rw [hq] at CB
        go_enter Tryd.func6, Tryd.ntmps6
        go_wp2_with fail
        refine (CC.out _ ((E.out).keep ((Below.refl _ _).alloc (Nat.le_refl _) _))).mono ?_
        rintro e w1 ⟨rfl, hb1⟩
        have z0 : w1.cell? ⟨w.heap.size, 0, none⟩ = some (.int .i64 0) := keepC hb1 (by go_simp)
        have fz0 : w1.frozen? ⟨w.heap.size, 0, none⟩ = false := keepF hb1 (v := .int .i64 0) (by go_simp) (by go_simp)
        have z1 : w1.cell? ⟨w.heap.size, 1, none⟩ = some (.int .i64 0) := keepC hb1 (by go_simp)
        have fz1 : w1.frozen? ⟨w.heap.size, 1, none⟩ = false := keepF hb1 (v := .int .i64 0) (by go_simp) (by go_simp)
        have E2 := Lib.hid (((E.out).keep ((Below.refl _ _).alloc (Nat.le_refl _) _)).keep hb1)
        have hbb : Below w.heap.size w w1 := keepB ((Below.refl _ _).alloc (Nat.le_refl _) _) hb1
        clear hb1 CC
        go_wp2_with fail
        refine (CA.out _ E2.out).mono ?_
        rintro e w2 ⟨he, hb2⟩
        obtain ⟨k, N, rfl⟩ := he
        replace fz0 := keepF hb2 z0 fz0
        replace z0 := keepC hb2 z0
        replace fz1 := keepF hb2 z1 fz1
        replace z1 := keepC hb2 z1
        replace hbb := keepB hbb hb2
        have E3 := Lib.hid ((E2.out).keep hb2)
        clear hb2
        clear CA
        go_wp2_with fail
        refine (CB.out _ E3.out).mono ?_
        rintro e w3 ⟨he, hb3⟩
        obtain ⟨k', N', rfl⟩ := he
        replace fz0 := keepF hb3 z0 fz0
        replace z0 := keepC hb3 z0
        replace fz1 := keepF hb3 z1 fz1
        replace z1 := keepC hb3 z1
        replace hbb := keepB hbb hb3
        have E4 := Lib.hid ((E3.out).keep hb3)
        clear hb3
        clear CB
        go_wp2
        exact bodyPost_ret (v := .tuple #[.agg #[.int .i64 0, .int .i64 0], .int .i64 12]) (by simp [results, Tryd.results6, go_sem, z0, z1]) rfl ⟨rfl, below_set (below_set hbb (by omega) _) (by omega) _⟩
      · rw [hq] at CB
        go_enter Tryd.func6, Tryd.ntmps6
        go_wp2_with fail
        refine (CC.out _ ((E.out).keep ((Below.refl _ _).alloc (Nat.le_refl _) _))).mono ?_
        rintro e w1 ⟨rfl, hb1⟩
        have z0 : w1.cell? ⟨w.heap.size, 0, none⟩ = some (.int .i64 0) := keepC hb1 (by go_simp)
        have fz0 : w1.frozen? ⟨w.heap.size, 0, none⟩ = false := keepF hb1 (v := .int .i64 0) (by go_simp) (by go_simp)
        have z1 : w1.cell? ⟨w.heap.size, 1, none⟩ = some (.int .i64 0) := keepC hb1 (by go_simp)
        have fz1 : w1.frozen? ⟨w.heap.size, 1, none⟩ = false := keepF hb1 (v := .int .i64 0) (by go_simp) (by go_simp)
        have E2 := Lib.hid (((E.out).keep ((Below.refl _ _).alloc (Nat.le_refl _) _)).keep hb1)
        have hbb : Below w.heap.size w w1 := keepB ((Below.refl _ _).alloc (Nat.le_refl _) _) hb1
        clear hb1 CC
        go_wp2_with fail
        refine (CA.out _ E2.out).mono ?_
        rintro e w2 ⟨he, hb2⟩
        obtain ⟨k, N, rfl⟩ := he
        replace fz0 := keepF hb2 z0 fz0
        replace z0 := keepC hb2 z0
        replace fz1 := keepF hb2 z1 fz1
        replace z1 := keepC hb2 z1
        replace hbb := keepB hbb hb2
        have E3 := Lib.hid ((E2.out).keep hb2)
        clear hb2
        clear CA
        go_wp2_with fail
        refine (CB.out _ E3.out).mono ?_
        rintro e w3 ⟨he, hb3⟩
        obtain rfl := he
        replace fz0 := keepF hb3 z0 fz0
        replace z0 := keepC hb3 z0
        replace fz1 := keepF hb3 z1 fz1
        replace z1 := keepC hb3 z1
        replace hbb := keepB hbb hb3
        have E4 := Lib.hid ((E3.out).keep hb3)
        clear hb3
        clear CB
        go_wp2
        exact bodyPost_ret (v := .tuple #[.agg #[.int .i64 0, .int .i64 0], .int .i64 12]) (by simp [results, Tryd.results6, go_sem, z0, z1]) rfl ⟨rfl, below_set (below_set hbb (by omega) _) (by omega) _⟩
    · rw [hp] at CA
      rcases hq : Rp.okOf (Lib.parseIntB 64 [49]) with _ | d
      · rw [hq] at CB
        go_enter Tryd.func6, Tryd.ntmps6
        go_wp2_with fail
        refine (CC.out _ ((E.out).keep ((Below.refl _ _).alloc (Nat.le_refl _) _))).mono ?_
        rintro e w1 ⟨rfl, hb1⟩
        have z0 : w1.cell? ⟨w.heap.size, 0, none⟩ = some (.int .i64 0) := keepC hb1 (by go_simp)
        have fz0 : w1.frozen? ⟨w.heap.size, 0, none⟩ = false := keepF hb1 (v := .int .i64 0) (by go_simp) (by go_simp)
        have z1 : w1.cell? ⟨w.heap.size, 1, none⟩ = some (.int .i64 0) := keepC hb1 (by go_simp)
        have fz1 : w1.frozen? ⟨w.heap.size, 1, none⟩ = false := keepF hb1 (v := .int .i64 0) (by go_simp) (by go_simp)
        have E2 := Lib.hid (((E.out).keep ((Below.refl _ _).alloc (Nat.le_refl _) _)).keep hb1)
        have hbb : Below w.heap.size w w1 := keepB ((Below.refl _ _).alloc (Nat.le_refl _) _) hb1
        clear hb1 CC
        go_wp2_with fail
        refine (CA.out _ E2.out).mono ?_
        rintro e w2 ⟨he, hb2⟩
        obtain rfl := he
        replace fz0 := keepF hb2 z0 fz0
        replace z0 := keepC hb2 z0
        replace fz1 := keepF hb2 z1 fz1
        replace z1 := keepC hb2 z1
        replace hbb := keepB hbb hb2
        have E3 := Lib.hid ((E2.out).keep hb2)
        clear hb2
        clear CA
        go_wp2_with fail
        refine (CB.out _ E3.out).mono ?_
        rintro e w3 ⟨he, hb3⟩
        obtain ⟨k', N', rfl⟩ := he
        replace fz0 := keepF hb3 z0 fz0
        replace z0 := keepC hb3 z0
        replace fz1 := keepF hb3 z1 fz1
        replace z1 := keepC hb3 z1
        replace hbb := keepB hbb hb3
        have E4 := Lib.hid ((E3.out).keep hb3)
        clear hb3
        clear CB
        go_wp2
        exact bodyPost_ret (v := .tuple #[.agg #[.int .i64 0, .int .i64 0], .int .i64 12]) (by simp [results, Tryd.results6, go_sem, z0, z1]) rfl ⟨rfl, below_set (below_set hbb (by omega) _) (by omega) _⟩
      · rw [hq] at CB
        obtain ⟨n0, n1⟩ := ok_bounds hp
        obtain ⟨d0, d1⟩ := ok_bounds hq
        have ct := fun w => Text_any n d w n0 n1 d0 d1
        clear hp hq
        by_cases hx : Rp.Ok n d
        · have e1 : Rp.txtS n d = (Rp.txt n d, 0) := by unfold Rp.txtS; rw [if_pos hx]
          rw [e1] at ct
          dsimp only at ct ⊢
          by_cases ht : Rp.txt n d = s.data.toList
          · rw [if_pos ⟨hx, ht⟩]
            have e2 : (⟨(Rp.txt n d).toArray⟩ : ByteArray) = s := by rw [ht]
            rw [e2] at ct
            have CT := Lib.hid ct
            have hb : (s != s) = false := ba_self s
            clear ct e1 e2 hx ht n0 n1 d0 d1
            go_enter Tryd.func6, Tryd.ntmps6
            go_wp2_with fail
            refine (CC.out _ ((E.out).keep ((Below.refl _ _).alloc (Nat.le_refl _) _))).mono ?_
            rintro e w1 ⟨rfl, hb1⟩
            have z0 : w1.cell? ⟨w.heap.size, 0, none⟩ = some (.int .i64 0) := keepC hb1 (by go_simp)
            have fz0 : w1.frozen? ⟨w.heap.size, 0, none⟩ = false := keepF hb1 (v := .int .i64 0) (by go_simp) (by go_simp)
            have z1 : w1.cell? ⟨w.heap.size, 1, none⟩ = some (.int .i64 0) := keepC hb1 (by go_simp)
            have fz1 : w1.frozen? ⟨w.heap.size, 1, none⟩ = false := keepF hb1 (v := .int .i64 0) (by go_simp) (by go_simp)
            have E2 := Lib.hid (((E.out).keep ((Below.refl _ _).alloc (Nat.le_refl _) _)).keep hb1)
            have hbb : Below w.heap.size w w1 := keepB ((Below.refl _ _).alloc (Nat.le_refl _) _) hb1
            clear hb1 CC
            go_wp2_with fail
            refine (CA.out _ E2.out).mono ?_
            rintro e w2 ⟨he, hb2⟩
            obtain rfl := he
            replace fz0 := keepF hb2 z0 fz0
            replace z0 := keepC hb2 z0
            replace fz1 := keepF hb2 z1 fz1
            replace z1 := keepC hb2 z1
            replace hbb := keepB hbb hb2
            have E3 := Lib.hid ((E2.out).keep hb2)
            clear hb2
            clear CA
            go_wp2_with fail
            refine (CB.out _ E3.out).mono ?_
            rintro e w3 ⟨he, hb3⟩
            obtain rfl := he
            replace fz0 := keepF hb3 z0 fz0
            replace z0 := keepC hb3 z0
            replace fz1 := keepF hb3 z1 fz1
            replace z1 := keepC hb3 z1
            replace hbb := keepB hbb hb3
            have E4 := Lib.hid ((E3.out).keep hb3)
            clear hb3
            clear CB
            have l0 := lt_of_cell z0
            go_wp2_with fail
            refine at_worldR (fun v => Env v ∧ Below w.heap.size w v ∧ v.cell? ⟨w3.heap.size, 0, none⟩ = some (.int .i64 n) ∧ v.cell? ⟨w3.heap.size, 1, none⟩ = some (.int .i64 d) ∧ v.cell? ⟨w.heap.size, 0, none⟩ = some (.int .i64 0) ∧ v.cell? ⟨w.heap.size, 1, none⟩ = some (.int .i64 0) ∧ v.frozen? ⟨w.heap.size, 0, none⟩ = false ∧ v.frozen? ⟨w.heap.size, 1, none⟩ = false) ⟨(E4.out).keep ((Below.refl _ _).alloc (Nat.le_refl _) _), below_al hbb _, n20 _ _ _ _, n21 _ _ _ _, cell_alloc z0 _, cell_alloc z1 _, froz_alloc z0 fz0 _, froz_alloc z1 fz1 _⟩ (fun V3 hS => ?_)
            obtain ⟨hE, hbb, a0, a1, z0, z1, fz0, fz1⟩ := hS
            refine (CT.out _ hE).mono ?_
            rintro e w4 ⟨rfl, hb4⟩
            clear hE
            replace a0 := keepC hb4 a0
            replace a1 := keepC hb4 a1
            replace fz0 := keepF hb4 z0 fz0
            replace z0 := keepC hb4 z0
            replace fz1 := keepF hb4 z1 fz1
            replace z1 := keepC hb4 z1
            replace hbb := keepB hbb hb4
            clear hb4 CT
            have l1 := lt_of_cell a0
            go_wp2
            exact bodyPost_ret (v := .tuple #[.agg #[.int .i64 n, .int .i64 d], .int .i64 0]) (by simp [results, Tryd.results6, go_sem, z0, z1]) rfl ⟨rfl, below_set (below_set hbb (by omega) _) (by omega) _⟩
          · rw [if_neg (fun h => ht h.2)]
            have hb : ((⟨(Rp.txt n d).toArray⟩ : ByteArray).toList == s.toList) = false := by
              rw [ByteArray.toList_mk, ByteArray.toList_eq, beq_eq_false_iff_ne]
              exact ht
            generalize (⟨(Rp.txt n d).toArray⟩ : ByteArray) = T at *
            have CT := Lib.hid ct
            clear ct e1 hx ht n0 n1 d0 d1
            go_enter Tryd.func6, Tryd.ntmps6
            go_wp2_with fail
            refine (CC.out _ ((E.out).keep ((Below.refl _ _).alloc (Nat.le_refl _) _))).mono ?_
            rintro e w1 ⟨rfl, hb1⟩
            have z0 : w1.cell? ⟨w.heap.size, 0, none⟩ = some (.int .i64 0) := keepC hb1 (by go_simp)
            have fz0 : w1.frozen? ⟨w.heap.size, 0, none⟩ = false := keepF hb1 (v := .int .i64 0) (by go_simp) (by go_simp)
            have z1 : w1.cell? ⟨w.heap.size, 1, none⟩ = some (.int .i64 0) := keepC hb1 (by go_simp)
            have fz1 : w1.frozen? ⟨w.heap.size, 1, none⟩ = false := keepF hb1 (v := .int .i64 0) (by go_simp) (by go_simp)
            have E2 := Lib.hid (((E.out).keep ((Below.refl _ _).alloc (Nat.le_refl _) _)).keep hb1)
            have hbb : Below w.heap.size w w1 := keepB ((Below.refl _ _).alloc (Nat.le_refl _) _) hb1
            clear hb1 CC
            go_wp2_with fail
            refine (CA.out _ E2.out).mono ?_
            rintro e w2 ⟨he, hb2⟩
            obtain rfl := he
            replace fz0 := keepF hb2 z0 fz0
            replace z0 := keepC hb2 z0
            replace fz1 := keepF hb2 z1 fz1
            replace z1 := keepC hb2 z1
            replace hbb := keepB hbb hb2
            have E3 := Lib.hid ((E2.out).keep hb2)
            clear hb2
            clear CA
            go_wp2_with fail
            refine (CB.out _ E3.out).mono ?_
            rintro e w3 ⟨he, hb3⟩
            obtain rfl := he
            replace fz0 := keepF hb3 z0 fz0
            replace z0 := keepC hb3 z0
            replace fz1 := keepF hb3 z1 fz1
            replace z1 := keepC hb3 z1
            replace hbb := keepB hbb hb3
            have E4 := Lib.hid ((E3.out).keep hb3)
            clear hb3
            clear CB
            have l0 := lt_of_cell z0
            go_wp2_with fail
            refine at_worldR (fun v => Env v ∧ Below w.heap.size w v ∧ v.cell? ⟨w3.heap.size, 0, none⟩ = some (.int .i64 n) ∧ v.cell? ⟨w3.heap.size, 1, none⟩ = some (.int .i64 d) ∧ v.cell? ⟨w.heap.size, 0, none⟩ = some (.int .i64 0) ∧ v.cell? ⟨w.heap.size, 1, none⟩ = some (.int .i64 0) ∧ v.frozen? ⟨w.heap.size, 0, none⟩ = false ∧ v.frozen? ⟨w.heap.size, 1, none⟩ = false) ⟨(E4.out).keep ((Below.refl _ _).alloc (Nat.le_refl _) _), below_al hbb _, n20 _ _ _ _, n21 _ _ _ _, cell_alloc z0 _, cell_alloc z1 _, froz_alloc z0 fz0 _, froz_alloc z1 fz1 _⟩ (fun V3 hS => ?_)
            obtain ⟨hE, hbb, a0, a1, z0, z1, fz0, fz1⟩ := hS
            refine (CT.out _ hE).mono ?_
            rintro e w4 ⟨rfl, hb4⟩
            clear hE
            replace a0 := keepC hb4 a0
            replace a1 := keepC hb4 a1
            replace fz0 := keepF hb4 z0 fz0
            replace z0 := keepC hb4 z0
            replace fz1 := keepF hb4 z1 fz1
            replace z1 := keepC hb4 z1
            replace hbb := keepB hbb hb4
            clear hb4 CT
            have l1 := lt_of_cell a0
            go_wp2
            exact bodyPost_ret (v := .tuple #[.agg #[.int .i64 0, .int .i64 0], .int .i64 12]) (by simp [results, Tryd.results6, go_sem, z0, z1]) rfl ⟨rfl, below_set (below_set hbb (by omega) _) (by omega) _⟩
        · have e1 : Rp.txtS n d = ([], 8) := by unfold Rp.txtS; rw [if_neg hx]
          rw [e1] at ct
          dsimp only at ct ⊢
          rw [if_neg (fun h => hx h.1)]
          have CT := Lib.hid ct
          clear ct e1 hx n0 n1 d0 d1
          go_enter Tryd.func6, Tryd.ntmps6
          go_wp2_with fail
          refine (CC.out _ ((E.out).keep ((Below.refl _ _).alloc (Nat.le_refl _) _))).mono ?_
          rintro e w1 ⟨rfl, hb1⟩
          have z0 : w1.cell? ⟨w.heap.size, 0, none⟩ = some (.int .i64 0) := keepC hb1 (by go_simp)
          have fz0 : w1.frozen? ⟨w.heap.size, 0, none⟩ = false := keepF hb1 (v := .int .i64 0) (by go_simp) (by go_simp)
          have z1 : w1.cell? ⟨w.heap.size, 1, none⟩ = some (.int .i64 0) := keepC hb1 (by go_simp)
          have fz1 : w1.frozen? ⟨w.heap.size, 1, none⟩ = false := keepF hb1 (v := .int .i64 0) (by go_simp) (by go_simp)
          have E2 := Lib.hid (((E.out).keep ((Below.refl _ _).alloc (Nat.le_refl _) _)).keep hb1)
          have hbb : Below w.heap.size w w1 := keepB ((Below.refl _ _).alloc (Nat.le_refl _) _) hb1
          clear hb1 CC
          go_wp2_with fail
          refine (CA.out _ E2.out).mono ?_
          rintro e w2 ⟨he, hb2⟩
          obtain rfl := he
          replace fz0 := keepF hb2 z0 fz0
          replace z0 := keepC hb2 z0
          replace fz1 := keepF hb2 z1 fz1
          replace z1 := keepC hb2 z1
          replace hbb := keepB hbb hb2
          have E3 := Lib.hid ((E2.out).keep hb2)
          clear hb2
          clear CA
          go_wp2_with fail
          refine (CB.out _ E3.out).mono ?_
          rintro e w3 ⟨he, hb3⟩
          obtain rfl := he
          replace fz0 := keepF hb3 z0 fz0
          replace z0 := keepC hb3 z0
          replace fz1 := keepF hb3 z1 fz1
          replace z1 := keepC hb3 z1
          replace hbb := keepB hbb hb3
          have E4 := Lib.hid ((E3.out).keep hb3)
          clear hb3
          clear CB
          have l0 := lt_of_cell z0
          go_wp2_with fail
          refine at_worldR (fun v => Env v ∧ Below w.heap.size w v ∧ v.cell? ⟨w3.heap.size, 0, none⟩ = some (.int .i64 n) ∧ v.cell? ⟨w3.heap.size, 1, none⟩ = some (.int .i64 d) ∧ v.cell? ⟨w.heap.size, 0, none⟩ = some (.int .i64 0) ∧ v.cell? ⟨w.heap.size, 1, none⟩ = some (.int .i64 0) ∧ v.frozen? ⟨w.heap.size, 0, none⟩ = false ∧ v.frozen? ⟨w.heap.size, 1, none⟩ = false) ⟨(E4.out).keep ((Below.refl _ _).alloc (Nat.le_refl _) _), below_al hbb _, n20 _ _ _ _, n21 _ _ _ _, cell_alloc z0 _, cell_alloc z1 _, froz_alloc z0 fz0 _, froz_alloc z1 fz1 _⟩ (fun V3 hS => ?_)
          obtain ⟨hE, hbb, a0, a1, z0, z1, fz0, fz1⟩ := hS
          refine (CT.out _ hE).mono ?_
          rintro e w4 ⟨rfl, hb4⟩
          clear hE
          replace a0 := keepC hb4 a0
          replace a1 := keepC hb4 a1
          replace fz0 := keepF hb4 z0 fz0
          replace z0 := keepC hb4 z0
          replace fz1 := keepF hb4 z1 fz1
          replace z1 := keepC hb4 z1
          replace hbb := keepB hbb hb4
          clear hb4 CT
          have l1 := lt_of_cell a0
          go_wp2
          exact bodyPost_ret (v := .tuple #[.agg #[.int .i64 0, .int .i64 0], .int .i64 12]) (by simp [results, Tryd.results6, go_sem, z0, z1]) rfl ⟨rfl, below_set (below_set hbb (by omega) _) (by omega) _⟩
  · rw [if_pos rfl]
    have cb := fun w => parse_any ⟨B.toArray⟩ w (by show Array.size _ < _; rw [List.size_toArray]; omega)
    have eB : (⟨B.toArray⟩ : ByteArray).data.toList = B := by simp
    rw [eB] at cb
    have CB := Lib.hid cb
    clear cb eB hl hsz hs
    rcases hp : Rp.okOf (Lib.parseIntB 64 A) with _ | n
    · rw [hp] at CA
      rcases hq : Rp.okOf (Lib.parseIntB 64 B) with _ | d
      · rw [hq] at CB
        go_enter Tryd.func6, Tryd.ntmps6
        go_wp2_with fail
        refine (CC.out _ ((E.out).keep ((Below.refl _ _).alloc (Nat.le_refl _) _))).mono ?_
        rintro e w1 ⟨rfl, hb1⟩
        have z0 : w1.cell? ⟨w.heap.size, 0, none⟩ = some (.int .i64 0) := keepC hb1 (by go_simp)
        have fz0 : w1.frozen? ⟨w.heap.size, 0, none⟩ = false := keepF hb1 (v := .int .i64 0) (by go_simp) (by go_simp)
        have z1 : w1.cell? ⟨w.heap.size, 1, none⟩ = some (.int .i64 0) := keepC hb1 (by go_simp)
        have fz1 : w1.frozen? ⟨w.heap.size, 1, none⟩ = false := keepF hb1 (v := .int .i64 0) (by go_simp) (by go_simp)
        have E2 := Lib.hid (((E.out).keep ((Below.refl _ _).alloc (Nat.le_refl _) _)).keep hb1)
        have hbb : Below w.heap.size w w1 := keepB ((Below.refl _ _).alloc (Nat.le_refl _) _) hb1
        clear hb1 CC
        go_wp2_with fail
        refine (CA.out _ E2.out).mono ?_
        rintro e w2 ⟨he, hb2⟩
        obtain ⟨k, N, rfl⟩ := he
        replace fz0 := keepF hb2 z0 fz0
        replace z0 := keepC hb2 z0
        replace fz1 := keepF hb2 z1 fz1
        replace z1 := keepC hb2 z1
        replace hbb := keepB hbb hb2
        have E3 := Lib.hid ((E2.out).keep hb2)
        clear hb2
        clear CA
        go_wp2_with fail
        refine (CB.out _ E3.out).mono ?_
        rintro e w3 ⟨he, hb3⟩
        obtain ⟨k', N', rfl⟩ := he
        replace fz0 := keepF hb3 z0 fz0
        replace z0 := keepC hb3 z0
        replace fz1 := keepF hb3 z1 fz1
        replace z1 := keepC hb3 z1
        replace hbb := keepB hbb hb3
        have E4 := Lib.hid ((E3.out).keep hb3)
        clear hb3
        clear CB
        go_wp2
        exact bodyPost_ret (v := .tuple #[.agg #[.int .i64 0, .int .i64 0], .int .i64 12]) (by simp [results, Tryd.results6, go_sem, z0, z1]) rfl ⟨rfl, below_set (below_set hbb (by omega) _) (by omega) _⟩
      · rw [hq] at CB
        go_enter Tryd.func6, Tryd.ntmps6
        go_wp2_with fail
        refine (CC.out _ ((E.out).keep ((Below.refl _ _).alloc (Nat.le_refl _) _))).mono ?_
        rintro e w1 ⟨rfl, hb1⟩
        have z0 : w1.cell? ⟨w.heap.size, 0, none⟩ = some (.int .i64 0) := keepC hb1 (by go_simp)
        have fz0 : w1.frozen? ⟨w.heap.size, 0, none⟩ = false := keepF hb1 (v := .int .i64 0) (by go_simp) (by go_simp)
        have z1 : w1.cell? ⟨w.heap.size, 1, none⟩ = some (.int .i64 0) := keepC hb1 (by go_simp)
        have fz1 : w1.frozen? ⟨w.heap.size, 1, none⟩ = false := keepF hb1 (v := .int .i64 0) (by go_simp) (by go_simp)
        have E2 := Lib.hid (((E.out).keep ((Below.refl _ _).alloc (Nat.le_refl _) _)).keep hb1)
        have hbb : Below w.heap.size w w1 := keepB ((Below.refl _ _).alloc (Nat.le_refl _) _) hb1
        clear hb1 CC
        go_wp2_with fail
        refine (CA.out _ E2.out).mono ?_
        rintro e w2 ⟨he, hb2⟩
        obtain ⟨k, N, rfl⟩ := he
        replace fz0 := keepF hb2 z0 fz0
        replace z0 := keepC hb2 z0
        replace fz1 := keepF hb2 z1 fz1
        replace z1 := keepC hb2 z1
        replace hbb := keepB hbb hb2
        have E3 := Lib.hid ((E2.out).keep hb2)
        clear hb2
        clear CA
        go_wp2_with fail
        refine (CB.out _ E3.out).mono ?_
        rintro e w3 ⟨he, hb3⟩
        obtain rfl := he
        replace fz0 := keepF hb3 z0 fz0
        replace z0 := keepC hb3 z0
        replace fz1 := keepF hb3 z1 fz1
        replace z1 := keepC hb3 z1
        replace hbb := keepB hbb hb3
        have E4 := Lib.hid ((E3.out).keep hb3)
        clear hb3
        clear CB
        go_wp2
        exact bodyPost_ret (v := .tuple #[.agg #[.int .i64 0, .int .i64 0], .int .i64 12]) (by simp [results, Tryd.results6, go_sem, z0, z1]) rfl ⟨rfl, below_set (below_set hbb (by omega) _) (by omega) _⟩
    · rw [hp] at CA
      rcases hq : Rp.okOf (Lib.parseIntB 64 B) with _ | d
      · rw [hq] at CB
        go_enter Tryd.func6, Tryd.ntmps6
        go_wp2_with fail
        refine (CC.out _ ((E.out).keep ((Below.refl _ _).alloc (Nat.le_refl _) _))).mono ?_
        rintro e w1 ⟨rfl, hb1⟩
        have z0 : w1.cell? ⟨w.heap.size, 0, none⟩ = some (.int .i64 0) := keepC hb1 (by go_simp)
        have fz0 : w1.frozen? ⟨w.heap.size, 0, none⟩ = false := keepF hb1 (v := .int .i64 0) (by go_simp) (by go_simp)
        have z1 : w1.cell? ⟨w.heap.size, 1, none⟩ = some (.int .i64 0) := keepC hb1 (by go_simp)
        have fz1 : w1.frozen? ⟨w.heap.size, 1, none⟩ = false := keepF hb1 (v := .int .i64 0) (by go_simp) (by go_simp)
        have E2 := Lib.hid (((E.out).keep ((Below.refl _ _).alloc (Nat.le_refl _) _)).keep hb1)
        have hbb : Below w.heap.size w w1 := keepB ((Below.refl _ _).alloc (Nat.le_refl _) _) hb1
        clear hb1 CC
        go_wp2_with fail
        refine (CA.out _ E2.out).mono ?_
        rintro e w2 ⟨he, hb2⟩
        obtain rfl := he
        replace fz0 := keepF hb2 z0 fz0
        replace z0 := keepC hb2 z0
        replace fz1 := keepF hb2 z1 fz1
        replace z1 := keepC hb2 z1
        replace hbb := keepB hbb hb2
        have E3 := Lib.hid ((E2.out).keep hb2)
        clear hb2
        clear CA
        go_wp2_with fail
        refine (CB.out _ E3.out).mono ?_
        rintro e w3 ⟨he, hb3⟩
        obtain ⟨k', N', rfl⟩ := he
        replace fz0 := keepF hb3 z0 fz0
        replace z0 := keepC hb3 z0
        replace fz1 := keepF hb3 z1 fz1
        replace z1 := keepC hb3 z1
        replace hbb := keepB hbb hb3
        have E4 := Lib.hid ((E3.out).keep hb3)
        clear hb3
        clear CB
        go_wp2
        exact bodyPost_ret (v := .tuple #[.agg #[.int .i64 0, .int .i64 0], .int .i64 12]) (by simp [results, Tryd.results6, go_sem, z0, z1]) rfl ⟨rfl, below_set (below_set hbb (by omega) _) (by omega) _⟩
      · rw [hq] at CB
        obtain ⟨n0, n1⟩ := ok_bounds hp
        obtain ⟨d0, d1⟩ := ok_bounds hq
        have ct := fun w => Text_any n d w n0 n1 d0 d1
        clear hp hq
        by_cases hx : Rp.Ok n d
        · have e1 : Rp.txtS n d = (Rp.txt n d, 0) := by unfold Rp.txtS; rw [if_pos hx]
          rw [e1] at ct
          dsimp only at ct ⊢
          by_cases ht : Rp.txt n d = s.data.toList
          · rw [if_pos ⟨hx, ht⟩]
            have e2 : (⟨(Rp.txt n d).toArray⟩ : ByteArray) = s := by rw [ht]
            rw [e2] at ct
            have CT := Lib.hid ct
            have hb : (s != s) = false := ba_self s
            clear ct e1 e2 hx ht n0 n1 d0 d1
            go_enter Tryd.func6, Tryd.ntmps6
            go_wp2_with fail
            refine (CC.out _ ((E.out).keep ((Below.refl _ _).alloc (Nat.le_refl _) _))).mono ?_
            rintro e w1 ⟨rfl, hb1⟩
            have z0 : w1.cell? ⟨w.heap.size, 0, none⟩ = some (.int .i64 0) := keepC hb1 (by go_simp)
            have fz0 : w1.frozen? ⟨w.heap.size, 0, none⟩ = false := keepF hb1 (v := .int .i64 0) (by go_simp) (by go_simp)
            have z1 : w1.cell? ⟨w.heap.size, 1, none⟩ = some (.int .i64 0) := keepC hb1 (by go_simp)
            have fz1 : w1.frozen? ⟨w.heap.size, 1, none⟩ = false := keepF hb1 (v := .int .i64 0) (by go_simp) (by go_simp)
            have E2 := Lib.hid (((E.out).keep ((Below.refl _ _).alloc (Nat.le_refl _) _)).keep hb1)
            have hbb : Below w.heap.size w w1 := keepB ((Below.refl _ _).alloc (Nat.le_refl _) _) hb1
            clear hb1 CC
            go_wp2_with fail
            refine (CA.out _ E2.out).mono ?_
            rintro e w2 ⟨he, hb2⟩
            obtain rfl := he
            replace fz0 := keepF hb2 z0 fz0
            replace z0 := keepC hb2 z0
            replace fz1 := keepF hb2 z1 fz1
            replace z1 := keepC hb2 z1
            replace hbb := keepB hbb hb2
            have E3 := Lib.hid ((E2.out).keep hb2)
            clear hb2
            clear CA
            go_wp2_with fail
            refine (CB.out _ E3.out).mono ?_
            rintro e w3 ⟨he, hb3⟩
            obtain rfl := he
            replace fz0 := keepF hb3 z0 fz0
            replace z0 := keepC hb3 z0
            replace fz1 := keepF hb3 z1 fz1
            replace z1 := keepC hb3 z1
            replace hbb := keepB hbb hb3
            have E4 := Lib.hid ((E3.out).keep hb3)
            clear hb3
            clear CB
            have l0 := lt_of_cell z0
            go_wp2_with fail
            refine at_worldR (fun v => Env v ∧ Below w.heap.size w v ∧ v.cell? ⟨w3.heap.size, 0, none⟩ = some (.int .i64 n) ∧ v.cell? ⟨w3.heap.size, 1, none⟩ = some (.int .i64 d) ∧ v.cell? ⟨w.heap.size, 0, none⟩ = some (.int .i64 0) ∧ v.cell? ⟨w.heap.size, 1, none⟩ = some (.int .i64 0) ∧ v.frozen? ⟨w.heap.size, 0, none⟩ = false ∧ v.frozen? ⟨w.heap.size, 1, none⟩ = false) ⟨(E4.out).keep ((Below.refl _ _).alloc (Nat.le_refl _) _), below_al hbb _, n20 _ _ _ _, n21 _ _ _ _, cell_alloc z0 _, cell_alloc z1 _, froz_alloc z0 fz0 _, froz_alloc z1 fz1 _⟩ (fun V3 hS => ?_)
            obtain ⟨hE, hbb, a0, a1, z0, z1, fz0, fz1⟩ := hS
            refine (CT.out _ hE).mono ?_
            rintro e w4 ⟨rfl, hb4⟩
            clear hE
            replace a0 := keepC hb4 a0
            replace a1 := keepC hb4 a1
            replace fz0 := keepF hb4 z0 fz0
            replace z0 := keepC hb4 z0
            replace fz1 := keepF hb4 z1 fz1
            replace z1 := keepC hb4 z1
            replace hbb := keepB hbb hb4
            clear hb4 CT
            have l1 := lt_of_cell a0
            go_wp2
            exact bodyPost_ret (v := .tuple #[.agg #[.int .i64 n, .int .i64 d], .int .i64 0]) (by simp [results, Tryd.results6, go_sem, z0, z1]) rfl ⟨rfl, below_set (below_set hbb (by omega) _) (by omega) _⟩
          · rw [if_neg (fun h => ht h.2)]
            have hb : ((⟨(Rp.txt n d).toArray⟩ : ByteArray).toList == s.toList) = false := by
              rw [ByteArray.toList_mk, ByteArray.toList_eq, beq_eq_false_iff_ne]
              exact ht
            generalize (⟨(Rp.txt n d).toArray⟩ : ByteArray) = T at *
            have CT := Lib.hid ct
            clear ct e1 hx ht n0 n1 d0 d1
            go_enter Tryd.func6, Tryd.ntmps6
            go_wp2_with fail
            refine (CC.out _ ((E.out).keep ((Below.refl _ _).alloc (Nat.le_refl _) _))).mono ?_
            rintro e w1 ⟨rfl, hb1⟩
            have z0 : w1.cell? ⟨w.heap.size, 0, none⟩ = some (.int .i64 0) := keepC hb1 (by go_simp)
            have fz0 : w1.frozen? ⟨w.heap.size, 0, none⟩ = false := keepF hb1 (v := .int .i64 0) (by go_simp) (by go_simp)
            have z1 : w1.cell? ⟨w.heap.size, 1, none⟩ = some (.int .i64 0) := keepC hb1 (by go_simp)
            have fz1 : w1.frozen? ⟨w.heap.size, 1, none⟩ = false := keepF hb1 (v := .int .i64 0) (by go_simp) (by go_simp)
            have E2 := Lib.hid (((E.out).keep ((Below.refl _ _).alloc (Nat.le_refl _) _)).keep hb1)
            have hbb : Below w.heap.size w w1 := keepB ((Below.refl _ _).alloc (Nat.le_refl _) _) hb1
            clear hb1 CC
            go_wp2_with fail
            refine (CA.out _ E2.out).mono ?_
            rintro e w2 ⟨he, hb2⟩
            obtain rfl := he
            replace fz0 := keepF hb2 z0 fz0
            replace z0 := keepC hb2 z0
            replace fz1 := keepF hb2 z1 fz1
            replace z1 := keepC hb2 z1
            replace hbb := keepB hbb hb2
            have E3 := Lib.hid ((E2.out).keep hb2)
            clear hb2
            clear CA
            go_wp2_with fail
            refine (CB.out _ E3.out).mono ?_
            rintro e w3 ⟨he, hb3⟩
            obtain rfl := he
            replace fz0 := keepF hb3 z0 fz0
            replace z0 := keepC hb3 z0
            replace fz1 := keepF hb3 z1 fz1
            replace z1 := keepC hb3 z1
            replace hbb := keepB hbb hb3
            have E4 := Lib.hid ((E3.out).keep hb3)
            clear hb3
            clear CB
            have l0 := lt_of_cell z0
            go_wp2_with fail
            refine at_worldR (fun v => Env v ∧ Below w.heap.size w v ∧ v.cell? ⟨w3.heap.size, 0, none⟩ = some (.int .i64 n) ∧ v.cell? ⟨w3.heap.size, 1, none⟩ = some (.int .i64 d) ∧ v.cell? ⟨w.heap.size, 0, none⟩ = some (.int .i64 0) ∧ v.cell? ⟨w.heap.size, 1, none⟩ = some (.int .i64 0) ∧ v.frozen? ⟨w.heap.size, 0, none⟩ = false ∧ v.frozen? ⟨w.heap.size, 1, none⟩ = false) ⟨(E4.out).keep ((Below.refl _ _).alloc (Nat.le_refl _) _), below_al hbb _, n20 _ _ _ _, n21 _ _ _ _, cell_alloc z0 _, cell_alloc z1 _, froz_alloc z0 fz0 _, froz_alloc z1 fz1 _⟩ (fun V3 hS => ?_)
            obtain ⟨hE, hbb, a0, a1, z0, z1, fz0, fz1⟩ := hS
            refine (CT.out _ hE).mono ?_
            rintro e w4 ⟨rfl, hb4⟩
            clear hE
            replace a0 := keepC hb4 a0
            replace a1 := keepC hb4 a1
            replace fz0 := keepF hb4 z0 fz0
            replace z0 := keepC hb4 z0
            replace fz1 := keepF hb4 z1 fz1
            replace z1 := keepC hb4 z1
            replace hbb := keepB hbb hb4
            clear hb4 CT
            have l1 := lt_of_cell a0
            go_wp2
            exact bodyPost_ret (v := .tuple #[.agg #[.int .i64 0, .int .i64 0], .int .i64 12]) (by simp [results, Tryd.results6, go_sem, z0, z1]) rfl ⟨rfl, below_set (below_set hbb (by omega) _) (by omega) _⟩
        · have e1 : Rp.txtS n d = ([], 8) := by unfold Rp.txtS; rw [if_neg hx]
          rw [e1] at ct
          dsimp only at ct ⊢
          rw [if_neg (fun h => hx h.1)]
          have CT := Lib.hid ct
          clear ct e1 hx n0 n1 d0 d1
          go_enter Tryd.func6, Tryd.ntmps6
          go_wp2_with fail
          refine (CC.out _ ((E.out).keep ((Below.refl _ _).alloc (Nat.le_refl _) _))).mono ?_
          rintro e w1 ⟨rfl, hb1⟩
          have z0 : w1.cell? ⟨w.heap.size, 0, none⟩ = some (.int .i64 0) := keepC hb1 (by go_simp)
          have fz0 : w1.frozen? ⟨w.heap.size, 0, none⟩ = false := keepF hb1 (v := .int .i64 0) (by go_simp) (by go_simp)
          have z1 : w1.cell? ⟨w.heap.size, 1, none⟩ = some (.int .i64 0) := keepC hb1 (by go_simp)
          have fz1 : w1.frozen? ⟨w.heap.size, 1, none⟩ = false := keepF hb1 (v := .int .i64 0) (by go_simp) (by go_simp)
          have E2 := Lib.hid (((E.out).keep ((Below.refl _ _).alloc (Nat.le_refl _) _)).keep hb1)
          have hbb : Below w.heap.size w w1 := keepB ((Below.refl _ _).alloc (Nat.le_refl _) _) hb1
          clear hb1 CC
          go_wp2_with fail
          refine (CA.out _ E2.out).mono ?_
          rintro e w2 ⟨he, hb2⟩
          obtain rfl := he
          replace fz0 := keepF hb2 z0 fz0
          replace z0 := keepC hb2 z0
          replace fz1 := keepF hb2 z1 fz1
          replace z1 := keepC hb2 z1
          replace hbb := keepB hbb hb2
          have E3 := Lib.hid ((E2.out).keep hb2)
          clear hb2
          clear CA
          go_wp2_with fail
          refine (CB.out _ E3.out).mono ?_
          rintro e w3 ⟨he, hb3⟩
          obtain rfl := he
          replace fz0 := keepF hb3 z0 fz0
          replace z0 := keepC hb3 z0
          replace fz1 := keepF hb3 z1 fz1
          replace z1 := keepC hb3 z1
          replace hbb := keepB hbb hb3
          have E4 := Lib.hid ((E3.out).keep hb3)
          clear hb3
          clear CB
          have l0 := lt_of_cell z0
          go_wp2_with fail
          refine at_worldR (fun v => Env v ∧ Below w.heap.size w v ∧ v.cell? ⟨w3.heap.size, 0, none⟩ = some (.int .i64 n) ∧ v.cell? ⟨w3.heap.size, 1, none⟩ = some (.int .i64 d) ∧ v.cell? ⟨w.heap.size, 0, none⟩ = some (.int .i64 0) ∧ v.cell? ⟨w.heap.size, 1, none⟩ = some (.int .i64 0) ∧ v.frozen? ⟨w.heap.size, 0, none⟩ = false ∧ v.frozen? ⟨w.heap.size, 1, none⟩ = false) ⟨(E4.out).keep ((Below.refl _ _).alloc (Nat.le_refl _) _), below_al hbb _, n20 _ _ _ _, n21 _ _ _ _, cell_alloc z0 _, cell_alloc z1 _, froz_alloc z0 fz0 _, froz_alloc z1 fz1 _⟩ (fun V3 hS => ?_)
          obtain ⟨hE, hbb, a0, a1, z0, z1, fz0, fz1⟩ := hS
          refine (CT.out _ hE).mono ?_
          rintro e w4 ⟨rfl, hb4⟩
          clear hE
          replace a0 := keepC hb4 a0
          replace a1 := keepC hb4 a1
          replace fz0 := keepF hb4 z0 fz0
          replace z0 := keepC hb4 z0
          replace fz1 := keepF hb4 z1 fz1
          replace z1 := keepC hb4 z1
          replace hbb := keepB hbb hb4
          clear hb4 CT
          have l1 := lt_of_cell a0
          go_wp2
          exact bodyPost_ret (v := .tuple #[.agg #[.int .i64 0, .int .i64 0], .int .i64 12]) (by simp [results, Tryd.results6, go_sem, z0, z1]) rfl ⟨rfl, below_set (below_set hbb (by omega) _) (by omega) _⟩
end Go.Proofs.YtbcnngjcggddbaaDoor
