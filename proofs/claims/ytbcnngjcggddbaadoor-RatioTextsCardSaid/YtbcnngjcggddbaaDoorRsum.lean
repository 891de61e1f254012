/- Contract of the reference's Sum. -/
import Derived.Test.YtbcnngjcggddbaaDoorSum
import Derived.Test.YtbcnngjcggddbaaDoorRadda
import Derived.LoopTactic
import Derived.Deep.RegionHeld3
namespace Go.Proofs.YtbcnngjcggddbaaDoor
open Go.RowKit

set_option maxHeartbeats 8000000 in
set_option maxRecDepth 100000 in
theorem rSum_list (b off cap : Nat) (xs : List (Int × Int)) (w : World) (hN : xs.length ≤ 100) (hrd : RdR w b off xs)
    (hbd : ∀ x ∈ xs, (-9223372036854775808 ≤ x.1 ∧ x.1 ≤ 9223372036854775807) ∧ (-9223372036854775808 ≤ x.2 ∧ x.2 ≤ 9223372036854775807)) (R1 R2 R3 : Int) (hR : Rp.sumL xs = (R1, R2, R3)) :
    Calls Tryd.prog 9 #[.slice (some ⟨b, off, none⟩) xs.length cap] w fun e w' => e = .returned (.tuple #[.agg #[.int .i64 R1, .int .i64 R2], .int .i64 R3]) ∧ Below w.heap.size w w' := by
  have HR := Lib.hid hR
  have HRD := Lib.hid hrd
  have HBD := Lib.hid hbd
  have hN' : decide (100 < (xs.length : Int)) = false := decide_eq_false (by omega)
  clear hR hrd hbd
  go_enter Tryd.func9, Tryd.ntmps9
  go_wp2_with fail
  go_loopw [4] (fun i v => Rel1 w xs i v) (fun i _ => xs.length - (intOf i).toNat)
  case atStart => exact ⟨0, Nat.zero_le _, rfl, by simp, (Below.refl _ _).alloc (Nat.le_refl _) _, n20 _ _ _ _, n21 _ _ _ _, n2f _ _ _ _ 0, n2f _ _ _ _ 1⟩
  case round =>
    obtain ⟨k, hk, rfl, hok, hbb, z0, z1, fz0, fz1⟩ := hrel
    have HOK := Lib.hid hok
    clear hok
    by_cases hlt : k < xs.length
    · obtain ⟨n, d, hx⟩ : ∃ n d, xs[k]? = some (n, d) := ⟨_, _, List.getElem?_eq_getElem hlt⟩
      have hmem : (n, d) ∈ xs := List.mem_of_getElem? hx
      have hb := HBD.out _ hmem
      obtain ⟨⟨n0, n1⟩, d0, d1⟩ := hb
      obtain ⟨y0, y1⟩ := HRD.out k n d hx
      have x0 := keepC hbb y0
      have x1 := keepC hbb y1
      have ck := fun w => rCheck_any n d w n0 n1 d0 d1
      have l0 := lt_of_cell z0
      have l1 := lt_of_cell x0
      rcases chk_cases n d with ⟨h, ho⟩ | ⟨h, ho⟩
      · rw [h] at ck
        have CK := Lib.hid ck
        have HO := Lib.hid ho
        have HX := Lib.hid hx
        have HM := Lib.hid hmem
        clear ck h ho y0 y1 hx hmem n0 n1 d0 d1
        go_wp2_with fail
        refine (CK.out _).mono ?_
        rintro e w1 ⟨rfl, hb1⟩
        replace hbb := keepB hbb hb1
        replace fz0 := keepF hb1 z0 fz0
        replace fz1 := keepF hb1 z1 fz1
        replace z0 := keepC hb1 z0
        replace z1 := keepC hb1 z1
        clear hb1 x0 x1
        go_wp2
        go_roundw
        case rel =>
          refine ⟨k + 1, hlt, by go_num, ?_, hbb, z0, z1, fz0, fz1⟩
          intro x hx
          rw [List.take_add_one, HX.out] at hx
          rcases List.mem_append.1 hx with hx | hx
          · exact HOK.out x hx
          · simp only [Option.toList_some, List.mem_singleton] at hx
            subst hx
            exact HO.out
        case measure => simp [intOf]; omega
      · rw [h] at ck
        have CK := Lib.hid ck
        have e : Rp.sumL xs = (0, 0, 8) := by unfold Rp.sumL; exact if_neg (fun g => ho (g _ hmem))
        have e' := HR.out.symm.trans e
        simp only [Prod.mk.injEq] at e'
        obtain ⟨rfl, rfl, rfl⟩ := e'
        clear ck h ho y0 y1 hx hmem n0 n1 d0 d1 e HR
        go_wp2_with fail
        refine (CK.out _).mono ?_
        rintro e w1 ⟨rfl, hb1⟩
        replace hbb := keepB hbb hb1
        replace fz0 := keepF hb1 z0 fz0
        replace fz1 := keepF hb1 z1 fz1
        replace z0 := keepC hb1 z0
        replace z1 := keepC hb1 z1
        replace x0 := keepC hb1 x0
        replace x1 := keepC hb1 x1
        clear hb1
        go_wp2_with fail
        refine (CK.out _).mono ?_
        rintro e w2 ⟨rfl, hb1⟩
        replace hbb := keepB hbb hb1
        replace fz0 := keepF hb1 z0 fz0
        replace fz1 := keepF hb1 z1 fz1
        replace z0 := keepC hb1 z0
        replace z1 := keepC hb1 z1
        clear hb1 x0 x1
        go_wp2
        exact bodyPost_ret (v := .tuple #[.agg #[.int .i64 0, .int .i64 0], .int .i64 8]) (by simp [results, Tryd.results9, go_sem, z0, z1]) rfl ⟨rfl, below_set (below_set hbb (by omega) _) (by omega) _⟩
    · obtain rfl : k = xs.length := by omega
      have hall : Rp.AllOk xs := by have := HOK.out; rwa [List.take_length] at this
      have hR2 : Rp.sumF 0 1 xs = (R1, R2, R3) := by rw [← HR.out]; unfold Rp.sumL; exact (if_pos hall).symm
      have HA := Lib.hid hall
      have HR2 := Lib.hid hR2
      have l0 := lt_of_cell z0
      clear HR HOK hall hR2 hk
      refine at_worldQ (fun v => Below w.heap.size w v ∧ v.cell? ⟨w.heap.size, 0, none⟩ = some (.int .i64 0) ∧ v.cell? ⟨w.heap.size, 1, none⟩ = some (.int .i64 0) ∧ v.frozen? ⟨w.heap.size, 0, none⟩ = false ∧ v.frozen? ⟨w.heap.size, 1, none⟩ = false) ⟨hbb, z0, z1, fz0, fz1⟩ (fun V hS => ?_)
      clear hbb z0 z1 fz0 fz1 l0
      obtain ⟨hbb, z0, z1, fz0, fz1⟩ := hS
      have l0 := lt_of_cell z0
      go_wp2_with fail
      go_loopw [6] (fun i u => Rel2 w V.heap.size xs i u) (fun i _ => xs.length - (intOf i).toNat)
      case atStart => exact ⟨0, 0, 1, Nat.zero_le _, rfl, by decide, rfl, below_al hbb _, cell_alloc z0 _, cell_alloc z1 _, froz_alloc z0 fz0 _, froz_alloc z1 fz1 _, n20 _ _ _ _, n21 _ _ _ _, n2f _ _ _ _ 0, n2f _ _ _ _ 1⟩
      case round =>
        clear hbb z0 z1 fz0 fz1
        obtain ⟨k, a, b', hk, rfl, hab, hs, hbb, z0, z1, fz0, fz1, t0, t1, ft0, ft1⟩ := hrel
        have HAB := Lib.hid hab
        have HS := Lib.hid hs
        clear hab hs
        by_cases hlt : k < xs.length
        · obtain ⟨n, d, hx⟩ : ∃ n d, xs[k]? = some (n, d) := ⟨_, _, List.getElem?_eq_getElem hlt⟩
          obtain ⟨y0, y1⟩ := HRD.out k n d hx
          have x0 := keepC hbb y0
          have x1 := keepC hbb y1
          have hnd : Rp.Ok n d := HA.out _ (List.mem_of_getElem? hx)
          have ab1 := HAB.out
          unfold Rp.Ok at ab1
          have nd1 := hnd
          unfold Rp.Ok at nd1
          have ca := fun w => rAdd_any a b' n d w (by omega) (by omega) (by omega) (by omega) (by omega) (by omega) (by omega) (by omega)
          clear ab1 nd1
          have hS : Rp.addS a b' n d = Rp.add a b' n d := by
            unfold Rp.addS Rp.both Rp.chk
            rw [if_pos HAB.out, if_pos hnd, if_pos rfl]
          rw [hS] at ca
          clear hS
          have l1 := lt_of_cell x0
          have l2 := lt_of_cell z0
          have l3 := lt_of_cell t0
          have hdrop : xs.drop k = (n, d) :: xs.drop (k + 1) := by
            have e := List.drop_eq_getElem_cons hlt
            rw [e]
            have := List.getElem?_eq_some_iff.1 hx
            rw [this.2]
          have hs2 := HS.out
          rw [hdrop] at hs2
          have hstep : Rp.sumF a b' ((n, d) :: xs.drop (k + 1)) = if (Rp.add a b' n d).2.2 = 0 then Rp.sumF (Rp.add a b' n d).1 (Rp.add a b' n d).2.1 (xs.drop (k + 1)) else (0, 0, (Rp.add a b' n d).2.2) := rfl
          rw [hstep] at hs2
          have herr := fun x y z g => Rp.ofQ_err (r := Rp.q a b' + Rp.q n d) (a := x) (b := y) (c := z) g
          have hok := fun x y z g => Rp.ofQ_ok (r := Rp.q a b' + Rp.q n d) (a := x) (b := y) (c := z) g
          rw [show Rp.ofQ (Rp.q a b' + Rp.q n d) = Rp.add a b' n d from rfl] at herr hok
          generalize Rp.add a b' n d = T at *
          obtain ⟨T1, T2, T3⟩ := T
          dsimp only at hs2 ca
          replace herr := herr T1 T2 T3 rfl
          replace hok := hok T1 T2 T3 rfl
          have CA := Lib.hid ca
          have HE := Lib.hid herr
          have HK := Lib.hid hok
          have HS2 := Lib.hid hs2
          clear hs2 hok ca hstep hdrop hx y0 y1 hnd HS herr
          go_wp2_with fail
          go_cut [7, 8] (fun x y v => ∃ p : Nat, x = .pointer (some ⟨p, 0, none⟩) ∧ y = .int .i64 T3 ∧ Below w.heap.size w v ∧ v.cell? ⟨w.heap.size, 0, none⟩ = some (.int .i64 0) ∧ v.cell? ⟨w.heap.size, 1, none⟩ = some (.int .i64 0) ∧ v.cell? ⟨V.heap.size, 0, none⟩ = some (.int .i64 a) ∧ v.cell? ⟨V.heap.size, 1, none⟩ = some (.int .i64 b') ∧ v.frozen? ⟨w.heap.size, 0, none⟩ = false ∧ v.frozen? ⟨w.heap.size, 1, none⟩ = false ∧ v.frozen? ⟨V.heap.size, 0, none⟩ = false ∧ v.frozen? ⟨V.heap.size, 1, none⟩ = false ∧ v.cell? ⟨p, 0, none⟩ = some (.int .i64 T1) ∧ v.cell? ⟨p, 1, none⟩ = some (.int .i64 T2))
          case first =>
            go_region_held3 (fun v => Below w.heap.size w v ∧ v.cell? ⟨w.heap.size, 0, none⟩ = some (.int .i64 0) ∧ v.cell? ⟨w.heap.size, 1, none⟩ = some (.int .i64 0) ∧ v.cell? ⟨V.heap.size, 0, none⟩ = some (.int .i64 a) ∧ v.cell? ⟨V.heap.size, 1, none⟩ = some (.int .i64 b') ∧ v.cell? ⟨b, off + k * 2, none⟩ = some (.int .i64 n) ∧ v.cell? ⟨b, off + k * 2 + 1, none⟩ = some (.int .i64 d) ∧ v.frozen? ⟨w.heap.size, 0, none⟩ = false ∧ v.frozen? ⟨w.heap.size, 1, none⟩ = false ∧ v.frozen? ⟨V.heap.size, 0, none⟩ = false ∧ v.frozen? ⟨V.heap.size, 1, none⟩ = false)
              (first | (exact ⟨hbb.drew, z0, z1, t0, t1, x0, x1, fz0, fz1, ft0, ft1⟩) | (obtain ⟨k0, kz0, kz1, kt0, kt1, kx0, kx1, kfz0, kfz1, kft0, kft1⟩ := ‹Below w.heap.size w _ ∧ _›; exact ⟨keepB k0 hb3, keepC hb3 kz0, keepC hb3 kz1, keepC hb3 kt0, keepC hb3 kt1, keepC hb3 kx0, keepC hb3 kx1, keepF hb3 kz0 kfz0, keepF hb3 kz1 kfz1, keepF hb3 kt0 kft0, keepF hb3 kt1 kft1⟩) | (exact ⟨below_al j0.out _, cell_alloc jz0.out _, cell_alloc jz1.out _, cell_alloc jt0.out _, cell_alloc jt1.out _, cell_alloc jx0.out _, cell_alloc jx1.out _, froz_alloc jz0.out jfz0.out _, froz_alloc jz1.out jfz1.out _, froz_alloc jt0.out jft0.out _, froz_alloc jt1.out jft1.out _⟩) | (obtain ⟨k0, kz0, kz1, kt0, kt1, kx0, kx1, kfz0, kfz1, kft0, kft1⟩ := ‹Below w.heap.size w _ ∧ _›; exact ⟨below_al k0 _, cell_alloc kz0 _, cell_alloc kz1 _, cell_alloc kt0 _, cell_alloc kt1 _, cell_alloc kx0 _, cell_alloc kx1 _, froz_alloc kz0 kfz0 _, froz_alloc kz1 kfz1 _, froz_alloc kt0 kft0 _, froz_alloc kt1 kft1 _⟩) | (exact ⟨below_set (below_set j0.out (by omega) _) (by omega) _, cell_far (cell_far jz0.out (by omega) _) (by omega) _, cell_far (cell_far jz1.out (by omega) _) (by omega) _, cell_far (cell_far jt0.out (by omega) _) (by omega) _, cell_far (cell_far jt1.out (by omega) _) (by omega) _, cell_far (cell_far jx0.out (by omega) _) (by omega) _, cell_far (cell_far jx1.out (by omega) _) (by omega) _, froz_set (froz_set jfz0.out _ _) _ _, froz_set (froz_set jfz1.out _ _) _ _, froz_set (froz_set jft0.out _ _) _ _, froz_set (froz_set jft1.out _ _) _ _⟩))
              (first
                | (go_at_call 18; refine (CA.out _).mono ?_; rintro e w3 ⟨rfl, hb3⟩; (first | (replace fnb0 := keepF hb3 nb0 fnb0; replace fnb1 := keepF hb3 nb1 fnb1; replace nb0 := keepC hb3 nb0; replace nb1 := keepC hb3 nb1) | (obtain ⟨k0, kz0, kz1, kt0, kt1, kx0, kx1, kfz0, kfz1, kft0, kft1⟩ := ‹Below w.heap.size w _ ∧ _›; have nb0 := keepC hb3 (n20 _ _ _ _); have nb1 := keepC hb3 (n21 _ _ _ _); have fnb0 := keepF hb3 (n20 _ _ _ _) (n2f _ _ _ _ 0); have fnb1 := keepF hb3 (n21 _ _ _ _) (n2f _ _ _ _ 1); clear k0 kz0 kz1 kt0 kt1 kx0 kx1 kfz0 kfz1 kft0 kft1) | skip); obtain ⟨k0, kz0, kz1, kt0, kt1, kx0, kx1, kfz0, kfz1, kft0, kft1⟩ := ‹Below w.heap.size w _ ∧ _›; have j0 := Lib.hid (keepB k0 hb3); have jz0 := Lib.hid (keepC hb3 kz0); have jz1 := Lib.hid (keepC hb3 kz1); have jt0 := Lib.hid (keepC hb3 kt0); have jt1 := Lib.hid (keepC hb3 kt1); have jx0 := Lib.hid (keepC hb3 kx0); have jx1 := Lib.hid (keepC hb3 kx1); have jfz0 := Lib.hid (keepF hb3 kz0 kfz0); have jfz1 := Lib.hid (keepF hb3 kz1 kfz1); have jft0 := Lib.hid (keepF hb3 kt0 kft0); have jft1 := Lib.hid (keepF hb3 kt1 kft1); have m0 := lt_of_cell jz0.out; have m1 := lt_of_cell jt0.out; have m2 := lt_of_cell jx0.out; clear k0 kz0 kz1 kt0 kt1 kx0 kx1 kfz0 kfz1 kft0 kft1))
            all_goals
              go_wp2_with fail
              go_meet
              refine ⟨_, rfl, rfl, ?_, ?_, ?_, ?_, ?_, ?_, ?_, ?_, ?_, ?_, ?_⟩
              · obtain ⟨k0, kz0, kz1, kt0, kt1, kx0, kx1, kfz0, kfz1, kft0, kft1⟩ := ‹Below w.heap.size w _ ∧ _›; exact k0
              · obtain ⟨k0, kz0, kz1, kt0, kt1, kx0, kx1, kfz0, kfz1, kft0, kft1⟩ := ‹Below w.heap.size w _ ∧ _›; exact kz0
              · obtain ⟨k0, kz0, kz1, kt0, kt1, kx0, kx1, kfz0, kfz1, kft0, kft1⟩ := ‹Below w.heap.size w _ ∧ _›; exact kz1
              · obtain ⟨k0, kz0, kz1, kt0, kt1, kx0, kx1, kfz0, kfz1, kft0, kft1⟩ := ‹Below w.heap.size w _ ∧ _›; exact kt0
              · obtain ⟨k0, kz0, kz1, kt0, kt1, kx0, kx1, kfz0, kfz1, kft0, kft1⟩ := ‹Below w.heap.size w _ ∧ _›; exact kt1
              · obtain ⟨k0, kz0, kz1, kt0, kt1, kx0, kx1, kfz0, kfz1, kft0, kft1⟩ := ‹Below w.heap.size w _ ∧ _›; exact kfz0
              · obtain ⟨k0, kz0, kz1, kt0, kt1, kx0, kx1, kfz0, kfz1, kft0, kft1⟩ := ‹Below w.heap.size w _ ∧ _›; exact kfz1
              · obtain ⟨k0, kz0, kz1, kt0, kt1, kx0, kx1, kfz0, kfz1, kft0, kft1⟩ := ‹Below w.heap.size w _ ∧ _›; exact kft0
              · obtain ⟨k0, kz0, kz1, kt0, kt1, kx0, kx1, kfz0, kfz1, kft0, kft1⟩ := ‹Below w.heap.size w _ ∧ _›; exact kft1
              · go_simp
              · go_simp
          case rest =>
            clear hbb z0 z1 t0 t1 x0 x1 fz0 fz1 ft0 ft1 l1 l2 l3
            obtain ⟨p, rfl, rfl, hbb, z0, z1, t0, t1, fz0, fz1, ft0, ft1, q0, q1⟩ := hcut
            have l2 := lt_of_cell z0
            have l3 := lt_of_cell t0
            have l4 := lt_of_cell q0
            rcases HE.out with rfl | ⟨rfl, rfl, rfl⟩
            · have hs2 := HS2.out
              rw [if_pos rfl] at hs2
              have HS3 := Lib.hid hs2
              have HO := Lib.hid (HK.out rfl).1
              clear hs2 HS2 HE HK
              go_wp2
              go_roundw
              case rel =>
                exact ⟨k + 1, T1, T2, hlt, by go_num, HO.out, HS3.out, below_set (below_set hbb (by omega) _) (by omega) _,
                  cell_far (cell_far z0 (by omega) _) (by omega) _, cell_far (cell_far z1 (by omega) _) (by omega) _,
                  froz_set (froz_set fz0 _ _) _ _, froz_set (froz_set fz1 _ _) _ _,
                  by go_simp, by go_simp, froz_set (froz_set ft0 _ _) _ _, froz_set (froz_set ft1 _ _) _ _⟩
              case measure => simp [intOf]; omega
            · have hs2 := HS2.out
              rw [if_neg (by decide)] at hs2
              have e' := HR2.out.symm.trans hs2
              simp only [Prod.mk.injEq] at e'
              obtain ⟨rfl, rfl, rfl⟩ := e'
              clear hs2 HS2 HE HK HR2
              go_wp2
              exact bodyPost_ret (v := .tuple #[.agg #[.int .i64 0, .int .i64 0], .int .i64 16]) (by simp [results, Tryd.results9, go_sem, z0, z1]) rfl ⟨rfl, below_set (below_set hbb (by omega) _) (by omega) _⟩
        · obtain rfl : k = xs.length := by omega
          have hs2 := HS.out
          rw [List.drop_length] at hs2
          have e' := HR2.out.symm.trans hs2
          simp only [Rp.sumF, Prod.mk.injEq] at e'
          obtain ⟨rfl, rfl, rfl⟩ := e'
          have l3 := lt_of_cell t0
          clear hs2 HS HR2 hk
          go_wp2
          exact bodyPost_ret (v := .tuple #[.agg #[.int .i64 R1, .int .i64 R2], .int .i64 0]) (by simp [results, Tryd.results9, go_sem, z0, z1]) rfl ⟨rfl, below_set (below_set hbb (by omega) _) (by omega) _⟩

set_option maxRecDepth 100000 in
/-- The empty list. -/
theorem rSum_void (A : Option Addr) (cap : Nat) (w : World) :
    Calls Tryd.prog 9 #[.slice A 0 cap] w fun e w' => e = .returned (.tuple #[.agg #[.int .i64 0, .int .i64 1], .int .i64 0]) ∧ Below w.heap.size w w' := by
  go_enter Tryd.func9, Tryd.ntmps9
  go_wp2_with fail
  go_loopw [4] (fun i v => i = .int .i64 0 ∧ v = w.alloc (.cells #[.int .i64 0, .int .i64 0] 23)) (fun _ _ => 0)
  case atStart => exact ⟨rfl, rfl⟩
  case round =>
    obtain ⟨rfl, rfl⟩ := hrel
    go_wp2_with fail
    go_loopw [6] (fun i v => i = .int .i64 0 ∧ v = (w.alloc (.cells #[.int .i64 0, .int .i64 0] 23)).alloc (.cells #[.int .i64 0, .int .i64 1] 23)) (fun _ _ => 0)
    case atStart => exact ⟨rfl, rfl⟩
    case round =>
      obtain ⟨rfl, rfl⟩ := hrel
      go_wp2
      exact bodyPost_ret (v := .tuple #[.agg #[.int .i64 0, .int .i64 1], .int .i64 0]) (by simp [results, Tryd.results9, go_sem]) rfl ⟨rfl, ((Below.refl _ _).alloc (Nat.le_refl _) _).alloc (by simp) _⟩

/-- The empty list, nil. -/
theorem rSum_nil (w : World) :
    Calls Tryd.prog 9 #[.slice none 0 0] w fun e w' => e = .returned (.tuple #[.agg #[.int .i64 0, .int .i64 1], .int .i64 0]) ∧ Below w.heap.size w w' := rSum_void none 0 w

set_option maxRecDepth 100000 in
/-- More than a hundred. -/
theorem rSum_many (A : Option Addr) (N cap : Nat) (w : World) (hN : 100 < N) :
    Calls Tryd.prog 9 #[.slice A N cap] w fun e w' => e = .returned (.tuple #[.agg #[.int .i64 0, .int .i64 0], .int .i64 4]) ∧ Below w.heap.size w w' := by
  have hN' : decide (100 < (N : Int)) = true := decide_eq_true (by omega)
  go_enter Tryd.func9, Tryd.ntmps9
  go_wp2
  exact bodyPost_ret (v := .tuple #[.agg #[.int .i64 0, .int .i64 0], .int .i64 4]) (by simp [results, Tryd.results9, go_sem]) rfl ⟨rfl, (Below.refl _ _).alloc (Nat.le_refl _) _⟩
end Go.Proofs.YtbcnngjcggddbaaDoor
