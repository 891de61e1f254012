/- Contract of package ratio's Sum. -/
import Derived.Test.YtbcnngjcggddbaaDoorLaws
import Derived.Test.YtbcnngjcggddbaaDoorPub
import Derived.LoopTactic
namespace Go.Proofs.YtbcnngjcggddbaaDoor
open Go.RowKit

/-- A list of ratios that lies in memory. -/
def RdR (w : World) (b off : Nat) (xs : List (Int × Int)) : Prop := ∀ (i : Nat) (n d : Int), xs[i]? = some (n, d) → w.cell? ⟨b, off + i * 2, none⟩ = some (.int .i64 n) ∧ w.cell? ⟨b, off + i * 2 + 1, none⟩ = some (.int .i64 d)
namespace Rp
def sumF (a b : Int) : List (Int × Int) → Int × Int × Int
  | [] => (a, b, 0)
  | (n, d) :: r => if (add a b n d).2.2 = 0 then sumF (add a b n d).1 (add a b n d).2.1 r else (0, 0, (add a b n d).2.2)
def AllOk (xs : List (Int × Int)) : Prop := ∀ x ∈ xs, Ok x.1 x.2
instance (xs : List (Int × Int)) : Decidable (AllOk xs) := by unfold AllOk; infer_instance
/-- Numerator, denominator, error: of a list that is not too long. -/
def sumL (xs : List (Int × Int)) : Int × Int × Int := if AllOk xs then sumF 0 1 xs else (0, 0, 8)
end Rp
/-- What one round of the second loop leaves: k, the sum so far. -/
def Rel2 (w : World) (TB : Nat) (xs : List (Int × Int)) (i : Value) (v : World) : Prop :=
  ∃ (k : Nat) (a b : Int), k ≤ xs.length ∧ i = .int .i64 k ∧ Rp.Ok a b ∧ Rp.sumF 0 1 xs = Rp.sumF a b (xs.drop k) ∧ Below w.heap.size w v ∧
    v.cell? ⟨w.heap.size, 0, none⟩ = some (.int .i64 0) ∧ v.cell? ⟨w.heap.size, 1, none⟩ = some (.int .i64 0) ∧ v.frozen? ⟨w.heap.size, 0, none⟩ = false ∧ v.frozen? ⟨w.heap.size, 1, none⟩ = false ∧
    v.cell? ⟨TB, 0, none⟩ = some (.int .i64 a) ∧ v.cell? ⟨TB, 1, none⟩ = some (.int .i64 b) ∧ v.frozen? ⟨TB, 0, none⟩ = false ∧ v.frozen? ⟨TB, 1, none⟩ = false
def Rel1 (w : World) (xs : List (Int × Int)) (i : Value) (v : World) : Prop :=
  ∃ k : Nat, k ≤ xs.length ∧ i = .int .i64 k ∧ (∀ x ∈ xs.take k, Rp.Ok x.1 x.2) ∧ Below w.heap.size w v ∧
    v.cell? ⟨w.heap.size, 0, none⟩ = some (.int .i64 0) ∧ v.cell? ⟨w.heap.size, 1, none⟩ = some (.int .i64 0) ∧ v.frozen? ⟨w.heap.size, 0, none⟩ = false ∧ v.frozen? ⟨w.heap.size, 1, none⟩ = false

set_option maxHeartbeats 8000000 in
set_option maxRecDepth 100000 in
theorem Sum_list (b off cap : Nat) (xs : List (Int × Int)) (w : World) (hN : xs.length ≤ 100) (hrd : RdR w b off xs)
    (hbd : ∀ x ∈ xs, (-9223372036854775808 ≤ x.1 ∧ x.1 ≤ 9223372036854775807) ∧ (-9223372036854775808 ≤ x.2 ∧ x.2 ≤ 9223372036854775807)) (R1 R2 R3 : Int) (hR : Rp.sumL xs = (R1, R2, R3)) :
    Calls Tryd.prog 8 #[.slice (some ⟨b, off, none⟩) xs.length cap] w fun e w' => e = .returned (.tuple #[.agg #[.int .i64 R1, .int .i64 R2], .int .i64 R3]) ∧ Below w.heap.size w w' := by
  have HR := Lib.hid hR
  have HRD := Lib.hid hrd
  have HBD := Lib.hid hbd
  have hN' : decide (100 < (xs.length : Int)) = false := decide_eq_false (by omega)
  clear hR hrd hbd
  go_enter Tryd.func8, Tryd.ntmps8
  go_wp2_with fail
  go_loopw [18] (fun i v => Rel1 w xs i v) (fun i _ => xs.length - (intOf i).toNat)
  case atStart => exact ⟨0, Nat.zero_le _, rfl, by simp, (Below.refl _ _).alloc (Nat.le_refl _) _, n20 _ _ _ _, n21 _ _ _ _, n2f _ _ _ _ 0, n2f _ _ _ _ 1⟩
  case round =>
    obtain ⟨k, hk, rfl, hok, hbb, z0, z1, fz0, fz1⟩ := hrel
    have HOK := Lib.hid hok
    clear hok
    by_cases hlt : k < xs.length
    · obtain ⟨n, d, hx⟩ : ∃ n d, xs[k]? = some (n, d) := ⟨_, _, List.getElem?_eq_getElem hlt⟩
      have hmem : (n, d) ∈ xs := List.mem_of_getElem? hx
      have hb := HBD.out _ hmem
      obtain ⟨⟨n0, n1⟩, d0, d1⟩ := hb
      obtain ⟨y0, y1⟩ := HRD.out k n d hx
      have x0 := keepC hbb y0
      have x1 := keepC hbb y1
      have ck := fun w => check_any n d w n0 n1 d0 d1
      have l0 := lt_of_cell z0
      have l1 := lt_of_cell x0
      rcases chk_cases n d with ⟨h, ho⟩ | ⟨h, ho⟩
      · rw [h] at ck
        have CK := Lib.hid ck
        have HO := Lib.hid ho
        have HX := Lib.hid hx
        have HM := Lib.hid hmem
        clear ck h ho y0 y1 hx hmem n0 n1 d0 d1
        go_wp2_with fail
        refine (CK.out _).mono ?_
        rintro e w1 ⟨rfl, hb1⟩
        replace hbb := keepB (below_al hbb _) hb1
        replace fz0 := keepF hb1 (cell_alloc z0 _) (froz_alloc z0 fz0 _)
        replace fz1 := keepF hb1 (cell_alloc z1 _) (froz_alloc z1 fz1 _)
        replace z0 := keepC hb1 (cell_alloc z0 _)
        replace z1 := keepC hb1 (cell_alloc z1 _)
        clear hb1 x0 x1
        go_wp2
        go_roundw
        case rel =>
          refine ⟨k + 1, hlt, by go_num, ?_, hbb, z0, z1, fz0, fz1⟩
          intro x hx
          rw [List.take_add_one, HX.out] at hx
          rcases List.mem_append.1 hx with hx | hx
          · exact HOK.out x hx
          · simp only [Option.toList_some, List.mem_singleton] at hx
            subst hx
            exact HO.out
        case measure => simp [intOf]; omega
      · rw [h] at ck
        have CK := Lib.hid ck
        have e : Rp.sumL xs = (0, 0, 8) := by unfold Rp.sumL; exact if_neg (fun g => ho (g _ hmem))
        have e' := HR.out.symm.trans e
        simp only [Prod.mk.injEq] at e'
        obtain ⟨rfl, rfl, rfl⟩ := e'
        clear ck h ho y0 y1 hx hmem n0 n1 d0 d1 e HR
        go_wp2_with fail
        refine (CK.out _).mono ?_
        rintro e w1 ⟨rfl, hb1⟩
        replace hbb := keepB (below_al hbb _) hb1
        replace fz0 := keepF hb1 (cell_alloc z0 _) (froz_alloc z0 fz0 _)
        replace fz1 := keepF hb1 (cell_alloc z1 _) (froz_alloc z1 fz1 _)
        replace z0 := keepC hb1 (cell_alloc z0 _)
        replace z1 := keepC hb1 (cell_alloc z1 _)
        clear hb1 x0 x1
        go_wp2
        exact bodyPost_ret (v := .tuple #[.agg #[.int .i64 0, .int .i64 0], .int .i64 8]) (by simp [results, Tryd.results8, go_sem, z0, z1]) rfl ⟨rfl, below_set (below_set hbb (by omega) _) (by omega) _⟩
    · obtain rfl : k = xs.length := by omega
      have hall : Rp.AllOk xs := by have := HOK.out; rwa [List.take_length] at this
      have hR2 : Rp.sumF 0 1 xs = (R1, R2, R3) := by rw [← HR.out]; unfold Rp.sumL; exact (if_pos hall).symm
      have HA := Lib.hid hall
      have HR2 := Lib.hid hR2
      have l0 := lt_of_cell z0
      clear HR HOK hall hR2 hk
      refine at_worldQ (fun v => Below w.heap.size w v ∧ v.cell? ⟨w.heap.size, 0, none⟩ = some (.int .i64 0) ∧ v.cell? ⟨w.heap.size, 1, none⟩ = some (.int .i64 0) ∧ v.frozen? ⟨w.heap.size, 0, none⟩ = false ∧ v.frozen? ⟨w.heap.size, 1, none⟩ = false) ⟨hbb, z0, z1, fz0, fz1⟩ (fun V hS => ?_)
      clear hbb z0 z1 fz0 fz1 l0
      obtain ⟨hbb, z0, z1, fz0, fz1⟩ := hS
      have l0 := lt_of_cell z0
      go_wp2_with fail
      go_loopw [32] (fun i u => Rel2 w V.heap.size xs i u) (fun i _ => xs.length - (intOf i).toNat)
      case atStart => exact ⟨0, 0, 1, Nat.zero_le _, rfl, by decide, rfl, below_al hbb _, cell_alloc z0 _, cell_alloc z1 _, froz_alloc z0 fz0 _, froz_alloc z1 fz1 _, n20 _ _ _ _, n21 _ _ _ _, n2f _ _ _ _ 0, n2f _ _ _ _ 1⟩
      case round =>
        clear hbb z0 z1 fz0 fz1
        obtain ⟨k, a, b', hk, rfl, hab, hs, hbb, z0, z1, fz0, fz1, t0, t1, ft0, ft1⟩ := hrel
        have HAB := Lib.hid hab
        have HS := Lib.hid hs
        clear hab hs
        by_cases hlt : k < xs.length
        · obtain ⟨n, d, hx⟩ : ∃ n d, xs[k]? = some (n, d) := ⟨_, _, List.getElem?_eq_getElem hlt⟩
          obtain ⟨y0, y1⟩ := HRD.out k n d hx
          have x0 := keepC hbb y0
          have x1 := keepC hbb y1
          have hnd : Rp.Ok n d := HA.out _ (List.mem_of_getElem? hx)
          have ca := fun w => add_any a b' n d HAB.out hnd w
          have l1 := lt_of_cell x0
          have l2 := lt_of_cell z0
          have l3 := lt_of_cell t0
          have hdrop : xs.drop k = (n, d) :: xs.drop (k + 1) := by
            have e := List.drop_eq_getElem_cons hlt
            rw [e]
            have := List.getElem?_eq_some_iff.1 hx
            rw [this.2]
          have hs2 := HS.out
          rw [hdrop] at hs2
          have hstep : Rp.sumF a b' ((n, d) :: xs.drop (k + 1)) = if (Rp.add a b' n d).2.2 = 0 then Rp.sumF (Rp.add a b' n d).1 (Rp.add a b' n d).2.1 (xs.drop (k + 1)) else (0, 0, (Rp.add a b' n d).2.2) := rfl
          rw [hstep] at hs2
          have herr := fun x y z g => Rp.ofQ_err (r := Rp.q a b' + Rp.q n d) (a := x) (b := y) (c := z) g
          have hok := fun x y z g => Rp.ofQ_ok (r := Rp.q a b' + Rp.q n d) (a := x) (b := y) (c := z) g
          rw [show Rp.ofQ (Rp.q a b' + Rp.q n d) = Rp.add a b' n d from rfl] at herr hok
          generalize Rp.add a b' n d = T at *
          obtain ⟨T1, T2, T3⟩ := T
          dsimp only at hs2 ca
          replace herr := herr T1 T2 T3 rfl
          replace hok := hok T1 T2 T3 rfl
          rcases herr with rfl | ⟨rfl, rfl, rfl⟩
          · rw [if_pos rfl] at hs2
            have HS2 := Lib.hid hs2
            have HO := Lib.hid (hok rfl).1
            have CA := Lib.hid ca
            clear hs2 hok ca hstep hdrop hx y0 y1 hnd HS
            go_wp2_with fail
            refine (CA.out _).mono ?_
            rintro e w1 ⟨rfl, hb1⟩
            replace hbb := keepB (below_al hbb _) hb1
            replace fz0 := keepF hb1 (cell_alloc z0 _) (froz_alloc z0 fz0 _)
            replace fz1 := keepF hb1 (cell_alloc z1 _) (froz_alloc z1 fz1 _)
            replace z0 := keepC hb1 (cell_alloc z0 _)
            replace z1 := keepC hb1 (cell_alloc z1 _)
            replace ft0 := keepF hb1 (cell_alloc t0 _) (froz_alloc t0 ft0 _)
            replace ft1 := keepF hb1 (cell_alloc t1 _) (froz_alloc t1 ft1 _)
            replace t0 := keepC hb1 (cell_alloc t0 _)
            replace t1 := keepC hb1 (cell_alloc t1 _)
            clear hb1 x0 x1
            have l4 := lt_of_cell t0
            have l5 := lt_of_cell z0
            go_wp2
            go_roundw
            case rel =>
              exact ⟨k + 1, T1, T2, hlt, by go_num, HO.out, HS2.out, below_al (below_set (below_set hbb (by omega) _) (by omega) _) _,
                cell_alloc (cell_far (cell_far z0 (by omega) _) (by omega) _) _, cell_alloc (cell_far (cell_far z1 (by omega) _) (by omega) _) _,
                froz_alloc (cell_far (cell_far z0 (by omega) _) (by omega) _) (froz_set (froz_set fz0 _ _) _ _) _, froz_alloc (cell_far (cell_far z1 (by omega) _) (by omega) _) (froz_set (froz_set fz1 _ _) _ _) _,
                by go_simp, by go_simp, froz_alloc (x := .int .i64 T1) (by go_simp) (froz_set (froz_set ft0 _ _) _ _) _, froz_alloc (x := .int .i64 T2) (by go_simp) (froz_set (froz_set ft1 _ _) _ _) _⟩
            case measure => simp [intOf]; omega
          · rw [if_neg (by decide)] at hs2
            have e' := HR2.out.symm.trans hs2
            simp only [Prod.mk.injEq] at e'
            obtain ⟨rfl, rfl, rfl⟩ := e'
            have CA := Lib.hid ca
            clear hs2 hok ca hstep hdrop hx y0 y1 hnd HS HR2
            go_wp2_with fail
            refine (CA.out _).mono ?_
            rintro e w1 ⟨rfl, hb1⟩
            replace hbb := keepB (below_al hbb _) hb1
            replace fz0 := keepF hb1 (cell_alloc z0 _) (froz_alloc z0 fz0 _)
            replace fz1 := keepF hb1 (cell_alloc z1 _) (froz_alloc z1 fz1 _)
            replace z0 := keepC hb1 (cell_alloc z0 _)
            replace z1 := keepC hb1 (cell_alloc z1 _)
            clear hb1 x0 x1 t0 t1 ft0 ft1
            have l5 := lt_of_cell z0
            go_wp2
            have s0 : ((w1.setCell ⟨w.heap.size, 0, none⟩ (.int .i64 0)).setCell ⟨w.heap.size, 1, none⟩ (.int .i64 0)).cell? ⟨w.heap.size, 0, none⟩ = some (.int .i64 0) := by go_simp
            have s1 : ((w1.setCell ⟨w.heap.size, 0, none⟩ (.int .i64 0)).setCell ⟨w.heap.size, 1, none⟩ (.int .i64 0)).cell? ⟨w.heap.size, 1, none⟩ = some (.int .i64 0) := by go_simp
            have z0' := cell_alloc s0
            have z1' := cell_alloc s1
            exact bodyPost_ret (v := .tuple #[.agg #[.int .i64 0, .int .i64 0], .int .i64 16]) (by simp [results, Tryd.results8, go_sem, z0', z1']) rfl ⟨rfl, below_al (below_set (below_set hbb (by omega) _) (by omega) _) _⟩
        · obtain rfl : k = xs.length := by omega
          have hs2 := HS.out
          rw [List.drop_length] at hs2
          have e' := HR2.out.symm.trans hs2
          simp only [Rp.sumF, Prod.mk.injEq] at e'
          obtain ⟨rfl, rfl, rfl⟩ := e'
          have l3 := lt_of_cell t0
          clear hs2 HS HR2 hk
          go_wp2
          exact bodyPost_ret (v := .tuple #[.agg #[.int .i64 R1, .int .i64 R2], .int .i64 0]) (by simp [results, Tryd.results8, go_sem, z0, z1]) rfl ⟨rfl, below_set (below_set hbb (by omega) _) (by omega) _⟩

set_option maxRecDepth 100000 in
/-- The empty list. -/
theorem Sum_void (A : Option Addr) (cap : Nat) (w : World) :
    Calls Tryd.prog 8 #[.slice A 0 cap] w fun e w' => e = .returned (.tuple #[.agg #[.int .i64 0, .int .i64 1], .int .i64 0]) ∧ Below w.heap.size w w' := by
  go_enter Tryd.func8, Tryd.ntmps8
  go_wp2_with fail
  go_loopw [18] (fun i v => i = .int .i64 0 ∧ v = w.alloc (.cells #[.int .i64 0, .int .i64 0] 23)) (fun _ _ => 0)
  case atStart => exact ⟨rfl, rfl⟩
  case round =>
    obtain ⟨rfl, rfl⟩ := hrel
    go_wp2_with fail
    go_loopw [32] (fun i v => i = .int .i64 0 ∧ v = (w.alloc (.cells #[.int .i64 0, .int .i64 0] 23)).alloc (.cells #[.int .i64 0, .int .i64 1] 23)) (fun _ _ => 0)
    case atStart => exact ⟨rfl, rfl⟩
    case round =>
      obtain ⟨rfl, rfl⟩ := hrel
      go_wp2
      exact bodyPost_ret (v := .tuple #[.agg #[.int .i64 0, .int .i64 1], .int .i64 0]) (by simp [results, Tryd.results8, go_sem]) rfl ⟨rfl, ((Below.refl _ _).alloc (Nat.le_refl _) _).alloc (by simp) _⟩

/-- The empty list, nil. -/
theorem Sum_nil (w : World) :
    Calls Tryd.prog 8 #[.slice none 0 0] w fun e w' => e = .returned (.tuple #[.agg #[.int .i64 0, .int .i64 1], .int .i64 0]) ∧ Below w.heap.size w w' := Sum_void none 0 w

set_option maxRecDepth 100000 in
/-- More than a hundred. -/
theorem Sum_many (A : Option Addr) (N cap : Nat) (w : World) (hN : 100 < N) :
    Calls Tryd.prog 8 #[.slice A N cap] w fun e w' => e = .returned (.tuple #[.agg #[.int .i64 0, .int .i64 0], .int .i64 4]) ∧ Below w.heap.size w w' := by
  have hN' : decide (100 < (N : Int)) = true := decide_eq_true (by omega)
  go_enter Tryd.func8, Tryd.ntmps8
  go_wp2
  exact bodyPost_ret (v := .tuple #[.agg #[.int .i64 0, .int .i64 0], .int .i64 4]) (by simp [results, Tryd.results8, go_sem]) rfl ⟨rfl, (Below.refl _ _).alloc (Nat.le_refl _) _⟩
end Go.Proofs.YtbcnngjcggddbaaDoor
