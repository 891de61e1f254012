/- The density at a point: package cake's, the reference's. -/
import Derived.Test.YtomokdepndclpaaTot
import Derived.Test.YtomokdepndclpaaPoint
import Derived.Test.YtomokdepndclpaaFloor
import Derived.Deep.CutBlock
import Derived.Deep.DeepCutAuto
namespace Go.Proofs.Ytomokdepndclpaa
open Go.RowKit
namespace Ck
/-- The last interval that begins at n / m or before it. -/
def place (c : List Int) (n m : Int) : Nat → Nat
  | 0 => 0
  | i + 1 => if n < at_ c (i + 1) * m then place c n m i else i + 1
theorem place_eq (c : List Int) (n m : Int) (k : Nat) : ∀ l, k ≤ l → (∀ j, k < j → j ≤ l → n < at_ c j * m) → (k = 0 ∨ ¬ n < at_ c k * m) → place c n m l = k
  | 0, hk, _, _ => by unfold place; omega
  | l + 1, hk, ha, hb => by
    unfold place
    rcases Nat.lt_or_ge k (l + 1) with g | g
    · rw [if_pos (ha (l + 1) g (Nat.le_refl _))]
      exact place_eq c n m k l (by omega) (fun j h1 h2 => ha j h1 (by omega)) hb
    · obtain rfl : k = l + 1 := by omega
      rw [if_neg (hb.resolve_left (by omega))]
theorem place_le (c : List Int) (n m : Int) : ∀ l, place c n m l ≤ l
  | 0 => Nat.le_refl _
  | l + 1 => by
    unfold place
    split
    · exact Nat.le_succ_of_le (place_le c n m l)
    · exact Nat.le_refl _
/-- Density, error. -/
def denS (len : Int) (c ds : List Int) (n m : Int) : Int × Int :=
  if chk len c ds = 0 then (if pt len n m then (at_ ds (place c n m (ds.length - 1)), 0) else (0, 2)) else (0, chk len c ds)
end Ck


theorem Ck.place_hit {len n m : Int} {c ds : List Int} (h : Ck.Good len c ds) (hm : 0 < m) (k l : Nat) (hl : ds.length = l + 1) (hk : k ≤ l) (h1 : n / m < Ck.at_ c (k + 1)) (h2 : ∀ j, j < k → Ck.at_ c (j + 1) ≤ n / m) : Ck.place c n m l = k := by
  refine Ck.place_eq c n m k l hk (fun j hj hjl => ?_) ?_
  · have := h.mono (k + 1) j (by omega) (by omega)
    exact (Int.ediv_lt_iff_lt_mul hm).1 (by omega)
  · rcases k with _ | k
    · exact Or.inl rfl
    · exact Or.inr (fun g => by have := h2 k (by omega); have := (Int.ediv_lt_iff_lt_mul hm).2 g; omega)
theorem Ck.place_last {n m : Int} {c : List Int} (hm : 0 < m) (l : Nat) (h2 : ∀ j, j < l + 1 → Ck.at_ c (j + 1) ≤ n / m) : Ck.place c n m l = l := by
  refine Ck.place_eq c n m l l (Nat.le_refl _) (fun j hj hjl => absurd hj (by omega)) ?_
  rcases l with _ | l
  · exact Or.inl rfl
  · exact Or.inr (fun g => by have := h2 l (by omega); have := (Int.ediv_lt_iff_lt_mul hm).2 g; omega)

set_option maxHeartbeats 4000000 in
set_option maxRecDepth 100000 in
theorem ckDensity_any (len : Int) (K : Option Addr) (cuts : List Int) (ck : Nat) (Z : Option Addr) (dens : List Int) (cz : Nat) (n d : Int) (w : World) (h : IsCake w len K cuts Z dens) (hn : I64 n) (hd : I64 d) :
    Calls Try.prog 16 #[.agg #[.int .i64 len, .slice K cuts.length ck, .slice Z dens.length cz], .agg #[.int .i64 n, .int .i64 d]] w fun e w' => e = .returned (.tuple #[.int .i64 (Ck.denS len cuts dens n d).1, .int .i64 (Ck.denS len cuts dens n d).2]) ∧ Below w.heap.size w w' := by
  have cc := fun v (hb : Below w.heap.size w v) => ckCheck_any len K cuts ck Z dens cz v (h.keep hb)
  by_cases hc : Ck.chk len cuts dens = 0
  · have hG := Ck.chk_good hc
    rw [hc] at cc
    have n1 : (((0 : Int)) != 0) = false := rfl
    have cp := fun v => ispoint_any len K cuts.length ck Z dens.length cz n d v hG.len0 hG.len1 hn hd
    rcases hp : Ck.pt len n d with _ | _
    · have e : Ck.denS len cuts dens n d = (0, 2) := by unfold Ck.denS; rw [if_pos hc, hp]; rfl
      rw [e]
      rw [hp] at cp
      have CC := Lib.hid cc
      have CP := Lib.hid cp
      clear cc cp hc e h hn hd hG hp
      go_enter Try.func16, Try.ntmps16
      go_wp2_with fail
      refine (CC.out _ (((Below.refl _ _).alloc (Nat.le_refl _) _).alloc (by simp) _)).mono ?_
      rintro e w1 ⟨rfl, hb1⟩
      have y0 : w1.cell? ⟨w.heap.size, 0, none⟩ = some (.int .i64 len) := keepC hb1 (by go_simp)
      have y1 : w1.cell? ⟨w.heap.size, 1, none⟩ = some (.slice K cuts.length ck) := keepC hb1 (by go_simp)
      have y2 : w1.cell? ⟨w.heap.size, 2, none⟩ = some (.slice Z dens.length cz) := keepC hb1 (by go_simp)
      have p0 : w1.cell? ⟨w.heap.size + 1, 0, none⟩ = some (.int .i64 n) := keepC hb1 (by go_simp)
      have p1 : w1.cell? ⟨w.heap.size + 1, 1, none⟩ = some (.int .i64 d) := keepC hb1 (by go_simp)
      have hbb : Below w.heap.size w w1 := keepB (((Below.refl _ _).alloc (Nat.le_refl _) _).alloc (by simp) _) hb1
      clear hb1
      clear CC
      go_wp2_with fail
      refine (CP.out _).mono ?_
      rintro e w2 ⟨rfl, hb2⟩
      replace hbb := keepB hbb hb2
      clear hb2 CP
      go_wp2_with fail
      go_ret2
      exact ⟨rfl, hbb⟩
    · have e : Ck.denS len cuts dens n d = (Ck.at_ dens (Ck.place cuts n d (dens.length - 1)), 0) := by unfold Ck.denS; rw [if_pos hc, hp]; rfl
      rw [e]
      rw [hp] at cp
      have hok := (of_decide_eq_true hp).1
      have hf := fun v => Floor_any n d v hn.1 hn.2 hd.1 hd.2
      rw [Rp.floorS_ok hok] at hf
      have hd0 : 0 < d := by have := hok.1; omega
      have hbF := Rp.floor_bounds hok
      have CC := Lib.hid cc
      have CP := Lib.hid cp
      obtain ⟨⟨l0, l1⟩, _, iK, iZ⟩ := h
      clear cc cp hc e hp
      obtain ⟨bk, ok, rfl, hk⟩ := iK.1 (by have := hG.shape; omega)
      obtain ⟨bz, oz, rfl, hz⟩ := iZ.1 (by have := hG.shape; omega)
      have hsh := hG.shape
      obtain ⟨m, hm⟩ : ∃ m, dens.length = m + 1 := ⟨dens.length - 1, by omega⟩
      have hc2 : cuts.length = m + 1 + 1 := by omega
      have hmm : m ≤ 38 := by omega
      have HG := Lib.hid hG
      rw [hm] at hz
      rw [hc2] at hk
      have QK := Lib.hid (fun k (hk : k ≤ m + 1) => hG.range k (by omega))
      have HH := Lib.hid (fun k (hk : k ≤ m) => Ck.place_hit (n := n) (m := d) hG hd0 k m hm hk)
      have HL := Lib.hid (Ck.place_last (n := n) (m := d) (c := cuts) hd0 m)
      rw [show dens.length - 1 = m by omega]
      obtain ⟨R, hR⟩ : ∃ R, Ck.place cuts n d m = R := ⟨_, rfl⟩
      rw [hR] at HH HL ⊢
      have QZ := Lib.hid iZ.bd
      generalize n / d = F at *
      have CF := Lib.hid hf
      rw [hm, hc2] at CC CP ⊢
      have HK := Lib.hid hk
      have HZ := Lib.hid hz
      have i1 : (0 : Int) ≤ (m : Int) + 1 - 1 := by omega
      clear hk hz iK iZ hG hsh hR hok hn hd hf
      go_enter Try.func16, Try.ntmps16
      go_wp2_with fail
      refine (CC.out _ (((Below.refl _ _).alloc (Nat.le_refl _) _).alloc (by simp) _)).mono ?_
      rintro e w1 ⟨rfl, hb1⟩
      have y0 : w1.cell? ⟨w.heap.size, 0, none⟩ = some (.int .i64 len) := keepC hb1 (by go_simp)
      have y1 : w1.cell? ⟨w.heap.size, 1, none⟩ = some (.slice (some ⟨bk, ok, none⟩) (m + 1 + 1) ck) := keepC hb1 (by go_simp)
      have y2 : w1.cell? ⟨w.heap.size, 2, none⟩ = some (.slice (some ⟨bz, oz, none⟩) (m + 1) cz) := keepC hb1 (by go_simp)
      have p0 : w1.cell? ⟨w.heap.size + 1, 0, none⟩ = some (.int .i64 n) := keepC hb1 (by go_simp)
      have p1 : w1.cell? ⟨w.heap.size + 1, 1, none⟩ = some (.int .i64 d) := keepC hb1 (by go_simp)
      have hbb : Below w.heap.size w w1 := keepB (((Below.refl _ _).alloc (Nat.le_refl _) _).alloc (by simp) _) hb1
      clear hb1
      clear CC
      go_wp2_with fail
      refine (CP.out _).mono ?_
      rintro e w2 ⟨rfl, hb2⟩
      replace y0 := keepC hb2 y0
      replace y1 := keepC hb2 y1
      replace y2 := keepC hb2 y2
      replace p0 := keepC hb2 p0
      replace p1 := keepC hb2 p1
      replace hbb := keepB hbb hb2
      clear hb2
      clear CP
      go_wp2_with fail
      refine (CF.out _).mono ?_
      rintro e w3 ⟨rfl, hb3⟩
      replace y0 := keepC hb3 y0
      replace y1 := keepC hb3 y1
      replace y2 := keepC hb3 y2
      replace p0 := keepC hb3 p0
      replace p1 := keepC hb3 p1
      replace hbb := keepB hbb hb3
      clear hb3
      clear CF
      go_wp2_with fail
      go_loopw [9, 10, 31] (fun _ _ a v => ∃ k : Nat, k ≤ m + 1 ∧ a = .int .i64 k ∧ Hid (∀ j, j < k → Ck.at_ cuts (j + 1) ≤ F) ∧ Below w.heap.size w v ∧ v.cell? ⟨w.heap.size, 0, none⟩ = some (.int .i64 len) ∧ v.cell? ⟨w.heap.size, 1, none⟩ = some (.slice (some ⟨bk, ok, none⟩) (m + 1 + 1) ck) ∧ v.cell? ⟨w.heap.size, 2, none⟩ = some (.slice (some ⟨bz, oz, none⟩) (m + 1) cz) ∧ v.cell? ⟨w.heap.size + 1, 0, none⟩ = some (.int .i64 n) ∧ v.cell? ⟨w.heap.size + 1, 1, none⟩ = some (.int .i64 d)) (fun _ _ a _ => m + 1 - (intOf a).toNat)
      case atStart => exact ⟨0, by omega, rfl, fun j hj => absurd hj (by omega), hbb, y0, y1, y2, p0, p1⟩
      case round =>
        clear hbb y0 y1 y2 p0 p1
        obtain ⟨k, hk, rfl, HN, hbb, y0, y1, y2, p0, p1⟩ := hrel
        by_cases hlt : k < m + 1
        · have cx := keepC hbb (HK.out (k + 1) (by omega))
          have zx := keepC hbb (HZ.out k hlt)
          have q1 := QK.out (k + 1) (by omega)
          have q2 := QZ.out k
          unfold I64 at q2
          have HHk := Lib.hid (HH.out k (by omega))
          have HS := Lib.hid (fun (hp : Ck.at_ cuts (k + 1) ≤ F) j (hj : j < k + 1) => by
            rcases Nat.lt_or_ge j k with h1 | h1
            · exact HN.out j h1
            · obtain rfl : j = k := by omega
              exact hp)
          by_cases hit : F < Ck.at_ cuts (k + 1)
          · have hRk : R = k := HHk.out hit HN.out
            have hd1 : decide (F < Ck.at_ cuts (k + 1)) = true := decide_eq_true hit
            subst hRk
            clear HHk HS HN HH HL HK HZ QK QZ hit
            generalize Ck.at_ cuts (R + 1) = x at *
            go_wp2_with fail
            go_ret2
            exact ⟨rfl, hbb⟩
          · have hd1 : decide (F < Ck.at_ cuts (k + 1)) = false := decide_eq_false hit
            have HS2 := Lib.hid (HS.out (by omega))
            clear HHk HS HN HH HL HK HZ QK QZ hit
            generalize Ck.at_ cuts (k + 1) = x at *
            go_wp2_with fail
            go_roundw
            case rel => exact ⟨k + 1, by omega, by go_num, HS2, hbb, y0, y1, y2, p0, p1⟩
            case measure => simp [intOf]; omega
        · obtain rfl : k = m + 1 := by omega
          have hRm : R = m := HL.out HN.out
          subst hRm
          have zx := keepC hbb (HZ.out R (by omega))
          clear HH HL HK HZ QK QZ HN
          go_wp2_with fail
          go_ret2
          exact ⟨rfl, hbb⟩
  · have e : Ck.denS len cuts dens n d = (0, Ck.chk len cuts dens) := by unfold Ck.denS; rw [if_neg hc]
    rw [e]
    generalize Ck.chk len cuts dens = c at *
    have n1 : (c != 0) = true := by rw [bne_iff_ne]; exact hc
    have CC := Lib.hid cc
    clear cc hc e h hn hd
    go_enter Try.func16, Try.ntmps16
    go_wp2_with fail
    refine (CC.out _ (((Below.refl _ _).alloc (Nat.le_refl _) _).alloc (by simp) _)).mono ?_
    rintro e w1 ⟨rfl, hb1⟩
    have y0 : w1.cell? ⟨w.heap.size, 0, none⟩ = some (.int .i64 len) := keepC hb1 (by go_simp)
    have y1 : w1.cell? ⟨w.heap.size, 1, none⟩ = some (.slice K cuts.length ck) := keepC hb1 (by go_simp)
    have y2 : w1.cell? ⟨w.heap.size, 2, none⟩ = some (.slice Z dens.length cz) := keepC hb1 (by go_simp)
    have p0 : w1.cell? ⟨w.heap.size + 1, 0, none⟩ = some (.int .i64 n) := keepC hb1 (by go_simp)
    have p1 : w1.cell? ⟨w.heap.size + 1, 1, none⟩ = some (.int .i64 d) := keepC hb1 (by go_simp)
    have hbb : Below w.heap.size w w1 := keepB (((Below.refl _ _).alloc (Nat.le_refl _) _).alloc (by simp) _) hb1
    clear hb1
    go_wp2_with fail
    go_ret2
    exact ⟨rfl, hbb⟩
end Go.Proofs.Ytomokdepndclpaa
