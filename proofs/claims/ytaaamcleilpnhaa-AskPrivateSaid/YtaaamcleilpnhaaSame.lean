/- slices.Equal at ints; package cake's Same; the reference's Same and Great. -/
import Derived.Test.YtaaamcleilpnhaaCheck
namespace Go.Proofs.Ytaaamcleilpnhaa
open Go.RowKit
theorem Ck.ext_iff {xs ys : List Int} (h : xs.length = ys.length) : xs = ys ↔ ∀ j, j < xs.length → Ck.at_ xs j = Ck.at_ ys j := by
  constructor
  · rintro rfl j _; rfl
  · intro g
    apply List.ext_getElem h
    intro j h1 h2
    have := g j h1
    rwa [Ck.at_lt h1, Ck.at_lt h2] at this
theorem Ck.ext_not {xs ys : List Int} {k : Nat} (h : Ck.at_ xs k ≠ Ck.at_ ys k) : ¬ xs = ys := by
  rintro rfl
  exact h rfl


/-- The numbers of two cakes are the same. -/
def Ck.same (la : Int) (ka za : List Int) (lb : Int) (kb zb : List Int) : Bool := decide (la = lb) && (decide (ka = kb) && decide (za = zb))


theorem great_any (len : Int) (K : Option Addr) (cuts : List Int) (ck : Nat) (Z : Option Addr) (dens : List Int) (cz : Nat) (w : World) (hc : cuts.length ≤ maxLen) (hd : dens.length ≤ maxLen) :
    Calls Try.prog 77 #[.agg #[.int .i64 len, .slice K cuts.length ck, .slice Z dens.length cz]] w fun e w' => e = .returned (.bool (decide (60 < cuts.length) || decide (60 < dens.length))) ∧ Below w.heap.size w w' := by
  unfold maxLen at hc hd
  by_cases h1 : 60 < cuts.length
  · have d1 : decide (60 < (cuts.length : Int)) = true := decide_eq_true (by omega)
    rw [decide_eq_true h1]
    clear h1
    go_enter Try.func77, Try.ntmps77
    go_wp2_with fail
    go_ret
    exact ⟨rfl, (Below.refl _ _).alloc (Nat.le_refl _) _⟩
  · have d1 : decide (60 < (cuts.length : Int)) = false := decide_eq_false (by omega)
    rw [decide_eq_false h1, Bool.false_or]
    have e : decide (60 < (dens.length : Int)) = decide (60 < dens.length) := by rw [decide_eq_decide]; omega
    rw [← e]
    clear e h1
    go_enter Try.func77, Try.ntmps77
    go_wp2_with fail
    go_ret
    exact ⟨rfl, (Below.refl _ _).alloc (Nat.le_refl _) _⟩

set_option maxHeartbeats 4000000 in
set_option maxRecDepth 100000 in
theorem rckSame_any (la : Int) (K : Option Addr) (ka : List Int) (ck : Nat) (Z : Option Addr) (za : List Int) (cz : Nat) (lb : Int) (L : Option Addr) (kb : List Int) (cl : Nat) (Y : Option Addr) (zb : List Int) (cy : Nat) (w : World) (ha : IsCake w la K ka Z za) (hb : IsCake w lb L kb Y zb) :
    Calls Try.prog 84 #[.agg #[.int .i64 la, .slice K ka.length ck, .slice Z za.length cz], .agg #[.int .i64 lb, .slice L kb.length cl, .slice Y zb.length cy]] w fun e w' => e = .returned (.bool (Ck.same la ka za lb kb zb)) ∧ Below w.heap.size w w' := by
  obtain ⟨⟨l0, l1⟩, ⟨m1, m2⟩, ik, iz⟩ := ha
  obtain ⟨⟨l2, l3⟩, ⟨m3, m4⟩, jk, jz⟩ := hb
  unfold maxLen at m1 m2 m3 m4
  obtain ⟨R, hR⟩ : ∃ R, Ck.same la ka za lb kb zb = R := ⟨_, rfl⟩
  rw [hR]
  unfold Ck.same at hR
  by_cases h : la = lb
  · have n1 : (la != lb) = false := by rw [h]; simp
    rw [decide_eq_true h, Bool.true_and] at hR
    clear h
    by_cases hk : ka.length = kb.length
    · by_cases hz : za.length = zb.length
      · have n2 : ((ka.length : Int) != ka.length) = false := by simp
        have n3 : ((za.length : Int) != za.length) = false := by simp
        have HR := Lib.hid hR
        have HFK := Lib.hid (fun k (hp : Ck.at_ ka k ≠ Ck.at_ kb k) => show (decide (ka = kb) && decide (za = zb)) = false by rw [decide_eq_false (Ck.ext_not hp)]; rfl)
        have HFZ := Lib.hid (fun k (hp : Ck.at_ za k ≠ Ck.at_ zb k) => show (decide (ka = kb) && decide (za = zb)) = false by rw [decide_eq_false (Ck.ext_not hp)]; simp)
        have HT := Lib.hid (fun (g : ∀ j, j < ka.length → Ck.at_ ka j = Ck.at_ kb j) (g' : ∀ j, j < za.length → Ck.at_ za j = Ck.at_ zb j) => show (decide (ka = kb) && decide (za = zb)) = true by rw [decide_eq_true ((Ck.ext_iff hk).2 g), decide_eq_true ((Ck.ext_iff hz).2 g')]; rfl)
        have QKA := Lib.hid ik.bd
        have QKB := Lib.hid jk.bd
        have QZA := Lib.hid iz.bd
        have QZB := Lib.hid jz.bd
        have HKA := Lib.hid ik.1
        have HZA := Lib.hid iz.1
        have HKB := Lib.hid (show (0 < ka.length → ∃ b off, L = some ⟨b, off, none⟩ ∧ ∀ i, i < ka.length → w.cell? ⟨b, off + i, none⟩ = some (.int .i64 (Ck.at_ kb i))) by rw [hk]; exact jk.1)
        have HZB := Lib.hid (show (0 < za.length → ∃ b off, Y = some ⟨b, off, none⟩ ∧ ∀ i, i < za.length → w.cell? ⟨b, off + i, none⟩ = some (.int .i64 (Ck.at_ zb i))) by rw [hz]; exact jz.1)
        rw [← hk, ← hz]
        clear hR ik iz jk jz hk hz l0 l1 l2 l3 m3 m4
        go_enter Try.func84, Try.ntmps84
        go_upto_region 3 with fail
        refine at_worldQ (fun v => Below w.heap.size w v ∧ v.cell? ⟨w.heap.size, 0, none⟩ = some (.int .i64 la) ∧ v.cell? ⟨w.heap.size, 1, none⟩ = some (.slice K ka.length ck) ∧ v.cell? ⟨w.heap.size, 2, none⟩ = some (.slice Z za.length cz) ∧ v.cell? ⟨w.heap.size + 1, 0, none⟩ = some (.int .i64 lb) ∧ v.cell? ⟨w.heap.size + 1, 1, none⟩ = some (.slice L ka.length cl) ∧ v.cell? ⟨w.heap.size + 1, 2, none⟩ = some (.slice Y za.length cy)) ⟨((Below.refl _ _).alloc (Nat.le_refl _) _).alloc (by simp) _, by go_simp, by go_simp, by go_simp, by go_simp, by go_simp, by go_simp⟩ (fun V hS => ?_)
        obtain ⟨hbb, a0, a1, a2, b0, b1, b2⟩ := hS
        clear n1 n2 n3
        go_wp2_with fail
        go_loopw [5] (fun i v => ∃ k : Nat, k ≤ ka.length ∧ i = .int .i64 k ∧ Below w.heap.size w v ∧ v.cell? ⟨w.heap.size, 0, none⟩ = some (.int .i64 la) ∧ v.cell? ⟨w.heap.size, 1, none⟩ = some (.slice K ka.length ck) ∧ v.cell? ⟨w.heap.size, 2, none⟩ = some (.slice Z za.length cz) ∧ v.cell? ⟨w.heap.size + 1, 0, none⟩ = some (.int .i64 lb) ∧ v.cell? ⟨w.heap.size + 1, 1, none⟩ = some (.slice L ka.length cl) ∧ v.cell? ⟨w.heap.size + 1, 2, none⟩ = some (.slice Y za.length cy) ∧ Hid (∀ j, j < k → Ck.at_ ka j = Ck.at_ kb j)) (fun i _ => ka.length - (intOf i).toNat)
        case atStart => exact ⟨0, Nat.zero_le _, rfl, hbb, a0, a1, a2, b0, b1, b2, fun j hj => absurd hj (by omega)⟩
        case round =>
          clear hbb a0 a1 a2 b0 b1 b2
          obtain ⟨k, hk, rfl, hbb, a0, a1, a2, b0, b1, b2, HN⟩ := hrel
          by_cases hlt : k < ka.length
          · obtain ⟨p1, o1, rfl, c1⟩ := HKA.out (by omega)
            obtain ⟨p2, o2, rfl, c2⟩ := HKB.out (by omega)
            have x1 := keepC hbb (c1 k hlt)
            have x2 := keepC hbb (c2 k hlt)
            have q1 := QKA.out k
            have q2 := QKB.out k
            unfold I64 at q1 q2
            have i1 : (0 : Int) ≤ (k : Int) := by omega
            have i2 : (k : Int) < (ka.length : Int) := by omega
            have HS := Lib.hid (fun (hp : Ck.at_ ka k = Ck.at_ kb k) j (hj : j < k + 1) => by
              rcases Nat.lt_or_ge j k with h1 | h1
              · exact HN.out j h1
              · obtain rfl : j = k := by omega
                exact hp)
            have HF := Lib.hid (HFK.out k)
            clear c1 c2 HKA HKB HZA HZB QKA QKB QZA QZB HN HFK HFZ HT
            generalize Ck.at_ ka k = x at *
            generalize Ck.at_ kb k = y at *
            by_cases e : x = y
            · have e1 : (x != y) = false := by rw [e]; simp
              have HS2 := Lib.hid (HS.out e)
              clear HS HF e HR
              go_wp2_with fail
              go_quiet (fail)
              go_wp2_with fail
              go_roundw
              case rel => exact ⟨k + 1, by omega, by go_num, below_drewN hbb _, a0, a1, a2, b0, b1, b2, HS2⟩
              case measure => simp [intOf]; omega
            · have e1 : (x != y) = true := by rw [bne_iff_ne]; exact e
              obtain rfl : R = false := HR.out.symm.trans (HF.out e)
              clear HS HF e HR
              go_wp2_with fail
              go_quiet (fail)
              go_wp2_with fail
              go_ret
              exact ⟨rfl, below_drewN hbb _⟩
          · obtain rfl : k = ka.length := by omega
            have HNK := HN
            clear HN
            go_wp2_with fail
            go_loopw [6] (fun i v => ∃ k : Nat, k ≤ za.length ∧ i = .int .i64 k ∧ Below w.heap.size w v ∧ v.cell? ⟨w.heap.size, 0, none⟩ = some (.int .i64 la) ∧ v.cell? ⟨w.heap.size, 1, none⟩ = some (.slice K ka.length ck) ∧ v.cell? ⟨w.heap.size, 2, none⟩ = some (.slice Z za.length cz) ∧ v.cell? ⟨w.heap.size + 1, 0, none⟩ = some (.int .i64 lb) ∧ v.cell? ⟨w.heap.size + 1, 1, none⟩ = some (.slice L ka.length cl) ∧ v.cell? ⟨w.heap.size + 1, 2, none⟩ = some (.slice Y za.length cy) ∧ Hid (∀ j, j < k → Ck.at_ za j = Ck.at_ zb j)) (fun i _ => za.length - (intOf i).toNat)
            case atStart => exact ⟨0, Nat.zero_le _, rfl, hbb, a0, a1, a2, b0, b1, b2, fun j hj => absurd hj (by omega)⟩
            case round =>
              clear hbb a0 a1 a2 b0 b1 b2
              obtain ⟨k2, hk2, rfl, hbb, a0, a1, a2, b0, b1, b2, HN⟩ := hrel
              by_cases hlt : k2 < za.length
              · obtain ⟨p1, o1, rfl, c1⟩ := HZA.out (by omega)
                obtain ⟨p2, o2, rfl, c2⟩ := HZB.out (by omega)
                have x1 := keepC hbb (c1 k2 hlt)
                have x2 := keepC hbb (c2 k2 hlt)
                have q1 := QZA.out k2
                have q2 := QZB.out k2
                unfold I64 at q1 q2
                have i1 : (0 : Int) ≤ (k2 : Int) := by omega
                have i2 : (k2 : Int) < (za.length : Int) := by omega
                have HS := Lib.hid (fun (hp : Ck.at_ za k2 = Ck.at_ zb k2) j (hj : j < k2 + 1) => by
                  rcases Nat.lt_or_ge j k2 with h1 | h1
                  · exact HN.out j h1
                  · obtain rfl : j = k2 := by omega
                    exact hp)
                have HF := Lib.hid (HFZ.out k2)
                clear c1 c2 HKA HKB HZA HZB QKA QKB QZA QZB HN HFK HFZ HT
                generalize Ck.at_ za k2 = x at *
                generalize Ck.at_ zb k2 = y at *
                by_cases e : x = y
                · have e1 : (x != y) = false := by rw [e]; simp
                  have HS2 := Lib.hid (HS.out e)
                  clear HS HF e HR
                  go_wp2_with fail
                  go_quiet (fail)
                  go_wp2_with fail
                  go_roundw
                  case rel => exact ⟨k2 + 1, by omega, by go_num, below_drewN hbb _, a0, a1, a2, b0, b1, b2, HS2⟩
                  case measure => simp [intOf]; omega
                · have e1 : (x != y) = true := by rw [bne_iff_ne]; exact e
                  obtain rfl : R = false := HR.out.symm.trans (HF.out e)
                  clear HS HF e HR
                  go_wp2_with fail
                  go_quiet (fail)
                  go_wp2_with fail
                  go_ret
                  exact ⟨rfl, below_drewN hbb _⟩
              · obtain rfl : k2 = za.length := by omega
                obtain rfl : R = true := HR.out.symm.trans (HT.out HNK.out HN.out)
                clear HKA HKB HZA HZB QKA QKB QZA QZB HN HFK HFZ HT HNK HR
                go_wp2_with fail
                go_ret
                exact ⟨rfl, hbb⟩
      · have n2 : ((ka.length : Int) != kb.length) = false := by rw [hk]; simp
        have n3 : ((za.length : Int) != zb.length) = true := by rw [bne_iff_ne]; omega
        rw [decide_eq_false (fun g => hz (by rw [g]) : ¬ za = zb), Bool.and_false] at hR
        subst hR
        clear ik iz jk jz hk hz
        go_enter Try.func84, Try.ntmps84
        go_wp2_with fail
        go_ret
        exact ⟨rfl, ((Below.refl _ _).alloc (Nat.le_refl _) _).alloc (by simp) _⟩

    · have n2 : ((ka.length : Int) != kb.length) = true := by rw [bne_iff_ne]; omega
      rw [decide_eq_false (fun g => hk (by rw [g]) : ¬ ka = kb), Bool.false_and] at hR
      subst hR
      clear ik iz jk jz hk
      go_enter Try.func84, Try.ntmps84
      go_wp2_with fail
      go_ret
      exact ⟨rfl, ((Below.refl _ _).alloc (Nat.le_refl _) _).alloc (by simp) _⟩

  · have n1 : (la != lb) = true := by rw [bne_iff_ne]; exact h
    rw [decide_eq_false h, Bool.false_and] at hR
    subst hR
    clear ik iz jk jz h
    go_enter Try.func84, Try.ntmps84
    go_wp2_with fail
    go_ret
    exact ⟨rfl, ((Below.refl _ _).alloc (Nat.le_refl _) _).alloc (by simp) _⟩

end Go.Proofs.Ytaaamcleilpnhaa
