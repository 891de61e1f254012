/- The reference of layer 13: Next. -/
import Derived.Test.YtkibglbccfjkpaaAfm
import Derived.Test.YtkibglbccfjkpaaItw
namespace Go.Proofs.Ytkibglbccfjkpaa
open Go.RowKit
theorem gby_set {w W : World} {g o : Nat} (h : w.grownBy W (some g)) (x : Value) : w.grownBy (W.setCell ⟨g, o, none⟩ x) (some g) :=
  ⟨h.os, h.tape, h.output, by rw [World.size_setCell]; exact h.size, fun b hb hne => (Below.heap_setCell W ⟨g, o, none⟩ x b (fun e => hne (by rw [e]))).trans (h.block b hb hne)⟩
theorem gby_refl (w : World) (r : Option Nat) : w.grownBy w r := ⟨rfl, rfl, rfl, Nat.le_refl _, fun _ _ _ => rfl⟩
namespace As
theorem list_split {n m idx : Nat} {L : List Nat} (hl : L.length = n) (hm : idx + 1 + m = n) (h : ∀ i, idx < i → i < n → L.getD i 0 = n - 1) : L = L.take idx ++ L.getD idx 0 :: List.replicate m (n - 1) := by
  refine List.ext_getElem (by simp; omega) fun i h1 h2 => ?_
  rcases Nat.lt_trichotomy i idx with hi | hi | hi
  · rw [List.getElem_append_left (by simp; omega)]; simp
  · subst hi
    rw [List.getElem_append_right (by simp; omega)]
    simp [List.getD, h1, Nat.min_eq_left (Nat.le_of_lt h1)]
  · rw [List.getElem_append_right (by simp; omega)]
    have hmin : min idx L.length = idx := by omega
    have := h i hi (by omega)
    rw [getD_lt h1] at this
    rw [this]
    have e : i - (L.take idx).length = (i - idx - 1) + 1 := by rw [List.length_take, hmin]; omega
    simp only [e, List.getElem_cons_succ, List.getElem_replicate]
theorem getD_next {n m idx : Nat} {L : List Nat} (hl : L.length = n) (hm : idx + 1 + m = n) (y i : Nat) (hi : i < n) : (L.take idx ++ y :: List.replicate m 0).getD i 0 = if i = idx then y else if i < idx then L.getD i 0 else 0 := by
  have hmin : min idx L.length = idx := by omega
  rw [getD_lt (by simp; omega)]
  rcases Nat.lt_trichotomy i idx with h | h | h
  · rw [List.getElem_append_left (by simp; omega), if_neg (by omega), if_pos h]
    rw [getD_lt (by omega)]; simp
  · subst h
    rw [List.getElem_append_right (by simp; omega), if_pos rfl]
    simp [hmin]
  · rw [List.getElem_append_right (by simp; omega), if_neg (by omega), if_neg (by omega)]
    have e : i - (L.take idx).length = (i - idx - 1) + 1 := by rw [List.length_take, hmin]; omega
    simp only [e, List.getElem_cons_succ, List.getElem_replicate]
end As
/-- What Next gives. -/
def NextQ (g n : Nat) (L : List Nat) (w : World) (e : Ending) (w' : World) : Prop :=
  ∃ z L', e = .returned (.bool z) ∧ L'.length = n ∧ (∀ x ∈ L', x < n) ∧ BF w' g n (fun i => ((L'.getD i 0 : Nat) : Int)) ∧ w.grownBy w' (some g) ∧ (z = true → As.enc n L' = As.enc n L + 1) ∧ (z = false → As.enc n L + 1 = n ^ n)
theorem NextQ.yes {g n m idx : Nat} {L : List Nat} {w w' : World} (hl : L.length = n) (hd : ∀ x ∈ L, x < n) (hm : idx + 1 + m = n) (h : ∀ i, idx < i → i < n → L.getD i 0 = n - 1) (hlt : L.getD idx 0 + 1 < n) (hb : BF w' g n (fun i => if i = idx then ((L.getD idx 0 : Nat) : Int) + 1 else if i < idx then ((L.getD i 0 : Nat) : Int) else 0)) (hg : w.grownBy w' (some g)) : NextQ g n L w (.returned (.bool true)) w' := by
  refine ⟨true, L.take idx ++ (L.getD idx 0 + 1) :: List.replicate m 0, rfl, by simp; omega, fun x hx => ?_, hb.cong fun i hi => ?_, hg, fun _ => ?_, fun h => by cases h⟩
  · rcases List.mem_append.1 hx with hx | hx
    · exact hd x (List.mem_of_mem_take hx)
    · rcases List.mem_cons.1 hx with rfl | hx
      · exact hlt
      · rw [(List.mem_replicate.1 hx).2]; omega
  · rw [As.getD_next hl hm _ i hi]
    split
    · simp
    · split <;> simp
  · rw [As.enc_step (by omega)]
    conv => rhs; rw [As.list_split hl hm h]
theorem NextQ.no {g n : Nat} {L : List Nat} {w w' : World} (hl : L.length = n) (hn : 1 ≤ n) (h : ∀ i, i < n → L.getD i 0 = n - 1) (hb : BF w' g n (fun _ => 0)) (hg : w.grownBy w' (some g)) : NextQ g n L w (.returned (.bool false)) w' := by
  refine ⟨false, List.replicate n 0, rfl, by simp, fun x hx => ?_, hb.cong fun i hi => by simp [List.getD, hi], hg, fun h => (by cases h), fun _ => ?_⟩
  · rw [(List.mem_replicate.1 hx).2]; omega
  · have e : L = List.replicate n (n - 1) := List.ext_getElem (by simp [hl]) fun i h1 h2 => by
      have := h i (by omega)
      rw [As.getD_lt h1] at this
      simp [this]
    rw [e]; exact As.enc_top hn n
set_option maxRecDepth 100000 in
set_option maxHeartbeats 4000000 in
theorem rNext_any (g n : Nat) (cap : Nat) (L : List Nat) (w : World) (n1 : 1 ≤ n) (n6 : n ≤ 6) (hl : L.length = n) (hd : ∀ x ∈ L, x < n) (hb : BF w g n (fun i => ((L.getD i 0 : Nat) : Int))) :
    Calls Try.prog 44 #[.slice (some ⟨g, 0, none⟩) n cap, .int .i64 n] w (NextQ g n L w) := by
  have HY := Lib.hid (fun m idx w' hm h hlt hb hg => @NextQ.yes g n m idx L w w' hl hd hm h hlt hb hg)
  have HN := Lib.hid (fun w' h hb hg => @NextQ.no g n L w w' hl n1 h hb hg)
  have HDG := Lib.hid (show ∀ i, i < n → L.getD i 0 < n from fun i hi => hd _ (by rw [As.getD_lt (by omega)]; exact List.getElem_mem (by omega)))
  clear hl hd
  go_enter Try.func44, Try.ntmps44
  go_wp2_with fail
  go_loopw [5] (fun i W => ∃ (m : Nat) (x : Int), m ≤ n ∧ i = .int .i64 x ∧ x + 1 + m = n ∧ BF W g n (fun i => if i < n - m then ((L.getD i 0 : Nat) : Int) else 0) ∧ Hid (∀ i, n - m ≤ i → i < n → L.getD i 0 = n - 1) ∧ w.grownBy W (some g)) (fun i _ => (intOf i + 1).toNat)
  case atStart => exact ⟨0, (n : Int) - 1, Nat.zero_le _, rfl, by omega, hb.cong (fun i hi => by rw [if_pos (by omega)]), Lib.hid (fun i h1 h2 => absurd h2 (by omega)), gby_refl _ _⟩
  case round =>
    obtain ⟨m, x, hm, rfl, hx, hbf, HTOP, hg⟩ := hrel
    by_cases hlt : m < n
    · obtain ⟨idx, rfl⟩ : ∃ idx : Nat, x = (idx : Int) := ⟨x.toNat, by omega⟩
      have hidx : idx < n := by omega
      have x1 := hbf.c hidx
      have x2 := hbf.f hidx
      rw [if_pos (by omega)] at x1
      have hdl := HDG.out idx hidx
      obtain ⟨d, hdd⟩ : ∃ d, L.getD idx 0 = d := ⟨_, rfl⟩
      rw [hdd] at x1 hdl
      have i1 : (idx : Int) < (n : Int) := by omega
      have HDD := Lib.hid hdd
      have HX := Lib.hid hx
      have HG := Lib.hid hg
      have HBF := Lib.hid hbf
      clear hdd hx hg hbf hb
      by_cases hd1 : d + 1 < n
      · have d1 : decide ((d : Int) + 1 < (n : Int)) = true := by rw [decide_eq_true_eq]; omega
        go_wp2_with fail
        go_ret
        refine HY.out m idx _ (by have := HX.out; omega) (fun i h1 h2 => HTOP.out i (by have := HX.out; omega) h2) (by rw [HDD.out]; exact hd1) ?_ (gby_set HG.out _)
        refine (HBF.out.set idx _).cong fun i hi => ?_
        have := HX.out
        rw [HDD.out]
        by_cases e : i = idx
        · rw [if_pos e, if_pos e]
        · rw [if_neg e, if_neg e]
          by_cases e2 : i < idx
          · rw [if_pos e2, if_pos (by omega)]
          · rw [if_neg e2, if_neg (by omega)]
      · have d1 : decide ((d : Int) + 1 < (n : Int)) = false := by rw [decide_eq_false_iff_not]; omega
        go_wp2_with fail
        go_roundw
        case rel =>
          refine ⟨m + 1, (idx : Int) - 1, by omega, rfl, by have := HX.out; omega, (((HBF.out.set idx _).set idx 0).cong fun i hi => ?_), Lib.hid (fun i h1 h2 => ?_), gby_set (gby_set HG.out _) _⟩
          · have := HX.out
            by_cases e : i = idx
            · rw [if_pos e, if_neg (by omega)]
            · rw [if_neg e, if_neg e]
              by_cases e2 : i < idx
              · rw [if_pos (by omega), if_pos (by omega)]
              · rw [if_neg (by omega), if_neg (by omega)]
          · have := HX.out
            by_cases e : i = idx
            · subst e; rw [HDD.out]; omega
            · exact HTOP.out i (by omega) h2
        case measure => simp [intOf]; try omega
    · obtain rfl : m = n := by omega
      obtain rfl : x = -1 := by omega
      go_wp2_with fail
      go_ret
      exact HN.out _ (fun i hi => HTOP.out i (by omega) hi) (hbf.cong fun i hi => by rw [if_neg (by omega)]) hg
end Go.Proofs.Ytkibglbccfjkpaa
