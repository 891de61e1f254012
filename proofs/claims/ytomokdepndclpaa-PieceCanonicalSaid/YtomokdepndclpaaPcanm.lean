/- The reference's comparison of any spans; what Make gives, as a set of points. -/
import Derived.Test.YtomokdepndclpaaPlawm
import Derived.Test.YtomokdepndclpaaOpens
namespace Go.Proofs.Ytomokdepndclpaa
open Go.RowKit
namespace Pc
theorem raw_ne {s t : Raw} (h : s ≠ t) : s.a = t.a → s.b = t.b → s.c = t.c → ¬ s.d = t.d := by
  intro h1 h2 h3 h4
  cases s; cases t
  simp only at h1 h2 h3 h4
  subst h1 h2 h3 h4
  exact h rfl
theorem list_ext {xs ys : List Raw} (hl : xs.length = ys.length) (h : ∀ k, k < xs.length → at_ xs k = at_ ys k) : xs = ys := by
  refine List.ext_getElem hl fun i h1 h2 => ?_
  have := h i h1
  rwa [at_lt h1, at_lt h2] at this
end Pc
theorem cells_of {w : World} {A : Option Addr} {xs : List Raw} (h : IsS w A xs) : ∃ b off, (0 < xs.length → A = some ⟨b, off, none⟩) ∧ ∀ i, i < xs.length → w.cell? ⟨b, off + i * 4, none⟩ = some (.int .i64 (Pc.at_ xs i).a) ∧ w.cell? ⟨b, off + i * 4 + 1, none⟩ = some (.int .i64 (Pc.at_ xs i).b) ∧ w.cell? ⟨b, off + i * 4 + 2, none⟩ = some (.int .i64 (Pc.at_ xs i).c) ∧ w.cell? ⟨b, off + i * 4 + 3, none⟩ = some (.int .i64 (Pc.at_ xs i).d) := by
  by_cases h0 : 0 < xs.length
  · obtain ⟨b, off, e, k⟩ := h.1 h0
    exact ⟨b, off, fun _ => e, k⟩
  · exact ⟨0, 0, fun k => absurd k h0, fun i hi => absurd hi (by omega)⟩
set_option linter.unusedSimpArgs false in
set_option maxHeartbeats 4000000 in
set_option maxRecDepth 100000 in
theorem rpSameG_any (A B : Option Addr) (ca cb : Nat) (xs ys : List Raw) (w : World) (ha : IsS w A xs) (hb : IsS w B ys) :
    Calls Try.prog 50 #[.slice A xs.length ca, .slice B ys.length cb] w fun e w' => ∃ z : Bool, e = .returned (.bool z) ∧ (z = true ↔ xs = ys) ∧ Below w.heap.size w w' := by
  obtain ⟨b1, o1, hA, hc⟩ := cells_of ha
  obtain ⟨b2, o2, hB, hd⟩ := cells_of hb
  have HC := Lib.hid hc
  have HD := Lib.hid hd
  have HA := Lib.hid hA
  have HB := Lib.hid hB
  have hml := ha.2.2
  clear hc hd hA hB ha hb
  have hm2 : (xs.length : Int) ≤ 9223372036854775807 := by unfold maxLen at hml; omega
  by_cases hln : xs.length = ys.length
  case neg =>
    have e1 : (((xs.length : Nat) : Int) != ((ys.length : Nat) : Int)) = true := by rw [bne_iff_ne]; omega
    have e2 : (((xs.length : Nat) : Int) == ((ys.length : Nat) : Int)) = false := by rw [beq_eq_false_iff_ne]; omega
    have e3 : ¬ ((xs.length : Nat) : Int) = ((ys.length : Nat) : Int) := by omega
    have EB := Lib.hid (show ¬ xs = ys from fun e => hln (by rw [e]))
    clear HA HB HC HD hln
    go_enter Try.func50, Try.ntmps50
    go_wp2_with fail
    go_ret
    first
      | exact ⟨by simpa using EB.out, Below.refl _ _⟩
      | exact ⟨_, rfl, by simpa using EB.out, Below.refl _ _⟩
  have HLN := Lib.hid hln
  have HB := Lib.hid (show 0 < xs.length → B = some ⟨b2, o2, none⟩ from fun h => HB.out (by omega))
  rw [← hln] at HD
  rw [← hln]
  clear hln
  go_enter Try.func50, Try.ntmps50
  go_wp2_with fail
  go_loopw [5] (fun i W => ∃ k : Nat, k ≤ xs.length ∧ i = .int .i64 k ∧ (∀ j, j < k → Pc.at_ xs j = Pc.at_ ys j) ∧ Below w.heap.size w W) (fun i _ => xs.length - (intOf i).toNat)
  case atStart => exact ⟨0, Nat.zero_le _, rfl, fun j hj => absurd hj (Nat.not_lt_zero _), Below.refl _ _⟩
  case round =>
    obtain ⟨k, hk, rfl, hok, hbb⟩ := hrel
    have HOK := Lib.hid hok
    clear hok
    by_cases hlt : k < xs.length
    · have hA' := HA.out (by omega)
      subst hA'
      have hB' := HB.out (by omega)
      subst hB'
      obtain ⟨s, hs⟩ : ∃ s, Pc.at_ xs k = s := ⟨_, rfl⟩
      obtain ⟨t, ht⟩ : ∃ t, Pc.at_ ys k = t := ⟨_, rfl⟩
      obtain ⟨c0, c1, c2, c3⟩ := HC.out k hlt
      obtain ⟨d0, d1, d2, d3⟩ := HD.out k hlt
      rw [hs] at c0 c1 c2 c3
      rw [ht] at d0 d1 d2 d3
      replace c0 := keepC hbb c0
      replace c1 := keepC hbb c1
      replace c2 := keepC hbb c2
      replace c3 := keepC hbb c3
      replace d0 := keepC hbb d0
      replace d1 := keepC hbb d1
      replace d2 := keepC hbb d2
      replace d3 := keepC hbb d3
      have i1 : (0 : Int) ≤ (k : Int) := by omega
      have i2 : (k : Int) < (xs.length : Int) := by omega
      by_cases hst : s = t
      · have EB := Lib.hid (show Pc.at_ xs k = Pc.at_ ys k by rw [hs, ht, hst])
        subst hst
        clear hs ht
        go_upto_region 6 with fail
        refine at_worldQ (fun v => Below w.heap.size w v ∧ v.cell? ⟨b1, o1 + k * 4, none⟩ = some (.int .i64 s.a) ∧ v.cell? ⟨b1, o1 + k * 4 + 1, none⟩ = some (.int .i64 s.b) ∧ v.cell? ⟨b1, o1 + k * 4 + 2, none⟩ = some (.int .i64 s.c) ∧ v.cell? ⟨b1, o1 + k * 4 + 3, none⟩ = some (.int .i64 s.d) ∧ v.cell? ⟨b2, o2 + k * 4, none⟩ = some (.int .i64 s.a) ∧ v.cell? ⟨b2, o2 + k * 4 + 1, none⟩ = some (.int .i64 s.b) ∧ v.cell? ⟨b2, o2 + k * 4 + 2, none⟩ = some (.int .i64 s.c) ∧ v.cell? ⟨b2, o2 + k * 4 + 3, none⟩ = some (.int .i64 s.d)) ⟨hbb, c0, c1, c2, c3, d0, d1, d2, d3⟩ (fun V hS => ?_)
        clear hbb c0 c1 c2 c3 d0 d1 d2 d3
        obtain ⟨hbb, c0, c1, c2, c3, d0, d1, d2, d3⟩ := hS
        refine wp_region_noPanic ?_
        refine wp_region_held_drew (S := (Below V.heap.size V)) (by kernel_rfl) ((Below.refl _ _).drew) (fun hHeld => ?_)
        refine at_anyH (Below V.heap.size V) hHeld (fun wq0 hNew => ?_)
        clear hHeld
        have hHeld := hNew
        clear hNew
        refine wpAnyH_take (i := 0) (oi := _) (v := ?vq1) rfl (by kernel_rfl) (by kernel_rfl) (by kernel_rfl) (fun _ _ _ h => h) (Or.inl ⟨by kernel_rfl, ?hyq1⟩) hHeld ?restq1
        case hyq1 => (intro w hSw; go_simp; first | done | (with_reducible rfl))
        try simp only [Act.put, List.getElem_toArray, List.getElem_cons_succ, List.getElem_cons_zero, List.setIfInBounds_toArray, List.set_cons_zero, List.set_cons_succ]
        refine wpAnyH_take (i := 1) (oi := _) (v := ?vq2) rfl (by kernel_rfl) (by kernel_rfl) (by kernel_rfl) (fun _ _ _ h => h) (Or.inl ⟨by kernel_rfl, ?hyq2⟩) hHeld ?restq2
        case hyq2 => (intro w hSw; go_simp; first | done | (with_reducible rfl))
        try simp only [Act.put, List.getElem_toArray, List.getElem_cons_succ, List.getElem_cons_zero, List.setIfInBounds_toArray, List.set_cons_zero, List.set_cons_succ]
        refine wpAnyH_take (i := 2) (oi := _) (v := ?vq3) rfl (by kernel_rfl) (by kernel_rfl) (by kernel_rfl) (fun _ _ _ h => h) (Or.inl ⟨by kernel_rfl, ?hyq3⟩) hHeld ?restq3
        case hyq3 => (intro w hSw; go_simp; first | done | (with_reducible rfl))
        try simp only [Act.put, List.getElem_toArray, List.getElem_cons_succ, List.getElem_cons_zero, List.setIfInBounds_toArray, List.set_cons_zero, List.set_cons_succ]
        refine wpAnyH_take (i := 3) (oi := _) (v := ?vq4) rfl (by kernel_rfl) (by kernel_rfl) (by kernel_rfl) (fun _ _ _ h => h) (Or.inl ⟨by kernel_rfl, ?hyq4⟩) hHeld ?restq4
        case hyq4 => (intro w hSw; have kc0 := keepC hSw c0; have kc1 := keepC hSw c1; have kc2 := keepC hSw c2; have kc3 := keepC hSw c3; have kd0 := keepC hSw d0; have kd1 := keepC hSw d1; have kd2 := keepC hSw d2; have kd3 := keepC hSw d3; go_simp; first | done | (with_reducible rfl))
        try simp only [Act.put, List.getElem_toArray, List.getElem_cons_succ, List.getElem_cons_zero, List.setIfInBounds_toArray, List.set_cons_zero, List.set_cons_succ]
        refine wpAnyH_take (i := 4) (oi := _) (v := ?vq5) rfl (by kernel_rfl) (by kernel_rfl) (by kernel_rfl) (fun _ _ _ h => h) (Or.inl ⟨by kernel_rfl, ?hyq5⟩) hHeld ?restq5
        case hyq5 => (intro w hSw; go_simp; first | done | (with_reducible rfl))
        try simp only [Act.put, List.getElem_toArray, List.getElem_cons_succ, List.getElem_cons_zero, List.setIfInBounds_toArray, List.set_cons_zero, List.set_cons_succ]
        refine wpAnyH_take (i := 5) (oi := _) (v := ?vq6) rfl (by kernel_rfl) (by kernel_rfl) (by kernel_rfl) (fun _ _ _ h => h) (Or.inl ⟨by kernel_rfl, ?hyq6⟩) hHeld ?restq6
        case hyq6 => (intro w hSw; go_simp; first | done | (with_reducible rfl))
        try simp only [Act.put, List.getElem_toArray, List.getElem_cons_succ, List.getElem_cons_zero, List.setIfInBounds_toArray, List.set_cons_zero, List.set_cons_succ]
        refine wpAnyH_take (i := 6) (oi := _) (v := ?vq7) rfl (by kernel_rfl) (by kernel_rfl) (by kernel_rfl) (fun _ _ _ h => h) (Or.inl ⟨by kernel_rfl, ?hyq7⟩) hHeld ?restq7
        case hyq7 => (intro w hSw; go_simp; first | done | (with_reducible rfl))
        try simp only [Act.put, List.getElem_toArray, List.getElem_cons_succ, List.getElem_cons_zero, List.setIfInBounds_toArray, List.set_cons_zero, List.set_cons_succ]
        refine wpAnyH_take (i := 7) (oi := _) (v := ?vq8) rfl (by kernel_rfl) (by kernel_rfl) (by kernel_rfl) (fun _ _ _ h => h) (Or.inl ⟨by kernel_rfl, ?hyq8⟩) hHeld ?restq8
        case hyq8 => (intro w hSw; have kc0 := keepC hSw c0; have kc1 := keepC hSw c1; have kc2 := keepC hSw c2; have kc3 := keepC hSw c3; have kd0 := keepC hSw d0; have kd1 := keepC hSw d1; have kd2 := keepC hSw d2; have kd3 := keepC hSw d3; go_simp; first | done | (with_reducible rfl))
        try simp only [Act.put, List.getElem_toArray, List.getElem_cons_succ, List.getElem_cons_zero, List.setIfInBounds_toArray, List.set_cons_zero, List.set_cons_succ]
        refine wpAnyH_take (i := 8) (oi := _) (v := ?vq9) rfl (by kernel_rfl) (by kernel_rfl) (by kernel_rfl) (fun _ _ _ h => h) (Or.inl ⟨by kernel_rfl, ?hyq9⟩) hHeld ?restq9
        case hyq9 => (intro w hSw; go_simp; first | done | (with_reducible rfl))
        try simp only [Act.put, List.getElem_toArray, List.getElem_cons_succ, List.getElem_cons_zero, List.setIfInBounds_toArray, List.set_cons_zero, List.set_cons_succ]
        refine wpAnyH_done (by kernel_rfl) ?_ _
        refine NoPanic.normal ?_
        replace hbb := keepB hbb hHeld
        go_wp2_with fail
        go_roundw
        case rel => exact ⟨k + 1, by omega, by go_num, fun j hj => (Nat.lt_succ_iff_lt_or_eq.1 hj).elim (HOK.out j) (fun e => e ▸ EB.out), hbb⟩
        case measure => simp [intOf]; omega
      · have HNE := Lib.hid (Pc.raw_ne hst)
        have EB := Lib.hid (show (false = true ↔ xs = ys) from ⟨fun h => (by cases h), fun e => absurd (by rw [← hs, ← ht, e]) hst⟩)
        clear hs ht hst
        go_upto_region 6 with fail
        refine at_worldQ (fun v => Below w.heap.size w v ∧ v.cell? ⟨b1, o1 + k * 4, none⟩ = some (.int .i64 s.a) ∧ v.cell? ⟨b1, o1 + k * 4 + 1, none⟩ = some (.int .i64 s.b) ∧ v.cell? ⟨b1, o1 + k * 4 + 2, none⟩ = some (.int .i64 s.c) ∧ v.cell? ⟨b1, o1 + k * 4 + 3, none⟩ = some (.int .i64 s.d) ∧ v.cell? ⟨b2, o2 + k * 4, none⟩ = some (.int .i64 t.a) ∧ v.cell? ⟨b2, o2 + k * 4 + 1, none⟩ = some (.int .i64 t.b) ∧ v.cell? ⟨b2, o2 + k * 4 + 2, none⟩ = some (.int .i64 t.c) ∧ v.cell? ⟨b2, o2 + k * 4 + 3, none⟩ = some (.int .i64 t.d)) ⟨hbb, c0, c1, c2, c3, d0, d1, d2, d3⟩ (fun V hS => ?_)
        clear hbb c0 c1 c2 c3 d0 d1 d2 d3
        obtain ⟨hbb, c0, c1, c2, c3, d0, d1, d2, d3⟩ := hS
        refine wp_region_noPanic ?_
        refine wp_region_held_drew (S := (Below V.heap.size V)) (by kernel_rfl) ((Below.refl _ _).drew) (fun hHeld => ?_)
        refine at_anyH (Below V.heap.size V) hHeld (fun wr0 hNew => ?_)
        clear hHeld
        have hHeld := hNew
        clear hNew
        refine wpAnyH_take (i := 0) (oi := _) (v := ?vr1) rfl (by kernel_rfl) (by kernel_rfl) (by kernel_rfl) (fun _ _ _ h => h) (Or.inl ⟨by kernel_rfl, ?hyr1⟩) hHeld ?restr1
        case hyr1 => (intro w hSw; go_simp; first | done | (with_reducible rfl))
        try simp only [Act.put, List.getElem_toArray, List.getElem_cons_succ, List.getElem_cons_zero, List.setIfInBounds_toArray, List.set_cons_zero, List.set_cons_succ]
        refine wpAnyH_take (i := 1) (oi := _) (v := ?vr2) rfl (by kernel_rfl) (by kernel_rfl) (by kernel_rfl) (fun _ _ _ h => h) (Or.inl ⟨by kernel_rfl, ?hyr2⟩) hHeld ?restr2
        case hyr2 => (intro w hSw; go_simp; first | done | (with_reducible rfl))
        try simp only [Act.put, List.getElem_toArray, List.getElem_cons_succ, List.getElem_cons_zero, List.setIfInBounds_toArray, List.set_cons_zero, List.set_cons_succ]
        refine wpAnyH_take (i := 2) (oi := _) (v := ?vr3) rfl (by kernel_rfl) (by kernel_rfl) (by kernel_rfl) (fun _ _ _ h => h) (Or.inl ⟨by kernel_rfl, ?hyr3⟩) hHeld ?restr3
        case hyr3 => (intro w hSw; go_simp; first | done | (with_reducible rfl))
        try simp only [Act.put, List.getElem_toArray, List.getElem_cons_succ, List.getElem_cons_zero, List.setIfInBounds_toArray, List.set_cons_zero, List.set_cons_succ]
        refine wpAnyH_take (i := 3) (oi := _) (v := ?vr4) rfl (by kernel_rfl) (by kernel_rfl) (by kernel_rfl) (fun _ _ _ h => h) (Or.inl ⟨by kernel_rfl, ?hyr4⟩) hHeld ?restr4
        case hyr4 => (intro w hSw; have kc0 := keepC hSw c0; have kc1 := keepC hSw c1; have kc2 := keepC hSw c2; have kc3 := keepC hSw c3; have kd0 := keepC hSw d0; have kd1 := keepC hSw d1; have kd2 := keepC hSw d2; have kd3 := keepC hSw d3; go_simp; first | done | (with_reducible rfl))
        try simp only [Act.put, List.getElem_toArray, List.getElem_cons_succ, List.getElem_cons_zero, List.setIfInBounds_toArray, List.set_cons_zero, List.set_cons_succ]
        refine wpAnyH_take (i := 4) (oi := _) (v := ?vr5) rfl (by kernel_rfl) (by kernel_rfl) (by kernel_rfl) (fun _ _ _ h => h) (Or.inl ⟨by kernel_rfl, ?hyr5⟩) hHeld ?restr5
        case hyr5 => (intro w hSw; go_simp; first | done | (with_reducible rfl))
        try simp only [Act.put, List.getElem_toArray, List.getElem_cons_succ, List.getElem_cons_zero, List.setIfInBounds_toArray, List.set_cons_zero, List.set_cons_succ]
        refine wpAnyH_take (i := 5) (oi := _) (v := ?vr6) rfl (by kernel_rfl) (by kernel_rfl) (by kernel_rfl) (fun _ _ _ h => h) (Or.inl ⟨by kernel_rfl, ?hyr6⟩) hHeld ?restr6
        case hyr6 => (intro w hSw; go_simp; first | done | (with_reducible rfl))
        try simp only [Act.put, List.getElem_toArray, List.getElem_cons_succ, List.getElem_cons_zero, List.setIfInBounds_toArray, List.set_cons_zero, List.set_cons_succ]
        refine wpAnyH_take (i := 6) (oi := _) (v := ?vr7) rfl (by kernel_rfl) (by kernel_rfl) (by kernel_rfl) (fun _ _ _ h => h) (Or.inl ⟨by kernel_rfl, ?hyr7⟩) hHeld ?restr7
        case hyr7 => (intro w hSw; go_simp; first | done | (with_reducible rfl))
        try simp only [Act.put, List.getElem_toArray, List.getElem_cons_succ, List.getElem_cons_zero, List.setIfInBounds_toArray, List.set_cons_zero, List.set_cons_succ]
        refine wpAnyH_take (i := 7) (oi := _) (v := ?vr8) rfl (by kernel_rfl) (by kernel_rfl) (by kernel_rfl) (fun _ _ _ h => h) (Or.inl ⟨by kernel_rfl, ?hyr8⟩) hHeld ?restr8
        case hyr8 => (intro w hSw; have kc0 := keepC hSw c0; have kc1 := keepC hSw c1; have kc2 := keepC hSw c2; have kc3 := keepC hSw c3; have kd0 := keepC hSw d0; have kd1 := keepC hSw d1; have kd2 := keepC hSw d2; have kd3 := keepC hSw d3; go_simp; first | done | (with_reducible rfl))
        try simp only [Act.put, List.getElem_toArray, List.getElem_cons_succ, List.getElem_cons_zero, List.setIfInBounds_toArray, List.set_cons_zero, List.set_cons_succ]
        refine wpAnyH_take (i := 8) (oi := _) (v := .bool true) rfl (by kernel_rfl) (by kernel_rfl) (by kernel_rfl) (fun _ _ _ h => h) (Or.inl ⟨by kernel_rfl, ?_⟩) hHeld ?_
        · intro w hSw
          have kc0 := keepC hSw c0
          have kc1 := keepC hSw c1
          have kc2 := keepC hSw c2
          have kc3 := keepC hSw c3
          have kd0 := keepC hSw d0
          have kd1 := keepC hSw d1
          have kd2 := keepC hSw d2
          have kd3 := keepC hSw d3
          go_simp
          exact HNE.out
        try simp only [Act.put, List.getElem_toArray, List.getElem_cons_succ, List.getElem_cons_zero, List.setIfInBounds_toArray, List.set_cons_zero, List.set_cons_succ]
        refine wpAnyH_done (by kernel_rfl) ?_ _
        refine NoPanic.normal ?_
        replace hbb := keepB hbb hHeld
        go_wp2_with fail
        go_ret
        first
          | exact .inl ⟨rfl, by simpa using EB.out, hbb⟩
          | exact ⟨by first | rfl | simp, hbb⟩
          | exact ⟨EB.out, hbb⟩
          | exact ⟨_, rfl, EB.out, hbb⟩
    · obtain rfl : k = xs.length := by omega
      have EB := Lib.hid (show (true = true ↔ xs = ys) from ⟨fun _ => Pc.list_ext HLN.out HOK.out, fun _ => rfl⟩)
      clear HA HB HC HD HOK
      go_wp2_with fail
      go_ret
      first
        | exact .inr ⟨rfl, by simpa using EB.out, hbb⟩
        | exact ⟨by simpa using EB.out, hbb⟩
        | exact ⟨_, rfl, EB.out, hbb⟩
namespace Pc
/-- Make's piece, of spans that are valid. -/
theorem mk_good {Q : List (Rat × Rat)} (h : ∀ s ∈ Q, s.1 < s.2) (hf : ∀ r ∈ ends Q, Fit r) (hl : Q.length ≤ 60) : Good (pairs (jn Q)) ∧ (pairs (jn Q)).length ≤ Q.length ∧ ∀ p, inn (pairs (jn Q)) p = inn Q p := by
  obtain ⟨j1, j2, j3, j4, j5⟩ := jn_ok _ Q (Nat.le_refl _) h
  have he := ends_pairs _ _ (Nat.le_refl _) j4
  have hi : Inc (ends (pairs (jn Q))) := by rw [he]; exact j1
  have hn : (pairs (jn Q)).length ≤ Q.length := by rw [pairs_len _ _ (Nat.le_refl _)]; omega
  exact ⟨⟨hi, fun r hr => hf r (j2 r (he ▸ hr)), by omega⟩, hn, fun p => by rw [inn_par _ hi, he, j5]⟩
theorem span_raw {Q : List (Rat × Rat)} (h : ∀ s ∈ Q, s.1 < s.2) (hf : ∀ r ∈ ends Q, Fit r) : ∀ k, k < (Q.map raw).length → spanB (at_ (Q.map raw) k) = true := by
  intro k hk
  rw [List.length_map] at hk
  rw [at_map Q hk]
  have m := mem_ends1 hk
  show lessB (sat Q k).1.num ((sat Q k).1.den : Int) (sat Q k).2.num ((sat Q k).2.den : Int) = true
  rw [less_fit (hf _ m.1) (hf _ m.2)]
  refine decide_eq_true (h _ ?_)
  rw [sat_lt hk]
  exact List.getElem_mem hk
theorem mkS_val {Q : List (Rat × Rat)} (h : ∀ s ∈ Q, s.1 < s.2) (hf : ∀ r ∈ ends Q, Fit r) (hl : Q.length ≤ 60) : mkS (Q.map raw) = (pairs (jn Q), 0) := by
  have := (mkS_ok (xs := Q.map raw) (by rw [List.length_map]; omega) (span_raw h hf)).1
  rw [this, map_toQ_raw]
  obtain ⟨j1, j2, j3, j4, j5⟩ := jn_ok _ Q (Nat.le_refl _) h
  unfold ofE
  rw [if_neg (by omega)]
theorem good_spans {L : List (Rat × Rat)} (h : Good L) : ∀ s ∈ L, s.1 < s.2 := by
  intro s hs
  obtain ⟨k, hk, rfl⟩ := List.mem_iff_getElem.1 hs
  have e := ends_at hk
  have el := ends_len L
  rw [← sat_lt hk, ← e.1, ← e.2]
  exact inc_at h.inc (by omega) (by omega)
/-- Make's answer: an error, or the piece of valid spans. -/
theorem mkS_cases (xs : List Raw) : (mkS xs = ([], 4)) ∨ (mkS xs = ([], 8)) ∨ ∃ Q, xs = Q.map raw ∧ (∀ s ∈ Q, s.1 < s.2) ∧ (∀ r ∈ ends Q, Fit r) ∧ Q.length ≤ 60 ∧ mkS xs = (pairs (jn Q), 0) := by
  by_cases hm : 60 < xs.length
  · exact .inl (mkS_many hm)
  · by_cases hb : ∀ k, k < xs.length → spanB (at_ xs k) = true
    · obtain ⟨_, m2, m3, m4⟩ := mkS_ok hm hb
      refine .inr (.inr ⟨xs.map toQ, m2.symm, m3, m4, by rw [List.length_map]; omega, ?_⟩)
      have := mkS_val m3 m4 (by rw [List.length_map]; omega)
      rw [m2] at this
      exact this
    · obtain ⟨k, hk⟩ := Classical.not_forall.1 hb
      obtain ⟨hk1, hk2⟩ := Classical.not_imp.1 hk
      exact .inr (.inl (mkS_bad hm hk1 (by simpa using hk2)))
theorem inn_rev (L : List (Rat × Rat)) (p : Rat) : inn L.reverse p = inn L p := by unfold inn; rw [List.any_reverse]
theorem ends_rev {L : List (Rat × Rat)} {r : Rat} (h : r ∈ ends L.reverse) : r ∈ ends L := by
  have key : ∀ (M : List (Rat × Rat)), r ∈ ends M ↔ ∃ s ∈ M, r = s.1 ∨ r = s.2 := by
    intro M
    induction M with
    | nil => simp [ends]
    | cons s M ih => simp [ends, ih]; exact ⟨fun h => h.elim (fun h => .inl (.inl h)) (fun h => h.elim (fun h => .inl (.inr h)) .inr), fun h => h.elim (fun h => h.elim .inl (fun h => .inr (.inl h))) (fun h => .inr (.inr h))⟩
  rw [key] at h ⊢
  obtain ⟨s, hs, e⟩ := h
  exact ⟨s, List.mem_reverse.1 hs, e⟩
/-- Two pieces are the same if neither has a point of its own. -/
theorem diff_nil {A B : List (Rat × Rat)} (hA : Good A) (hB : Good B) (hl : A.length + B.length ≤ 60) : (opP (fun x y => x && !y) A B = [] ∧ opP (fun x y => x && !y) B A = []) ↔ A = B := by
  have h1 := opP_good (f := fun x y => x && !y) rfl hA hB hl
  have h2 := opP_good (f := fun x y => x && !y) rfl hB hA (by omega)
  constructor
  · rintro ⟨e1, e2⟩
    refine good_ext hA hB fun p => ?_
    have k1 := h1.2 p
    have k2 := h2.2 p
    rw [e1] at k1
    rw [e2] at k2
    have z : inn [] p = false := rfl
    rw [z] at k1 k2
    revert k1 k2
    generalize inn A p = x
    generalize inn B p = y
    cases x <;> cases y <;> simp
  · rintro rfl
    have : opP (fun x y => x && !y) A A = [] := good_ext h1.1 ⟨trivial, fun x hx => by simp [ends] at hx, by simp⟩ fun p => by
      rw [h1.2]
      show _ = false
      cases inn A p <;> rfl
    exact ⟨this, this⟩
end Pc
section
open Go.ChangeShapes Go.WideShapes Go.ChangeAt Go.Joins Go.Deep
variable {H : Type} {enc : TypeId × Value → H} {w : World} {base : Nat} {spare : Nat → Bool} {held : Bool}
set_option maxRecDepth 100000 in
theorem open_spans2 {r : Reach} {b0 : Nat} {v : Value} {d : DataW H} {p : List MemPlace} (hv : Value.okWide Try.prog w r b0 53 v) (h : DataW.Trod enc Try.prog w base spare held 53 v d p) :
    ∃ A cap xs, v = .slice A xs.length cap ∧ xs.length ≤ maxLen ∧ IsS w A xs ∧ xs.length ≤ cap := by
  obtain ⟨a, len, cap, rfl⟩ := okWide_slice Try.underlying53 hv
  obtain ⟨fuel, hf⟩ := h
  obtain ⟨A, len', cap', xs, hcs, hl, h1, h2, hx⟩ := open_quads Try.underlying53 Try.underlying51 Try.underlying30 (by kernel_rfl) cellsRatio ⟨rfl, rfl⟩ ⟨rfl, rfl⟩ ⟨rfl, rfl⟩ ⟨rfl, rfl⟩ Try.underlying2 (by kernel_rfl) hf
  simp [Value.cells] at hcs
  obtain ⟨rfl, rfl, rfl⟩ := hcs
  subst hl
  exact ⟨a, cap, xs, rfl, by omega, hx, h1⟩
end
end Go.Proofs.Ytomokdepndclpaa
