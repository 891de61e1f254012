/- The reference of layer 16: Valid, Great, Complete. -/
import Derived.Test.YtfpaefnaidppmaaGea
import Derived.Test.YtfpaefnaidppmaaGdx
namespace Go.Proofs.Ytfpaefnaidppmaa
open Go.RowKit
namespace As
theorem gout_yes {V : List (List Int)} {a : List Int} {k : Nat} (h0 : gchk V = 0) (hl : a.length = gm V) (hk : k < a.length) (h : gout V.length (el a k) = true) : gvld V a = 8 := by
  unfold gvld
  rw [if_neg (fun x => x h0), if_neg (fun x => x hl), if_pos (List.any_eq_true.2 ⟨el a k, by rw [el_lt hk]; exact List.getElem_mem hk, h⟩)]
theorem gout_no {V : List (List Int)} {a : List Int} (h0 : gchk V = 0) (hl : a.length = gm V) (h : ∀ k, k < a.length → gout V.length (el a k) = false) : gvld V a = 0 := by
  unfold gvld
  rw [if_neg (fun x => x h0), if_neg (fun x => x hl), if_neg]
  rw [Bool.not_eq_true, List.any_eq_false]
  intro x hx
  obtain ⟨k, hk, rfl⟩ := List.mem_iff_getElem.1 hx
  have := h k hk
  rw [el_lt hk] at this
  rw [this]; decide
theorem gvld_len {V : List (List Int)} {a : List Int} (h0 : gchk V = 0) (hl : ¬ a.length = gm V) : gvld V a = 8 := by
  unfold gvld
  rw [if_neg (fun x => x h0), if_pos hl]
/-- Does somebody get each good? -/
def cpl (a : List Int) : Bool := (List.range a.length).all (fun k => decide (0 ≤ el a k))
theorem cpl_yes {a : List Int} (h : ∀ k, k < a.length → decide (el a k < 0) = false) : cpl a = true := by
  unfold cpl
  rw [List.all_eq_true]
  intro k hk
  have := of_decide_eq_false (h k (List.mem_range.1 hk))
  exact decide_eq_true (by omega)
theorem cpl_no {a : List Int} {k : Nat} (hk : k < a.length) (h : decide (el a k < 0) = true) : cpl a = false := by
  unfold cpl
  rw [List.all_eq_false]
  have := of_decide_eq_true h
  exact ⟨k, List.mem_range.2 hk, by rw [decide_eq_true_eq]; omega⟩
theorem cpl_get {a : List Int} (h : cpl a = true) : ∀ k, k < a.length → 0 ≤ el a k := fun k hk => of_decide_eq_true (List.all_eq_true.1 h k (List.mem_range.2 hk))
end As
set_option maxRecDepth 100000 in
set_option maxHeartbeats 8000000 in
theorem rgValid_any (A : Option Addr) (cv : Nat) (V : List (List Int)) (B : Option Addr) (ca : Nat) (a : List Int) (w : World) (hl : V.length ≤ maxLen) (h : IsM w A V) (ha : a.length ≤ maxLen) (hB : IsI w B a) :
    Calls Try.prog 20 #[.agg #[.slice A V.length cv], .slice B a.length ca] w fun e w' => e = .returned (.int .i64 (As.gvld V a)) ∧ Below w.heap.size w w' := by
  have CK := Lib.hid (fun v (hv : Below w.heap.size w v) => rgCheck_any A cv V v hl (h.keep hv))
  rcases As.gchk_ne (V := V) with h0 | ⟨h1, h2⟩
  · have ok := As.gchk_ok h0
    have n1 := ok.n1
    have n6 := ok.n6
    obtain ⟨b, off, rfl, hrows⟩ := h (by omega)
    obtain ⟨R, c, hc, hrl, hI⟩ := hrows 0 (by omega)
    rw [Nat.add_zero] at hc
    have HC := Lib.hid hc
    have HM : (V.getD 0 []).length = As.gm V := rfl
    rw [HM] at HC
    have HA := Lib.hid hB
    have HLN := Lib.hid (fun (hq : ¬ a.length = As.gm V) => As.gvld_len h0 hq)
    have HGY := Lib.hid (fun (hq : a.length = As.gm V) k hk hh => @As.gout_yes V a k h0 hq hk hh)
    have HGN := Lib.hid (fun (hq : a.length = As.gm V) hh => @As.gout_no V a h0 hq hh)
    rw [h0] at CK
    generalize As.gvld V a = z at *
    unfold maxLen at hl ha
    have i2 : (0 : Int) < (V.length : Int) := by omega
    have i3 : 0 < V.length := by omega
    clear hrows hc hrl hI HM h0 ok hB h
    by_cases hq : a.length = As.gm V
    · have e1 : ((a.length : Int) != (As.gm V : Int)) = false := by rw [bne_eq_false_iff_eq]; omega
      have HY := Lib.hid (HGY.out hq)
      have HN := Lib.hid (HGN.out hq)
      clear HGY HGN HLN hq
      generalize As.gm V = gmv at *
      go_enter Try.func20, Try.ntmps20
      go_upto_region 1 with fail
      refine at_box1 (fun V0 hbb b0 hsz => ?_)
      clear hsz
      have c0 := b0.c 0 rfl
      go_wp2_with fail
      refine (CK.out _ hbb).mono ?_
      rintro e w1 ⟨rfl, hb1⟩
      replace hbb := keepB hbb hb1
      replace c0 := keepC hb1 c0
      have x0 := keepC hbb HC.out
      have HBB := Lib.hid hbb
      have C0 := Lib.hid c0
      clear hb1 b0 CK hbb
      go_wp2_with fail
      clear c0 x0
      go_loopw [5] (fun i W => ∃ k : Nat, k ≤ a.length ∧ i = .int .i64 k ∧ Hid (∀ j, j < k → As.gout V.length (As.el a j) = false) ∧ Hid (Below w1.heap.size w1 W)) (fun i _ => a.length - (intOf i).toNat)
      case atStart => exact ⟨0, Nat.zero_le _, rfl, Lib.hid (fun j hj => absurd hj (Nat.not_lt_zero _)), Lib.hid (Below.refl _ _)⟩
      case round =>
        obtain ⟨k, hk, rfl, HOK, HW⟩ := hrel
        by_cases hlt : k < a.length
        · obtain ⟨ab, ao, rfl, hcs⟩ := HA.out.1 (by omega)
          have HYK := Lib.hid (HY.out k hlt)
          have HK := Lib.hid (fun v (hv : Below w1.heap.size w1 v) => (show v.cell? ⟨w.heap.size, 0, none⟩ = some (.slice (some ⟨b, off, none⟩) V.length cv) ∧ v.cell? ⟨ab, ao + k, none⟩ = some (.int .i64 (As.el a k)) from ⟨keepC hv C0.out, keepC (keepB HBB.out hv) (hcs k hlt)⟩))
          have HOB := Lib.hid (show As.gout V.length (As.el a k) = (decide (As.el a k < -1) || decide ((V.length : Int) ≤ As.el a k)) from rfl)
          have i1 : (k : Int) < (a.length : Int) := by omega
          have hWW := HW.out
          clear hcs
          by_cases g1 : As.el a k < -1
          · have d1 : decide (As.el a k < -1) = true := decide_eq_true g1
            have EN := Lib.hid (HYK.out (by rw [HOB.out, d1]; rfl))
            clear HYK HOB
            generalize As.el a k = y at *
            obtain ⟨u0, u1⟩ := HK.out _ HW.out
            clear hWW
            go_upto_region 8 with fail
            refine wp_region_noPanic ?_
            refine wp_region_held_drew (S := (Below wr.heap.size wr)) (by kernel_rfl) ((Below.refl _ _).drew) (fun hHeld => ?_)
            refine at_anyH (Below wr.heap.size wr) hHeld (fun wa0 hNew => ?_)
            clear hHeld
            have hHeld := hNew
            clear hNew
            refine tkd 0 ?_
            try simp only [PPz]
            refine tkd 1 ?_
            try simp only [PPz]
            refine tkd 2 ?_
            try simp only [PPz]
            refine tkm 3 rfl hHeld (fun w hSw => by have ku0 := keepC hSw u0; have ku1 := keepC hSw u1; go_simp <;> with_reducible rfl) ?_
            try simp only [PPz]
            refine tkn 4 (.bool true) rfl ?_ hHeld ?_
            · intro w hSw; go_simp; first | done | (with_reducible rfl)
            try simp only [PPz]
            refine tkd 5 ?_
            try simp only [PPz]
            refine tkns 6 rfl hHeld ?_
            try simp only [PPz]
            refine tkns 7 rfl hHeld ?_
            try simp only [PPz]
            refine tkns 8 rfl hHeld ?_
            try simp only [PPz]
            refine tkns 9 rfl hHeld ?_
            try simp only [PPz]
            refine tkns 10 rfl hHeld ?_
            try simp only [PPz]
            refine tkns 11 rfl hHeld ?_
            try simp only [PPz]
            refine tkns 12 rfl hHeld ?_
            try simp only [PPz]
            refine tkns 13 rfl hHeld ?_
            try simp only [PPz]
            refine tkd 14 ?_
            try simp only [PPz]
            refine wpAnyH_done (by kernel_rfl) ?_ _
            refine NoPanic.normal ?_
            go_wp2_with fail
            go_ret
            exact ⟨by rw [EN.out]; rfl, keepB HBB.out (keepB HW.out hHeld)⟩
          · have d1 : decide (As.el a k < -1) = false := decide_eq_false g1
            by_cases g2 : (V.length : Int) ≤ As.el a k
            · have d2 : decide ((V.length : Int) ≤ As.el a k) = true := decide_eq_true g2
              have EN := Lib.hid (HYK.out (by rw [HOB.out, d1, d2]; rfl))
              clear HYK HOB
              generalize As.el a k = y at *
              obtain ⟨u0, u1⟩ := HK.out _ HW.out
              clear hWW
              go_upto_region 8 with fail
              refine wp_region_noPanic ?_
              refine wp_region_held_drew (S := (Below wr.heap.size wr)) (by kernel_rfl) ((Below.refl _ _).drew) (fun hHeld => ?_)
              refine at_anyH (Below wr.heap.size wr) hHeld (fun wb0 hNew => ?_)
              clear hHeld
              have hHeld := hNew
              clear hNew
              refine tkd 0 ?_
              try simp only [PPz]
              refine tkd 1 ?_
              try simp only [PPz]
              refine tkd 2 ?_
              try simp only [PPz]
              refine tkm 3 rfl hHeld (fun w hSw => by have ku0 := keepC hSw u0; have ku1 := keepC hSw u1; go_simp <;> with_reducible rfl) ?_
              try simp only [PPz]
              refine tkn 4 (.bool false) rfl ?_ hHeld ?_
              · intro w hSw; go_simp; first | done | (with_reducible rfl)
              try simp only [PPz]
              refine tkd 5 ?_
              try simp only [PPz]
              refine tkd 6 ?_
              try simp only [PPz]
              refine tkd 7 ?_
              try simp only [PPz]
              refine tkd 8 ?_
              try simp only [PPz]
              refine tkm 9 rfl hHeld (fun w hSw => by have ku0 := keepC hSw u0; have ku1 := keepC hSw u1; go_simp <;> with_reducible rfl) ?_
              try simp only [PPz]
              refine tkd 10 ?_
              try simp only [PPz]
              refine tkm 11 rfl hHeld (fun w hSw => by have ku0 := keepC hSw u0; have ku1 := keepC hSw u1; go_simp <;> with_reducible rfl) ?_
              try simp only [PPz]
              refine tkd 12 ?_
              try simp only [PPz]
              refine tkn 13 (.bool true) rfl ?_ hHeld ?_
              · intro w hSw; go_simp; first | done | (with_reducible rfl)
              try simp only [PPz]
              refine tkd 14 ?_
              try simp only [PPz]
              refine wpAnyH_done (by kernel_rfl) ?_ _
              refine NoPanic.normal ?_
              go_wp2_with fail
              go_ret
              exact ⟨by rw [EN.out]; rfl, keepB HBB.out (keepB HW.out hHeld)⟩
            · have d2 : decide ((V.length : Int) ≤ As.el a k) = false := decide_eq_false g2
              have EN := Lib.hid (show As.gout V.length (As.el a k) = false by rw [HOB.out, d1, d2]; rfl)
              clear HYK HOB
              generalize As.el a k = y at HK d1 d2 g1 g2
              obtain ⟨u0, u1⟩ := HK.out _ HW.out
              clear hWW
              go_upto_region 8 with fail
              refine wp_region_noPanic ?_
              refine wp_region_held_drew (S := (Below wr.heap.size wr)) (by kernel_rfl) ((Below.refl _ _).drew) (fun hHeld => ?_)
              refine at_anyH (Below wr.heap.size wr) hHeld (fun wc0 hNew => ?_)
              clear hHeld
              have hHeld := hNew
              clear hNew
              refine tkd 0 ?_
              try simp only [PPz]
              refine tkd 1 ?_
              try simp only [PPz]
              refine tkd 2 ?_
              try simp only [PPz]
              refine tkm 3 rfl hHeld (fun w hSw => by have ku0 := keepC hSw u0; have ku1 := keepC hSw u1; go_simp <;> with_reducible rfl) ?_
              try simp only [PPz]
              refine tkn 4 (.bool false) rfl ?_ hHeld ?_
              · intro w hSw; go_simp; first | done | (with_reducible rfl)
              try simp only [PPz]
              refine tkd 5 ?_
              try simp only [PPz]
              refine tkd 6 ?_
              try simp only [PPz]
              refine tkd 7 ?_
              try simp only [PPz]
              refine tkd 8 ?_
              try simp only [PPz]
              refine tkm 9 rfl hHeld (fun w hSw => by have ku0 := keepC hSw u0; have ku1 := keepC hSw u1; go_simp <;> with_reducible rfl) ?_
              try simp only [PPz]
              refine tkd 10 ?_
              try simp only [PPz]
              refine tkm 11 rfl hHeld (fun w hSw => by have ku0 := keepC hSw u0; have ku1 := keepC hSw u1; go_simp <;> with_reducible rfl) ?_
              try simp only [PPz]
              refine tkd 12 ?_
              try simp only [PPz]
              refine tkn 13 (.bool false) rfl ?_ hHeld ?_
              · intro w hSw; go_simp; first | done | (with_reducible rfl)
              try simp only [PPz]
              refine tkd 14 ?_
              try simp only [PPz]
              refine wpAnyH_done (by kernel_rfl) ?_ _
              refine NoPanic.normal ?_
              go_wp2_with fail
              go_roundw
              case rel => exact ⟨k + 1, by omega, by go_num, Lib.hid (fun j hj => (Nat.lt_succ_iff_lt_or_eq.1 hj).elim (HOK.out j) (fun e => e ▸ EN.out)), Lib.hid (keepB HW.out hHeld)⟩
              case measure => simp [intOf]; omega
        · obtain rfl : k = a.length := by omega
          have EN := Lib.hid (HN.out HOK.out)
          go_wp2_with fail
          go_ret
          exact ⟨by rw [EN.out]; rfl, keepB HBB.out HW.out⟩
    · have e1 : ((a.length : Int) != (As.gm V : Int)) = true := by rw [bne_iff_ne]; omega
      rw [HLN.out hq]
      clear HGY HGN HLN hq
      generalize As.gm V = gmv at *
      go_enter Try.func20, Try.ntmps20
      go_upto_region 1 with fail
      refine at_box1 (fun V0 hbb b0 hsz => ?_)
      clear hsz
      have c0 := b0.c 0 rfl
      go_wp2_with fail
      refine (CK.out _ hbb).mono ?_
      rintro e w1 ⟨rfl, hb1⟩
      replace hbb := keepB hbb hb1
      replace c0 := keepC hb1 c0
      have x0 := keepC hbb HC.out
      clear hb1 b0 CK
      go_wp2_with fail
      go_ret
      exact ⟨rfl, hbb⟩
  · rw [As.gvld_no h2]
    generalize As.gchk V = c at *
    clear h2 h hB hl ha
    go_enter Try.func20, Try.ntmps20
    go_upto_region 1 with fail
    refine at_box1 (fun V0 hbb b0 hsz => ?_)
    clear hsz
    have c0 := b0.c 0 rfl
    go_wp2_with fail
    refine (CK.out _ hbb).mono ?_
    rintro e w1 ⟨rfl, hb1⟩
    replace hbb := keepB hbb hb1
    replace c0 := keepC hb1 c0
    clear hb1 b0
    go_wp2_with fail
    refine (CK.out _ hbb).mono ?_
    rintro e w2 ⟨rfl, hb2⟩
    replace hbb := keepB hbb hb2
    clear hb2 c0
    go_wp2_with fail
    go_ret
    exact ⟨rfl, hbb⟩
/-- What Great gives. -/
def GrGQ (w : World) (V : List (List Int)) (na : Nat) (e : Ending) (w' : World) : Prop := ∃ z, e = .returned (.bool z) ∧ (z = false → V.length ≤ 20 ∧ (∀ i, i < V.length → (V.getD i []).length ≤ 50) ∧ na ≤ 50) ∧ Below w.heap.size w w'
theorem GrGQ.yes {w w' : World} {V : List (List Int)} {na : Nat} (h : Below w.heap.size w w') : GrGQ w V na (.returned (.bool true)) w' := ⟨true, rfl, fun h => (by cases h), h⟩
set_option linter.unusedSimpArgs false in
set_option maxRecDepth 100000 in
set_option maxHeartbeats 2000000 in
theorem rgGreat_any (A : Option Addr) (cap : Nat) (V : List (List Int)) (B : Option Addr) (ca na : Nat) (w : World) (hl : V.length ≤ maxLen) (h : IsM w A V) (hn : na ≤ maxLen) :
    Calls Try.prog 9 #[.agg #[.slice A V.length cap], .slice B na ca] w (GrGQ w V na) := by
  have HC := Lib.hid h
  clear h
  unfold maxLen at hl hn
  go_enter Try.func9, Try.ntmps9
  go_upto_region 1 with fail
  refine at_box1 (fun V0 hbb b0 hsz => ?_)
  clear hsz
  have c0 := b0.c 0 rfl
  have HBB := Lib.hid hbb
  clear hbb b0
  go_wp2_with fail
  go_loop [5] (fun i => ∃ k : Nat, k ≤ V.length ∧ k ≤ 20 ∧ i = .int .i64 k ∧ Hid (∀ j, j < k → (V.getD j []).length ≤ 50)) (fun i => V.length - (intOf i).toNat)
  case atStart => exact ⟨0, Nat.zero_le _, by omega, rfl, Lib.hid (fun j hj => absurd hj (Nat.not_lt_zero _))⟩
  case round =>
    obtain ⟨k, hk, hk2, rfl, HOK⟩ := hrel
    by_cases hlt : k < V.length
    · have d1 : decide (k < V.length) = true := decide_eq_true hlt
      by_cases h20 : k < 20
      · have d2 : decide ((k : Int) < 20) = true := by rw [decide_eq_true_eq]; omega
        obtain ⟨b, off, rfl, hrows⟩ := HC.out (by omega)
        obtain ⟨R, c, hc0, hrl, hI⟩ := hrows k hlt
        have hc := keepC HBB.out hc0
        clear hrows hI hc0
        unfold maxLen at hrl
        by_cases hq : 50 < (V.getD k []).length
        · generalize (V.getD k []).length = q at *
          go_wp2_with fail
          go_ret
          exact GrGQ.yes HBB.out
        · have HQ := Lib.hid hq
          generalize hz : (V.getD k []).length = q at hc hq hrl
          have HZ := Lib.hid hz
          clear hz
          go_wp2_with fail
          go_round
          case rel => exact ⟨k + 1, by omega, by omega, by go_num, Lib.hid (fun j hj => (Nat.lt_succ_iff_lt_or_eq.1 hj).elim (HOK.out j) (fun e => by subst e; have := HQ.out; omega))⟩
          case measure => simp [intOf]; omega
      · obtain rfl : k = 20 := by omega
        have d2 : decide ((20 : Int) < 20) = false := rfl
        have d4 : decide ((20 : Int) < (V.length : Int)) = true := by rw [decide_eq_true_eq]; omega
        go_wp2_with fail
        go_ret
        exact GrGQ.yes HBB.out
    · obtain rfl : k = V.length := by omega
      have d1 : decide (V.length < V.length) = false := by simp
      have d4 : decide ((20 : Int) < (V.length : Int)) = false := by rw [decide_eq_false_iff_not]; omega
      by_cases h5 : 50 < na
      · have d5 : decide ((50 : Int) < (na : Int)) = true := by rw [decide_eq_true_eq]; omega
        go_wp2_with fail
        go_ret
        exact GrGQ.yes HBB.out
      · have d5 : decide ((50 : Int) < (na : Int)) = false := by rw [decide_eq_false_iff_not]; omega
        have HF := Lib.hid (show GrGQ w V na (.returned (.bool false)) V0 from ⟨false, rfl, fun _ => ⟨hk2, HOK.out, by omega⟩, HBB.out⟩)
        go_wp2_with fail
        go_ret
        exact HF.out
set_option maxRecDepth 100000 in
set_option maxHeartbeats 2000000 in
theorem rgComplete_any (A : Option Addr) (cap : Nat) (a : List Int) (w : World) (hl : a.length ≤ maxLen) (h : IsI w A a) :
    Calls Try.prog 31 #[.slice A a.length cap] w fun e w' => e = .returned (.bool (As.cpl a)) ∧ Below w.heap.size w w' := by
  have HC := Lib.hid h
  clear h
  unfold maxLen at hl
  have HNO := Lib.hid (fun k hk hh => @As.cpl_no a k hk hh)
  have HYES := Lib.hid (fun hh => @As.cpl_yes a hh)
  generalize As.cpl a = z at *
  go_enter Try.func31, Try.ntmps31
  go_wp2_with fail
  go_loop [3] (fun i => ∃ k : Nat, k ≤ a.length ∧ i = .int .i64 k ∧ Hid (∀ j, j < k → decide (As.el a j < 0) = false)) (fun i => a.length - (intOf i).toNat)
  case atStart => exact ⟨0, Nat.zero_le _, rfl, Lib.hid (fun j hj => absurd hj (Nat.not_lt_zero _))⟩
  case round =>
    obtain ⟨k, hk, rfl, HOK⟩ := hrel
    by_cases hlt : k < a.length
    · obtain ⟨b, off, rfl, hcs⟩ := HC.out.1 (by omega)
      have c0 := hcs k hlt
      have HNK := Lib.hid (HNO.out k hlt)
      clear hcs HNO HYES
      by_cases g : As.el a k < 0
      · have d1 : decide (As.el a k < 0) = true := decide_eq_true g
        have EN := Lib.hid (HNK.out d1)
        clear HNK
        generalize As.el a k = y at *
        go_wp2_with fail
        go_ret
        exact ⟨by rw [EN.out]; rfl, Below.refl _ _⟩
      · have d1 : decide (As.el a k < 0) = false := decide_eq_false g
        have EN := Lib.hid d1
        clear HNK
        generalize As.el a k = y at c0 d1 g
        go_wp2_with fail
        go_round
        case rel => exact ⟨k + 1, by omega, by go_num, Lib.hid (fun j hj => (Nat.lt_succ_iff_lt_or_eq.1 hj).elim (HOK.out j) (fun e => e ▸ EN.out))⟩
        case measure => simp [intOf]; omega
    · obtain rfl : k = a.length := by omega
      have EN := Lib.hid (HYES.out HOK.out)
      go_wp2_with fail
      go_ret
      exact ⟨by rw [EN.out]; rfl, Below.refl _ _⟩
end Go.Proofs.Ytfpaefnaidppmaa
