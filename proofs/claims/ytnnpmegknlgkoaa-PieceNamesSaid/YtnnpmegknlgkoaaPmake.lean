/- Package piece's joined and Make. -/
import Derived.Test.YtnnpmegknlgkoaaPset
import Derived.Test.YtnnpmegknlgkoaaAlgm
namespace Go.Proofs.Ytnnpmegknlgkoaa
open Go.RowKit
namespace Pc
/-- The ends of the points of some spans. -/
def jn (L : List (Rat × Rat)) : List Rat :=
  if L.length < 2 then ends L else swp (fun x y => x || y) (jn (L.take (L.length / 2))) (jn (L.drop (L.length / 2))) false false false
termination_by L.length
decreasing_by
  · rw [List.length_take]; omega
  · rw [List.length_drop]; omega
theorem jn_small {L : List (Rat × Rat)} (h : L.length < 2) : jn L = ends L := by rw [jn, if_pos h]
theorem jn_big {L : List (Rat × Rat)} (h : ¬ L.length < 2) : jn L = swp (fun x y => x || y) (jn (L.take (L.length / 2))) (jn (L.drop (L.length / 2))) false false false := by rw [jn, if_neg h]
theorem any_append {L M : List (Rat × Rat)} (p : Rat) : inn (L ++ M) p = (inn L p || inn M p) := by unfold inn; rw [List.any_append]
theorem swp_mem {f : Bool → Bool → Bool} {a b : List Rat} (ha : Inc a) (hb : Inc b) {x y k : Bool} {r : Rat} (h : r ∈ swp f a b x y k) : r ∈ a ∨ r ∈ b := by
  rw [swp_chg f _ _ _ (Nat.le_refl _) ha hb] at h
  exact (mem_mrg _ _ _ (Nat.le_refl _) r).1 (chg_mem h)
theorem swp_len {f : Bool → Bool → Bool} {a b : List Rat} (ha : Inc a) (hb : Inc b) {x y k : Bool} : (swp f a b x y k).length ≤ a.length + b.length := by
  rw [swp_chg f _ _ _ (Nat.le_refl _) ha hb]
  exact Nat.le_trans chg_len (mrg_len _ _ _ (Nat.le_refl _))
/-- The ends of some spans: in order, each of a span, by twos; and which points they have. -/
theorem jn_ok : ∀ (n : Nat) (L : List (Rat × Rat)), L.length ≤ n → (∀ s ∈ L, s.1 < s.2) → Inc (jn L) ∧ (∀ r ∈ jn L, r ∈ ends L) ∧ (jn L).length ≤ 2 * L.length ∧ (jn L).length % 2 = 0 ∧ ∀ p, par (jn L) false p = inn L p := by
  intro n
  induction n with
  | zero => intro L h _; have : L = [] := List.eq_nil_of_length_eq_zero (by omega); subst this; rw [jn_small (by simp)]; exact ⟨trivial, fun _ h => h, by simp [ends], rfl, fun p => rfl⟩
  | succ n ih =>
    intro L h hs
    by_cases h2 : L.length < 2
    · rw [jn_small h2]
      have hi : Inc (ends L) := by
        match L, h2, hs with
        | [], _, _ => exact trivial
        | [s], _, hs => exact ⟨fun q hq => by have h1 := hs s (by simp); simp [ends] at hq; subst hq; exact h1, fun q hq => by simp [ends] at hq, trivial⟩
      exact ⟨hi, fun _ h => h, by rw [ends_len]; omega, ends_even L, fun p => (inn_par L hi p).symm⟩
    · rw [jn_big h2]
      have e := List.take_append_drop (L.length / 2) L
      obtain ⟨a1, a2, a3, a4, a5⟩ := ih (L.take (L.length / 2)) (by rw [List.length_take]; omega) (fun s hm => hs s (List.mem_of_mem_take hm))
      obtain ⟨b1, b2, b3, b4, b5⟩ := ih (L.drop (L.length / 2)) (by rw [List.length_drop]; omega) (fun s hm => hs s (List.mem_of_mem_drop hm))
      refine ⟨inc_swp _ a1 b1 _ _ _, fun r hr => ?_, ?_, even_swp _ rfl a1 b1 a4 b4, fun p => ?_⟩
      · have hm : r ∈ ends (L.take (L.length / 2) ++ L.drop (L.length / 2)) := by
          rw [ends_app, List.mem_append]
          exact (swp_mem a1 b1 hr).imp (a2 r) (b2 r)
        rw [e] at hm
        exact hm
      · have := swp_len (f := fun x y => x || y) a1 b1 (x := false) (y := false) (k := false)
        rw [List.length_take] at a3
        rw [List.length_drop] at b3
        omega
      · have := par_swp (fun x y => x || y) _ _ _ (Nat.le_refl _) a1 b1 false false p
        simp only [Bool.or_false] at this
        rw [this, a5, b5, ← any_append, e]
end Pc
theorem IsS.take_ {w : World} {A : Option Addr} {L : List (Rat × Rat)} (h : IsS w A (L.map Pc.raw)) (k : Nat) : IsS w A ((L.take k).map Pc.raw) := by
  refine ⟨fun h0 => ?_, fun z hz => ?_, ?_⟩
  · rw [List.length_map, List.length_take] at h0
    obtain ⟨b, off, e, hc⟩ := h.1 (by rw [List.length_map]; omega)
    refine ⟨b, off, e, fun i hi => ?_⟩
    rw [List.length_map, List.length_take] at hi
    have := hc i (by rw [List.length_map]; omega)
    have hat : Pc.at_ ((L.take k).map Pc.raw) i = Pc.at_ (L.map Pc.raw) i := by
      rw [Pc.at_map _ (by rw [List.length_take]; omega), Pc.at_map _ (by omega)]
      unfold Pc.sat
      rw [List.getD_eq_getElem?_getD, List.getElem?_take, if_pos (by omega), List.getD_eq_getElem?_getD]
    rw [hat]
    exact this
  · obtain ⟨s, hs, rfl⟩ := List.mem_map.1 hz
    exact h.2.1 _ (List.mem_map.2 ⟨s, List.mem_of_mem_take hs, rfl⟩)
  · have := h.2.2
    rw [List.length_map] at this ⊢
    rw [List.length_take]
    omega
theorem IsS.drop_ {w : World} {b off : Nat} {L : List (Rat × Rat)} (h : IsS w (some ⟨b, off, none⟩) (L.map Pc.raw)) (k : Nat) : IsS w (some ⟨b, off + k * 4, none⟩) ((L.drop k).map Pc.raw) := by
  refine ⟨fun h0 => ?_, fun z hz => ?_, ?_⟩
  · rw [List.length_map, List.length_drop] at h0
    obtain ⟨b', off', e, hc⟩ := h.1 (by rw [List.length_map]; omega)
    simp only [Option.some.injEq, Addr.mk.injEq, and_true] at e
    obtain ⟨rfl, rfl⟩ := e
    refine ⟨_, _, rfl, fun i hi => ?_⟩
    rw [List.length_map, List.length_drop] at hi
    have := hc (k + i) (by rw [List.length_map]; omega)
    have hat : Pc.at_ ((L.drop k).map Pc.raw) i = Pc.at_ (L.map Pc.raw) (k + i) := by
      rw [Pc.at_map _ (by rw [List.length_drop]; omega), Pc.at_map _ (by omega)]
      unfold Pc.sat
      rw [List.getD_eq_getElem?_getD, List.getElem?_drop, List.getD_eq_getElem?_getD]
    rw [hat, show off + k * 4 + i * 4 = off + (k + i) * 4 by omega]
    exact this
  · obtain ⟨s, hs, rfl⟩ := List.mem_map.1 hz
    exact h.2.1 _ (List.mem_map.2 ⟨s, List.mem_of_mem_drop hs, rfl⟩)
  · have := h.2.2
    rw [List.length_map] at this ⊢
    rw [List.length_drop]
    omega
set_option linter.unusedSimpArgs false in
set_option maxHeartbeats 8000000 in
set_option maxRecDepth 100000 in
theorem pjoined_any : ∀ (n : Nat) (L : List (Rat × Rat)) (A : Option Addr) (cap : Nat) (w : World), L.length ≤ n → L.length ≤ 60 → L.length ≤ cap → (∀ s ∈ L, s.1 < s.2) → (∀ r ∈ Pc.ends L, Pc.Fit r) → IsS w A (L.map Pc.raw) →
    Calls Try.prog 56 #[.slice A L.length cap] w fun e w' => ∃ v, e = .returned v ∧ Acc w w.heap.size 23 2 v (Pc.jn L).length (Pc.cells2 (Pc.jn L)) w' := by
  intro n
  induction n with
  | zero =>
    intro L A cap w h0 h60 hcap hs hf h
    have e0 : L = [] := List.eq_nil_of_length_eq_zero (by omega)
    have EN := Lib.hid (fun v (hv : Below w.heap.size w v) => endsOf_any A cap L v h60 (h.keep hv))
    have hj := Pc.jn_small (L := L) (by omega)
    rw [hj]
    have g0 : decide ((L.length : Int) < 2) = true := decide_eq_true (by omega)
    generalize Pc.ends L = E at *
    clear h hs hf hj h0 e0
    go_enter Try.func56, Try.ntmps56
    go_wp2_with fail
    refine (EN.out _ (Below.refl _ _)).mono ?_
    rintro e w1 ⟨v1, rfl, hv1⟩
    go_wp2_with fail
    go_ret
    exact ⟨_, rfl, hv1⟩
  | succ n ih =>
    intro L A cap w h0 h60 hcap hs hf h
    by_cases h2 : L.length < 2
    · have EN := Lib.hid (fun v (hv : Below w.heap.size w v) => endsOf_any A cap L v h60 (h.keep hv))
      have hj := Pc.jn_small h2
      rw [hj]
      have g0 : decide ((L.length : Int) < 2) = true := decide_eq_true (by omega)
      generalize Pc.ends L = E at *
      clear h hs hf hj h2 h0 ih
      go_enter Try.func56, Try.ntmps56
      go_wp2_with fail
      refine (EN.out _ (Below.refl _ _)).mono ?_
      rintro e w1 ⟨v1, rfl, hv1⟩
      go_wp2_with fail
      go_ret
      exact ⟨_, rfl, hv1⟩
    · rw [Pc.jn_big h2]
      obtain ⟨b, off, rfl, _⟩ := h.1 (by rw [List.length_map]; omega)
      have g0 : decide ((L.length : Int) < 2) = false := decide_eq_false (by omega)
      have hd : (L.length : Int).tdiv 2 = ((L.length / 2 : Nat) : Int) := by rw [Int.tdiv_eq_ediv_of_nonneg (by omega)]; omega
      obtain ⟨m, hm⟩ : ∃ m, L.length / 2 = m := ⟨_, rfl⟩
      rw [hm] at hd ⊢
      have hm1 : m < L.length ∧ 1 ≤ m ∧ m ≤ 30 := by omega
      have lt1 : (L.take m).length = m := by rw [List.length_take]; omega
      have lt2 : (L.drop m).length = L.length - m := List.length_drop
      have s1 : ∀ s ∈ L.take m, s.1 < s.2 := fun s hx => hs s (List.mem_of_mem_take hx)
      have s2 : ∀ s ∈ L.drop m, s.1 < s.2 := fun s hx => hs s (List.mem_of_mem_drop hx)
      have eL := List.take_append_drop m L
      have f1 : ∀ r ∈ Pc.ends (L.take m), Pc.Fit r := fun r hx => hf r (by rw [← eL, Pc.ends_app, List.mem_append]; exact .inl hx)
      have f2 : ∀ r ∈ Pc.ends (L.drop m), Pc.Fit r := fun r hx => hf r (by rw [← eL, Pc.ends_app, List.mem_append]; exact .inr hx)
      have k1 := Pc.jn_ok _ _ (Nat.le_refl _) s1
      have k2 := Pc.jn_ok _ _ (Nat.le_refl _) s2
      have j1 := fun v (hv : Below w.heap.size w v) => ih (L.take m) (some ⟨b, off, none⟩) cap v (by omega) (by omega) (by omega) s1 f1 ((h.keep hv).take_ m)
      have j2 := fun v (hv : Below w.heap.size w v) => ih (L.drop m) (some ⟨b, off + m * 4, none⟩) (cap - m) v (by omega) (by omega) (by omega) s2 f2 ((h.keep hv).drop_ m)
      rw [lt1] at j1
      rw [lt2] at j2
      have SW := Lib.hid (fun A' B' ca' cb' v h1 h2 h3 h4 => sweep_any A' B' ca' cb' (Pc.jn (L.take m)) (Pc.jn (L.drop m)) 45 (fun x y => x || y) v peither_any (fun x y v => by go_simp) h1 h2 (fun r hr => f1 r (k1.2.1 r hr)) (fun r hr => f2 r (k2.2.1 r hr)) (by have := k1.2.2.1; have := k2.2.2.1; omega) h3 h4)
      generalize Pc.jn (L.take m) = E1 at *
      generalize Pc.jn (L.drop m) = E2 at *
      generalize Pc.swp (fun x y => x || y) E1 E2 false false false = E3 at *
      have i1 : (0 : Int) ≤ (m : Int) := by omega
      have i2 : (m : Int) ≤ (L.length : Int) := by omega
      have i3 : m ≤ L.length := by omega
      have i4 : m ≤ cap := by omega
      have i5 : ¬ cap - m = 0 := by omega
      have i6 : L.length ≤ cap := hcap
      have i7 : ¬ cap ≤ m := by omega
      have i8 : (m : Int).toNat = m := by omega
      have JJ1 := Lib.hid j1
      have JJ2 := Lib.hid j2
      clear h hs hf h2 h0 ih hm lt1 lt2 s1 s2 eL f1 f2 k1 k2 j1 j2
      go_enter Try.func56, Try.ntmps56
      go_upto_region 4 with fail
      refine at_worldQ (fun u => Below w.heap.size w u) (Below.refl _ _) (fun V hS => ?_)
      have hVV := hS
      clear hS
      have J1 := Lib.hid (fun v (hv : Below V.heap.size V v) => JJ1.out v (keepB hVV hv))
      have J2 := Lib.hid (fun v (hv : Below V.heap.size V v) => JJ2.out v (keepB hVV hv))
      clear JJ1 JJ2
      refine wp_region_noPanic ?_
      refine wp_region_held_drew (S := (Below V.heap.size V)) (by kernel_rfl) ((Below.refl _ _).drew) (fun hHeld => ?_)
      refine at_anyH (fun u => Below V.heap.size V u) hHeld (fun W0 hNew => ?_)
      clear hHeld
      have hHeld := hNew
      clear hNew
      refine wpAnyH_take (i := 0) (oi := _) (v := ?vj1) rfl (by kernel_rfl) (by kernel_rfl) (by kernel_rfl) (fun _ _ _ h => h) (Or.inl ⟨by kernel_rfl, ?hyj1⟩) hHeld ?restj1
      case hyj1 => (intro w hSw; go_simp; first | done | (with_reducible rfl))
      try simp only [Act.put, List.getElem_toArray, List.getElem_cons_succ, List.getElem_cons_zero, List.setIfInBounds_toArray, List.set_cons_zero, List.set_cons_succ]
      refine wpAnyH_take (i := 1) (oi := _) (v := ?vj2) rfl (by kernel_rfl) (by kernel_rfl) (by kernel_rfl) (fun _ _ _ h => h) (Or.inl ⟨by kernel_rfl, ?hyj2⟩) hHeld ?restj2
      case hyj2 => (intro w hSw; go_simp; first | done | (with_reducible rfl))
      try simp only [Act.put, List.getElem_toArray, List.getElem_cons_succ, List.getElem_cons_zero, List.setIfInBounds_toArray, List.set_cons_zero, List.set_cons_succ]
      refine wpAnyH_take (i := 2) (oi := _) (v := ?vj3) rfl (by kernel_rfl) (by kernel_rfl) (by kernel_rfl) (fun _ _ _ h => h) (Or.inl ⟨by kernel_rfl, ?hyj3⟩) hHeld ?restj3
      case hyj3 => (intro w hSw; go_simp; first | done | (with_reducible rfl))
      try simp only [Act.put, List.getElem_toArray, List.getElem_cons_succ, List.getElem_cons_zero, List.setIfInBounds_toArray, List.set_cons_zero, List.set_cons_succ]
      refine wpAnyH_take (i := 4) (oi := _) (v := ?vj4) rfl (by kernel_rfl) (by kernel_rfl) (by kernel_rfl) (fun _ _ _ h => h) (Or.inl ⟨by kernel_rfl, ?hyj4⟩) hHeld ?restj4
      case hyj4 => (intro w hSw; go_simp; first | done | (with_reducible rfl))
      try simp only [Act.put, List.getElem_toArray, List.getElem_cons_succ, List.getElem_cons_zero, List.setIfInBounds_toArray, List.set_cons_zero, List.set_cons_succ]
      refine wpAnyH_take (i := 5) (oi := _) (v := ?vj5) rfl (by kernel_rfl) (by kernel_rfl) (by kernel_rfl) (fun _ _ _ h => h) (Or.inl ⟨by kernel_rfl, ?hyj5⟩) hHeld ?restj5
      case hyj5 => (intro w hSw; go_simp; first | done | (with_reducible rfl))
      try simp only [Act.put, List.getElem_toArray, List.getElem_cons_succ, List.getElem_cons_zero, List.setIfInBounds_toArray, List.set_cons_zero, List.set_cons_succ]
      refine wpAnyH_take (i := 6) (oi := _) (v := ?vj6) rfl (by kernel_rfl) (by kernel_rfl) (by kernel_rfl) (fun _ _ _ h => h) (Or.inl ⟨by kernel_rfl, ?hyj6⟩) hHeld ?restj6
      case hyj6 => (intro w hSw; go_simp; first | done | (with_reducible rfl))
      try simp only [Act.put, List.getElem_toArray, List.getElem_cons_succ, List.getElem_cons_zero, List.setIfInBounds_toArray, List.set_cons_zero, List.set_cons_succ]
      refine wpAnyH_ready (rs := [3]) (by kernel_rfl) (by simp) (AllReadyH.cons (o := _) rfl (fun K hK => ?_) AllReadyH.nil)
      go_simp
      refine (J1.out _ hHeld).mono ?_
      rintro e W6x3 ⟨v1, rfl, hv1⟩
      obtain ⟨A1, c1, rfl, hc1⟩ := row_cap hv1.row
      have q1 := isQ_row hv1.row rfl
      have hb3 := hv1.bb
      clear hv1
      go_wp2_with fail
      refine hK.out _ _ (keepB hHeld hb3) (fun hNew => ?_)
      clear hb3 hHeld hK K
      have hHeld := hNew
      clear hNew
      try simp only [Act.put, List.getElem_toArray, List.getElem_cons_succ, List.getElem_cons_zero, List.setIfInBounds_toArray, List.set_cons_zero, List.set_cons_succ]
      refine wpAnyH_ready (rs := [7]) (by kernel_rfl) (by simp) (AllReadyH.cons (o := _) rfl (fun K hK => ?_) AllReadyH.nil)
      go_simp
      refine (J2.out _ hHeld).mono ?_
      rintro e W7x7 ⟨v2, rfl, hv2⟩
      obtain ⟨A2, c2, rfl, hc2⟩ := row_cap hv2.row
      have q2 := isQ_row hv2.row rfl
      have hb3 := hv2.bb
      clear hv2
      replace q1 := q1.keep hb3
      go_wp2_with fail
      refine hK.out _ _ (keepB hHeld hb3) (fun hNew => ?_)
      clear hb3 hHeld hK K
      have hHeld := hNew
      clear hNew
      try simp only [Act.put, List.getElem_toArray, List.getElem_cons_succ, List.getElem_cons_zero, List.setIfInBounds_toArray, List.set_cons_zero, List.set_cons_succ]
      refine wpAnyH_ready (rs := [8]) (by kernel_rfl) (by simp) (AllReadyH.cons (o := _) rfl (fun K hK => ?_) AllReadyH.nil)
      go_simp
      refine (SW.out _ _ _ _ _ q1 q2 hc1 hc2).mono ?_
      rintro e W8x8 ⟨v3, rfl, hv3⟩
      have hr := Acc.rebase0 (keepB hVV hHeld) hv3
      have hb3 := hv3.bb
      clear hv3
      go_wp2_with fail
      refine hK.out _ _ (keepB hHeld hb3) (fun hNew => ?_)
      clear hb3 hHeld hK K
      have hHeld := hNew
      clear hNew
      try simp only [Act.put, List.getElem_toArray, List.getElem_cons_succ, List.getElem_cons_zero, List.setIfInBounds_toArray, List.set_cons_zero, List.set_cons_succ]
      refine wpAnyH_take (i := 9) (oi := _) (v := ?vj10) rfl (by kernel_rfl) (by kernel_rfl) (by kernel_rfl) (fun _ _ _ h => h) (Or.inl ⟨by kernel_rfl, ?hyj10⟩) hHeld ?restj10
      case hyj10 => (intro w hSw; go_simp; first | done | (with_reducible rfl))
      try simp only [Act.put, List.getElem_toArray, List.getElem_cons_succ, List.getElem_cons_zero, List.setIfInBounds_toArray, List.set_cons_zero, List.set_cons_succ]
      refine wpAnyH_done (by kernel_rfl) ?_ _
      refine NoPanic.normal ?_
      go_wp2_with fail
      go_ret
      exact ⟨_, rfl, hr⟩
namespace Pc
/-- Make's piece and error. -/
def mkS (xs : List Raw) : List (Rat × Rat) × Int := if 60 < xs.length then ([], 4) else if xs.all spanB then ofE (jn (xs.map toQ)) else ([], 8)
theorem mkS_many {xs : List Raw} (h : 60 < xs.length) : mkS xs = ([], 4) := by unfold mkS; rw [if_pos h]
theorem mkS_bad {xs : List Raw} {k : Nat} (h : ¬ 60 < xs.length) (hk : k < xs.length) (hb : spanB (at_ xs k) = false) : mkS xs = ([], 8) := by
  unfold mkS
  rw [if_neg h, if_neg]
  intro ha
  rw [List.all_eq_true] at ha
  rw [at_lt hk] at hb
  rw [ha _ (List.getElem_mem hk)] at hb
  cases hb
theorem mkS_ok {xs : List Raw} (h : ¬ 60 < xs.length) (hb : ∀ k, k < xs.length → spanB (at_ xs k) = true) : mkS xs = ofE (jn (xs.map toQ)) ∧ (xs.map toQ).map raw = xs ∧ (∀ s ∈ xs.map toQ, s.1 < s.2) ∧ ∀ r ∈ ends (xs.map toQ), Fit r := by
  have ha : ∀ s ∈ xs, spanB s = true := fun s hs => by
    obtain ⟨k, hk, rfl⟩ := List.mem_iff_getElem.1 hs
    have := hb k hk
    rw [at_lt hk] at this
    exact this
  refine ⟨?_, ?_, ?_, ?_⟩
  · unfold mkS
    rw [if_neg h, if_pos (by rw [List.all_eq_true]; exact ha)]
  · rw [List.map_map]
    conv => rhs; rw [← List.map_id xs]
    refine List.map_congr_left fun s hs => ?_
    exact raw_toQ (ha s hs)
  · intro s hs
    obtain ⟨t, ht, rfl⟩ := List.mem_map.1 hs
    exact (of_decide_eq_true (ha t ht)).2.2
  · intro r hr
    obtain ⟨k, hk, e⟩ := List.mem_iff_getElem.1 hr
    have : ∀ (L : List Raw), (∀ s ∈ L, spanB s = true) → ∀ r ∈ ends (L.map toQ), Fit r := by
      intro L
      induction L with
      | nil => intro _ r hr; simp [ends] at hr
      | cons t L ih =>
        intro hL r hr
        obtain ⟨o1, o2, _⟩ := of_decide_eq_true (hL t (by simp))
        simp only [List.map_cons, ends] at hr
        rcases List.mem_cons.1 hr with rfl | hr
        · exact fit_q o1
        · rcases List.mem_cons.1 hr with rfl | hr
          · exact fit_q o2
          · exact ih (fun s hs => hL s (by simp [hs])) r hr
    exact this xs ha r hr
end Pc
set_option linter.unusedSimpArgs false in
set_option maxHeartbeats 8000000 in
set_option maxRecDepth 100000 in
theorem pMake_any (A : Option Addr) (cap : Nat) (xs : List Raw) (w : World) (hcap : xs.length ≤ cap) (h : IsS w A xs) :
    Calls Try.prog 14 #[.slice A xs.length cap] w fun e w' => ∃ v, e = .returned (.tuple #[v, .int .i64 (Pc.mkS xs).2]) ∧ Acc w w.heap.size 25 4 v (Pc.mkS xs).1.length (Pc.cells4 (Pc.mkS xs).1) w' := by
  by_cases hm : 60 < xs.length
  · rw [Pc.mkS_many hm]
    have hg : decide ((60 : Int) < (xs.length : Int)) = true := decide_eq_true (by omega)
    clear h
    go_enter Try.func14, Try.ntmps14
    go_wp2_with fail
    go_ret2
    exact ⟨_, rfl, Below.refl _ _, Nat.le_refl _, World.ownsRow_nil _ _ _ _⟩
  · have hg : decide ((60 : Int) < (xs.length : Int)) = false := decide_eq_false (by omega)
    have HH := Lib.hid h
    obtain ⟨hI, hq, _⟩ := id h
    have QS := Lib.hid h.bd
    obtain ⟨b, off, hA, hc⟩ : ∃ b off, (0 < xs.length → A = some ⟨b, off, none⟩) ∧ ∀ i, i < xs.length → w.cell? ⟨b, off + i * 4, none⟩ = some (.int .i64 (Pc.at_ xs i).a) ∧ w.cell? ⟨b, off + i * 4 + 1, none⟩ = some (.int .i64 (Pc.at_ xs i).b) ∧ w.cell? ⟨b, off + i * 4 + 2, none⟩ = some (.int .i64 (Pc.at_ xs i).c) ∧ w.cell? ⟨b, off + i * 4 + 3, none⟩ = some (.int .i64 (Pc.at_ xs i).d) := by
      by_cases h0 : 0 < xs.length
      · obtain ⟨b, off, e, k⟩ := hI h0
        exact ⟨b, off, fun _ => e, k⟩
      · exact ⟨0, 0, fun k => absurd k h0, fun i hi => absurd hi (by omega)⟩
    have HC := Lib.hid hc
    have HA := Lib.hid hA
    clear h hI hq hc hA
    go_enter Try.func14, Try.ntmps14
    go_wp2_with fail
    go_loopw [5, 11] (fun _ i v => ∃ k : Nat, k ≤ xs.length ∧ i = .int .i64 k ∧ (∀ j, j < k → Pc.spanB (Pc.at_ xs j) = true) ∧ Below w.heap.size w v) (fun _ i _ => xs.length - (intOf i).toNat)
    case atStart => exact ⟨0, Nat.zero_le _, rfl, fun j hj => absurd hj (Nat.not_lt_zero _), Below.refl _ _⟩
    case round =>
      obtain ⟨k, hk, rfl, hok, hbb⟩ := hrel
      have HOK := Lib.hid hok
      clear hok
      by_cases hlt : k < xs.length
      · have hA' := HA.out (by omega)
        subst hA'
        obtain ⟨s, hs⟩ : ∃ s, Pc.at_ xs k = s := ⟨_, rfl⟩
        have hsb := QS.out k
        rw [hs] at hsb
        have c0 := keepC hbb (HC.out k hlt).1
        have c1 := keepC hbb (HC.out k hlt).2.1
        have c2 := keepC hbb (HC.out k hlt).2.2.1
        have c3 := keepC hbb (HC.out k hlt).2.2.2
        rw [hs] at c0 c1 c2 c3
        have is := fun v => isSpan_any s v hsb
        by_cases hsp : Pc.spanB s = true
        · have EB := Lib.hid (show Pc.spanB (Pc.at_ xs k) = true by rw [hs]; exact hsp)
          rw [hsp] at is
          have IS := Lib.hid is
          clear is hs hsp
          go_upto_region 6 with fail
          refine at_worldQ (fun v => Below w.heap.size w v ∧ BK v wr.heap.size [.int .i64 s.a, .int .i64 s.b, .int .i64 s.c, .int .i64 s.d]) ⟨below_al hbb _, BK.new wr [.int .i64 s.a, .int .i64 s.b, .int .i64 s.c, .int .i64 s.d] _⟩ (fun V hS => ?_)
          clear hbb c0 c1 c2 c3
          obtain ⟨hbb, BP⟩ := hS
          have p0 := BP.c 0 rfl
          have p1 := BP.c 1 rfl
          have p2 := BP.c 2 rfl
          have p3 := BP.c 3 rfl
          generalize wr.heap.size = PP at *
          clear BP
          go_wp2_with fail
          refine (IS.out _).mono ?_
          rintro e w1 ⟨rfl, hb1⟩
          replace hbb := keepB hbb hb1
          clear hb1 p0 p1 p2 p3
          go_wp2_with fail
          go_roundw
          case rel => exact ⟨k + 1, by omega, by go_num, fun j hj => (Nat.lt_succ_iff_lt_or_eq.1 hj).elim (HOK.out j) (fun e => e ▸ EB.out), hbb⟩
          case measure => simp [intOf]; omega
        · have hsp : Pc.spanB s = false := by simpa using hsp
          have EB := Lib.hid (Pc.mkS_bad hm hlt (show Pc.spanB (Pc.at_ xs k) = false by rw [hs]; exact hsp))
          rw [hsp] at is
          have IS := Lib.hid is
          clear is hs hsp
          go_upto_region 6 with fail
          refine at_worldQ (fun v => Below w.heap.size w v ∧ BK v wr.heap.size [.int .i64 s.a, .int .i64 s.b, .int .i64 s.c, .int .i64 s.d]) ⟨below_al hbb _, BK.new wr [.int .i64 s.a, .int .i64 s.b, .int .i64 s.c, .int .i64 s.d] _⟩ (fun V hS => ?_)
          clear hbb c0 c1 c2 c3
          obtain ⟨hbb, BP⟩ := hS
          have p0 := BP.c 0 rfl
          have p1 := BP.c 1 rfl
          have p2 := BP.c 2 rfl
          have p3 := BP.c 3 rfl
          generalize wr.heap.size = PP at *
          clear BP
          go_wp2_with fail
          refine (IS.out _).mono ?_
          rintro e w1 ⟨rfl, hb1⟩
          replace hbb := keepB hbb hb1
          clear hb1 p0 p1 p2 p3
          go_wp2_with fail
          go_ret2
          rw [EB.out]
          exact ⟨_, rfl, hbb, hbb.size, World.ownsRow_nil _ _ _ _⟩
      · obtain rfl : k = xs.length := by omega
        obtain ⟨m1, m2, m3, m4⟩ := Pc.mkS_ok hm HOK.out
        have hx := HH.out
        rw [← m2] at hx
        have hlen : (xs.map Pc.toQ).length = xs.length := List.length_map _
        have hj := Pc.jn_ok _ _ (Nat.le_refl _) m3
        have JO := fun v (hv : Below w.heap.size w v) => pjoined_any _ (xs.map Pc.toQ) A cap v (Nat.le_refl _) (by omega) (by omega) m3 m4 (hx.keep hv)
        have PO := Lib.hid (fun A' ca' v h1 => pieceOf_any A' ca' (Pc.jn (xs.map Pc.toQ)) v (by have := hj.2.2.1; omega) (fun r hr => m4 r (hj.2.1 r hr)) h1)
        rw [hlen] at JO
        generalize Pc.jn (xs.map Pc.toQ) = E at *
        generalize Pc.ofE E = R at *
        have JJ := Lib.hid JO
        have HM1 := Lib.hid m1
        clear HA HC QS HOK HH JO m1 m2 m3 m4 hx hlen hj
        go_wp2_with fail
        refine (JJ.out _ hbb).mono ?_
        rintro e w5 ⟨v5, rfl, hv5⟩
        obtain ⟨A5, c5, rfl, hc5⟩ := row_cap hv5.row
        have hb5 := keepB hbb hv5.bb
        have q5 := isQ_row hv5.row rfl
        clear hv5 hbb
        go_wp2_with fail
        refine (PO.out _ _ _ q5).mono ?_
        rintro e w6 ⟨v6, rfl, hv6⟩
        have hr := Acc.rebase0 hb5 hv6
        clear hv6 q5
        go_wp2_with fail
        go_ret2
        rw [HM1.out]
        exact ⟨_, rfl, hr⟩
end Go.Proofs.Ytnnpmegknlgkoaa
