/- Package assign: greatest. -/
import Derived.Test.YtpiolhjiflohgaaAsf
import Derived.Test.YtpiolhjiflohgaaIbf
import Derived.BigRegion
namespace Go.Proofs.Ytpiolhjiflohgaa
open Go.RowKit
namespace As
theorem its_erase : ∀ s : Nat, s < 64 → ∀ n : Nat, n < 7 → ∀ j : Nat, j < n → s.testBit j = true → (its n s).erase j = its n (wo s j) := by decide +kernel
theorem its_wo_len : ∀ s : Nat, s < 64 → ∀ n : Nat, n < 7 → ∀ j : Nat, j < n → s.testBit j = true → (its n (wo s j)).length + 1 = (its n s).length := by decide +kernel
theorem its_six : ∀ n : Nat, n < 7 → ∀ s : Nat, s < 2 ^ n → (its 6 s).length = (its n s).length := by decide +kernel
theorem its_le (n s : Nat) : (its n s).length ≤ n := by have := List.length_filter_le (fun j => s.testBit j) (List.range n); simpa [its] using this
theorem wo_lt : ∀ s : Nat, s < 64 → ∀ j : Nat, j < 6 → s.testBit j = true → wo s j < s := by decide +kernel
theorem wo_ne : ∀ s : Nat, s < 64 → ∀ j : Nat, j < 6 → s.testBit j = false → wo s j = s := by decide +kernel
theorem its_all : ∀ n : Nat, n < 7 → its n (2 ^ n - 1) = List.range n := by decide +kernel
/-- What the last agents can have of a set. -/
def mst (V : List (List Int)) (s : Nat) : Int := opt (V.drop (V.length - (its V.length s).length)) (its V.length s)
/-- The greatest one of the first items' values. -/
def pm (V : List (List Int)) (s m : Nat) : Int := ((List.range m).filter (fun j => s.testBit j)).foldl (fun acc j => max acc (vl V (V.length - (its V.length s).length) j + mst V (wo s j))) 0
theorem pm_succ (V : List (List Int)) (s m : Nat) : pm V s (m + 1) = if s.testBit m = true then max (pm V s m) (vl V (V.length - (its V.length s).length) m + mst V (wo s m)) else pm V s m := by
  unfold pm
  rw [List.range_succ, List.filter_append, List.foldl_append]
  by_cases h : s.testBit m = true
  · rw [if_pos h]; simp [h]
  · rw [if_neg h]; simp [h]
theorem fold_congr {f g : Nat → Int} : ∀ {L : List Nat} {m : Int}, (∀ j ∈ L, f j = g j) → L.foldl (fun m j => max m (f j)) m = L.foldl (fun m j => max m (g j)) m
  | [], _, _ => rfl
  | x :: L, m, h => by
    simp only [List.foldl_cons]
    rw [h x (by simp)]
    exact fold_congr fun j hj => h j (by simp [hj])
theorem mem_its {n s j : Nat} : j ∈ its n s ↔ j < n ∧ s.testBit j = true := by unfold its; simp
theorem pm_end {V : List (List Int)} (n6 : V.length ≤ 6) {s : Nat} (hs : s < 64) : pm V s V.length = mst V s := by
  have hle := its_le V.length s
  by_cases h0 : (its V.length s).length = 0
  · have e : its V.length s = [] := List.eq_nil_of_length_eq_zero h0
    have e' : (List.range V.length).filter (fun j => s.testBit j) = [] := e
    unfold pm mst
    rw [e', e]
    simp [opt]
  · have hlt : V.length - (its V.length s).length < V.length := by omega
    unfold mst
    rw [List.drop_eq_getElem_cons hlt]
    simp only [opt]
    unfold pm
    refine fold_congr fun j hj => ?_
    have hj' := mem_its.1 hj
    have e1 : vl V (V.length - (its V.length s).length) j = el V[V.length - (its V.length s).length] j := by unfold vl; rw [getD_lt hlt]
    rw [e1]
    congr 1
    have e2 := its_erase s hs V.length (by omega) j hj'.1 hj'.2
    have e3 := its_wo_len s hs V.length (by omega) j hj'.1 hj'.2
    unfold mst
    have e4 : ((List.range V.length).filter (fun j => s.testBit j)).erase j = its V.length (wo s j) := e2
    rw [e2]
    congr 2
    omega
theorem opt_bd : ∀ (R : List (List Int)) (L : List Nat), (∀ r ∈ R, ∀ j, el r j ≤ 1000000) → opt R L ≤ R.length * 1000000
  | [], _, _ => by simp [opt]
  | r :: R, L, h => by
    have ih := fun j => opt_bd R (L.erase j) (fun x hx => h x (by simp [hx]))
    have e : opt (r :: R) L = L.foldl (fun m j => max m (el r j + opt R (L.erase j))) 0 := rfl
    rcases fm_at (fun j => el r j + opt R (L.erase j)) L 0 with h1 | ⟨j, hj, h1⟩
    · rw [e, h1]; omega
    · rw [e, h1]
      have := h r (by simp) j
      have := ih j
      simp only [List.length_cons]
      omega
theorem mst_bd {V : List (List Int)} (n6 : V.length ≤ 6) (h : ∀ r ∈ V, ∀ j, el r j ≤ 1000000) (s : Nat) : 0 ≤ mst V s ∧ mst V s ≤ 6000000 := by
  refine ⟨opt_nn _ _, ?_⟩
  have h1 := opt_bd (V.drop (V.length - (its V.length s).length)) (its V.length s) (fun r hr => h r (List.mem_of_mem_drop hr))
  have h2 : (V.drop (V.length - (its V.length s).length)).length ≤ 6 := by simp; omega
  unfold mst; omega
theorem pm_nn (V : List (List Int)) (s m : Nat) : 0 ≤ pm V s m := (fm_ge (fun j => vl V (V.length - (its V.length s).length) j + mst V (wo s j)) _ 0).1
theorem pm_bd {V : List (List Int)} (n6 : V.length ≤ 6) (h : ∀ r ∈ V, ∀ j, el r j ≤ 1000000) (h2 : ∀ i j, vl V i j ≤ 1000000) (s m : Nat) : pm V s m ≤ 7000000 := by
  rcases fm_at (fun j => vl V (V.length - (its V.length s).length) j + mst V (wo s j)) ((List.range m).filter (fun j => s.testBit j)) 0 with h1 | ⟨j, hj, h1⟩
  · unfold pm; omega
  · have := h2 (V.length - (its V.length s).length) j
    have := (mst_bd n6 h (wo s j)).2
    unfold pm; omega
theorem le_of_vl {V : List (List Int)} (h : ∀ i j, vl V i j ≤ 1000000) : ∀ r ∈ V, ∀ j, el r j ≤ 1000000 := by
  intro r hr j
  obtain ⟨i, hi, rfl⟩ := List.mem_iff_getElem.1 hr
  have := h i j
  unfold vl at this
  rwa [getD_lt hi] at this
/-- What the table holds while it is filled. -/
def tb (V : List (List Int)) (s m k : Nat) : Int := if k < s then mst V k else if k = s then pm V s m else 0
theorem tb_zero (V : List (List Int)) (k : Nat) : tb V 0 0 k = 0 := by unfold tb; rw [if_neg (by omega)]; split <;> simp [pm]
theorem tb_next {V : List (List Int)} (n6 : V.length ≤ 6) {s : Nat} (hs : s < 64) (k : Nat) : tb V s V.length k = tb V (s + 1) 0 k := by
  unfold tb
  by_cases h1 : k < s
  · rw [if_pos h1, if_pos (by omega)]
  · rw [if_neg h1]
    by_cases h2 : k = s
    · subst h2
      rw [if_pos rfl, if_pos (by omega), pm_end n6 hs]
    · rw [if_neg h2, if_neg (by omega)]
      split <;> simp [pm]
theorem tb_skip {V : List (List Int)} {s m : Nat} (h : s.testBit m = false) (k : Nat) : tb V s m k = tb V s (m + 1) k := by
  unfold tb; rw [pm_succ, h]; simp
theorem tb_put {V : List (List Int)} {s m : Nat} (h : s.testBit m = true) (k : Nat) : (if k = s then max (pm V s m) (vl V (V.length - (its V.length s).length) m + mst V (wo s m)) else tb V s m k) = tb V s (m + 1) k := by
  unfold tb
  rw [pm_succ, if_pos h]
  by_cases e : k = s
  · subst e; simp
  · simp only [if_neg e]
theorem tb_end {V : List (List Int)} {N k : Nat} (h : k < N) : tb V N 0 k = mst V k := by unfold tb; rw [if_pos h]
theorem pow_bd : ∀ n : Nat, n < 7 → 1 ≤ 2 ^ n ∧ 2 ^ n ≤ 64 ∧ wrap64 (2 ^ n) = ((2 ^ n : Nat) : Int) := by decide +kernel
end As
theorem imax (a b : Int) : (if a < b then b else a) = max a b := by omega
set_option maxRecDepth 100000 in
set_option maxHeartbeats 4000000 in
theorem greatest_any (A : Option Addr) (cv : Nat) (V : List (List Int)) (w : World) (ok : As.Ok V) (h : IsM w A V) :
    Calls Try.prog 74 #[.slice A V.length cv] w fun e w' => e = .returned (.slice (some ⟨w.heap.size, 0, none⟩) (2 ^ V.length) (2 ^ V.length)) ∧ BF w' w.heap.size (2 ^ V.length) (As.mst V) ∧ Below w.heap.size w w' := by
  have n1 := ok.n1
  have n6 := ok.n6
  have hp := As.pow_bd V.length (by omega)
  obtain ⟨b, off, rfl, hrows⟩ := h (by omega)
  have HR := Lib.hid hrows
  have HOKV := Lib.hid ok
  clear h hrows ok
  obtain ⟨N, hN⟩ : ∃ N, 2 ^ V.length = N := ⟨_, rfl⟩
  obtain ⟨p1, p2, e2⟩ := hp
  rw [hN] at p1 p2 e2 ⊢
  have HN := Lib.hid hN
  clear hN
  have MK := ints_make N (by omega)
  go_enter Try.func74, Try.ntmps74
  go_wp2_with fail
  clear MK e2
  go_loopw [14] (fun i W => ∃ s : Nat, s ≤ N ∧ i = .int .i64 s ∧ BF W w.heap.size N (As.tb V s 0) ∧ Below w.heap.size w W) (fun i _ => N - (intOf i).toNat)
  case atStart => exact ⟨0, Nat.zero_le _, rfl, (BF.new _ _ _).cong (fun k _ => (As.tb_zero V k).symm), below_al (Below.refl _ _) _⟩
  case round =>
    obtain ⟨s, hs, rfl, hbf, hbb⟩ := hrel
    by_cases hlt : s < N
    · have hC := ones_any s
      have hs64 : s < 64 := by omega
      have HLE := Lib.hid (show (As.its V.length s).length ≤ V.length from As.its_le _ _)
      have h6 := As.its_six V.length (by omega) s (by rw [HN.out]; exact hlt)
      rw [h6] at hC
      generalize hc : (As.its V.length s).length = c at *
      have HCE := Lib.hid hc
      have HC1 := Lib.hid hC
      have hle := HLE.out
      obtain ⟨ag, hag⟩ : ∃ ag, V.length - c = ag := ⟨_, rfl⟩
      have e5 : (V.length : Int) - (c : Int) = (ag : Int) := by omega
      have e3 : IntKind.u64.wrap (s : Int) = (s : Int) := by rw [IntKind.wrap_u64]; omega
      have HAG := Lib.hid hag
      clear hc hC h6 hag HLE
      go_wp2_with fail
      refine (HC1.out _ hs64).mono ?_
      rintro e w1 ⟨rfl, hb1⟩
      replace hbf := hbf.keep hb1
      replace hbb := keepB hbb hb1
      clear hb1
      go_wp2_with fail
      clear e5 e3
      go_loopw [25] (fun i W => ∃ m : Nat, m ≤ V.length ∧ i = .int .i64 m ∧ BF W w.heap.size N (As.tb V s m) ∧ Below w.heap.size w W) (fun i _ => V.length - (intOf i).toNat)
      case atStart => exact ⟨0, Nat.zero_le _, rfl, hbf, hbb⟩
      case round =>
        clear hbf hbb
        obtain ⟨m, hm, rfl, hbf, hbb⟩ := hrel
        by_cases hltm : m < V.length
        · have hW := without_any s m wr hs64 (by omega)
          cases htb : s.testBit m
          · rw [As.wo_ne s hs64 m (by omega) htb] at hW
            have HW := Lib.hid hW
            have HT := Lib.hid htb
            have e1 : ((s : Int) != s) = false := by simp
            clear hW htb
            go_wp2_with fail
            refine HW.out.mono ?_
            rintro e w1 ⟨rfl, hb1⟩
            replace hbf := hbf.keep hb1
            replace hbb := keepB hbb hb1
            clear hb1
            go_wp2_with fail
            go_roundw
            case rel => exact ⟨m + 1, by omega, by go_num, hbf.cong (fun k _ => As.tb_skip HT.out k), hbb⟩
            case measure => simp [intOf]; omega
          · have hwl := As.wo_lt s hs64 m (by omega) htb
            have hc1 : 1 ≤ c := by
              have := HCE.out
              have hmem : m ∈ As.its V.length s := As.mem_its.2 ⟨hltm, htb⟩
              have := List.length_pos_of_mem hmem
              omega
            have hagn : ag < V.length := by have := HAG.out; omega
            have HT := Lib.hid htb
            have HPUT := Lib.hid (fun k => As.tb_put (V := V) htb k)
            rw [HCE.out, HAG.out] at HPUT
            obtain ⟨r, hr⟩ : ∃ r, As.wo s m = r := ⟨_, rfl⟩
            rw [hr] at hW hwl HPUT
            have HW := Lib.hid hW
            have e1 : ((r : Int) != s) = true := by rw [bne_iff_ne]; omega
            clear hW htb
            obtain ⟨R, cc, hcr, hrl, hI⟩ := HR.out ag hagn
            rw [HOKV.out.row ag hagn] at hcr
            obtain ⟨rb, ro, rfl, hcs⟩ := hI.1 (by rw [HOKV.out.row ag hagn]; omega)
            have c1 : w.cell? ⟨rb, ro + m, none⟩ = some (.int .i64 (As.vl V ag m)) := hcs m (by rw [HOKV.out.row ag hagn]; omega)
            have HC1 := Lib.hid c1
            have HC2 := Lib.hid hcr
            have b1 := HOKV.out.bd ag m
            have b2 := As.mst_bd n6 (As.le_of_vl fun i j => (HOKV.out.bd i j).2) r
            have b3 := As.pm_nn V s m
            have b4 := As.pm_bd n6 (As.le_of_vl fun i j => (HOKV.out.bd i j).2) (fun i j => (HOKV.out.bd i j).2) s m
            clear hcs hI hrl c1 hcr
            go_wp2_with fail
            refine HW.out.mono ?_
            rintro e w1 ⟨rfl, hb1⟩
            replace hbf := hbf.keep hb1
            replace hbb := keepB hbb hb1
            clear hb1
            have x1 := hbf.c (k := s) hlt
            have x2 := hbf.c (k := r) (by omega)
            have x3 := hbf.f (k := s) hlt
            have x4 := keepC hbb HC1.out
            have x5 := keepC hbb HC2.out
            rw [show As.tb V s m s = As.pm V s m by unfold As.tb; simp] at x1
            rw [show As.tb V s m r = As.mst V r by unfold As.tb; simp [hwl]] at x2
            obtain ⟨b11, b12⟩ := b1
            obtain ⟨b21, b22⟩ := b2
            generalize As.vl V ag m = x at *
            generalize As.mst V r = M at *
            generalize As.pm V s m = P at *
            have a1 : IntKind.i64.wrap (x + M) = x + M := IntWalk.i64_in _ (by omega)
            have i1 : (s : Int) < (N : Int) := by omega
            have i2 : (r : Int) < (N : Int) := by omega
            have i3 : (m : Int) < (V.length : Int) := by omega
            have i4 : (ag : Int) < (V.length : Int) := by omega
            go_wp2_with fail
            go_big_region
            clear a1 x1 x2 x3 x4 x5
            go_wp2_with fail
            go_roundw
            case rel => exact ⟨m + 1, by omega, by go_num, ((hbf.set s _).drew).cong (fun k _ => by rw [imax]; exact HPUT.out k), (hbb.setCell (Nat.le_refl _) _).drew⟩
            case measure => simp [intOf]; omega
        · obtain rfl : m = V.length := by omega
          go_wp2_with fail
          go_roundw
          case rel => exact ⟨s + 1, by omega, by go_num, hbf.cong (fun k _ => As.tb_next n6 hs64 k), hbb⟩
          case measure => simp [intOf]; omega
    · obtain rfl : s = N := by omega
      go_wp2_with fail
      go_ret
      exact ⟨rfl, hbf.cong (fun k hk => As.tb_end hk), hbb⟩
end Go.Proofs.Ytpiolhjiflohgaa
