/- The reference of layer 13: Worth, Priced, Content, Great, Value, Proves. -/
import Derived.Test.YtkibglbccfjkpaaAsr
namespace Go.Proofs.Ytkibglbccfjkpaa
open Go.RowKit
set_option maxRecDepth 100000 in
set_option maxHeartbeats 2000000 in
theorem rWorth_any (A : Option Addr) (cv : Nat) (V : List (List Int)) (B : Option Addr) (ca : Nat) (a : List Nat) (w : World) (n1 : 1 ≤ V.length) (n6 : V.length ≤ 6) (hrl : ∀ i, i < V.length → (V.getD i []).length = V.length) (hbd : ∀ i j, 0 ≤ As.vl V i j ∧ As.vl V i j ≤ 1000000) (h : IsM w A V) (hB : IsI w B (As.al a)) (hl : a.length = V.length) (ha : ∀ i, i < V.length → a.getD i 0 < V.length) :
    Calls Try.prog 30 #[.slice A V.length cv, .slice B V.length ca] w fun e w' => e = .returned (.int .i64 (As.wr V a)) ∧ Below w.heap.size w w' := by
  obtain ⟨b, off, rfl, hrows⟩ := h (by omega)
  obtain ⟨ab, ao, rfl, hac⟩ := hB.1 (by rw [As.al_len]; omega)
  have HR := Lib.hid hrows
  have HA := Lib.hid (show ∀ i, i < V.length → w.cell? ⟨ab, ao + i, none⟩ = some (.int .i64 ((a.getD i 0 : Nat) : Int)) from fun i hi => by
    have := hac i (by rw [As.al_len]; omega)
    rwa [As.el_al] at this)
  have HL := Lib.hid hl
  have HRL := Lib.hid hrl
  have HBD := Lib.hid hbd
  have HLT := Lib.hid ha
  clear h hB hrows hac hl hrl hbd ha
  go_enter Try.func30, Try.ntmps30
  go_wp2_with fail
  go_loopw [5, 6] (fun s i W => ∃ k : Nat, k ≤ V.length ∧ i = .int .i64 k ∧ s = .int .i64 (As.wr (V.take k) (a.take k)) ∧ Below w.heap.size w W) (fun _ i _ => V.length - (intOf i).toNat)
  case atStart => exact ⟨0, Nat.zero_le _, rfl, by simp [As.wr], Below.refl _ _⟩
  case round =>
    obtain ⟨k, hk, rfl, rfl, hbb⟩ := hrel
    by_cases hlt : k < V.length
    · obtain ⟨R, c, hc, _, hI⟩ := HR.out k hlt
      rw [HRL.out k hlt] at hc
      replace hc := keepC hbb hc
      have c1 := keepC hbb (HA.out k hlt)
      have hj := HLT.out k hlt
      obtain ⟨rb, ro, rfl, hcs⟩ := hI.1 (by rw [HRL.out k hlt]; omega)
      have c2 := hcs (a.getD k 0) (by rw [HRL.out k hlt]; omega)
      have b1 := As.wr_bd HBD.out a k (by omega) (by rw [HL.out]; omega)
      have b2 := HBD.out k (a.getD k 0)
      have ET := Lib.hid (As.wr_take V a k (by omega) (by rw [HL.out]; omega))
      change w.cell? ⟨rb, ro + a.getD k 0, none⟩ = some (.int .i64 (As.vl V k (a.getD k 0))) at c2
      replace c2 := keepC hbb c2
      clear hcs hI
      generalize a.getD k 0 = j at *
      generalize As.vl V k j = x at *
      generalize As.wr (V.take k) (a.take k) = s at *
      obtain ⟨b11, b12⟩ := b1
      obtain ⟨b21, b22⟩ := b2
      have b13 : s ≤ 6000000 := by omega
      have i1 : (k : Int) < (V.length : Int) := by omega
      have i3 : (j : Int) < (V.length : Int) := by omega
      have a1 : IntKind.i64.wrap (s + x) = s + x := IntWalk.i64_in _ (by omega)
      clear b12
      go_wp2_with fail
      go_quiet (fail)
      go_wp2_with fail
      clear a1
      go_roundw
      case rel => exact ⟨k + 1, by omega, by go_num, by rw [ET.out], below_drewN hbb _⟩
      case measure => simp [intOf]; omega
    · obtain rfl : k = V.length := by omega
      go_wp2_with fail
      go_ret
      exact ⟨by rw [As.take_all HL.out, List.take_length]; rfl, hbb⟩
set_option maxRecDepth 100000 in
set_option maxHeartbeats 2000000 in
theorem rPriced_any (A : Option Addr) (cap : Nat) (xs : List Int) (n : Nat) (w : World) (hl : xs.length ≤ maxLen) (h : IsI w A xs) :
    Calls Try.prog 31 #[.slice A xs.length cap, .int .i64 n] w fun e w' => e = .returned (.bool (As.isL xs n 10000000)) ∧ Below w.heap.size w w' := by
  unfold maxLen at hl
  have HC := Lib.hid h
  have HB1 := Lib.hid (fun k => @As.isL_bad xs n 10000000 k)
  have HB2 := Lib.hid (show (∀ k, k < xs.length → As.bad (As.el xs k) 10000000 = false) → As.isL xs n 10000000 = ((xs.length : Int) == n) from fun h => by
    rw [As.isL_eq, As.any_no h]; by_cases e : (xs.length : Int) = n <;> simp [e])
  generalize hz : As.isL xs n 10000000 = z at *
  clear h hz
  go_enter Try.func31, Try.ntmps31
  go_wp2_with fail
  go_loop [5] (fun i => ∃ m : Nat, m ≤ xs.length ∧ i = .int .i64 m ∧ Hid (∀ j, j < m → As.bad (As.el xs j) 10000000 = false)) (fun i => xs.length - (intOf i).toNat)
  case atStart => exact ⟨0, Nat.zero_le _, rfl, Lib.hid (fun j hj => absurd hj (Nat.not_lt_zero _))⟩
  case round =>
    obtain ⟨m, hm, rfl, HIN⟩ := hrel
    by_cases hltm : m < xs.length
    · obtain ⟨rb, ro, rfl, hcs⟩ := HC.out.1 (by omega)
      have c1 := hcs m hltm
      clear hcs
      have HX := Lib.hid (HB1.out m hltm)
      have HY := Lib.hid (fun (hp : As.bad (As.el xs m) 10000000 = false) j (hj : j < m + 1) => by
        rcases Nat.lt_or_ge j m with h1 | h1
        · exact HIN.out j h1
        · obtain rfl : j = m := by omega
          exact hp)
      generalize As.el xs m = x at *
      by_cases hx0 : x < 0
      · have HZ0 := Lib.hid (HX.out (by unfold As.bad; rw [decide_eq_true hx0, Bool.true_or]))
        have d1 : decide (x < 0) = true := decide_eq_true hx0
        clear HX HY
        go_wp2_with fail
        go_ret
        exact ⟨by rw [HZ0.out]; rfl, Below.refl _ _⟩
      · have d1 : decide (x < 0) = false := decide_eq_false hx0
        by_cases hx1 : 10000000 < x
        · have HZ0 := Lib.hid (HX.out (by unfold As.bad; rw [decide_eq_true hx1, Bool.or_true]))
          have d2 : decide (10000000 < x) = true := decide_eq_true hx1
          clear HX HY
          go_wp2_with fail
          go_ret
          exact ⟨by rw [HZ0.out]; rfl, Below.refl _ _⟩
        · have HZ0 := Lib.hid (HY.out (by unfold As.bad; rw [d1, decide_eq_false hx1]; rfl))
          have d2 : decide (10000000 < x) = false := decide_eq_false hx1
          clear HX HY
          go_wp2_with fail
          go_round
          case rel => exact ⟨m + 1, by omega, by go_num, HZ0⟩
          case measure => simp [intOf]; omega
    · obtain rfl : m = xs.length := by omega
      have HZ0 := Lib.hid (HB2.out HIN.out)
      clear HIN HB1 HB2 HC
      obtain ⟨q, hq⟩ : ∃ q, ((xs.length : Int) == n) = q := ⟨_, rfl⟩
      have HQ := Lib.hid hq
      go_wp2_with fail
      go_ret
      exact ⟨by rw [HZ0.out, HQ.out]; rfl, Below.refl _ _⟩
set_option maxRecDepth 100000 in
set_option maxHeartbeats 4000000 in
theorem rContent_any (A : Option Addr) (cv : Nat) (V : List (List Int)) (B : Option Addr) (ca : Nat) (a : List Nat) (C : Option Addr) (cp : Nat) (ps : List Int) (w : World) (ok : As.Ok V) (h : IsM w A V) (hB : IsI w B (As.al a)) (hC : IsI w C ps) (hp : a.Perm (List.range V.length)) (hps : ∀ j, 0 ≤ As.el ps j ∧ As.el ps j ≤ 10000000) (hpl : ps.length = V.length) :
    Calls Try.prog 32 #[.slice A V.length cv, .slice B V.length ca, .slice C V.length cp] w fun e w' => e = .returned (.bool (As.contB V a ps)) ∧ Below w.heap.size w w' := by
  have hl := (As.perm_lt hp).1
  have hlt := (As.perm_lt hp).2
  have n1 := ok.n1
  have n6 := ok.n6
  obtain ⟨b, off, rfl, hrows⟩ := h (by omega)
  obtain ⟨ab, ao, rfl, hac⟩ := hB.1 (by rw [As.al_len]; omega)
  obtain ⟨pb, po, rfl, hpc⟩ := hC.1 (by omega)
  have HR := Lib.hid hrows
  have HA := Lib.hid (show ∀ i, i < V.length → w.cell? ⟨ab, ao + i, none⟩ = some (.int .i64 ((a.getD i 0 : Nat) : Int)) from fun i hi => by
    have := hac i (by rw [As.al_len]; omega)
    rwa [As.el_al] at this)
  have HP := Lib.hid (show ∀ i, i < V.length → w.cell? ⟨pb, po + i, none⟩ = some (.int .i64 (As.el ps i)) from fun i hi => hpc i (by omega))
  have HPB := Lib.hid hps
  have HOKV := Lib.hid ok
  have HLT := Lib.hid hlt
  have HCN := Lib.hid (fun i j => @As.contB_no V a ps i j)
  have HCY := Lib.hid (@As.contB_yes V a ps)
  generalize hz : As.contB V a ps = z at *
  clear h hB hrows hac hl ok hp hps hC hpc hpl hz hlt
  go_enter Try.func32, Try.ntmps32
  go_wp2_with fail
  go_loopw [7, 8] (fun i _ W => ∃ k : Nat, k ≤ V.length ∧ i = .int .i64 k ∧ Hid (∀ i', i' < k → As.rowB V a ps i' = true) ∧ Below w.heap.size w W) (fun i _ _ => V.length - (intOf i).toNat)
  case atStart => exact ⟨0, Nat.zero_le _, rfl, Lib.hid (fun j hj => absurd hj (Nat.not_lt_zero _)), Below.refl _ _⟩
  case round =>
    obtain ⟨k, hk, rfl, HOK, hbb⟩ := hrel
    by_cases hlt : k < V.length
    · obtain ⟨R, c, hc, hrl, hI⟩ := HR.out k hlt
      rw [HOKV.out.row k hlt] at hc
      have hj := HLT.out k hlt
      obtain ⟨rb, ro, rfl, hcs⟩ := hI.1 (by rw [HOKV.out.row k hlt]; omega)
      have HCS := Lib.hid (show ∀ j, j < V.length → w.cell? ⟨rb, ro + j, none⟩ = some (.int .i64 (As.vl V k j)) from fun j hj => hcs j (by rw [HOKV.out.row k hlt]; omega))
      have HRY := Lib.hid (@As.rowB_yes V a ps k)
      have HC0 := Lib.hid (HCN.out k)
      have b2 := HOKV.out.bd k (a.getD k 0)
      have b3 := HPB.out (a.getD k 0)
      have HVB := Lib.hid (HOKV.out.bd k)
      have q1 := HCS.out (a.getD k 0) hj
      have q2 := HP.out (a.getD k 0) hj
      have HC1 := Lib.hid hc
      have HA1 := Lib.hid (HA.out k hlt)
      clear hcs hI hrl HCN hc
      generalize hown : a.getD k 0 = o at *
      generalize As.vl V k o = y at *
      generalize As.el ps o = po1 at *
      have Q1 := Lib.hid q1
      have Q2 := Lib.hid q2
      clear q1 q2 hown
      go_wp2_with fail
      go_loopw [8] (fun i W => ∃ m : Nat, m ≤ V.length ∧ i = .int .i64 m ∧ Hid (∀ j, j < m → As.vl V k j - As.el ps j ≤ y - po1) ∧ Below w.heap.size w W) (fun i _ => V.length - (intOf i).toNat)
      case atStart => exact ⟨0, Nat.zero_le _, rfl, Lib.hid (fun j hj => absurd hj (Nat.not_lt_zero _)), hbb⟩
      case round =>
        clear hbb
        obtain ⟨m, hm, rfl, HIN, hbb⟩ := hrel
        by_cases hltm : m < V.length
        · have x1 := keepC hbb (HCS.out m hltm)
          have x2 := keepC hbb (HP.out m hltm)
          have x3 := keepC hbb Q1.out
          have x4 := keepC hbb Q2.out
          have x5 := keepC hbb HC1.out
          have x6 := keepC hbb HA1.out
          have e1 := HVB.out m
          have e2 := HPB.out m
          have HX := Lib.hid (HC0.out m hlt hltm)
          have HY := Lib.hid (fun (hp : As.vl V k m - As.el ps m ≤ y - po1) j (hj : j < m + 1) => by
            rcases Nat.lt_or_ge j m with h1 | h1
            · exact HIN.out j h1
            · obtain rfl : j = m := by omega
              exact hp)
          obtain ⟨b21, b22⟩ := b2
          obtain ⟨b31, b32⟩ := b3
          obtain ⟨e11, e12⟩ := e1
          obtain ⟨e21, e22⟩ := e2
          generalize As.vl V k m = x at *
          generalize As.el ps m = pm at *
          have i1 : (k : Int) < (V.length : Int) := by omega
          have i2 : (m : Int) < (V.length : Int) := by omega
          have i3 : (o : Int) < (V.length : Int) := by omega
          have a1 : IntKind.i64.wrap (x - pm) = x - pm := IntWalk.i64_in _ (by omega)
          have a2 : IntKind.i64.wrap (y - po1) = y - po1 := IntWalk.i64_in _ (by omega)
          by_cases hh : y - po1 < x - pm
          · have HZ0 := Lib.hid (HX.out hh)
            have d1 : decide (y - po1 < x - pm) = true := decide_eq_true hh
            clear HY HX hh
            go_wp2_with fail
            go_quiet (fail)
            go_wp2_with fail
            go_ret
            exact ⟨by rw [HZ0.out]; rfl, below_drewN hbb _⟩
          · have HZ0 := Lib.hid (HY.out (by omega))
            have d1 : decide (y - po1 < x - pm) = false := decide_eq_false hh
            clear HY HX hh
            go_wp2_with fail
            go_quiet (fail)
            go_wp2_with fail
            clear a1 a2
            go_roundw
            case rel => exact ⟨m + 1, by omega, by go_num, HZ0, below_drewN hbb _⟩
            case measure => simp [intOf]; omega
        · obtain rfl : m = V.length := by omega
          have HZ0 := Lib.hid (HRY.out HIN.out)
          go_wp2_with fail
          go_roundw
          case rel => exact ⟨k + 1, by omega, by go_num, Lib.hid (fun j hj => (Nat.lt_succ_iff_lt_or_eq.1 hj).elim (HOK.out j) (fun e => e ▸ HZ0.out)), hbb⟩
          case measure => simp [intOf]; omega
    · obtain rfl : k = V.length := by omega
      have HZ0 := Lib.hid (HCY.out HOK.out)
      go_wp2_with fail
      go_ret
      exact ⟨by rw [HZ0.out]; rfl, hbb⟩
end Go.Proofs.Ytkibglbccfjkpaa
