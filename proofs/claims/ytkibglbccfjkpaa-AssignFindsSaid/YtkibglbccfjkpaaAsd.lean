/- Package assign: Proves. -/
import Derived.Test.YtkibglbccfjkpaaAsc
namespace Go.Proofs.Ytkibglbccfjkpaa
open Go.RowKit
set_option maxRecDepth 100000 in
set_option maxHeartbeats 4000000 in
theorem asProves1 (A : Option Addr) (cv : Nat) (V : List (List Int)) (B : Option Addr) (ca : Nat) (a : List Nat) (C : Option Addr) (cp : Nat) (ps : List Int) (w : World) (hlm : V.length ≤ maxLen) (h0 : As.chk V = 0) (h : IsM w A V) (hB : IsI w B (As.al a)) (hC : IsI w C ps) (hp : a.Perm (List.range V.length)) (hps : As.isL ps V.length 10000000 = true) (hpm : ps.length ≤ maxLen) :
    Calls Try.prog 24 #[.slice A V.length cv, .slice B V.length ca, .slice C V.length cp] w fun e w' => e = .returned (.tuple #[.bool (As.contB V a ps), .int .i64 0]) ∧ Below w.heap.size w w' := by
  have ok := As.chk_ok h0
  have CK := asCheck_any A cv V w hlm h
  rw [h0] at CK
  have hl := (As.perm_lt hp).1
  have hlt := (As.perm_lt hp).2
  have hb := As.isL_bd (by omega) hps
  have hpl : ps.length = V.length := by have := hb.1; omega
  have CA := fun v (hv : Below w.heap.size w v) => isAsg_any B ca (As.al a) V.length v (by rw [As.al_len, hl]; exact hlm) (hB.keep hv)
  rw [As.perm_isA hp, As.al_len, hl] at CA
  have CP := fun v (hv : Below w.heap.size w v) => isList_any C cp ps V.length 10000000 v hpm (hC.keep hv)
  rw [hps, hpl] at CP
  have n1 := ok.n1
  have n6 := ok.n6
  obtain ⟨b, off, rfl, hrows⟩ := h (by omega)
  obtain ⟨ab, ao, rfl, hac⟩ := hB.1 (by rw [As.al_len]; omega)
  obtain ⟨pb, po, rfl, hpc⟩ := hC.1 (by omega)
  have HR := Lib.hid hrows
  have HA := Lib.hid (show ∀ i, i < V.length → w.cell? ⟨ab, ao + i, none⟩ = some (.int .i64 ((a.getD i 0 : Nat) : Int)) from fun i hi => by
    have := hac i (by rw [As.al_len]; omega)
    rwa [As.el_al] at this)
  have HP := Lib.hid (show ∀ i, i < V.length → w.cell? ⟨pb, po + i, none⟩ = some (.int .i64 (As.el ps i)) from fun i hi => hpc i (by omega))
  have HPB := Lib.hid hb.2
  have HOKV := Lib.hid ok
  have HLT := Lib.hid hlt
  have CK' := Lib.hid CK
  have CA' := Lib.hid CA
  have CP' := Lib.hid CP
  have HCN := Lib.hid (fun i j => @As.contB_no V a ps i j)
  have HCY := Lib.hid (@As.contB_yes V a ps)
  generalize hz : As.contB V a ps = z at *
  clear h hB hrows hac hl ok hp hps hC hpc hb hpl CK CA CP h0 hlm hpm hz hlt
  go_enter Try.func24, Try.ntmps24
  go_wp2_with fail
  refine CK'.out.mono ?_
  rintro e w1 ⟨rfl, hb1⟩
  go_wp2_with fail
  refine (CA'.out _ hb1).mono ?_
  rintro e w2 ⟨rfl, hb2⟩
  have hbb := keepB hb1 hb2
  clear hb1 hb2
  go_wp2_with fail
  refine (CP'.out _ hbb).mono ?_
  rintro e w3 ⟨rfl, hb3⟩
  replace hbb := keepB hbb hb3
  clear hb3 CK' CA' CP'
  go_wp2_with fail
  go_loopw [9, 10, 11, 12, 32] (fun _ _ _ _ i W => ∃ k : Nat, k ≤ V.length ∧ i = .int .i64 k ∧ Hid (∀ i', i' < k → As.rowB V a ps i' = true) ∧ Below w.heap.size w W) (fun _ _ _ _ i _ => V.length - (intOf i).toNat)
  case atStart => exact ⟨0, Nat.zero_le _, rfl, Lib.hid (fun j hj => absurd hj (Nat.not_lt_zero _)), hbb⟩
  case round =>
    clear hbb
    obtain ⟨k, hk, rfl, HOK, hbb⟩ := hrel
    by_cases hlt : k < V.length
    · obtain ⟨R, c, hc, hrl, hI⟩ := HR.out k hlt
      rw [HOKV.out.row k hlt] at hc
      have hj := HLT.out k hlt
      obtain ⟨rb, ro, rfl, hcs⟩ := hI.1 (by rw [HOKV.out.row k hlt]; omega)
      have HCS := Lib.hid (show ∀ j, j < V.length → w.cell? ⟨rb, ro + j, none⟩ = some (.int .i64 (As.vl V k j)) from fun j hj => hcs j (by rw [HOKV.out.row k hlt]; omega))
      have c1 := keepC hbb (HA.out k hlt)
      have HRY := Lib.hid (@As.rowB_yes V a ps k)
      have HC0 := Lib.hid (HCN.out k)
      have b2 := HOKV.out.bd k (a.getD k 0)
      have b3 := HPB.out (a.getD k 0)
      have HVB := Lib.hid (HOKV.out.bd k)
      have q1 := HCS.out (a.getD k 0) hj
      have q2 := HP.out (a.getD k 0) hj
      have HC1 := Lib.hid hc
      replace hc := keepC hbb hc
      have HA1 := Lib.hid (HA.out k hlt)
      clear hcs hI hrl HCN
      generalize hown : a.getD k 0 = o at *
      generalize As.vl V k o = y at *
      generalize As.el ps o = po1 at *
      have Q1 := Lib.hid q1
      have Q2 := Lib.hid q2
      clear q1 q2 hown
      go_wp2_with fail
      clear hc c1
      go_loopw [11, 12, 42] (fun _ _ i W => ∃ m : Nat, m ≤ V.length ∧ i = .int .i64 m ∧ Hid (∀ j, j < m → As.vl V k j - As.el ps j ≤ y - po1) ∧ Below w.heap.size w W) (fun _ _ i _ => V.length - (intOf i).toNat)
      case atStart => exact ⟨0, Nat.zero_le _, rfl, Lib.hid (fun j hj => absurd hj (Nat.not_lt_zero _)), hbb⟩
      case round =>
        clear hbb
        obtain ⟨m, hm, rfl, HIN, hbb⟩ := hrel
        by_cases hltm : m < V.length
        · have x1 := keepC hbb (HCS.out m hltm)
          have x2 := keepC hbb (HP.out m hltm)
          have x3 := keepC hbb Q1.out
          have x4 := keepC hbb Q2.out
          have x5 := keepC hbb HC1.out
          have e1 := HVB.out m
          have e2 := HPB.out m
          have HX := Lib.hid (HC0.out m hlt hltm)
          have HY := Lib.hid (fun (hp : As.vl V k m - As.el ps m ≤ y - po1) j (hj : j < m + 1) => by
            rcases Nat.lt_or_ge j m with h1 | h1
            · exact HIN.out j h1
            · obtain rfl : j = m := by omega
              exact hp)
          obtain ⟨b21, b22⟩ := b2
          obtain ⟨b31, b32⟩ := b3
          obtain ⟨e11, e12⟩ := e1
          obtain ⟨e21, e22⟩ := e2
          generalize As.vl V k m = x at *
          generalize As.el ps m = pm at *
          have i1 : (k : Int) < (V.length : Int) := by omega
          have i2 : (m : Int) < (V.length : Int) := by omega
          have i3 : (o : Int) < (V.length : Int) := by omega
          have a1 : IntKind.i64.wrap (x - pm) = x - pm := IntWalk.i64_in _ (by omega)
          have a2 : IntKind.i64.wrap (y - po1) = y - po1 := IntWalk.i64_in _ (by omega)
          by_cases hh : y - po1 < x - pm
          · have HZ0 := Lib.hid (HX.out hh)
            have d1 : decide (y - po1 < x - pm) = true := decide_eq_true hh
            clear HY HX hh
            go_wp2_with fail
            go_quiet (fail)
            go_wp2_with fail
            go_ret2
            exact ⟨by rw [HZ0.out]; rfl, below_drewN hbb _⟩
          · have HZ0 := Lib.hid (HY.out (by omega))
            have d1 : decide (y - po1 < x - pm) = false := decide_eq_false hh
            clear HY HX hh
            go_wp2_with fail
            go_quiet (fail)
            go_wp2_with fail
            clear a1 a2
            go_roundw
            case rel => exact ⟨m + 1, by omega, by go_num, HZ0, below_drewN hbb _⟩
            case measure => simp [intOf]; omega
        · obtain rfl : m = V.length := by omega
          have HZ0 := Lib.hid (HRY.out HIN.out)
          go_wp2_with fail
          go_roundw
          case rel => exact ⟨k + 1, by omega, by go_num, Lib.hid (fun j hj => (Nat.lt_succ_iff_lt_or_eq.1 hj).elim (HOK.out j) (fun e => e ▸ HZ0.out)), hbb⟩
          case measure => simp [intOf]; omega
    · obtain rfl : k = V.length := by omega
      have HZ0 := Lib.hid (HCY.out HOK.out)
      go_wp2_with fail
      go_ret2
      exact ⟨by rw [HZ0.out]; rfl, hbb⟩
end Go.Proofs.Ytkibglbccfjkpaa
