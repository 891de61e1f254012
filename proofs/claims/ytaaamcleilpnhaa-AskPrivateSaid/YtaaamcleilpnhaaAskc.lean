/- Package ask's Check. -/
import Derived.Test.YtaaamcleilpnhaaAskm
import Derived.Test.YtaaamcleilpnhaaCheck
namespace Go.Proofs.Ytaaamcleilpnhaa
open Go.RowKit
namespace Ak
theorem chkS_many {cs : List CkD} {n : Nat} (h : 6 < cs.length ∨ 2000 < n) : chkS cs n = 4 := by unfold chkS; rw [if_pos h]
theorem chkS_none {cs : List CkD} {n : Nat} (h : ¬ (6 < cs.length ∨ 2000 < n)) (h0 : cs.length = 0) : chkS cs n = 8 := by unfold chkS; rw [if_neg h, if_pos h0]
theorem chkS_first {cs : List CkD} {n : Nat} (h : ¬ (6 < cs.length ∨ 2000 < n)) (h0 : ¬ cs.length = 0) (he : firstE cs ≠ 0) : chkS cs n = firstE cs := by unfold chkS; rw [if_neg h, if_neg h0, if_neg he]
theorem dAt_lt {l : List CkD} {k : Nat} (h : k < l.length) : dAt l k = l[k] := by unfold dAt; simp [h]
theorem chkS_bad {cs : List CkD} {n k : Nat} (h : ¬ (6 < cs.length ∨ 2000 < n)) (h0 : ¬ cs.length = 0) (he : firstE cs = 0) (hk : k < cs.length) (hne : (dAt cs k).1 ≠ (dAt cs 0).1) : chkS cs n = 8 := by
  unfold chkS
  rw [if_neg h, if_neg h0, if_pos he, if_neg]
  intro hall
  rw [List.all_eq_true] at hall
  have := hall (dAt cs k) (by rw [dAt_lt hk]; exact List.getElem_mem hk)
  exact hne (by simpa using this)
theorem chkS_ok {cs : List CkD} {n : Nat} (h : ¬ (6 < cs.length ∨ 2000 < n)) (h0 : ¬ cs.length = 0) (he : firstE cs = 0) (hall : ∀ k, k < cs.length → (dAt cs k).1 = (dAt cs 0).1) : chkS cs n = 0 := by
  unfold chkS
  rw [if_neg h, if_neg h0, if_pos he, if_pos]
  rw [List.all_eq_true]
  intro c hc
  obtain ⟨k, hk, rfl⟩ := List.mem_iff_getElem.1 hc
  have := hall k hk
  rw [dAt_lt hk] at this
  simpa using this
end Ak
set_option linter.unusedSimpArgs false in
set_option maxHeartbeats 8000000 in
set_option maxRecDepth 100000 in
theorem askCheck_any (A : Option Addr) (ca : Nat) (cs : List CkR) (Q : Option Addr) (m cq : Nat) (w : World) (hm : m ≤ maxLen) (h : IsCs w A cs) :
    Calls Try.prog 70 #[.agg #[.slice A cs.length ca, .slice Q m cq]] w fun e w' => e = .returned (.int .i64 (Ak.chkS (cs.map Ak.dat) m)) ∧ Below w.heap.size w w' := by
  obtain ⟨b, o, hA, hc⟩ := h.at_
  have HC := Lib.hid hc
  have HA := Lib.hid hA
  have HI := Lib.hid (fun k (hk : k < cs.length) => h.all _ (Ak.cat_mem hk))
  have hln := h.len
  clear h hc hA
  unfold maxLen at hm hln
  by_cases h1 : 6 < cs.length
  · have e := Ak.chkS_many (cs := cs.map Ak.dat) (n := m) (.inl (by rw [List.length_map]; exact h1))
    rw [e]
    have d1 : decide ((6 : Int) < (cs.length : Int)) = true := decide_eq_true (by omega)
    clear HC HA HI e h1
    go_enter Try.func70, Try.ntmps70
    go_wp2_with fail
    go_ret
    exact ⟨rfl, below_al (Below.refl _ _) _⟩
  have d1 : decide ((6 : Int) < (cs.length : Int)) = false := decide_eq_false (by omega)
  by_cases h2 : 2000 < m
  · have e := Ak.chkS_many (cs := cs.map Ak.dat) (n := m) (.inr h2)
    rw [e]
    have d2 : decide ((2000 : Int) < (m : Int)) = true := decide_eq_true (by omega)
    clear HC HA HI e h1 h2
    go_enter Try.func70, Try.ntmps70
    go_wp2_with fail
    go_ret
    exact ⟨rfl, below_al (Below.refl _ _) _⟩
  have d2 : decide ((2000 : Int) < (m : Int)) = false := decide_eq_false (by omega)
  have HN := Lib.hid (show ¬ (6 < (cs.map Ak.dat).length ∨ 2000 < m) by rw [List.length_map]; omega)
  by_cases h3 : cs.length = 0
  · have e := Ak.chkS_none (cs := cs.map Ak.dat) (n := m) HN.out (by rw [List.length_map]; exact h3)
    rw [e]
    have d3 : ((cs.length : Int) == 0) = true := by rw [beq_iff_eq]; omega
    clear HC HA HI e h1 h2 h3
    go_enter Try.func70, Try.ntmps70
    go_wp2_with fail
    go_ret
    exact ⟨rfl, below_al (Below.refl _ _) _⟩
  have d3 : ((cs.length : Int) == 0) = false := by rw [beq_eq_false_iff_ne]; omega
  have H3 := Lib.hid (show ¬ (cs.map Ak.dat).length = 0 by rw [List.length_map]; exact h3)
  obtain ⟨R, hR⟩ : ∃ R, Ak.chkS (cs.map Ak.dat) m = R := ⟨_, rfl⟩
  rw [hR]
  have HR := Lib.hid hR
  have h0 : 0 < cs.length := by omega
  clear hR h1 h2 h3
  go_enter Try.func70, Try.ntmps70
  go_upto_region 1 with fail
  refine at_worldQ (fun v => Below w.heap.size w v ∧ BK v w.heap.size [.slice A cs.length ca, .slice Q m cq]) ⟨below_al (Below.refl _ _) _, BK.new w [.slice A cs.length ca, .slice Q m cq] _⟩ (fun V hS => ?_)
  have q0 := hS.2.c 0 rfl
  have q1 := hS.2.c 1 rfl
  go_wp2_with fail
  go_loopw [25] (fun i W => ∃ k : Nat, k ≤ cs.length ∧ i = .int .i64 k ∧ (∀ j, j < k → Ak.ckD (Ak.dAt (cs.map Ak.dat) j) = 0) ∧ Below w.heap.size w W ∧ BK W w.heap.size [.slice A cs.length ca, .slice Q m cq]) (fun i _ => cs.length - (intOf i).toNat)
  case atStart => exact ⟨0, Nat.zero_le _, rfl, fun j hj => absurd hj (Nat.not_lt_zero _), hS⟩
  case round =>
    clear hS q0 q1
    obtain ⟨k, hk, rfl, hok, hbb, B⟩ := hrel
    have HOK := Lib.hid hok
    clear hok
    have q0 := B.c 0 rfl
    by_cases hlt : k < cs.length
    ·
      have hA' := HA.out (by omega)
      subst hA'
      obtain ⟨c, hcc⟩ : ∃ c, Ak.cat cs k = c := ⟨_, rfl⟩
      have c0 := keepC hbb (HC.out k hlt).1
      have c1 := keepC hbb (HC.out k hlt).2.1
      have c2 := keepC hbb (HC.out k hlt).2.2
      have hi := HI.out k hlt
      rw [hcc] at c0 c1 c2 hi
      have i1 : (0 : Int) ≤ (k : Int) := by omega
      have i2 : (k : Int) < (cs.length : Int) := by omega
      have ck := fun v (hv : Below w.heap.size w v) => ckCheck_any c.len c.K c.cuts c.ck c.Z c.dens c.cz v (hi.keep hv)
      have EK := Lib.hid (show Ak.ckD (Ak.dAt (cs.map Ak.dat) k) = Ck.chk c.len c.cuts c.dens by rw [Ak.dAt_map cs hlt, hcc]; rfl)
      by_cases hz : Ck.chk c.len c.cuts c.dens = 0
      · rw [hz] at ck
        have EB := Lib.hid (show Ak.ckD (Ak.dAt (cs.map Ak.dat) k) = 0 by rw [EK.out, hz])
        have CK := Lib.hid ck
        have e0 : ((0 : Int) != 0) = false := rfl
        clear ck hz EK hcc hi
        go_upto_region 8 with fail
        refine at_worldQ (fun v => Below w.heap.size w v ∧ BK v w.heap.size [.slice (some ⟨b, o, none⟩) cs.length ca, .slice Q m cq] ∧ BK v wr.heap.size [.int .i64 c.len, .slice c.K c.cuts.length c.ck, .slice c.Z c.dens.length c.cz]) ⟨below_al hbb _, B.al _, BK.new wr [.int .i64 c.len, .slice c.K c.cuts.length c.ck, .slice c.Z c.dens.length c.cz] _⟩ (fun V1 hS1 => ?_)
        clear hbb B c0 c1 c2 q0
        obtain ⟨hbb, B, B1⟩ := hS1
        have p0 := B1.c 0 rfl
        have p1 := B1.c 1 rfl
        have p2 := B1.c 2 rfl
        go_wp2_with fail
        refine (CK.out _ hbb).mono ?_
        rintro e w5 ⟨rfl, hb5⟩
        replace hbb := keepB hbb hb5
        replace B := B.keep hb5
        clear hb5 p0 p1 p2 B1 CK
        go_wp2_with fail
        go_roundw
        case rel => exact ⟨k + 1, by omega, by go_num, fun j hj => (Nat.lt_succ_iff_lt_or_eq.1 hj).elim (HOK.out j) (fun e => e ▸ EB.out), hbb, B⟩
        case measure => simp [intOf]; omega
      · have EB := Lib.hid (show Ak.chkS (cs.map Ak.dat) m = Ck.chk c.len c.cuts c.dens by
          have := Ak.firstE_take (l := cs.map Ak.dat) (k := k) HOK.out (by simpa using hlt) (by rw [EK.out]; exact hz)
          rw [Ak.chkS_first HN.out H3.out (by rw [this, EK.out]; exact hz), this, EK.out])
        have n1 : (Ck.chk c.len c.cuts c.dens != 0) = true := by rw [bne_iff_ne]; exact hz
        generalize Ck.chk c.len c.cuts c.dens = z at *
        have CK := Lib.hid ck
        clear ck hz EK hcc hi
        go_upto_region 8 with fail
        refine at_worldQ (fun v => Below w.heap.size w v ∧ BK v w.heap.size [.slice (some ⟨b, o, none⟩) cs.length ca, .slice Q m cq] ∧ BK v wr.heap.size [.int .i64 c.len, .slice c.K c.cuts.length c.ck, .slice c.Z c.dens.length c.cz]) ⟨below_al hbb _, B.al _, BK.new wr [.int .i64 c.len, .slice c.K c.cuts.length c.ck, .slice c.Z c.dens.length c.cz] _⟩ (fun V1 hS1 => ?_)
        clear hbb B c0 c1 c2 q0
        obtain ⟨hbb, B, B1⟩ := hS1
        have p0 := B1.c 0 rfl
        have p1 := B1.c 1 rfl
        have p2 := B1.c 2 rfl
        go_wp2_with fail
        refine (CK.out _ hbb).mono ?_
        rintro e w5 ⟨rfl, hb5⟩
        replace hbb := keepB hbb hb5
        clear B
        clear hb5 p0 p1 p2 B1
        have eR := HR.out.symm.trans EB.out
        subst eR
        go_wp2_with fail
        go_ret
        exact ⟨rfl, hbb⟩
    · obtain rfl : k = cs.length := by omega
      have HE := Lib.hid (Ak.firstE_zero (l := cs.map Ak.dat) (fun j hj => HOK.out j (by simpa using hj)))
      clear HOK hlt

      have q0 := B.c 0 rfl
      go_wp2_with fail
      go_loopw [38] (fun i W => ∃ k : Nat, k ≤ cs.length ∧ i = .int .i64 k ∧ (∀ j, j < k → (Ak.dAt (cs.map Ak.dat) j).1 = (Ak.dAt (cs.map Ak.dat) 0).1) ∧ Below w.heap.size w W ∧ BK W w.heap.size [.slice A cs.length ca, .slice Q m cq]) (fun i _ => cs.length - (intOf i).toNat)
      case atStart => exact ⟨0, Nat.zero_le _, rfl, fun j hj => absurd hj (Nat.not_lt_zero _), hbb, B⟩
      case round =>
        clear hbb B q0
        obtain ⟨k, hk, rfl, hok, hbb, B⟩ := hrel
        have HOK := Lib.hid hok
        clear hok
        have q0 := B.c 0 rfl
        by_cases hlt : k < cs.length
        · have HK := Lib.hid (show k < (cs.map Ak.dat).length by rw [List.length_map]; exact hlt)
          have hA' := HA.out (by omega)
          subst hA'
          obtain ⟨c, hcc⟩ : ∃ c, Ak.cat cs k = c := ⟨_, rfl⟩
          have c0 := keepC hbb (HC.out k hlt).1
          have c1 := keepC hbb (HC.out k hlt).2.1
          have c2 := keepC hbb (HC.out k hlt).2.2
          have hi := HI.out k hlt
          rw [hcc] at c0 c1 c2 hi
          have i1 : (0 : Int) ≤ (k : Int) := by omega
          have i2 : (k : Int) < (cs.length : Int) := by omega
          have z0 := keepC hbb (HC.out 0 h0).1
          rw [Nat.zero_mul, Nat.add_zero] at z0
          obtain ⟨l, hl⟩ : ∃ l, c.len = l := ⟨_, rfl⟩
          obtain ⟨l0, hl0⟩ : ∃ l0, (Ak.cat cs 0).len = l0 := ⟨_, rfl⟩
          rw [hl0] at z0
          rw [hl] at c0
          by_cases hll : l = l0
          · have EB := Lib.hid (show (Ak.dAt (cs.map Ak.dat) k).1 = (Ak.dAt (cs.map Ak.dat) 0).1 by rw [Ak.dAt_map cs hlt, Ak.dAt_map cs h0, hcc]; show c.len = _; rw [hl, hll, ← hl0]; rfl)
            subst hll
            clear hl hl0 hcc hi
            go_upto_region 15 with fail
            refine at_worldQ (fun v => Below w.heap.size w v ∧ BK v w.heap.size [.slice (some ⟨b, o, none⟩) cs.length ca, .slice Q m cq] ∧ v.cell? ⟨wr.heap.size, 0, none⟩ = some (.int .i64 l) ∧ v.cell? ⟨b, o, none⟩ = some (.int .i64 l)) ⟨below_al hbb _, B.al _, n30 _ _ _ _ _, cell_alloc z0 _⟩ (fun V2 hS => ?_)
            clear hbb B z0 c0 c1 c2
            obtain ⟨hbb, B, p0, z0⟩ := hS
            have q0 := B.c 0 rfl
            refine wp_region_noPanic ?_
            refine wp_region_held_drew (S := (Below V2.heap.size V2)) (by kernel_rfl) ((Below.refl _ _).drew) (fun hHeld => ?_)
            refine at_anyH (Below V2.heap.size V2) hHeld (fun wq1140 hNew => ?_)
            clear hHeld
            have hHeld := hNew
            clear hNew
            refine wpAnyH_take (i := 0) (oi := _) (v := ?vq1141) rfl (by kernel_rfl) (by kernel_rfl) (by kernel_rfl) (fun _ _ _ h => h) (Or.inl ⟨by kernel_rfl, ?hyq1141⟩) hHeld ?restq1141
            case hyq1141 => (intro w hSw; go_simp; first | done | (with_reducible rfl))
            try simp only [Act.put, PA, PB]
            refine wpAnyH_take (i := 1) (oi := _) (v := ?vq1142) rfl (by kernel_rfl) (by kernel_rfl) (by kernel_rfl) (fun _ _ _ h => h) (Or.inl ⟨by kernel_rfl, ?hyq1142⟩) hHeld ?restq1142
            case hyq1142 => (intro w hSw; have kp0 := keepC hSw p0; have kq0 := keepC hSw q0; have kz0 := keepC hSw z0; go_simp; first | done | (with_reducible rfl))
            try simp only [Act.put, PA, PB]
            refine wpAnyH_take (i := 2) (oi := _) (v := ?vq1143) rfl (by kernel_rfl) (by kernel_rfl) (by kernel_rfl) (fun _ _ _ h => h) (Or.inl ⟨by kernel_rfl, ?hyq1143⟩) hHeld ?restq1143
            case hyq1143 => (intro w hSw; go_simp; first | done | (with_reducible rfl))
            try simp only [Act.put, PA, PB]
            refine wpAnyH_take (i := 3) (oi := _) (v := ?vq1144) rfl (by kernel_rfl) (by kernel_rfl) (by kernel_rfl) (fun _ _ _ h => h) (Or.inl ⟨by kernel_rfl, ?hyq1144⟩) hHeld ?restq1144
            case hyq1144 => (intro w hSw; have kp0 := keepC hSw p0; have kq0 := keepC hSw q0; have kz0 := keepC hSw z0; go_simp; first | done | (with_reducible rfl))
            try simp only [Act.put, PA, PB]
            refine wpAnyH_take (i := 4) (oi := _) (v := ?vq1145) rfl (by kernel_rfl) (by kernel_rfl) (by kernel_rfl) (fun _ _ _ h => h) (Or.inl ⟨by kernel_rfl, ?hyq1145⟩) hHeld ?restq1145
            case hyq1145 => (intro w hSw; go_simp; first | done | (with_reducible rfl))
            try simp only [Act.put, PA, PB]
            refine wpAnyH_take (i := 5) (oi := _) (v := ?vq1146) rfl (by kernel_rfl) (by kernel_rfl) (by kernel_rfl) (fun _ _ _ h => h) (Or.inl ⟨by kernel_rfl, ?hyq1146⟩) hHeld ?restq1146
            case hyq1146 => (intro w hSw; go_simp; first | done | (with_reducible rfl))
            try simp only [Act.put, PA, PB]
            refine wpAnyH_take (i := 6) (oi := _) (v := ?vq1147) rfl (by kernel_rfl) (by kernel_rfl) (by kernel_rfl) (fun _ _ _ h => h) (Or.inl ⟨by kernel_rfl, ?hyq1147⟩) hHeld ?restq1147
            case hyq1147 => (intro w hSw; have kp0 := keepC hSw p0; have kq0 := keepC hSw q0; have kz0 := keepC hSw z0; go_simp; first | done | (with_reducible rfl))
            try simp only [Act.put, PA, PB]
            refine wpAnyH_take (i := 7) (oi := _) (v := ?vq1148) rfl (by kernel_rfl) (by kernel_rfl) (by kernel_rfl) (fun _ _ _ h => h) (Or.inl ⟨by kernel_rfl, ?hyq1148⟩) hHeld ?restq1148
            case hyq1148 => (intro w hSw; go_simp; first | done | (with_reducible rfl))
            try simp only [Act.put, PA, PB]
            refine wpAnyH_done (by kernel_rfl) ?_ _
            refine NoPanic.normal ?_
            replace hbb := keepB hbb hHeld
            replace B := B.keep hHeld
            clear hHeld
            go_wp2_with fail
            go_roundw
            case rel => exact ⟨k + 1, by omega, by go_num, fun j hj => (Nat.lt_succ_iff_lt_or_eq.1 hj).elim (HOK.out j) (fun e => e ▸ EB.out), hbb, B⟩
            case measure => simp [intOf]; omega
          · have EB := Lib.hid (show (Ak.dAt (cs.map Ak.dat) k).1 ≠ (Ak.dAt (cs.map Ak.dat) 0).1 by rw [Ak.dAt_map cs hlt, Ak.dAt_map cs h0, hcc]; show c.len ≠ (Ak.cat cs 0).len; rw [hl, hl0]; exact hll)
            have HNE := Lib.hid hll
            clear hl hl0 hcc hi hll
            go_upto_region 15 with fail
            refine at_worldQ (fun v => Below w.heap.size w v ∧ BK v w.heap.size [.slice (some ⟨b, o, none⟩) cs.length ca, .slice Q m cq] ∧ v.cell? ⟨wr.heap.size, 0, none⟩ = some (.int .i64 l) ∧ v.cell? ⟨b, o, none⟩ = some (.int .i64 l0)) ⟨below_al hbb _, B.al _, n30 _ _ _ _ _, cell_alloc z0 _⟩ (fun V2 hS => ?_)
            clear hbb B z0 c0 c1 c2
            obtain ⟨hbb, B, p0, z0⟩ := hS
            have q0 := B.c 0 rfl
            refine wp_region_noPanic ?_
            refine wp_region_held_drew (S := (Below V2.heap.size V2)) (by kernel_rfl) ((Below.refl _ _).drew) (fun hHeld => ?_)
            refine at_anyH (Below V2.heap.size V2) hHeld (fun wr1140 hNew => ?_)
            clear hHeld
            have hHeld := hNew
            clear hNew
            refine wpAnyH_take (i := 0) (oi := _) (v := ?vr1141) rfl (by kernel_rfl) (by kernel_rfl) (by kernel_rfl) (fun _ _ _ h => h) (Or.inl ⟨by kernel_rfl, ?hyr1141⟩) hHeld ?restr1141
            case hyr1141 => (intro w hSw; go_simp; first | done | (with_reducible rfl))
            try simp only [Act.put, PA, PB]
            refine wpAnyH_take (i := 1) (oi := _) (v := ?vr1142) rfl (by kernel_rfl) (by kernel_rfl) (by kernel_rfl) (fun _ _ _ h => h) (Or.inl ⟨by kernel_rfl, ?hyr1142⟩) hHeld ?restr1142
            case hyr1142 => (intro w hSw; have kp0 := keepC hSw p0; have kq0 := keepC hSw q0; have kz0 := keepC hSw z0; go_simp; first | done | (with_reducible rfl))
            try simp only [Act.put, PA, PB]
            refine wpAnyH_take (i := 2) (oi := _) (v := ?vr1143) rfl (by kernel_rfl) (by kernel_rfl) (by kernel_rfl) (fun _ _ _ h => h) (Or.inl ⟨by kernel_rfl, ?hyr1143⟩) hHeld ?restr1143
            case hyr1143 => (intro w hSw; go_simp; first | done | (with_reducible rfl))
            try simp only [Act.put, PA, PB]
            refine wpAnyH_take (i := 3) (oi := _) (v := ?vr1144) rfl (by kernel_rfl) (by kernel_rfl) (by kernel_rfl) (fun _ _ _ h => h) (Or.inl ⟨by kernel_rfl, ?hyr1144⟩) hHeld ?restr1144
            case hyr1144 => (intro w hSw; have kp0 := keepC hSw p0; have kq0 := keepC hSw q0; have kz0 := keepC hSw z0; go_simp; first | done | (with_reducible rfl))
            try simp only [Act.put, PA, PB]
            refine wpAnyH_take (i := 4) (oi := _) (v := ?vr1145) rfl (by kernel_rfl) (by kernel_rfl) (by kernel_rfl) (fun _ _ _ h => h) (Or.inl ⟨by kernel_rfl, ?hyr1145⟩) hHeld ?restr1145
            case hyr1145 => (intro w hSw; go_simp; first | done | (with_reducible rfl))
            try simp only [Act.put, PA, PB]
            refine wpAnyH_take (i := 5) (oi := _) (v := ?vr1146) rfl (by kernel_rfl) (by kernel_rfl) (by kernel_rfl) (fun _ _ _ h => h) (Or.inl ⟨by kernel_rfl, ?hyr1146⟩) hHeld ?restr1146
            case hyr1146 => (intro w hSw; go_simp; first | done | (with_reducible rfl))
            try simp only [Act.put, PA, PB]
            refine wpAnyH_take (i := 6) (oi := _) (v := ?vr1147) rfl (by kernel_rfl) (by kernel_rfl) (by kernel_rfl) (fun _ _ _ h => h) (Or.inl ⟨by kernel_rfl, ?hyr1147⟩) hHeld ?restr1147
            case hyr1147 => (intro w hSw; have kp0 := keepC hSw p0; have kq0 := keepC hSw q0; have kz0 := keepC hSw z0; go_simp; first | done | (with_reducible rfl))
            try simp only [Act.put, PA, PB]
            refine wpAnyH_take (i := 7) (oi := _) (v := .bool true) rfl (by kernel_rfl) (by kernel_rfl) (by kernel_rfl) (fun _ _ _ h => h) (Or.inl ⟨by kernel_rfl, ?_⟩) hHeld ?_
            · intro w hSw
              have kp0 := keepC hSw p0
              have kq0 := keepC hSw q0
              have kz0 := keepC hSw z0
              go_simp
              exact HNE.out
            try simp only [Act.put, PA, PB]
            refine wpAnyH_done (by kernel_rfl) ?_ _
            refine NoPanic.normal ?_
            replace hbb := keepB hbb hHeld
            clear hHeld
            have eR := HR.out.symm.trans (Ak.chkS_bad HN.out H3.out HE.out HK.out EB.out)
            subst eR
            go_wp2_with fail
            go_ret
            exact ⟨rfl, hbb⟩
        · obtain rfl : k = cs.length := by omega
          have eR := HR.out.symm.trans (Ak.chkS_ok HN.out H3.out HE.out (fun j hj => HOK.out j (by simpa using hj)))
          subst eR
          clear HOK HA HC HI
          go_wp2_with fail
          go_ret
          exact ⟨rfl, hbb⟩

end Go.Proofs.Ytaaamcleilpnhaa
