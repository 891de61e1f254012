/- The reference's Check of desks. Same of equal divisions, of equal lists of agents. -/
import Derived.Test.YtniagnldiegamaaGreatGi
import Derived.Test.YtniagnldiegamaaGreatRcheck
import Derived.Test.YtniagnldiegamaaGreatGk
import Derived.Test.YtniagnldiegamaaGreatTree
import Derived.Deep.CutBlock
import Derived.Deep.DeepCutAuto
set_option linter.unusedSimpArgs false
set_option maxHeartbeats 8000000
set_option maxRecDepth 100000
namespace Go.Proofs.YtniagnldiegamaaGreat
open Go.RowKit
theorem rAskCheck_any (A : Option Addr) (ca : Nat) (cs : List CkR) (Q : Option Addr) (m cq : Nat) (w : World) (hm : m ≤ maxLen) (h : IsCs w A cs) :
    Calls Tryz.prog 56 #[.agg #[.slice A cs.length ca, .slice Q m cq]] w fun e w' => e = .returned (.int .i64 (Ak.chkS (cs.map Ak.dat) m)) ∧ Below w.heap.size w w' := by
  obtain ⟨b, o, hA, hc⟩ := h.at_; have HC := Lib.hid hc; have HA := Lib.hid hA; have HI := Lib.hid (fun k (hk : k < cs.length) => h.all _ (Ak.cat_mem hk)); have hln := h.len; clear h hc hA
  unfold maxLen at hm hln
  by_cases h1 : 6 < cs.length
  · have e := Ak.chkS_many (cs := cs.map Ak.dat) (n := m) (.inl (by rw [List.length_map]; exact h1))
    rw [e]; have d1 : decide ((6 : Int) < (cs.length : Int)) = true := decide_eq_true (by omega); clear HC HA HI e h1
    go_enter Tryz.func56, Tryz.ntmps56
    go_wp2_with fail
    go_ret
    exact ⟨rfl, below_al (Below.refl _ _) _⟩
  have d1 : decide ((6 : Int) < (cs.length : Int)) = false := decide_eq_false (by omega)
  by_cases h2 : 2000 < m
  · have e := Ak.chkS_many (cs := cs.map Ak.dat) (n := m) (.inr h2)
    rw [e]; have d2 : decide ((2000 : Int) < (m : Int)) = true := decide_eq_true (by omega); clear HC HA HI e h1 h2
    go_enter Tryz.func56, Tryz.ntmps56
    go_wp2_with fail
    go_ret
    exact ⟨rfl, below_al (Below.refl _ _) _⟩
  have d2 : decide ((2000 : Int) < (m : Int)) = false := decide_eq_false (by omega); have HN := Lib.hid (show ¬ (6 < (cs.map Ak.dat).length ∨ 2000 < m) by rw [List.length_map]; omega)
  by_cases h3 : cs.length = 0
  · have e := Ak.chkS_none (cs := cs.map Ak.dat) (n := m) HN.out (by rw [List.length_map]; exact h3)
    rw [e]
    have d3 : ((cs.length : Int) == 0) = true := by rw [beq_iff_eq]; omega
    clear HC HA HI e h1 h2 h3
    go_enter Tryz.func56, Tryz.ntmps56
    go_wp2_with fail
    go_ret
    exact ⟨rfl, below_al (Below.refl _ _) _⟩
  have d3 : ((cs.length : Int) == 0) = false := by rw [beq_eq_false_iff_ne]; omega
  have H3 := Lib.hid (show ¬ (cs.map Ak.dat).length = 0 by rw [List.length_map]; exact h3); obtain ⟨R, hR⟩ : ∃ R, Ak.chkS (cs.map Ak.dat) m = R := ⟨_, rfl⟩; rw [hR]; have HR := Lib.hid hR
  have h0 : 0 < cs.length := by omega
  clear hR h1 h2 h3
  go_enter Tryz.func56, Tryz.ntmps56
  go_upto_region 1 with fail
  refine at_worldQ (fun v => Below w.heap.size w v ∧ BK v w.heap.size [.slice A cs.length ca, .slice Q m cq]) ⟨below_al (Below.refl _ _) _, BK.new w [.slice A cs.length ca, .slice Q m cq] _⟩ (fun V hS => ?_); have q0 := hS.2.c 0 rfl; have q1 := hS.2.c 1 rfl; (go_wp2_with fail)
  go_loopw [3] (fun i W => ∃ k : Nat, k ≤ cs.length ∧ i = .int .i64 k ∧ (∀ j, j < k → Ak.ckD (Ak.dAt (cs.map Ak.dat) j) = 0) ∧ Below w.heap.size w W ∧ BK W w.heap.size [.slice A cs.length ca, .slice Q m cq]) (fun i _ => cs.length - (intOf i).toNat)
  case atStart => exact ⟨0, Nat.zero_le _, rfl, fun j hj => absurd hj (Nat.not_lt_zero _), hS⟩
  case round =>
    clear hS q0 q1; obtain ⟨k, hk, rfl, hok, hbb, B⟩ := hrel; have HOK := Lib.hid hok; clear hok; have q0 := B.c 0 rfl
    by_cases hlt : k < cs.length
    ·
      have hA' := HA.out (by omega); subst hA'; obtain ⟨c, hcc⟩ : ∃ c, Ak.cat cs k = c := ⟨_, rfl⟩; have c0 := keepC hbb (HC.out k hlt).1; have c1 := keepC hbb (HC.out k hlt).2.1; have c2 := keepC hbb (HC.out k hlt).2.2; have hi := HI.out k hlt; rw [hcc] at c0 c1 c2 hi
      have i1 : (0 : Int) ≤ (k : Int) := by omega
      have i2 : (k : Int) < (cs.length : Int) := by omega
      have ck := fun v (hv : Below w.heap.size w v) => rckCheck_any c.len c.K c.cuts c.ck c.Z c.dens c.cz v (hi.keep hv)
      have EK := Lib.hid (show Ak.ckD (Ak.dAt (cs.map Ak.dat) k) = Ck.chk c.len c.cuts c.dens by rw [Ak.dAt_map cs hlt, hcc]; rfl)
      by_cases hz : Ck.chk c.len c.cuts c.dens = 0
      · rw [hz] at ck
        have EB := Lib.hid (show Ak.ckD (Ak.dAt (cs.map Ak.dat) k) = 0 by rw [EK.out, hz]); have CK := Lib.hid ck; have e0 : ((0 : Int) != 0) = false := rfl; clear ck hz EK hcc hi; (go_wp2_with fail); refine (CK.out _ hbb).mono ?_; rintro e w5 ⟨rfl, hb5⟩; replace hbb := keepB hbb hb5; replace B := B.keep hb5; clear hb5; (go_wp2_with fail)
        go_roundw
        case rel => exact ⟨k + 1, by omega, by go_num, fun j hj => (Nat.lt_succ_iff_lt_or_eq.1 hj).elim (HOK.out j) (fun e => e ▸ EB.out), hbb, B⟩
        case measure => simp [intOf]; omega
      · have EB := Lib.hid (show Ak.chkS (cs.map Ak.dat) m = Ck.chk c.len c.cuts c.dens by
          have := Ak.firstE_take (l := cs.map Ak.dat) (k := k) HOK.out (by simpa using hlt) (by rw [EK.out]; exact hz)
          rw [Ak.chkS_first HN.out H3.out (by rw [this, EK.out]; exact hz), this, EK.out])
        have n1 : (Ck.chk c.len c.cuts c.dens != 0) = true := by rw [bne_iff_ne]; exact hz
        generalize Ck.chk c.len c.cuts c.dens = z at *
        have CK := Lib.hid ck; clear ck hz EK  hi; (go_wp2_with fail); refine (CK.out _ hbb).mono ?_; rintro e w5 ⟨rfl, hb5⟩; replace hbb := keepB hbb hb5; replace B := B.keep hb5; clear hb5 c0 c1 c2 q0; have q0 := B.c 0 rfl; have c0 := keepC hbb (HC.out k hlt).1; have c1 := keepC hbb (HC.out k hlt).2.1; have c2 := keepC hbb (HC.out k hlt).2.2; rw [hcc] at c0 c1 c2; clear hcc; have eR := HR.out.symm.trans EB.out; subst eR; (go_wp2_with fail); refine (CK.out _ hbb).mono ?_; rintro e w6 ⟨rfl, hb6⟩; replace hbb := keepB hbb hb6; clear c0 c1 c2 q0; (go_wp2_with fail)
        go_ret
        exact ⟨rfl, hbb⟩
    · obtain rfl : k = cs.length := by omega
      have HE := Lib.hid (Ak.firstE_zero (l := cs.map Ak.dat) (fun j hj => HOK.out j (by simpa using hj))); clear HOK hlt; have q0 := B.c 0 rfl

      go_wp2_with fail
      go_loopw [4] (fun i W => ∃ k : Nat, k ≤ cs.length ∧ i = .int .i64 k ∧ (∀ j, j < k → (Ak.dAt (cs.map Ak.dat) j).1 = (Ak.dAt (cs.map Ak.dat) 0).1) ∧ Below w.heap.size w W ∧ BK W w.heap.size [.slice A cs.length ca, .slice Q m cq]) (fun i _ => cs.length - (intOf i).toNat)
      case atStart => exact ⟨0, Nat.zero_le _, rfl, fun j hj => absurd hj (Nat.not_lt_zero _), hbb, B⟩
      case round =>
        clear hbb B q0; obtain ⟨k, hk, rfl, hok, hbb, B⟩ := hrel; have HOK := Lib.hid hok; clear hok; have q0 := B.c 0 rfl
        by_cases hlt : k < cs.length
        · have HK := Lib.hid (show k < (cs.map Ak.dat).length by rw [List.length_map]; exact hlt)
          have hA' := HA.out (by omega); subst hA'; obtain ⟨c, hcc⟩ : ∃ c, Ak.cat cs k = c := ⟨_, rfl⟩; have c0 := keepC hbb (HC.out k hlt).1; have c1 := keepC hbb (HC.out k hlt).2.1; have c2 := keepC hbb (HC.out k hlt).2.2; have hi := HI.out k hlt; rw [hcc] at c0 c1 c2 hi
          have i1 : (0 : Int) ≤ (k : Int) := by omega
          have i2 : (k : Int) < (cs.length : Int) := by omega
          have z0 := keepC hbb (HC.out 0 h0).1; rw [Nat.zero_mul, Nat.add_zero] at z0; obtain ⟨l, hl⟩ : ∃ l, c.len = l := ⟨_, rfl⟩; obtain ⟨l0, hl0⟩ : ∃ l0, (Ak.cat cs 0).len = l0 := ⟨_, rfl⟩; rw [hl0] at z0; rw [hl] at c0
          by_cases hll : l = l0
          · have EB := Lib.hid (show (Ak.dAt (cs.map Ak.dat) k).1 = (Ak.dAt (cs.map Ak.dat) 0).1 by rw [Ak.dAt_map cs hlt, Ak.dAt_map cs h0, hcc]; show c.len = _; rw [hl, hll, ← hl0]; rfl)
            subst hll; clear hl hl0 hcc hi
            go_upto_region 13 with fail
            refine at_worldQ (fun v => Below w.heap.size w v ∧ BK v w.heap.size [.slice (some ⟨b, o, none⟩) cs.length ca, .slice Q m cq] ∧ v.cell? ⟨b, o + k * 3, none⟩ = some (.int .i64 l) ∧ v.cell? ⟨b, o, none⟩ = some (.int .i64 l)) ⟨hbb, B, c0, z0⟩ (fun V2 hS => ?_); clear hbb B z0 c0 c1 c2; obtain ⟨hbb, B, p0, z0⟩ := hS; have q0 := B.c 0 rfl; refine wp_region_noPanic ?_; refine wp_region_held_drew (S := (Below V2.heap.size V2)) (by kernel_rfl) ((Below.refl _ _).drew) (fun hHeld => ?_); refine at_anyH (Below V2.heap.size V2) hHeld (fun wq700 hNew => ?_); clear hHeld; have hHeld := hNew; clear hNew; refine tkd 0 ?_; (try simp only [PPz]); refine tkm 1 rfl hHeld (fun w hSw => by have kp0 := keepC hSw p0; have kq0 := keepC hSw q0; have kz0 := keepC hSw z0; go_simp <;> with_reducible rfl) ?_; (try simp only [PPz]); refine tkd 2 ?_; refine tkd 3 ?_; refine tkd 4 ?_; (try simp only [PPz]); refine tkm 5 rfl hHeld (fun w hSw => by have kp0 := keepC hSw p0; have kq0 := keepC hSw q0; have kz0 := keepC hSw z0; go_simp <;> with_reducible rfl) ?_; (try simp only [PPz]); refine tkd 6 ?_; (try simp only [PPz]); refine tkm 7 rfl hHeld (fun w hSw => by have kp0 := keepC hSw p0; have kq0 := keepC hSw q0; have kz0 := keepC hSw z0; go_simp <;> with_reducible rfl) ?_; (try simp only [PPz]); refine tkd 8 ?_; refine tkd 9 ?_; (try simp only [PPz]); refine tkm 10 rfl hHeld (fun w hSw => by have kp0 := keepC hSw p0; have kq0 := keepC hSw q0; have kz0 := keepC hSw z0; go_simp <;> with_reducible rfl) ?_; (try simp only [PPz]); refine tkd 11 ?_; (try simp only [PPz]); refine wpAnyH_done (by kernel_rfl) ?_ _; refine NoPanic.normal ?_; replace hbb := keepB hbb hHeld; replace B := B.keep hHeld; clear hHeld; (go_wp2_with fail)
            go_roundw
            case rel => exact ⟨k + 1, by omega, by go_num, fun j hj => (Nat.lt_succ_iff_lt_or_eq.1 hj).elim (HOK.out j) (fun e => e ▸ EB.out), hbb, B⟩
            case measure => simp [intOf]; omega
          · have EB := Lib.hid (show (Ak.dAt (cs.map Ak.dat) k).1 ≠ (Ak.dAt (cs.map Ak.dat) 0).1 by rw [Ak.dAt_map cs hlt, Ak.dAt_map cs h0, hcc]; show c.len ≠ (Ak.cat cs 0).len; rw [hl, hl0]; exact hll)
            have HNE := Lib.hid hll; clear hl hl0 hcc hi hll
            go_upto_region 13 with fail
            refine at_worldQ (fun v => Below w.heap.size w v ∧ BK v w.heap.size [.slice (some ⟨b, o, none⟩) cs.length ca, .slice Q m cq] ∧ v.cell? ⟨b, o + k * 3, none⟩ = some (.int .i64 l) ∧ v.cell? ⟨b, o, none⟩ = some (.int .i64 l0)) ⟨hbb, B, c0, z0⟩ (fun V2 hS => ?_); clear hbb B z0 c0 c1 c2; obtain ⟨hbb, B, p0, z0⟩ := hS; have q0 := B.c 0 rfl; refine wp_region_noPanic ?_; refine wp_region_held_drew (S := (Below V2.heap.size V2)) (by kernel_rfl) ((Below.refl _ _).drew) (fun hHeld => ?_); refine at_anyH (Below V2.heap.size V2) hHeld (fun wr700 hNew => ?_); clear hHeld; have hHeld := hNew; clear hNew; refine tkd 0 ?_; (try simp only [PPz]); refine tkm 1 rfl hHeld (fun w hSw => by have kp0 := keepC hSw p0; have kq0 := keepC hSw q0; have kz0 := keepC hSw z0; go_simp <;> with_reducible rfl) ?_; (try simp only [PPz]); refine tkd 2 ?_; refine tkd 3 ?_; refine tkd 4 ?_; (try simp only [PPz]); refine tkm 5 rfl hHeld (fun w hSw => by have kp0 := keepC hSw p0; have kq0 := keepC hSw q0; have kz0 := keepC hSw z0; go_simp <;> with_reducible rfl) ?_; (try simp only [PPz]); refine tkd 6 ?_; (try simp only [PPz]); refine tkm 7 rfl hHeld (fun w hSw => by have kp0 := keepC hSw p0; have kq0 := keepC hSw q0; have kz0 := keepC hSw z0; go_simp <;> with_reducible rfl) ?_; (try simp only [PPz]); refine tkd 8 ?_; refine tkd 9 ?_; (try simp only [PPz]); refine tkm 10 rfl hHeld (fun w hSw => by have kp0 := keepC hSw p0; have kq0 := keepC hSw q0; have kz0 := keepC hSw z0; go_simp <;> with_reducible rfl) ?_; (try simp only [PPz]); refine tkn 11 (.bool true) rfl ?_ hHeld ?_
            · intro w hSw
              have kp0 := keepC hSw p0; have kq0 := keepC hSw q0; have kz0 := keepC hSw z0; go_simp; exact HNE.out
            (try simp only [PPz]); refine wpAnyH_done (by kernel_rfl) ?_ _; refine NoPanic.normal ?_; replace hbb := keepB hbb hHeld; clear hHeld; have eR := HR.out.symm.trans (Ak.chkS_bad HN.out H3.out HE.out HK.out EB.out); subst eR; (go_wp2_with fail)
            go_ret
            exact ⟨rfl, hbb⟩
        · obtain rfl : k = cs.length := by omega
          have eR := HR.out.symm.trans (Ak.chkS_ok HN.out H3.out HE.out (fun j hj => HOK.out j (by simpa using hj))); subst eR; clear HOK HA HC HI; (go_wp2_with fail)
          go_ret
          exact ⟨rfl, hbb⟩

end Go.Proofs.YtniagnldiegamaaGreat
namespace Go.Proofs.YtniagnldiegamaaGreat
open Go.RowKit
theorem same1_eq (g h : Nat) (a b c d : Int) (w : World) (B1 : BK w g [.int .i64 a, .int .i64 b, .int .i64 c, .int .i64 d]) (B2 : BK w h [.int .i64 a, .int .i64 b, .int .i64 c, .int .i64 d]) :
    Calls Tryz.prog 34 #[.slice (some ⟨g, 0, none⟩) 1 1, .slice (some ⟨h, 0, none⟩) 1 1] w fun e w' => e = .returned (.bool true) ∧ Below w.heap.size w w' := by
  have HB1 := Lib.hid B1; have HB2 := Lib.hid B2; clear B1 B2
  go_enter Tryz.func34, Tryz.ntmps34
  go_wp2_with fail
  go_loopw [5] (fun i W => ∃ k : Nat, k ≤ 1 ∧ i = .int .i64 k ∧ Below w.heap.size w W) (fun i _ => 1 - (intOf i).toNat)
  case atStart => exact ⟨0, by omega, rfl, Below.refl _ _⟩
  case round =>
    obtain ⟨k, hk, rfl, hbb⟩ := hrel
    rcases (show k = 0 ∨ k = 1 by omega) with rfl | rfl
    · go_upto_region 6 with fail
      refine at_worldQ (fun v => Below w.heap.size w v) hbb (fun V hS => ?_); clear hbb; have hbb := hS; clear hS; have c0 := keepC hbb (HB1.out.c 0 rfl); have c1 := keepC hbb (HB1.out.c 1 rfl); have c2 := keepC hbb (HB1.out.c 2 rfl); have c3 := keepC hbb (HB1.out.c 3 rfl); have d0 := keepC hbb (HB2.out.c 0 rfl); have d1 := keepC hbb (HB2.out.c 1 rfl); have d2 := keepC hbb (HB2.out.c 2 rfl); have d3 := keepC hbb (HB2.out.c 3 rfl); refine wp_region_noPanic ?_; refine wp_region_held_drew (S := (Below V.heap.size V)) (by kernel_rfl) ((Below.refl _ _).drew) (fun hHeld => ?_); refine at_anyH (Below V.heap.size V) hHeld (fun wq0 hNew => ?_); clear hHeld; have hHeld := hNew; clear hNew; refine tkd 0 ?_; refine tkd 1 ?_; refine tkd 2 ?_; (try simp only [PPz]); refine tkm 3 rfl hHeld (fun w hSw => by have kc0 := keepC hSw c0; have kc1 := keepC hSw c1; have kc2 := keepC hSw c2; have kc3 := keepC hSw c3; have kd0 := keepC hSw d0; have kd1 := keepC hSw d1; have kd2 := keepC hSw d2; have kd3 := keepC hSw d3; go_simp <;> with_reducible rfl) ?_; (try simp only [PPz]); refine tkd 4 ?_; refine tkd 5 ?_; refine tkd 6 ?_; (try simp only [PPz]); refine tkm 7 rfl hHeld (fun w hSw => by have kc0 := keepC hSw c0; have kc1 := keepC hSw c1; have kc2 := keepC hSw c2; have kc3 := keepC hSw c3; have kd0 := keepC hSw d0; have kd1 := keepC hSw d1; have kd2 := keepC hSw d2; have kd3 := keepC hSw d3; go_simp <;> with_reducible rfl) ?_; (try simp only [PPz]); refine tkd 8 ?_; (try simp only [PPz]); refine wpAnyH_done (by kernel_rfl) ?_ _; refine NoPanic.normal ?_
      skip
      replace hbb := keepB hbb hHeld; clear hHeld; (go_wp2_with fail)
      go_roundw
      case rel => exact ⟨1, by omega, by go_num, hbb⟩
      case measure => simp [intOf]
    · go_wp2_with fail
      go_ret
      exact ⟨rfl, hbb⟩
def qcells4 (q : Int × Int × Int × Int) : List Value := [.int .i64 q.1, .int .i64 q.2.1, .int .i64 q.2.2.1, .int .i64 q.2.2.2]
theorem sameDivN_eq (P R n : Nat) (GA GB : Nat → Nat) (S : Nat → Int × Int × Int × Int) (w : World) (hn : n ≤ 6) (hP : BK w P ((List.range n).map fun k => .slice (some ⟨GA k, 0, none⟩) 1 1)) (hR : BK w R ((List.range n).map fun k => .slice (some ⟨GB k, 0, none⟩) 1 1)) (hA : ∀ k, k < n → BK w (GA k) (qcells4 (S k))) (hB : ∀ k, k < n → BK w (GB k) (qcells4 (S k))) :
    Calls Tryz.prog 13 #[.agg #[.slice (some ⟨P, 0, none⟩) n n], .agg #[.slice (some ⟨R, 0, none⟩) n n]] w fun e w' => e = .returned (.bool true) ∧ Below w.heap.size w w' := by
  have sk := fun k (hk : k < n) v (hv : Below w.heap.size w v) => same1_eq (GA k) (GB k) (S k).1 (S k).2.1 (S k).2.2.1 (S k).2.2.2 v ((hA k hk).keep hv) ((hB k hk).keep hv)
  have HS := Lib.hid sk; have HP := Lib.hid hP; have HR := Lib.hid hR; clear sk hP hR hA hB
  go_enter Tryz.func13, Tryz.ntmps13
  go_upto_region 1 with fail
  refine at_box2 (fun V hbb B0 B1 hVs => ?_); have BX := B0; have BY := B1; clear B0 B1 hVs; have x0 := BX.c 0 rfl; have y0 := BY.c 0 rfl; (go_wp2_with fail); clear x0 y0
  go_loopw [5] (fun i W => ∃ k : Nat, k ≤ n ∧ i = .int .i64 k ∧ Below w.heap.size w W ∧ BK W w.heap.size [.slice (some ⟨P, 0, none⟩) n n] ∧ BK W (w.heap.size + 1) [.slice (some ⟨R, 0, none⟩) n n]) (fun i _ => n - (intOf i).toNat)
  case atStart => exact ⟨0, by omega, rfl, hbb, BX, BY⟩
  case round =>
    clear hbb BX BY; obtain ⟨k, hk, rfl, hbb, BX, BY⟩ := hrel
    by_cases hlt : k < n
    · have x0 := BX.c 0 rfl
      have y0 := BY.c 0 rfl
      have i1 : (k : Int) < (n : Int) := by omega
      go_upto_region 6 with fail
      refine at_worldQ (fun v => Below w.heap.size w v ∧ BK v w.heap.size [.slice (some ⟨P, 0, none⟩) n n] ∧ BK v (w.heap.size + 1) [.slice (some ⟨R, 0, none⟩) n n]) ⟨hbb, BX, BY⟩ (fun V6 hS => ?_); clear hbb BX BY x0 y0; obtain ⟨hbb, BX, BY⟩ := hS; have x0 := BX.c 0 rfl; have y0 := BY.c 0 rfl; have p0 := keepC hbb (HP.out.c k (x := .slice (some ⟨GA k, 0, none⟩) 1 1) (by simp [hlt])); have q0 := keepC hbb (HR.out.c k (x := .slice (some ⟨GB k, 0, none⟩) 1 1) (by simp [hlt])); have SK := Lib.hid (HS.out k hlt); refine wp_region_noPanic ?_; refine wp_region_held_drew (S := (Below V6.heap.size V6)) (by kernel_rfl) ((Below.refl _ _).drew) (fun hHeld => ?_); refine at_anyH (Below V6.heap.size V6) hHeld (fun wr0 hNew => ?_); clear hHeld; have hHeld := hNew; clear hNew; refine tkd 0 ?_; (try simp only [PPz]); refine tkm 1 rfl hHeld (fun w hSw => by have kx0 := keepC hSw x0; have ky0 := keepC hSw y0; have kp0 := keepC hSw p0; have kq0 := keepC hSw q0; go_simp <;> with_reducible rfl) ?_; (try simp only [PPz]); refine tkd 2 ?_; refine tkd 3 ?_; (try simp only [PPz]); refine tkm 4 rfl hHeld (fun w hSw => by have kx0 := keepC hSw x0; have ky0 := keepC hSw y0; have kp0 := keepC hSw p0; have kq0 := keepC hSw q0; go_simp <;> with_reducible rfl) ?_; (try simp only [PPz]); refine tkd 5 ?_; (try simp only [PPz]); refine tkm 6 rfl hHeld (fun w hSw => by have kx0 := keepC hSw x0; have ky0 := keepC hSw y0; have kp0 := keepC hSw p0; have kq0 := keepC hSw q0; go_simp <;> with_reducible rfl) ?_; (try simp only [PPz]); refine tkd 7 ?_; refine tkd 8 ?_; (try simp only [PPz]); refine tkm 9 rfl hHeld (fun w hSw => by have kx0 := keepC hSw x0; have ky0 := keepC hSw y0; have kp0 := keepC hSw p0; have kq0 := keepC hSw q0; go_simp <;> with_reducible rfl) ?_; (try simp only [PPz]); refine rdy1 10 rfl (fun K hK => ?_); go_simp; refine (SK.out _ (hbb.trans (hHeld.mono hbb.size))).mono ?_; rintro e wr11 ⟨rfl, hb3⟩; (go_wp2_with fail); refine hK.out _ _ (keepB hHeld hb3) (fun hNew => ?_); replace hHeld := hNew; clear hNew hK K hb3; (try simp only [PPz]); refine tkd 11 ?_; (try simp only [PPz]); refine wpAnyH_done (by kernel_rfl) ?_ _; refine NoPanic.normal ?_
      skip
      replace BX := BX.keep hHeld; replace BY := BY.keep hHeld; replace hbb := keepB hbb hHeld; clear hHeld x0 y0 p0 q0; (go_wp2_with fail)
      go_roundw
      case rel => exact ⟨k + 1, by omega, by go_num, hbb, BX, BY⟩
      case measure => simp [intOf]; omega
    · obtain rfl : k = n := by omega
      have x0 := BX.c 0 rfl; have y0 := BY.c 0 rfl; (go_wp2_with fail)
      go_ret
      exact ⟨rfl, hbb⟩
theorem sameL_eq (g h n ca cb : Nat) (L : List Int) (w : World) (hn : L.length = n) (h6 : n ≤ 6) (B1 : BK w g (L.map (Value.int .i64))) (B2 : BK w h (L.map (Value.int .i64))) :
    Calls Tryz.prog 26 #[.slice (some ⟨g, 0, none⟩) n ca, .slice (some ⟨h, 0, none⟩) n cb] w fun e w' => e = .returned (.bool true) ∧ Below w.heap.size w w' := by
  have HB1 := Lib.hid B1; have HB2 := Lib.hid B2; have HN := Lib.hid hn; clear B1 B2 hn
  go_enter Tryz.func26, Tryz.ntmps26
  go_wp2_with fail
  go_loopw [5] (fun i W => ∃ k : Nat, k ≤ n ∧ i = .int .i64 k ∧ Below w.heap.size w W) (fun i _ => n - (intOf i).toNat)
  case atStart => exact ⟨0, by omega, rfl, Below.refl _ _⟩
  case round =>
    obtain ⟨k, hk, rfl, hbb⟩ := hrel
    by_cases hlt : k < n
    · have i1 : (k : Int) < (n : Int) := by omega
      obtain ⟨z, hz⟩ : ∃ z, L[k]? = some z := by
        have := HN.out; exact ⟨L[k]'(by omega), by simp⟩
      go_upto_region 6 with fail
      refine at_worldQ (fun v => Below w.heap.size w v) hbb (fun V hS => ?_); clear hbb; have hbb := hS; clear hS; have c0 := keepC hbb (HB1.out.c k (x := .int .i64 z) (by simp [hz])); have d0 := keepC hbb (HB2.out.c k (x := .int .i64 z) (by simp [hz])); refine wp_region_noPanic ?_; refine wp_region_held_drew (S := (Below V.heap.size V)) (by kernel_rfl) ((Below.refl _ _).drew) (fun hHeld => ?_); refine at_anyH (Below V.heap.size V) hHeld (fun ws0 hNew => ?_); clear hHeld; have hHeld := hNew; clear hNew; refine tkd 0 ?_; refine tkd 1 ?_; refine tkd 2 ?_; (try simp only [PPz]); refine tkm 3 rfl hHeld (fun w hSw => by have kc0 := keepC hSw c0; have kd0 := keepC hSw d0; go_simp <;> with_reducible rfl) ?_; (try simp only [PPz]); refine tkd 4 ?_; refine tkd 5 ?_; refine tkd 6 ?_; (try simp only [PPz]); refine tkm 7 rfl hHeld (fun w hSw => by have kc0 := keepC hSw c0; have kd0 := keepC hSw d0; go_simp <;> with_reducible rfl) ?_; (try simp only [PPz]); refine tkd 8 ?_; (try simp only [PPz]); refine wpAnyH_done (by kernel_rfl) ?_ _; refine NoPanic.normal ?_
      skip
      replace hbb := keepB hbb hHeld; clear hHeld c0 d0; (go_wp2_with fail)
      go_roundw
      case rel => exact ⟨k + 1, by omega, by go_num, hbb⟩
      case measure => simp [intOf]; omega
    · obtain rfl : k = n := by omega
      go_wp2_with fail
      go_ret
      exact ⟨rfl, hbb⟩
end Go.Proofs.YtniagnldiegamaaGreat

