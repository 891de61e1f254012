/- The reference's Check of desks. Package trim: all states of a run of valid cakes have their round. Plain mathematics. Package trim: what each turn of a run of valid cakes is. Plain mathematics. Package trim: Bound, areAgents, liesBeforeEnd, copied. -/
import Derived.Test.YtpcdggkajindbaaGreatGi
import Derived.Test.YtpcdggkajindbaaGreatRcheck
import Derived.Test.YtpcdggkajindbaaGreatHt
import Derived.Test.YtpcdggkajindbaaGreatGe
namespace Go.Proofs.YtpcdggkajindbaaGreat
open Go.RowKit
set_option linter.unusedSimpArgs false in
set_option maxHeartbeats 8000000 in
set_option maxRecDepth 100000 in
theorem rAskCheck_any (A : Option Addr) (ca : Nat) (cs : List CkR) (Q : Option Addr) (m cq : Nat) (w : World) (hm : m ≤ maxLen) (h : IsCs w A cs) :
    Calls Tryz.prog 38 #[.agg #[.slice A cs.length ca, .slice Q m cq]] w fun e w' => e = .returned (.int .i64 (Ak.chkS (cs.map Ak.dat) m)) ∧ Below w.heap.size w w' := by
  obtain ⟨b, o, hA, hc⟩ := h.at_; have HC := Lib.hid hc; have HA := Lib.hid hA; have HI := Lib.hid (fun k (hk : k < cs.length) => h.all _ (Ak.cat_mem hk)); have hln := h.len; clear h hc hA
  unfold maxLen at hm hln
  by_cases h1 : 6 < cs.length
  · have e := Ak.chkS_many (cs := cs.map Ak.dat) (n := m) (.inl (by rw [List.length_map]; exact h1))
    rw [e]; have d1 : decide ((6 : Int) < (cs.length : Int)) = true := decide_eq_true (by omega); clear HC HA HI e h1
    go_enter Tryz.func38, Tryz.ntmps38
    go_wp2_with fail
    go_ret
    exact ⟨rfl, below_al (Below.refl _ _) _⟩
  have d1 : decide ((6 : Int) < (cs.length : Int)) = false := decide_eq_false (by omega)
  by_cases h2 : 2000 < m
  · have e := Ak.chkS_many (cs := cs.map Ak.dat) (n := m) (.inr h2)
    rw [e]; have d2 : decide ((2000 : Int) < (m : Int)) = true := decide_eq_true (by omega); clear HC HA HI e h1 h2
    go_enter Tryz.func38, Tryz.ntmps38
    go_wp2_with fail
    go_ret
    exact ⟨rfl, below_al (Below.refl _ _) _⟩
  have d2 : decide ((2000 : Int) < (m : Int)) = false := decide_eq_false (by omega); have HN := Lib.hid (show ¬ (6 < (cs.map Ak.dat).length ∨ 2000 < m) by rw [List.length_map]; omega)
  by_cases h3 : cs.length = 0
  · have e := Ak.chkS_none (cs := cs.map Ak.dat) (n := m) HN.out (by rw [List.length_map]; exact h3)
    rw [e]
    have d3 : ((cs.length : Int) == 0) = true := by rw [beq_iff_eq]; omega
    clear HC HA HI e h1 h2 h3
    go_enter Tryz.func38, Tryz.ntmps38
    go_wp2_with fail
    go_ret
    exact ⟨rfl, below_al (Below.refl _ _) _⟩
  have d3 : ((cs.length : Int) == 0) = false := by rw [beq_eq_false_iff_ne]; omega
  have H3 := Lib.hid (show ¬ (cs.map Ak.dat).length = 0 by rw [List.length_map]; exact h3); obtain ⟨R, hR⟩ : ∃ R, Ak.chkS (cs.map Ak.dat) m = R := ⟨_, rfl⟩; rw [hR]; have HR := Lib.hid hR
  have h0 : 0 < cs.length := by omega
  clear hR h1 h2 h3
  go_enter Tryz.func38, Tryz.ntmps38
  go_upto_region 1 with fail
  refine at_worldQ (fun v => Below w.heap.size w v ∧ BK v w.heap.size [.slice A cs.length ca, .slice Q m cq]) ⟨below_al (Below.refl _ _) _, BK.new w [.slice A cs.length ca, .slice Q m cq] _⟩ (fun V hS => ?_); have q0 := hS.2.c 0 rfl; have q1 := hS.2.c 1 rfl; (go_wp2_with fail)
  go_loopw [3] (fun i W => ∃ k : Nat, k ≤ cs.length ∧ i = .int .i64 k ∧ (∀ j, j < k → Ak.ckD (Ak.dAt (cs.map Ak.dat) j) = 0) ∧ Below w.heap.size w W ∧ BK W w.heap.size [.slice A cs.length ca, .slice Q m cq]) (fun i _ => cs.length - (intOf i).toNat)
  case atStart => exact ⟨0, Nat.zero_le _, rfl, fun j hj => absurd hj (Nat.not_lt_zero _), hS⟩
  case round =>
    clear hS q0 q1; obtain ⟨k, hk, rfl, hok, hbb, B⟩ := hrel; have HOK := Lib.hid hok; clear hok; have q0 := B.c 0 rfl
    by_cases hlt : k < cs.length
    ·
      have hA' := HA.out (by omega); subst hA'; obtain ⟨c, hcc⟩ : ∃ c, Ak.cat cs k = c := ⟨_, rfl⟩; have c0 := keepC hbb (HC.out k hlt).1; have c1 := keepC hbb (HC.out k hlt).2.1; have c2 := keepC hbb (HC.out k hlt).2.2; have hi := HI.out k hlt; rw [hcc] at c0 c1 c2 hi
      have i1 : (0 : Int) ≤ (k : Int) := by omega
      have i2 : (k : Int) < (cs.length : Int) := by omega
      have ck := fun v (hv : Below w.heap.size w v) => rckCheck_any c.len c.K c.cuts c.ck c.Z c.dens c.cz v (hi.keep hv)
      have EK := Lib.hid (show Ak.ckD (Ak.dAt (cs.map Ak.dat) k) = Ck.chk c.len c.cuts c.dens by rw [Ak.dAt_map cs hlt, hcc]; rfl)
      by_cases hz : Ck.chk c.len c.cuts c.dens = 0
      · rw [hz] at ck
        have EB := Lib.hid (show Ak.ckD (Ak.dAt (cs.map Ak.dat) k) = 0 by rw [EK.out, hz]); have CK := Lib.hid ck; have e0 : ((0 : Int) != 0) = false := rfl; clear ck hz EK hcc hi; (go_wp2_with fail); refine (CK.out _ hbb).mono ?_; rintro e w5 ⟨rfl, hb5⟩; replace hbb := keepB hbb hb5; replace B := B.keep hb5; clear hb5; (go_wp2_with fail)
        go_roundw
        case rel => exact ⟨k + 1, by omega, by go_num, fun j hj => (Nat.lt_succ_iff_lt_or_eq.1 hj).elim (HOK.out j) (fun e => e ▸ EB.out), hbb, B⟩
        case measure => simp [intOf]; omega
      · have EB := Lib.hid (show Ak.chkS (cs.map Ak.dat) m = Ck.chk c.len c.cuts c.dens by
          have := Ak.firstE_take (l := cs.map Ak.dat) (k := k) HOK.out (by simpa using hlt) (by rw [EK.out]; exact hz)
          rw [Ak.chkS_first HN.out H3.out (by rw [this, EK.out]; exact hz), this, EK.out])
        have n1 : (Ck.chk c.len c.cuts c.dens != 0) = true := by rw [bne_iff_ne]; exact hz
        generalize Ck.chk c.len c.cuts c.dens = z at *
        have CK := Lib.hid ck; clear ck hz EK  hi; (go_wp2_with fail); refine (CK.out _ hbb).mono ?_; rintro e w5 ⟨rfl, hb5⟩; replace hbb := keepB hbb hb5; replace B := B.keep hb5; clear hb5 c0 c1 c2 q0; have q0 := B.c 0 rfl; have c0 := keepC hbb (HC.out k hlt).1; have c1 := keepC hbb (HC.out k hlt).2.1; have c2 := keepC hbb (HC.out k hlt).2.2; rw [hcc] at c0 c1 c2; clear hcc; have eR := HR.out.symm.trans EB.out; subst eR; (go_wp2_with fail); refine (CK.out _ hbb).mono ?_; rintro e w6 ⟨rfl, hb6⟩; replace hbb := keepB hbb hb6; clear c0 c1 c2 q0; (go_wp2_with fail)
        go_ret
        exact ⟨rfl, hbb⟩
    · obtain rfl : k = cs.length := by omega
      have HE := Lib.hid (Ak.firstE_zero (l := cs.map Ak.dat) (fun j hj => HOK.out j (by simpa using hj))); clear HOK hlt; have q0 := B.c 0 rfl

      go_wp2_with fail
      go_loopw [4] (fun i W => ∃ k : Nat, k ≤ cs.length ∧ i = .int .i64 k ∧ (∀ j, j < k → (Ak.dAt (cs.map Ak.dat) j).1 = (Ak.dAt (cs.map Ak.dat) 0).1) ∧ Below w.heap.size w W ∧ BK W w.heap.size [.slice A cs.length ca, .slice Q m cq]) (fun i _ => cs.length - (intOf i).toNat)
      case atStart => exact ⟨0, Nat.zero_le _, rfl, fun j hj => absurd hj (Nat.not_lt_zero _), hbb, B⟩
      case round =>
        clear hbb B q0; obtain ⟨k, hk, rfl, hok, hbb, B⟩ := hrel; have HOK := Lib.hid hok; clear hok; have q0 := B.c 0 rfl
        by_cases hlt : k < cs.length
        · have HK := Lib.hid (show k < (cs.map Ak.dat).length by rw [List.length_map]; exact hlt)
          have hA' := HA.out (by omega); subst hA'; obtain ⟨c, hcc⟩ : ∃ c, Ak.cat cs k = c := ⟨_, rfl⟩; have c0 := keepC hbb (HC.out k hlt).1; have c1 := keepC hbb (HC.out k hlt).2.1; have c2 := keepC hbb (HC.out k hlt).2.2; have hi := HI.out k hlt; rw [hcc] at c0 c1 c2 hi
          have i1 : (0 : Int) ≤ (k : Int) := by omega
          have i2 : (k : Int) < (cs.length : Int) := by omega
          have z0 := keepC hbb (HC.out 0 h0).1; rw [Nat.zero_mul, Nat.add_zero] at z0; obtain ⟨l, hl⟩ : ∃ l, c.len = l := ⟨_, rfl⟩; obtain ⟨l0, hl0⟩ : ∃ l0, (Ak.cat cs 0).len = l0 := ⟨_, rfl⟩; rw [hl0] at z0; rw [hl] at c0
          by_cases hll : l = l0
          · have EB := Lib.hid (show (Ak.dAt (cs.map Ak.dat) k).1 = (Ak.dAt (cs.map Ak.dat) 0).1 by rw [Ak.dAt_map cs hlt, Ak.dAt_map cs h0, hcc]; show c.len = _; rw [hl, hll, ← hl0]; rfl)
            subst hll; clear hl hl0 hcc hi
            go_upto_region 13 with fail
            refine at_worldQ (fun v => Below w.heap.size w v ∧ BK v w.heap.size [.slice (some ⟨b, o, none⟩) cs.length ca, .slice Q m cq] ∧ v.cell? ⟨b, o + k * 3, none⟩ = some (.int .i64 l) ∧ v.cell? ⟨b, o, none⟩ = some (.int .i64 l)) ⟨hbb, B, c0, z0⟩ (fun V2 hS => ?_); clear hbb B z0 c0 c1 c2; obtain ⟨hbb, B, p0, z0⟩ := hS; have q0 := B.c 0 rfl; refine wp_region_noPanic ?_; refine wp_region_held_drew (S := (Below V2.heap.size V2)) (by kernel_rfl) ((Below.refl _ _).drew) (fun hHeld => ?_); refine at_anyH (Below V2.heap.size V2) hHeld (fun wq700 hNew => ?_); clear hHeld; have hHeld := hNew; clear hNew; refine tkn 0 ?vq701 rfl ?hyq701 hHeld ?restq701
            case hyq701 => (intro w hSw; go_simp; first | done | (with_reducible rfl))
            (try simp only [PPz]); refine tkn 1 ?vq702 rfl ?hyq702 hHeld ?restq702
            case hyq702 => (intro w hSw; have kp0 := keepC hSw p0; have kq0 := keepC hSw q0; have kz0 := keepC hSw z0; go_simp; first | done | (with_reducible rfl))
            (try simp only [PPz]); refine tkn 2 ?vq703 rfl ?hyq703 hHeld ?restq703
            case hyq703 => (intro w hSw; go_simp; first | done | (with_reducible rfl))
            (try simp only [PPz]); refine tkn 3 ?vq704 rfl ?hyq704 hHeld ?restq704
            case hyq704 => (intro w hSw; go_simp; first | done | (with_reducible rfl))
            (try simp only [PPz]); refine tkn 4 ?vq705 rfl ?hyq705 hHeld ?restq705
            case hyq705 => (intro w hSw; go_simp; first | done | (with_reducible rfl))
            (try simp only [PPz]); refine tkn 5 ?vq706 rfl ?hyq706 hHeld ?restq706
            case hyq706 => (intro w hSw; have kp0 := keepC hSw p0; have kq0 := keepC hSw q0; have kz0 := keepC hSw z0; go_simp; first | done | (with_reducible rfl))
            (try simp only [PPz]); refine tkn 6 ?vq707 rfl ?hyq707 hHeld ?restq707
            case hyq707 => (intro w hSw; go_simp; first | done | (with_reducible rfl))
            (try simp only [PPz]); refine tkn 7 ?vq708 rfl ?hyq708 hHeld ?restq708
            case hyq708 => (intro w hSw; have kp0 := keepC hSw p0; have kq0 := keepC hSw q0; have kz0 := keepC hSw z0; go_simp; first | done | (with_reducible rfl))
            (try simp only [PPz]); refine tkn 8 ?vq709 rfl ?hyq709 hHeld ?restq709
            case hyq709 => (intro w hSw; go_simp; first | done | (with_reducible rfl))
            (try simp only [PPz]); refine tkn 9 ?vq7010 rfl ?hyq7010 hHeld ?restq7010
            case hyq7010 => (intro w hSw; go_simp; first | done | (with_reducible rfl))
            (try simp only [PPz]); refine tkn 10 ?vq7011 rfl ?hyq7011 hHeld ?restq7011
            case hyq7011 => (intro w hSw; have kp0 := keepC hSw p0; have kq0 := keepC hSw q0; have kz0 := keepC hSw z0; go_simp; first | done | (with_reducible rfl))
            (try simp only [PPz]); refine tkn 11 ?vq7012 rfl ?hyq7012 hHeld ?restq7012
            case hyq7012 => (intro w hSw; go_simp; first | done | (with_reducible rfl))
            (try simp only [PPz]); refine wpAnyH_done (by kernel_rfl) ?_ _; refine NoPanic.normal ?_; replace hbb := keepB hbb hHeld; replace B := B.keep hHeld; clear hHeld; (go_wp2_with fail)
            go_roundw
            case rel => exact ⟨k + 1, by omega, by go_num, fun j hj => (Nat.lt_succ_iff_lt_or_eq.1 hj).elim (HOK.out j) (fun e => e ▸ EB.out), hbb, B⟩
            case measure => simp [intOf]; omega
          · have EB := Lib.hid (show (Ak.dAt (cs.map Ak.dat) k).1 ≠ (Ak.dAt (cs.map Ak.dat) 0).1 by rw [Ak.dAt_map cs hlt, Ak.dAt_map cs h0, hcc]; show c.len ≠ (Ak.cat cs 0).len; rw [hl, hl0]; exact hll)
            have HNE := Lib.hid hll; clear hl hl0 hcc hi hll
            go_upto_region 13 with fail
            refine at_worldQ (fun v => Below w.heap.size w v ∧ BK v w.heap.size [.slice (some ⟨b, o, none⟩) cs.length ca, .slice Q m cq] ∧ v.cell? ⟨b, o + k * 3, none⟩ = some (.int .i64 l) ∧ v.cell? ⟨b, o, none⟩ = some (.int .i64 l0)) ⟨hbb, B, c0, z0⟩ (fun V2 hS => ?_); clear hbb B z0 c0 c1 c2; obtain ⟨hbb, B, p0, z0⟩ := hS; have q0 := B.c 0 rfl; refine wp_region_noPanic ?_; refine wp_region_held_drew (S := (Below V2.heap.size V2)) (by kernel_rfl) ((Below.refl _ _).drew) (fun hHeld => ?_); refine at_anyH (Below V2.heap.size V2) hHeld (fun wr700 hNew => ?_); clear hHeld; have hHeld := hNew; clear hNew; refine tkn 0 ?vr701 rfl ?hyr701 hHeld ?restr701
            case hyr701 => (intro w hSw; go_simp; first | done | (with_reducible rfl))
            (try simp only [PPz]); refine tkn 1 ?vr702 rfl ?hyr702 hHeld ?restr702
            case hyr702 => (intro w hSw; have kp0 := keepC hSw p0; have kq0 := keepC hSw q0; have kz0 := keepC hSw z0; go_simp; first | done | (with_reducible rfl))
            (try simp only [PPz]); refine tkn 2 ?vr703 rfl ?hyr703 hHeld ?restr703
            case hyr703 => (intro w hSw; go_simp; first | done | (with_reducible rfl))
            (try simp only [PPz]); refine tkn 3 ?vr704 rfl ?hyr704 hHeld ?restr704
            case hyr704 => (intro w hSw; go_simp; first | done | (with_reducible rfl))
            (try simp only [PPz]); refine tkn 4 ?vr705 rfl ?hyr705 hHeld ?restr705
            case hyr705 => (intro w hSw; go_simp; first | done | (with_reducible rfl))
            (try simp only [PPz]); refine tkn 5 ?vr706 rfl ?hyr706 hHeld ?restr706
            case hyr706 => (intro w hSw; have kp0 := keepC hSw p0; have kq0 := keepC hSw q0; have kz0 := keepC hSw z0; go_simp; first | done | (with_reducible rfl))
            (try simp only [PPz]); refine tkn 6 ?vr707 rfl ?hyr707 hHeld ?restr707
            case hyr707 => (intro w hSw; go_simp; first | done | (with_reducible rfl))
            (try simp only [PPz]); refine tkn 7 ?vr708 rfl ?hyr708 hHeld ?restr708
            case hyr708 => (intro w hSw; have kp0 := keepC hSw p0; have kq0 := keepC hSw q0; have kz0 := keepC hSw z0; go_simp; first | done | (with_reducible rfl))
            (try simp only [PPz]); refine tkn 8 ?vr709 rfl ?hyr709 hHeld ?restr709
            case hyr709 => (intro w hSw; go_simp; first | done | (with_reducible rfl))
            (try simp only [PPz]); refine tkn 9 ?vr7010 rfl ?hyr7010 hHeld ?restr7010
            case hyr7010 => (intro w hSw; go_simp; first | done | (with_reducible rfl))
            (try simp only [PPz]); refine tkn 10 ?vr7011 rfl ?hyr7011 hHeld ?restr7011
            case hyr7011 => (intro w hSw; have kp0 := keepC hSw p0; have kq0 := keepC hSw q0; have kz0 := keepC hSw z0; go_simp; first | done | (with_reducible rfl))
            (try simp only [PPz]); refine tkn 11 (.bool true) rfl ?_ hHeld ?_
            · intro w hSw
              have kp0 := keepC hSw p0; have kq0 := keepC hSw q0; have kz0 := keepC hSw z0; go_simp; exact HNE.out
            (try simp only [PPz]); refine wpAnyH_done (by kernel_rfl) ?_ _; refine NoPanic.normal ?_; replace hbb := keepB hbb hHeld; clear hHeld; have eR := HR.out.symm.trans (Ak.chkS_bad HN.out H3.out HE.out HK.out EB.out); subst eR; (go_wp2_with fail)
            go_ret
            exact ⟨rfl, hbb⟩
        · obtain rfl : k = cs.length := by omega
          have eR := HR.out.symm.trans (Ak.chkS_ok HN.out H3.out HE.out (fun j hj => HOK.out j (by simpa using hj))); subst eR; clear HOK HA HC HI; (go_wp2_with fail)
          go_ret
          exact ⟨rfl, hbb⟩

end Go.Proofs.YtpcdggkajindbaaGreat
namespace Go.Proofs.YtpcdggkajindbaaGreat
open Go.RowKit
namespace Ch
open Ck
section
variable {D : List CkD} {n len : Int}
theorem ck_at (hc : Ak.chkS D 0 = 0) {j : Nat} (h : j < D.length) : Ak.ckD (Ak.dAt D j) = 0 ∧ (Ak.dAt D j).1 = (Ak.dAt D 0).1 := by
  have g := Ak.chkS_good hc
  have hm : Ak.dAt D j ∈ D := by
    unfold Ak.dAt
    simp [h]
  exact ⟨g.all _ hm, g.same _ hm⟩
/-- What holds of the state ahead of a round. -/
structure Inv (D : List CkD) (n len : Int) (i : Nat) (s : St) : Prop where
  so : s.l.Pairwise (· < ·)
  ag : ∀ j ∈ s.l, j < D.length
  ln : s.l.length + i = D.length
  pt : Ck.pt len s.a s.b = true
  dd : ∃ E : Int, 1 ≤ E ∧ E ≤ 6 * 12 ^ i ∧ (∃ k : Int, E = n * k) ∧ Dd E (Rp.q s.a s.b)
  en : ∀ j ∈ s.l, (((s.l.length : Nat) : Int) : Rat) * shq n (Ak.dAt D j) ≤ cu (Ak.dAt D j) (len : Rat) - cu (Ak.dAt D j) (Rp.q s.a s.b)
  lg : s.L.length ≤ 12 * i
theorem mark_at (hc : Ak.chkS D 0 = 0) (hn : n = (D.length : Nat)) (hlen : (Ak.dAt D 0).1 = len) {a b E : Int} (E1 : 1 ≤ E) (E2 : E ≤ 8000000) (hk : ∃ k : Int, E = n * k) (hd : Dd E (Rp.q a b)) (hp : Ck.pt len a b = true) {j : Nat} (hj : j < D.length)
    (he : shq n (Ak.dAt D j) ≤ cu (Ak.dAt D j) (len : Rat) - cu (Ak.dAt D j) (Rp.q a b)) :
    ∃ x y g, mkQ D n a b j = (x, y, 0) ∧ Ck.pt len x y = true ∧ Rp.q a b ≤ Rp.q x y ∧ cu (Ak.dAt D j) (Rp.q x y) - cu (Ak.dAt D j) (Rp.q a b) = shq n (Ak.dAt D j) ∧ 1 ≤ g ∧ g ≤ 12 ∧ Dd (E * g) (Rp.q x y) := by
  obtain ⟨hck, hl1⟩ := ck_at hc hj; rw [hlen] at hl1; have g := Ak.chkS_good hc; have g0 := g.l0; have g1 := g.l1; have hsh := sh_ok (n := n) hck (by omega) (by omega); obtain ⟨k, rfl⟩ := hk; obtain ⟨x, y, e1, e2, e3, e4, g, e5, e6, e7⟩ := mark_share (n := n) hck (by omega) (by omega) (by rw [hl1]; exact hp) E1 E2 hd (hsh.2.2.2.1.up k) (by rw [hl1]; exact he); rw [hl1] at e2; exact ⟨x, y, g, e1, e2, e3, e4, e5, e6, e7⟩
theorem val_at (hc : Ak.chkS D 0 = 0) (hlen : (Ak.dAt D 0).1 = len) {a b x y E : Int} (E1 : 1 ≤ E) (E2 : E ≤ 100000000) (hd : Dd E (Rp.q a b)) (hd2 : Dd E (Rp.q x y)) (hp : Ck.pt len a b = true) (hq : Ck.pt len x y = true) (hle : Rp.q a b ≤ Rp.q x y) {j : Nat} (hj : j < D.length) :
    (Ak.vS (Ak.dAt D j) a b x y).2.2 = 0 ∧ Rp.Ok (Ak.vS (Ak.dAt D j) a b x y).1 (Ak.vS (Ak.dAt D j) a b x y).2.1 ∧ Rp.q (Ak.vS (Ak.dAt D j) a b x y).1 (Ak.vS (Ak.dAt D j) a b x y).2.1 = cu (Ak.dAt D j) (Rp.q x y) - cu (Ak.dAt D j) (Rp.q a b) := by
  obtain ⟨hck, hl1⟩ := ck_at hc hj; rw [hlen] at hl1; obtain ⟨v1, v2, e1, e2, e3⟩ := value_db hck (by rw [hl1]; exact hp) (by rw [hl1]; exact hq) hle E1 E2 hd hd2; rw [e1]; exact ⟨rfl, e2, e3⟩
/-- What is known of the marks and values of a round. -/
structure Rnd (D : List CkD) (n len a b : Int) (l : List Nat) (E : Int) : Prop where
  ck : ∀ j ∈ l, Ak.ckD (Ak.dAt D j) = 0
  mq : ∀ j ∈ l, (mkQ D n a b j).2.2 = 0 ∧ Ck.pt len (mkQ D n a b j).1 (mkQ D n a b j).2.1 = true ∧ Rp.q a b ≤ Rp.q (mkQ D n a b j).1 (mkQ D n a b j).2.1 ∧ cu (Ak.dAt D j) (Rp.q (mkQ D n a b j).1 (mkQ D n a b j).2.1) - cu (Ak.dAt D j) (Rp.q a b) = shq n (Ak.dAt D j) ∧ ∃ g, 1 ≤ g ∧ g ≤ 12 ∧ Dd (E * g) (Rp.q (mkQ D n a b j).1 (mkQ D n a b j).2.1)
  vl : ∀ i ∈ l, ∀ j ∈ l, (vlQ D n a b i j).2.2 = 0 ∧ Rp.Ok (vlQ D n a b i j).1 (vlQ D n a b i j).2.1 ∧ Rp.q (vlQ D n a b i j).1 (vlQ D n a b i j).2.1 = cu (Ak.dAt D j) (Rp.q (mkQ D n a b i).1 (mkQ D n a b i).2.1) - cu (Ak.dAt D j) (Rp.q a b)
theorem Inv.rnd (hc : Ak.chkS D 0 = 0) (hn : n = (D.length : Nat)) (hlen : (Ak.dAt D 0).1 = len) {i : Nat} {s : St} (h : Inv D n len i s) (hi : i ≤ 5) : ∃ E : Int, 1 ≤ E ∧ E ≤ 6 * 12 ^ i ∧ (∃ k : Int, E = n * k) ∧ Rnd D n len s.a s.b s.l E := by
  obtain ⟨E, E1, E2, hk, hd⟩ := h.dd
  have hE : E ≤ 1492992 := by
    have : i = 0 ∨ i = 1 ∨ i = 2 ∨ i = 3 ∨ i = 4 ∨ i = 5 := by omega
    rcases this with rfl | rfl | rfl | rfl | rfl | rfl <;> omega
  have g := Ak.chkS_good hc; have g0 := g.l0; have g1 := g.l1
  have hm : ∀ j ∈ s.l, ∃ x y g, mkQ D n s.a s.b j = (x, y, 0) ∧ Ck.pt len x y = true ∧ Rp.q s.a s.b ≤ Rp.q x y ∧ cu (Ak.dAt D j) (Rp.q x y) - cu (Ak.dAt D j) (Rp.q s.a s.b) = shq n (Ak.dAt D j) ∧ 1 ≤ g ∧ g ≤ 12 ∧ Dd (E * g) (Rp.q x y) := fun j hj => by
    refine mark_at hc hn hlen E1 (by omega) hk hd h.pt (h.ag j hj) ?_; have he := h.en j hj; have hsh := sh_ok (n := n) (ck_at hc (h.ag j hj)).1 (by omega) (by omega); have hl : 1 ≤ s.l.length := List.length_pos_of_mem hj; have hl2 := cast_le (show (1 : Int) ≤ ((s.l.length : Nat) : Int) by omega); have e1 : ((1 : Int) : Rat) = 1 := rfl; rw [e1] at hl2; have := Rat.mul_le_mul_of_nonneg_right hl2 (Rat.le_of_lt hsh.2.2.2.2.1); rw [Rat.one_mul] at this; exact Rat.le_trans this he
  refine ⟨E, E1, E2, hk, fun j hj => (ck_at hc (h.ag j hj)).1, fun j hj => ?_, fun i' hi' j hj => ?_⟩
  · obtain ⟨x, y, g, e1, e2, e3, e4, e5, e6, e7⟩ := hm j hj
    rw [e1]; exact ⟨rfl, e2, e3, e4, g, e5, e6, e7⟩
  · obtain ⟨x, y, g, e1, e2, e3, e4, e5, e6, e7⟩ := hm i' hi'
    unfold vlQ
    rw [e1]; have d0 := Int.mul_le_mul_of_nonneg_left e6 (show 0 ≤ E by omega); have d1 := Int.mul_le_mul_of_nonneg_left e5 (show 0 ≤ E by omega); exact val_at hc hlen (E := E * g) (by omega) (by omega) (hd.up g) e7 h.pt e2 e3 (h.ag j hj)
theorem Rnd.fit {a b E : Int} {l : List Nat} (h : Rnd D n len a b l E) (ha : ∀ j ∈ l, j < D.length) : RFit D n a b l :=
  ⟨ha, fun j hj => ⟨(h.mq j hj).1, (pt_spec (h.mq j hj).2.1).1⟩, fun i hi j hj => ⟨(h.vl i hi j hj).1, (h.vl i hi j hj).2.1⟩⟩
/-- Whoever holds the piece at last: it is worth no more than a share for anyone. -/
theorem Rnd.scan_le {a b E : Int} {l : List Nat} (h : Rnd D n len a b l E) : ∀ (r : List Nat) (i t : Nat) (L : List Qr) (P : Nat → Prop), i ∈ l → (∀ j ∈ r, j ∈ l) →
    (∀ j, P j → j ∈ l ∧ cu (Ak.dAt D j) (Rp.q (mkQ D n a b i).1 (mkQ D n a b i).2.1) - cu (Ak.dAt D j) (Rp.q a b) ≤ shq n (Ak.dAt D j)) →
    ∀ j, (P j ∨ j ∈ r) → cu (Ak.dAt D j) (Rp.q (mkQ D n a b (scan D n a b r i t L).1).1 (mkQ D n a b (scan D n a b r i t L).1).2.1) - cu (Ak.dAt D j) (Rp.q a b) ≤ shq n (Ak.dAt D j)
  | [], i, t, L, P, hi, hr, hP, j, hj => by
    rcases hj with hj | hj
    · exact (hP j hj).2
    · cases hj
  | k :: r, i, t, L, P, hi, hr, hP, j, hj => by
    have hk : k ∈ l := hr k (List.mem_cons_self ..); have hv := (h.vl i hi k hk).2.2; have hmk := (h.mq k hk).2.2.2.1
    unfold scan
    by_cases hm : mre D n a b i k = true
    · rw [if_pos hm]
      unfold mre at hm
      have hm := of_decide_eq_true hm; rw [hv] at hm
      have hx : Rp.q (mkQ D n a b k).1 (mkQ D n a b k).2.1 ≤ Rp.q (mkQ D n a b i).1 (mkQ D n a b i).2.1 := by
        rcases Ck.lt_or (Rp.q (mkQ D n a b i).1 (mkQ D n a b i).2.1) (Rp.q (mkQ D n a b k).1 (mkQ D n a b k).2.1) with g | g
        · have := cu_mono (h.ck k hk) (Rat.le_of_lt g)
          grind
        · exact g
      refine h.scan_le r k (t + 1) _ (fun j => P j ∨ j = k) hk (fun j hj => hr j (List.mem_cons_of_mem _ hj)) (fun j hj => ?_) j ?_
      · rcases hj with hj | rfl
        · have hp := hP j hj
          have := cu_mono (h.ck j hp.1) hx; exact ⟨hp.1, by grind⟩
        · exact ⟨hk, by grind⟩
      · rcases hj with hj | hj
        · exact .inl (.inl hj)
        · rcases List.mem_cons.1 hj with rfl | hj
          · exact .inl (.inr rfl)
          · exact .inr hj
    · rw [if_neg hm]
      unfold mre at hm
      have hm : ¬ (shq n (Ak.dAt D k) < Rp.q (vlQ D n a b i k).1 (vlQ D n a b i k).2.1) := fun g => hm (decide_eq_true g)
      rw [hv] at hm; refine h.scan_le r i t _ (fun j => P j ∨ j = k) hi (fun j hj => hr j (List.mem_cons_of_mem _ hj)) (fun j hj => ?_) j ?_
      · rcases hj with hj | rfl
        · exact hP j hj
        · exact ⟨hk, Rat.not_lt.1 hm⟩
      · rcases hj with hj | hj
        · exact .inl (.inl hj)
        · rcases List.mem_cons.1 hj with rfl | hj
          · exact .inl (.inr rfl)
          · exact .inr hj
theorem scan_len (a b : Int) : ∀ (r : List Nat) (i t : Nat) (L : List Qr), L.length ≤ (scan D n a b r i t L).2.2.length ∧ (scan D n a b r i t L).2.2.length ≤ L.length + 2 * r.length ∧ (scan D n a b r i t L).2.1 ≤ t + r.length
  | [], i, t, L => by simp [scan]
  | k :: r, i, t, L => by
    unfold scan
    split
    · have := scan_len a b r k (t + 1) (L ++ [qV D n a b i k] ++ [qM D n a b k])
      simp only [List.length_append, List.length_cons, List.length_nil] at this ⊢
      omega
    · have := scan_len a b r i t (L ++ [qV D n a b i k])
      simp only [List.length_append, List.length_cons, List.length_nil] at this ⊢
      omega
theorem rout_len {s : St} (h : 1 ≤ s.l.length) : s.L.length ≤ (rout D n s).2.2.length ∧ (rout D n s).2.2.length + 1 ≤ s.L.length + 2 * s.l.length ∧ (rout D n s).2.1 + 1 ≤ s.l.length := by
  unfold rout
  split
  · simp only
    omega
  · have := scan_len (D := D) (n := n) s.a s.b (s.l.drop 1) (s.l.getD 0 0) 0 (s.L ++ [qM D n s.a s.b (s.l.getD 0 0)])
    simp only [List.length_append, List.length_cons, List.length_nil, List.length_drop] at this
    omega
/-- What the piece of a round is worth, for all that take part. -/
theorem Rnd.rout_le {s : St} {E : Int} (h : Rnd D n len s.a s.b s.l E) (h2 : 2 ≤ s.l.length) : ∀ j ∈ s.l, cu (Ak.dAt D j) (Rp.q (mkQ D n s.a s.b (rout D n s).1).1 (mkQ D n s.a s.b (rout D n s).1).2.1) - cu (Ak.dAt D j) (Rp.q s.a s.b) ≤ shq n (Ak.dAt D j) := fun j hj => by
  have h0 := getD_mem (l := s.l) (k := 0) (by omega)
  unfold rout
  rw [if_neg (by omega)]; refine h.scan_le (s.l.drop 1) (s.l.getD 0 0) 0 _ (fun j => j = s.l.getD 0 0) h0 (fun j hj => List.mem_of_mem_drop hj) (fun j hj => ?_) j ?_
  · subst hj
    have := (h.mq _ h0).2.2.2.1; exact ⟨h0, by grind⟩
  · have e := drop_at (l := s.l) (k := 0) (by omega)
    rw [List.drop_zero] at e; rw [e] at hj
    rcases List.mem_cons.1 hj with hj | hj
    · exact .inl hj
    · exact .inr hj
theorem Inv.next (hc : Ak.chkS D 0 = 0) (hn : n = (D.length : Nat)) (hlen : (Ak.dAt D 0).1 = len) {i : Nat} {s : St} (h : Inv D n len i s) (h2 : 2 ≤ s.l.length) : Inv D n len (i + 1) (rnx D n len s) := by
  have g := Ak.chkS_good hc; have g1 := g.l1; have hln := h.ln; obtain ⟨E, E1, E2, hk, hr⟩ := h.rnd hc hn hlen (by omega); have hmem := rout_mem (D := D) (n := n) (s := s) (by omega); have hle := hr.rout_le h2; have hrl := rout_len (D := D) (n := n) (s := s) (by omega); obtain ⟨m1, m2, m3, m4, g, m5, m6, m7⟩ := hr.mq _ hmem
  have hto : rto D n len s = ((mkQ D n s.a s.b (rout D n s).1).1, (mkQ D n s.a s.b (rout D n s).1).2.1) := by
    unfold rto
    rw [if_neg (by omega)]
  have hix : s.l.idxOf (rout D n s).1 < s.l.length := List.idxOf_lt_length_iff.2 hmem
  have hel : (s.l.eraseIdx (s.l.idxOf (rout D n s).1)).length + 1 = s.l.length := by
    rw [List.length_eraseIdx]
    simp only [hix, if_true]
    omega
  have hsub := List.eraseIdx_sublist s.l (s.l.idxOf (rout D n s).1); refine ⟨h.so.sublist hsub, fun j hj => h.ag j (hsub.subset hj), ?_, ?_, ?_, fun j hj => ?_, ?_⟩
  · show (s.l.eraseIdx (s.l.idxOf (rout D n s).1)).length + (i + 1) = D.length
    omega
  · show Ck.pt len (rto D n len s).1 (rto D n len s).2 = true
    rw [hto]; exact m2
  · refine ⟨E * g, ?_, ?_, ?_, ?_⟩
    · have d1 := Int.mul_le_mul_of_nonneg_left m5 (show 0 ≤ E by omega)
      omega
    · have d0 := Int.mul_le_mul_of_nonneg_left m6 (show 0 ≤ E by omega)
      rw [Int.pow_succ]
      omega
    · obtain ⟨k, rfl⟩ := hk
      exact ⟨k * g, Int.mul_assoc ..⟩
    · show Dd (E * g) (Rp.q (rto D n len s).1 (rto D n len s).2)
      rw [hto]; exact m7
  · show (((s.l.eraseIdx (s.l.idxOf (rout D n s).1)).length : Int) : Rat) * shq n (Ak.dAt D j) ≤ cu (Ak.dAt D j) (len : Rat) - cu (Ak.dAt D j) (Rp.q (rto D n len s).1 (rto D n len s).2)
    rw [hto]; have hj' := hsub.subset hj; have he := h.en j hj'; have hl := hle j hj'
    have e : (((s.l.length : Nat) : Int) : Rat) = (((s.l.eraseIdx (s.l.idxOf (rout D n s).1)).length : Int) : Rat) + 1 := by
      rw [← hel, Int.natCast_add, Rat.intCast_add]
      rfl
    rw [e, Rat.add_mul, Rat.one_mul] at he
    dsimp only
    grind
  · show (rout D n s).2.2.length ≤ 12 * (i + 1)
    have := h.lg
    omega
theorem Inv.good (hc : Ak.chkS D 0 = 0) (hn : n = (D.length : Nat)) (hlen : (Ak.dAt D 0).1 = len) {i : Nat} {s : St} (h : Inv D n len i s) (h1 : 1 ≤ s.l.length) : SGood D n s := by
  have g := Ak.chkS_good hc; have g1 := g.l1; have hln := h.ln; obtain ⟨E, E1, E2, hk, hr⟩ := h.rnd hc hn hlen (by omega); have hok := (pt_spec h.pt).1; have hlg := h.lg; refine ⟨h.so.imp (fun h => Nat.ne_of_lt h), h.ag, fun _ => hr.fit h.ag, ?_, ?_, by omega⟩
  · have := hok.2.2
    exact ⟨by omega, by omega⟩
  · have := hok.1
    have := hok.2.1; exact ⟨by omega, by omega⟩
theorem ok_len (hc : Ak.chkS D 0 = 0) (hlen : (Ak.dAt D 0).1 = len) : Rp.Ok len 1 := by
  have g := Ak.chkS_good hc; have hG := Ck.chk_good (show Ck.chk (Ak.dAt D 0).1 (Ak.dAt D 0).2.1 (Ak.dAt D 0).2.2 = 0 from (ck_at hc g.l0).1); have l0 := hG.len0; have l1 := hG.len1; rw [hlen] at l0 l1; exact Rp.Ok_one (by omega) (by omega)
/-- There is something left for each that has nothing yet. -/
theorem Inv.lt_end (hc : Ak.chkS D 0 = 0) (hn : n = (D.length : Nat)) {i : Nat} {s : St} (h : Inv D n len i s) (h1 : 1 ≤ s.l.length) : Rp.q s.a s.b < Rp.q len 1 := by
  have g := Ak.chkS_good hc; have g0 := g.l0; have g1 := g.l1; rw [Rp.q_one]; have h0 := getD_mem (l := s.l) (k := 0) (by omega); obtain ⟨hck, hl1⟩ := ck_at hc (h.ag _ h0); have he := h.en _ h0; have hsh := sh_ok (n := n) hck (by omega) (by omega); have hl2 := cast_le (show (1 : Int) ≤ ((s.l.length : Nat) : Int) by omega); have e1 : ((1 : Int) : Rat) = 1 := rfl; rw [e1] at hl2; have := Rat.mul_le_mul_of_nonneg_right hl2 (Rat.le_of_lt hsh.2.2.2.2.1); rw [Rat.one_mul] at this
  rcases lt_or (Rp.q s.a s.b) (len : Rat) with g | g
  · exact g
  · have := cu_mono hck g
    grind
theorem inv0 (hc : Ak.chkS D 0 = 0) (hn : n = (D.length : Nat)) (hlen : (Ak.dAt D 0).1 = len) : Inv D n len 0 ⟨0, 1, List.range D.length, []⟩ := by
  have g := Ak.chkS_good hc; have g0 := g.l0; have g1 := g.l1; have hq : Rp.q 0 1 = 0 := Rp.q_one 0; have hG := Ck.chk_good (show Ck.chk (Ak.dAt D 0).1 (Ak.dAt D 0).2.1 (Ak.dAt D 0).2.2 = 0 from (ck_at hc g0).1); have l0 := hG.len0; rw [hlen] at l0; refine ⟨List.pairwise_lt_range, fun j hj => List.mem_range.1 hj, by simp, ?_, ⟨n, by omega, by simp only [Int.pow_zero]; omega, ⟨1, by omega⟩, ?_⟩, fun j hj => ?_, by simp⟩
  · refine pt_mk (show Rp.Ok 0 1 by decide) (by rw [hq]; exact Rat.le_refl) ?_
    rw [hq]; have := Ck.cast_le (show (0 : Int) ≤ len by omega); exact this
  · rw [hq]
    exact Dd.int n 0
  · have hj := List.mem_range.1 hj
    obtain ⟨hck, hl1⟩ := ck_at hc hj; rw [hlen] at hl1; have hsh := sh_ok (n := n) hck (by omega) (by omega); have hcl := cu_len hck; rw [hl1] at hcl; rw [hq, cu_zero hck, hcl, ← hsh.2.2.1]
    show (((List.range D.length).length : Int) : Rat) * _ ≤ _
    rw [List.length_range, ← hn, Rat.mul_comm]
    grind
/-- All states that a run passes have their round. -/
theorem inv_sts (hc : Ak.chkS D 0 = 0) (hn : n = (D.length : Nat)) (hlen : (Ak.dAt D 0).1 = len) : ∀ i, i < D.length → Inv D n len i (sts D n len ⟨0, 1, List.range D.length, []⟩ i)
  | 0, _ => inv0 hc hn hlen
  | i + 1, h => by
    have hi := inv_sts hc hn hlen i (by omega); have := hi.ln; exact hi.next hc hn hlen (by omega)
theorem sgood_sts (hc : Ak.chkS D 0 = 0) (hn : n = (D.length : Nat)) (hlen : (Ak.dAt D 0).1 = len) (i : Nat) (h : i < D.length) : SGood D n (sts D n len ⟨0, 1, List.range D.length, []⟩ i) ∧ (sts D n len ⟨0, 1, List.range D.length, []⟩ i).l.length = D.length - i := by
  have hi := inv_sts hc hn hlen i h; have := hi.ln; exact ⟨hi.good hc hn hlen (by omega), by omega⟩
end
end Ch
end Go.Proofs.YtpcdggkajindbaaGreat
namespace Go.Proofs.YtpcdggkajindbaaGreat
open Go.RowKit
namespace Ch
open Ck
theorem left_eq' {l : List Nat} (h : l.Pairwise (· < ·)) (x : Nat) : l.eraseIdx (l.idxOf x) = l.filter (fun j => j != x) := by
  have hn : l.Nodup := h.imp (fun h => Nat.ne_of_lt h); rw [← hn.erase_eq_filter, List.erase_eq_eraseIdx_of_idxOf]
  rfl
section
variable {D : List CkD} {n len : Int}
/-- A turn: who has it, how often it was trimmed, from where to where, and what the piece is worth. -/
structure TurnP (D : List CkD) (n len : Int) (i : Nat) (t : Tn) : Prop where
  ag : t.ag < D.length
  tr : t.t + i + 1 ≤ D.length
  p1 : Ck.pt len t.a t.b = true
  p2 : Ck.pt len t.x t.y = true
  le : Rp.q t.a t.b ≤ Rp.q t.x t.y
  vz : (Ak.vS (Ak.dAt D t.ag) t.a t.b t.x t.y).2.2 = 0
  vs : i + 1 < D.length → (Ak.vS (Ak.dAt D t.ag) t.a t.b t.x t.y).1 = (sh n (Ak.dAt D t.ag)).1 ∧ (Ak.vS (Ak.dAt D t.ag) t.a t.b t.x t.y).2.1 = (sh n (Ak.dAt D t.ag)).2.1
theorem Inv.turn (hc : Ak.chkS D 0 = 0) (hn : n = (D.length : Nat)) (hlen : (Ak.dAt D 0).1 = len) {i : Nat} {s : St} (h : Inv D n len i s) (h1 : 1 ≤ s.l.length) : TurnP D n len i (rtn D n len s) := by
  have g := Ak.chkS_good hc; have g0 := g.l0; have g1 := g.l1; have hln := h.ln; have hmem := rout_mem (D := D) (n := n) (s := s) (by omega); have hrl := rout_len (D := D) (n := n) (s := s) (by omega); obtain ⟨E, E1, E2, hk, hr⟩ := h.rnd hc hn hlen (by omega); have hag := h.ag _ hmem; obtain ⟨hck, hl1⟩ := ck_at hc hag; rw [hlen] at hl1
  by_cases e1 : s.l.length = 1
  · have hto : rto D n len s = (len, 1) := by unfold rto; rw [if_pos e1]
    have hG := Ck.chk_good (show Ck.chk (Ak.dAt D 0).1 (Ak.dAt D 0).2.1 (Ak.dAt D 0).2.2 = 0 from (ck_at hc g0).1); have l0 := hG.len0; rw [hlen] at l0; have hpl : Ck.pt len len 1 = true := pt_mk (ok_len hc hlen) (by rw [Rp.q_one]; exact cast_le (show (0 : Int) ≤ len by omega)) (by rw [Rp.q_one]; exact Rat.le_refl); have hlt := h.lt_end hc hn (by omega); obtain ⟨E', F1, F2, -, hd⟩ := h.dd
    have hE : E' ≤ 1492992 := by
      have : i = 0 ∨ i = 1 ∨ i = 2 ∨ i = 3 ∨ i = 4 ∨ i = 5 := by omega
      rcases this with rfl | rfl | rfl | rfl | rfl | rfl <;> omega
    have hv := val_at hc hlen F1 (show E' ≤ 100000000 by omega) hd (by rw [Rp.q_one]; exact Dd.int _ _) h.pt hpl (Rat.le_of_lt hlt) hag; refine ⟨hag, ?_, h.pt, ?_, ?_, ?_, fun h2 => ?_⟩
    · show (rout D n s).2.1 + i + 1 ≤ D.length
      omega
    · show Ck.pt len (rto D n len s).1 (rto D n len s).2 = true
      rw [hto]; exact hpl
    · show Rp.q s.a s.b ≤ Rp.q (rto D n len s).1 (rto D n len s).2
      rw [hto]; exact Rat.le_of_lt hlt
    · show (Ak.vS (Ak.dAt D (rout D n s).1) s.a s.b (rto D n len s).1 (rto D n len s).2).2.2 = 0
      rw [hto]; exact hv.1
    · omega
  · have hto : rto D n len s = ((mkQ D n s.a s.b (rout D n s).1).1, (mkQ D n s.a s.b (rout D n s).1).2.1) := by unfold rto; rw [if_neg e1]
    obtain ⟨m1, m2, m3, m4, -⟩ := hr.mq _ hmem; obtain ⟨v1, v2, v3⟩ := hr.vl _ hmem _ hmem; have hsh := sh_ok (n := n) hck (by omega) (by omega); have hq := Rp.q_inj v2 hsh.2.1 (by rw [v3, m4]; rfl); refine ⟨hag, ?_, h.pt, ?_, ?_, ?_, fun _ => ?_⟩
    · show (rout D n s).2.1 + i + 1 ≤ D.length
      omega
    · show Ck.pt len (rto D n len s).1 (rto D n len s).2 = true
      rw [hto]; exact m2
    · show Rp.q s.a s.b ≤ Rp.q (rto D n len s).1 (rto D n len s).2
      rw [hto]; exact m3
    · show (Ak.vS (Ak.dAt D (rout D n s).1) s.a s.b (rto D n len s).1 (rto D n len s).2).2.2 = 0
      rw [hto]; exact v1
    · show (Ak.vS (Ak.dAt D (rout D n s).1) s.a s.b (rto D n len s).1 (rto D n len s).2).1 = _ ∧ (Ak.vS (Ak.dAt D (rout D n s).1) s.a s.b (rto D n len s).1 (rto D n len s).2).2.1 = _
      rw [hto]; exact hq
/-- Each agent has one turn. -/
theorem turn_new (hc : Ak.chkS D 0 = 0) (hn : n = (D.length : Nat)) (hlen : (Ak.dAt D 0).1 = len) (s0 : St) (hs0 : s0 = ⟨0, 1, List.range D.length, []⟩) : ∀ i, i < D.length → ∀ k, k < i → (rtn D n len (sts D n len s0 k)).ag ∉ (sts D n len s0 i).l
  | 0, _, k, hk => by omega
  | i + 1, hi, k, hk => by
    subst hs0; have hv := inv_sts hc hn hlen i (by omega); have hl := left_eq' hv.so (rtn D n len (sts D n len ⟨0, 1, List.range D.length, []⟩ i)).ag
    show _ ∉ (sts D n len ⟨0, 1, List.range D.length, []⟩ i).l.eraseIdx ((sts D n len ⟨0, 1, List.range D.length, []⟩ i).l.idxOf (rtn D n len (sts D n len ⟨0, 1, List.range D.length, []⟩ i)).ag)
    rw [hl, List.mem_filter]; rintro ⟨h1, h2⟩
    by_cases e : k = i
    · subst e
      simp at h2
    · exact turn_new hc hn hlen _ rfl i (by omega) k (by omega) h1
theorem turn_ne (hc : Ak.chkS D 0 = 0) (hn : n = (D.length : Nat)) (hlen : (Ak.dAt D 0).1 = len) (s0 : St) (hs0 : s0 = ⟨0, 1, List.range D.length, []⟩) {i k : Nat} (hi : i < D.length) (hk : k < i) : (rtn D n len (sts D n len s0 k)).ag ≠ (rtn D n len (sts D n len s0 i)).ag := by
  intro e; have h := turn_new hc hn hlen s0 hs0 i hi k hk; rw [e] at h; subst hs0; have hv := inv_sts hc hn hlen i hi; have := hv.ln; exact h (rout_mem (D := D) (n := n) (by omega))
theorem last_of (hc : Ak.chkS D 0 = 0) (hn : n = (D.length : Nat)) (hlen : (Ak.dAt D 0).1 = len) (s0 : St) (hs0 : s0 = ⟨0, 1, List.range D.length, []⟩) {i : Nat} (hi : i < D.length) :
    (((List.range D.length).map fun k => rtn D n len (sts D n len s0 k)).reverse.find? (fun t => t.ag == (rtn D n len (sts D n len s0 i)).ag)) = some (rtn D n len (sts D n len s0 i)) := by
  cases hf : (((List.range D.length).map fun k => rtn D n len (sts D n len s0 k)).reverse.find? (fun t => t.ag == (rtn D n len (sts D n len s0 i)).ag)) with
  | none =>
    have := List.find?_eq_none.1 hf (rtn D n len (sts D n len s0 i)) (by
      rw [List.mem_reverse, List.mem_map]
      exact ⟨i, List.mem_range.2 hi, rfl⟩)
    simp at this
  | some t =>
    have h1 := List.mem_of_find?_eq_some hf; have h2 := List.find?_some hf; rw [List.mem_reverse, List.mem_map] at h1; obtain ⟨k, hk, rfl⟩ := h1; have hk := List.mem_range.1 hk
    have h2 : (rtn D n len (sts D n len s0 k)).ag = (rtn D n len (sts D n len s0 i)).ag := by simpa using h2
    rcases Nat.lt_trichotomy k i with h | h | h
    · exact absurd h2 (turn_ne hc hn hlen s0 hs0 hi h)
    · rw [h]
    · exact absurd h2.symm (turn_ne hc hn hlen s0 hs0 hk h)
/-- The last state begins at the end. -/
theorem last_end (hc : Ak.chkS D 0 = 0) (hn : n = (D.length : Nat)) (hlen : (Ak.dAt D 0).1 = len) (s0 : St) (hs0 : s0 = ⟨0, 1, List.range D.length, []⟩) : (sts D n len s0 D.length).a = len ∧ (sts D n len s0 D.length).b = 1 := by
  have g := Ak.chkS_good hc; have g0 := g.l0; obtain ⟨m, hm⟩ : ∃ m, D.length = m + 1 := ⟨D.length - 1, by omega⟩; have hv := inv_sts hc hn hlen m (by omega); rw [← hs0] at hv; have hl := hv.ln; rw [hm]
  show (rto D n len (sts D n len s0 m)).1 = len ∧ (rto D n len (sts D n len s0 m)).2 = 1
  unfold rto
  rw [if_pos (by omega)]; exact ⟨rfl, rfl⟩
end
end Ch
end Go.Proofs.YtpcdggkajindbaaGreat
namespace Go.Proofs.YtpcdggkajindbaaGreat
open Go.RowKit
set_option linter.unusedSimpArgs false in
set_option maxHeartbeats 8000000 in
set_option maxRecDepth 100000 in
theorem tmbound_any (n : Int) (h1 : 1 ≤ n) (h6 : n ≤ 6) (w : World) : Calls Tryz.prog 17 #[.int .i64 n] w fun e w' => e = .returned (.tuple #[.int .i64 (n * n - 1), .int .i64 0]) ∧ Below w.heap.size w w' := by
  have a1 : ¬ n < 1 := by omega
  have a2 : ¬ 6 < n := by omega
  have e1 : wrap64 (n * n) = n * n := by
    have : n = 1 ∨ n = 2 ∨ n = 3 ∨ n = 4 ∨ n = 5 ∨ n = 6 := by omega
    rcases this with rfl | rfl | rfl | rfl | rfl | rfl <;> (unfold wrap64; decide)
  have e2 : wrap64 (n * n - 1) = n * n - 1 := by
    have : n = 1 ∨ n = 2 ∨ n = 3 ∨ n = 4 ∨ n = 5 ∨ n = 6 := by omega
    rcases this with rfl | rfl | rfl | rfl | rfl | rfl <;> (unfold wrap64; decide)
  go_enter Tryz.func17, Tryz.ntmps17
  (go_wp2_with fail); exact bodyPost_ret (v := .tuple #[.int .i64 (n * n - 1), .int .i64 0]) (by simp [results, Tryz.results17, go_sem, e1, e2]) rfl ⟨rfl, Below.refl _ _⟩
end Go.Proofs.YtpcdggkajindbaaGreat

