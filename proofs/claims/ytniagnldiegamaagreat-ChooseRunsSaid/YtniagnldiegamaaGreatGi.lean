/- Package ask's Check. slices.Equal at ints; package cake's Same; the reference's Same and Great. Package ask's has, Count; slices.Clone at queries; the reference's Agent, Great. -/
import Derived.Test.YtniagnldiegamaaGreatAskm
import Derived.Test.YtniagnldiegamaaGreatCheck
import Derived.Lib.SliceRun
set_option linter.unusedSimpArgs false
set_option maxHeartbeats 8000000
set_option maxRecDepth 100000
namespace Go.Proofs.YtniagnldiegamaaGreat
open Go.RowKit
namespace Ak
theorem chkS_many {cs : List CkD} {n : Nat} (h : 6 < cs.length ∨ 2000 < n) : chkS cs n = 4 := by unfold chkS; rw [if_pos h]
theorem chkS_none {cs : List CkD} {n : Nat} (h : ¬ (6 < cs.length ∨ 2000 < n)) (h0 : cs.length = 0) : chkS cs n = 8 := by unfold chkS; rw [if_neg h, if_pos h0]
theorem chkS_first {cs : List CkD} {n : Nat} (h : ¬ (6 < cs.length ∨ 2000 < n)) (h0 : ¬ cs.length = 0) (he : firstE cs ≠ 0) : chkS cs n = firstE cs := by unfold chkS; rw [if_neg h, if_neg h0, if_neg he]
theorem dAt_lt {l : List CkD} {k : Nat} (h : k < l.length) : dAt l k = l[k] := by unfold dAt; simp [h]
theorem chkS_bad {cs : List CkD} {n k : Nat} (h : ¬ (6 < cs.length ∨ 2000 < n)) (h0 : ¬ cs.length = 0) (he : firstE cs = 0) (hk : k < cs.length) (hne : (dAt cs k).1 ≠ (dAt cs 0).1) : chkS cs n = 8 := by
  unfold chkS
  rw [if_neg h, if_neg h0, if_pos he, if_neg]; intro hall; rw [List.all_eq_true] at hall; have := hall (dAt cs k) (by rw [dAt_lt hk]; exact List.getElem_mem hk); exact hne (by simpa using this)
theorem chkS_ok {cs : List CkD} {n : Nat} (h : ¬ (6 < cs.length ∨ 2000 < n)) (h0 : ¬ cs.length = 0) (he : firstE cs = 0) (hall : ∀ k, k < cs.length → (dAt cs k).1 = (dAt cs 0).1) : chkS cs n = 0 := by
  unfold chkS
  rw [if_neg h, if_neg h0, if_pos he, if_pos]; rw [List.all_eq_true]; intro c hc; obtain ⟨k, hk, rfl⟩ := List.mem_iff_getElem.1 hc; have := hall k hk; rw [dAt_lt hk] at this
  simpa using this
end Ak
theorem askCheck_any (A : Option Addr) (ca : Nat) (cs : List CkR) (Q : Option Addr) (m cq : Nat) (w : World) (hm : m ≤ maxLen) (h : IsCs w A cs) :
    Calls Tryz.prog 62 #[.agg #[.slice A cs.length ca, .slice Q m cq]] w fun e w' => e = .returned (.int .i64 (Ak.chkS (cs.map Ak.dat) m)) ∧ Below w.heap.size w w' := by
  obtain ⟨b, o, hA, hc⟩ := h.at_; have HC := Lib.hid hc; have HA := Lib.hid hA; have HI := Lib.hid (fun k (hk : k < cs.length) => h.all _ (Ak.cat_mem hk)); have hln := h.len; clear h hc hA
  unfold maxLen at hm hln
  by_cases h1 : 6 < cs.length
  · have e := Ak.chkS_many (cs := cs.map Ak.dat) (n := m) (.inl (by rw [List.length_map]; exact h1))
    rw [e]; have d1 : decide ((6 : Int) < (cs.length : Int)) = true := decide_eq_true (by omega); clear HC HA HI e h1
    go_enter Tryz.func62, Tryz.ntmps62
    go_wp2_with fail
    go_ret
    exact ⟨rfl, below_al (Below.refl _ _) _⟩
  have d1 : decide ((6 : Int) < (cs.length : Int)) = false := decide_eq_false (by omega)
  by_cases h2 : 2000 < m
  · have e := Ak.chkS_many (cs := cs.map Ak.dat) (n := m) (.inr h2)
    rw [e]; have d2 : decide ((2000 : Int) < (m : Int)) = true := decide_eq_true (by omega); clear HC HA HI e h1 h2
    go_enter Tryz.func62, Tryz.ntmps62
    go_wp2_with fail
    go_ret
    exact ⟨rfl, below_al (Below.refl _ _) _⟩
  have d2 : decide ((2000 : Int) < (m : Int)) = false := decide_eq_false (by omega); have HN := Lib.hid (show ¬ (6 < (cs.map Ak.dat).length ∨ 2000 < m) by rw [List.length_map]; omega)
  by_cases h3 : cs.length = 0
  · have e := Ak.chkS_none (cs := cs.map Ak.dat) (n := m) HN.out (by rw [List.length_map]; exact h3)
    rw [e]
    have d3 : ((cs.length : Int) == 0) = true := by rw [beq_iff_eq]; omega
    clear HC HA HI e h1 h2 h3
    go_enter Tryz.func62, Tryz.ntmps62
    go_wp2_with fail
    go_ret
    exact ⟨rfl, below_al (Below.refl _ _) _⟩
  have d3 : ((cs.length : Int) == 0) = false := by rw [beq_eq_false_iff_ne]; omega
  have H3 := Lib.hid (show ¬ (cs.map Ak.dat).length = 0 by rw [List.length_map]; exact h3); obtain ⟨R, hR⟩ : ∃ R, Ak.chkS (cs.map Ak.dat) m = R := ⟨_, rfl⟩; rw [hR]; have HR := Lib.hid hR
  have h0 : 0 < cs.length := by omega
  clear hR h1 h2 h3
  go_enter Tryz.func62, Tryz.ntmps62
  go_upto_region 1 with fail
  refine at_worldQ (fun v => Below w.heap.size w v ∧ BK v w.heap.size [.slice A cs.length ca, .slice Q m cq]) ⟨below_al (Below.refl _ _) _, BK.new w [.slice A cs.length ca, .slice Q m cq] _⟩ (fun V hS => ?_); have q0 := hS.2.c 0 rfl; have q1 := hS.2.c 1 rfl; (go_wp2_with fail)
  go_loopw [25] (fun i W => ∃ k : Nat, k ≤ cs.length ∧ i = .int .i64 k ∧ (∀ j, j < k → Ak.ckD (Ak.dAt (cs.map Ak.dat) j) = 0) ∧ Below w.heap.size w W ∧ BK W w.heap.size [.slice A cs.length ca, .slice Q m cq]) (fun i _ => cs.length - (intOf i).toNat)
  case atStart => exact ⟨0, Nat.zero_le _, rfl, fun j hj => absurd hj (Nat.not_lt_zero _), hS⟩
  case round =>
    clear hS q0 q1; obtain ⟨k, hk, rfl, hok, hbb, B⟩ := hrel; have HOK := Lib.hid hok; clear hok; have q0 := B.c 0 rfl
    by_cases hlt : k < cs.length
    ·
      have hA' := HA.out (by omega); subst hA'; obtain ⟨c, hcc⟩ : ∃ c, Ak.cat cs k = c := ⟨_, rfl⟩; have c0 := keepC hbb (HC.out k hlt).1; have c1 := keepC hbb (HC.out k hlt).2.1; have c2 := keepC hbb (HC.out k hlt).2.2; have hi := HI.out k hlt; rw [hcc] at c0 c1 c2 hi
      have i1 : (0 : Int) ≤ (k : Int) := by omega
      have i2 : (k : Int) < (cs.length : Int) := by omega
      have ck := fun v (hv : Below w.heap.size w v) => ckCheck_any c.len c.K c.cuts c.ck c.Z c.dens c.cz v (hi.keep hv)
      have EK := Lib.hid (show Ak.ckD (Ak.dAt (cs.map Ak.dat) k) = Ck.chk c.len c.cuts c.dens by rw [Ak.dAt_map cs hlt, hcc]; rfl)
      by_cases hz : Ck.chk c.len c.cuts c.dens = 0
      · rw [hz] at ck
        have EB := Lib.hid (show Ak.ckD (Ak.dAt (cs.map Ak.dat) k) = 0 by rw [EK.out, hz]); have CK := Lib.hid ck; have e0 : ((0 : Int) != 0) = false := rfl; clear ck hz EK hcc hi
        go_upto_region 8 with fail
        refine at_worldQ (fun v => Below w.heap.size w v ∧ BK v w.heap.size [.slice (some ⟨b, o, none⟩) cs.length ca, .slice Q m cq] ∧ BK v wr.heap.size [.int .i64 c.len, .slice c.K c.cuts.length c.ck, .slice c.Z c.dens.length c.cz]) ⟨below_al hbb _, B.al _, BK.new wr [.int .i64 c.len, .slice c.K c.cuts.length c.ck, .slice c.Z c.dens.length c.cz] _⟩ (fun V1 hS1 => ?_); clear hbb B c0 c1 c2 q0; obtain ⟨hbb, B, B1⟩ := hS1; have p0 := B1.c 0 rfl; have p1 := B1.c 1 rfl; have p2 := B1.c 2 rfl; (go_wp2_with fail); refine (CK.out _ hbb).mono ?_; rintro e w5 ⟨rfl, hb5⟩; replace hbb := keepB hbb hb5; replace B := B.keep hb5; clear hb5 p0 p1 p2 B1 CK; (go_wp2_with fail)
        go_roundw
        case rel => exact ⟨k + 1, by omega, by go_num, fun j hj => (Nat.lt_succ_iff_lt_or_eq.1 hj).elim (HOK.out j) (fun e => e ▸ EB.out), hbb, B⟩
        case measure => simp [intOf]; omega
      · have EB := Lib.hid (show Ak.chkS (cs.map Ak.dat) m = Ck.chk c.len c.cuts c.dens by
          have := Ak.firstE_take (l := cs.map Ak.dat) (k := k) HOK.out (by simpa using hlt) (by rw [EK.out]; exact hz)
          rw [Ak.chkS_first HN.out H3.out (by rw [this, EK.out]; exact hz), this, EK.out])
        have n1 : (Ck.chk c.len c.cuts c.dens != 0) = true := by rw [bne_iff_ne]; exact hz
        generalize Ck.chk c.len c.cuts c.dens = z at *
        have CK := Lib.hid ck; clear ck hz EK hcc hi
        go_upto_region 8 with fail
        refine at_worldQ (fun v => Below w.heap.size w v ∧ BK v w.heap.size [.slice (some ⟨b, o, none⟩) cs.length ca, .slice Q m cq] ∧ BK v wr.heap.size [.int .i64 c.len, .slice c.K c.cuts.length c.ck, .slice c.Z c.dens.length c.cz]) ⟨below_al hbb _, B.al _, BK.new wr [.int .i64 c.len, .slice c.K c.cuts.length c.ck, .slice c.Z c.dens.length c.cz] _⟩ (fun V1 hS1 => ?_); clear hbb B c0 c1 c2 q0; obtain ⟨hbb, B, B1⟩ := hS1; have p0 := B1.c 0 rfl; have p1 := B1.c 1 rfl; have p2 := B1.c 2 rfl; (go_wp2_with fail); refine (CK.out _ hbb).mono ?_; rintro e w5 ⟨rfl, hb5⟩; replace hbb := keepB hbb hb5; clear B; clear hb5 p0 p1 p2 B1; have eR := HR.out.symm.trans EB.out; subst eR; (go_wp2_with fail)
        go_ret
        exact ⟨rfl, hbb⟩
    · obtain rfl : k = cs.length := by omega
      have HE := Lib.hid (Ak.firstE_zero (l := cs.map Ak.dat) (fun j hj => HOK.out j (by simpa using hj))); clear HOK hlt

      have q0 := B.c 0 rfl; (go_wp2_with fail)
      go_loopw [38] (fun i W => ∃ k : Nat, k ≤ cs.length ∧ i = .int .i64 k ∧ (∀ j, j < k → (Ak.dAt (cs.map Ak.dat) j).1 = (Ak.dAt (cs.map Ak.dat) 0).1) ∧ Below w.heap.size w W ∧ BK W w.heap.size [.slice A cs.length ca, .slice Q m cq]) (fun i _ => cs.length - (intOf i).toNat)
      case atStart => exact ⟨0, Nat.zero_le _, rfl, fun j hj => absurd hj (Nat.not_lt_zero _), hbb, B⟩
      case round =>
        clear hbb B q0; obtain ⟨k, hk, rfl, hok, hbb, B⟩ := hrel; have HOK := Lib.hid hok; clear hok; have q0 := B.c 0 rfl
        by_cases hlt : k < cs.length
        · have HK := Lib.hid (show k < (cs.map Ak.dat).length by rw [List.length_map]; exact hlt)
          have hA' := HA.out (by omega); subst hA'; obtain ⟨c, hcc⟩ : ∃ c, Ak.cat cs k = c := ⟨_, rfl⟩; have c0 := keepC hbb (HC.out k hlt).1; have c1 := keepC hbb (HC.out k hlt).2.1; have c2 := keepC hbb (HC.out k hlt).2.2; have hi := HI.out k hlt; rw [hcc] at c0 c1 c2 hi
          have i1 : (0 : Int) ≤ (k : Int) := by omega
          have i2 : (k : Int) < (cs.length : Int) := by omega
          have z0 := keepC hbb (HC.out 0 h0).1; rw [Nat.zero_mul, Nat.add_zero] at z0; obtain ⟨l, hl⟩ : ∃ l, c.len = l := ⟨_, rfl⟩; obtain ⟨l0, hl0⟩ : ∃ l0, (Ak.cat cs 0).len = l0 := ⟨_, rfl⟩; rw [hl0] at z0; rw [hl] at c0
          by_cases hll : l = l0
          · have EB := Lib.hid (show (Ak.dAt (cs.map Ak.dat) k).1 = (Ak.dAt (cs.map Ak.dat) 0).1 by rw [Ak.dAt_map cs hlt, Ak.dAt_map cs h0, hcc]; show c.len = _; rw [hl, hll, ← hl0]; rfl)
            subst hll; clear hl hl0 hcc hi
            go_upto_region 15 with fail
            refine at_worldQ (fun v => Below w.heap.size w v ∧ BK v w.heap.size [.slice (some ⟨b, o, none⟩) cs.length ca, .slice Q m cq] ∧ v.cell? ⟨wr.heap.size, 0, none⟩ = some (.int .i64 l) ∧ v.cell? ⟨b, o, none⟩ = some (.int .i64 l)) ⟨below_al hbb _, B.al _, n30 _ _ _ _ _, cell_alloc z0 _⟩ (fun V2 hS => ?_); clear hbb B z0 c0 c1 c2; obtain ⟨hbb, B, p0, z0⟩ := hS; have q0 := B.c 0 rfl; refine wp_region_noPanic ?_; refine wp_region_held_drew (S := (Below V2.heap.size V2)) (by kernel_rfl) ((Below.refl _ _).drew) (fun hHeld => ?_); refine at_anyH (Below V2.heap.size V2) hHeld (fun wq1140 hNew => ?_); clear hHeld; have hHeld := hNew; clear hNew; refine tkd 0 ?_; (try simp only [PPz]); refine tkm 1 rfl hHeld (fun w hSw => by have kp0 := keepC hSw p0; have kq0 := keepC hSw q0; have kz0 := keepC hSw z0; go_simp <;> with_reducible rfl) ?_; (try simp only [PPz]); refine tkd 2 ?_; (try simp only [PPz]); refine tkm 3 rfl hHeld (fun w hSw => by have kp0 := keepC hSw p0; have kq0 := keepC hSw q0; have kz0 := keepC hSw z0; go_simp <;> with_reducible rfl) ?_; (try simp only [PPz]); refine tkd 4 ?_; refine tkd 5 ?_; (try simp only [PPz]); refine tkm 6 rfl hHeld (fun w hSw => by have kp0 := keepC hSw p0; have kq0 := keepC hSw q0; have kz0 := keepC hSw z0; go_simp <;> with_reducible rfl) ?_; (try simp only [PPz]); refine tkd 7 ?_; (try simp only [PPz]); refine wpAnyH_done (by kernel_rfl) ?_ _; refine NoPanic.normal ?_; replace hbb := keepB hbb hHeld; replace B := B.keep hHeld; clear hHeld; (go_wp2_with fail)
            go_roundw
            case rel => exact ⟨k + 1, by omega, by go_num, fun j hj => (Nat.lt_succ_iff_lt_or_eq.1 hj).elim (HOK.out j) (fun e => e ▸ EB.out), hbb, B⟩
            case measure => simp [intOf]; omega
          · have EB := Lib.hid (show (Ak.dAt (cs.map Ak.dat) k).1 ≠ (Ak.dAt (cs.map Ak.dat) 0).1 by rw [Ak.dAt_map cs hlt, Ak.dAt_map cs h0, hcc]; show c.len ≠ (Ak.cat cs 0).len; rw [hl, hl0]; exact hll)
            have HNE := Lib.hid hll; clear hl hl0 hcc hi hll
            go_upto_region 15 with fail
            refine at_worldQ (fun v => Below w.heap.size w v ∧ BK v w.heap.size [.slice (some ⟨b, o, none⟩) cs.length ca, .slice Q m cq] ∧ v.cell? ⟨wr.heap.size, 0, none⟩ = some (.int .i64 l) ∧ v.cell? ⟨b, o, none⟩ = some (.int .i64 l0)) ⟨below_al hbb _, B.al _, n30 _ _ _ _ _, cell_alloc z0 _⟩ (fun V2 hS => ?_); clear hbb B z0 c0 c1 c2; obtain ⟨hbb, B, p0, z0⟩ := hS; have q0 := B.c 0 rfl; refine wp_region_noPanic ?_; refine wp_region_held_drew (S := (Below V2.heap.size V2)) (by kernel_rfl) ((Below.refl _ _).drew) (fun hHeld => ?_); refine at_anyH (Below V2.heap.size V2) hHeld (fun wr1140 hNew => ?_); clear hHeld; have hHeld := hNew; clear hNew; refine tkd 0 ?_; (try simp only [PPz]); refine tkm 1 rfl hHeld (fun w hSw => by have kp0 := keepC hSw p0; have kq0 := keepC hSw q0; have kz0 := keepC hSw z0; go_simp <;> with_reducible rfl) ?_; (try simp only [PPz]); refine tkd 2 ?_; (try simp only [PPz]); refine tkm 3 rfl hHeld (fun w hSw => by have kp0 := keepC hSw p0; have kq0 := keepC hSw q0; have kz0 := keepC hSw z0; go_simp <;> with_reducible rfl) ?_; (try simp only [PPz]); refine tkd 4 ?_; refine tkd 5 ?_; (try simp only [PPz]); refine tkm 6 rfl hHeld (fun w hSw => by have kp0 := keepC hSw p0; have kq0 := keepC hSw q0; have kz0 := keepC hSw z0; go_simp <;> with_reducible rfl) ?_; (try simp only [PPz]); refine tkn 7 (.bool true) rfl ?_ hHeld ?_
            · intro w hSw
              have kp0 := keepC hSw p0; have kq0 := keepC hSw q0; have kz0 := keepC hSw z0; go_simp; exact HNE.out
            (try simp only [PPz]); refine wpAnyH_done (by kernel_rfl) ?_ _; refine NoPanic.normal ?_; replace hbb := keepB hbb hHeld; clear hHeld; have eR := HR.out.symm.trans (Ak.chkS_bad HN.out H3.out HE.out HK.out EB.out); subst eR; (go_wp2_with fail)
            go_ret
            exact ⟨rfl, hbb⟩
        · obtain rfl : k = cs.length := by omega
          have eR := HR.out.symm.trans (Ak.chkS_ok HN.out H3.out HE.out (fun j hj => HOK.out j (by simpa using hj))); subst eR; clear HOK HA HC HI; (go_wp2_with fail)
          go_ret
          exact ⟨rfl, hbb⟩

end Go.Proofs.YtniagnldiegamaaGreat
namespace Go.Proofs.YtniagnldiegamaaGreat
open Go.RowKit
theorem Ck.ext_iff {xs ys : List Int} (h : xs.length = ys.length) : xs = ys ↔ ∀ j, j < xs.length → Ck.at_ xs j = Ck.at_ ys j := by
  constructor
  · rintro rfl j _; rfl
  · intro g
    apply List.ext_getElem h
    intro j h1 h2; have := g j h1
    rwa [Ck.at_lt h1, Ck.at_lt h2] at this
theorem Ck.ext_not {xs ys : List Int} {k : Nat} (h : Ck.at_ xs k ≠ Ck.at_ ys k) : ¬ xs = ys := by
  rintro rfl; exact h rfl


/-- The numbers of two cakes are the same. -/
def Ck.same (la : Int) (ka za : List Int) (lb : Int) (kb zb : List Int) : Bool := decide (la = lb) && (decide (ka = kb) && decide (za = zb))


theorem great_any (len : Int) (K : Option Addr) (cuts : List Int) (ck : Nat) (Z : Option Addr) (dens : List Int) (cz : Nat) (w : World) (hc : cuts.length ≤ maxLen) (hd : dens.length ≤ maxLen) :
    Calls Tryz.prog 27 #[.agg #[.int .i64 len, .slice K cuts.length ck, .slice Z dens.length cz]] w fun e w' => e = .returned (.bool (decide (60 < cuts.length) || decide (60 < dens.length))) ∧ Below w.heap.size w w' := by
  unfold maxLen at hc hd
  by_cases h1 : 60 < cuts.length
  · have d1 : decide (60 < (cuts.length : Int)) = true := decide_eq_true (by omega)
    rw [decide_eq_true h1]; clear h1
    go_enter Tryz.func27, Tryz.ntmps27
    go_wp2_with fail
    go_ret
    exact ⟨rfl, (Below.refl _ _).alloc (Nat.le_refl _) _⟩
  · have d1 : decide (60 < (cuts.length : Int)) = false := decide_eq_false (by omega)
    rw [decide_eq_false h1, Bool.false_or]
    have e : decide (60 < (dens.length : Int)) = decide (60 < dens.length) := by rw [decide_eq_decide]; omega
    rw [← e]; clear e h1
    go_enter Tryz.func27, Tryz.ntmps27
    go_wp2_with fail
    go_ret
    exact ⟨rfl, (Below.refl _ _).alloc (Nat.le_refl _) _⟩

set_option maxHeartbeats 4000000 in
set_option maxRecDepth 100000 in
theorem rckSame_any (la : Int) (K : Option Addr) (ka : List Int) (ck : Nat) (Z : Option Addr) (za : List Int) (cz : Nat) (lb : Int) (L : Option Addr) (kb : List Int) (cl : Nat) (Y : Option Addr) (zb : List Int) (cy : Nat) (w : World) (ha : IsCake w la K ka Z za) (hb : IsCake w lb L kb Y zb) :
    Calls Tryz.prog 89 #[.agg #[.int .i64 la, .slice K ka.length ck, .slice Z za.length cz], .agg #[.int .i64 lb, .slice L kb.length cl, .slice Y zb.length cy]] w fun e w' => e = .returned (.bool (Ck.same la ka za lb kb zb)) ∧ Below w.heap.size w w' := by
  obtain ⟨⟨l0, l1⟩, ⟨m1, m2⟩, ik, iz⟩ := ha; obtain ⟨⟨l2, l3⟩, ⟨m3, m4⟩, jk, jz⟩ := hb
  unfold maxLen at m1 m2 m3 m4
  obtain ⟨R, hR⟩ : ∃ R, Ck.same la ka za lb kb zb = R := ⟨_, rfl⟩; rw [hR]
  unfold Ck.same at hR
  by_cases h : la = lb
  · have n1 : (la != lb) = false := by rw [h]; simp
    rw [decide_eq_true h, Bool.true_and] at hR; clear h
    by_cases hk : ka.length = kb.length
    · by_cases hz : za.length = zb.length
      · have n2 : ((ka.length : Int) != ka.length) = false := by simp
        have n3 : ((za.length : Int) != za.length) = false := by simp
        have HR := Lib.hid hR; have HFK := Lib.hid (fun k (hp : Ck.at_ ka k ≠ Ck.at_ kb k) => show (decide (ka = kb) && decide (za = zb)) = false by rw [decide_eq_false (Ck.ext_not hp)]; rfl); have HFZ := Lib.hid (fun k (hp : Ck.at_ za k ≠ Ck.at_ zb k) => show (decide (ka = kb) && decide (za = zb)) = false by rw [decide_eq_false (Ck.ext_not hp)]; simp); have HT := Lib.hid (fun (g : ∀ j, j < ka.length → Ck.at_ ka j = Ck.at_ kb j) (g' : ∀ j, j < za.length → Ck.at_ za j = Ck.at_ zb j) => show (decide (ka = kb) && decide (za = zb)) = true by rw [decide_eq_true ((Ck.ext_iff hk).2 g), decide_eq_true ((Ck.ext_iff hz).2 g')]; rfl); have QKA := Lib.hid ik.bd; have QKB := Lib.hid jk.bd; have QZA := Lib.hid iz.bd; have QZB := Lib.hid jz.bd; have HKA := Lib.hid ik.1; have HZA := Lib.hid iz.1; have HKB := Lib.hid (show (0 < ka.length → ∃ b off, L = some ⟨b, off, none⟩ ∧ ∀ i, i < ka.length → w.cell? ⟨b, off + i, none⟩ = some (.int .i64 (Ck.at_ kb i))) by rw [hk]; exact jk.1); have HZB := Lib.hid (show (0 < za.length → ∃ b off, Y = some ⟨b, off, none⟩ ∧ ∀ i, i < za.length → w.cell? ⟨b, off + i, none⟩ = some (.int .i64 (Ck.at_ zb i))) by rw [hz]; exact jz.1); rw [← hk, ← hz]; clear hR ik iz jk jz hk hz l0 l1 l2 l3 m3 m4
        go_enter Tryz.func89, Tryz.ntmps89
        go_upto_region 3 with fail
        refine at_worldQ (fun v => Below w.heap.size w v ∧ v.cell? ⟨w.heap.size, 0, none⟩ = some (.int .i64 la) ∧ v.cell? ⟨w.heap.size, 1, none⟩ = some (.slice K ka.length ck) ∧ v.cell? ⟨w.heap.size, 2, none⟩ = some (.slice Z za.length cz) ∧ v.cell? ⟨w.heap.size + 1, 0, none⟩ = some (.int .i64 lb) ∧ v.cell? ⟨w.heap.size + 1, 1, none⟩ = some (.slice L ka.length cl) ∧ v.cell? ⟨w.heap.size + 1, 2, none⟩ = some (.slice Y za.length cy)) ⟨((Below.refl _ _).alloc (Nat.le_refl _) _).alloc (by simp) _, by go_simp, by go_simp, by go_simp, by go_simp, by go_simp, by go_simp⟩ (fun V hS => ?_); obtain ⟨hbb, a0, a1, a2, b0, b1, b2⟩ := hS; clear n1 n2 n3; (go_wp2_with fail)
        go_loopw [5] (fun i v => ∃ k : Nat, k ≤ ka.length ∧ i = .int .i64 k ∧ Below w.heap.size w v ∧ v.cell? ⟨w.heap.size, 0, none⟩ = some (.int .i64 la) ∧ v.cell? ⟨w.heap.size, 1, none⟩ = some (.slice K ka.length ck) ∧ v.cell? ⟨w.heap.size, 2, none⟩ = some (.slice Z za.length cz) ∧ v.cell? ⟨w.heap.size + 1, 0, none⟩ = some (.int .i64 lb) ∧ v.cell? ⟨w.heap.size + 1, 1, none⟩ = some (.slice L ka.length cl) ∧ v.cell? ⟨w.heap.size + 1, 2, none⟩ = some (.slice Y za.length cy) ∧ Hid (∀ j, j < k → Ck.at_ ka j = Ck.at_ kb j)) (fun i _ => ka.length - (intOf i).toNat)
        case atStart => exact ⟨0, Nat.zero_le _, rfl, hbb, a0, a1, a2, b0, b1, b2, fun j hj => absurd hj (by omega)⟩
        case round =>
          clear hbb a0 a1 a2 b0 b1 b2; obtain ⟨k, hk, rfl, hbb, a0, a1, a2, b0, b1, b2, HN⟩ := hrel
          by_cases hlt : k < ka.length
          · obtain ⟨p1, o1, rfl, c1⟩ := HKA.out (by omega)
            obtain ⟨p2, o2, rfl, c2⟩ := HKB.out (by omega); have x1 := keepC hbb (c1 k hlt); have x2 := keepC hbb (c2 k hlt); have q1 := QKA.out k; have q2 := QKB.out k
            unfold I64 at q1 q2
            have i1 : (0 : Int) ≤ (k : Int) := by omega
            have i2 : (k : Int) < (ka.length : Int) := by omega
            have HS := Lib.hid (fun (hp : Ck.at_ ka k = Ck.at_ kb k) j (hj : j < k + 1) => by
              rcases Nat.lt_or_ge j k with h1 | h1
              · exact HN.out j h1
              · obtain rfl : j = k := by omega
                exact hp)
            have HF := Lib.hid (HFK.out k); clear c1 c2 HKA HKB HZA HZB QKA QKB QZA QZB HN HFK HFZ HT
            generalize Ck.at_ ka k = x at *
            generalize Ck.at_ kb k = y at *
            by_cases e : x = y
            · have e1 : (x != y) = false := by rw [e]; simp
              have HS2 := Lib.hid (HS.out e); clear HS HF e HR; (go_wp2_with fail)
              go_quiet (fail)
              go_wp2_with fail
              go_roundw
              case rel => exact ⟨k + 1, by omega, by go_num, below_drewN hbb _, a0, a1, a2, b0, b1, b2, HS2⟩
              case measure => simp [intOf]; omega
            · have e1 : (x != y) = true := by rw [bne_iff_ne]; exact e
              obtain rfl : R = false := HR.out.symm.trans (HF.out e); clear HS HF e HR; (go_wp2_with fail)
              go_quiet (fail)
              go_wp2_with fail
              go_ret
              exact ⟨rfl, below_drewN hbb _⟩
          · obtain rfl : k = ka.length := by omega
            have HNK := HN; clear HN; (go_wp2_with fail)
            go_loopw [6] (fun i v => ∃ k : Nat, k ≤ za.length ∧ i = .int .i64 k ∧ Below w.heap.size w v ∧ v.cell? ⟨w.heap.size, 0, none⟩ = some (.int .i64 la) ∧ v.cell? ⟨w.heap.size, 1, none⟩ = some (.slice K ka.length ck) ∧ v.cell? ⟨w.heap.size, 2, none⟩ = some (.slice Z za.length cz) ∧ v.cell? ⟨w.heap.size + 1, 0, none⟩ = some (.int .i64 lb) ∧ v.cell? ⟨w.heap.size + 1, 1, none⟩ = some (.slice L ka.length cl) ∧ v.cell? ⟨w.heap.size + 1, 2, none⟩ = some (.slice Y za.length cy) ∧ Hid (∀ j, j < k → Ck.at_ za j = Ck.at_ zb j)) (fun i _ => za.length - (intOf i).toNat)
            case atStart => exact ⟨0, Nat.zero_le _, rfl, hbb, a0, a1, a2, b0, b1, b2, fun j hj => absurd hj (by omega)⟩
            case round =>
              clear hbb a0 a1 a2 b0 b1 b2; obtain ⟨k2, hk2, rfl, hbb, a0, a1, a2, b0, b1, b2, HN⟩ := hrel
              by_cases hlt : k2 < za.length
              · obtain ⟨p1, o1, rfl, c1⟩ := HZA.out (by omega)
                obtain ⟨p2, o2, rfl, c2⟩ := HZB.out (by omega); have x1 := keepC hbb (c1 k2 hlt); have x2 := keepC hbb (c2 k2 hlt); have q1 := QZA.out k2; have q2 := QZB.out k2
                unfold I64 at q1 q2
                have i1 : (0 : Int) ≤ (k2 : Int) := by omega
                have i2 : (k2 : Int) < (za.length : Int) := by omega
                have HS := Lib.hid (fun (hp : Ck.at_ za k2 = Ck.at_ zb k2) j (hj : j < k2 + 1) => by
                  rcases Nat.lt_or_ge j k2 with h1 | h1
                  · exact HN.out j h1
                  · obtain rfl : j = k2 := by omega
                    exact hp)
                have HF := Lib.hid (HFZ.out k2); clear c1 c2 HKA HKB HZA HZB QKA QKB QZA QZB HN HFK HFZ HT
                generalize Ck.at_ za k2 = x at *
                generalize Ck.at_ zb k2 = y at *
                by_cases e : x = y
                · have e1 : (x != y) = false := by rw [e]; simp
                  have HS2 := Lib.hid (HS.out e); clear HS HF e HR; (go_wp2_with fail)
                  go_quiet (fail)
                  go_wp2_with fail
                  go_roundw
                  case rel => exact ⟨k2 + 1, by omega, by go_num, below_drewN hbb _, a0, a1, a2, b0, b1, b2, HS2⟩
                  case measure => simp [intOf]; omega
                · have e1 : (x != y) = true := by rw [bne_iff_ne]; exact e
                  obtain rfl : R = false := HR.out.symm.trans (HF.out e); clear HS HF e HR; (go_wp2_with fail)
                  go_quiet (fail)
                  go_wp2_with fail
                  go_ret
                  exact ⟨rfl, below_drewN hbb _⟩
              · obtain rfl : k2 = za.length := by omega
                obtain rfl : R = true := HR.out.symm.trans (HT.out HNK.out HN.out); clear HKA HKB HZA HZB QKA QKB QZA QZB HN HFK HFZ HT HNK HR; (go_wp2_with fail)
                go_ret
                exact ⟨rfl, hbb⟩
      · have n2 : ((ka.length : Int) != kb.length) = false := by rw [hk]; simp
        have n3 : ((za.length : Int) != zb.length) = true := by rw [bne_iff_ne]; omega
        rw [decide_eq_false (fun g => hz (by rw [g]) : ¬ za = zb), Bool.and_false] at hR; subst hR; clear ik iz jk jz hk hz
        go_enter Tryz.func89, Tryz.ntmps89
        go_wp2_with fail
        go_ret
        exact ⟨rfl, ((Below.refl _ _).alloc (Nat.le_refl _) _).alloc (by simp) _⟩

    · have n2 : ((ka.length : Int) != kb.length) = true := by rw [bne_iff_ne]; omega
      rw [decide_eq_false (fun g => hk (by rw [g]) : ¬ ka = kb), Bool.false_and] at hR; subst hR; clear ik iz jk jz hk
      go_enter Tryz.func89, Tryz.ntmps89
      go_wp2_with fail
      go_ret
      exact ⟨rfl, ((Below.refl _ _).alloc (Nat.le_refl _) _).alloc (by simp) _⟩

  · have n1 : (la != lb) = true := by rw [bne_iff_ne]; exact h
    rw [decide_eq_false h, Bool.false_and] at hR; subst hR; clear ik iz jk jz h
    go_enter Tryz.func89, Tryz.ntmps89
    go_wp2_with fail
    go_ret
    exact ⟨rfl, ((Below.refl _ _).alloc (Nat.le_refl _) _).alloc (by simp) _⟩

end Go.Proofs.YtniagnldiegamaaGreat
namespace Go.Proofs.YtniagnldiegamaaGreat
open Go.RowKit
theorem has_any (A : Option Addr) (n ca : Nat) (Q : Option Addr) (m cq : Nat) (ag : Int) (w : World) :
    Calls Tryz.prog 124 #[.agg #[.slice A n ca, .slice Q m cq], .int .i64 ag] w fun e w' => e = .returned (.bool (decide (0 ≤ ag ∧ ag < n))) ∧ Below w.heap.size w w' := by
  by_cases h0 : 0 ≤ ag
  · have d0 : decide ((0 : Int) ≤ ag) = true := decide_eq_true h0
    by_cases h1 : ag < n
    · have d1 : decide (ag < (n : Int)) = true := decide_eq_true h1
      rw [decide_eq_true (show 0 ≤ ag ∧ ag < (n : Int) from ⟨h0, h1⟩)]; clear h0 h1
      go_enter Tryz.func124, Tryz.ntmps124
      go_wp2_with fail
      go_ret
      exact ⟨rfl, below_al (Below.refl _ _) _⟩
    · have d1 : decide (ag < (n : Int)) = false := decide_eq_false h1
      rw [decide_eq_false (show ¬ (0 ≤ ag ∧ ag < (n : Int)) from fun k => h1 k.2)]; clear h0 h1
      go_enter Tryz.func124, Tryz.ntmps124
      go_wp2_with fail
      go_ret
      exact ⟨rfl, below_al (Below.refl _ _) _⟩
  · have d0 : decide ((0 : Int) ≤ ag) = false := decide_eq_false h0
    rw [decide_eq_false (show ¬ (0 ≤ ag ∧ ag < (n : Int)) from fun k => h0 k.1)]; clear h0
    go_enter Tryz.func124, Tryz.ntmps124
    go_wp2_with fail
    go_ret
    exact ⟨rfl, below_al (Below.refl _ _) _⟩
namespace Ak
def greatC (c : CkD) : Bool := decide (60 < c.2.1.length) || decide (60 < c.2.2.length)
def greatCs (cs : List CkD) : Bool := cs.any greatC || decide (10 < cs.length)
theorem greatC_of {cs : List CkD} {k : Nat} (hk : k < cs.length) (h : greatC (dAt cs k) = true) : greatCs cs = true := by
  unfold greatCs
  rw [show cs.any greatC = true from List.any_eq_true.2 ⟨dAt cs k, by rw [dAt_lt hk]; exact List.getElem_mem hk, h⟩]
  rfl
theorem greatC_not {cs : List CkD} (h : ∀ k, k < cs.length → greatC (dAt cs k) = false) : greatCs cs = decide (10 < cs.length) := by
  unfold greatCs
  rw [show cs.any greatC = false from List.any_eq_false.2 fun c hc => by
    obtain ⟨k, hk, rfl⟩ := List.mem_iff_getElem.1 hc; have := h k hk; rw [dAt_lt hk] at this
    rw [this]; decide]
  rfl
end Ak
theorem rGreatCakes_any (A : Option Addr) (ca : Nat) (cs : List CkR) (w : World) (h : IsCs w A cs) :
    Calls Tryz.prog 7 #[.slice A cs.length ca] w fun e w' => e = .returned (.bool (Ak.greatCs (cs.map Ak.dat))) ∧ Below w.heap.size w w' := by
  have hm : cs.length ≤ maxLen := h.len; obtain ⟨b, o, hA, hc⟩ := h.at_; have HC := Lib.hid hc; have HA := Lib.hid hA; have HI := Lib.hid (fun k (hk : k < cs.length) => h.all _ (Ak.cat_mem hk)); have hln := h.len; clear h hc hA
  unfold maxLen at hm hln
  obtain ⟨R, hR⟩ : ∃ R, Ak.greatCs (cs.map Ak.dat) = R := ⟨_, rfl⟩; rw [hR]; have HR := Lib.hid hR; clear hR
  go_enter Tryz.func7, Tryz.ntmps7
  go_wp2_with fail
  go_loopw [3] (fun i W => ∃ k : Nat, k ≤ cs.length ∧ i = .int .i64 k ∧ (∀ j, j < k → Ak.greatC (Ak.dAt (cs.map Ak.dat) j) = false) ∧ Below w.heap.size w W) (fun i _ => cs.length - (intOf i).toNat)
  case atStart => exact ⟨0, Nat.zero_le _, rfl, fun j hj => absurd hj (Nat.not_lt_zero _), Below.refl _ _⟩
  case round =>
    obtain ⟨k, hk, rfl, hok, hbb⟩ := hrel; have HOK := Lib.hid hok; clear hok
    by_cases hlt : k < cs.length
    ·
      have hA' := HA.out (by omega); subst hA'; obtain ⟨c, hcc⟩ : ∃ c, Ak.cat cs k = c := ⟨_, rfl⟩; have c0 := keepC hbb (HC.out k hlt).1; have c1 := keepC hbb (HC.out k hlt).2.1; have c2 := keepC hbb (HC.out k hlt).2.2; have hi := HI.out k hlt; rw [hcc] at c0 c1 c2 hi
      have i1 : (0 : Int) ≤ (k : Int) := by omega
      have i2 : (k : Int) < (cs.length : Int) := by omega
      have gc := fun v => great_any c.len c.K c.cuts c.ck c.Z c.dens c.cz v hi.2.1.1 hi.2.1.2
      have EG : Ak.greatC (Ak.dAt (cs.map Ak.dat) k) = (decide (60 < c.cuts.length) || decide (60 < c.dens.length)) := by rw [Ak.dAt_map cs hlt, hcc]; rfl
      generalize (decide (60 < c.cuts.length) || decide (60 < c.dens.length)) = z at *
      cases z
      · have EB := Lib.hid EG
        have GX := Lib.hid gc; clear gc EG hi hcc; (go_wp2_with fail); refine (GX.out _).mono ?_; rintro e w1 ⟨rfl, hb1⟩; replace hbb := keepB hbb hb1; clear hb1 c0 c1 c2; (go_wp2_with fail)
        go_roundw
        case rel => exact ⟨k + 1, by omega, by go_num, fun j hj => (Nat.lt_succ_iff_lt_or_eq.1 hj).elim (HOK.out j) (fun e => e ▸ EB.out), hbb⟩
        case measure => simp [intOf]; omega
      · have eR := HR.out.symm.trans (Ak.greatC_of (by simpa using hlt) EG)
        subst eR; have GX := Lib.hid gc; clear gc EG hi hcc; (go_wp2_with fail); refine (GX.out _).mono ?_; rintro e w1 ⟨rfl, hb1⟩; replace hbb := keepB hbb hb1; clear hb1 c0 c1 c2; (go_wp2_with fail)
        go_ret
        exact ⟨rfl, hbb⟩
    · obtain rfl : k = cs.length := by omega
      have eR := HR.out.symm.trans (Ak.greatC_not (cs := cs.map Ak.dat) (fun j hj => HOK.out j (by simpa using hj))); rw [List.length_map] at eR
      have e10 : decide ((10 : Int) < (cs.length : Int)) = R := by
        rw [eR]
        by_cases h : 10 < cs.length
        · rw [decide_eq_true h, decide_eq_true (by omega)]
        · rw [decide_eq_false h, decide_eq_false (by omega)]
      clear eR HOK HA HC HI HR; (go_wp2_with fail)
      go_ret
      exact ⟨by first | rfl | rw [← e10] | simp [e10], hbb⟩
theorem queryInfo : (Tryz.prog.info? 76).map (fun i => (i.zero, i.size, i.bytes)) = some (some (.agg #[.int .i64 0, .int .u8 0, .int .i64 0, .int .i64 0, .int .i64 0, .int .i64 0, .int .i64 0, .int .i64 0]), 8, 64) := by kernel_rfl
theorem qclone_any (A : Option Addr) (cap : Nat) (qs : List Qr) (w : World) (h : IsQs w A qs) (hl : qs.length ≤ 3000) :
    Calls Tryz.prog 91 #[.slice A qs.length cap] w fun e w' => ∃ v, e = .returned v ∧ Acc w w.heap.size 76 8 v qs.length (Ak.cellsQ qs) w' := by
  have q : ∀ (w : World) (a : Option Addr) (n c n' c' : Nat), (binOp .eql 24 (.slice a n c) (.slice none n' c')).run Tryz.prog w = .ok (.bool a.isNone) w := fun w a n c n' c' => Lib.run_eql_slice_nil w _ _ a n c n' c' Tryz.underlying24
  obtain ⟨i0, hi0, hz0, hz1, hz2⟩ := info_parts queryInfo; obtain ⟨b, o, hA, hc⟩ := h.at_
  by_cases h0 : 0 < qs.length
  · obtain rfl := hA h0
    have HC := Lib.hid (fun j u (hj : (Ak.cellsQ qs)[j]? = some u) => (show (w.alloc (.cells #[] 76)).cell? ((⟨b, o, none⟩ : Addr).add j) = some u by
      have hjl : j < (Ak.cellsQ qs).length := (List.getElem?_eq_some_iff.1 hj).1; rw [Ak.cellsQ_len] at hjl
      have e : j = j / 8 * 8 + j % 8 := by omega
      have h1 := hc (j / 8) (by omega); have h2 := Ak.cellsQ_at (l := qs) (k := j / 8) (by omega); rw [Addr.add_lit]; refine cell_alloc ?_ _; rw [e] at hj ⊢; have hm : j % 8 < 8 := Nat.mod_lt _ (by omega)
      generalize j / 8 = a at *
      generalize j % 8 = r at *
      unfold Ak.Q8 at h1 h2
      obtain ⟨x0, x1, x2, x3, x4, x5, x6, x7⟩ := h1; obtain ⟨y0, y1, y2, y3, y4, y5, y6, y7⟩ := h2; rw [← Nat.add_assoc]
      match r, hm with
      | 0, _ => exact x0.trans (y0.symm.trans hj)
      | 1, _ => exact x1.trans (y1.symm.trans hj)
      | 2, _ => exact x2.trans (y2.symm.trans hj)
      | 3, _ => exact x3.trans (y3.symm.trans hj)
      | 4, _ => exact x4.trans (y4.symm.trans hj)
      | 5, _ => exact x5.trans (y5.symm.trans hj)
      | 6, _ => exact x6.trans (y6.symm.trans hj)
      | 7, _ => exact x7.trans (y7.symm.trans hj)))
    have h1c : ∀ u ∈ Ak.cellsQ qs, u.oneCell' = true := by
      intro u hu
      unfold Ak.cellsQ at hu
      obtain ⟨x, _, hu⟩ := List.mem_flatMap.1 hu
      unfold Ak.qcells at hu
      simp at hu
      rcases hu with rfl | rfl | rfl | rfl | rfl | rfl | rfl | rfl <;> rfl
    have hcl := Ak.cellsQ_len qs; have H1 := Lib.hid h1c; have HL := Lib.hid hcl; clear hc h hA h1c hcl
    go_enter Tryz.func91, Tryz.ntmps91
    go_wp2_with (at_builtin; refine wpList_append_lies _ rfl _ _ _ rfl w.heap.size 76 i0 _ 8 64 Tryz.underlying24 hi0 hz0 hz1 hz2 rfl (by omega) (.slice (some ⟨w.heap.size, 0, none⟩) 0 0) 0 [] (by rfl) (World.ownsRow_lit w #[] 0 (Nat.le_refl _) (by decide) rfl) ⟨b, o, none⟩ qs.length cap (Ak.cellsQ qs) (by rfl) HL.out HC.out H1.out h0 (by unfold maxLen; omega) (by omega) (by simp) (w.heap.size + 1) (by simp) ?_; intro g cap w1 hown1 hgrow hat hlt)
    go_ret
    rw [Nat.zero_add, List.nil_append] at hown1
    have hb : Below w.heap.size w w1 := ((Below.refl _ _).alloc (Nat.le_refl _) _).grown hgrow (by simp) (fun k e => by
      have : w.heap.size = k := by simpa [Value.ownBlock] using e
      omega)
    exact ⟨_, by first | rfl | rw [Nat.zero_add], hb, hb.size, hown1⟩
  · have hq : qs = [] := List.eq_nil_of_length_eq_zero (by omega)
    subst hq; clear hc hA h
    cases A with
    | none =>
      go_enter Tryz.func91, Tryz.ntmps91
      go_wp2_with fail
      go_ret
      exact ⟨_, rfl, Below.refl _ _, Nat.le_refl _, World.ownsRow_nil _ _ _ _⟩
    | some a =>
      have hrun : ∀ (h c : Nat) (v : World), (Builtin.append_ #[24, 24] 24 #[.slice (some ⟨h, 0, none⟩) 0 0, .slice (some a) 0 c]).run Tryz.prog v = .ok (.slice (some ⟨h, 0, none⟩) 0 0) v := by
        intro h c v
        simp [Builtin.append_, run_underlying Tryz.underlying24, sizeOf, typeInfo, hi0, Builtin.lenOf, Builtin.firstCells, loadCells, loadCellsFrom, storeCells]
      go_enter Tryz.func91, Tryz.ntmps91
      go_wp2_with (at_builtin; refine wpList_plain rfl fun K hK => ?_; unfold Oper.wp; simp [execOp, resolve, invoke, builtin, hrun, Result.andThen, Act.eval, Act.put]; refine hK _ _ ?_)
      go_ret
      exact ⟨_, rfl, below_al (Below.refl _ _) _, by simp, World.ownsRow_lit w #[] 0 (Nat.le_refl _) (by decide) rfl⟩
namespace Ak
end Ak
end Go.Proofs.YtniagnldiegamaaGreat

