/- The reference's Twin: a cake that is copied. The reference's comparisons of logs and of cakes, and its Twins. -/
import Derived.Test.YtmfnlapoefihkaaGreatGj
import Derived.Test.YtmfnlapoefihkaaGreatGf
import Derived.Deep.RegionLawGrows
import Derived.Deep.RegionHeld3
import Derived.Test.YtmfnlapoefihkaaGreatAskpu
import Derived.Test.YtmfnlapoefihkaaGreatGi
namespace Go.Proofs.YtmfnlapoefihkaaGreat
open Go.RowKit
/-- A slice of ints in a block from B on (an empty one: anywhere). -/
def IsF (w : World) (B : Nat) (A : Option Addr) (zs : List Int) : Prop :=
  (0 < zs.length → ∃ b off, A = some ⟨b, off, none⟩ ∧ B ≤ b ∧ ∀ i, i < zs.length → w.cell? ⟨b, off + i, none⟩ = some (.int .i64 (Ck.at_ zs i))) ∧ ∀ z ∈ zs, I64 z
theorem IsF.isI {w : World} {B : Nat} {A : Option Addr} {zs : List Int} (h : IsF w B A zs) : IsI w A zs :=
  ⟨fun h0 => by
    obtain ⟨b, off, e, _, hc⟩ := h.1 h0
    exact ⟨b, off, e, hc⟩, h.2⟩
theorem IsF.keep {w v : World} {B : Nat} {A : Option Addr} {zs : List Int} (h : IsF w B A zs) (hb : Below w.heap.size w v) : IsF v B A zs :=
  ⟨fun h0 => by
    obtain ⟨b, off, e, hB, hc⟩ := h.1 h0
    exact ⟨b, off, e, hB, fun i hi => keepC hb (hc i hi)⟩, h.2⟩
theorem IsF.set {w : World} {B : Nat} {A : Option Addr} {zs : List Int} (h : IsF w B A zs) {c o : Nat} (hc : c < B) (u : Value) : IsF (w.setCell ⟨c, o, none⟩ u) B A zs :=
  ⟨fun h0 => by
    obtain ⟨b, off, e, hB, hcl⟩ := h.1 h0
    exact ⟨b, off, e, hB, fun i hi => cell_far (hcl i hi) (by omega) u⟩, h.2⟩
end Go.Proofs.YtmfnlapoefihkaaGreat
namespace Go.Proofs.YtmfnlapoefihkaaGreat
open Go.RowKit
namespace Ak
theorem qr_ne {s t : Qr} (h : s ≠ t) : s.ag = t.ag → s.kd = t.kd → s.a = t.a → s.b = t.b → s.c = t.c → s.d = t.d → s.x = t.x → ¬ s.y = t.y := by
  intro h1 h2 h3 h4 h5 h6 h7 h8
  cases s; cases t
  simp only at h1 h2 h3 h4 h5 h6 h7 h8
  subst h1 h2 h3 h4 h5 h6 h7 h8; exact h rfl
theorem qlist_ext {xs ys : List Qr} (hl : xs.length = ys.length) (h : ∀ k, k < xs.length → qat xs k = qat ys k) : xs = ys := by
  refine List.ext_getElem hl fun i h1 h2 => ?_
  have := h i h1
  rwa [qat_lt h1, qat_lt h2] at this
end Ak
set_option linter.unusedSimpArgs false in
set_option maxHeartbeats 8000000 in
set_option maxRecDepth 100000 in
theorem rSameLogs_any (A B : Option Addr) (ca cb : Nat) (xs ys : List Qr) (w : World) (ha : IsQs w A xs) (hb : IsQs w B ys) :
    Calls Tryz.prog 15 #[.slice A xs.length ca, .slice B ys.length cb] w fun e w' => e = .returned (.bool (decide (xs = ys))) ∧ Below w.heap.size w w' := by
  obtain ⟨b1, o1, hA, hc⟩ := ha.at_; obtain ⟨b2, o2, hB, hd⟩ := hb.at_; have HC := Lib.hid hc; have HD := Lib.hid hd; have HA := Lib.hid hA; have HB := Lib.hid hB; have hml := ha.len; clear hc hd hA hB ha hb
  have hm2 : (xs.length : Int) ≤ 9223372036854775807 := by unfold maxLen at hml; omega
  by_cases hln : xs.length = ys.length
  case neg =>
    have e1 : (((xs.length : Nat) : Int) != ((ys.length : Nat) : Int)) = true := by rw [bne_iff_ne]; omega
    have e2 : (((xs.length : Nat) : Int) == ((ys.length : Nat) : Int)) = false := by rw [beq_eq_false_iff_ne]; omega
    have e3 : ¬ ((xs.length : Nat) : Int) = ((ys.length : Nat) : Int) := by omega
    rw [decide_eq_false (show ¬ xs = ys from fun e => hln (by rw [e]))]; clear HA HB HC HD hln
    go_enter Tryz.func15, Tryz.ntmps15
    go_wp2_with fail
    go_ret
    exact ⟨by first | rfl | simp, Below.refl _ _⟩
  have HLN := Lib.hid hln; have HB := Lib.hid (show 0 < xs.length → B = some ⟨b2, o2, none⟩ from fun h => HB.out (by omega)); rw [← hln] at HD; rw [← hln]; obtain ⟨R, hR⟩ : ∃ R, decide (xs = ys) = R := ⟨_, rfl⟩; rw [hR]; clear hln
  go_enter Tryz.func15, Tryz.ntmps15
  go_wp2_with fail
  go_loopw [5] (fun i W => ∃ k : Nat, k ≤ xs.length ∧ i = .int .i64 k ∧ (∀ j, j < k → Ak.qat xs j = Ak.qat ys j) ∧ Below w.heap.size w W) (fun i _ => xs.length - (intOf i).toNat)
  case atStart => exact ⟨0, Nat.zero_le _, rfl, fun j hj => absurd hj (Nat.not_lt_zero _), Below.refl _ _⟩
  case round =>
    obtain ⟨k, hk, rfl, hok, hbb⟩ := hrel; have HOK := Lib.hid hok; clear hok
    by_cases hlt : k < xs.length
    · have hA' := HA.out (by omega)
      subst hA'; have hB' := HB.out (by omega); subst hB'; obtain ⟨s, hs⟩ : ∃ s, Ak.qat xs k = s := ⟨_, rfl⟩; obtain ⟨t, ht⟩ : ∃ t, Ak.qat ys k = t := ⟨_, rfl⟩; obtain ⟨c0, c1, c2, c3, c4, c5, c6, c7⟩ := (HC.out k hlt).keep hbb; obtain ⟨d0, d1, d2, d3, d4, d5, d6, d7⟩ := (HD.out k hlt).keep hbb; rw [hs] at c0 c1 c2 c3 c4 c5 c6 c7; rw [ht] at d0 d1 d2 d3 d4 d5 d6 d7; dsimp only at c0 c1 c2 c3 c4 c5 c6 c7 d0 d1 d2 d3 d4 d5 d6 d7; rw [Nat.add_zero] at c0 d0
      have i1 : (0 : Int) ≤ (k : Int) := by omega
      have i2 : (k : Int) < (xs.length : Int) := by omega
      by_cases hst : s = t
      · have EB := Lib.hid (show Ak.qat xs k = Ak.qat ys k by rw [hs, ht, hst])
        subst hst; clear hs ht
        go_upto_region 6 with fail
        refine at_worldQ (fun v => Below w.heap.size w v ∧ v.cell? ⟨b1, o1 + k * 8, none⟩ = some (.int .i64 s.ag) ∧ v.cell? ⟨b1, o1 + k * 8 + 1, none⟩ = some (.int .u8 s.kd) ∧ v.cell? ⟨b1, o1 + k * 8 + 2, none⟩ = some (.int .i64 s.a) ∧ v.cell? ⟨b1, o1 + k * 8 + 3, none⟩ = some (.int .i64 s.b) ∧ v.cell? ⟨b1, o1 + k * 8 + 4, none⟩ = some (.int .i64 s.c) ∧ v.cell? ⟨b1, o1 + k * 8 + 5, none⟩ = some (.int .i64 s.d) ∧ v.cell? ⟨b1, o1 + k * 8 + 6, none⟩ = some (.int .i64 s.x) ∧ v.cell? ⟨b1, o1 + k * 8 + 7, none⟩ = some (.int .i64 s.y) ∧ v.cell? ⟨b2, o2 + k * 8, none⟩ = some (.int .i64 s.ag) ∧ v.cell? ⟨b2, o2 + k * 8 + 1, none⟩ = some (.int .u8 s.kd) ∧ v.cell? ⟨b2, o2 + k * 8 + 2, none⟩ = some (.int .i64 s.a) ∧ v.cell? ⟨b2, o2 + k * 8 + 3, none⟩ = some (.int .i64 s.b) ∧ v.cell? ⟨b2, o2 + k * 8 + 4, none⟩ = some (.int .i64 s.c) ∧ v.cell? ⟨b2, o2 + k * 8 + 5, none⟩ = some (.int .i64 s.d) ∧ v.cell? ⟨b2, o2 + k * 8 + 6, none⟩ = some (.int .i64 s.x) ∧ v.cell? ⟨b2, o2 + k * 8 + 7, none⟩ = some (.int .i64 s.y)) ⟨hbb, c0, c1, c2, c3, c4, c5, c6, c7, d0, d1, d2, d3, d4, d5, d6, d7⟩ (fun V hS => ?_); clear hbb c0 c1 c2 c3 c4 c5 c6 c7 d0 d1 d2 d3 d4 d5 d6 d7; obtain ⟨hbb, c0, c1, c2, c3, c4, c5, c6, c7, d0, d1, d2, d3, d4, d5, d6, d7⟩ := hS; refine wp_region_noPanic ?_; refine wp_region_held_drew (S := (Below V.heap.size V)) (by kernel_rfl) ((Below.refl _ _).drew) (fun hHeld => ?_); refine at_anyH (Below V.heap.size V) hHeld (fun wq0 hNew => ?_); clear hHeld; have hHeld := hNew; clear hNew; refine tkd 0 rfl hHeld ?_; (try simp only [PPz]); refine tkd 1 rfl hHeld ?_; (try simp only [PPz]); refine tkd 2 rfl hHeld ?_; (try simp only [PPz]); refine tkm 3 rfl hHeld (fun w hSw => by have kc0 := keepC hSw c0; have kc1 := keepC hSw c1; have kc2 := keepC hSw c2; have kc3 := keepC hSw c3; have kc4 := keepC hSw c4; have kc5 := keepC hSw c5; have kc6 := keepC hSw c6; have kc7 := keepC hSw c7; have kd0 := keepC hSw d0; have kd1 := keepC hSw d1; have kd2 := keepC hSw d2; have kd3 := keepC hSw d3; have kd4 := keepC hSw d4; have kd5 := keepC hSw d5; have kd6 := keepC hSw d6; have kd7 := keepC hSw d7; go_simp <;> with_reducible rfl) ?_; (try simp only [PPz]); refine tkd 4 rfl hHeld ?_; (try simp only [PPz]); refine tkd 5 rfl hHeld ?_; (try simp only [PPz]); refine tkd 6 rfl hHeld ?_; (try simp only [PPz]); refine tkm 7 rfl hHeld (fun w hSw => by have kc0 := keepC hSw c0; have kc1 := keepC hSw c1; have kc2 := keepC hSw c2; have kc3 := keepC hSw c3; have kc4 := keepC hSw c4; have kc5 := keepC hSw c5; have kc6 := keepC hSw c6; have kc7 := keepC hSw c7; have kd0 := keepC hSw d0; have kd1 := keepC hSw d1; have kd2 := keepC hSw d2; have kd3 := keepC hSw d3; have kd4 := keepC hSw d4; have kd5 := keepC hSw d5; have kd6 := keepC hSw d6; have kd7 := keepC hSw d7; go_simp <;> with_reducible rfl) ?_; (try simp only [PPz]); refine tkd 8 rfl hHeld ?_; (try simp only [PPz]); refine wpAnyH_done (by kernel_rfl) ?_ _; refine NoPanic.normal ?_; replace hbb := keepB hbb hHeld; (go_wp2_with fail)
        go_roundw
        case rel => exact ⟨k + 1, by omega, by go_num, fun j hj => (Nat.lt_succ_iff_lt_or_eq.1 hj).elim (HOK.out j) (fun e => e ▸ EB.out), hbb⟩
        case measure => simp [intOf]; omega
      · have HNE := Lib.hid (Ak.qr_ne hst)
        have EB := Lib.hid (show ¬ xs = ys from fun e => hst (by rw [← hs, ← ht, e])); clear hs ht hst
        go_upto_region 6 with fail
        refine at_worldQ (fun v => Below w.heap.size w v ∧ v.cell? ⟨b1, o1 + k * 8, none⟩ = some (.int .i64 s.ag) ∧ v.cell? ⟨b1, o1 + k * 8 + 1, none⟩ = some (.int .u8 s.kd) ∧ v.cell? ⟨b1, o1 + k * 8 + 2, none⟩ = some (.int .i64 s.a) ∧ v.cell? ⟨b1, o1 + k * 8 + 3, none⟩ = some (.int .i64 s.b) ∧ v.cell? ⟨b1, o1 + k * 8 + 4, none⟩ = some (.int .i64 s.c) ∧ v.cell? ⟨b1, o1 + k * 8 + 5, none⟩ = some (.int .i64 s.d) ∧ v.cell? ⟨b1, o1 + k * 8 + 6, none⟩ = some (.int .i64 s.x) ∧ v.cell? ⟨b1, o1 + k * 8 + 7, none⟩ = some (.int .i64 s.y) ∧ v.cell? ⟨b2, o2 + k * 8, none⟩ = some (.int .i64 t.ag) ∧ v.cell? ⟨b2, o2 + k * 8 + 1, none⟩ = some (.int .u8 t.kd) ∧ v.cell? ⟨b2, o2 + k * 8 + 2, none⟩ = some (.int .i64 t.a) ∧ v.cell? ⟨b2, o2 + k * 8 + 3, none⟩ = some (.int .i64 t.b) ∧ v.cell? ⟨b2, o2 + k * 8 + 4, none⟩ = some (.int .i64 t.c) ∧ v.cell? ⟨b2, o2 + k * 8 + 5, none⟩ = some (.int .i64 t.d) ∧ v.cell? ⟨b2, o2 + k * 8 + 6, none⟩ = some (.int .i64 t.x) ∧ v.cell? ⟨b2, o2 + k * 8 + 7, none⟩ = some (.int .i64 t.y)) ⟨hbb, c0, c1, c2, c3, c4, c5, c6, c7, d0, d1, d2, d3, d4, d5, d6, d7⟩ (fun V hS => ?_); clear hbb c0 c1 c2 c3 c4 c5 c6 c7 d0 d1 d2 d3 d4 d5 d6 d7; obtain ⟨hbb, c0, c1, c2, c3, c4, c5, c6, c7, d0, d1, d2, d3, d4, d5, d6, d7⟩ := hS; refine wp_region_noPanic ?_; refine wp_region_held_drew (S := (Below V.heap.size V)) (by kernel_rfl) ((Below.refl _ _).drew) (fun hHeld => ?_); refine at_anyH (Below V.heap.size V) hHeld (fun wr0 hNew => ?_); clear hHeld; have hHeld := hNew; clear hNew; refine tkd 0 rfl hHeld ?_; (try simp only [PPz]); refine tkd 1 rfl hHeld ?_; (try simp only [PPz]); refine tkd 2 rfl hHeld ?_; (try simp only [PPz]); refine tkm 3 rfl hHeld (fun w hSw => by have kc0 := keepC hSw c0; have kc1 := keepC hSw c1; have kc2 := keepC hSw c2; have kc3 := keepC hSw c3; have kc4 := keepC hSw c4; have kc5 := keepC hSw c5; have kc6 := keepC hSw c6; have kc7 := keepC hSw c7; have kd0 := keepC hSw d0; have kd1 := keepC hSw d1; have kd2 := keepC hSw d2; have kd3 := keepC hSw d3; have kd4 := keepC hSw d4; have kd5 := keepC hSw d5; have kd6 := keepC hSw d6; have kd7 := keepC hSw d7; go_simp <;> with_reducible rfl) ?_; (try simp only [PPz]); refine tkd 4 rfl hHeld ?_; (try simp only [PPz]); refine tkd 5 rfl hHeld ?_; (try simp only [PPz]); refine tkd 6 rfl hHeld ?_; (try simp only [PPz]); refine tkm 7 rfl hHeld (fun w hSw => by have kc0 := keepC hSw c0; have kc1 := keepC hSw c1; have kc2 := keepC hSw c2; have kc3 := keepC hSw c3; have kc4 := keepC hSw c4; have kc5 := keepC hSw c5; have kc6 := keepC hSw c6; have kc7 := keepC hSw c7; have kd0 := keepC hSw d0; have kd1 := keepC hSw d1; have kd2 := keepC hSw d2; have kd3 := keepC hSw d3; have kd4 := keepC hSw d4; have kd5 := keepC hSw d5; have kd6 := keepC hSw d6; have kd7 := keepC hSw d7; go_simp <;> with_reducible rfl) ?_; (try simp only [PPz]); refine tkn 8 (.bool true) rfl ?_ hHeld ?_
        · intro w hSw
          have kc0 := keepC hSw c0; have kc1 := keepC hSw c1; have kc2 := keepC hSw c2; have kc3 := keepC hSw c3; have kc4 := keepC hSw c4; have kc5 := keepC hSw c5; have kc6 := keepC hSw c6; have kc7 := keepC hSw c7; have kd0 := keepC hSw d0; have kd1 := keepC hSw d1; have kd2 := keepC hSw d2; have kd3 := keepC hSw d3; have kd4 := keepC hSw d4; have kd5 := keepC hSw d5; have kd6 := keepC hSw d6; have kd7 := keepC hSw d7; go_simp; exact HNE.out
        (try simp only [PPz]); refine wpAnyH_done (by kernel_rfl) ?_ _; refine NoPanic.normal ?_; replace hbb := keepB hbb hHeld; rw [decide_eq_false EB.out] at hR; subst hR; (go_wp2_with fail)
        go_ret
        exact ⟨by first | rfl | simp, hbb⟩
    · obtain rfl : k = xs.length := by omega
      rw [decide_eq_true (Ak.qlist_ext HLN.out HOK.out)] at hR; subst hR; clear HOK HA HB HC HD HLN; (go_wp2_with fail)
      go_ret
      exact ⟨by first | rfl | simp, hbb⟩
theorem IsF.mono {V : World} {B B' : Nat} {A : Option Addr} {zs : List Int} (h : IsF V B A zs) (hb : B' ≤ B) : IsF V B' A zs :=
  ⟨fun h0 => by
    obtain ⟨g, off, e, h1, hc⟩ := h.1 h0
    exact ⟨g, off, e, Nat.le_trans hb h1, hc⟩, h.2⟩
end Go.Proofs.YtmfnlapoefihkaaGreat

