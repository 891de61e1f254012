/- The reference's Twin: a cake that is copied. The reference's comparisons of logs and of cakes, and its Twins. -/
import Derived.Test.YtniagnldiegamaaGreatGj
import Derived.Test.YtniagnldiegamaaGreatGf
import Derived.Deep.RegionLawGrows
import Derived.Deep.RegionHeld3
import Derived.Test.YtniagnldiegamaaGreatAskpu
import Derived.Test.YtniagnldiegamaaGreatGi
set_option linter.unusedSimpArgs false
set_option maxHeartbeats 8000000
set_option maxRecDepth 100000
namespace Go.Proofs.YtniagnldiegamaaGreat
open Go.RowKit
/-- A slice of ints in a block from B on (an empty one: anywhere). -/
def IsF (w : World) (B : Nat) (A : Option Addr) (zs : List Int) : Prop :=
  (0 < zs.length → ∃ b off, A = some ⟨b, off, none⟩ ∧ B ≤ b ∧ ∀ i, i < zs.length → w.cell? ⟨b, off + i, none⟩ = some (.int .i64 (Ck.at_ zs i))) ∧ ∀ z ∈ zs, I64 z
theorem IsF.isI {w : World} {B : Nat} {A : Option Addr} {zs : List Int} (h : IsF w B A zs) : IsI w A zs :=
  ⟨fun h0 => by
    obtain ⟨b, off, e, _, hc⟩ := h.1 h0
    exact ⟨b, off, e, hc⟩, h.2⟩
theorem IsF.keep {w v : World} {B : Nat} {A : Option Addr} {zs : List Int} (h : IsF w B A zs) (hb : Below w.heap.size w v) : IsF v B A zs :=
  ⟨fun h0 => by
    obtain ⟨b, off, e, hB, hc⟩ := h.1 h0
    exact ⟨b, off, e, hB, fun i hi => keepC hb (hc i hi)⟩, h.2⟩
theorem IsF.set {w : World} {B : Nat} {A : Option Addr} {zs : List Int} (h : IsF w B A zs) {c o : Nat} (hc : c < B) (u : Value) : IsF (w.setCell ⟨c, o, none⟩ u) B A zs :=
  ⟨fun h0 => by
    obtain ⟨b, off, e, hB, hcl⟩ := h.1 h0
    exact ⟨b, off, e, hB, fun i hi => cell_far (hcl i hi) (by omega) u⟩, h.2⟩
theorem res_far2 {v : World} {p q r : Addr} {a b c x : Value} (h1 : q ≠ p) (h2 : r ≠ p) (h : (((v.setCell p a).setCell q b).setCell r c).cell? p = some x) : (((v.setCell p a).setCell q b).setCell r c).cell? p = some a := by
  rw [World.cell?_setCell_other _ _ _ _ h2] at h ⊢; exact res_far h1 h
theorem step_twin {ops : Array Oper} {o : Oper} {a : Act} {w : World} {K : Act → World → Prop} {Q : Exit → Act → World → Prop} {E : Prop} {B : Nat}
    (hg : o.guard = none) (s x : Operand) (hop : o.op = Op.call { callee := Callee.builtin Builtin.append, args := #[s, x], argTypes := #[59, 59] })
    (A : Option Addr) (n c : Nat) (xs : List Int) (hs : ∃ h, a.eval s = .slice (some ⟨h, 0, none⟩) 0 0) (hx : a.eval x = .slice A n c) (hn : xs.length = n) (hI : IsI w A xs) (hb : n ≤ 60) (hB : B ≤ w.heap.size)
    (hK : ∀ A' c' w', IsF w' B A' xs → Below w.heap.size w w' → K (a.put o.dst (.slice A' n c')) w') :
    if Region.wanted o (yielded ops a.tmps) = true then Oper.wp Tryz.prog o a w K Q else E := by
  have hw : Region.wanted o (yielded ops a.tmps) = true := by simp [Region.wanted, hg]
  rw [if_pos hw]; obtain ⟨i0, hi0, hz0, hz1, hz2⟩ := info_parts intInfo; obtain ⟨h, hs⟩ := hs; subst hn
  rcases Nat.eq_zero_or_pos xs.length with h0 | h0
  · have hxs : xs = [] := List.eq_nil_of_length_eq_zero h0
    subst hxs
    have hrun : (Builtin.append_ #[59, 59] o.type #[.slice (some ⟨h, 0, none⟩) 0 0, .slice A 0 c]).run Tryz.prog w = .ok (.slice (some ⟨h, 0, none⟩) 0 0) w := by
      cases A <;> simp [Builtin.append_, run_underlying Tryz.underlying59, sizeOf, typeInfo, hi0, Builtin.lenOf, Builtin.firstCells, loadCells, loadCellsFrom, storeCells]
    unfold Oper.wp
    simp only [List.length_nil] at hx hK
    simp [execOp, hop, resolve, invoke, builtin, hs, hx, hrun, Result.andThen]
    exact hK _ _ _ ⟨fun g => absurd g (by simp), by simp⟩ (Below.refl _ _)
  · obtain ⟨b, off, rfl, hc⟩ := hI.1 h0
    obtain ⟨v', w', hrun, r1, r2⟩ := run_append_arg_grows (P := Tryz.prog) w 59 o.type 3 i0 _ 1 8 Tryz.underlying59 hi0 hz0 hz1 hz2 rfl (by omega) ⟨h, 0, none⟩ 0 0 [] rfl (fun j u hj => by simp at hj) ⟨b, off, none⟩ xs.length c (xs.map (Value.int .i64)) (by simp) (fun j u hj => by
      rw [List.getElem?_map, Option.map_eq_some_iff] at hj; obtain ⟨y, hy, rfl⟩ := hj; obtain ⟨hj1, hj2⟩ := List.getElem?_eq_some_iff.1 hy; rw [Addr.add_lit]; have := hc j hj1; rw [Ck.at_lt hj1, hj2] at this
      exact this) (by omega) (by unfold maxLen; omega) (by omega)
    rw [List.nil_append, Nat.zero_add] at r1; obtain ⟨g, cap, rfl, hg1, hg2⟩ := World.ownsRow.form r1 h0
    unfold Oper.wp
    simp [execOp, hop, resolve, invoke, builtin, hs, hx, hrun, Result.andThen]
    refine hK _ _ _ ⟨fun _ => ⟨g, 0, rfl, by omega, ?_⟩, hI.2⟩ ⟨r2.os, r2.tape, r2.output, r2.size, fun k hk => r2.block k hk (by simp)⟩; have hO : Own w' w.heap.size (.slice (some ⟨g, 0, none⟩) xs.length cap) xs := r1; intro i hi; rw [Nat.zero_add]; exact hO.cell i hi

end Go.Proofs.YtniagnldiegamaaGreat
namespace Go.Proofs.YtniagnldiegamaaGreat
open Go.RowKit
namespace Ak
theorem qr_ne {s t : Qr} (h : s ≠ t) : s.ag = t.ag → s.kd = t.kd → s.a = t.a → s.b = t.b → s.c = t.c → s.d = t.d → s.x = t.x → ¬ s.y = t.y := by
  intro h1 h2 h3 h4 h5 h6 h7 h8
  cases s; cases t
  simp only at h1 h2 h3 h4 h5 h6 h7 h8
  subst h1 h2 h3 h4 h5 h6 h7 h8; exact h rfl
theorem qlist_ext {xs ys : List Qr} (hl : xs.length = ys.length) (h : ∀ k, k < xs.length → qat xs k = qat ys k) : xs = ys := by
  refine List.ext_getElem hl fun i h1 h2 => ?_
  have := h i h1
  rwa [qat_lt h1, qat_lt h2] at this
theorem dlist_ext {xs ys : List CkD} (hl : xs.length = ys.length) (h : ∀ k, k < xs.length → dAt xs k = dAt ys k) : xs = ys := by
  refine List.ext_getElem hl fun i h1 h2 => ?_
  have := h i h1
  rwa [dAt_lt h1, dAt_lt h2] at this
end Ak
theorem rSameLogs_any (A B : Option Addr) (ca cb : Nat) (xs ys : List Qr) (w : World) (ha : IsQs w A xs) (hb : IsQs w B ys) :
    Calls Tryz.prog 14 #[.slice A xs.length ca, .slice B ys.length cb] w fun e w' => e = .returned (.bool (decide (xs = ys))) ∧ Below w.heap.size w w' := by
  obtain ⟨b1, o1, hA, hc⟩ := ha.at_; obtain ⟨b2, o2, hB, hd⟩ := hb.at_; have HC := Lib.hid hc; have HD := Lib.hid hd; have HA := Lib.hid hA; have HB := Lib.hid hB; have hml := ha.len; clear hc hd hA hB ha hb
  have hm2 : (xs.length : Int) ≤ 9223372036854775807 := by unfold maxLen at hml; omega
  by_cases hln : xs.length = ys.length
  case neg =>
    have e1 : (((xs.length : Nat) : Int) != ((ys.length : Nat) : Int)) = true := by rw [bne_iff_ne]; omega
    have e2 : (((xs.length : Nat) : Int) == ((ys.length : Nat) : Int)) = false := by rw [beq_eq_false_iff_ne]; omega
    have e3 : ¬ ((xs.length : Nat) : Int) = ((ys.length : Nat) : Int) := by omega
    rw [decide_eq_false (show ¬ xs = ys from fun e => hln (by rw [e]))]; clear HA HB HC HD hln
    go_enter Tryz.func14, Tryz.ntmps14
    go_wp2_with fail
    go_ret
    exact ⟨by first | rfl | simp, Below.refl _ _⟩
  have HLN := Lib.hid hln; have HB := Lib.hid (show 0 < xs.length → B = some ⟨b2, o2, none⟩ from fun h => HB.out (by omega)); rw [← hln] at HD; rw [← hln]; obtain ⟨R, hR⟩ : ∃ R, decide (xs = ys) = R := ⟨_, rfl⟩; rw [hR]; clear hln
  go_enter Tryz.func14, Tryz.ntmps14
  go_wp2_with fail
  go_loopw [5] (fun i W => ∃ k : Nat, k ≤ xs.length ∧ i = .int .i64 k ∧ (∀ j, j < k → Ak.qat xs j = Ak.qat ys j) ∧ Below w.heap.size w W) (fun i _ => xs.length - (intOf i).toNat)
  case atStart => exact ⟨0, Nat.zero_le _, rfl, fun j hj => absurd hj (Nat.not_lt_zero _), Below.refl _ _⟩
  case round =>
    obtain ⟨k, hk, rfl, hok, hbb⟩ := hrel; have HOK := Lib.hid hok; clear hok
    by_cases hlt : k < xs.length
    · have hA' := HA.out (by omega)
      subst hA'; have hB' := HB.out (by omega); subst hB'; obtain ⟨s, hs⟩ : ∃ s, Ak.qat xs k = s := ⟨_, rfl⟩; obtain ⟨t, ht⟩ : ∃ t, Ak.qat ys k = t := ⟨_, rfl⟩; obtain ⟨c0, c1, c2, c3, c4, c5, c6, c7⟩ := (HC.out k hlt).keep hbb; obtain ⟨d0, d1, d2, d3, d4, d5, d6, d7⟩ := (HD.out k hlt).keep hbb; rw [hs] at c0 c1 c2 c3 c4 c5 c6 c7; rw [ht] at d0 d1 d2 d3 d4 d5 d6 d7; dsimp only at c0 c1 c2 c3 c4 c5 c6 c7 d0 d1 d2 d3 d4 d5 d6 d7; rw [Nat.add_zero] at c0 d0
      have i1 : (0 : Int) ≤ (k : Int) := by omega
      have i2 : (k : Int) < (xs.length : Int) := by omega
      by_cases hst : s = t
      · have EB := Lib.hid (show Ak.qat xs k = Ak.qat ys k by rw [hs, ht, hst])
        subst hst; clear hs ht
        go_upto_region 6 with fail
        refine at_worldQ (fun v => Below w.heap.size w v ∧ v.cell? ⟨b1, o1 + k * 8, none⟩ = some (.int .i64 s.ag) ∧ v.cell? ⟨b1, o1 + k * 8 + 1, none⟩ = some (.int .u8 s.kd) ∧ v.cell? ⟨b1, o1 + k * 8 + 2, none⟩ = some (.int .i64 s.a) ∧ v.cell? ⟨b1, o1 + k * 8 + 3, none⟩ = some (.int .i64 s.b) ∧ v.cell? ⟨b1, o1 + k * 8 + 4, none⟩ = some (.int .i64 s.c) ∧ v.cell? ⟨b1, o1 + k * 8 + 5, none⟩ = some (.int .i64 s.d) ∧ v.cell? ⟨b1, o1 + k * 8 + 6, none⟩ = some (.int .i64 s.x) ∧ v.cell? ⟨b1, o1 + k * 8 + 7, none⟩ = some (.int .i64 s.y) ∧ v.cell? ⟨b2, o2 + k * 8, none⟩ = some (.int .i64 s.ag) ∧ v.cell? ⟨b2, o2 + k * 8 + 1, none⟩ = some (.int .u8 s.kd) ∧ v.cell? ⟨b2, o2 + k * 8 + 2, none⟩ = some (.int .i64 s.a) ∧ v.cell? ⟨b2, o2 + k * 8 + 3, none⟩ = some (.int .i64 s.b) ∧ v.cell? ⟨b2, o2 + k * 8 + 4, none⟩ = some (.int .i64 s.c) ∧ v.cell? ⟨b2, o2 + k * 8 + 5, none⟩ = some (.int .i64 s.d) ∧ v.cell? ⟨b2, o2 + k * 8 + 6, none⟩ = some (.int .i64 s.x) ∧ v.cell? ⟨b2, o2 + k * 8 + 7, none⟩ = some (.int .i64 s.y)) ⟨hbb, c0, c1, c2, c3, c4, c5, c6, c7, d0, d1, d2, d3, d4, d5, d6, d7⟩ (fun V hS => ?_); clear hbb c0 c1 c2 c3 c4 c5 c6 c7 d0 d1 d2 d3 d4 d5 d6 d7; obtain ⟨hbb, c0, c1, c2, c3, c4, c5, c6, c7, d0, d1, d2, d3, d4, d5, d6, d7⟩ := hS; refine wp_region_noPanic ?_; refine wp_region_held_drew (S := (Below V.heap.size V)) (by kernel_rfl) ((Below.refl _ _).drew) (fun hHeld => ?_); refine at_anyH (Below V.heap.size V) hHeld (fun wq0 hNew => ?_); clear hHeld; have hHeld := hNew; clear hNew; refine tkd 0 ?_; refine tkd 1 ?_; refine tkd 2 ?_; (try simp only [PPz]); refine tkm 3 rfl hHeld (fun w hSw => by have kc0 := keepC hSw c0; have kc1 := keepC hSw c1; have kc2 := keepC hSw c2; have kc3 := keepC hSw c3; have kc4 := keepC hSw c4; have kc5 := keepC hSw c5; have kc6 := keepC hSw c6; have kc7 := keepC hSw c7; have kd0 := keepC hSw d0; have kd1 := keepC hSw d1; have kd2 := keepC hSw d2; have kd3 := keepC hSw d3; have kd4 := keepC hSw d4; have kd5 := keepC hSw d5; have kd6 := keepC hSw d6; have kd7 := keepC hSw d7; go_simp <;> with_reducible rfl) ?_; (try simp only [PPz]); refine tkd 4 ?_; refine tkd 5 ?_; refine tkd 6 ?_; (try simp only [PPz]); refine tkm 7 rfl hHeld (fun w hSw => by have kc0 := keepC hSw c0; have kc1 := keepC hSw c1; have kc2 := keepC hSw c2; have kc3 := keepC hSw c3; have kc4 := keepC hSw c4; have kc5 := keepC hSw c5; have kc6 := keepC hSw c6; have kc7 := keepC hSw c7; have kd0 := keepC hSw d0; have kd1 := keepC hSw d1; have kd2 := keepC hSw d2; have kd3 := keepC hSw d3; have kd4 := keepC hSw d4; have kd5 := keepC hSw d5; have kd6 := keepC hSw d6; have kd7 := keepC hSw d7; go_simp <;> with_reducible rfl) ?_; (try simp only [PPz]); refine tkd 8 ?_; (try simp only [PPz]); refine wpAnyH_done (by kernel_rfl) ?_ _; refine NoPanic.normal ?_; replace hbb := keepB hbb hHeld; (go_wp2_with fail)
        go_roundw
        case rel => exact ⟨k + 1, by omega, by go_num, fun j hj => (Nat.lt_succ_iff_lt_or_eq.1 hj).elim (HOK.out j) (fun e => e ▸ EB.out), hbb⟩
        case measure => simp [intOf]; omega
      · have HNE := Lib.hid (Ak.qr_ne hst)
        have EB := Lib.hid (show ¬ xs = ys from fun e => hst (by rw [← hs, ← ht, e])); clear hs ht hst
        go_upto_region 6 with fail
        refine at_worldQ (fun v => Below w.heap.size w v ∧ v.cell? ⟨b1, o1 + k * 8, none⟩ = some (.int .i64 s.ag) ∧ v.cell? ⟨b1, o1 + k * 8 + 1, none⟩ = some (.int .u8 s.kd) ∧ v.cell? ⟨b1, o1 + k * 8 + 2, none⟩ = some (.int .i64 s.a) ∧ v.cell? ⟨b1, o1 + k * 8 + 3, none⟩ = some (.int .i64 s.b) ∧ v.cell? ⟨b1, o1 + k * 8 + 4, none⟩ = some (.int .i64 s.c) ∧ v.cell? ⟨b1, o1 + k * 8 + 5, none⟩ = some (.int .i64 s.d) ∧ v.cell? ⟨b1, o1 + k * 8 + 6, none⟩ = some (.int .i64 s.x) ∧ v.cell? ⟨b1, o1 + k * 8 + 7, none⟩ = some (.int .i64 s.y) ∧ v.cell? ⟨b2, o2 + k * 8, none⟩ = some (.int .i64 t.ag) ∧ v.cell? ⟨b2, o2 + k * 8 + 1, none⟩ = some (.int .u8 t.kd) ∧ v.cell? ⟨b2, o2 + k * 8 + 2, none⟩ = some (.int .i64 t.a) ∧ v.cell? ⟨b2, o2 + k * 8 + 3, none⟩ = some (.int .i64 t.b) ∧ v.cell? ⟨b2, o2 + k * 8 + 4, none⟩ = some (.int .i64 t.c) ∧ v.cell? ⟨b2, o2 + k * 8 + 5, none⟩ = some (.int .i64 t.d) ∧ v.cell? ⟨b2, o2 + k * 8 + 6, none⟩ = some (.int .i64 t.x) ∧ v.cell? ⟨b2, o2 + k * 8 + 7, none⟩ = some (.int .i64 t.y)) ⟨hbb, c0, c1, c2, c3, c4, c5, c6, c7, d0, d1, d2, d3, d4, d5, d6, d7⟩ (fun V hS => ?_); clear hbb c0 c1 c2 c3 c4 c5 c6 c7 d0 d1 d2 d3 d4 d5 d6 d7; obtain ⟨hbb, c0, c1, c2, c3, c4, c5, c6, c7, d0, d1, d2, d3, d4, d5, d6, d7⟩ := hS; refine wp_region_noPanic ?_; refine wp_region_held_drew (S := (Below V.heap.size V)) (by kernel_rfl) ((Below.refl _ _).drew) (fun hHeld => ?_); refine at_anyH (Below V.heap.size V) hHeld (fun wr0 hNew => ?_); clear hHeld; have hHeld := hNew; clear hNew; refine tkd 0 ?_; refine tkd 1 ?_; refine tkd 2 ?_; (try simp only [PPz]); refine tkm 3 rfl hHeld (fun w hSw => by have kc0 := keepC hSw c0; have kc1 := keepC hSw c1; have kc2 := keepC hSw c2; have kc3 := keepC hSw c3; have kc4 := keepC hSw c4; have kc5 := keepC hSw c5; have kc6 := keepC hSw c6; have kc7 := keepC hSw c7; have kd0 := keepC hSw d0; have kd1 := keepC hSw d1; have kd2 := keepC hSw d2; have kd3 := keepC hSw d3; have kd4 := keepC hSw d4; have kd5 := keepC hSw d5; have kd6 := keepC hSw d6; have kd7 := keepC hSw d7; go_simp <;> with_reducible rfl) ?_; (try simp only [PPz]); refine tkd 4 ?_; refine tkd 5 ?_; refine tkd 6 ?_; (try simp only [PPz]); refine tkm 7 rfl hHeld (fun w hSw => by have kc0 := keepC hSw c0; have kc1 := keepC hSw c1; have kc2 := keepC hSw c2; have kc3 := keepC hSw c3; have kc4 := keepC hSw c4; have kc5 := keepC hSw c5; have kc6 := keepC hSw c6; have kc7 := keepC hSw c7; have kd0 := keepC hSw d0; have kd1 := keepC hSw d1; have kd2 := keepC hSw d2; have kd3 := keepC hSw d3; have kd4 := keepC hSw d4; have kd5 := keepC hSw d5; have kd6 := keepC hSw d6; have kd7 := keepC hSw d7; go_simp <;> with_reducible rfl) ?_; (try simp only [PPz]); refine tkn 8 (.bool true) rfl ?_ hHeld ?_
        · intro w hSw
          have kc0 := keepC hSw c0; have kc1 := keepC hSw c1; have kc2 := keepC hSw c2; have kc3 := keepC hSw c3; have kc4 := keepC hSw c4; have kc5 := keepC hSw c5; have kc6 := keepC hSw c6; have kc7 := keepC hSw c7; have kd0 := keepC hSw d0; have kd1 := keepC hSw d1; have kd2 := keepC hSw d2; have kd3 := keepC hSw d3; have kd4 := keepC hSw d4; have kd5 := keepC hSw d5; have kd6 := keepC hSw d6; have kd7 := keepC hSw d7; go_simp; exact HNE.out
        (try simp only [PPz]); refine wpAnyH_done (by kernel_rfl) ?_ _; refine NoPanic.normal ?_; replace hbb := keepB hbb hHeld; rw [decide_eq_false EB.out] at hR; subst hR; (go_wp2_with fail)
        go_ret
        exact ⟨by first | rfl | simp, hbb⟩
    · obtain rfl : k = xs.length := by omega
      rw [decide_eq_true (Ak.qlist_ext HLN.out HOK.out)] at hR; subst hR; clear HOK HA HB HC HD HLN; (go_wp2_with fail)
      go_ret
      exact ⟨by first | rfl | simp, hbb⟩
theorem rSameCakes_any (A B : Option Addr) (ca cb : Nat) (xs ys : List CkR) (w : World) (ha : IsCs w A xs) (hb : IsCs w B ys) :
    Calls Tryz.prog 61 #[.slice A xs.length ca, .slice B ys.length cb] w fun e w' => e = .returned (.bool (decide (xs.map Ak.dat = ys.map Ak.dat))) ∧ Below w.heap.size w w' := by
  obtain ⟨b1, o1, hA, hc⟩ := ha.at_; obtain ⟨b2, o2, hB, hd⟩ := hb.at_; have HC := Lib.hid hc; have HD := Lib.hid hd; have HA := Lib.hid hA; have HB := Lib.hid hB; have HX := Lib.hid (fun k (hk : k < xs.length) => ha.all _ (Ak.cat_mem hk)); have HY := Lib.hid (fun k (hk : k < ys.length) => hb.all _ (Ak.cat_mem hk)); have hml := ha.len; clear hc hd hA hB ha hb
  have hm2 : (xs.length : Int) ≤ 9223372036854775807 := by unfold maxLen at hml; omega
  by_cases hln : xs.length = ys.length
  case neg =>
    have e1 : (((xs.length : Nat) : Int) != ((ys.length : Nat) : Int)) = true := by rw [bne_iff_ne]; omega
    have e2 : (((xs.length : Nat) : Int) == ((ys.length : Nat) : Int)) = false := by rw [beq_eq_false_iff_ne]; omega
    have e3 : ¬ ((xs.length : Nat) : Int) = ((ys.length : Nat) : Int) := by omega
    rw [decide_eq_false (show ¬ xs.map Ak.dat = ys.map Ak.dat from fun e => hln (by have := congrArg List.length e; simpa using this))]; clear HA HB HC HD HX HY hln
    go_enter Tryz.func61, Tryz.ntmps61
    go_wp2_with fail
    go_ret
    exact ⟨by first | rfl | simp, Below.refl _ _⟩
  have HLN := Lib.hid hln; have HB := Lib.hid (show 0 < xs.length → B = some ⟨b2, o2, none⟩ from fun h => HB.out (by omega)); rw [← hln] at HD HY; rw [← hln]; obtain ⟨R, hR⟩ : ∃ R, decide (xs.map Ak.dat = ys.map Ak.dat) = R := ⟨_, rfl⟩; rw [hR]; clear hln
  go_enter Tryz.func61, Tryz.ntmps61
  go_wp2_with fail
  go_loopw [5] (fun i W => ∃ k : Nat, k ≤ xs.length ∧ i = .int .i64 k ∧ (∀ j, j < k → Ak.dat (Ak.cat xs j) = Ak.dat (Ak.cat ys j)) ∧ Below w.heap.size w W) (fun i _ => xs.length - (intOf i).toNat)
  case atStart => exact ⟨0, Nat.zero_le _, rfl, fun j hj => absurd hj (Nat.not_lt_zero _), Below.refl _ _⟩
  case round =>
    obtain ⟨k, hk, rfl, hok, hbb⟩ := hrel; have HOK := Lib.hid hok; clear hok
    by_cases hlt : k < xs.length
    · have hA' := HA.out (by omega)
      subst hA'; have hB' := HB.out (by omega); subst hB'; have hx := HX.out k hlt; have hy := HY.out k hlt; obtain ⟨s, hs⟩ : ∃ s, Ak.cat xs k = s := ⟨_, rfl⟩; obtain ⟨t, ht⟩ : ∃ t, Ak.cat ys k = t := ⟨_, rfl⟩; have c0 := keepC hbb (HC.out k hlt).1; have c1 := keepC hbb (HC.out k hlt).2.1; have c2 := keepC hbb (HC.out k hlt).2.2; have d0 := keepC hbb (HD.out k hlt).1; have d1 := keepC hbb (HD.out k hlt).2.1; have d2 := keepC hbb (HD.out k hlt).2.2; rw [hs] at c0 c1 c2 hx; rw [ht] at d0 d1 d2 hy
      have sm := fun v (hv : Below w.heap.size w v) => rckSame_any s.len s.K s.cuts s.ck s.Z s.dens s.cz t.len t.K t.cuts t.ck t.Z t.dens t.cz v (hx.keep hv) (hy.keep hv)
      have i1 : (0 : Int) ≤ (k : Int) := by omega
      have i2 : (k : Int) < (xs.length : Int) := by omega
      obtain ⟨z, hz⟩ : ∃ z, Ck.same s.len s.cuts s.dens t.len t.cuts t.dens = z := ⟨_, rfl⟩; rw [hz] at sm; have SM := Lib.hid sm
      unfold Ck.same at hz
      cases z
      · have EB : ¬ xs.map Ak.dat = ys.map Ak.dat := fun e => by
          have e1 := Ak.dAt_map xs hlt; have e2 := Ak.dAt_map ys (k := k) (by rw [← HLN.out]; exact hlt); rw [e, e2, hs, ht] at e1
          unfold Ak.dat at e1
          simp only [Prod.mk.injEq] at e1
          obtain ⟨e3, e4, e5⟩ := e1; rw [e3, e4, e5] at hz
          simp at hz
        rw [decide_eq_false EB] at hR; subst hR; clear sm hx hy hs ht hz EB
        go_upto_region 6 with fail
        refine at_worldQ (fun v => Below w.heap.size w v ∧ v.cell? ⟨b1, o1 + k * 3, none⟩ = some (.int .i64 s.len) ∧ v.cell? ⟨b1, o1 + k * 3 + 1, none⟩ = some (.slice s.K s.cuts.length s.ck) ∧ v.cell? ⟨b1, o1 + k * 3 + 2, none⟩ = some (.slice s.Z s.dens.length s.cz) ∧ v.cell? ⟨b2, o2 + k * 3, none⟩ = some (.int .i64 t.len) ∧ v.cell? ⟨b2, o2 + k * 3 + 1, none⟩ = some (.slice t.K t.cuts.length t.ck) ∧ v.cell? ⟨b2, o2 + k * 3 + 2, none⟩ = some (.slice t.Z t.dens.length t.cz)) ⟨hbb, c0, c1, c2, d0, d1, d2⟩ (fun V hS => ?_); clear hbb c0 c1 c2 d0 d1 d2; obtain ⟨hbb, c0, c1, c2, d0, d1, d2⟩ := hS; refine wp_region_noPanic ?_; refine wp_region_held_drew (S := (Below V.heap.size V)) (by kernel_rfl) ((Below.refl _ _).drew) (fun hHeld => ?_); refine at_anyH (Below V.heap.size V) hHeld (fun wp0 hNew => ?_); clear hHeld; have hHeld := hNew; clear hNew; refine tkd 0 ?_; refine tkd 1 ?_; refine tkd 2 ?_; (try simp only [PPz]); refine tkm 3 rfl hHeld (fun w hSw => by have kc0 := keepC hSw c0; have kc1 := keepC hSw c1; have kc2 := keepC hSw c2; have kd0 := keepC hSw d0; have kd1 := keepC hSw d1; have kd2 := keepC hSw d2; go_simp <;> with_reducible rfl) ?_; (try simp only [PPz]); refine tkd 4 ?_; refine tkd 5 ?_; refine tkd 6 ?_; (try simp only [PPz]); refine tkm 7 rfl hHeld (fun w hSw => by have kc0 := keepC hSw c0; have kc1 := keepC hSw c1; have kc2 := keepC hSw c2; have kd0 := keepC hSw d0; have kd1 := keepC hSw d1; have kd2 := keepC hSw d2; go_simp <;> with_reducible rfl) ?_; (try simp only [PPz]); refine rdy1 8 rfl (fun K hK => ?_); go_simp; refine (SM.out _ (keepB hbb hHeld)).mono ?_; rintro e wp9 ⟨rfl, hb3⟩; (go_wp2_with fail); refine hK.out _ _ (keepB hHeld hb3) (fun hNew => ?_); replace hHeld := hNew; clear hNew hK K hb3; (try simp only [PPz]); refine tkd 9 ?_; (try simp only [PPz]); refine wpAnyH_done (by kernel_rfl) ?_ _; refine NoPanic.normal ?_; replace hbb := keepB hbb hHeld; (go_wp2_with fail)
        go_ret
        exact ⟨by first | rfl | simp, hbb⟩
      · have EB := Lib.hid (show Ak.dat (Ak.cat xs k) = Ak.dat (Ak.cat ys k) by
          simp only [Bool.and_eq_true, decide_eq_true_eq] at hz
          rw [hs, ht]
          unfold Ak.dat
          rw [hz.1, hz.2.1, hz.2.2])
        clear sm hx hy hs ht hz
        go_upto_region 6 with fail
        refine at_worldQ (fun v => Below w.heap.size w v ∧ v.cell? ⟨b1, o1 + k * 3, none⟩ = some (.int .i64 s.len) ∧ v.cell? ⟨b1, o1 + k * 3 + 1, none⟩ = some (.slice s.K s.cuts.length s.ck) ∧ v.cell? ⟨b1, o1 + k * 3 + 2, none⟩ = some (.slice s.Z s.dens.length s.cz) ∧ v.cell? ⟨b2, o2 + k * 3, none⟩ = some (.int .i64 t.len) ∧ v.cell? ⟨b2, o2 + k * 3 + 1, none⟩ = some (.slice t.K t.cuts.length t.ck) ∧ v.cell? ⟨b2, o2 + k * 3 + 2, none⟩ = some (.slice t.Z t.dens.length t.cz)) ⟨hbb, c0, c1, c2, d0, d1, d2⟩ (fun V hS => ?_); clear hbb c0 c1 c2 d0 d1 d2; obtain ⟨hbb, c0, c1, c2, d0, d1, d2⟩ := hS; refine wp_region_noPanic ?_; refine wp_region_held_drew (S := (Below V.heap.size V)) (by kernel_rfl) ((Below.refl _ _).drew) (fun hHeld => ?_); refine at_anyH (Below V.heap.size V) hHeld (fun ws0 hNew => ?_); clear hHeld; have hHeld := hNew; clear hNew; refine tkd 0 ?_; refine tkd 1 ?_; refine tkd 2 ?_; (try simp only [PPz]); refine tkm 3 rfl hHeld (fun w hSw => by have kc0 := keepC hSw c0; have kc1 := keepC hSw c1; have kc2 := keepC hSw c2; have kd0 := keepC hSw d0; have kd1 := keepC hSw d1; have kd2 := keepC hSw d2; go_simp <;> with_reducible rfl) ?_; (try simp only [PPz]); refine tkd 4 ?_; refine tkd 5 ?_; refine tkd 6 ?_; (try simp only [PPz]); refine tkm 7 rfl hHeld (fun w hSw => by have kc0 := keepC hSw c0; have kc1 := keepC hSw c1; have kc2 := keepC hSw c2; have kd0 := keepC hSw d0; have kd1 := keepC hSw d1; have kd2 := keepC hSw d2; go_simp <;> with_reducible rfl) ?_; (try simp only [PPz]); refine rdy1 8 rfl (fun K hK => ?_); go_simp; refine (SM.out _ (keepB hbb hHeld)).mono ?_; rintro e ws9 ⟨rfl, hb3⟩; (go_wp2_with fail); refine hK.out _ _ (keepB hHeld hb3) (fun hNew => ?_); replace hHeld := hNew; clear hNew hK K hb3; (try simp only [PPz]); refine tkd 9 ?_; (try simp only [PPz]); refine wpAnyH_done (by kernel_rfl) ?_ _; refine NoPanic.normal ?_; replace hbb := keepB hbb hHeld; (go_wp2_with fail)
        go_roundw
        case rel => exact ⟨k + 1, by omega, by go_num, fun j hj => (Nat.lt_succ_iff_lt_or_eq.1 hj).elim (HOK.out j) (fun e => e ▸ EB.out), hbb⟩
        case measure => simp [intOf]; omega
    · obtain rfl : k = xs.length := by omega
      rw [decide_eq_true (Ak.dlist_ext (by simpa using HLN.out) (fun j hj => by
        have hj : j < xs.length := by simpa using hj
        rw [Ak.dAt_map xs hj, Ak.dAt_map ys (by rw [← HLN.out]; exact hj)]
        exact HOK.out j hj))] at hR
      subst hR; clear HOK HA HB HC HD HLN HX HY; (go_wp2_with fail)
      go_ret
      exact ⟨by first | rfl | simp, hbb⟩
theorem IsF.mono {V : World} {B B' : Nat} {A : Option Addr} {zs : List Int} (h : IsF V B A zs) (hb : B' ≤ B) : IsF V B' A zs :=
  ⟨fun h0 => by
    obtain ⟨g, off, e, h1, hc⟩ := h.1 h0
    exact ⟨g, off, e, Nat.le_trans hb h1, hc⟩, h.2⟩
theorem IsG.of_F {V : World} {B B' : Nat} {row : Option Nat} {A : Option Addr} {zs : List Int} (h : IsF V B' A zs) (hb : B ≤ B') (hr : ∀ g, row = some g → g < B') : IsG V B row A zs :=
  ⟨fun h0 => by
    obtain ⟨g, off, e, h1, hc⟩ := h.1 h0
    exact ⟨g, off, e, Nat.le_trans hb h1, fun k => by have := hr g k; omega, hc⟩, h.2⟩
set_option maxHeartbeats 4000000 in
set_option maxRecDepth 100000 in
theorem twinF_any (len : Int) (K : Option Addr) (cuts : List Int) (ck : Nat) (Z : Option Addr) (dens : List Int) (cz : Nat) (w : World) (h : IsCake w len K cuts Z dens) (hc : cuts.length ≤ 60) (hd : dens.length ≤ 60) :
    Calls Tryz.prog 88 #[.agg #[.int .i64 len, .slice K cuts.length ck, .slice Z dens.length cz]] w fun e w' => ∃ A1 p1 A2 p2, e = .returned (.agg #[.int .i64 len, .slice A1 cuts.length p1, .slice A2 dens.length p2]) ∧ IsF w' w.heap.size A1 cuts ∧ IsF w' w.heap.size A2 dens ∧ Below w.heap.size w w' := by
  have HIK := Lib.hid h.2.2.1; have HIZ := Lib.hid h.2.2.2; have hl := h.1
  unfold I64 at hl
  clear h
  go_enter Tryz.func88, Tryz.ntmps88
  go_upto_region 1 with fail
  refine at_worldQ (fun v => Below w.heap.size w v ∧ v.cell? ⟨w.heap.size, 0, none⟩ = some (.int .i64 len) ∧ v.cell? ⟨w.heap.size, 1, none⟩ = some (.slice K cuts.length ck) ∧ v.cell? ⟨w.heap.size, 2, none⟩ = some (.slice Z dens.length cz) ∧ v.cell? ⟨w.heap.size + 1, 0, none⟩ = some (.int .i64 0) ∧ v.cell? ⟨w.heap.size + 1, 1, none⟩ = some (.slice none 0 0) ∧ v.cell? ⟨w.heap.size + 1, 2, none⟩ = some (.slice none 0 0) ∧ v.frozen? ⟨w.heap.size + 1, 0, none⟩ = false ∧ v.frozen? ⟨w.heap.size + 1, 1, none⟩ = false ∧ v.frozen? ⟨w.heap.size + 1, 2, none⟩ = false) ⟨((Below.refl _ _).alloc (Nat.le_refl _) _).alloc (by simp) _, by go_simp, by go_simp, by go_simp, by go_simp, by go_simp, by go_simp, by go_simp, by go_simp, by go_simp⟩ (fun V hS => ?_); obtain ⟨hbb, y0, y1, y2, r0, r1, r2, fr0, fr1, fr2⟩ := hS
  go_region_held3 (fun v => Below w.heap.size w v ∧ v.cell? ⟨w.heap.size, 0, none⟩ = some (.int .i64 len) ∧ v.cell? ⟨w.heap.size, 1, none⟩ = some (.slice K cuts.length ck) ∧ v.cell? ⟨w.heap.size, 2, none⟩ = some (.slice Z dens.length cz) ∧ v.cell? ⟨w.heap.size + 1, 0, none⟩ = some (vat v (w.heap.size + 1) 0) ∧ v.cell? ⟨w.heap.size + 1, 1, none⟩ = some (vat v (w.heap.size + 1) 1) ∧ v.cell? ⟨w.heap.size + 1, 2, none⟩ = some (vat v (w.heap.size + 1) 2) ∧ v.frozen? ⟨w.heap.size + 1, 0, none⟩ = false ∧ v.frozen? ⟨w.heap.size + 1, 1, none⟩ = false ∧ v.frozen? ⟨w.heap.size + 1, 2, none⟩ = false)
    (first | (exact ⟨hbb.drew, y0, y1, y2, vat_of (r0), vat_of (r1), vat_of (r2), fr0, fr1, fr2⟩) | (obtain ⟨k0, ky0, ky1, ky2, kr0, kr1, kr2, kfr0, kfr1, kfr2⟩ := ‹Below w.heap.size w _ ∧ _›; exact ⟨keepB k0 hb3, keepC hb3 ky0, keepC hb3 ky1, keepC hb3 ky2, vat_of (keepC hb3 kr0), vat_of (keepC hb3 kr1), vat_of (keepC hb3 kr2), keepF hb3 kr0 kfr0, keepF hb3 kr1 kfr1, keepF hb3 kr2 kfr2⟩) | (exact ⟨j0.out.alloc j0.out.size _, cell_alloc jy0.out _, cell_alloc jy1.out _, cell_alloc jy2.out _, vat_of (cell_alloc jr0.out _), vat_of (cell_alloc jr1.out _), vat_of (cell_alloc jr2.out _), froz_alloc jr0.out jfr0.out _, froz_alloc jr1.out jfr1.out _, froz_alloc jr2.out jfr2.out _⟩) | (obtain ⟨k0, ky0, ky1, ky2, kr0, kr1, kr2, kfr0, kfr1, kfr2⟩ := ‹Below w.heap.size w _ ∧ _›; exact ⟨k0.alloc k0.size _, cell_alloc ky0 _, cell_alloc ky1 _, cell_alloc ky2 _, vat_of (cell_alloc kr0 _), vat_of (cell_alloc kr1 _), vat_of (cell_alloc kr2 _), froz_alloc kr0 kfr0 _, froz_alloc kr1 kfr1 _, froz_alloc kr2 kfr2 _⟩) | (obtain ⟨k0, ky0, ky1, ky2, kr0, kr1, kr2, kfr0, kfr1, kfr2⟩ := ‹Below w.heap.size w _ ∧ _›; exact ⟨below_set (below_set (below_set (k0) (by omega) _) (by omega) _) (by omega) _, cell_far (cell_far (cell_far (ky0) (by omega) _) (by omega) _) (by omega) _, cell_far (cell_far (cell_far (ky1) (by omega) _) (by omega) _) (by omega) _, cell_far (cell_far (cell_far (ky2) (by omega) _) (by omega) _) (by omega) _, vat_set (vat_set (vat_set (kr0) _ _) _ _) _ _, vat_set (vat_set (vat_set (kr1) _ _) _ _) _ _, vat_set (vat_set (vat_set (kr2) _ _) _ _) _ _, froz_set (froz_set (froz_set (kfr0) _ _) _ _) _ _, froz_set (froz_set (froz_set (kfr1) _ _) _ _) _ _, froz_set (froz_set (froz_set (kfr2) _ _) _ _) _ _⟩))
    (first
      | (obtain ⟨k0, ky0, ky1, ky2, kr0, kr1, kr2, kfr0, kfr1, kfr2⟩ := ‹Below w.heap.size w _ ∧ _›; refine step_twin (B := w.heap.size + 2) rfl (.tmp 5) (.tmp 7) rfl K cuts.length ck cuts ⟨_, by rfl⟩ (by rfl) rfl (HIK.out.keep k0) (by omega) (by have := lt_of_cell kr0; omega) ?_; intro A1 p1 u1 hI1 hb3; (first | (replace hI2 := hI2.keep hb3) | (replace hI2 := (hI2.keep ((Below.refl _ _).alloc (Nat.le_refl _) _)).keep hb3) | skip))
      | (obtain ⟨k0, ky0, ky1, ky2, kr0, kr1, kr2, kfr0, kfr1, kfr2⟩ := ‹Below w.heap.size w _ ∧ _›; refine step_twin (B := w.heap.size + 2) rfl (.tmp 9) (.tmp 11) rfl Z dens.length cz dens ⟨_, by rfl⟩ (by rfl) rfl (HIZ.out.keep k0) (by omega) (by have := lt_of_cell kr0; omega) ?_; intro A2 p2 u2 hI2 hb3; (first | (replace hI1 := hI1.keep hb3) | (replace hI1 := (hI1.keep ((Below.refl _ _).alloc (Nat.le_refl _) _)).keep hb3) | skip)))
  all_goals (rename_i hHeld; clear k0 ky0 ky1 ky2 kr0 kr1 kr2 kfr0 kfr1 kfr2; obtain ⟨k0, _, _, _, k1, k2, k3, _, _, _⟩ := hHeld)
  all_goals (have c0 := res_far2 (by simp) (by simp) k1; have c1 := res_far (by simp) k2; have c2 := res_last k3; clear k1 k2 k3)
  all_goals go_wp2
  all_goals exact bodyPost_ret (v := .agg #[.int .i64 len, .slice A1 cuts.length p1, .slice A2 dens.length p2]) (by simp [results, Tryz.results88, go_sem, c0, c1, c2]) rfl ⟨A1, p1, A2, p2, rfl, (((hI1.set (by omega) _).set (by omega) _).set (by omega) _).mono (by omega), (((hI2.set (by omega) _).set (by omega) _).set (by omega) _).mono (by omega), k0⟩
theorem rTwins_any (A : Option Addr) (ca : Nat) (cs : List CkR) (w : World) (h : IsCs w A cs) (hl : cs.length ≤ 10) (hs : ∀ c ∈ cs, c.cuts.length ≤ 60 ∧ c.dens.length ≤ 60) :
    Calls Tryz.prog 57 #[.slice A cs.length ca] w fun e w' => ∃ (rv : Value) (l : List CkR), e = .returned rv ∧ l.map Ak.dat = cs.map Ak.dat ∧ CRow w w.heap.size 67 rv l w' := by
  obtain ⟨b, o, hA, hc⟩ := h.at_; have HC := Lib.hid hc; have HA := Lib.hid hA; have HI := Lib.hid (fun k (hk : k < cs.length) => And.intro (h.all _ (Ak.cat_mem hk)) (hs _ (Ak.cat_mem hk))); obtain ⟨i0, hi0, hz0, hz1, hz2⟩ := info_parts cakeInfo; have HIN := Lib.hid hi0; have HIZ := Lib.hid hz0; have HS1 := Lib.hid hz1; have HS2 := Lib.hid hz2; clear h hc hA hs hi0 hz0 hz1 hz2
  go_enter Tryz.func57, Tryz.ntmps57
  go_wp2_with fail
  go_loopw [3, 4] (fun v i W => ∃ (k : Nat) (rv : Value) (l : List CkR), k ≤ cs.length ∧ i = .int .i64 k ∧ v = rv ∧ l.length = k ∧ l.map Ak.dat = (cs.map Ak.dat).take k ∧ CRow w w.heap.size 67 rv l W) (fun _ i _ => cs.length - (intOf i).toNat)
  case atStart => exact ⟨0, _, [], Nat.zero_le _, rfl, rfl, rfl, rfl, ⟨Below.refl _ _, Nat.le_refl _, Nat.le_refl _, World.ownsRow_nil _ _ _ _, fun c hc => by cases hc⟩⟩
  case round =>
    obtain ⟨k, rv, l, hk, rfl, rfl, hlk, hdat, hcr⟩ := hrel; have hbb := hcr.bb
    by_cases hlt : k < cs.length
    · have hl9 : l.length ≤ 9 := by omega
      have HLK := Lib.hid hlk; have HDAT := Lib.hid hdat; clear hlk hdat; have hA' := HA.out (by omega); subst hA'; obtain ⟨c, hcc⟩ : ∃ c, Ak.cat cs k = c := ⟨_, rfl⟩; have HCC := Lib.hid hcc; have c0 := keepC hbb (HC.out k hlt).1; have c1 := keepC hbb (HC.out k hlt).2.1; have c2 := keepC hbb (HC.out k hlt).2.2; have hi := HI.out k hlt; rw [hcc] at c0 c1 c2 hi
      have i1 : (0 : Int) ≤ (k : Int) := by omega
      have i2 : (k : Int) < (cs.length : Int) := by omega
      have TWN := Lib.hid (fun v (hv : Below w.heap.size w v) => twinF_any c.len c.K c.cuts c.ck c.Z c.dens c.cz v (hi.1.keep hv) hi.2.1 hi.2.2); have HLEN := Lib.hid (And.intro hi.1.1 hi.1.2.1); clear hi hcc; (go_wp2_with fail); refine (TWN.out _ hbb).mono ?_; rintro e w1 ⟨A1, p1, A2, p2, rfl, f1, f2, hb1⟩
      have hrb := fun g e => (World.ownsRow.lt hcr.row g e).2
      have g1 : IsG w1 w.heap.size u3.ownBlock A1 c.cuts := IsG.of_F f1 hbb.size hrb; have g2 : IsG w1 w.heap.size u3.ownBlock A2 c.dens := IsG.of_F f2 hbb.size hrb; have hcr1 := hcr.keep hb1; have HCR := Lib.hid hcr1; have HG := Lib.hid (And.intro g1 g2); clear hb1 c0 c1 c2 f1 f2 g1 g2 hrb hcr hcr1 hbb
      go_wp2_with (at_builtin; refine wpList_append_lies _ rfl _ _ _ rfl w.heap.size 67 i0 _ 3 56 Tryz.underlying22 HIN.out HIZ.out HS1.out HS2.out rfl (by omega) u3 l.length (Ak.cellsC l) (by rfl) (row_keep HCR.out.row (below_al (Below.refl _ _) _)) ⟨w1.heap.size, 0, none⟩ 1 1 (Ak.cells ⟨c.len, A1, c.cuts, p1, A2, c.dens, p2⟩) (by rfl) (by rfl) (fun j u hj => by rw [Addr.add_lit, Nat.zero_add]; exact (BK.new w1 [.int .i64 c.len, .slice A1 c.cuts.length p1, .slice A2 c.dens.length p2] 67).c j hj) (by intro u hu; simp [Ak.cells] at hu; rcases hu with rfl | rfl | rfl <;> rfl) (by omega) (by unfold maxLen; omega) (by omega) (by rw [World.size_alloc]; have := HCR.out.hB; omega) (w1.heap.size + 1) (by simp) ?_; intro g cap w2 hown hgrow hat hglt)
      have hA1 := below_al (Below.refl w1.heap.size w1) (.cells #[.int .i64 c.len, .slice A1 c.cuts.length p1, .slice A2 c.dens.length p2] 67); have hC := HCR.out.app (c := ⟨c.len, A1, c.cuts, p1, A2, c.dens, p2⟩) hA1 ⟨HLEN.out.1, HLEN.out.2, HG.out.1.keep hA1, HG.out.2.keep hA1⟩ hown hgrow (by rw [World.size_alloc]; exact hat); have HC2 := Lib.hid hC
      have HD2 := Lib.hid (show (l ++ [(⟨c.len, A1, c.cuts, p1, A2, c.dens, p2⟩ : CkR)]).map Ak.dat = (cs.map Ak.dat).take (k + 1) by
        rw [List.map_append, HDAT.out, List.take_add_one, List.getElem?_eq_getElem (by simpa using hlt), ← HCC.out]
        simp [Ak.dat, Ak.cat_lt hlt])
      have HL2 := Lib.hid (show (l ++ [(⟨c.len, A1, c.cuts, p1, A2, c.dens, p2⟩ : CkR)]).length = k + 1 by simp [HLK.out]); clear hC hA1 hown hgrow hat hglt HG HCR HDAT HCC
      go_roundw
      case rel => exact ⟨k + 1, _, _, by omega, by go_num, rfl, HL2.out, HD2.out, HC2.out⟩
      case measure => simp [intOf]; omega
    · obtain rfl : k = cs.length := by omega
      have HD := Lib.hid (hdat.trans (List.take_of_length_le (by simp))); have HCR := Lib.hid hcr; clear hlk hdat hcr hbb HC HA HI; (go_wp2_with fail)
      go_ret
      first
        | exact ⟨_, l, rfl, HD.out, HCR.out⟩
        | exact ⟨_, rfl, l, HD.out, HCR.out⟩
        | exact ⟨l, HD.out, HCR.out⟩
end Go.Proofs.YtniagnldiegamaaGreat

