/- The reference's Twin: a cake that is copied. The reference's comparisons of logs and of cakes, and its Twins. -/
import Derived.Test.YtnnpmegknlgkoaaGj
import Derived.Test.YtnnpmegknlgkoaaGf
import Derived.Deep.RegionLawGrows
import Derived.Deep.RegionHeld3
import Derived.Test.YtnnpmegknlgkoaaAskpu
import Derived.Test.YtnnpmegknlgkoaaGi
namespace Go.Proofs.Ytnnpmegknlgkoaa
open Go.RowKit
/-- A slice of ints in a block from B on (an empty one: anywhere). -/
def IsF (w : World) (B : Nat) (A : Option Addr) (zs : List Int) : Prop :=
  (0 < zs.length → ∃ b off, A = some ⟨b, off, none⟩ ∧ B ≤ b ∧ ∀ i, i < zs.length → w.cell? ⟨b, off + i, none⟩ = some (.int .i64 (Ck.at_ zs i))) ∧ ∀ z ∈ zs, I64 z
theorem IsF.isI {w : World} {B : Nat} {A : Option Addr} {zs : List Int} (h : IsF w B A zs) : IsI w A zs :=
  ⟨fun h0 => by
    obtain ⟨b, off, e, _, hc⟩ := h.1 h0
    exact ⟨b, off, e, hc⟩, h.2⟩
theorem IsF.keep {w v : World} {B : Nat} {A : Option Addr} {zs : List Int} (h : IsF w B A zs) (hb : Below w.heap.size w v) : IsF v B A zs :=
  ⟨fun h0 => by
    obtain ⟨b, off, e, hB, hc⟩ := h.1 h0
    exact ⟨b, off, e, hB, fun i hi => keepC hb (hc i hi)⟩, h.2⟩
theorem IsF.set {w : World} {B : Nat} {A : Option Addr} {zs : List Int} (h : IsF w B A zs) {c o : Nat} (hc : c < B) (u : Value) : IsF (w.setCell ⟨c, o, none⟩ u) B A zs :=
  ⟨fun h0 => by
    obtain ⟨b, off, e, hB, hcl⟩ := h.1 h0
    exact ⟨b, off, e, hB, fun i hi => cell_far (hcl i hi) (by omega) u⟩, h.2⟩
theorem res_far2 {v : World} {p q r : Addr} {a b c x : Value} (h1 : q ≠ p) (h2 : r ≠ p) (h : (((v.setCell p a).setCell q b).setCell r c).cell? p = some x) : (((v.setCell p a).setCell q b).setCell r c).cell? p = some a := by
  rw [World.cell?_setCell_other _ _ _ _ h2] at h ⊢
  exact res_far h1 h
theorem step_twin {ops : Array Oper} {o : Oper} {a : Act} {w : World} {K : Act → World → Prop} {Q : Exit → Act → World → Prop} {E : Prop} {B : Nat}
    (hg : o.guard = none) (s x : Operand) (hop : o.op = Op.call { callee := Callee.builtin Builtin.append, args := #[s, x], argTypes := #[31, 31] })
    (A : Option Addr) (n c : Nat) (xs : List Int) (hs : ∃ h, a.eval s = .slice (some ⟨h, 0, none⟩) 0 0) (hx : a.eval x = .slice A n c) (hn : xs.length = n) (hI : IsI w A xs) (hb : n ≤ 60) (hB : B ≤ w.heap.size)
    (hK : ∀ A' c' w', IsF w' B A' xs → Below w.heap.size w w' → K (a.put o.dst (.slice A' n c')) w') :
    if Region.wanted o (yielded ops a.tmps) = true then Oper.wp Try.prog o a w K Q else E := by
  have hw : Region.wanted o (yielded ops a.tmps) = true := by simp [Region.wanted, hg]
  rw [if_pos hw]
  obtain ⟨i0, hi0, hz0, hz1, hz2⟩ := info_parts intInfo
  obtain ⟨h, hs⟩ := hs
  subst hn
  rcases Nat.eq_zero_or_pos xs.length with h0 | h0
  · have hxs : xs = [] := List.eq_nil_of_length_eq_zero h0
    subst hxs
    have hrun : (Builtin.append_ #[31, 31] o.type #[.slice (some ⟨h, 0, none⟩) 0 0, .slice A 0 c]).run Try.prog w = .ok (.slice (some ⟨h, 0, none⟩) 0 0) w := by
      cases A <;> simp [Builtin.append_, run_underlying Try.underlying31, sizeOf, typeInfo, hi0, Builtin.lenOf, Builtin.firstCells, loadCells, loadCellsFrom, storeCells]
    unfold Oper.wp
    simp only [List.length_nil] at hx hK
    simp [execOp, hop, resolve, invoke, builtin, hs, hx, hrun, Result.andThen]
    exact hK _ _ _ ⟨fun g => absurd g (by simp), by simp⟩ (Below.refl _ _)
  · obtain ⟨b, off, rfl, hc⟩ := hI.1 h0
    obtain ⟨v', w', hrun, r1, r2⟩ := run_append_arg_grows (P := Try.prog) w 31 o.type 3 i0 _ 1 8 Try.underlying31 hi0 hz0 hz1 hz2 rfl (by omega) ⟨h, 0, none⟩ 0 0 [] rfl (fun j u hj => by simp at hj) ⟨b, off, none⟩ xs.length c (xs.map (Value.int .i64)) (by simp) (fun j u hj => by
      rw [List.getElem?_map, Option.map_eq_some_iff] at hj
      obtain ⟨y, hy, rfl⟩ := hj
      obtain ⟨hj1, hj2⟩ := List.getElem?_eq_some_iff.1 hy
      rw [Addr.add_lit]
      have := hc j hj1
      rw [Ck.at_lt hj1, hj2] at this
      exact this) (by omega) (by unfold maxLen; omega) (by omega)
    rw [List.nil_append, Nat.zero_add] at r1
    obtain ⟨g, cap, rfl, hg1, hg2⟩ := World.ownsRow.form r1 h0
    unfold Oper.wp
    simp [execOp, hop, resolve, invoke, builtin, hs, hx, hrun, Result.andThen]
    refine hK _ _ _ ⟨fun _ => ⟨g, 0, rfl, by omega, ?_⟩, hI.2⟩ ⟨r2.os, r2.tape, r2.output, r2.size, fun k hk => r2.block k hk (by simp)⟩
    have hO : Own w' w.heap.size (.slice (some ⟨g, 0, none⟩) xs.length cap) xs := r1
    intro i hi
    rw [Nat.zero_add]
    exact hO.cell i hi

end Go.Proofs.Ytnnpmegknlgkoaa
namespace Go.Proofs.Ytnnpmegknlgkoaa
open Go.RowKit
namespace Ak
theorem qr_ne {s t : Qr} (h : s ≠ t) : s.ag = t.ag → s.kd = t.kd → s.a = t.a → s.b = t.b → s.c = t.c → s.d = t.d → s.x = t.x → ¬ s.y = t.y := by
  intro h1 h2 h3 h4 h5 h6 h7 h8
  cases s; cases t
  simp only at h1 h2 h3 h4 h5 h6 h7 h8
  subst h1 h2 h3 h4 h5 h6 h7 h8
  exact h rfl
theorem qlist_ext {xs ys : List Qr} (hl : xs.length = ys.length) (h : ∀ k, k < xs.length → qat xs k = qat ys k) : xs = ys := by
  refine List.ext_getElem hl fun i h1 h2 => ?_
  have := h i h1
  rwa [qat_lt h1, qat_lt h2] at this
theorem dlist_ext {xs ys : List CkD} (hl : xs.length = ys.length) (h : ∀ k, k < xs.length → dAt xs k = dAt ys k) : xs = ys := by
  refine List.ext_getElem hl fun i h1 h2 => ?_
  have := h i h1
  rwa [dAt_lt h1, dAt_lt h2] at this
theorem q8_0 {w : World} {b o : Nat} {q : Qr} (h : Q8 (fun j => w.cell? ⟨b, o + j, none⟩) q) : w.cell? ⟨b, o, none⟩ = some (.int .i64 q.ag) := h.1
end Ak
set_option linter.unusedSimpArgs false in
set_option maxHeartbeats 8000000 in
set_option maxRecDepth 100000 in
theorem rSameLogs_any (A B : Option Addr) (ca cb : Nat) (xs ys : List Qr) (w : World) (ha : IsQs w A xs) (hb : IsQs w B ys) :
    Calls Try.prog 43 #[.slice A xs.length ca, .slice B ys.length cb] w fun e w' => e = .returned (.bool (decide (xs = ys))) ∧ Below w.heap.size w w' := by
  obtain ⟨b1, o1, hA, hc⟩ := ha.at_
  obtain ⟨b2, o2, hB, hd⟩ := hb.at_
  have HC := Lib.hid hc
  have HD := Lib.hid hd
  have HA := Lib.hid hA
  have HB := Lib.hid hB
  have hml := ha.len
  clear hc hd hA hB ha hb
  have hm2 : (xs.length : Int) ≤ 9223372036854775807 := by unfold maxLen at hml; omega
  by_cases hln : xs.length = ys.length
  case neg =>
    have e1 : (((xs.length : Nat) : Int) != ((ys.length : Nat) : Int)) = true := by rw [bne_iff_ne]; omega
    have e2 : (((xs.length : Nat) : Int) == ((ys.length : Nat) : Int)) = false := by rw [beq_eq_false_iff_ne]; omega
    have e3 : ¬ ((xs.length : Nat) : Int) = ((ys.length : Nat) : Int) := by omega
    rw [decide_eq_false (show ¬ xs = ys from fun e => hln (by rw [e]))]
    clear HA HB HC HD hln
    go_enter Try.func43, Try.ntmps43
    go_wp2_with fail
    go_ret
    exact ⟨by first | rfl | simp, Below.refl _ _⟩
  have HLN := Lib.hid hln
  have HB := Lib.hid (show 0 < xs.length → B = some ⟨b2, o2, none⟩ from fun h => HB.out (by omega))
  rw [← hln] at HD
  rw [← hln]
  obtain ⟨R, hR⟩ : ∃ R, decide (xs = ys) = R := ⟨_, rfl⟩
  rw [hR]
  clear hln
  go_enter Try.func43, Try.ntmps43
  go_wp2_with fail
  go_loopw [5] (fun i W => ∃ k : Nat, k ≤ xs.length ∧ i = .int .i64 k ∧ (∀ j, j < k → Ak.qat xs j = Ak.qat ys j) ∧ Below w.heap.size w W) (fun i _ => xs.length - (intOf i).toNat)
  case atStart => exact ⟨0, Nat.zero_le _, rfl, fun j hj => absurd hj (Nat.not_lt_zero _), Below.refl _ _⟩
  case round =>
    obtain ⟨k, hk, rfl, hok, hbb⟩ := hrel
    have HOK := Lib.hid hok
    clear hok
    by_cases hlt : k < xs.length
    · have hA' := HA.out (by omega)
      subst hA'
      have hB' := HB.out (by omega)
      subst hB'
      obtain ⟨s, hs⟩ : ∃ s, Ak.qat xs k = s := ⟨_, rfl⟩
      obtain ⟨t, ht⟩ : ∃ t, Ak.qat ys k = t := ⟨_, rfl⟩
      obtain ⟨c0, c1, c2, c3, c4, c5, c6, c7⟩ := (HC.out k hlt).keep hbb
      obtain ⟨d0, d1, d2, d3, d4, d5, d6, d7⟩ := (HD.out k hlt).keep hbb
      rw [hs] at c0 c1 c2 c3 c4 c5 c6 c7
      rw [ht] at d0 d1 d2 d3 d4 d5 d6 d7
      dsimp only at c0 c1 c2 c3 c4 c5 c6 c7 d0 d1 d2 d3 d4 d5 d6 d7
      rw [Nat.add_zero] at c0 d0
      have i1 : (0 : Int) ≤ (k : Int) := by omega
      have i2 : (k : Int) < (xs.length : Int) := by omega
      by_cases hst : s = t
      · have EB := Lib.hid (show Ak.qat xs k = Ak.qat ys k by rw [hs, ht, hst])
        subst hst
        clear hs ht
        go_upto_region 6 with fail
        refine at_worldQ (fun v => Below w.heap.size w v ∧ v.cell? ⟨b1, o1 + k * 8, none⟩ = some (.int .i64 s.ag) ∧ v.cell? ⟨b1, o1 + k * 8 + 1, none⟩ = some (.int .u8 s.kd) ∧ v.cell? ⟨b1, o1 + k * 8 + 2, none⟩ = some (.int .i64 s.a) ∧ v.cell? ⟨b1, o1 + k * 8 + 3, none⟩ = some (.int .i64 s.b) ∧ v.cell? ⟨b1, o1 + k * 8 + 4, none⟩ = some (.int .i64 s.c) ∧ v.cell? ⟨b1, o1 + k * 8 + 5, none⟩ = some (.int .i64 s.d) ∧ v.cell? ⟨b1, o1 + k * 8 + 6, none⟩ = some (.int .i64 s.x) ∧ v.cell? ⟨b1, o1 + k * 8 + 7, none⟩ = some (.int .i64 s.y) ∧ v.cell? ⟨b2, o2 + k * 8, none⟩ = some (.int .i64 s.ag) ∧ v.cell? ⟨b2, o2 + k * 8 + 1, none⟩ = some (.int .u8 s.kd) ∧ v.cell? ⟨b2, o2 + k * 8 + 2, none⟩ = some (.int .i64 s.a) ∧ v.cell? ⟨b2, o2 + k * 8 + 3, none⟩ = some (.int .i64 s.b) ∧ v.cell? ⟨b2, o2 + k * 8 + 4, none⟩ = some (.int .i64 s.c) ∧ v.cell? ⟨b2, o2 + k * 8 + 5, none⟩ = some (.int .i64 s.d) ∧ v.cell? ⟨b2, o2 + k * 8 + 6, none⟩ = some (.int .i64 s.x) ∧ v.cell? ⟨b2, o2 + k * 8 + 7, none⟩ = some (.int .i64 s.y)) ⟨hbb, c0, c1, c2, c3, c4, c5, c6, c7, d0, d1, d2, d3, d4, d5, d6, d7⟩ (fun V hS => ?_)
        clear hbb c0 c1 c2 c3 c4 c5 c6 c7 d0 d1 d2 d3 d4 d5 d6 d7
        obtain ⟨hbb, c0, c1, c2, c3, c4, c5, c6, c7, d0, d1, d2, d3, d4, d5, d6, d7⟩ := hS
        refine wp_region_noPanic ?_
        refine wp_region_held_drew (S := (Below V.heap.size V)) (by kernel_rfl) ((Below.refl _ _).drew) (fun hHeld => ?_)
        refine at_anyH (Below V.heap.size V) hHeld (fun wq0 hNew => ?_)
        clear hHeld
        have hHeld := hNew
        clear hNew
        refine wpAnyH_take (i := 0) (oi := _) (v := ?vq1) rfl (by kernel_rfl) (by kernel_rfl) (by kernel_rfl) (fun _ _ _ h => h) (Or.inl ⟨by kernel_rfl, ?hyq1⟩) hHeld ?restq1
        case hyq1 => (intro w hSw; go_simp; first | done | (with_reducible rfl))
        try simp only [Act.put, PA, PB]
        refine wpAnyH_take (i := 1) (oi := _) (v := ?vq2) rfl (by kernel_rfl) (by kernel_rfl) (by kernel_rfl) (fun _ _ _ h => h) (Or.inl ⟨by kernel_rfl, ?hyq2⟩) hHeld ?restq2
        case hyq2 => (intro w hSw; go_simp; first | done | (with_reducible rfl))
        try simp only [Act.put, PA, PB]
        refine wpAnyH_take (i := 2) (oi := _) (v := ?vq3) rfl (by kernel_rfl) (by kernel_rfl) (by kernel_rfl) (fun _ _ _ h => h) (Or.inl ⟨by kernel_rfl, ?hyq3⟩) hHeld ?restq3
        case hyq3 => (intro w hSw; go_simp; first | done | (with_reducible rfl))
        try simp only [Act.put, PA, PB]
        refine wpAnyH_take (i := 3) (oi := _) (v := ?vq4) rfl (by kernel_rfl) (by kernel_rfl) (by kernel_rfl) (fun _ _ _ h => h) (Or.inl ⟨by kernel_rfl, ?hyq4⟩) hHeld ?restq4
        case hyq4 => (intro w hSw; have kc0 := keepC hSw c0; have kc1 := keepC hSw c1; have kc2 := keepC hSw c2; have kc3 := keepC hSw c3; have kc4 := keepC hSw c4; have kc5 := keepC hSw c5; have kc6 := keepC hSw c6; have kc7 := keepC hSw c7; have kd0 := keepC hSw d0; have kd1 := keepC hSw d1; have kd2 := keepC hSw d2; have kd3 := keepC hSw d3; have kd4 := keepC hSw d4; have kd5 := keepC hSw d5; have kd6 := keepC hSw d6; have kd7 := keepC hSw d7; go_simp; first | done | (with_reducible rfl))
        try simp only [Act.put, PA, PB]
        refine wpAnyH_take (i := 4) (oi := _) (v := ?vq5) rfl (by kernel_rfl) (by kernel_rfl) (by kernel_rfl) (fun _ _ _ h => h) (Or.inl ⟨by kernel_rfl, ?hyq5⟩) hHeld ?restq5
        case hyq5 => (intro w hSw; go_simp; first | done | (with_reducible rfl))
        try simp only [Act.put, PA, PB]
        refine wpAnyH_take (i := 5) (oi := _) (v := ?vq6) rfl (by kernel_rfl) (by kernel_rfl) (by kernel_rfl) (fun _ _ _ h => h) (Or.inl ⟨by kernel_rfl, ?hyq6⟩) hHeld ?restq6
        case hyq6 => (intro w hSw; go_simp; first | done | (with_reducible rfl))
        try simp only [Act.put, PA, PB]
        refine wpAnyH_take (i := 6) (oi := _) (v := ?vq7) rfl (by kernel_rfl) (by kernel_rfl) (by kernel_rfl) (fun _ _ _ h => h) (Or.inl ⟨by kernel_rfl, ?hyq7⟩) hHeld ?restq7
        case hyq7 => (intro w hSw; go_simp; first | done | (with_reducible rfl))
        try simp only [Act.put, PA, PB]
        refine wpAnyH_take (i := 7) (oi := _) (v := ?vq8) rfl (by kernel_rfl) (by kernel_rfl) (by kernel_rfl) (fun _ _ _ h => h) (Or.inl ⟨by kernel_rfl, ?hyq8⟩) hHeld ?restq8
        case hyq8 => (intro w hSw; have kc0 := keepC hSw c0; have kc1 := keepC hSw c1; have kc2 := keepC hSw c2; have kc3 := keepC hSw c3; have kc4 := keepC hSw c4; have kc5 := keepC hSw c5; have kc6 := keepC hSw c6; have kc7 := keepC hSw c7; have kd0 := keepC hSw d0; have kd1 := keepC hSw d1; have kd2 := keepC hSw d2; have kd3 := keepC hSw d3; have kd4 := keepC hSw d4; have kd5 := keepC hSw d5; have kd6 := keepC hSw d6; have kd7 := keepC hSw d7; go_simp; first | done | (with_reducible rfl))
        try simp only [Act.put, PA, PB]
        refine wpAnyH_take (i := 8) (oi := _) (v := ?vq9) rfl (by kernel_rfl) (by kernel_rfl) (by kernel_rfl) (fun _ _ _ h => h) (Or.inl ⟨by kernel_rfl, ?hyq9⟩) hHeld ?restq9
        case hyq9 => (intro w hSw; go_simp; first | done | (with_reducible rfl))
        try simp only [Act.put, PA, PB]
        refine wpAnyH_done (by kernel_rfl) ?_ _
        refine NoPanic.normal ?_
        replace hbb := keepB hbb hHeld
        go_wp2_with fail
        go_roundw
        case rel => exact ⟨k + 1, by omega, by go_num, fun j hj => (Nat.lt_succ_iff_lt_or_eq.1 hj).elim (HOK.out j) (fun e => e ▸ EB.out), hbb⟩
        case measure => simp [intOf]; omega
      · have HNE := Lib.hid (Ak.qr_ne hst)
        have EB := Lib.hid (show ¬ xs = ys from fun e => hst (by rw [← hs, ← ht, e]))
        clear hs ht hst
        go_upto_region 6 with fail
        refine at_worldQ (fun v => Below w.heap.size w v ∧ v.cell? ⟨b1, o1 + k * 8, none⟩ = some (.int .i64 s.ag) ∧ v.cell? ⟨b1, o1 + k * 8 + 1, none⟩ = some (.int .u8 s.kd) ∧ v.cell? ⟨b1, o1 + k * 8 + 2, none⟩ = some (.int .i64 s.a) ∧ v.cell? ⟨b1, o1 + k * 8 + 3, none⟩ = some (.int .i64 s.b) ∧ v.cell? ⟨b1, o1 + k * 8 + 4, none⟩ = some (.int .i64 s.c) ∧ v.cell? ⟨b1, o1 + k * 8 + 5, none⟩ = some (.int .i64 s.d) ∧ v.cell? ⟨b1, o1 + k * 8 + 6, none⟩ = some (.int .i64 s.x) ∧ v.cell? ⟨b1, o1 + k * 8 + 7, none⟩ = some (.int .i64 s.y) ∧ v.cell? ⟨b2, o2 + k * 8, none⟩ = some (.int .i64 t.ag) ∧ v.cell? ⟨b2, o2 + k * 8 + 1, none⟩ = some (.int .u8 t.kd) ∧ v.cell? ⟨b2, o2 + k * 8 + 2, none⟩ = some (.int .i64 t.a) ∧ v.cell? ⟨b2, o2 + k * 8 + 3, none⟩ = some (.int .i64 t.b) ∧ v.cell? ⟨b2, o2 + k * 8 + 4, none⟩ = some (.int .i64 t.c) ∧ v.cell? ⟨b2, o2 + k * 8 + 5, none⟩ = some (.int .i64 t.d) ∧ v.cell? ⟨b2, o2 + k * 8 + 6, none⟩ = some (.int .i64 t.x) ∧ v.cell? ⟨b2, o2 + k * 8 + 7, none⟩ = some (.int .i64 t.y)) ⟨hbb, c0, c1, c2, c3, c4, c5, c6, c7, d0, d1, d2, d3, d4, d5, d6, d7⟩ (fun V hS => ?_)
        clear hbb c0 c1 c2 c3 c4 c5 c6 c7 d0 d1 d2 d3 d4 d5 d6 d7
        obtain ⟨hbb, c0, c1, c2, c3, c4, c5, c6, c7, d0, d1, d2, d3, d4, d5, d6, d7⟩ := hS
        refine wp_region_noPanic ?_
        refine wp_region_held_drew (S := (Below V.heap.size V)) (by kernel_rfl) ((Below.refl _ _).drew) (fun hHeld => ?_)
        refine at_anyH (Below V.heap.size V) hHeld (fun wr0 hNew => ?_)
        clear hHeld
        have hHeld := hNew
        clear hNew
        refine wpAnyH_take (i := 0) (oi := _) (v := ?vr1) rfl (by kernel_rfl) (by kernel_rfl) (by kernel_rfl) (fun _ _ _ h => h) (Or.inl ⟨by kernel_rfl, ?hyr1⟩) hHeld ?restr1
        case hyr1 => (intro w hSw; go_simp; first | done | (with_reducible rfl))
        try simp only [Act.put, PA, PB]
        refine wpAnyH_take (i := 1) (oi := _) (v := ?vr2) rfl (by kernel_rfl) (by kernel_rfl) (by kernel_rfl) (fun _ _ _ h => h) (Or.inl ⟨by kernel_rfl, ?hyr2⟩) hHeld ?restr2
        case hyr2 => (intro w hSw; go_simp; first | done | (with_reducible rfl))
        try simp only [Act.put, PA, PB]
        refine wpAnyH_take (i := 2) (oi := _) (v := ?vr3) rfl (by kernel_rfl) (by kernel_rfl) (by kernel_rfl) (fun _ _ _ h => h) (Or.inl ⟨by kernel_rfl, ?hyr3⟩) hHeld ?restr3
        case hyr3 => (intro w hSw; go_simp; first | done | (with_reducible rfl))
        try simp only [Act.put, PA, PB]
        refine wpAnyH_take (i := 3) (oi := _) (v := ?vr4) rfl (by kernel_rfl) (by kernel_rfl) (by kernel_rfl) (fun _ _ _ h => h) (Or.inl ⟨by kernel_rfl, ?hyr4⟩) hHeld ?restr4
        case hyr4 => (intro w hSw; have kc0 := keepC hSw c0; have kc1 := keepC hSw c1; have kc2 := keepC hSw c2; have kc3 := keepC hSw c3; have kc4 := keepC hSw c4; have kc5 := keepC hSw c5; have kc6 := keepC hSw c6; have kc7 := keepC hSw c7; have kd0 := keepC hSw d0; have kd1 := keepC hSw d1; have kd2 := keepC hSw d2; have kd3 := keepC hSw d3; have kd4 := keepC hSw d4; have kd5 := keepC hSw d5; have kd6 := keepC hSw d6; have kd7 := keepC hSw d7; go_simp; first | done | (with_reducible rfl))
        try simp only [Act.put, PA, PB]
        refine wpAnyH_take (i := 4) (oi := _) (v := ?vr5) rfl (by kernel_rfl) (by kernel_rfl) (by kernel_rfl) (fun _ _ _ h => h) (Or.inl ⟨by kernel_rfl, ?hyr5⟩) hHeld ?restr5
        case hyr5 => (intro w hSw; go_simp; first | done | (with_reducible rfl))
        try simp only [Act.put, PA, PB]
        refine wpAnyH_take (i := 5) (oi := _) (v := ?vr6) rfl (by kernel_rfl) (by kernel_rfl) (by kernel_rfl) (fun _ _ _ h => h) (Or.inl ⟨by kernel_rfl, ?hyr6⟩) hHeld ?restr6
        case hyr6 => (intro w hSw; go_simp; first | done | (with_reducible rfl))
        try simp only [Act.put, PA, PB]
        refine wpAnyH_take (i := 6) (oi := _) (v := ?vr7) rfl (by kernel_rfl) (by kernel_rfl) (by kernel_rfl) (fun _ _ _ h => h) (Or.inl ⟨by kernel_rfl, ?hyr7⟩) hHeld ?restr7
        case hyr7 => (intro w hSw; go_simp; first | done | (with_reducible rfl))
        try simp only [Act.put, PA, PB]
        refine wpAnyH_take (i := 7) (oi := _) (v := ?vr8) rfl (by kernel_rfl) (by kernel_rfl) (by kernel_rfl) (fun _ _ _ h => h) (Or.inl ⟨by kernel_rfl, ?hyr8⟩) hHeld ?restr8
        case hyr8 => (intro w hSw; have kc0 := keepC hSw c0; have kc1 := keepC hSw c1; have kc2 := keepC hSw c2; have kc3 := keepC hSw c3; have kc4 := keepC hSw c4; have kc5 := keepC hSw c5; have kc6 := keepC hSw c6; have kc7 := keepC hSw c7; have kd0 := keepC hSw d0; have kd1 := keepC hSw d1; have kd2 := keepC hSw d2; have kd3 := keepC hSw d3; have kd4 := keepC hSw d4; have kd5 := keepC hSw d5; have kd6 := keepC hSw d6; have kd7 := keepC hSw d7; go_simp; first | done | (with_reducible rfl))
        try simp only [Act.put, PA, PB]
        refine wpAnyH_take (i := 8) (oi := _) (v := .bool true) rfl (by kernel_rfl) (by kernel_rfl) (by kernel_rfl) (fun _ _ _ h => h) (Or.inl ⟨by kernel_rfl, ?_⟩) hHeld ?_
        · intro w hSw
          have kc0 := keepC hSw c0
          have kc1 := keepC hSw c1
          have kc2 := keepC hSw c2
          have kc3 := keepC hSw c3
          have kc4 := keepC hSw c4
          have kc5 := keepC hSw c5
          have kc6 := keepC hSw c6
          have kc7 := keepC hSw c7
          have kd0 := keepC hSw d0
          have kd1 := keepC hSw d1
          have kd2 := keepC hSw d2
          have kd3 := keepC hSw d3
          have kd4 := keepC hSw d4
          have kd5 := keepC hSw d5
          have kd6 := keepC hSw d6
          have kd7 := keepC hSw d7
          go_simp
          exact HNE.out
        try simp only [Act.put, PA, PB]
        refine wpAnyH_done (by kernel_rfl) ?_ _
        refine NoPanic.normal ?_
        replace hbb := keepB hbb hHeld
        rw [decide_eq_false EB.out] at hR
        subst hR
        go_wp2_with fail
        go_ret
        exact ⟨by first | rfl | simp, hbb⟩
    · obtain rfl : k = xs.length := by omega
      rw [decide_eq_true (Ak.qlist_ext HLN.out HOK.out)] at hR
      subst hR
      clear HOK HA HB HC HD HLN
      go_wp2_with fail
      go_ret
      exact ⟨by first | rfl | simp, hbb⟩
theorem IsF.mono {V : World} {B B' : Nat} {A : Option Addr} {zs : List Int} (h : IsF V B A zs) (hb : B' ≤ B) : IsF V B' A zs :=
  ⟨fun h0 => by
    obtain ⟨g, off, e, h1, hc⟩ := h.1 h0
    exact ⟨g, off, e, Nat.le_trans hb h1, hc⟩, h.2⟩
theorem IsG.of_F {V : World} {B B' : Nat} {row : Option Nat} {A : Option Addr} {zs : List Int} (h : IsF V B' A zs) (hb : B ≤ B') (hr : ∀ g, row = some g → g < B') : IsG V B row A zs :=
  ⟨fun h0 => by
    obtain ⟨g, off, e, h1, hc⟩ := h.1 h0
    exact ⟨g, off, e, Nat.le_trans hb h1, fun k => by have := hr g k; omega, hc⟩, h.2⟩
end Go.Proofs.Ytnnpmegknlgkoaa
