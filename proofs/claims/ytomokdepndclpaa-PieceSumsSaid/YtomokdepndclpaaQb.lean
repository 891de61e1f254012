/- Package piece's endsOf and pieceOf. Package piece's nearest end, and what is kept of two pieces. -/
import Derived.Test.YtomokdepndclpaaQa
import Derived.Test.YtomokdepndclpaaTree
import Derived.Deep.RegionLaw
namespace Go.Proofs.Ytomokdepndclpaa
open Go.RowKit
set_option linter.unusedSimpArgs false in
set_option maxHeartbeats 4000000 in
set_option maxRecDepth 100000 in
theorem endsOf_any (A : Option Addr) (cap : Nat) (L : List (Rat × Rat)) (w : World) (hl : L.length ≤ 60) (h : IsS w A (L.map Pc.raw)) :
    Calls Try.prog 108 #[.slice A L.length cap] w fun e w' => ∃ v, e = .returned v ∧ Acc w w.heap.size 30 2 v (Pc.ends L).length (Pc.cells2 (Pc.ends L)) w' := by
  obtain ⟨b, off, hA, hc⟩ := h.cell
  have QS := Lib.hid h.bd
  have HC := Lib.hid hc
  have HA := Lib.hid hA
  obtain ⟨i0, hi0, hz0, hz1, hz2⟩ := info_parts ratInfo
  have HI := Lib.hid hi0
  have HI2 := Lib.hid hz0
  have HI3 := Lib.hid hz1
  have HI4 := Lib.hid hz2
  clear h hc hA hi0 hz0 hz1 hz2
  go_enter Try.func108, Try.ntmps108
  go_upto_region 2 with (at_make; go_loud (refine wpList_make_own _ rfl _ _ _ rfl w.heap.size 30 i0 _ 2 Try.underlying138 HI.out HI2.out HI3.out _ _ _ (2 * L.length) (by rfl) (by rfl) (by omega) (by rw [HI4.out]; omega) (by unfold maxLen; omega) (Nat.le_refl _) ?_); intro w1 hown hg)
  refine at_worldQ (fun v => Acc w w.heap.size 30 2 (.slice (some ⟨w.heap.size, 0, none⟩) 0 (2 * L.length)) 0 [] v) ⟨(Below.refl _ _).grown hg (Nat.le_refl _) (fun j e => (by cases e)), hg.size, hown⟩ (fun V hS => ?_)
  clear hown hg
  generalize (Value.slice (some ⟨w.heap.size, 0, none⟩) 0 (2 * L.length)) = v0 at *
  go_wp2_with fail
  go_loopw [3, 5, 12] (fun v _ i W => ∃ k : Nat, k ≤ L.length ∧ i = .int .i64 k ∧ Acc w w.heap.size 30 2 v (Pc.ends (L.take k)).length (Pc.cells2 (Pc.ends (L.take k))) W) (fun _ _ i _ => L.length - (intOf i).toNat)
  case atStart => exact ⟨0, Nat.zero_le _, rfl, hS⟩
  case round =>
    clear hS
    obtain ⟨k, hk, rfl, hR⟩ := hrel
    by_cases hlt : k < L.length
    · have hA' := HA.out (by omega)
      subst hA'
      have hsb := QS.out k
      rw [Pc.at_map L hlt] at hsb
      obtain ⟨s, hs⟩ : ∃ s, Pc.sat L k = s := ⟨_, rfl⟩
      rw [hs] at hsb
      have c0 := keepC hR.bb (HC.out k hlt).1
      have c1 := keepC hR.bb (HC.out k hlt).2.1
      have c2 := keepC hR.bb (HC.out k hlt).2.2.1
      have c3 := keepC hR.bb (HC.out k hlt).2.2.2
      rw [hs] at c0 c1 c2 c3
      have HT := Lib.hid (show L.take (k + 1) = L.take k ++ [s] by rw [← hs]; exact Pc.take_snoc L (0, 0) hlt)
      have htl := Pc.ends_len (L.take k)
      have htk : (L.take k).length ≤ 60 := by rw [List.length_take]; omega
      generalize L.take k = T at *
      clear hs
      have hO := hR.row
      generalize hE' : (Pc.ends T).length = nE at *
      have hE := Lib.hid hE'
      have hnE : nE ≤ 120 := by omega
      clear htl htk hE'
      go_upto_region 5 with fail
      refine at_worldQ (fun v => Acc w w.heap.size 30 2 _ nE (Pc.cells2 (Pc.ends T)) v ∧ BK v wr.heap.size [.int .i64 s.1.num, .int .i64 (s.1.den : Int), .int .i64 s.2.num, .int .i64 (s.2.den : Int)]) ⟨hR.keep (below_al (Below.refl _ _) _), BK.new wr [.int .i64 s.1.num, .int .i64 (s.1.den : Int), .int .i64 s.2.num, .int .i64 (s.2.den : Int)] _⟩ (fun V5 hS5 => ?_)
      clear hR hO c0 c1 c2 c3
      obtain ⟨hR, BP⟩ := hS5
      have p0 := BP.c 0 rfl
      have p1 := BP.c 1 rfl
      have p2 := BP.c 2 rfl
      have p3 := BP.c 3 rfl
      generalize wr.heap.size = PP at *
      have hB := hR.hB
      go_wp2_with (at_builtin; go_loud (refine wpList_append_lies _ rfl _ _ _ rfl w.heap.size 30 i0 _ 2 16 Try.underlying138 HI.out HI2.out HI3.out HI4.out rfl (by omega) _ nE (Pc.cells2 (Pc.ends T)) (by rfl) (World.ownsRow.alloc hR.row _) ⟨V5.heap.size, 0, none⟩ 2 2 [.int .i64 s.1.num, .int .i64 (s.1.den : Int), .int .i64 s.2.num, .int .i64 (s.2.den : Int)] (by rfl) (by rfl) (World.news_of_block (cs := #[.int .i64 s.1.num, .int .i64 (s.1.den : Int), .int .i64 s.2.num, .int .i64 (s.2.den : Int)]) (t := 30) (fr := (0, 0)) (heap_alloc_new V5 _)) (by simp [Value.oneCell']) (by omega) (by unfold maxLen; omega) (by omega) (by simp; omega) (V5.heap.size + 1) (by simp) ?_); intro g cap w1 hown1 hgrow hat hlt)
      have hnew := hR.app ((Below.refl _ V5).alloc (Nat.le_refl _) _) hown1 hgrow
      go_roundw
      case rel =>
        refine ⟨k + 1, by omega, by go_num, ?_⟩
        rw [HT.out, Pc.ends_app, Pc.cells2_app, List.length_append, hE.out]
        exact hnew
      case measure => simp [intOf]; omega
    · obtain rfl : k = L.length := by omega
      rw [List.take_length] at hR
      clear HA HC QS
      go_wp2_with fail
      go_ret
      exact ⟨_, rfl, hR⟩
namespace Pc
theorem pairs_len : ∀ (n : Nat) (l : List Rat), l.length ≤ n → (pairs l).length = l.length / 2 := by
  intro n
  induction n with
  | zero => intro l h; have : l = [] := List.eq_nil_of_length_eq_zero (by omega); subst this; rfl
  | succ n ih =>
    intro l h
    match l, h with
    | [], _ => rfl
    | [_], _ => simp [pairs]
    | p :: q :: l, h =>
      simp only [List.length_cons] at h
      have := ih l (by omega)
      simp only [pairs, List.length_cons, this]
      omega
theorem pairs_at : ∀ (k : Nat) (l : List Rat), k < l.length / 2 → sat (pairs l) k = (qat l (2 * k), qat l (2 * k + 1)) := by
  intro k
  induction k with
  | zero =>
    intro l h
    match l, h with
    | [], h => simp at h
    | [_], h => simp at h
    | p :: q :: l, _ => rfl
  | succ k ih =>
    intro l h
    match l, h with
    | [], h => simp at h
    | [_], h => simp at h
    | p :: q :: l, h =>
      have := ih l (by simp at h; omega)
      unfold sat qat at this ⊢
      rw [show 2 * (k + 1) = 2 * k + 1 + 1 by omega, show 2 * k + 1 + 1 + 1 = (2 * k + 1) + 1 + 1 by omega]
      simpa [pairs] using this
/-- pieceOf's piece and error. -/
def ofE (l : List Rat) : List (Rat × Rat) × Int := if 60 < l.length / 2 then ([], 4) else (pairs l, 0)
end Pc
set_option linter.unusedSimpArgs false in
set_option maxHeartbeats 4000000 in
set_option maxRecDepth 100000 in
theorem pieceOf_any (A : Option Addr) (cap : Nat) (l : List Rat) (w : World) (hl : l.length ≤ 1000) (hf : ∀ r ∈ l, Pc.Fit r) (h : IsQ w A l) :
    Calls Try.prog 104 #[.slice A l.length cap] w fun e w' => ∃ v, e = .returned (.tuple #[v, .int .i64 (Pc.ofE l).2]) ∧ Acc w w.heap.size 51 4 v (Pc.ofE l).1.length (Pc.cells4 (Pc.ofE l).1) w' := by
  by_cases hm : 60 < l.length / 2
  · have e : Pc.ofE l = ([], 4) := by unfold Pc.ofE; rw [if_pos hm]
    rw [e]
    have hd : (l.length : Int).tdiv 2 = ((l.length / 2 : Nat) : Int) := by rw [Int.tdiv_eq_ediv_of_nonneg (by omega)]; omega
    have hg : decide ((60 : Int) < ((l.length / 2 : Nat) : Int)) = true := decide_eq_true (by omega)
    clear h hf
    go_enter Try.func104, Try.ntmps104
    go_wp2_with fail
    go_ret2
    exact ⟨_, rfl, Below.refl _ _, Nat.le_refl _, World.ownsRow_nil _ _ _ _⟩
  · have e : Pc.ofE l = (Pc.pairs l, 0) := by unfold Pc.ofE; rw [if_neg hm]
    rw [e]
    clear e
    have hd : (l.length : Int).tdiv 2 = ((l.length / 2 : Nat) : Int) := by rw [Int.tdiv_eq_ediv_of_nonneg (by omega)]; omega
    have hg : decide ((60 : Int) < ((l.length / 2 : Nat) : Int)) = false := decide_eq_false (by omega)
    obtain ⟨b, off, hA, hc⟩ : ∃ b off, (0 < l.length → A = some ⟨b, off, none⟩) ∧ ∀ i, i < l.length → w.cell? ⟨b, off + i * 2, none⟩ = some (.int .i64 (Pc.qat l i).num) ∧ w.cell? ⟨b, off + i * 2 + 1, none⟩ = some (.int .i64 ((Pc.qat l i).den : Int)) := by
      by_cases h0 : 0 < l.length
      · obtain ⟨b, off, e, hc⟩ := h h0
        exact ⟨b, off, fun _ => e, hc⟩
      · exact ⟨0, 0, fun k => absurd k h0, fun i hi => absurd hi (by omega)⟩
    have HC := Lib.hid hc
    have HA := Lib.hid hA
    have HF := Lib.hid (show ∀ i, i < l.length → Pc.Fit (Pc.qat l i) from fun i hi => by rw [Pc.qat_lt hi]; exact hf _ (List.getElem_mem hi))
    have HP := Lib.hid (fun k => Pc.pairs_at k l)
    have HN := Lib.hid (Pc.pairs_len _ l (Nat.le_refl _))
    obtain ⟨i0, hi0, hz0, hz1, hz2⟩ := info_parts spanInfo
    have HI := Lib.hid hi0
    have HI2 := Lib.hid hz0
    have HI3 := Lib.hid hz1
    have HI4 := Lib.hid hz2
    clear h hc hA hf hi0 hz0 hz1 hz2
    obtain ⟨m, hm'⟩ : ∃ m, l.length / 2 = m := ⟨_, rfl⟩
    rw [hm'] at hd hg hm HN
    have hml : 2 * m ≤ l.length := by omega
    have HM := Lib.hid hm'
    clear hm'
    go_enter Try.func104, Try.ntmps104
    go_upto_region 5 with (at_make; go_loud (refine wpList_make_own _ rfl _ _ _ rfl w.heap.size 51 i0 _ 4 Try.underlying53 HI.out HI2.out HI3.out _ _ _ m (by rfl) (by rfl) (by omega) (by rw [HI4.out]; omega) (by unfold maxLen; omega) (Nat.le_refl _) ?_); intro w1 hown hg')
    refine at_worldQ (fun v => Acc w w.heap.size 51 4 (.slice (some ⟨w.heap.size, 0, none⟩) 0 m) 0 [] v) ⟨(Below.refl _ _).grown hg' (Nat.le_refl _) (fun j e => (by cases e)), hg'.size, hown⟩ (fun V hS => ?_)
    clear hown hg'
    generalize (Value.slice (some ⟨w.heap.size, 0, none⟩) 0 m) = v0 at *
    go_wp2_with fail
    go_loopw [5, 6, 15] (fun v _ i W => ∃ k : Nat, k ≤ m ∧ i = .int .i64 k ∧ Acc w w.heap.size 51 4 v ((Pc.pairs l).take k).length (Pc.cells4 ((Pc.pairs l).take k)) W) (fun _ _ i _ => m - (intOf i).toNat)
    case atStart => exact ⟨0, Nat.zero_le _, rfl, hS⟩
    case round =>
      clear hS
      obtain ⟨k, hk, rfl, hR⟩ := hrel
      by_cases hlt : k < m
      · have hA' := HA.out (by omega)
        subst hA'
        obtain ⟨p, hp⟩ : ∃ p, Pc.qat l (2 * k) = p := ⟨_, rfl⟩
        obtain ⟨q, hq⟩ : ∃ q, Pc.qat l (2 * k + 1) = q := ⟨_, rfl⟩
        have c0 := keepC hR.bb (HC.out (2 * k) (by omega)).1
        have c1 := keepC hR.bb (HC.out (2 * k) (by omega)).2
        have c2 := keepC hR.bb (HC.out (2 * k + 1) (by omega)).1
        have c3 := keepC hR.bb (HC.out (2 * k + 1) (by omega)).2
        rw [hp] at c0 c1
        rw [hq] at c2 c3
        have a1 : IntKind.i64.wrap (2 * (k : Int)) = 2 * (k : Int) := IntWalk.i64_in _ (by omega)
        have a2 : IntKind.i64.wrap (2 * (k : Int) + 1) = 2 * (k : Int) + 1 := IntWalk.i64_in _ (by omega)
        have a3 : (0 : Int) ≤ 2 * (k : Int) := by omega
        have a4 : 2 * (k : Int) < (l.length : Int) := by omega
        have a5 : (0 : Int) ≤ 2 * (k : Int) + 1 := by omega
        have a6 : 2 * (k : Int) + 1 < (l.length : Int) := by omega
        have a7 : (2 * (k : Int)).toNat = 2 * k := by omega
        have a8 : (2 * (k : Int) + 1).toNat = 2 * k + 1 := by omega
        have HT := Lib.hid (show (Pc.pairs l).take (k + 1) = (Pc.pairs l).take k ++ [(p, q)] by rw [Pc.take_snoc (Pc.pairs l) (0, 0) (by rw [HN.out]; exact hlt), ← hp, ← hq, ← HP.out k (by rw [HM.out]; exact hlt)]; rfl)
        have htk : ((Pc.pairs l).take k).length ≤ 60 := by rw [List.length_take]; omega
        generalize (Pc.pairs l).take k = T at *
        clear hp hq
        have hO := hR.row
        generalize hE' : T.length = nE at *
        have hE := Lib.hid hE'
        clear hE'
        have hB := hR.hB
        go_upto_region 8 with fail
        go_region_law ((refine step_append_lies _ (by rfl) _ _ _ (by rfl) w.heap.size 51 i0 _ 4 32 Try.underlying53 HI.out HI2.out HI3.out HI4.out rfl (by omega) _ nE (Pc.cells4 T) (by rfl) (World.ownsRow.alloc (World.ownsRow.drew hR.row) _) ⟨wr.heap.size, 0, none⟩ 1 1 [.int .i64 p.num, .int .i64 (p.den : Int), .int .i64 q.num, .int .i64 (q.den : Int)] (by rfl) (by rfl) (World.news_of_block (cs := #[.int .i64 p.num, .int .i64 (p.den : Int), .int .i64 q.num, .int .i64 (q.den : Int)]) (t := 51) (fr := (0, 0)) (heap_alloc_new wr.drew _)) (by simp [Value.oneCell']) (by omega) (by unfold maxLen; omega) (by omega) (by simp; omega) (wr.heap.size + 1) (by simp) ?_; intro g cap w1 hown1 hgrow hat hlt))
        all_goals
          (try go_wp2_with fail)
          have hnew := hR.app (((Below.refl _ wr).drew).alloc (Nat.le_refl _) _) hown1 hgrow
          go_roundw
          case rel =>
            refine ⟨k + 1, by omega, by go_num, ?_⟩
            rw [HT.out, Pc.cells4_app, List.length_append, hE.out]
            exact hnew
          case measure => simp [intOf]; omega
      · obtain rfl : k = m := by omega
        rw [List.take_of_length_le (by rw [HN.out]; exact Nat.le_refl _)] at hR
        clear HA HC HF HP
        go_wp2_with fail
        go_ret2
        exact ⟨_, rfl, hR⟩
end Go.Proofs.Ytomokdepndclpaa
namespace Go.Proofs.Ytomokdepndclpaa
open Go.RowKit
theorem Pc.less_fit {p q : Rat} (h : Pc.Fit p) (k : Pc.Fit q) : Pc.lessB p.num (p.den : Int) q.num (q.den : Int) = decide (p < q) := by
  unfold Pc.lessB
  rw [decide_eq_decide]
  rw [Rp.q_self, Rp.q_self]
  exact ⟨fun x => x.2.2, fun x => ⟨h, k, x⟩⟩
theorem peither_any (x y : Bool) (w : World) : Calls Try.prog 97 #[.bool x, .bool y] w fun e w' => e = .returned (.bool (x || y)) ∧ Below w.heap.size w w' := by
  cases x <;> cases y <;>
  · go_enter Try.func97, Try.ntmps97
    go_wp2
    go_ret
    exact ⟨rfl, Below.refl _ _⟩
theorem pboth_any (x y : Bool) (w : World) : Calls Try.prog 98 #[.bool x, .bool y] w fun e w' => e = .returned (.bool (x && y)) ∧ Below w.heap.size w w' := by
  cases x <;> cases y <;>
  · go_enter Try.func98, Try.ntmps98
    go_wp2
    go_ret
    exact ⟨rfl, Below.refl _ _⟩
theorem ponlyFirst_any (x y : Bool) (w : World) : Calls Try.prog 99 #[.bool x, .bool y] w fun e w' => e = .returned (.bool (x && !y)) ∧ Below w.heap.size w w' := by
  cases x <;> cases y <;>
  · go_enter Try.func99, Try.ntmps99
    go_wp2
    go_ret
    exact ⟨rfl, Below.refl _ _⟩

set_option linter.unusedSimpArgs false in
set_option maxHeartbeats 4000000 in
set_option maxRecDepth 100000 in
theorem nearest_any (A B : Option Addr) (ca cb : Nat) (la lb : List Rat) (w : World) (hne : ¬ (la = [] ∧ lb = [])) (hA : IsQ w A la) (hB : IsQ w B lb) (fa : ∀ r ∈ la, Pc.Fit r) (fb : ∀ r ∈ lb, Pc.Fit r) :
    Calls Try.prog 136 #[.slice A la.length ca, .slice B lb.length cb] w fun e w' => e = .returned (.agg #[.int .i64 (Pc.near la lb).num, .int .i64 ((Pc.near la lb).den : Int)]) ∧ Below w.heap.size w w' := by
  have e1 : (((0 : Nat) : Int) == 0) = true := rfl
  have e3 : decide ((0 : Int) < ((0 : Nat) : Int)) = false := rfl
  rcases la with _ | ⟨p, la⟩
  · rcases lb with _ | ⟨q, lb⟩
    · exact absurd ⟨rfl, rfl⟩ hne
    · obtain ⟨bb, ob, rfl, hc⟩ := hB (by simp)
      obtain ⟨q0, q1⟩ := hc 0 (by simp)
      rw [Nat.zero_mul, Nat.add_zero] at q0 q1
      have eq : Pc.qat (q :: lb) 0 = q := rfl
      rw [eq] at q0 q1
      have en : Pc.near [] (q :: lb) = q := rfl
      rw [en]
      clear hA hB fa fb hc eq en hne
      go_enter Try.func136, Try.ntmps136
      go_upto_region 1 with fail
      refine at_worldQ (fun v => Below w.heap.size w v ∧ BK v w.heap.size [.int .i64 0, .int .i64 0] ∧ v.cell? ⟨bb, ob, none⟩ = some (.int .i64 q.num) ∧ v.cell? ⟨bb, ob + 1, none⟩ = some (.int .i64 (q.den : Int))) ⟨below_al (Below.refl _ _) _, BK.new w [.int .i64 0, .int .i64 0] _, cell_alloc q0 _, cell_alloc q1 _⟩ (fun V hS => ?_)
      clear q0 q1
      obtain ⟨hbb, BR, q0, q1⟩ := hS
      refine wp_region_noPanic ?_
      refine wp_region_held_drew (S := (Below V.heap.size V)) (by kernel_rfl) ((Below.refl _ _).drew) (fun hHeld => ?_)
      refine at_anyH (Below V.heap.size V) hHeld (fun wa0 hNew => ?_)
      clear hHeld
      have hHeld := hNew
      clear hNew
      refine wpAnyH_take (i := 0) (oi := _) (v := ?va1) rfl (by kernel_rfl) (by kernel_rfl) (by kernel_rfl) (fun _ _ _ h => h) (Or.inl ⟨by kernel_rfl, ?hya1⟩) hHeld ?resta1
      case hya1 => (intro w hSw; go_simp; first | done | (with_reducible rfl))
      try simp only [Act.put, List.getElem_toArray, List.getElem_cons_succ, List.getElem_cons_zero, List.setIfInBounds_toArray, List.set_cons_zero, List.set_cons_succ]
      refine wpAnyH_take (i := 1) (oi := _) (v := ?va2) rfl (by kernel_rfl) (by kernel_rfl) (by kernel_rfl) (fun _ _ _ h => h) (Or.inl ⟨by kernel_rfl, ?hya2⟩) hHeld ?resta2
      case hya2 => (intro w hSw; go_simp; first | done | (with_reducible rfl))
      try simp only [Act.put, List.getElem_toArray, List.getElem_cons_succ, List.getElem_cons_zero, List.setIfInBounds_toArray, List.set_cons_zero, List.set_cons_succ]
      refine wpAnyH_take (i := 2) (oi := _) (v := ?va3) rfl (by kernel_rfl) (by kernel_rfl) (by kernel_rfl) (fun _ _ _ h => h) (Or.inl ⟨by kernel_rfl, ?hya3⟩) hHeld ?resta3
      case hya3 => (intro w hSw; go_simp; first | done | (with_reducible rfl))
      try simp only [Act.put, List.getElem_toArray, List.getElem_cons_succ, List.getElem_cons_zero, List.setIfInBounds_toArray, List.set_cons_zero, List.set_cons_succ]
      refine wpAnyH_take (i := 3) (oi := _) (v := ?va4) rfl (by kernel_rfl) (by kernel_rfl) (by kernel_rfl) (fun _ _ _ h => h) (Or.inl ⟨by kernel_rfl, ?hya4⟩) hHeld ?resta4
      case hya4 => (intro w hSw; go_simp; first | done | (with_reducible rfl))
      try simp only [Act.put, List.getElem_toArray, List.getElem_cons_succ, List.getElem_cons_zero, List.setIfInBounds_toArray, List.set_cons_zero, List.set_cons_succ]
      refine wpAnyH_take (i := 4) (oi := _) (v := undef) rfl (by kernel_rfl) (by kernel_rfl) (by kernel_rfl) (fun _ _ _ h => h) (Or.inr ⟨by kernel_rfl, rfl⟩) hHeld ?_
      try simp only [Act.put, List.getElem_toArray, List.getElem_cons_succ, List.getElem_cons_zero, List.setIfInBounds_toArray, List.set_cons_zero, List.set_cons_succ]
      refine wpAnyH_take (i := 5) (oi := _) (v := undef) rfl (by kernel_rfl) (by kernel_rfl) (by kernel_rfl) (fun _ _ _ h => h) (Or.inr ⟨by kernel_rfl, rfl⟩) hHeld ?_
      try simp only [Act.put, List.getElem_toArray, List.getElem_cons_succ, List.getElem_cons_zero, List.setIfInBounds_toArray, List.set_cons_zero, List.set_cons_succ]
      refine wpAnyH_take (i := 6) (oi := _) (v := undef) rfl (by kernel_rfl) (by kernel_rfl) (by kernel_rfl) (fun _ _ _ h => h) (Or.inr ⟨by kernel_rfl, rfl⟩) hHeld ?_
      try simp only [Act.put, List.getElem_toArray, List.getElem_cons_succ, List.getElem_cons_zero, List.setIfInBounds_toArray, List.set_cons_zero, List.set_cons_succ]
      refine wpAnyH_take (i := 7) (oi := _) (v := undef) rfl (by kernel_rfl) (by kernel_rfl) (by kernel_rfl) (fun _ _ _ h => h) (Or.inr ⟨by kernel_rfl, rfl⟩) hHeld ?_
      try simp only [Act.put, List.getElem_toArray, List.getElem_cons_succ, List.getElem_cons_zero, List.setIfInBounds_toArray, List.set_cons_zero, List.set_cons_succ]
      refine wpAnyH_take (i := 8) (oi := _) (v := undef) rfl (by kernel_rfl) (by kernel_rfl) (by kernel_rfl) (fun _ _ _ h => h) (Or.inr ⟨by kernel_rfl, rfl⟩) hHeld ?_
      try simp only [Act.put, List.getElem_toArray, List.getElem_cons_succ, List.getElem_cons_zero, List.setIfInBounds_toArray, List.set_cons_zero, List.set_cons_succ]
      refine wpAnyH_take (i := 9) (oi := _) (v := undef) rfl (by kernel_rfl) (by kernel_rfl) (by kernel_rfl) (fun _ _ _ h => h) (Or.inr ⟨by kernel_rfl, rfl⟩) hHeld ?_
      try simp only [Act.put, List.getElem_toArray, List.getElem_cons_succ, List.getElem_cons_zero, List.setIfInBounds_toArray, List.set_cons_zero, List.set_cons_succ]
      refine wpAnyH_take (i := 10) (oi := _) (v := undef) rfl (by kernel_rfl) (by kernel_rfl) (by kernel_rfl) (fun _ _ _ h => h) (Or.inr ⟨by kernel_rfl, rfl⟩) hHeld ?_
      try simp only [Act.put, List.getElem_toArray, List.getElem_cons_succ, List.getElem_cons_zero, List.setIfInBounds_toArray, List.set_cons_zero, List.set_cons_succ]
      refine wpAnyH_take (i := 11) (oi := _) (v := undef) rfl (by kernel_rfl) (by kernel_rfl) (by kernel_rfl) (fun _ _ _ h => h) (Or.inr ⟨by kernel_rfl, rfl⟩) hHeld ?_
      try simp only [Act.put, List.getElem_toArray, List.getElem_cons_succ, List.getElem_cons_zero, List.setIfInBounds_toArray, List.set_cons_zero, List.set_cons_succ]
      refine wpAnyH_take (i := 12) (oi := _) (v := undef) rfl (by kernel_rfl) (by kernel_rfl) (by kernel_rfl) (fun _ _ _ h => h) (Or.inr ⟨by kernel_rfl, rfl⟩) hHeld ?_
      try simp only [Act.put, List.getElem_toArray, List.getElem_cons_succ, List.getElem_cons_zero, List.setIfInBounds_toArray, List.set_cons_zero, List.set_cons_succ]
      refine wpAnyH_take (i := 13) (oi := _) (v := undef) rfl (by kernel_rfl) (by kernel_rfl) (by kernel_rfl) (fun _ _ _ h => h) (Or.inr ⟨by kernel_rfl, rfl⟩) hHeld ?_
      try simp only [Act.put, List.getElem_toArray, List.getElem_cons_succ, List.getElem_cons_zero, List.setIfInBounds_toArray, List.set_cons_zero, List.set_cons_succ]
      refine wpAnyH_take (i := 14) (oi := _) (v := undef) rfl (by kernel_rfl) (by kernel_rfl) (by kernel_rfl) (fun _ _ _ h => h) (Or.inr ⟨by kernel_rfl, rfl⟩) hHeld ?_
      try simp only [Act.put, List.getElem_toArray, List.getElem_cons_succ, List.getElem_cons_zero, List.setIfInBounds_toArray, List.set_cons_zero, List.set_cons_succ]
      refine wpAnyH_take (i := 15) (oi := _) (v := undef) rfl (by kernel_rfl) (by kernel_rfl) (by kernel_rfl) (fun _ _ _ h => h) (Or.inr ⟨by kernel_rfl, rfl⟩) hHeld ?_
      try simp only [Act.put, List.getElem_toArray, List.getElem_cons_succ, List.getElem_cons_zero, List.setIfInBounds_toArray, List.set_cons_zero, List.set_cons_succ]
      refine wpAnyH_take (i := 16) (oi := _) (v := ?va17) rfl (by kernel_rfl) (by kernel_rfl) (by kernel_rfl) (fun _ _ _ h => h) (Or.inl ⟨by kernel_rfl, ?hya17⟩) hHeld ?resta17
      case hya17 => (intro w hSw; go_simp; first | done | (with_reducible rfl))
      try simp only [Act.put, List.getElem_toArray, List.getElem_cons_succ, List.getElem_cons_zero, List.setIfInBounds_toArray, List.set_cons_zero, List.set_cons_succ]
      refine wpAnyH_done (by kernel_rfl) ?_ _
      refine NoPanic.normal ?_
      have r0 := keepC hHeld (BR.c 0 rfl)
      have r1 := keepC hHeld (BR.c 1 rfl)
      have f0 := keepF hHeld (BR.c 0 rfl) (BR.f 0 rfl)
      have f1 := keepF hHeld (BR.c 1 rfl) (BR.f 1 rfl)
      replace q0 := keepC hHeld q0
      replace q1 := keepC hHeld q1
      replace hbb := keepB hbb hHeld
      clear hHeld BR
      go_wp2
      exact bodyPost_ret (v := .agg #[.int .i64 q.num, .int .i64 (q.den : Int)]) (by simp [results, Try.results136, go_sem, r0, r1]) rfl ⟨rfl, below_set (below_set hbb (Nat.le_refl _) _) (Nat.le_refl _) _⟩
  · obtain ⟨ba, oa, rfl, hca⟩ := hA (by simp)
    obtain ⟨p0, p1⟩ := hca 0 (by simp)
    rw [Nat.zero_mul, Nat.add_zero] at p0 p1
    have ep : Pc.qat (p :: la) 0 = p := rfl
    rw [ep] at p0 p1
    have hp := fa p (by simp)
    have e2 : ((((p :: la).length : Nat) : Int) == 0) = false := by rw [beq_eq_false_iff_ne, List.length_cons]; omega
    have e6 : 0 < (p :: la).length := by rw [List.length_cons]; omega
    generalize (p :: la).length = na at *
    rcases lb with _ | ⟨q, lb⟩
    · have en : Pc.near (p :: la) [] = p := rfl
      rw [en]
      clear hA hB fa fb hca ep en hne e1
      have e4 : ((([] : List Rat).length : Nat) : Int) = 0 := rfl
      go_enter Try.func136, Try.ntmps136
      go_upto_region 1 with fail
      refine at_worldQ (fun v => Below w.heap.size w v ∧ BK v w.heap.size [.int .i64 0, .int .i64 0] ∧ v.cell? ⟨ba, oa, none⟩ = some (.int .i64 p.num) ∧ v.cell? ⟨ba, oa + 1, none⟩ = some (.int .i64 (p.den : Int))) ⟨below_al (Below.refl _ _) _, BK.new w [.int .i64 0, .int .i64 0] _, cell_alloc p0 _, cell_alloc p1 _⟩ (fun V hS => ?_)
      clear p0 p1
      obtain ⟨hbb, BR, p0, p1⟩ := hS
      refine wp_region_noPanic ?_
      refine wp_region_held_drew (S := (Below V.heap.size V)) (by kernel_rfl) ((Below.refl _ _).drew) (fun hHeld => ?_)
      refine at_anyH (Below V.heap.size V) hHeld (fun wb0 hNew => ?_)
      clear hHeld
      have hHeld := hNew
      clear hNew
      refine wpAnyH_take (i := 0) (oi := _) (v := ?vb1) rfl (by kernel_rfl) (by kernel_rfl) (by kernel_rfl) (fun _ _ _ h => h) (Or.inl ⟨by kernel_rfl, ?hyb1⟩) hHeld ?restb1
      case hyb1 => (intro w hSw; go_simp; first | done | (with_reducible rfl))
      try simp only [Act.put, List.getElem_toArray, List.getElem_cons_succ, List.getElem_cons_zero, List.setIfInBounds_toArray, List.set_cons_zero, List.set_cons_succ]
      refine wpAnyH_take (i := 1) (oi := _) (v := ?vb2) rfl (by kernel_rfl) (by kernel_rfl) (by kernel_rfl) (fun _ _ _ h => h) (Or.inl ⟨by kernel_rfl, ?hyb2⟩) hHeld ?restb2
      case hyb2 => (intro w hSw; go_simp; first | done | (with_reducible rfl))
      try simp only [Act.put, List.getElem_toArray, List.getElem_cons_succ, List.getElem_cons_zero, List.setIfInBounds_toArray, List.set_cons_zero, List.set_cons_succ]
      refine wpAnyH_take (i := 2) (oi := _) (v := ?vb3) rfl (by kernel_rfl) (by kernel_rfl) (by kernel_rfl) (fun _ _ _ h => h) (Or.inl ⟨by kernel_rfl, ?hyb3⟩) hHeld ?restb3
      case hyb3 => (intro w hSw; go_simp; first | done | (with_reducible rfl))
      try simp only [Act.put, List.getElem_toArray, List.getElem_cons_succ, List.getElem_cons_zero, List.setIfInBounds_toArray, List.set_cons_zero, List.set_cons_succ]
      refine wpAnyH_take (i := 3) (oi := _) (v := ?vb4) rfl (by kernel_rfl) (by kernel_rfl) (by kernel_rfl) (fun _ _ _ h => h) (Or.inl ⟨by kernel_rfl, ?hyb4⟩) hHeld ?restb4
      case hyb4 => (intro w hSw; go_simp; first | done | (with_reducible rfl))
      try simp only [Act.put, List.getElem_toArray, List.getElem_cons_succ, List.getElem_cons_zero, List.setIfInBounds_toArray, List.set_cons_zero, List.set_cons_succ]
      refine wpAnyH_take (i := 4) (oi := _) (v := ?vb5) rfl (by kernel_rfl) (by kernel_rfl) (by kernel_rfl) (fun _ _ _ h => h) (Or.inl ⟨by kernel_rfl, ?hyb5⟩) hHeld ?restb5
      case hyb5 => (intro w hSw; go_simp; first | done | (with_reducible rfl))
      try simp only [Act.put, List.getElem_toArray, List.getElem_cons_succ, List.getElem_cons_zero, List.setIfInBounds_toArray, List.set_cons_zero, List.set_cons_succ]
      refine wpAnyH_take (i := 5) (oi := _) (v := ?vb6) rfl (by kernel_rfl) (by kernel_rfl) (by kernel_rfl) (fun _ _ _ h => h) (Or.inl ⟨by kernel_rfl, ?hyb6⟩) hHeld ?restb6
      case hyb6 => (intro w hSw; go_simp; first | done | (with_reducible rfl))
      try simp only [Act.put, List.getElem_toArray, List.getElem_cons_succ, List.getElem_cons_zero, List.setIfInBounds_toArray, List.set_cons_zero, List.set_cons_succ]
      refine wpAnyH_take (i := 6) (oi := _) (v := ?vb7) rfl (by kernel_rfl) (by kernel_rfl) (by kernel_rfl) (fun _ _ _ h => h) (Or.inl ⟨by kernel_rfl, ?hyb7⟩) hHeld ?restb7
      case hyb7 => (intro w hSw; go_simp; first | done | (with_reducible rfl))
      try simp only [Act.put, List.getElem_toArray, List.getElem_cons_succ, List.getElem_cons_zero, List.setIfInBounds_toArray, List.set_cons_zero, List.set_cons_succ]
      refine wpAnyH_take (i := 7) (oi := _) (v := ?vb8) rfl (by kernel_rfl) (by kernel_rfl) (by kernel_rfl) (fun _ _ _ h => h) (Or.inl ⟨by kernel_rfl, ?hyb8⟩) hHeld ?restb8
      case hyb8 => (intro w hSw; go_simp; first | done | (with_reducible rfl))
      try simp only [Act.put, List.getElem_toArray, List.getElem_cons_succ, List.getElem_cons_zero, List.setIfInBounds_toArray, List.set_cons_zero, List.set_cons_succ]
      refine wpAnyH_take (i := 8) (oi := _) (v := undef) rfl (by kernel_rfl) (by kernel_rfl) (by kernel_rfl) (fun _ _ _ h => h) (Or.inr ⟨by kernel_rfl, rfl⟩) hHeld ?_
      try simp only [Act.put, List.getElem_toArray, List.getElem_cons_succ, List.getElem_cons_zero, List.setIfInBounds_toArray, List.set_cons_zero, List.set_cons_succ]
      refine wpAnyH_take (i := 9) (oi := _) (v := undef) rfl (by kernel_rfl) (by kernel_rfl) (by kernel_rfl) (fun _ _ _ h => h) (Or.inr ⟨by kernel_rfl, rfl⟩) hHeld ?_
      try simp only [Act.put, List.getElem_toArray, List.getElem_cons_succ, List.getElem_cons_zero, List.setIfInBounds_toArray, List.set_cons_zero, List.set_cons_succ]
      refine wpAnyH_take (i := 10) (oi := _) (v := undef) rfl (by kernel_rfl) (by kernel_rfl) (by kernel_rfl) (fun _ _ _ h => h) (Or.inr ⟨by kernel_rfl, rfl⟩) hHeld ?_
      try simp only [Act.put, List.getElem_toArray, List.getElem_cons_succ, List.getElem_cons_zero, List.setIfInBounds_toArray, List.set_cons_zero, List.set_cons_succ]
      refine wpAnyH_take (i := 11) (oi := _) (v := undef) rfl (by kernel_rfl) (by kernel_rfl) (by kernel_rfl) (fun _ _ _ h => h) (Or.inr ⟨by kernel_rfl, rfl⟩) hHeld ?_
      try simp only [Act.put, List.getElem_toArray, List.getElem_cons_succ, List.getElem_cons_zero, List.setIfInBounds_toArray, List.set_cons_zero, List.set_cons_succ]
      refine wpAnyH_take (i := 12) (oi := _) (v := undef) rfl (by kernel_rfl) (by kernel_rfl) (by kernel_rfl) (fun _ _ _ h => h) (Or.inr ⟨by kernel_rfl, rfl⟩) hHeld ?_
      try simp only [Act.put, List.getElem_toArray, List.getElem_cons_succ, List.getElem_cons_zero, List.setIfInBounds_toArray, List.set_cons_zero, List.set_cons_succ]
      refine wpAnyH_take (i := 13) (oi := _) (v := undef) rfl (by kernel_rfl) (by kernel_rfl) (by kernel_rfl) (fun _ _ _ h => h) (Or.inr ⟨by kernel_rfl, rfl⟩) hHeld ?_
      try simp only [Act.put, List.getElem_toArray, List.getElem_cons_succ, List.getElem_cons_zero, List.setIfInBounds_toArray, List.set_cons_zero, List.set_cons_succ]
      refine wpAnyH_take (i := 14) (oi := _) (v := undef) rfl (by kernel_rfl) (by kernel_rfl) (by kernel_rfl) (fun _ _ _ h => h) (Or.inr ⟨by kernel_rfl, rfl⟩) hHeld ?_
      try simp only [Act.put, List.getElem_toArray, List.getElem_cons_succ, List.getElem_cons_zero, List.setIfInBounds_toArray, List.set_cons_zero, List.set_cons_succ]
      refine wpAnyH_take (i := 15) (oi := _) (v := ?vb16) rfl (by kernel_rfl) (by kernel_rfl) (by kernel_rfl) (fun _ _ _ h => h) (Or.inl ⟨by kernel_rfl, ?hyb16⟩) hHeld ?restb16
      case hyb16 => (intro w hSw; go_simp; first | done | (with_reducible rfl))
      try simp only [Act.put, List.getElem_toArray, List.getElem_cons_succ, List.getElem_cons_zero, List.setIfInBounds_toArray, List.set_cons_zero, List.set_cons_succ]
      refine wpAnyH_take (i := 16) (oi := _) (v := ?vb17) rfl (by kernel_rfl) (by kernel_rfl) (by kernel_rfl) (fun _ _ _ h => h) (Or.inl ⟨by kernel_rfl, ?hyb17⟩) hHeld ?restb17
      case hyb17 => (intro w hSw; go_simp; first | done | (with_reducible rfl))
      try simp only [Act.put, List.getElem_toArray, List.getElem_cons_succ, List.getElem_cons_zero, List.setIfInBounds_toArray, List.set_cons_zero, List.set_cons_succ]
      refine wpAnyH_done (by kernel_rfl) ?_ _
      refine NoPanic.normal ?_
      have r0 := keepC hHeld (BR.c 0 rfl)
      have r1 := keepC hHeld (BR.c 1 rfl)
      have f0 := keepF hHeld (BR.c 0 rfl) (BR.f 0 rfl)
      have f1 := keepF hHeld (BR.c 1 rfl) (BR.f 1 rfl)
      replace p0 := keepC hHeld p0
      replace p1 := keepC hHeld p1
      replace hbb := keepB hbb hHeld
      clear hHeld BR
      go_wp2
      exact bodyPost_ret (v := .agg #[.int .i64 p.num, .int .i64 (p.den : Int)]) (by simp [results, Try.results136, go_sem, r0, r1]) rfl ⟨rfl, below_set (below_set hbb (Nat.le_refl _) _) (Nat.le_refl _) _⟩
    · obtain ⟨bb, ob, rfl, hc⟩ := hB (by simp)
      obtain ⟨q0, q1⟩ := hc 0 (by simp)
      rw [Nat.zero_mul, Nat.add_zero] at q0 q1
      have eq : Pc.qat (q :: lb) 0 = q := rfl
      rw [eq] at q0 q1
      have hq := fb q (by simp)
      have ls := fun v => pless_any q.num (q.den : Int) p.num (p.den : Int) v (by have := Pc.fit_bd hq; unfold I64; omega) (by have := Pc.fit_bd hq; unfold I64; omega) (by have := Pc.fit_bd hp; unfold I64; omega) (by have := Pc.fit_bd hp; unfold I64; omega)
      rw [Pc.less_fit hq hp] at ls
      have e4 : decide ((0 : Int) < (((q :: lb).length : Nat) : Int)) = true := decide_eq_true (by rw [List.length_cons]; omega)
      have e5 : 0 < (q :: lb).length := by rw [List.length_cons]; omega
      generalize (q :: lb).length = nb at *
      by_cases hlt : q < p
      · have en : Pc.near (p :: la) (q :: lb) = q := by unfold Pc.near; exact if_pos hlt
        rw [en]
        rw [decide_eq_true hlt] at ls
        have LS := Lib.hid ls
        clear hA hB fa fb hca hc ep eq en hne e1 e3 ls hp hq hlt
        go_enter Try.func136, Try.ntmps136
        go_upto_region 1 with fail
        refine at_worldQ (fun v => Below w.heap.size w v ∧ BK v w.heap.size [.int .i64 0, .int .i64 0] ∧ v.cell? ⟨ba, oa, none⟩ = some (.int .i64 p.num) ∧ v.cell? ⟨ba, oa + 1, none⟩ = some (.int .i64 (p.den : Int)) ∧ v.cell? ⟨bb, ob, none⟩ = some (.int .i64 q.num) ∧ v.cell? ⟨bb, ob + 1, none⟩ = some (.int .i64 (q.den : Int))) ⟨below_al (Below.refl _ _) _, BK.new w [.int .i64 0, .int .i64 0] _, cell_alloc p0 _, cell_alloc p1 _, cell_alloc q0 _, cell_alloc q1 _⟩ (fun V hS => ?_)
        clear p0 p1 q0 q1
        obtain ⟨hbb, BR, p0, p1, q0, q1⟩ := hS
        refine wp_region_noPanic ?_
        refine wp_region_held_drew (S := (Below V.heap.size V)) (by kernel_rfl) ((Below.refl _ _).drew) (fun hHeld => ?_)
        refine at_anyH (Below V.heap.size V) hHeld (fun wc0 hNew => ?_)
        clear hHeld
        have hHeld := hNew
        clear hNew
        refine wpAnyH_take (i := 0) (oi := _) (v := ?vc1) rfl (by kernel_rfl) (by kernel_rfl) (by kernel_rfl) (fun _ _ _ h => h) (Or.inl ⟨by kernel_rfl, ?hyc1⟩) hHeld ?restc1
        case hyc1 => (intro w hSw; go_simp; first | done | (with_reducible rfl))
        try simp only [Act.put, List.getElem_toArray, List.getElem_cons_succ, List.getElem_cons_zero, List.setIfInBounds_toArray, List.set_cons_zero, List.set_cons_succ]
        refine wpAnyH_take (i := 1) (oi := _) (v := ?vc2) rfl (by kernel_rfl) (by kernel_rfl) (by kernel_rfl) (fun _ _ _ h => h) (Or.inl ⟨by kernel_rfl, ?hyc2⟩) hHeld ?restc2
        case hyc2 => (intro w hSw; go_simp; first | done | (with_reducible rfl))
        try simp only [Act.put, List.getElem_toArray, List.getElem_cons_succ, List.getElem_cons_zero, List.setIfInBounds_toArray, List.set_cons_zero, List.set_cons_succ]
        refine wpAnyH_take (i := 2) (oi := _) (v := ?vc3) rfl (by kernel_rfl) (by kernel_rfl) (by kernel_rfl) (fun _ _ _ h => h) (Or.inl ⟨by kernel_rfl, ?hyc3⟩) hHeld ?restc3
        case hyc3 => (intro w hSw; go_simp; first | done | (with_reducible rfl))
        try simp only [Act.put, List.getElem_toArray, List.getElem_cons_succ, List.getElem_cons_zero, List.setIfInBounds_toArray, List.set_cons_zero, List.set_cons_succ]
        refine wpAnyH_take (i := 3) (oi := _) (v := ?vc4) rfl (by kernel_rfl) (by kernel_rfl) (by kernel_rfl) (fun _ _ _ h => h) (Or.inl ⟨by kernel_rfl, ?hyc4⟩) hHeld ?restc4
        case hyc4 => (intro w hSw; go_simp; first | done | (with_reducible rfl))
        try simp only [Act.put, List.getElem_toArray, List.getElem_cons_succ, List.getElem_cons_zero, List.setIfInBounds_toArray, List.set_cons_zero, List.set_cons_succ]
        refine wpAnyH_take (i := 4) (oi := _) (v := ?vc5) rfl (by kernel_rfl) (by kernel_rfl) (by kernel_rfl) (fun _ _ _ h => h) (Or.inl ⟨by kernel_rfl, ?hyc5⟩) hHeld ?restc5
        case hyc5 => (intro w hSw; go_simp; first | done | (with_reducible rfl))
        try simp only [Act.put, List.getElem_toArray, List.getElem_cons_succ, List.getElem_cons_zero, List.setIfInBounds_toArray, List.set_cons_zero, List.set_cons_succ]
        refine wpAnyH_take (i := 5) (oi := _) (v := ?vc6) rfl (by kernel_rfl) (by kernel_rfl) (by kernel_rfl) (fun _ _ _ h => h) (Or.inl ⟨by kernel_rfl, ?hyc6⟩) hHeld ?restc6
        case hyc6 => (intro w hSw; go_simp; first | done | (with_reducible rfl))
        try simp only [Act.put, List.getElem_toArray, List.getElem_cons_succ, List.getElem_cons_zero, List.setIfInBounds_toArray, List.set_cons_zero, List.set_cons_succ]
        refine wpAnyH_take (i := 6) (oi := _) (v := ?vc7) rfl (by kernel_rfl) (by kernel_rfl) (by kernel_rfl) (fun _ _ _ h => h) (Or.inl ⟨by kernel_rfl, ?hyc7⟩) hHeld ?restc7
        case hyc7 => (intro w hSw; go_simp; first | done | (with_reducible rfl))
        try simp only [Act.put, List.getElem_toArray, List.getElem_cons_succ, List.getElem_cons_zero, List.setIfInBounds_toArray, List.set_cons_zero, List.set_cons_succ]
        refine wpAnyH_take (i := 7) (oi := _) (v := ?vc8) rfl (by kernel_rfl) (by kernel_rfl) (by kernel_rfl) (fun _ _ _ h => h) (Or.inl ⟨by kernel_rfl, ?hyc8⟩) hHeld ?restc8
        case hyc8 => (intro w hSw; go_simp; first | done | (with_reducible rfl))
        try simp only [Act.put, List.getElem_toArray, List.getElem_cons_succ, List.getElem_cons_zero, List.setIfInBounds_toArray, List.set_cons_zero, List.set_cons_succ]
        refine wpAnyH_take (i := 8) (oi := _) (v := ?vc9) rfl (by kernel_rfl) (by kernel_rfl) (by kernel_rfl) (fun _ _ _ h => h) (Or.inl ⟨by kernel_rfl, ?hyc9⟩) hHeld ?restc9
        case hyc9 => (intro w hSw; go_simp; first | done | (with_reducible rfl))
        try simp only [Act.put, List.getElem_toArray, List.getElem_cons_succ, List.getElem_cons_zero, List.setIfInBounds_toArray, List.set_cons_zero, List.set_cons_succ]
        refine wpAnyH_take (i := 9) (oi := _) (v := ?vc10) rfl (by kernel_rfl) (by kernel_rfl) (by kernel_rfl) (fun _ _ _ h => h) (Or.inl ⟨by kernel_rfl, ?hyc10⟩) hHeld ?restc10
        case hyc10 => (intro w hSw; go_simp; first | done | (with_reducible rfl))
        try simp only [Act.put, List.getElem_toArray, List.getElem_cons_succ, List.getElem_cons_zero, List.setIfInBounds_toArray, List.set_cons_zero, List.set_cons_succ]
        refine wpAnyH_take (i := 10) (oi := _) (v := ?vc11) rfl (by kernel_rfl) (by kernel_rfl) (by kernel_rfl) (fun _ _ _ h => h) (Or.inl ⟨by kernel_rfl, ?hyc11⟩) hHeld ?restc11
        case hyc11 => (intro w hSw; have kp0 := keepC hSw p0; have kp1 := keepC hSw p1; have kq0 := keepC hSw q0; have kq1 := keepC hSw q1; go_simp; first | done | (with_reducible rfl))
        try simp only [Act.put, List.getElem_toArray, List.getElem_cons_succ, List.getElem_cons_zero, List.setIfInBounds_toArray, List.set_cons_zero, List.set_cons_succ]
        refine wpAnyH_take (i := 11) (oi := _) (v := ?vc12) rfl (by kernel_rfl) (by kernel_rfl) (by kernel_rfl) (fun _ _ _ h => h) (Or.inl ⟨by kernel_rfl, ?hyc12⟩) hHeld ?restc12
        case hyc12 => (intro w hSw; go_simp; first | done | (with_reducible rfl))
        try simp only [Act.put, List.getElem_toArray, List.getElem_cons_succ, List.getElem_cons_zero, List.setIfInBounds_toArray, List.set_cons_zero, List.set_cons_succ]
        refine wpAnyH_take (i := 12) (oi := _) (v := ?vc13) rfl (by kernel_rfl) (by kernel_rfl) (by kernel_rfl) (fun _ _ _ h => h) (Or.inl ⟨by kernel_rfl, ?hyc13⟩) hHeld ?restc13
        case hyc13 => (intro w hSw; go_simp; first | done | (with_reducible rfl))
        try simp only [Act.put, List.getElem_toArray, List.getElem_cons_succ, List.getElem_cons_zero, List.setIfInBounds_toArray, List.set_cons_zero, List.set_cons_succ]
        refine wpAnyH_take (i := 13) (oi := _) (v := ?vc14) rfl (by kernel_rfl) (by kernel_rfl) (by kernel_rfl) (fun _ _ _ h => h) (Or.inl ⟨by kernel_rfl, ?hyc14⟩) hHeld ?restc14
        case hyc14 => (intro w hSw; have kp0 := keepC hSw p0; have kp1 := keepC hSw p1; have kq0 := keepC hSw q0; have kq1 := keepC hSw q1; go_simp; first | done | (with_reducible rfl))
        try simp only [Act.put, List.getElem_toArray, List.getElem_cons_succ, List.getElem_cons_zero, List.setIfInBounds_toArray, List.set_cons_zero, List.set_cons_succ]
        refine wpAnyH_ready (rs := [14]) (by kernel_rfl) (by simp) (AllReadyH.cons (o := _) rfl (fun K hK => ?_) AllReadyH.nil)
        go_simp
        refine (LS.out _).mono ?_
        rintro e wc15 ⟨rfl, hb3⟩
        go_wp2_with fail
        refine hK.out _ _ (keepB hHeld hb3) (fun hNew => ?_)
        clear hb3
        clear hHeld hK K
        have hHeld := hNew
        clear hNew
        try simp only [Act.put, List.getElem_toArray, List.getElem_cons_succ, List.getElem_cons_zero, List.setIfInBounds_toArray, List.set_cons_zero, List.set_cons_succ]
        refine wpAnyH_take (i := 15) (oi := _) (v := ?vc16) rfl (by kernel_rfl) (by kernel_rfl) (by kernel_rfl) (fun _ _ _ h => h) (Or.inl ⟨by kernel_rfl, ?hyc16⟩) hHeld ?restc16
        case hyc16 => (intro w hSw; go_simp; first | done | (with_reducible rfl))
        try simp only [Act.put, List.getElem_toArray, List.getElem_cons_succ, List.getElem_cons_zero, List.setIfInBounds_toArray, List.set_cons_zero, List.set_cons_succ]
        refine wpAnyH_take (i := 16) (oi := _) (v := ?vc17) rfl (by kernel_rfl) (by kernel_rfl) (by kernel_rfl) (fun _ _ _ h => h) (Or.inl ⟨by kernel_rfl, ?hyc17⟩) hHeld ?restc17
        case hyc17 => (intro w hSw; go_simp; first | done | (with_reducible rfl))
        try simp only [Act.put, List.getElem_toArray, List.getElem_cons_succ, List.getElem_cons_zero, List.setIfInBounds_toArray, List.set_cons_zero, List.set_cons_succ]
        refine wpAnyH_done (by kernel_rfl) ?_ _
        refine NoPanic.normal ?_
        have r0 := keepC hHeld (BR.c 0 rfl)
        have r1 := keepC hHeld (BR.c 1 rfl)
        have f0 := keepF hHeld (BR.c 0 rfl) (BR.f 0 rfl)
        have f1 := keepF hHeld (BR.c 1 rfl) (BR.f 1 rfl)
        replace p0 := keepC hHeld p0
        replace p1 := keepC hHeld p1
        replace q0 := keepC hHeld q0
        replace q1 := keepC hHeld q1
        replace hbb := keepB hbb hHeld
        clear hHeld BR
        go_wp2
        exact bodyPost_ret (v := .agg #[.int .i64 q.num, .int .i64 (q.den : Int)]) (by simp [results, Try.results136, go_sem, r0, r1]) rfl ⟨rfl, below_set (below_set hbb (Nat.le_refl _) _) (Nat.le_refl _) _⟩
      · have en : Pc.near (p :: la) (q :: lb) = p := by unfold Pc.near; exact if_neg hlt
        rw [en]
        rw [decide_eq_false hlt] at ls
        have LS := Lib.hid ls
        clear hA hB fa fb hca hc ep eq en hne e1 e3 ls hp hq hlt
        go_enter Try.func136, Try.ntmps136
        go_upto_region 1 with fail
        refine at_worldQ (fun v => Below w.heap.size w v ∧ BK v w.heap.size [.int .i64 0, .int .i64 0] ∧ v.cell? ⟨ba, oa, none⟩ = some (.int .i64 p.num) ∧ v.cell? ⟨ba, oa + 1, none⟩ = some (.int .i64 (p.den : Int)) ∧ v.cell? ⟨bb, ob, none⟩ = some (.int .i64 q.num) ∧ v.cell? ⟨bb, ob + 1, none⟩ = some (.int .i64 (q.den : Int))) ⟨below_al (Below.refl _ _) _, BK.new w [.int .i64 0, .int .i64 0] _, cell_alloc p0 _, cell_alloc p1 _, cell_alloc q0 _, cell_alloc q1 _⟩ (fun V hS => ?_)
        clear p0 p1 q0 q1
        obtain ⟨hbb, BR, p0, p1, q0, q1⟩ := hS
        refine wp_region_noPanic ?_
        refine wp_region_held_drew (S := (Below V.heap.size V)) (by kernel_rfl) ((Below.refl _ _).drew) (fun hHeld => ?_)
        refine at_anyH (Below V.heap.size V) hHeld (fun wd0 hNew => ?_)
        clear hHeld
        have hHeld := hNew
        clear hNew
        refine wpAnyH_take (i := 0) (oi := _) (v := ?vd1) rfl (by kernel_rfl) (by kernel_rfl) (by kernel_rfl) (fun _ _ _ h => h) (Or.inl ⟨by kernel_rfl, ?hyd1⟩) hHeld ?restd1
        case hyd1 => (intro w hSw; go_simp; first | done | (with_reducible rfl))
        try simp only [Act.put, List.getElem_toArray, List.getElem_cons_succ, List.getElem_cons_zero, List.setIfInBounds_toArray, List.set_cons_zero, List.set_cons_succ]
        refine wpAnyH_take (i := 1) (oi := _) (v := ?vd2) rfl (by kernel_rfl) (by kernel_rfl) (by kernel_rfl) (fun _ _ _ h => h) (Or.inl ⟨by kernel_rfl, ?hyd2⟩) hHeld ?restd2
        case hyd2 => (intro w hSw; go_simp; first | done | (with_reducible rfl))
        try simp only [Act.put, List.getElem_toArray, List.getElem_cons_succ, List.getElem_cons_zero, List.setIfInBounds_toArray, List.set_cons_zero, List.set_cons_succ]
        refine wpAnyH_take (i := 2) (oi := _) (v := ?vd3) rfl (by kernel_rfl) (by kernel_rfl) (by kernel_rfl) (fun _ _ _ h => h) (Or.inl ⟨by kernel_rfl, ?hyd3⟩) hHeld ?restd3
        case hyd3 => (intro w hSw; go_simp; first | done | (with_reducible rfl))
        try simp only [Act.put, List.getElem_toArray, List.getElem_cons_succ, List.getElem_cons_zero, List.setIfInBounds_toArray, List.set_cons_zero, List.set_cons_succ]
        refine wpAnyH_take (i := 3) (oi := _) (v := ?vd4) rfl (by kernel_rfl) (by kernel_rfl) (by kernel_rfl) (fun _ _ _ h => h) (Or.inl ⟨by kernel_rfl, ?hyd4⟩) hHeld ?restd4
        case hyd4 => (intro w hSw; go_simp; first | done | (with_reducible rfl))
        try simp only [Act.put, List.getElem_toArray, List.getElem_cons_succ, List.getElem_cons_zero, List.setIfInBounds_toArray, List.set_cons_zero, List.set_cons_succ]
        refine wpAnyH_take (i := 4) (oi := _) (v := ?vd5) rfl (by kernel_rfl) (by kernel_rfl) (by kernel_rfl) (fun _ _ _ h => h) (Or.inl ⟨by kernel_rfl, ?hyd5⟩) hHeld ?restd5
        case hyd5 => (intro w hSw; go_simp; first | done | (with_reducible rfl))
        try simp only [Act.put, List.getElem_toArray, List.getElem_cons_succ, List.getElem_cons_zero, List.setIfInBounds_toArray, List.set_cons_zero, List.set_cons_succ]
        refine wpAnyH_take (i := 5) (oi := _) (v := ?vd6) rfl (by kernel_rfl) (by kernel_rfl) (by kernel_rfl) (fun _ _ _ h => h) (Or.inl ⟨by kernel_rfl, ?hyd6⟩) hHeld ?restd6
        case hyd6 => (intro w hSw; go_simp; first | done | (with_reducible rfl))
        try simp only [Act.put, List.getElem_toArray, List.getElem_cons_succ, List.getElem_cons_zero, List.setIfInBounds_toArray, List.set_cons_zero, List.set_cons_succ]
        refine wpAnyH_take (i := 6) (oi := _) (v := ?vd7) rfl (by kernel_rfl) (by kernel_rfl) (by kernel_rfl) (fun _ _ _ h => h) (Or.inl ⟨by kernel_rfl, ?hyd7⟩) hHeld ?restd7
        case hyd7 => (intro w hSw; go_simp; first | done | (with_reducible rfl))
        try simp only [Act.put, List.getElem_toArray, List.getElem_cons_succ, List.getElem_cons_zero, List.setIfInBounds_toArray, List.set_cons_zero, List.set_cons_succ]
        refine wpAnyH_take (i := 7) (oi := _) (v := ?vd8) rfl (by kernel_rfl) (by kernel_rfl) (by kernel_rfl) (fun _ _ _ h => h) (Or.inl ⟨by kernel_rfl, ?hyd8⟩) hHeld ?restd8
        case hyd8 => (intro w hSw; go_simp; first | done | (with_reducible rfl))
        try simp only [Act.put, List.getElem_toArray, List.getElem_cons_succ, List.getElem_cons_zero, List.setIfInBounds_toArray, List.set_cons_zero, List.set_cons_succ]
        refine wpAnyH_take (i := 8) (oi := _) (v := ?vd9) rfl (by kernel_rfl) (by kernel_rfl) (by kernel_rfl) (fun _ _ _ h => h) (Or.inl ⟨by kernel_rfl, ?hyd9⟩) hHeld ?restd9
        case hyd9 => (intro w hSw; go_simp; first | done | (with_reducible rfl))
        try simp only [Act.put, List.getElem_toArray, List.getElem_cons_succ, List.getElem_cons_zero, List.setIfInBounds_toArray, List.set_cons_zero, List.set_cons_succ]
        refine wpAnyH_take (i := 9) (oi := _) (v := ?vd10) rfl (by kernel_rfl) (by kernel_rfl) (by kernel_rfl) (fun _ _ _ h => h) (Or.inl ⟨by kernel_rfl, ?hyd10⟩) hHeld ?restd10
        case hyd10 => (intro w hSw; go_simp; first | done | (with_reducible rfl))
        try simp only [Act.put, List.getElem_toArray, List.getElem_cons_succ, List.getElem_cons_zero, List.setIfInBounds_toArray, List.set_cons_zero, List.set_cons_succ]
        refine wpAnyH_take (i := 10) (oi := _) (v := ?vd11) rfl (by kernel_rfl) (by kernel_rfl) (by kernel_rfl) (fun _ _ _ h => h) (Or.inl ⟨by kernel_rfl, ?hyd11⟩) hHeld ?restd11
        case hyd11 => (intro w hSw; have kp0 := keepC hSw p0; have kp1 := keepC hSw p1; have kq0 := keepC hSw q0; have kq1 := keepC hSw q1; go_simp; first | done | (with_reducible rfl))
        try simp only [Act.put, List.getElem_toArray, List.getElem_cons_succ, List.getElem_cons_zero, List.setIfInBounds_toArray, List.set_cons_zero, List.set_cons_succ]
        refine wpAnyH_take (i := 11) (oi := _) (v := ?vd12) rfl (by kernel_rfl) (by kernel_rfl) (by kernel_rfl) (fun _ _ _ h => h) (Or.inl ⟨by kernel_rfl, ?hyd12⟩) hHeld ?restd12
        case hyd12 => (intro w hSw; go_simp; first | done | (with_reducible rfl))
        try simp only [Act.put, List.getElem_toArray, List.getElem_cons_succ, List.getElem_cons_zero, List.setIfInBounds_toArray, List.set_cons_zero, List.set_cons_succ]
        refine wpAnyH_take (i := 12) (oi := _) (v := ?vd13) rfl (by kernel_rfl) (by kernel_rfl) (by kernel_rfl) (fun _ _ _ h => h) (Or.inl ⟨by kernel_rfl, ?hyd13⟩) hHeld ?restd13
        case hyd13 => (intro w hSw; go_simp; first | done | (with_reducible rfl))
        try simp only [Act.put, List.getElem_toArray, List.getElem_cons_succ, List.getElem_cons_zero, List.setIfInBounds_toArray, List.set_cons_zero, List.set_cons_succ]
        refine wpAnyH_take (i := 13) (oi := _) (v := ?vd14) rfl (by kernel_rfl) (by kernel_rfl) (by kernel_rfl) (fun _ _ _ h => h) (Or.inl ⟨by kernel_rfl, ?hyd14⟩) hHeld ?restd14
        case hyd14 => (intro w hSw; have kp0 := keepC hSw p0; have kp1 := keepC hSw p1; have kq0 := keepC hSw q0; have kq1 := keepC hSw q1; go_simp; first | done | (with_reducible rfl))
        try simp only [Act.put, List.getElem_toArray, List.getElem_cons_succ, List.getElem_cons_zero, List.setIfInBounds_toArray, List.set_cons_zero, List.set_cons_succ]
        refine wpAnyH_ready (rs := [14]) (by kernel_rfl) (by simp) (AllReadyH.cons (o := _) rfl (fun K hK => ?_) AllReadyH.nil)
        go_simp
        refine (LS.out _).mono ?_
        rintro e wd15 ⟨rfl, hb3⟩
        go_wp2_with fail
        refine hK.out _ _ (keepB hHeld hb3) (fun hNew => ?_)
        clear hb3
        clear hHeld hK K
        have hHeld := hNew
        clear hNew
        try simp only [Act.put, List.getElem_toArray, List.getElem_cons_succ, List.getElem_cons_zero, List.setIfInBounds_toArray, List.set_cons_zero, List.set_cons_succ]
        refine wpAnyH_take (i := 15) (oi := _) (v := ?vd16) rfl (by kernel_rfl) (by kernel_rfl) (by kernel_rfl) (fun _ _ _ h => h) (Or.inl ⟨by kernel_rfl, ?hyd16⟩) hHeld ?restd16
        case hyd16 => (intro w hSw; go_simp; first | done | (with_reducible rfl))
        try simp only [Act.put, List.getElem_toArray, List.getElem_cons_succ, List.getElem_cons_zero, List.setIfInBounds_toArray, List.set_cons_zero, List.set_cons_succ]
        refine wpAnyH_take (i := 16) (oi := _) (v := ?vd17) rfl (by kernel_rfl) (by kernel_rfl) (by kernel_rfl) (fun _ _ _ h => h) (Or.inl ⟨by kernel_rfl, ?hyd17⟩) hHeld ?restd17
        case hyd17 => (intro w hSw; go_simp; first | done | (with_reducible rfl))
        try simp only [Act.put, List.getElem_toArray, List.getElem_cons_succ, List.getElem_cons_zero, List.setIfInBounds_toArray, List.set_cons_zero, List.set_cons_succ]
        refine wpAnyH_done (by kernel_rfl) ?_ _
        refine NoPanic.normal ?_
        have r0 := keepC hHeld (BR.c 0 rfl)
        have r1 := keepC hHeld (BR.c 1 rfl)
        have f0 := keepF hHeld (BR.c 0 rfl) (BR.f 0 rfl)
        have f1 := keepF hHeld (BR.c 1 rfl) (BR.f 1 rfl)
        replace p0 := keepC hHeld p0
        replace p1 := keepC hHeld p1
        replace q0 := keepC hHeld q0
        replace q1 := keepC hHeld q1
        replace hbb := keepB hbb hHeld
        clear hHeld BR
        go_wp2
        exact bodyPost_ret (v := .agg #[.int .i64 p.num, .int .i64 (p.den : Int)]) (by simp [results, Try.results136, go_sem, r0, r1]) rfl ⟨rfl, below_set (below_set hbb (Nat.le_refl _) _) (Nat.le_refl _) _⟩
end Go.Proofs.Ytomokdepndclpaa
