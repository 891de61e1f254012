/- Package piece's endsOf and pieceOf. -/
import Derived.Test.YtnnpmegknlgkoaaPrw
import Derived.Test.YtnnpmegknlgkoaaTree
import Derived.Deep.RegionLaw
namespace Go.Proofs.Ytnnpmegknlgkoaa
open Go.RowKit
set_option linter.unusedSimpArgs false in
set_option maxHeartbeats 4000000 in
set_option maxRecDepth 100000 in
theorem endsOf_any (A : Option Addr) (cap : Nat) (L : List (Rat × Rat)) (w : World) (hl : L.length ≤ 60) (h : IsS w A (L.map Pc.raw)) :
    Calls Try.prog 60 #[.slice A L.length cap] w fun e w' => ∃ v, e = .returned v ∧ Acc w w.heap.size 23 2 v (Pc.ends L).length (Pc.cells2 (Pc.ends L)) w' := by
  obtain ⟨b, off, hA, hc⟩ := h.cell
  have QS := Lib.hid h.bd
  have HC := Lib.hid hc
  have HA := Lib.hid hA
  obtain ⟨i0, hi0, hz0, hz1, hz2⟩ := info_parts ratInfo
  have HI := Lib.hid hi0
  have HI2 := Lib.hid hz0
  have HI3 := Lib.hid hz1
  have HI4 := Lib.hid hz2
  clear h hc hA hi0 hz0 hz1 hz2
  go_enter Try.func60, Try.ntmps60
  go_upto_region 2 with (at_make; go_loud (refine wpList_make_own _ rfl _ _ _ rfl w.heap.size 23 i0 _ 2 Try.underlying94 HI.out HI2.out HI3.out _ _ _ (2 * L.length) (by rfl) (by rfl) (by omega) (by rw [HI4.out]; omega) (by unfold maxLen; omega) (Nat.le_refl _) ?_); intro w1 hown hg)
  refine at_worldQ (fun v => Acc w w.heap.size 23 2 (.slice (some ⟨w.heap.size, 0, none⟩) 0 (2 * L.length)) 0 [] v) ⟨(Below.refl _ _).grown hg (Nat.le_refl _) (fun j e => (by cases e)), hg.size, hown⟩ (fun V hS => ?_)
  clear hown hg
  generalize (Value.slice (some ⟨w.heap.size, 0, none⟩) 0 (2 * L.length)) = v0 at *
  go_wp2_with fail
  go_loopw [3, 5, 12] (fun v _ i W => ∃ k : Nat, k ≤ L.length ∧ i = .int .i64 k ∧ Acc w w.heap.size 23 2 v (Pc.ends (L.take k)).length (Pc.cells2 (Pc.ends (L.take k))) W) (fun _ _ i _ => L.length - (intOf i).toNat)
  case atStart => exact ⟨0, Nat.zero_le _, rfl, hS⟩
  case round =>
    clear hS
    obtain ⟨k, hk, rfl, hR⟩ := hrel
    by_cases hlt : k < L.length
    · have hA' := HA.out (by omega)
      subst hA'
      have hsb := QS.out k
      rw [Pc.at_map L hlt] at hsb
      obtain ⟨s, hs⟩ : ∃ s, Pc.sat L k = s := ⟨_, rfl⟩
      rw [hs] at hsb
      have c0 := keepC hR.bb (HC.out k hlt).1
      have c1 := keepC hR.bb (HC.out k hlt).2.1
      have c2 := keepC hR.bb (HC.out k hlt).2.2.1
      have c3 := keepC hR.bb (HC.out k hlt).2.2.2
      rw [hs] at c0 c1 c2 c3
      have HT := Lib.hid (show L.take (k + 1) = L.take k ++ [s] by rw [← hs]; exact Pc.take_snoc L (0, 0) hlt)
      have htl := Pc.ends_len (L.take k)
      have htk : (L.take k).length ≤ 60 := by rw [List.length_take]; omega
      generalize L.take k = T at *
      clear hs
      have hO := hR.row
      generalize hE' : (Pc.ends T).length = nE at *
      have hE := Lib.hid hE'
      have hnE : nE ≤ 120 := by omega
      clear htl htk hE'
      go_upto_region 5 with fail
      refine at_worldQ (fun v => Acc w w.heap.size 23 2 _ nE (Pc.cells2 (Pc.ends T)) v ∧ BK v wr.heap.size [.int .i64 s.1.num, .int .i64 (s.1.den : Int), .int .i64 s.2.num, .int .i64 (s.2.den : Int)]) ⟨hR.keep (below_al (Below.refl _ _) _), BK.new wr [.int .i64 s.1.num, .int .i64 (s.1.den : Int), .int .i64 s.2.num, .int .i64 (s.2.den : Int)] _⟩ (fun V5 hS5 => ?_)
      clear hR hO c0 c1 c2 c3
      obtain ⟨hR, BP⟩ := hS5
      have p0 := BP.c 0 rfl
      have p1 := BP.c 1 rfl
      have p2 := BP.c 2 rfl
      have p3 := BP.c 3 rfl
      generalize wr.heap.size = PP at *
      have hB := hR.hB
      go_wp2_with (at_builtin; go_loud (refine wpList_append_lies _ rfl _ _ _ rfl w.heap.size 23 i0 _ 2 16 Try.underlying94 HI.out HI2.out HI3.out HI4.out rfl (by omega) _ nE (Pc.cells2 (Pc.ends T)) (by rfl) (World.ownsRow.alloc hR.row _) ⟨V5.heap.size, 0, none⟩ 2 2 [.int .i64 s.1.num, .int .i64 (s.1.den : Int), .int .i64 s.2.num, .int .i64 (s.2.den : Int)] (by rfl) (by rfl) (World.news_of_block (cs := #[.int .i64 s.1.num, .int .i64 (s.1.den : Int), .int .i64 s.2.num, .int .i64 (s.2.den : Int)]) (t := 23) (fr := (0, 0)) (heap_alloc_new V5 _)) (by simp [Value.oneCell']) (by omega) (by unfold maxLen; omega) (by omega) (by simp; omega) (V5.heap.size + 1) (by simp) ?_); intro g cap w1 hown1 hgrow hat hlt)
      have hnew := hR.app ((Below.refl _ V5).alloc (Nat.le_refl _) _) hown1 hgrow
      go_roundw
      case rel =>
        refine ⟨k + 1, by omega, by go_num, ?_⟩
        rw [HT.out, Pc.ends_app, Pc.cells2_app, List.length_append, hE.out]
        exact hnew
      case measure => simp [intOf]; omega
    · obtain rfl : k = L.length := by omega
      rw [List.take_length] at hR
      clear HA HC QS
      go_wp2_with fail
      go_ret
      exact ⟨_, rfl, hR⟩
namespace Pc
theorem pairs_len : ∀ (n : Nat) (l : List Rat), l.length ≤ n → (pairs l).length = l.length / 2 := by
  intro n
  induction n with
  | zero => intro l h; have : l = [] := List.eq_nil_of_length_eq_zero (by omega); subst this; rfl
  | succ n ih =>
    intro l h
    match l, h with
    | [], _ => rfl
    | [_], _ => simp [pairs]
    | p :: q :: l, h =>
      simp only [List.length_cons] at h
      have := ih l (by omega)
      simp only [pairs, List.length_cons, this]
      omega
theorem pairs_at : ∀ (k : Nat) (l : List Rat), k < l.length / 2 → sat (pairs l) k = (qat l (2 * k), qat l (2 * k + 1)) := by
  intro k
  induction k with
  | zero =>
    intro l h
    match l, h with
    | [], h => simp at h
    | [_], h => simp at h
    | p :: q :: l, _ => rfl
  | succ k ih =>
    intro l h
    match l, h with
    | [], h => simp at h
    | [_], h => simp at h
    | p :: q :: l, h =>
      have := ih l (by simp at h; omega)
      unfold sat qat at this ⊢
      rw [show 2 * (k + 1) = 2 * k + 1 + 1 by omega, show 2 * k + 1 + 1 + 1 = (2 * k + 1) + 1 + 1 by omega]
      simpa [pairs] using this
/-- pieceOf's piece and error. -/
def ofE (l : List Rat) : List (Rat × Rat) × Int := if 60 < l.length / 2 then ([], 4) else (pairs l, 0)
end Pc
set_option linter.unusedSimpArgs false in
set_option maxHeartbeats 4000000 in
set_option maxRecDepth 100000 in
theorem pieceOf_any (A : Option Addr) (cap : Nat) (l : List Rat) (w : World) (hl : l.length ≤ 1000) (hf : ∀ r ∈ l, Pc.Fit r) (h : IsQ w A l) :
    Calls Try.prog 55 #[.slice A l.length cap] w fun e w' => ∃ v, e = .returned (.tuple #[v, .int .i64 (Pc.ofE l).2]) ∧ Acc w w.heap.size 25 4 v (Pc.ofE l).1.length (Pc.cells4 (Pc.ofE l).1) w' := by
  by_cases hm : 60 < l.length / 2
  · have e : Pc.ofE l = ([], 4) := by unfold Pc.ofE; rw [if_pos hm]
    rw [e]
    have hd : (l.length : Int).tdiv 2 = ((l.length / 2 : Nat) : Int) := by rw [Int.tdiv_eq_ediv_of_nonneg (by omega)]; omega
    have hg : decide ((60 : Int) < ((l.length / 2 : Nat) : Int)) = true := decide_eq_true (by omega)
    clear h hf
    go_enter Try.func55, Try.ntmps55
    go_wp2_with fail
    go_ret2
    exact ⟨_, rfl, Below.refl _ _, Nat.le_refl _, World.ownsRow_nil _ _ _ _⟩
  · have e : Pc.ofE l = (Pc.pairs l, 0) := by unfold Pc.ofE; rw [if_neg hm]
    rw [e]
    clear e
    have hd : (l.length : Int).tdiv 2 = ((l.length / 2 : Nat) : Int) := by rw [Int.tdiv_eq_ediv_of_nonneg (by omega)]; omega
    have hg : decide ((60 : Int) < ((l.length / 2 : Nat) : Int)) = false := decide_eq_false (by omega)
    obtain ⟨b, off, hA, hc⟩ : ∃ b off, (0 < l.length → A = some ⟨b, off, none⟩) ∧ ∀ i, i < l.length → w.cell? ⟨b, off + i * 2, none⟩ = some (.int .i64 (Pc.qat l i).num) ∧ w.cell? ⟨b, off + i * 2 + 1, none⟩ = some (.int .i64 ((Pc.qat l i).den : Int)) := by
      by_cases h0 : 0 < l.length
      · obtain ⟨b, off, e, hc⟩ := h h0
        exact ⟨b, off, fun _ => e, hc⟩
      · exact ⟨0, 0, fun k => absurd k h0, fun i hi => absurd hi (by omega)⟩
    have HC := Lib.hid hc
    have HA := Lib.hid hA
    have HF := Lib.hid (show ∀ i, i < l.length → Pc.Fit (Pc.qat l i) from fun i hi => by rw [Pc.qat_lt hi]; exact hf _ (List.getElem_mem hi))
    have HP := Lib.hid (fun k => Pc.pairs_at k l)
    have HN := Lib.hid (Pc.pairs_len _ l (Nat.le_refl _))
    obtain ⟨i0, hi0, hz0, hz1, hz2⟩ := info_parts spanInfo
    have HI := Lib.hid hi0
    have HI2 := Lib.hid hz0
    have HI3 := Lib.hid hz1
    have HI4 := Lib.hid hz2
    clear h hc hA hf hi0 hz0 hz1 hz2
    obtain ⟨m, hm'⟩ : ∃ m, l.length / 2 = m := ⟨_, rfl⟩
    rw [hm'] at hd hg hm HN
    have hml : 2 * m ≤ l.length := by omega
    have HM := Lib.hid hm'
    clear hm'
    go_enter Try.func55, Try.ntmps55
    go_upto_region 5 with (at_make; go_loud (refine wpList_make_own _ rfl _ _ _ rfl w.heap.size 25 i0 _ 4 Try.underlying27 HI.out HI2.out HI3.out _ _ _ m (by rfl) (by rfl) (by omega) (by rw [HI4.out]; omega) (by unfold maxLen; omega) (Nat.le_refl _) ?_); intro w1 hown hg')
    refine at_worldQ (fun v => Acc w w.heap.size 25 4 (.slice (some ⟨w.heap.size, 0, none⟩) 0 m) 0 [] v) ⟨(Below.refl _ _).grown hg' (Nat.le_refl _) (fun j e => (by cases e)), hg'.size, hown⟩ (fun V hS => ?_)
    clear hown hg'
    generalize (Value.slice (some ⟨w.heap.size, 0, none⟩) 0 m) = v0 at *
    go_wp2_with fail
    go_loopw [5, 6, 15] (fun v _ i W => ∃ k : Nat, k ≤ m ∧ i = .int .i64 k ∧ Acc w w.heap.size 25 4 v ((Pc.pairs l).take k).length (Pc.cells4 ((Pc.pairs l).take k)) W) (fun _ _ i _ => m - (intOf i).toNat)
    case atStart => exact ⟨0, Nat.zero_le _, rfl, hS⟩
    case round =>
      clear hS
      obtain ⟨k, hk, rfl, hR⟩ := hrel
      by_cases hlt : k < m
      · have hA' := HA.out (by omega)
        subst hA'
        obtain ⟨p, hp⟩ : ∃ p, Pc.qat l (2 * k) = p := ⟨_, rfl⟩
        obtain ⟨q, hq⟩ : ∃ q, Pc.qat l (2 * k + 1) = q := ⟨_, rfl⟩
        have c0 := keepC hR.bb (HC.out (2 * k) (by omega)).1
        have c1 := keepC hR.bb (HC.out (2 * k) (by omega)).2
        have c2 := keepC hR.bb (HC.out (2 * k + 1) (by omega)).1
        have c3 := keepC hR.bb (HC.out (2 * k + 1) (by omega)).2
        rw [hp] at c0 c1
        rw [hq] at c2 c3
        have a1 : IntKind.i64.wrap (2 * (k : Int)) = 2 * (k : Int) := IntWalk.i64_in _ (by omega)
        have a2 : IntKind.i64.wrap (2 * (k : Int) + 1) = 2 * (k : Int) + 1 := IntWalk.i64_in _ (by omega)
        have a3 : (0 : Int) ≤ 2 * (k : Int) := by omega
        have a4 : 2 * (k : Int) < (l.length : Int) := by omega
        have a5 : (0 : Int) ≤ 2 * (k : Int) + 1 := by omega
        have a6 : 2 * (k : Int) + 1 < (l.length : Int) := by omega
        have a7 : (2 * (k : Int)).toNat = 2 * k := by omega
        have a8 : (2 * (k : Int) + 1).toNat = 2 * k + 1 := by omega
        have HT := Lib.hid (show (Pc.pairs l).take (k + 1) = (Pc.pairs l).take k ++ [(p, q)] by rw [Pc.take_snoc (Pc.pairs l) (0, 0) (by rw [HN.out]; exact hlt), ← hp, ← hq, ← HP.out k (by rw [HM.out]; exact hlt)]; rfl)
        have htk : ((Pc.pairs l).take k).length ≤ 60 := by rw [List.length_take]; omega
        generalize (Pc.pairs l).take k = T at *
        clear hp hq
        have hO := hR.row
        generalize hE' : T.length = nE at *
        have hE := Lib.hid hE'
        clear hE'
        have hB := hR.hB
        go_upto_region 8 with fail
        go_region_law ((refine step_append_lies _ (by rfl) _ _ _ (by rfl) w.heap.size 25 i0 _ 4 32 Try.underlying27 HI.out HI2.out HI3.out HI4.out rfl (by omega) _ nE (Pc.cells4 T) (by rfl) (World.ownsRow.alloc (World.ownsRow.drew hR.row) _) ⟨wr.heap.size, 0, none⟩ 1 1 [.int .i64 p.num, .int .i64 (p.den : Int), .int .i64 q.num, .int .i64 (q.den : Int)] (by rfl) (by rfl) (World.news_of_block (cs := #[.int .i64 p.num, .int .i64 (p.den : Int), .int .i64 q.num, .int .i64 (q.den : Int)]) (t := 25) (fr := (0, 0)) (heap_alloc_new wr.drew _)) (by simp [Value.oneCell']) (by omega) (by unfold maxLen; omega) (by omega) (by simp; omega) (wr.heap.size + 1) (by simp) ?_; intro g cap w1 hown1 hgrow hat hlt))
        all_goals
          (try go_wp2_with fail)
          have hnew := hR.app (((Below.refl _ wr).drew).alloc (Nat.le_refl _) _) hown1 hgrow
          go_roundw
          case rel =>
            refine ⟨k + 1, by omega, by go_num, ?_⟩
            rw [HT.out, Pc.cells4_app, List.length_append, hE.out]
            exact hnew
          case measure => simp [intOf]; omega
      · obtain rfl : k = m := by omega
        rw [List.take_of_length_le (by rw [HN.out]; exact Nat.le_refl _)] at hR
        clear HA HC HF HP
        go_wp2_with fail
        go_ret2
        exact ⟨_, rfl, hR⟩
end Go.Proofs.Ytnnpmegknlgkoaa
