/- slices.Clone at ints; package cake's intervals. -/
import Derived.Test.YtomokdepndclpaaPartm
import Derived.Test.YtomokdepndclpaaOwn
import Derived.Lib.SliceRun
namespace Go.Proofs.Ytomokdepndclpaa
open Go.RowKit

theorem Own.cell {w : World} {B g n cap : Nat} {xs : List Int} (h : Own w B (.slice (some ⟨g, 0, none⟩) n cap) xs) (j : Nat) (hj : j < xs.length) : w.cell? ⟨g, j, none⟩ = some (.int .i64 (Ck.at_ xs j)) := by
  have hn : n = xs.length := by
    rcases h.2 with ⟨h', _⟩ | ⟨g', cap', cur, h', _⟩
    · simp at h'
    · simp only [Value.slice.injEq] at h'
      exact h'.2.1
  subst hn
  rw [World.ownsRow.cellAt h j (by omega), List.getElem?_map, List.getElem?_eq_getElem hj, Ck.at_lt hj]
  rfl

set_option maxHeartbeats 1000000 in
set_option maxRecDepth 100000 in
theorem clone_any (b off n c : Nat) (xs : List Int) (w : World) (hn : xs.length = n) (h0 : 0 < n) (h1 : n ≤ 1000) (hc : ∀ i, i < xs.length → w.cell? ⟨b, off + i, none⟩ = some (.int .i64 (Ck.at_ xs i))) :
    Calls Try.prog 80 #[.slice (some ⟨b, off, none⟩) n c] w fun e w' => ∃ v, e = .returned v ∧ Own w' w.heap.size v xs ∧ Below w.heap.size w w' := by
  have q : ∀ (w : World) (a : Option Addr) (n c n' c' : Nat), (binOp .eql 25 (.slice a n c) (.slice none n' c')).run Try.prog w = .ok (.bool a.isNone) w := fun w a n c n' c' => Lib.run_eql_slice_nil w _ _ a n c n' c' Try.underlying25
  obtain ⟨i0, hi0, hz0, hz1, hz2⟩ := info_parts intInfo
  have HC := Lib.hid (fun j u (hj : (xs.map (Value.int .i64))[j]? = some u) => (show (w.alloc (.cells #[] 3)).cell? ((⟨b, off, none⟩ : Addr).add j) = some u by
    rw [List.getElem?_map, Option.map_eq_some_iff] at hj
    obtain ⟨x, hx, rfl⟩ := hj
    obtain ⟨hj1, hj2⟩ := List.getElem?_eq_some_iff.1 hx
    rw [Addr.add_lit]
    have := cell_alloc (hc j hj1) (.cells #[] 3)
    rw [Ck.at_lt hj1, hj2] at this
    exact this))
  clear hc
  go_enter Try.func80, Try.ntmps80
  go_wp2_with (at_builtin; refine wpList_append_lies _ rfl _ _ _ rfl w.heap.size 3 i0 _ 1 8 Try.underlying25 hi0 hz0 hz1 hz2 rfl (by omega) (.slice (some ⟨w.heap.size, 0, none⟩) 0 0) 0 [] (by rfl) (World.ownsRow_lit w #[] 0 (Nat.le_refl _) (by decide) rfl) ⟨b, off, none⟩ n c (xs.map (Value.int .i64)) (by rfl) (by simp [hn]) HC.out (by simp [Value.oneCell']) h0 (by unfold maxLen; omega) (by omega) (by simp) (w.heap.size + 1) (by simp) ?_; intro g cap w1 hown1 hgrow hat hlt)
  go_ret
  refine ⟨_, rfl, ?_, ((Below.refl _ _).alloc (Nat.le_refl _) _).grown hgrow (by simp) (fun k e => by
    have : w.heap.size = k := by simpa [Value.ownBlock] using e
    omega)⟩
  rw [Nat.zero_add, List.nil_append] at hown1
  subst hn
  exact hown1

set_option maxHeartbeats 2000000 in
set_option maxRecDepth 100000 in
theorem intervals_any (len : Int) (K : Option Addr) (cuts : List Int) (ck : Nat) (Z : Option Addr) (dens : List Int) (cz : Nat) (a b : Int) (w : World) (h : IsCake w len K cuts Z dens) (hG : Ck.Good len cuts dens) (h0 : 0 ≤ a) (h1 : a < b) (h2 : b ≤ len) :
    Calls Try.prog 79 #[.agg #[.int .i64 len, .slice K cuts.length ck, .slice Z dens.length cz], .int .i64 a, .int .i64 b] w fun e w' => ∃ f g : Nat, e = .returned (.tuple #[.int .i64 f, .int .i64 g]) ∧ Ck.Cut cuts dens a b f g ∧ Below w.heap.size w w' := by
  obtain ⟨⟨l0, l1⟩, _, iK, iZ⟩ := h
  obtain ⟨bk, ok, rfl, hk⟩ := iK.1 (by have := hG.shape; omega)
  obtain ⟨bz, oz, rfl, hz⟩ := iZ.1 (by have := hG.shape; omega)
  obtain ⟨m, hm⟩ : ∃ m, dens.length = m := ⟨_, rfl⟩
  have hsh := hG.shape
  have hn : cuts.length = m + 1 := by omega
  have hmm : m ≤ 39 := by omega
  have hm1 : 1 ≤ m := by omega
  have hl1 := hG.len1
  have QK := Lib.hid iK.bd
  have HLast := Lib.hid (show Ck.at_ cuts m = len by rw [← hm]; exact hG.last)
  have HFirst := Lib.hid hG.first
  have HM := Lib.hid hm
  rw [hn] at hk
  rw [hm, hn]
  have HK := Lib.hid hk
  clear hk hz iK iZ hG hsh hm hn
  go_enter Try.func79, Try.ntmps79
  go_upto_region 1 with fail
  refine at_worldQ (fun v => Below w.heap.size w v ∧ v.cell? ⟨w.heap.size, 0, none⟩ = some (.int .i64 len) ∧ v.cell? ⟨w.heap.size, 1, none⟩ = some (.slice (some ⟨bk, ok, none⟩) (m + 1) ck) ∧ v.cell? ⟨w.heap.size, 2, none⟩ = some (.slice (some ⟨bz, oz, none⟩) m cz)) ⟨(Below.refl _ _).alloc (Nat.le_refl _) _, n30 _ _ _ _ _, n31 _ _ _ _ _, n32 _ _ _ _ _⟩ (fun V hS => ?_)
  obtain ⟨hbb, y0, y1, y2⟩ := hS
  have HKV := Lib.hid (fun k hk => keepC hbb (HK.out k hk))
  go_loop [6] (fun i => ∃ f : Nat, f < m ∧ i = .int .i64 f ∧ Hid (∀ j, j < f → Ck.at_ cuts (j + 1) ≤ a)) (fun i => m - (intOf i).toNat)
  case atStart => exact ⟨0, by omega, rfl, fun j hj => absurd hj (by omega)⟩
  case round =>
    obtain ⟨f, hf, rfl, HF⟩ := hrel
    have cx := HKV.out (f + 1) (by omega)
    have q1 := QK.out (f + 1)
    unfold I64 at q1
    have a1 : (0 : Int) ≤ (f : Int) + 1 := by omega
    have a2 : ((f : Int) + 1).toNat = f + 1 := by omega
    have a3 : (f : Int) + 1 < (m : Int) + 1 := by omega
    by_cases hc : Ck.at_ cuts (f + 1) ≤ a
    · have d1 : decide (Ck.at_ cuts (f + 1) ≤ a) = true := decide_eq_true hc
      have hf1 : f + 1 < m := by
        rcases Nat.lt_or_ge (f + 1) m with g | g
        · exact g
        · exfalso
          rw [show f + 1 = m by omega, HLast.out] at hc
          omega
      have HS := Lib.hid (fun j (hj : j < f + 1) => (show Ck.at_ cuts (j + 1) ≤ a by
        rcases Nat.lt_or_ge j f with g | g
        · exact HF.out j g
        · obtain rfl : j = f := by omega
          exact hc))
      clear HF hc HK HKV QK HLast HFirst HM
      generalize Ck.at_ cuts (f + 1) = x at *
      go_wp2_with fail
      refine ⟨⟨f + 1, hf1, by go_num, HS⟩, ?_⟩
      simp only [intOf]
      omega
    · have d1 : decide (Ck.at_ cuts (f + 1) ≤ a) = false := decide_eq_false hc
      have HHi := Lib.hid (show a < Ck.at_ cuts (f + 1) by omega)
      clear hc
      generalize Ck.at_ cuts (f + 1) = x at cx q1 d1
      go_wp2_with fail
      clear cx q1 d1
      go_loop [7] (fun i => ∃ g : Nat, f ≤ g ∧ g ≤ m ∧ i = .int .i64 g ∧ Hid (∀ j, f ≤ j → j < g → Ck.at_ cuts j < b)) (fun i => m - (intOf i).toNat)
      case atStart => exact ⟨f, Nat.le_refl _, by omega, rfl, fun j h1 h2 => absurd h2 (by omega)⟩
      case round =>
        obtain ⟨g, hfg, hgm, rfl, HI⟩ := hrel
        have HCut := Lib.hid (fun (ho : g = dens.length ∨ b ≤ Ck.at_ cuts g) => (show Ck.Cut cuts dens a b f g from by
          have hm' := HM.out
          refine ⟨?_, by omega, HF.out, HHi.out, HI.out, ho⟩
          rcases Nat.lt_or_ge f g with e | e
          · exact e
          · exfalso
            obtain rfl : g = f := by omega
            have hle : Ck.at_ cuts g ≤ a := by
              rcases g with _ | g
              · rw [HFirst.out]; exact h0
              · exact HF.out g (by omega)
            rcases ho with e | e <;> omega))
        by_cases hlt : g < m
        · have cx := HKV.out g (by omega)
          have q1 := QK.out g
          unfold I64 at q1
          by_cases hc : Ck.at_ cuts g < b
          · have d1 : decide (Ck.at_ cuts g < b) = true := decide_eq_true hc
            have HS := Lib.hid (fun j (h1 : f ≤ j) (hj : j < g + 1) => (show Ck.at_ cuts j < b by
              rcases Nat.lt_or_ge j g with g' | g'
              · exact HI.out j h1 g'
              · obtain rfl : j = g := by omega
                exact hc))
            clear HF hc HK HKV QK HLast HFirst HM HI HHi HCut
            generalize Ck.at_ cuts g = x at *
            go_wp2_with fail
            refine ⟨⟨g + 1, by omega, by omega, by go_num, HS⟩, ?_⟩
            simp only [intOf]
            omega
          · have d1 : decide (Ck.at_ cuts g < b) = false := decide_eq_false hc
            have HC := Lib.hid (HCut.out (.inr (by omega)))
            clear HF hc HK HKV QK HLast HFirst HM HI HHi HCut
            generalize Ck.at_ cuts g = x at cx q1 d1
            go_wp2_with fail
            go_ret2
            exact ⟨f, g, rfl, HC.out, hbb⟩
        · have HC := Lib.hid (HCut.out (.inl (by have := HM.out; omega)))
          clear HF HK HKV QK HLast HFirst HM HI HHi HCut
          go_wp2_with fail
          go_ret2
          exact ⟨f, g, rfl, HC.out, hbb⟩
end Go.Proofs.Ytomokdepndclpaa
