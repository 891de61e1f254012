/- Package trim: everybody; rounds. -/
import Derived.Test.YtpcdggkajindbaaGreatTrd
namespace Go.Proofs.YtpcdggkajindbaaGreat
open Go.RowKit
theorem bk_rown {w : World} {B n : Nat} {e : TypeId} {v : Value} {xs : List Value} (h : w.ownsRow B e 1 v n xs) (hn : 0 < n) : ∃ g cap, v = .slice (some ⟨g, 0, none⟩) n cap ∧ B ≤ g ∧ n ≤ cap ∧ BK w g xs := by
  rcases h.2 with ⟨_, h0⟩ | ⟨g, cap, cur, hv, hb, hg, hc, _, hs, ht⟩
  · omega
  · have hlt : g < w.heap.size := (Array.getElem?_eq_some_iff.1 hg).1
    refine ⟨g, cap, hv, hb, hc, hlt, fun j x ej => ?_⟩
    rw [← ht] at ej
    have hj : cur[j]? = some x := by
      rw [List.getElem?_take] at ej
      split at ej
      · simpa using ej
      · cases ej
    constructor
    · simp [World.cell?, hg, hj]
    · simp [World.frozen?, hg]
/-- The numbers of the first agents. -/
def Ch.rng (k : Nat) : List Int := (List.range k).map fun (j : Nat) => (j : Int)
theorem Ch.rng_len (k : Nat) : (Ch.rng k).length = k := by unfold Ch.rng; simp
theorem Ch.rng_succ (k : Nat) : Ch.rng (k + 1) = Ch.rng k ++ [(k : Int)] := by unfold Ch.rng; rw [List.range_succ, List.map_append]; rfl
set_option linter.unusedSimpArgs false in
set_option maxHeartbeats 8000000 in
set_option maxRecDepth 100000 in
theorem tmevery_any (A : Option Addr) (n ca : Nat) (Q : Option Addr) (m cq : Nat) (w : World) (h1 : 1 ≤ n) (h6 : n ≤ 6) :
    Calls Tryz.prog 66 #[.agg #[.slice A n ca, .slice Q m cq]] w fun e w' => ∃ g cap : Nat, e = .returned (.slice (some ⟨g, 0, none⟩) n cap) ∧ w.heap.size ≤ g ∧ n ≤ cap ∧ BK w' g ((Ch.rng n).map (Value.int .i64)) ∧ Below w.heap.size w w' := by
  obtain ⟨i0, hi0, hz0, hz1, hz2⟩ := info_parts intInfo
  have HI := Lib.hid hi0
  have HI2 := Lib.hid hz0
  have HI3 := Lib.hid hz1
  have HI4 := Lib.hid hz2
  clear hi0 hz0 hz1 hz2
  go_enter Tryz.func66, Tryz.ntmps66
  go_upto_region 1 with fail
  refine at_worldQ (fun v => Below w.heap.size w v ∧ BK v (w.heap.size) [.slice A n ca, .slice Q m cq] ∧ v.heap.size = w.heap.size + 1) ⟨(below_al (Below.refl _ _) _), (by have b := (BK.new w [.slice A n ca, .slice Q m cq] 65); simpa only [World.size_alloc] using b), by simp only [World.size_alloc]⟩ (fun V hS => ?_)
  obtain ⟨hbb, B0, hVs⟩ := hS
  have p0 := B0.c 0 rfl
  go_wp2_with fail
  clear p0
  go_loopw [3, 8] (fun s i W => ∃ k : Nat, k ≤ n ∧ i = .int .i64 k ∧ Own W (w.heap.size + 1) s (Ch.rng k) ∧ Below w.heap.size w W ∧ w.heap.size + 1 ≤ W.heap.size) (fun _ i _ => n - (intOf i).toNat)
  case atStart => exact ⟨0, Nat.zero_le _, rfl, Own.nil_ _ _, hbb, by omega⟩
  case round =>
    clear hbb B0 hVs
    obtain ⟨k, hk, rfl, hO, hbb, hws⟩ := hrel
    by_cases hlt : k < n
    · have i2 : (k : Int) < (n : Int) := by omega
      have HT := Lib.hid (Ch.rng_succ k)
      have HL := Lib.hid (Ch.rng_len k)
      obtain ⟨T, hT⟩ : ∃ T, Ch.rng k = T := ⟨_, rfl⟩
      rw [hT] at hO
      have HT2 := Lib.hid hT
      have hnT : T.length = k := by rw [← hT]; exact Ch.rng_len k
      obtain ⟨nE, hE'⟩ : ∃ z, T.length = z := ⟨_, rfl⟩
      have hE := Lib.hid hE'
      have hk6 : nE ≤ 6 := by omega
      unfold Own at hO
      rw [hE'] at hO
      clear hT hnT hE'
      go_wp2_with (at_builtin; refine wpList_append_lies _ rfl _ _ _ rfl (w.heap.size + 1) 3 i0 _ 1 8 Tryz.underlying46 HI.out HI2.out HI3.out HI4.out rfl (by omega) _ nE (T.map (Value.int .i64)) (by rfl) (World.ownsRow.alloc hO _) ⟨wr.heap.size, 0, none⟩ 1 1 [.int .i64 (k : Int)] (by rfl) (by rfl) (World.news_of_block (cs := #[.int .i64 (k : Int)]) (t := 3) (fr := (0, 0)) (heap_alloc_new wr _)) (by simp [Value.oneCell']) (by omega) (by unfold maxLen; omega) (by omega) (by simp; omega) (wr.heap.size + 1) (by simp) ?_; intro g cap w1 hown1 hgrow hat hglt)
      all_goals
        (try go_wp2_with fail)
        go_roundw
        case rel =>
          refine ⟨k + 1, by omega, by go_num, ?_, ?_, ?_⟩
          · rw [HT.out, HT2.out]
            unfold Own
            rw [List.length_append, hE.out, List.map_append]
            exact hown1
          · exact (below_al hbb _).grown hgrow (by simp; omega) (fun j ej => by
              have := (World.ownsRow.lt hO j ej).1
              omega)
          · have := hgrow.size
            simp at this
            omega
        case measure => (simp [intOf] <;> omega)
    · obtain rfl : k = n := by omega
      unfold Own at hO
      rw [Ch.rng_len] at hO
      obtain ⟨g, cap, rfl, hg, hcap, hB⟩ := bk_rown hO (by omega)
      have i2 : ¬ (k : Int) < (k : Int) := by omega
      have HB := Lib.hid hB
      clear hO hB HI HI2 HI3 HI4
      go_wp2_with fail
      go_ret
      exact ⟨g, cap, rfl, by omega, hcap, HB.out, hbb⟩
theorem tmrounds_any (A : Option Addr) (n ca : Nat) (Q : Option Addr) (m cq : Nat) (w : World) :
    Calls Tryz.prog 42 #[.agg #[.slice A n ca, .slice Q m cq]] w fun e w' => e = .returned (.func (.func 64) #[] #[.pointer (some ⟨w.heap.size, 0, none⟩)]) ∧ BK w' w.heap.size [.slice A n ca, .slice Q m cq] ∧ Below w.heap.size w w' := by
  go_enter Tryz.func42, Tryz.ntmps42
  go_wp2_with fail
  go_ret
  exact ⟨rfl, BK.new w [.slice A n ca, .slice Q m cq] 65, below_al (Below.refl _ _) _⟩
end Go.Proofs.YtpcdggkajindbaaGreat

