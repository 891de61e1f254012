/- Package goods: bundle; slices.Clone of ints. -/
import Derived.Test.YtfpaefnaidppmaaGdl
import Derived.Deep.Onto
namespace Go.Proofs.Ytfpaefnaidppmaa
open Go.RowKit
namespace As
/-- The values of the goods below m that the agent k gets. -/
def bnl (r a : List Int) (k m : Nat) : List Int := ((List.range m).filter fun g => decide (el a g = (k : Int))).map (el r)
theorem bnl_succ (r a : List Int) (k m : Nat) : bnl r a k (m + 1) = bnl r a k m ++ if el a m = (k : Int) then [el r m] else [] := by
  unfold bnl
  rw [List.range_succ, List.filter_append, List.map_append]
  congr 1
  by_cases h : el a m = (k : Int)
  · rw [if_pos h]; simp [h]
  · rw [if_neg h]; simp [h]
theorem bnl_le (r a : List Int) (k m : Nat) : (bnl r a k m).length ≤ m := by
  unfold bnl
  rw [List.length_map]
  exact Nat.le_trans (List.length_filter_le _ _) (by simp)
theorem bnl_mem {r a : List Int} {k m : Nat} {x : Int} (h : x ∈ bnl r a k m) : ∃ g, g < m ∧ x = el r g := by
  unfold bnl at h
  obtain ⟨g, hg, rfl⟩ := List.mem_map.1 h
  exact ⟨g, List.mem_range.1 (List.mem_filter.1 hg).1, rfl⟩
theorem sm_el_app (xs : List Int) (x : Int) : sm (el (xs ++ [x])) (List.range (xs.length + 1)) = sm (el xs) (List.range xs.length) + x := by
  rw [sm_succ]
  congr 1
  · refine sm_congr fun j hj => ?_
    have hj2 : j < xs.length := List.mem_range.1 hj
    rw [el_lt (by simp; omega), el_lt hj2, List.getElem_append_left hj2]
  · rw [el_lt (by simp), List.getElem_append_right (Nat.le_refl _)]; simp
theorem bnl_sum (r a : List Int) (k : Nat) : ∀ m, sm (el (bnl r a k m)) (List.range (bnl r a k m).length) = sm (fun g => if el a g = (k : Int) then el r g else 0) (List.range m)
  | 0 => rfl
  | m + 1 => by
    rw [sm_succ, ← bnl_sum r a k m, bnl_succ]
    by_cases h : el a m = (k : Int)
    · rw [if_pos h, if_pos h, List.length_append]
      exact sm_el_app _ _
    · rw [if_neg h, if_neg h, List.append_nil, Int.add_zero]
theorem bnl_bw (V : List (List Int)) (a : List Int) (i k : Nat) : sm (el (bnl (V.getD i []) a k a.length)) (List.range (bnl (V.getD i []) a k a.length).length) = bw V a i k := bnl_sum _ _ _ _
end As
/-- What bundle gives. -/
def BdQ (r a : List Int) (k : Nat) (w : World) (e : Ending) (w' : World) : Prop := ∃ X c, e = .returned (.slice X (As.bnl r a k a.length).length c) ∧ IsI w' X (As.bnl r a k a.length) ∧ Below w.heap.size w w'
set_option maxRecDepth 100000 in
set_option maxHeartbeats 4000000 in
theorem gBundle_any (R : Option Addr) (cr : Nat) (r : List Int) (B : Option Addr) (ca : Nat) (a : List Int) (k : Nat) (w : World) (hr : r.length = a.length) (ha : a.length ≤ 100) (hR : IsI w R r) (hB : IsI w B a) :
    Calls Try.prog 35 #[.slice R r.length cr, .slice B a.length ca, .int .i64 k] w (BdQ r a k w) := by
  obtain ⟨i0, hi0, hz0, hz1, hz2⟩ := info_parts intInfo
  have HI := Lib.hid hi0
  have HI2 := Lib.hid hz0
  have HI3 := Lib.hid hz1
  have HI4 := Lib.hid hz2
  have HR := Lib.hid hR
  have HB := Lib.hid hB
  have HBD := Lib.hid (show ∀ x ∈ As.bnl r a k a.length, I64 x from fun x hx => by
    obtain ⟨g, hg, rfl⟩ := As.bnl_mem hx
    exact hR.bd g)
  obtain ⟨n, hn⟩ : ∃ n, a.length = n := ⟨_, rfl⟩
  have HN := Lib.hid hn
  have HNR := Lib.hid (hr.trans hn)
  have HF := Lib.hid (show ∀ X c w', Own w' w.heap.size (.slice X (As.bnl r a k n).length c) (As.bnl r a k n) → Below w.heap.size w w' → BdQ r a k w (.returned (.slice X (As.bnl r a k n).length c)) w' from fun X c w' hO hb => by
    unfold BdQ
    rw [hn]
    exact ⟨X, c, rfl, hO.isI (fun x hx => HBD.out x (by rw [hn]; exact hx)), hb⟩)
  rw [hr, hn]
  rw [hn] at ha
  clear hR hB hr hn hi0 hz0 hz1 hz2
  go_enter Try.func35, Try.ntmps35
  go_wp2_with fail
  go_loopw [7, 12] (fun v i W => ∃ g : Nat, g ≤ n ∧ i = .int .i64 g ∧ Hid (Below w.heap.size w W) ∧ Hid (Own W w.heap.size v (As.bnl r a k g))) (fun _ i _ => n - (intOf i).toNat)
  case atStart => exact ⟨0, Nat.zero_le _, rfl, Lib.hid (Below.refl _ _), Lib.hid (Own.nil_ _ _)⟩
  case round =>
    obtain ⟨g, hg, rfl, HW, HO⟩ := hrel
    by_cases hlt : g < n
    · obtain ⟨bb, bo, rfl, hcs⟩ := HB.out.1 (by rw [HN.out]; omega)
      obtain ⟨rb, ro, rfl, hcr⟩ := HR.out.1 (by rw [HNR.out]; omega)
      have x0 := keepC HW.out (hcs g (by rw [HN.out]; exact hlt))
      have x1 := keepC HW.out (hcr g (by rw [HNR.out]; exact hlt))
      have HS := Lib.hid (As.bnl_succ r a k g)
      have hle := As.bnl_le r a k g
      have ho := HO.out
      obtain ⟨L, hL⟩ : ∃ L, As.bnl r a k g = L := ⟨_, rfl⟩
      unfold Own at ho
      rw [hL] at ho hle
      have HL := Lib.hid hL
      obtain ⟨nl, hnl⟩ : ∃ nl, L.length = nl := ⟨_, rfl⟩
      rw [hnl] at ho hle
      have HNL := Lib.hid hnl
      clear hcs hcr hL hnl
      by_cases hh : As.el a g = (k : Int)
      · have d1 : (As.el a g == (k : Int)) = true := by simpa using hh
        have HHH := Lib.hid hh
        generalize As.el r g = x at *
        generalize As.el a g = y at *
        have hsz := HW.out.size
        go_wp2_with (at_builtin; go_loud (refine wpList_append_lies _ rfl _ _ _ rfl w.heap.size 3 i0 _ 1 8 Try.underlying25 HI.out HI2.out HI3.out HI4.out rfl (by omega) _ nl (L.map (Value.int .i64)) (by rfl) (World.ownsRow.alloc ho _) ⟨wr.heap.size, 0, none⟩ 1 1 [.int .i64 x] (by rfl) (by rfl) (World.news_of_block (cs := #[.int .i64 x]) (t := 3) (fr := (0, 0)) (heap_alloc_new wr _)) (by simp [Value.oneCell']) (by omega) (by unfold maxLen; omega) (by omega) (by simp; omega) (wr.heap.size + 1) (by simp) ?_; intro gg cap w6 hown1 hgrow hat hglt))
        have hw6 := own_app rfl HW.out (fun b hb => (World.ownsRow.lt ho b hb).1) hgrow
        go_roundw
        case rel => exact ⟨g + 1, by omega, by go_num, Lib.hid hw6, Lib.hid (by
          unfold Own
          rw [HS.out, if_pos HHH.out, HL.out, List.length_append, HNL.out, List.map_append]
          exact hown1)⟩
        case measure => simp [intOf]; omega
      · have d1 : (As.el a g == (k : Int)) = false := by simpa using hh
        have HN2 := Lib.hid (show As.bnl r a k (g + 1) = As.bnl r a k g by rw [HS.out, if_neg hh, List.append_nil])
        clear hh
        generalize As.el a g = y at *
        go_wp2_with fail
        go_roundw
        case rel => exact ⟨g + 1, by omega, by go_num, HW, Lib.hid (by rw [HN2.out]; exact HO.out)⟩
        case measure => simp [intOf]; omega
    · obtain rfl : g = n := by omega
      obtain ⟨X, cc, rfl⟩ := HO.out.form
      have HFF := Lib.hid (HF.out X cc wr HO.out HW.out)
      go_wp2_with fail
      go_ret
      exact HFF.out
/-- What Clone gives. -/
def ClQ (xs : List Int) (w : World) (e : Ending) (w' : World) : Prop := ∃ X c, e = .returned (.slice X xs.length c) ∧ (0 < xs.length → ∃ g, X = some ⟨g, 0, none⟩ ∧ w.heap.size ≤ g ∧ BF w' g xs.length (As.el xs)) ∧ Below w.heap.size w w'
set_option linter.unusedSimpArgs false in
set_option maxHeartbeats 2000000 in
theorem gClone_any (A : Option Addr) (cap : Nat) (xs : List Int) (w : World) (hn : xs.length ≤ 100) (h : IsI w A xs) :
    Calls Try.prog 41 #[.slice A xs.length cap] w (ClQ xs w) := by
  have q : ∀ (w : World) (a : Option Addr) (n c n' c' : Nat), (binOp .eql 25 (.slice a n c) (.slice none n' c')).run Try.prog w = .ok (.bool a.isNone) w := fun w a n c n' c' => Lib.run_eql_slice_nil w _ _ a n c n' c' Try.underlying25
  by_cases h0 : 0 < xs.length
  · obtain ⟨b, off, rfl, hc⟩ := h.1 h0
    obtain ⟨i0, hi0, hz0, hz1, hz2⟩ := info_parts intInfo
    have HF := Lib.hid (show ∀ g c w', w.heap.size ≤ g → BK w' g ((List.range xs.length).map fun i => Value.int .i64 (As.el xs i)) → Below w.heap.size w w' → ClQ xs w (.returned (.slice (some ⟨g, 0, none⟩) xs.length c)) w' from fun g c w' h1 h2 h3 => ⟨_, _, rfl, fun _ => ⟨g, rfl, h1, h2⟩, h3⟩)
    have HL := Lib.hid (show ((List.range xs.length).map fun i => Value.int .i64 (As.el xs i)).length = xs.length * 1 by simp)
    have HC := Lib.hid (show ∀ (j : Nat) (u : Value), ((List.range xs.length).map fun i => Value.int .i64 (As.el xs i))[j]? = some u → w.cell? ((⟨b, off, none⟩ : Addr).add j) = some u from fun j u hj => by
      obtain ⟨hj1, hj2⟩ := List.getElem?_eq_some_iff.1 hj
      simp only [List.length_map, List.length_range] at hj1
      simp only [List.getElem_map, List.getElem_range] at hj2
      rw [Addr.add_lit, ← hj2]
      exact hc j hj1)
    have H1 := Lib.hid (show ∀ u ∈ (List.range xs.length).map fun i => Value.int .i64 (As.el xs i), u.oneCell' = true from fun u hu => by
      obtain ⟨j, hj, rfl⟩ := List.mem_map.1 hu
      rfl)
    have HI := Lib.hid hi0
    have HI2 := Lib.hid hz0
    have HI3 := Lib.hid hz1
    have HI4 := Lib.hid hz2
    generalize hrs : ((List.range xs.length).map fun i => Value.int .i64 (As.el xs i)) = rs at *
    generalize xs.length = n at *
    clear hc hi0 hz0 hz1 hz2 h hrs
    go_enter Try.func41, Try.ntmps41
    go_wp2_with (at_builtin; go_loud (refine wpList_append_lies _ rfl _ _ _ rfl w.heap.size 3 i0 _ 1 8 Try.underlying25 HI.out HI2.out HI3.out HI4.out rfl (by omega) (.slice (some ⟨w.heap.size, 0, none⟩) 0 0) 0 [] (by rfl) (World.ownsRow_lit w #[] 0 (Nat.le_refl _) (by decide) rfl) ⟨b, off, none⟩ n cap rs (by rfl) HL.out (fun j u hj => (below_al (Below.refl _ _) _ : Below w.heap.size w (w.alloc _)).cell (p := (⟨b, off, none⟩ : Addr).add j) (World.block_lt_of_cell? w _ (HC.out j u hj)) |>.trans (HC.out j u hj)) H1.out h0 (by unfold maxLen; omega) (by omega) (by simp) (w.heap.size + 1) (by simp) ?_; intro g c w1 hown1 hgrow hat hlt))
    rw [Nat.zero_add, List.nil_append] at hown1
    obtain ⟨g', cap', hv, hg', _, hbk⟩ := own_block hown1 h0
    simp only [Value.slice.injEq, Option.some.injEq, Addr.mk.injEq] at hv
    obtain ⟨⟨rfl, -, -⟩, -, rfl⟩ := hv
    have hb : Below w.heap.size w w1 := ((Below.refl _ _).alloc (Nat.le_refl _) _).grown hgrow (by simp) (fun k e => by
      have : w.heap.size = k := by simpa [Value.ownBlock] using e
      omega)
    exact bodyPost_ret (v := .slice (some ⟨g, 0, none⟩) n c) (by simp [results, Try.results41, go_sem]) rfl (HF.out g c w1 hg' hbk hb)
  · have e0 : xs.length = 0 := by omega
    have HF := Lib.hid (show ∀ X c w', Below w.heap.size w w' → ClQ xs w (.returned (.slice X 0 c)) w' from fun X c w' hb => ⟨X, c, by rw [e0], fun h => absurd h h0, hb⟩)
    rw [e0]
    clear h h0 hn e0
    cases A with
    | none =>
      go_enter Try.func41, Try.ntmps41
      go_wp2_with fail
      go_ret
      exact HF.out _ _ _ (Below.refl _ _)
    | some p =>
      have hrun := append_none (some p)
      go_enter Try.func41, Try.ntmps41
      go_wp2_with (at_builtin; (refine wpList_plain rfl fun K hK => ?_; unfold Oper.wp; simp [execOp, resolve, invoke, builtin, hrun, Result.andThen, Act.eval, Act.put]; refine hK _ _ ?_))
      go_ret
      exact HF.out _ _ _ (below_al (Below.refl _ _) _)
end Go.Proofs.Ytfpaefnaidppmaa
