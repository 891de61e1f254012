/- Package rent: fraction; slices.Clone of ints. -/
import Derived.Test.YtncmffhoodfhjaaRtp
import Derived.Test.YtncmffhoodfhjaaYf
import Derived.Test.YtncmffhoodfhjaaYd
namespace Go.Proofs.Ytncmffhoodfhjaa
open Go.RowKit
set_option maxRecDepth 100000 in
set_option maxHeartbeats 2000000 in
theorem rtFrac_any (c n : Int) (h1 : 1 ≤ n) (h2 : n ≤ 1000) (c0 : -100000000000000000 ≤ c) (c1 : c ≤ 100000000000000000) (w : World) :
    Calls Try.prog 64 #[.int .i64 c, .int .i64 n] w fun e w' => e = .returned (.agg #[.int .i64 (Rp.q c n).num, .int .i64 ((Rp.q c n).den : Int)]) ∧ Below w.heap.size w w' := by
  have cm := fun v => Make_any c n (by omega) (by omega) (by omega) (by omega) v
  rw [Rp.makeS_q h1 (by omega) (by omega) (by omega)] at cm
  have CM := Lib.hid cm
  generalize (Rp.q c n).num = x at *
  generalize ((Rp.q c n).den : Int) = y at *
  clear cm
  go_enter Try.func64, Try.ntmps64
  go_wp2_with fail
  refine (CM.out _).mono ?_
  rintro e w3 ⟨rfl, hb3⟩
  have b0 := (BK.new w [Value.int .i64 0, .int .i64 0] 31).keep hb3
  have hbb := keepB (below_al (Below.refl _ _) _) hb3
  have hl := b0.lt
  clear hb3
  go_upto_region 2 with fail
  refine at_worldQ (fun v => Below w.heap.size w v ∧ BK v w.heap.size [.int .i64 0, .int .i64 0] ∧ BK v w3.heap.size [.int .i64 x, .int .i64 y]) ⟨below_al hbb _, b0.al _, BK.new _ _ _⟩ (fun V hS => ?_)
  obtain ⟨hbV, b1, b2⟩ := hS
  have z0 := b2.c 0 rfl
  have z1 := b2.c 1 rfl
  have y0 := b1.c 0 rfl
  have y1 := b1.c 1 rfl
  have f0 := b1.f 0 rfl
  have f1 := b1.f 1 rfl
  clear hbb b0
  go_wp2_with fail
  have bb := (b1.set 0 (.int .i64 x)).set 1 (.int .i64 y)
  have r0 := bb.c 0 rfl
  have r1 := bb.c 1 rfl
  exact bodyPost_ret (v := .agg #[.int .i64 x, .int .i64 y]) (by simp [results, Try.results64, go_sem, r0, r1]) rfl ⟨rfl, below_set (below_set hbV (Nat.le_refl _) _) (Nat.le_refl _) _⟩
set_option linter.unusedSimpArgs false in
set_option maxHeartbeats 2000000 in
theorem cloneInts_any (b off n cap : Nat) (RV : Nat → Value) (w : World) (h0 : 0 < n) (hn : n ≤ 100) (hc : ∀ i, i < n → w.cell? ⟨b, off + i, none⟩ = some (RV i)) (h1 : ∀ i, i < n → (RV i).oneCell' = true) :
    Calls Try.prog 62 #[.slice (some ⟨b, off, none⟩) n cap] w (CloneQ n RV w) := by
  have q : ∀ (w : World) (a : Option Addr) (n c n' c' : Nat), (binOp .eql 25 (.slice a n c) (.slice none n' c')).run Try.prog w = .ok (.bool a.isNone) w := fun w a n c n' c' => Lib.run_eql_slice_nil w _ _ a n c n' c' Try.underlying25
  obtain ⟨i0, hi0, hz0, hz1, hz2⟩ := info_parts intInfo
  have HL := Lib.hid (show ((List.range n).map RV).length = n * 1 by simp)
  have HC := Lib.hid (show ∀ (j : Nat) (u : Value), ((List.range n).map RV)[j]? = some u → w.cell? ((⟨b, off, none⟩ : Addr).add j) = some u from fun j u hj => by
    obtain ⟨hj1, hj2⟩ := List.getElem?_eq_some_iff.1 hj
    simp only [List.length_map, List.length_range] at hj1
    simp only [List.getElem_map, List.getElem_range] at hj2
    rw [Addr.add_lit, ← hj2]
    exact hc j hj1)
  have H1 := Lib.hid (show ∀ u ∈ (List.range n).map RV, u.oneCell' = true from fun u hu => by
    obtain ⟨j, hj, rfl⟩ := List.mem_map.1 hu
    exact h1 j (by simpa using hj))
  have HI := Lib.hid hi0
  have HI2 := Lib.hid hz0
  have HI3 := Lib.hid hz1
  have HI4 := Lib.hid hz2
  clear hc h1 hi0 hz0 hz1 hz2
  go_enter Try.func62, Try.ntmps62
  go_wp2_with (at_builtin; go_loud (refine wpList_append_lies _ rfl _ _ _ rfl w.heap.size 3 i0 _ 1 8 Try.underlying25 HI.out HI2.out HI3.out HI4.out rfl (by omega) (.slice (some ⟨w.heap.size, 0, none⟩) 0 0) 0 [] (by rfl) (World.ownsRow_lit w #[] 0 (Nat.le_refl _) (by decide) rfl) ⟨b, off, none⟩ n cap ((List.range n).map RV) (by rfl) HL.out (fun j u hj => (below_al (Below.refl _ _) _ : Below w.heap.size w (w.alloc _)).cell (p := (⟨b, off, none⟩ : Addr).add j) (World.block_lt_of_cell? w _ (HC.out j u hj)) |>.trans (HC.out j u hj)) H1.out h0 (by unfold maxLen; omega) (by omega) (by simp) (w.heap.size + 1) (by simp) ?_; intro g c w1 hown1 hgrow hat hlt))
  rw [Nat.zero_add, List.nil_append] at hown1
  obtain ⟨g', cap', hv, hg', _, hbk⟩ := own_block hown1 h0
  simp only [Value.slice.injEq, Option.some.injEq, Addr.mk.injEq] at hv
  obtain ⟨⟨rfl, -, -⟩, -, rfl⟩ := hv
  have hb : Below w.heap.size w w1 := ((Below.refl _ _).alloc (Nat.le_refl _) _).grown hgrow (by simp) (fun k e => by
    have : w.heap.size = k := by simpa [Value.ownBlock] using e
    omega)
  exact bodyPost_ret (v := .slice (some ⟨g, 0, none⟩) n c) (by simp [results, Try.results62, go_sem]) rfl ⟨g, c, rfl, hg', hbk, hb⟩
/-- Clone of a block of ints. -/
theorem cloneBF_any (b n cap : Nat) (F : Nat → Int) (w : World) (h0 : 0 < n) (hn : n ≤ 100) (h : BF w b n F) :
    Calls Try.prog 62 #[.slice (some ⟨b, 0, none⟩) n cap] w fun e w' => ∃ g c, e = .returned (.slice (some ⟨g, 0, none⟩) n c) ∧ w.heap.size ≤ g ∧ BF w' g n F ∧ Below w.heap.size w w' :=
  cloneInts_any b 0 n cap (fun k => .int .i64 (F k)) w h0 hn (fun i hi => by rw [Nat.zero_add]; exact h.c hi) (fun _ _ => rfl)
end Go.Proofs.Ytncmffhoodfhjaa
