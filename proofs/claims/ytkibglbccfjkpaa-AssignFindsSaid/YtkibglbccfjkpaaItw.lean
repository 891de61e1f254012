/- Slices of slices of ints of the call's own; the reference's Twin of layer 13. -/
import Derived.Test.YtkibglbccfjkpaaAsj
namespace Go.Proofs.Ytkibglbccfjkpaa
open Go.RowKit
/-- The rows' values. -/
def rvs (n : Nat) (H C : Nat → Nat) (m : Nat) : List Value := (List.range m).map fun i => Value.slice (some ⟨H i, 0, none⟩) n (C i)
theorem rvs_snoc (n : Nat) (H C : Nat → Nat) (m h c : Nat) : rvs n H C m ++ [.slice (some ⟨h, 0, none⟩) n c] = rvs n (fun i => if i = m then h else H i) (fun i => if i = m then c else C i) (m + 1) := by
  unfold rvs
  rw [List.range_succ, List.map_append]
  congr 1
  · refine List.map_congr_left fun i hi => ?_
    have : i ≠ m := by have := List.mem_range.1 hi; omega
    simp [this]
  · simp
/-- A slice of m rows of n ints each, all of the call's own, blocks from B on. -/
structure Tw (w W : World) (B n m : Nat) (F : Nat → Nat → Int) (v : Value) (H C : Nat → Nat) : Prop where
  bb : Below w.heap.size w W
  hB : w.heap.size ≤ B ∧ B ≤ W.heap.size
  own : W.ownsRow B 25 1 v m (rvs n H C m)
  rows : ∀ i, i < m → B ≤ H i ∧ BF W (H i) n (F i)
  ds : ∀ i j, i < m → j < m → i ≠ j → H i ≠ H j
  top : ∀ i, i < m → v.ownBlock ≠ some (H i)
theorem Tw.nil (w W : World) (B n : Nat) (F : Nat → Nat → Int) (H C : Nat → Nat) (hb : Below w.heap.size w W) (hB : w.heap.size ≤ B ∧ B ≤ W.heap.size) : Tw w W B n 0 F (.slice none 0 0) H C :=
  ⟨hb, hB, World.ownsRow_nil _ _ _ _, fun i h => absurd h (by omega), fun i j h => absurd h (by omega), fun i h => absurd h (by omega)⟩
theorem own_keepB {W W' : World} {B : Nat} {e : TypeId} {sz n : Nat} {v : Value} {cs : List Value} (h : W.ownsRow B e sz v n cs) (hb : Below W.heap.size W W') : W'.ownsRow B e sz v n cs :=
  World.ownsRow.kept (row := none) h ⟨hb.os, hb.tape, hb.output, hb.size, fun k hk _ => hb.block k hk⟩ (by
    rcases v.ownBlock with _ | g
    · exact .inl rfl
    · exact .inr (by simp))
theorem own_grown {W W' : World} {B : Nat} {e : TypeId} {sz n : Nat} {v : Value} {cs : List Value} {row : Option Nat} (h : W.ownsRow B e sz v n cs) (hg : W.grownBy W' row) (hne : ∀ b, v.ownBlock = some b → row ≠ some b) : W'.ownsRow B e sz v n cs :=
  World.ownsRow.kept (row := row) h hg (by
    cases hv : v.ownBlock with
    | none => exact .inl rfl
    | some b => exact .inr (fun e => hne b hv e.symm))
theorem Tw.keep {w W W' : World} {B n m : Nat} {F : Nat → Nat → Int} {v : Value} {H C : Nat → Nat} (h : Tw w W B n m F v H C) (hb : Below W.heap.size W W') : Tw w W' B n m F v H C :=
  ⟨keepB h.bb hb, ⟨h.hB.1, Nat.le_trans h.hB.2 hb.size⟩, own_keepB h.own hb, fun i hi => ⟨(h.rows i hi).1, (h.rows i hi).2.keep hb⟩, h.ds, h.top⟩
/-- Something that lies beside the rows has grown. -/
theorem Tw.grown {w W W' : World} {B n m : Nat} {F : Nat → Nat → Int} {v : Value} {H C : Nat → Nat} {row : Option Nat} (h : Tw w W B n m F v H C) (hg : W.grownBy W' row) (hrow : ∀ b, row = some b → B ≤ b) (h1 : ∀ b, v.ownBlock = some b → row ≠ some b) (h2 : ∀ i, i < m → row ≠ some (H i)) : Tw w W' B n m F v H C :=
  ⟨h.bb.grown hg (Nat.le_trans h.hB.1 h.hB.2) (fun j e => Nat.le_trans h.hB.1 (hrow j e)), ⟨h.hB.1, Nat.le_trans h.hB.2 hg.size⟩, own_grown h.own hg h1, fun i hi => ⟨(h.rows i hi).1, (h.rows i hi).2.grown hg (h2 i hi)⟩, h.ds, h.top⟩
/-- A row more: its block h is behind all, and the slice's own block has grown. -/
theorem Tw.app {w W W' : World} {B n m h c g cap : Nat} {F : Nat → Nat → Int} {v : Value} {H C : Nat → Nat} (t : Tw w W B n m F v H C) (hh : B ≤ h) (hbf : BF W h n (F m)) (hne : ∀ i, i < m → H i ≠ h) (hv : v.ownBlock ≠ some h)
    (hg : W.grownBy W' v.ownBlock) (hown : W'.ownsRow B 25 1 (.slice (some ⟨g, 0, none⟩) (m + 1) cap) (m + 1) (rvs n H C m ++ [.slice (some ⟨h, 0, none⟩) n c])) (hat : v.ownBlock = some g ∨ g = W.heap.size) :
    Tw w W' B n (m + 1) F (.slice (some ⟨g, 0, none⟩) (m + 1) cap) (fun i => if i = m then h else H i) (fun i => if i = m then c else C i) := by
  have hvB := World.ownsRow.lt t.own
  refine ⟨t.bb.grown hg (Nat.le_trans t.hB.1 t.hB.2) (fun j e => Nat.le_trans t.hB.1 (hvB j e).1), ⟨t.hB.1, Nat.le_trans t.hB.2 hg.size⟩, ?_, fun i hi => ?_, fun i j hi hj hij => ?_, fun i hi => ?_⟩
  · rw [← rvs_snoc]; exact hown
  · by_cases e : i = m
    · subst e
      simp only [if_true]
      exact ⟨hh, hbf.grown hg hv⟩
    · simp only [if_neg e]
      have := t.rows i (by omega)
      exact ⟨this.1, this.2.grown hg (t.top i (by omega))⟩
  · by_cases e1 : i = m
    · subst e1
      simp only [if_true, if_neg (fun x => hij x.symm : ¬ j = i)]
      exact fun e => hne j (by omega) e.symm
    · by_cases e2 : j = m
      · subst e2
        simp only [if_true, if_neg e1]
        exact hne i (by omega)
      · simp only [if_neg e1, if_neg e2]
        exact t.ds i j (by omega) (by omega) hij
  · by_cases e : i = m
    · subst e
      simp only [if_true]
      intro e2
      have hgh : g = h := by simpa [Value.ownBlock] using e2
      subst hgh
      rcases hat with e3 | e3
      · exact hv e3
      · have := hbf.lt; omega
    · simp only [if_neg e]
      intro e2
      have hgh : g = H i := by simpa [Value.ownBlock] using e2
      rcases hat with e3 | e3
      · exact t.top i (by omega) (by rw [e3, hgh])
      · have := (t.rows i (by omega)).2.lt; omega
/-- A row is written to. -/
theorem Tw.set {w W : World} {B n m i k : Nat} {F : Nat → Nat → Int} {v : Value} {H C : Nat → Nat} (t : Tw w W B n m F v H C) (hi : i < m) (x : Int) : Tw w (W.setCell ⟨H i, k, none⟩ (.int .i64 x)) B n m (fun r j => if r = i ∧ j = k then x else F r j) v H C := by
  have hr := t.rows i hi
  have hg : W.grownBy (W.setCell ⟨H i, k, none⟩ (.int .i64 x)) (some (H i)) := ⟨rfl, rfl, rfl, by simp [World.setCell], fun b _ hb => Below.heap_setCell W ⟨H i, k, none⟩ _ b (fun e => hb (by rw [e]))⟩
  refine ⟨t.bb.setCell (Nat.le_trans t.hB.1 hr.1) _, ⟨t.hB.1, by rw [World.size_setCell]; exact t.hB.2⟩, own_grown t.own hg (fun b hb e => t.top i hi (by rw [hb]; exact e.symm)), fun r hrm => ⟨(t.rows r hrm).1, ?_⟩, t.ds, t.top⟩
  by_cases e : r = i
  · subst e
    exact (hr.2.set k x).cong fun j _ => by simp
  · refine ((t.rows r hrm).2.far (t.ds i r hi hrm (fun x => e x.symm)) k _).cong fun j _ => ?_
    rw [if_neg (fun h => e h.1)]
theorem Tw.cong {w W : World} {B n m : Nat} {F G : Nat → Nat → Int} {v : Value} {H C : Nat → Nat} (t : Tw w W B n m F v H C) (h : ∀ i j, i < m → j < n → F i j = G i j) : Tw w W B n m G v H C :=
  ⟨t.bb, t.hB, t.own, fun i hi => ⟨(t.rows i hi).1, (t.rows i hi).2.cong fun j hj => h i j hi hj⟩, t.ds, t.top⟩
/-- The lists that it holds. -/
def mm (m n : Nat) (F : Nat → Nat → Int) : List (List Int) := (List.range m).map fun i => ml n (F i)
theorem mm_len (m n : Nat) (F : Nat → Nat → Int) : (mm m n F).length = m := by simp [mm]
theorem mm_get {m n : Nat} {F : Nat → Nat → Int} {i : Nat} (h : i < m) : (mm m n F).getD i [] = ml n (F i) := by unfold mm; simp [List.getD, h]
theorem Tw.form {w W : World} {B n m : Nat} {F : Nat → Nat → Int} {v : Value} {H C : Nat → Nat} (t : Tw w W B n m F v H C) (h0 : 0 < m) : ∃ g cap, v = .slice (some ⟨g, 0, none⟩) m cap ∧ B ≤ g ∧ g < W.heap.size ∧ (∀ i, i < m → g ≠ H i) ∧ ∀ i, i < m → W.cell? ⟨g, i, none⟩ = some (.slice (some ⟨H i, 0, none⟩) n (C i)) := by
  obtain ⟨g, cap, hv, hg, _, hbk⟩ := own_block t.own h0
  refine ⟨g, cap, hv, hg, hbk.lt, fun i hi e => t.top i hi (by rw [hv, e]; rfl), fun i hi => ?_⟩
  exact hbk.c i (by unfold rvs; simp [hi])
theorem Tw.isM {w W : World} {B n m g cap : Nat} {F : Nat → Nat → Int} {H C : Nat → Nat} (t : Tw w W B n m F (.slice (some ⟨g, 0, none⟩) m cap) H C) (hn : n ≤ maxLen) (hb : ∀ i j, i < m → j < n → I64 (F i j)) : IsM W (some ⟨g, 0, none⟩) (mm m n F) := by
  intro h0
  rw [mm_len] at h0
  obtain ⟨g', cap', hv, _, _, _, hc⟩ := t.form h0
  simp only [Value.slice.injEq, Option.some.injEq, Addr.mk.injEq] at hv
  obtain ⟨⟨rfl, -, -⟩, -, rfl⟩ := hv
  refine ⟨g, 0, rfl, fun i hi => ?_⟩
  rw [mm_len] at hi
  rw [mm_get hi, Nat.zero_add, ml_len]
  exact ⟨_, _, hc i hi, hn, (t.rows i hi).2.isI fun j hj => hb i j hi hj⟩
/-- Behind an append to a literal that was made at the end. -/
theorem Tw.lit {w W W' : World} {B n m : Nat} {F : Nat → Nat → Int} {v : Value} {H C : Nat → Nat} (t : Tw w W B n m F v H C) (o : Obj) (hg : (W.alloc o).grownBy W' (some W.heap.size)) : Tw w W' B n m F v H C :=
  (t.keep (below_al (Below.refl _ _) o)).grown hg (fun b e => by have := t.hB.2; injection e with e; omega) (fun b e e2 => by
    have := (World.ownsRow.lt t.own b e).2
    injection e2 with e2; omega) (fun i hi e2 => by
    have := (t.rows i hi).2.lt
    injection e2 with e2; omega)
theorem Tw.row {w W w1 w4 : World} {B B' n k h c g cap : Nat} {F : Nat → Nat → Int} {v : Value} {H C : Nat → Nat} {o : Obj} (t : Tw w W B n k F v H C) (t1 : Tw w w1 B n k F v H C) (hn : 0 < n)
    (ho : w1.ownsRow B' 3 1 (.slice (some ⟨h, 0, none⟩) n c) n ((List.range n).map fun j => Value.int .i64 (F k j))) (hh : W.heap.size ≤ h)
    (hg : (w1.alloc o).grownBy w4 v.ownBlock) (hown : w4.ownsRow B 25 1 (.slice (some ⟨g, 0, none⟩) (k + 1) cap) (k + 1) (rvs n H C k ++ [.slice (some ⟨h, 0, none⟩) n c])) (hat : v.ownBlock = some g ∨ g = w1.heap.size + 1) :
    Tw w w4 B n (k + 1) F (.slice (some ⟨g, 0, none⟩) (k + 1) cap) (fun i => if i = k then h else H i) (fun i => if i = k then c else C i) := by
  obtain ⟨g', cap', hv, _, _, hbk⟩ := own_block ho hn
  simp only [Value.slice.injEq, Option.some.injEq, Addr.mk.injEq] at hv
  obtain ⟨⟨rfl, -, -⟩, -, rfl⟩ := hv
  have hbf : BF w1 h n (F k) := hbk
  refine (t1.keep (below_al (Below.refl _ _) o)).app (Nat.le_trans t.hB.2 hh) (hbf.al o) (fun i hi => ?_) (fun e => ?_) hg hown (by simpa using hat)
  · have := (t.rows i hi).2.lt
    omega
  · have := (World.ownsRow.lt t.own h e).2
    omega
/-- What Twin gives. -/
def TwinQ (n : Nat) (F : Nat → Nat → Int) (w : World) (e : Ending) (w' : World) : Prop := ∃ v H C, e = .returned v ∧ Tw w w' w.heap.size n n F v H C
set_option linter.unusedSimpArgs false in
set_option maxRecDepth 100000 in
set_option maxHeartbeats 4000000 in
theorem rTwin_any (A : Option Addr) (cv : Nat) (V : List (List Int)) (w : World) (n1 : 1 ≤ V.length) (n6 : V.length ≤ 20) (hrw : ∀ i, i < V.length → (V.getD i []).length = V.length) (h : IsM w A V) :
    Calls Try.prog 11 #[.slice A V.length cv] w (TwinQ V.length (As.vl V) w) := by
  obtain ⟨b, off, rfl, hrows⟩ := h (by omega)
  have HR := Lib.hid hrows
  have HRW := Lib.hid hrw
  obtain ⟨i0, hi0, hz0, hz1, hz2⟩ := info_parts intInfo
  have HI := Lib.hid hi0
  have HI2 := Lib.hid hz0
  have HI3 := Lib.hid hz1
  have HI4 := Lib.hid hz2
  obtain ⟨j0, kj0, kz0, kz1, kz2⟩ := info_parts rowInfo
  have HJ := Lib.hid kj0
  have HJ2 := Lib.hid kz0
  have HJ3 := Lib.hid kz1
  have HJ4 := Lib.hid kz2
  clear h hrows hrw hi0 hz0 hz1 hz2 kj0 kz0 kz1 kz2
  go_enter Try.func11, Try.ntmps11
  go_wp2_with fail
  go_loopw [3, 4] (fun v i W => ∃ k : Nat, k ≤ V.length ∧ i = .int .i64 k ∧ ∃ H C, Hid (Tw w W w.heap.size V.length k (As.vl V) v H C)) (fun _ i _ => V.length - (intOf i).toNat)
  case atStart => exact ⟨0, Nat.zero_le _, rfl, (fun _ => 0), (fun _ => 0), Lib.hid (Tw.nil _ _ _ _ _ _ _ (Below.refl _ _) ⟨Nat.le_refl _, Nat.le_refl _⟩)⟩
  case round =>
    obtain ⟨k, hk, rfl, H, C, HT⟩ := hrel
    by_cases hlt : k < V.length
    · obtain ⟨R, c, hc, hrl, hI⟩ := HR.out k hlt
      have hq := HRW.out k hlt
      rw [hq] at hc
      obtain ⟨rb, ro, rfl, hcs⟩ := hI.1 (by omega)
      have c1 := keepC HT.out.bb hc
      have l1 := lt_of_cell c1
      have HCS := Lib.hid (show ∀ j u, ((List.range V.length).map fun j => Value.int .i64 (As.vl V k j))[j]? = some u → wr.cell? ((⟨rb, ro, none⟩ : Addr).add j) = some u from fun j u hj => by
        obtain ⟨hj1, hj2⟩ := List.getElem?_eq_some_iff.1 hj
        simp only [List.length_map, List.length_range] at hj1
        simp only [List.getElem_map, List.getElem_range] at hj2
        rw [Addr.add_lit, ← hj2]
        exact keepC HT.out.bb (hcs j (by omega)))
      have hBW := HT.out.hB.2
      have HO := HT.out.own
      clear hI hrl hq hc hcs
      go_wp2_with (at_builtin; first
        | (refine wpList_append_lies _ rfl _ _ _ rfl w.heap.size 3 i0 _ 1 8 Try.underlying25 HI.out HI2.out HI3.out HI4.out rfl (by omega) (.slice (some ⟨wr.heap.size, 0, none⟩) 0 0) 0 [] (by rfl) (World.ownsRow_lit wr #[] 0 hBW (by decide) rfl) ⟨rb, ro, none⟩ V.length c ((List.range V.length).map fun j => Value.int .i64 (As.vl V k j)) (by rfl) (by simp) (fun j u hj => (below_al (Below.refl _ _) _ : Below wr.heap.size wr (wr.alloc _)).cell (p := (⟨rb, ro, none⟩ : Addr).add j) (World.block_lt_of_cell? wr _ (HCS.out j u hj)) |>.trans (HCS.out j u hj)) (by intro u hu; obtain ⟨j, _, rfl⟩ := List.mem_map.1 hu; rfl) (by omega) (by unfold maxLen; omega) (by omega) (by simp; omega) (wr.heap.size + 1) (by simp) ?_; intro h c2 w1 hown1 hgrow1 hat1 hlt1; have HT1 := Lib.hid (HT.out.lit _ hgrow1); have hB1 := HT1.out.hB.2; rw [Nat.zero_add, List.nil_append] at hown1; have HO1 := Lib.hid hown1; have HH := Lib.hid (show wr.heap.size ≤ h from by rcases hat1 with e | e; (have : wr.heap.size = h := by simpa [Value.ownBlock] using e); omega; omega); clear hown1 hgrow1 hat1 hlt1)
        | (go_loud (refine wpList_append_lies _ rfl _ _ _ rfl w.heap.size 25 j0 _ 1 24 Try.underlying22 HJ.out HJ2.out HJ3.out HJ4.out rfl (by omega) _ k (rvs V.length H C k) (by rfl) (HT1.out.keep (below_al (Below.refl _ _) _)).own ⟨w1.heap.size, 0, none⟩ 1 1 [.slice (some ⟨h, 0, none⟩) V.length c2] (by rfl) (by rfl) (World.news_of_block (cs := #[.slice (some ⟨h, 0, none⟩) V.length c2]) (t := 25) (fr := (0, 0)) (heap_alloc_new w1 _)) (by simp [Value.oneCell']) (by omega) (by unfold maxLen; omega) (by omega) (by simp; omega) (w1.heap.size + 1) (by simp) ?_; intro g cap w4 hown2 hgrow2 hat2 hlt2)))
      all_goals exact ⟨⟨k + 1, by omega, by go_num, _, _, Lib.hid (HT.out.row HT1.out (by omega) HO1.out HH.out hgrow2 hown2 hat2)⟩, by simp [intOf]; omega⟩
    · obtain rfl : k = V.length := by omega
      obtain ⟨g, cap, rfl, -⟩ := HT.out.form (by omega)
      go_wp2_with fail
      exact bodyPost_ret (v := .slice (some ⟨g, 0, none⟩) V.length cap) (by simp [results, Try.results11, go_sem]) rfl ⟨_, H, C, rfl, HT.out⟩
end Go.Proofs.Ytkibglbccfjkpaa
