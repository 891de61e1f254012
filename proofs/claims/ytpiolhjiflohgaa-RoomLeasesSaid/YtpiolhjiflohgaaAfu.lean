/- The reference of layer 13: Twin of any lists. -/
import Derived.Test.YtpiolhjiflohgaaAsj
namespace Go.Proofs.Ytpiolhjiflohgaa
open Go.RowKit
theorem ownG_keepB {W W' : World} {B : Nat} {e : TypeId} {sz n : Nat} {v : Value} {cs : List Value} (h : W.ownsRow B e sz v n cs) (hb : Below W.heap.size W W') : W'.ownsRow B e sz v n cs :=
  World.ownsRow.kept (row := none) h ⟨hb.os, hb.tape, hb.output, hb.size, fun k hk _ => hb.block k hk⟩ (by
    rcases v.ownBlock with _ | g
    · exact .inl rfl
    · exact .inr (by simp))
theorem ownG_grown {W W' : World} {B : Nat} {e : TypeId} {sz n : Nat} {v : Value} {cs : List Value} {row : Option Nat} (h : W.ownsRow B e sz v n cs) (hg : W.grownBy W' row) (hne : ∀ b, v.ownBlock = some b → row ≠ some b) : W'.ownsRow B e sz v n cs :=
  World.ownsRow.kept (row := row) h hg (by
    cases hv : v.ownBlock with
    | none => exact .inl rfl
    | some b => exact .inr (fun e => hne b hv e.symm))
/-- A slice of rows that is being made. -/
structure TwG (w W : World) (V : List (List Int)) (k : Nat) (v : Value) (cs : List Value) : Prop where
  bb : Below w.heap.size w W
  own : W.ownsRow w.heap.size 26 1 v k cs
  len : cs.length = k
  rows : ∀ i, i < k → ∃ h c, cs[i]? = some (.slice (some ⟨h, 0, none⟩) (V.getD i []).length c) ∧ v.ownBlock ≠ some h ∧ BF W h (V.getD i []).length (As.el (V.getD i []))
theorem TwG.keep {w W W' : World} {V : List (List Int)} {k : Nat} {v : Value} {cs : List Value} (t : TwG w W V k v cs) (hb : Below W.heap.size W W') : TwG w W' V k v cs :=
  ⟨keepB t.bb hb, ownG_keepB t.own hb, t.len, fun i hi => by
    obtain ⟨h, c, h1, h2, h3⟩ := t.rows i hi
    exact ⟨h, c, h1, h2, h3.keep hb⟩⟩
/-- Behind an append to a literal that was made at the end. -/
theorem TwG.lit {w W W' : World} {V : List (List Int)} {k : Nat} {v : Value} {cs : List Value} (t : TwG w W V k v cs) (o : Obj) (hg : (W.alloc o).grownBy W' (some W.heap.size)) : TwG w W' V k v cs := by
  have t1 := t.keep (below_al (Below.refl _ _) o)
  refine ⟨t1.bb.grown hg t1.bb.size (fun b e => by have := t.bb.size; injection e with e; omega), ownG_grown t1.own hg (fun b e e2 => by
    have := (World.ownsRow.lt t.own b e).2
    injection e2 with e2; omega), t.len, fun i hi => ?_⟩
  obtain ⟨h, c, h1, h2, h3⟩ := t.rows i hi
  exact ⟨h, c, h1, h2, (h3.al o).grown hg (fun e2 => by have := h3.lt; injection e2 with e2; omega)⟩
/-- A row more. -/
theorem TwG.row {w W w1 w4 : World} {V : List (List Int)} {k h c g cap : Nat} {v : Value} {cs : List Value} {o : Obj} (t : TwG w W V k v cs) (t1 : TwG w w1 V k v cs) (hbf : BF w1 h (V.getD k []).length (As.el (V.getD k []))) (hh : W.heap.size ≤ h)
    (hg : (w1.alloc o).grownBy w4 v.ownBlock) (hown : w4.ownsRow w.heap.size 26 1 (.slice (some ⟨g, 0, none⟩) (k + 1) cap) (k + 1) (cs ++ [.slice (some ⟨h, 0, none⟩) (V.getD k []).length c])) (hat : v.ownBlock = some g ∨ g = w1.heap.size + 1) :
    TwG w w4 V (k + 1) (.slice (some ⟨g, 0, none⟩) (k + 1) cap) (cs ++ [.slice (some ⟨h, 0, none⟩) (V.getD k []).length c]) := by
  have t2 := t1.keep (below_al (Below.refl _ _) o)
  have hv : ∀ b, v.ownBlock = some b → b < W.heap.size := fun b hb => (World.ownsRow.lt t.own b hb).2
  have hvh : v.ownBlock ≠ some h := fun e => by have := hv h e; omega
  refine ⟨t2.bb.grown hg t2.bb.size (fun b e => (World.ownsRow.lt t.own b e).1), hown, by rw [List.length_append, t.len]; rfl, fun i hi => ?_⟩
  by_cases e : i = k
  · subst e
    refine ⟨h, c, by rw [List.getElem?_append_right (by rw [t.len]; exact Nat.le_refl _), t.len]; simp, fun e2 => ?_, (hbf.al o).grown hg hvh⟩
    have hgh : g = h := by simpa [Value.ownBlock] using e2
    rcases hat with e3 | e3
    · have := hv g e3; omega
    · have := hbf.lt; omega
  · obtain ⟨h', c', x1, x2, x3⟩ := t.rows i (by omega)
    obtain ⟨h'', c'', y1, y2, y3⟩ := t1.rows i (by omega)
    have hhe : h'' = h' ∧ c'' = c' := by
      rw [x1] at y1
      simp only [Option.some.injEq, Value.slice.injEq, Addr.mk.injEq] at y1
      exact ⟨y1.1.1.symm, y1.2.2.symm⟩
    obtain ⟨rfl, rfl⟩ := hhe
    refine ⟨h'', c'', by rw [List.getElem?_append_left (by rw [t.len]; omega)]; exact x1, fun e2 => ?_, (y3.al o).grown hg x2⟩
    have hgh : g = h'' := by simpa [Value.ownBlock] using e2
    rcases hat with e3 | e3
    · exact x2 (by rw [e3, hgh])
    · have := y3.lt; omega
/-- What Twin gives. -/
def TwGQ (V : List (List Int)) (w : World) (e : Ending) (w' : World) : Prop := ∃ A c, e = .returned (.slice A V.length c) ∧ IsM w' A V ∧ Below w.heap.size w w'
theorem TwG.isM {w W : World} {V : List (List Int)} {A : Option Addr} {c : Nat} {cs : List Value} (t : TwG w W V V.length (.slice A V.length c) cs) (hr : ∀ i, i < V.length → (V.getD i []).length ≤ maxLen) (hb : ∀ i j, I64 (As.el (V.getD i []) j)) : IsM W A V := by
  intro h0
  obtain ⟨g, cap, hv, _, _, hbk⟩ := own_block t.own h0
  simp only [Value.slice.injEq] at hv
  obtain ⟨rfl, -, -⟩ := hv
  refine ⟨g, 0, rfl, fun i hi => ?_⟩
  obtain ⟨h, c', h1, h2, h3⟩ := t.rows i hi
  have hI := h3.isI (fun j _ => hb i j)
  have e : ml (V.getD i []).length (As.el (V.getD i [])) = V.getD i [] := by
    unfold ml
    refine List.ext_getElem (by simp) fun j q1 q2 => ?_
    simp only [List.getElem_map, List.getElem_range]
    exact el_lt q2
  rw [e] at hI
  rw [Nat.zero_add]
  exact ⟨_, _, hbk.c i h1, hr i hi, hI⟩
theorem bfOf {w : World} {B n h c : Nat} {F : Nat → Int} (ho : w.ownsRow B 3 1 (.slice (some ⟨h, 0, none⟩) n c) n ((List.range n).map fun j => Value.int .i64 (F j))) (hn : n ≠ 0) : BF w h n F := by
  obtain ⟨g, cap, hv, _, _, hbk⟩ := own_block ho (by omega)
  simp only [Value.slice.injEq, Option.some.injEq, Addr.mk.injEq] at hv
  obtain ⟨⟨rfl, -, -⟩, -, -⟩ := hv
  exact hbk
theorem append_none (A : Option Addr) (h c : Nat) (v : World) : (Builtin.append_ #[26, 26] 26 #[.slice (some ⟨h, 0, none⟩) 0 0, .slice A 0 c]).run Try.prog v = .ok (.slice (some ⟨h, 0, none⟩) 0 0) v := by
  obtain ⟨i0, hi0, hz0, hz1, hz2⟩ := info_parts intInfo
  cases A <;> simp [Builtin.append_, run_underlying Try.underlying26, sizeOf, typeInfo, hi0, Builtin.lenOf, Builtin.firstCells, loadCells, loadCellsFrom, storeCells]
set_option linter.unusedSimpArgs false in
set_option maxRecDepth 100000 in
set_option maxHeartbeats 4000000 in
theorem rTwinG_any (A : Option Addr) (cv : Nat) (V : List (List Int)) (w : World) (n20 : V.length ≤ 20) (hrw : ∀ i, i < V.length → (V.getD i []).length ≤ 50) (h : IsM w A V) :
    Calls Try.prog 10 #[.slice A V.length cv] w (TwGQ V w) := by
  have HMM := Lib.hid h
  have HRW := Lib.hid hrw
  have HBD := Lib.hid (show ∀ i j, I64 (As.el (V.getD i []) j) from fun i j => by
    rcases Nat.lt_or_ge i V.length with hi | hi
    · obtain ⟨b, off, _, hr⟩ := h (by omega)
      obtain ⟨R, c, _, _, hI⟩ := hr i hi
      exact hI.bd j
    · have : V.getD i [] = [] := by rw [List.getD_eq_getElem?_getD, List.getElem?_eq_none hi]; rfl
      rw [this]; have e : As.el [] j = 0 := rfl; rw [e]; exact ⟨by decide, by decide⟩)
  obtain ⟨i0, hi0, hz0, hz1, hz2⟩ := info_parts intInfo
  have HI := Lib.hid hi0
  have HI2 := Lib.hid hz0
  have HI3 := Lib.hid hz1
  have HI4 := Lib.hid hz2
  obtain ⟨j0, kj0, kz0, kz1, kz2⟩ := info_parts rowInfo
  have HJ := Lib.hid kj0
  have HJ2 := Lib.hid kz0
  have HJ3 := Lib.hid kz1
  have HJ4 := Lib.hid kz2
  clear h hrw hi0 hz0 hz1 hz2 kj0 kz0 kz1 kz2
  go_enter Try.func10, Try.ntmps10
  go_wp2_with fail
  go_loopw [3, 4] (fun v i W => ∃ k : Nat, k ≤ V.length ∧ i = .int .i64 k ∧ ∃ cs, Hid (TwG w W V k v cs)) (fun _ i _ => V.length - (intOf i).toNat)
  case atStart => exact ⟨0, Nat.zero_le _, rfl, [], Lib.hid ⟨Below.refl _ _, World.ownsRow_nil _ _ _ _, rfl, fun i h => absurd h (by omega)⟩⟩
  case round =>
    obtain ⟨k, hk, rfl, cs, HT⟩ := hrel
    by_cases hlt : k < V.length
    · obtain ⟨b, off, rfl, hrows⟩ := HMM.out (by omega)
      obtain ⟨R, c, hc, hrl, hI⟩ := hrows k hlt
      have hq := HRW.out k hlt
      have c1 := keepC HT.out.bb hc
      have l1 := lt_of_cell c1
      have hBW := HT.out.bb.size
      have hIK1 : ∀ _ : 0 < (V.getD k []).length, ∃ b o, R = some ⟨b, o, none⟩ ∧ ∀ j, j < (V.getD k []).length → wr.cell? ⟨b, o + j, none⟩ = some (.int .i64 (As.el (V.getD k []) j)) := (hI.keep HT.out.bb).1
      have HROW := Lib.hid (fun (w1 w4 : World) (h c g cap : Nat) (o : Obj) t1 hbf hh hg hown hat => @TwG.row w wr w1 w4 V k h c g cap u3 cs o HT.out t1 hbf hh hg hown hat)
      obtain ⟨n, hn⟩ : ∃ n, (V.getD k []).length = n := ⟨_, rfl⟩
      rw [hn] at c1 hq
      simp only [hn] at HROW hIK1
      have HNL := Lib.hid hn
      clear hrows hc hrl hI hn
      by_cases hn0 : n = 0
      · subst hn0
        have hrun := append_none R
        go_wp2_with (at_builtin; first
          | (refine wpList_plain rfl fun K hK => ?_; unfold Oper.wp; simp [execOp, resolve, invoke, builtin, hrun, Result.andThen, Act.eval, Act.put]; refine hK _ _ ?_)
          | (go_loud (refine wpList_append_lies _ rfl _ _ _ rfl w.heap.size 26 j0 _ 1 24 Try.underlying22 HJ.out HJ2.out HJ3.out HJ4.out rfl (by omega) _ k cs (by rfl) ((HT.out.keep (below_al (Below.refl _ _) _)).keep (below_al (Below.refl _ _) _)).own ⟨wr.heap.size + 1, 0, none⟩ 1 1 [.slice (some ⟨wr.heap.size, 0, none⟩) 0 0] (by rfl) (by rfl) (fun j u hj => by
              cases j with
              | zero => simp at hj; subst hj; go_simp
              | succ j => simp at hj) (by simp [Value.oneCell']) (by omega) (by unfold maxLen; omega) (by omega) (by simp; omega) (wr.heap.size + 1 + 1) (by simp) ?_; intro g cap w4 hown2 hgrow2 hat2 hlt2)))
        have hbf : BF (wr.alloc (Obj.cells #[] 3)) wr.heap.size 0 (As.el (V.getD k [])) := BF.cong (BF.new wr 0 3) (fun j hj => absurd hj (by omega))
        exact ⟨⟨k + 1, by omega, by go_num, _, Lib.hid (HROW.out _ _ _ 0 _ _ _ (HT.out.keep (below_al (Below.refl _ _) _)) hbf (Nat.le_refl _) hgrow2 hown2 (by simpa using hat2))⟩, by simp [intOf]; omega⟩
      · obtain ⟨rb, ro, rfl, hcs⟩ := hIK1 (by omega)
        have HCS := Lib.hid (show ∀ j u, ((List.range n).map fun j => Value.int .i64 (As.el (V.getD k []) j))[j]? = some u → wr.cell? ((⟨rb, ro, none⟩ : Addr).add j) = some u from fun j u hj => by
          obtain ⟨hj1, hj2⟩ := List.getElem?_eq_some_iff.1 hj
          simp only [List.length_map, List.length_range] at hj1
          simp only [List.getElem_map, List.getElem_range] at hj2
          rw [Addr.add_lit, ← hj2]
          exact hcs j (by omega))
        clear hcs
        go_wp2_with (at_builtin; first
          | (refine wpList_append_lies _ rfl _ _ _ rfl w.heap.size 3 i0 _ 1 8 Try.underlying26 HI.out HI2.out HI3.out HI4.out rfl (by omega) (.slice (some ⟨wr.heap.size, 0, none⟩) 0 0) 0 [] (by rfl) (World.ownsRow_lit wr #[] 0 hBW (by decide) rfl) ⟨rb, ro, none⟩ n c ((List.range n).map fun j => Value.int .i64 (As.el (V.getD k []) j)) (by rfl) (by simp) (fun j u hj => (below_al (Below.refl _ _) _ : Below wr.heap.size wr (wr.alloc _)).cell (p := (⟨rb, ro, none⟩ : Addr).add j) (World.block_lt_of_cell? wr _ (HCS.out j u hj)) |>.trans (HCS.out j u hj)) (by intro u hu; obtain ⟨j, _, rfl⟩ := List.mem_map.1 hu; rfl) (by omega) (by unfold maxLen; omega) (by omega) (by simp; omega) (wr.heap.size + 1) (by simp) ?_; intro h c2 w1 hown1 hgrow1 hat1 hlt1; have HT1 := Lib.hid (HT.out.lit _ hgrow1); have hB1 := HT1.out.bb.size; rw [Nat.zero_add, List.nil_append] at hown1; have HO1 := Lib.hid (bfOf hown1 hn0); have HH := Lib.hid (show wr.heap.size ≤ h from by rcases hat1 with e | e; (have : wr.heap.size = h := by simpa [Value.ownBlock] using e); omega; omega); clear hown1 hgrow1 hat1 hlt1)
          | (go_loud (refine wpList_append_lies _ rfl _ _ _ rfl w.heap.size 26 j0 _ 1 24 Try.underlying22 HJ.out HJ2.out HJ3.out HJ4.out rfl (by omega) _ k cs (by rfl) (HT1.out.keep (below_al (Below.refl _ _) _)).own ⟨w1.heap.size, 0, none⟩ 1 1 [.slice (some ⟨h, 0, none⟩) n c2] (by rfl) (by rfl) (World.news_of_block (cs := #[.slice (some ⟨h, 0, none⟩) n c2]) (t := 26) (fr := (0, 0)) (heap_alloc_new w1 _)) (by simp [Value.oneCell']) (by omega) (by unfold maxLen; omega) (by omega) (by simp; omega) (w1.heap.size + 1) (by simp) ?_; intro g cap w4 hown2 hgrow2 hat2 hlt2)))
        all_goals exact ⟨⟨k + 1, by omega, by go_num, _, Lib.hid (HROW.out _ _ _ _ _ _ _ HT1.out HO1.out HH.out hgrow2 hown2 hat2)⟩, by simp [intOf]; omega⟩
    · obtain rfl : k = V.length := by omega
      obtain ⟨A3, c3, rfl⟩ : ∃ A cap, u3 = .slice A V.length cap := by
        rcases HT.out.own.2 with ⟨h1, h2⟩ | ⟨g, cap, cur, h1, _⟩
        · exact ⟨none, 0, by rw [h1, h2]⟩
        · exact ⟨_, _, h1⟩
      have HFIN := Lib.hid (show IsM wr A3 V from HT.out.isM (fun i hi => by have := HRW.out i hi; unfold maxLen; omega) HBD.out)
      have hbb := HT.out.bb
      clear HT
      go_wp2_with fail
      exact bodyPost_ret (v := .slice A3 V.length c3) (by simp [results, Try.results10, go_sem]) rfl ⟨_, _, rfl, HFIN.out, hbb⟩
end Go.Proofs.Ytpiolhjiflohgaa
