/- Package trim: Run. -/
import Derived.OwnWalkIn
import Derived.TacticsInMore
import Derived.Deep.OwnRows
import Derived.Test.YtpcdggkajindbaaGreatTrg
import Derived.Test.YtpcdggkajindbaaGreatHr
namespace Go.Proofs.YtpcdggkajindbaaGreat
open Go.RowKit
open Go.Shelf
attribute [local go_sem] Oper.semAt_some
theorem turnInfo : (Tryz.prog.info? 57).map (fun i => (i.zero, i.size, i.bytes)) = some (some (.agg #[.int .i64 0, .int .i64 0, .int .i64 0, .int .i64 0, .int .i64 0, .int .i64 0]), 6, 48) := by kernel_rfl
theorem span_make (n : Nat) (hn : n ≤ 1000) (v : World) : Sem.run Tryz.prog (Instr.makeSlice 25 (.int .i64 (n : Int)) (.int .i64 (n : Int))) v = .ok (.slice (some ⟨v.heap.size, 0, none⟩) n n) (v.alloc (.cells (Array.replicate n (Value.slice none 0 0)) 58)) := by
  have h := run_make_row' (P := Tryz.prog) 25 58 (.slice none 0 0) 24 (by kernel_rfl) (by kernel_rfl) rfl .i64 .i64 n (by omega) (by omega) v
  have e : madeCells #[Value.slice none 0 0] n = Array.replicate n (Value.slice none 0 0) := by
    apply Array.ext
    · simp [madeCells]
    · intro i h1 h2
      simp [madeCells, Nat.mod_one]
  rw [e] at h; exact h
namespace Ch
/-- The last turn of an agent. -/
def lastOf (T : List Tn) (j : Nat) : Option Tn := T.reverse.find? (fun t => t.ag == j)
theorem lastOf_snoc (T : List Tn) (x : Tn) (j : Nat) : lastOf (T ++ [x]) j = if x.ag = j then some x else lastOf T j := by
  unfold lastOf
  rw [List.reverse_append]
  simp only [List.reverse_cons, List.reverse_nil, List.nil_append, List.cons_append, List.find?_cons]
  by_cases h : x.ag = j
  · rw [if_pos h]
    simp [h]
  · have e : (x.ag == j) = false := by simpa using h
    rw [if_neg h, e]
/-- The slice of spans that an agent has. -/
def pcv (T : List Tn) (G : Nat → Nat) (j : Nat) : Value := match lastOf T j with
  | some _ => .slice (some ⟨G j, 0, none⟩) 1 1
  | none => .slice none 0 0
def tcells (T : List Tn) : List Value := T.flatMap fun t => [.int .i64 (t.ag : Nat), .int .i64 t.a, .int .i64 t.b, .int .i64 t.x, .int .i64 t.y, .int .i64 (t.t : Nat)]
theorem tcells_snoc (T : List Tn) (x : Tn) : tcells (T ++ [x]) = tcells T ++ [.int .i64 (x.ag : Nat), .int .i64 x.a, .int .i64 x.b, .int .i64 x.x, .int .i64 x.y, .int .i64 (x.t : Nat)] := by unfold tcells; simp
def pcs (nn : Nat) (T : List Tn) (G : Nat → Nat) : List Value := (List.range nn).map (pcv T G)
theorem pcs_nil (nn : Nat) (G : Nat → Nat) : pcs nn [] G = List.replicate nn (.slice none 0 0) := by
  unfold pcs pcv lastOf
  exact List.ext_getElem (by simp) fun k h1 h2 => by simp
theorem pcs_snoc (nn : Nat) (T : List Tn) (G : Nat → Nat) (x : Tn) (g : Nat) : (pcs nn T G).set x.ag (.slice (some ⟨g, 0, none⟩) 1 1) = pcs nn (T ++ [x]) (fun j => if j = x.ag then g else G j) := by
  unfold pcs
  refine List.ext_getElem (by simp) fun k h1 h2 => ?_
  simp only [List.getElem_set, List.getElem_map, List.getElem_range]
  unfold pcv
  rw [lastOf_snoc]
  by_cases h : x.ag = k
  · rw [if_pos h, if_pos h]
    simp [h]
  · rw [if_neg h, if_neg h]
    show _ = match lastOf T k with
      | some _ => Value.slice (some ⟨if k = x.ag then g else G k, 0, none⟩) 1 1
      | none => .slice none 0 0
    rw [if_neg (show ¬ k = x.ag from fun e => h e.symm)]
end Ch
/-- What Run's boxes hold behind some rounds. -/
structure RunS (nn : Nat) (w : World) (mb Pp n1 : Nat) (pre : List (Ch.El nn)) (W : World) (tv : Value) (Q : Option Addr) (nq cq : Nat) (G : Nat → Nat) : Prop where
  nb : mb ≤ n1
  b2 : BK W w.heap.size [.slice (some ⟨Pp, 0, none⟩) nn nn]
  b3 : BK W (w.heap.size + 1) [tv]
  b4 : BK W (w.heap.size + 2) [.slice Q nq cq]
  b5 : BK W (w.heap.size + 3) [.int .i64 0]
  bb : Below w.heap.size w W
  tr : W.ownsRow n1 57 6 tv pre.length (Ch.tcells (pre.map Ch.El.tn))
  pc : BK W Pp (Ch.pcs nn (pre.map Ch.El.tn) G)
  gs : ∀ j x, Ch.lastOf (pre.map Ch.El.tn) j = some x → n1 ≤ G j ∧ tv.ownBlock ≠ some (G j) ∧ BK W (G j) [.int .i64 x.a, .int .i64 x.b, .int .i64 x.x, .int .i64 x.y]
  ls : ∀ x, pre.getLast? = some x → Q = x.Q ∧ nq = x.nq ∧ cq = x.cq
def RunI (nn : Nat) (w : World) (mb Pp n1 : Nat) (pre : List (Ch.El nn)) (W : World) : Prop := ∃ (tv : Value) (Q : Option Addr) (nq cq : Nat) (G : Nat → Nat), RunS nn w mb Pp n1 pre W tv Q nq cq G
theorem RunI.gb {nn : Nat} {w : World} {mb Pp n1 : Nat} {pre : List (Ch.El nn)} {A B : World} {F : Nat → Prop} (h : RunI nn w mb Pp n1 pre A) (hg : GB F A B) (hF : mb ≤ n1 → ∀ k, F k → k < n1 ∧ w.heap.size + 4 ≤ k ∧ k ≠ Pp) (_ : w.heap.size ≤ Pp) : RunI nn w mb Pp n1 pre B := by
  obtain ⟨tv, Q, nq, cq, G, nb, b2, b3, b4, b5, bb, tr, pc, gs, ls⟩ := h; replace hF := hF nb; refine ⟨tv, Q, nq, cq, G, nb, b2.gb hg (fun h => by have := hF _ h; omega), b3.gb hg (fun h => by have := hF _ h; omega), b4.gb hg (fun h => by have := hF _ h; omega), b5.gb hg (fun h => by have := hF _ h; omega), hg.toBelow bb (fun k hk => by have := hF k hk; omega) bb.size, row_mid tr ⟨hg.size, fun k h1 h2 => hg.block k h2 (fun hf => by have := hF k hf; omega)⟩, pc.gb hg (fun h => by have := hF _ h; omega), fun j x hx => ?_, ls⟩; obtain ⟨g1, g2, g3⟩ := gs j x hx; exact ⟨g1, g2, g3.gb hg (fun h => by have := hF _ h; omega)⟩
theorem RunI.row {nn : Nat} {w : World} {mb Pp n1 : Nat} {pre : List (Ch.El nn)} {A : World} {r : Nat} (h : RunI nn w mb Pp n1 pre A) (hr : rowOf A (w.heap.size + 1) = some r) : r < A.heap.size ∧ n1 ≤ r := by
  obtain ⟨tv, Q, nq, cq, G, nb, b2, b3, b4, b5, bb, tr, pc, gs, ls⟩ := h
  unfold rowOf at hr
  rw [b3.c 0 rfl] at hr; have := World.ownsRow.lt tr r hr; exact ⟨this.2, this.1⟩
theorem at_wpIn {F : Fence} {n : Nat} {P : Program} {c : Code} {Q : Exit → Act → World → Prop} {a : Act} {w : World} {T : World → Prop} (h : T w) (k : ∀ v, T v → Code.wpIn F n P c Q a v) : Code.wpIn F n P c Q a w := k w h
theorem GB.toF {F F' : Nat → Prop} {V W : World} (h : GB F V W) (hF : ∀ k, F k → F' k) : GB F' V W := h.to fun k _ => hF k
theorem RunS.step {nn : Nat} {w : World} {mb Pp n1 : Nat} {pre : List (Ch.El nn)} {W W9 W10 : World} {tv : Value} {Q0 : Option Addr} {nq0 cq0 : Nat} {G : Nat → Nat} {x : Ch.El nn} {g cap : Nat} (h : RunS nn w mb Pp n1 pre W tv Q0 nq0 cq0 G) (hb9 : Below W.heap.size W W9) (hnW : n1 ≤ W.heap.size) (hP : w.heap.size + 4 ≤ Pp) (hPm : Pp < mb)
    (hHeld : GB (fun k => (k = w.heap.size + 1 ∨ k = w.heap.size + 2) ∨ tv.ownBlock = some k) W9 W10) (B3 : BK W10 (w.heap.size + 1) [.slice (some ⟨g, 0, none⟩) (pre.length + 1) cap]) (B4 : BK W10 (w.heap.size + 2) [.slice x.Q x.nq x.cq])
    (hrow : W10.ownsRow n1 57 6 (.slice (some ⟨g, 0, none⟩) (pre.length + 1) cap) (pre.length + 1) (Ch.tcells (pre.map Ch.El.tn) ++ [.int .i64 (x.ag : Nat), .int .i64 x.a, .int .i64 x.b, .int .i64 x.x, .int .i64 x.y, .int .i64 (x.t : Nat)])) (hgq : tv.ownBlock = some g ∨ W9.heap.size ≤ g) :
    RunI nn w mb Pp n1 (pre ++ [x]) ((W10.alloc (.cells #[.int .i64 x.a, .int .i64 x.b, .int .i64 x.x, .int .i64 x.y] 60)).setCell ⟨Pp, x.ag, none⟩ (.slice (some ⟨W10.heap.size, 0, none⟩) 1 1)) ∧
      KPr [w.heap.size, w.heap.size + 1, w.heap.size + 2, w.heap.size + 3, Pp] (w.heap.size + 1) W ((W10.alloc (.cells #[.int .i64 x.a, .int .i64 x.b, .int .i64 x.x, .int .i64 x.y] 60)).setCell ⟨Pp, x.ag, none⟩ (.slice (some ⟨W10.heap.size, 0, none⟩) 1 1)) := by
  obtain ⟨nb, b2, b3, b4, b5, bb, tr, pc, gs, ls⟩ := h
  have hown := fun k h => World.ownsRow.lt tr k h
  have hglt := (World.ownsRow.lt hrow g rfl).2; have h9 := hb9.size; have h10 := hHeld.size; have hbw := bb.size
  have hF0 : ∀ k, k < n1 → k ≠ w.heap.size + 1 → k ≠ w.heap.size + 2 → ¬ ((k = w.heap.size + 1 ∨ k = w.heap.size + 2) ∨ tv.ownBlock = some k) := fun k h1 h2 h3 h => by
    rcases h with h | h
    · omega
    · have := (hown _ h).1
      omega
  have B2 := (b2.keep hb9).gb hHeld (hF0 _ (by omega) (by omega) (by omega)); have B5 := (b5.keep hb9).gb hHeld (hF0 _ (by omega) (by omega) (by omega)); have BP := (pc.keep hb9).gb hHeld (hF0 _ (by omega) (by omega) (by omega))
  have hr0 : rowOf W (w.heap.size + 1) = tv.ownBlock := by
    unfold rowOf
    rw [b3.c 0 rfl]
  obtain ⟨S, hS⟩ : ∃ S : Obj, Obj.cells #[.int .i64 x.a, .int .i64 x.b, .int .i64 x.x, .int .i64 x.y] 60 = S := ⟨_, rfl⟩; have BN := BK.new W10 [.int .i64 x.a, .int .i64 x.b, .int .i64 x.x, .int .i64 x.y] 60; have hSS : Obj.cells [Value.int .i64 x.a, .int .i64 x.b, .int .i64 x.x, .int .i64 x.y].toArray 60 = S := hS; rw [hSS] at BN; rw [hS]; have B3' := (B3.al S).far (show Pp ≠ w.heap.size + 1 by omega) x.ag (.slice (some ⟨W10.heap.size, 0, none⟩) 1 1)
  constructor
  · refine ⟨.slice (some ⟨g, 0, none⟩) (pre.length + 1) cap, x.Q, x.nq, x.cq, fun j => if j = x.ag then W10.heap.size else G j, nb, (B2.al S).far (by omega) _ _, B3', (B4.al S).far (by omega) _ _, (B5.al S).far (by omega) _ _, ?_, ?_, ?_, ?_, ?_⟩
    · exact below_set (below_al (hHeld.toBelow (keepB bb hb9) (fun k hk => by
        rcases hk with hk | hk
        · omega
        · have := (hown _ hk).1
          omega) (by omega)) S) (by omega) _
    · rw [List.map_append, List.length_append, List.map_cons, List.map_nil, Ch.tcells_snoc]
      exact row_mid (row_keep hrow (below_al (Below.refl _ _) S)) ((Mid.refl n1 _).set (.inl (by omega)) _)
    · have b := (BP.al S).set x.ag (.slice (some ⟨W10.heap.size, 0, none⟩) 1 1)
      rw [show (Ch.pcs nn (pre.map Ch.El.tn) G).set x.ag (.slice (some ⟨W10.heap.size, 0, none⟩) 1 1) = _ from Ch.pcs_snoc nn (pre.map Ch.El.tn) G x.tn W10.heap.size] at b; rw [List.map_append, List.map_cons, List.map_nil]; exact b
    · intro j y hy
      rw [List.map_append, List.map_cons, List.map_nil, Ch.lastOf_snoc] at hy
      by_cases e : x.ag = j
      · rw [if_pos (show x.tn.ag = j from e)] at hy
        cases hy
        show n1 ≤ (if j = x.ag then W10.heap.size else G j) ∧ _
        rw [if_pos e.symm]; refine ⟨by omega, fun he => ?_, BN.far (by omega) _ _⟩
        have : g = W10.heap.size := by simpa [Value.ownBlock] using he
        omega
      · rw [if_neg (show ¬ x.tn.ag = j from e)] at hy
        obtain ⟨g1, g2, g3⟩ := gs j y hy; have hgl := g3.lt
        show n1 ≤ (if j = x.ag then W10.heap.size else G j) ∧ _
        rw [if_neg (fun h => e h.symm)]; refine ⟨g1, fun he => ?_, (((g3.keep hb9).gb hHeld (fun h => ?_)).al S).far (by omega) _ _⟩
        · have : g = G j := by simpa [Value.ownBlock] using he
          rcases hgq with h | h
          · exact g2 (this ▸ h)
          · omega
        · rcases h with h | h
          · omega
          · exact g2 h
    · intro y hy
      simp at hy
      subst hy; exact ⟨rfl, rfl, rfl⟩
  · constructor
    · exact ((((GB.refl _ W).below hb9).comp (hHeld.toF fun k hk => by
        rw [hr0]
        rcases hk with (hk | hk) | hk
        · exact .inl (by simp [hk])
        · exact .inl (by simp [hk])
        · exact .inr hk)).al S).set (.inl (.inl (by simp))) _
    · intro k hk
      unfold rowOf at hk
      rw [B3'.c 0 rfl] at hk
      have : g = k := by simpa [Value.ownBlock] using hk
      subst this; rw [hr0]; exact hgq.imp id (by omega)
/-- What Run gives for valid cakes. -/
def RunR (nn : Nat) (T : List Ch.Tn) (L : List Qr) (w : World) (e : Ending) (w' : World) : Prop :=
  ∃ (Pp : Nat) (tv : Value) (Q : Option Addr) (nq cq : Nat) (G : Nat → Nat), e = .returned (.tuple #[.agg #[.slice (some ⟨Pp, 0, none⟩) nn nn], tv, .slice Q nq cq, .int .i64 0]) ∧ Below w.heap.size w w' ∧
    w'.ownsRow w.heap.size 57 6 tv nn (Ch.tcells T) ∧ BK w' Pp (Ch.pcs nn T G) ∧ (∀ j x, Ch.lastOf T j = some x → BK w' (G j) [.int .i64 x.a, .int .i64 x.b, .int .i64 x.x, .int .i64 x.y]) ∧ IsQs w' Q L ∧ nq = L.length
theorem RunS.done {D : List CkD} {n len : Int} {s0 : Ch.St} {nn : Nat} {w : World} {mb Pp n1 z z2 : Nat} {xs : List (Ch.El nn)} {W : World} {tv : Value} {Q0 : Option Addr} {nq0 cq0 : Nat} {G : Nat → Nat} (h : RunS nn w mb Pp n1 xs W tv Q0 nq0 cq0 G) (hS : RndE D n len s0 z2 nn (z :: z2 :: [w.heap.size, w.heap.size + 1, w.heap.size + 2, w.heap.size + 3, Pp]) xs W)
    (u : World) (hg : GB (fun k => (w.heap.size ≤ k ∧ k ≤ w.heap.size + 3) ∨ k = z) W u) (hn : 1 ≤ nn) (hz : w.heap.size + 4 ≤ z) (hzm : z < mb) (hP : w.heap.size + 4 ≤ Pp) (hPm : Pp < z) :
    RunR nn ((List.range nn).map fun k => Ch.rtn D n len (Ch.sts D n len s0 k)) (Ch.sts D n len s0 nn).L w (.returned (.tuple #[.agg #[.slice (some ⟨Pp, 0, none⟩) nn nn], tv, .slice Q0 nq0 cq0, .int .i64 0])) u := by
  obtain ⟨nb, b2, b3, b4, b5, bb, tr, pc, gs, ls⟩ := h; obtain ⟨htn, A', ca', cs', Q', cq', lo', Wd', hfd, hmd, hsp, hls⟩ := hS; have hbw := bb.size
  have hxl : xs.length = nn := by
    have := congrArg List.length htn
    simpa using this
  obtain ⟨y, hy⟩ : ∃ y, xs.getLast? = some y := by
    cases hc : xs.getLast? with
    | none =>
      simp at hc
      subst hc
      simp at hxl
      omega
    | some y => exact ⟨y, rfl⟩
  obtain ⟨e1, e2, e3⟩ := ls y hy; obtain ⟨f1, f2, f3⟩ := hls y hy; rw [htn] at tr pc gs; rw [hxl] at tr; have hm : Mid n1 W u := ⟨hg.size, fun k h1 h2 => hg.block k h2 (fun hf => by rcases hf with hf | hf <;> omega)⟩
  have hq := (hfd.mid (hmd.gb hg (fun k h1 h2 hf => by
    have := (hsp k h1 h2).2
    simp at this
    rcases hf with hf | hf <;> omega))).isQs
  refine ⟨Pp, tv, Q0, nq0, cq0, G, rfl, hg.toBelow bb (fun k hk => by rcases hk with hk | hk <;> omega) hbw, (row_mid tr hm).mono (by omega), pc.gb hg (fun hf => by rcases hf with hf | hf <;> omega), fun j x hx => ?_, by rw [e1, f1]; exact hq, by rw [e2, f2]⟩; obtain ⟨g1, g2, g3⟩ := gs j x hx; exact g3.gb hg (fun hf => by rcases hf with hf | hf <;> omega)
set_option linter.unusedSimpArgs false in
set_option maxHeartbeats 8000000 in
set_option maxRecDepth 100000 in
theorem tmrun_any (D : List CkD) (n len : Int) (nn : Nat) (A : Option Addr) (ca : Nat) (cs : List CkR) (s0 : Ch.St) (hs0 : s0 = ⟨0, 1, List.range nn, []⟩) (w : World) (h : IsCs w A cs) (hD : cs.map Ak.dat = D) (hc : Ak.chkS D 0 = 0) (hn : n = (D.length : Nat)) (hnn : nn = D.length) (hlen : (Ak.dAt D 0).1 = len)
    (hs : ∀ i, i < nn → Ch.SGood D n (Ch.sts D n len s0 i) ∧ (Ch.sts D n len s0 i).l.length = nn - i) :
    Calls Tryz.prog 16 #[.slice A cs.length ca] w (RunR nn ((List.range nn).map fun k => Ch.rtn D n len (Ch.sts D n len s0 k)) (Ch.sts D n len s0 nn).L w) := by
  have op := fun v (hv : Below w.heap.size w v) => askOpen_any A ca cs v (h.keep hv)
  rw [hD] at op
  unfold OpenQ at op
  have hgd := Ak.chkS_good hc
  have hcl : cs.length = nn := by rw [hnn, ← hD, List.length_map]
  have hn6 : nn ≤ 6 := by rw [hnn]; exact hgd.l1
  have hn1 : 1 ≤ nn := by rw [hnn]; exact hgd.l0
  have hDl : D.length = nn := hnn.symm; rw [hcl] at op ⊢; have OP := Lib.hid op; have HC := Lib.hid hc; have HN := Lib.hid hn; have HNN := Lib.hid hnn; have HLEN := Lib.hid hlen; have HSS := Lib.hid hs; have HS0 := Lib.hid hs0; have HDL := Lib.hid hDl; clear op hgd hcl hc hn hnn hlen hs hs0 hD h hDl; refine (callsIn_wide (n := 9)).1 ?_; refine callsIn_of_wp_marks Tryz.func16 rfl trivial ?_ rfl; refine wpIn_wide.2 ?_
  simp only [Tryz.ntmps16, List.size_toArray, List.length_cons, List.length_nil, Nat.reduceAdd, Nat.reduceSub, Array.replicate_succ, Array.replicate_zero, List.push_toArray, List.append_toArray, List.nil_append, List.cons_append]
  go_upto_region 1 with fail
  refine at_worldQ (fun v => Below w.heap.size w v ∧ BK v (w.heap.size) [.slice none 0 0] ∧ BK v (w.heap.size + 1) [.slice none 0 0] ∧ BK v (w.heap.size + 2) [.slice none 0 0] ∧ BK v (w.heap.size + 3) [.int .i64 0] ∧ v.heap.size = w.heap.size + 4) ⟨(below_al (below_al (below_al (below_al (Below.refl _ _) _) _) _) _), (by have b := ((((BK.new w [.slice none 0 0] 27).al (.cells #[.slice none 0 0] 50)).al (.cells #[.slice none 0 0] 28)).al (.cells #[.int .i64 0] 29)); simpa only [World.size_alloc] using b), (by have b := (((BK.new (w.alloc (.cells #[.slice none 0 0] 27)) [.slice none 0 0] 50).al (.cells #[.slice none 0 0] 28)).al (.cells #[.int .i64 0] 29)); simpa only [World.size_alloc] using b), (by have b := ((BK.new ((w.alloc (.cells #[.slice none 0 0] 27)).alloc (.cells #[.slice none 0 0] 50)) [.slice none 0 0] 28).al (.cells #[.int .i64 0] 29)); simpa only [World.size_alloc] using b), (by have b := (BK.new (((w.alloc (.cells #[.slice none 0 0] 27)).alloc (.cells #[.slice none 0 0] 50)).alloc (.cells #[.slice none 0 0] 28)) [.int .i64 0] 29); simpa only [World.size_alloc] using b), by simp only [World.size_alloc]⟩ (fun V hS => ?_); obtain ⟨hbb, B0, B1, B2, B3, hVs⟩ := hS; (go_wp2_with fail); refine (OP.out _ hbb).mono ?_; rintro e w1 ⟨hb, ⟨hne, _⟩ | ⟨_, A1, ca1, cs1, Q1, cq1, rfl, hd1, hfd⟩⟩
  · exact absurd HC.out hne
  have HD1 := Lib.hid hd1
  have hcl1 : cs1.length = nn := by rw [← HDL.out, ← hd1, List.length_map]
  rw [hcl1]; have HCL1 := Lib.hid hcl1; clear hd1 hcl1 OP; have hv1 := hb.size; replace hbb := keepB hbb hb; replace B0 := B0.keep hb; replace B1 := B1.keep hb; replace B2 := B2.keep hb; replace B3 := B3.keep hb; clear hb; have r5 := B3.c 0 rfl; have f5 := B3.f 0 rfl; have d3 := B3.lt
  go_upto_region 4 with fail
  refine at_worldQ (fun v => Below w.heap.size w v ∧ BK v w.heap.size [.slice none 0 0] ∧ BK v (w.heap.size + 1) [.slice none 0 0] ∧ BK v (w.heap.size + 2) [.slice none 0 0] ∧ BK v (w.heap.size + 3) [.int .i64 0] ∧ BK v w1.heap.size [.slice A1 nn ca1, .slice Q1 0 cq1] ∧ GB (fun k => k = w.heap.size + 3) w1 v ∧ v.heap.size = w1.heap.size + 1) ⟨below_al (below_set hbb (by omega) _) _, (B0.far (by omega) _ _).al _, (B1.far (by omega) _ _).al _, (B2.far (by omega) _ _).al _, (B3.set 0 _).al _, (by have b := BK.new (w1.setCell ⟨w.heap.size + 3, 0, none⟩ (.int .i64 0)) [.slice A1 nn ca1, .slice Q1 0 cq1] 65; simpa only [World.size_setCell] using b), ((GB.refl (fun k => k = w.heap.size + 3) w1).set (.inl rfl) _).al _, by simp⟩ (fun V4 hS => ?_); clear hbb B0 B1 B2 B3 r5 f5 d3; obtain ⟨hbb, B0, B1, B2, B3, B6, hG14, hs4⟩ := hS; have hmk := span_make nn (by omega); have d0 := B0.lt; have c0 := B0.c 0 rfl; have f0 := B0.f 0 rfl; have c0' := (B0.al (.cells (Array.replicate nn (Value.slice none 0 0)) 58)).c 0 rfl; have f0' := (B0.al (.cells (Array.replicate nn (Value.slice none 0 0)) 58)).f 0 rfl
  go_upto_region 5 with fail
  refine at_worldQ (fun v => Below w.heap.size w v ∧ BK v w.heap.size [.slice (some ⟨w1.heap.size + 1, 0, none⟩) nn nn] ∧ BK v (w.heap.size + 1) [.slice none 0 0] ∧ BK v (w.heap.size + 2) [.slice none 0 0] ∧ BK v (w.heap.size + 3) [.int .i64 0] ∧ BK v w1.heap.size [.slice A1 nn ca1, .slice Q1 0 cq1] ∧ BK v (w1.heap.size + 1) (List.replicate nn (Value.slice none 0 0)) ∧ GB (fun k => w.heap.size ≤ k ∧ k < w.heap.size + 4) w1 v ∧ v.heap.size = w1.heap.size + 2) ⟨below_set (below_al hbb _) (by omega) _, (B0.al _).set 0 _, (B1.al _).far (by omega) _ _, (B2.al _).far (by omega) _ _, (B3.al _).far (by omega) _ _, (B6.al _).far (by omega) _ _, (by
    have b := BK.new V4 (List.replicate nn (Value.slice none 0 0)) 58; rw [List.toArray_replicate, hs4] at b
    exact b.far (by omega) _ _), ((hG14.to fun k _ h => ⟨by omega, by omega⟩).al _).set (.inl ⟨by omega, by omega⟩) _, by simp [hs4]⟩ (fun V5 hS => ?_)
  clear hbb B0 B1 B2 B3 B6 hG14 hs4 c0 f0 c0' f0' hmk d0; obtain ⟨hbb, B0, B1, B2, B3, B6, BP, hG15, hs5⟩ := hS; have q0 := B6.c 0 rfl; have q1 := B6.c 1 rfl; (go_wp2_with fail); refine (tmrounds_any A1 nn ca1 Q1 0 cq1 V5).mono ?_; rintro e w6 ⟨rfl, BD, hb⟩; have hs6 := BD.lt; have hw6 := hb.size; replace hbb := keepB hbb hb; replace B0 := B0.keep hb; replace B1 := B1.keep hb; replace B2 := B2.keep hb; replace B3 := B3.keep hb; replace BP := BP.keep hb; have hG16 := hG15.below hb; have hmd : Mid (w.heap.size + 4) w1 w6 := ⟨hG16.size, fun k h1 h2 => hG16.block k h2 (by omega)⟩; rw [hVs] at hfd hv1; obtain ⟨Bd, hBd⟩ : ∃ z, V5.heap.size = z := ⟨_, rfl⟩; obtain ⟨Pp, hPp⟩ : ∃ z, w1.heap.size + 1 = z := ⟨_, rfl⟩; rw [hPp] at B0 BP
  simp only [hBd, hPp]
  rw [hBd] at BD; clear hG15 hG16 hb B6 q0 q1; (go_wp2_with fail); refine (wpIn_wide (n := 9)).1 ?_; refine name_act (fun a0 hA0 => ?_)
  have hri := fun W1 (hb1 : Below w6.heap.size w6 W1) (hsz : W1.heap.size = w6.heap.size + 2) => rounds_in D n len nn A1 ca1 cs1 Q1 cq1 (w.heap.size + 4) Bd (w.heap.size + 1) (w6.heap.size + 1) (w6.heap.size :: (w6.heap.size + 1) :: [w.heap.size, w.heap.size + 1, w.heap.size + 2, w.heap.size + 3, Pp]) [] s0 HS0.out w1 W1 8 (by omega) HC.out HN.out HNN.out HLEN.out HD1.out hfd (hmd.call hb1) (by rw [HCL1.out]; exact BD.keep hb1) HSS.out (by simp; omega) (by simp) (by intro k hk; simp at hk; omega) (by omega) (by omega) (fun k h1 h2 => ⟨by omega, by simp; omega, by omega⟩)
  have HRI := Lib.hid hri; have H0 := Lib.hid (show ∀ n1 W, w6.heap.size + 2 ≤ n1 → Below w6.heap.size w6 W → RunI nn w (w6.heap.size + 2) Pp n1 [] W from fun n1 W hn1 hb => ⟨_, none, 0, 0, fun _ => 0, hn1, B0.keep hb, B1.keep hb, B2.keep hb, B3.keep hb, keepB hbb hb, World.ownsRow_nil _ _ _ _, by rw [List.map_nil, Ch.pcs_nil]; exact BP.keep hb, fun j x hx => by simp [Ch.lastOf] at hx, fun x hx => by simp at hx⟩); clear hri B0 B1 B2 B3 BP BD hfd hmd
  refine range_rel (F := Fence.wide) rfl (by omega) (gf := 64) (lb := #[.pointer (some ⟨Bd, 0, none⟩)]) (by rw [hA0]; rfl) trivial (enters_of Tryz.func64 (by kernel_rfl) rfl) (encs := Ch.El.enc) (fun _ => rfl) (Bd := Bd) (Bt := w.heap.size + 1) (Ws := [w.heap.size, w.heap.size + 1, w.heap.size + 2, w.heap.size + 3, Pp]) (by omega) (by omega) (by intro k hk; simp at hk; omega) HRI.out (fun xs A B h hg => RndE.gb h hg) (RunI nn w (w6.heap.size + 2) Pp) (fun n1 s A B h hg => RunI.gb h hg (fun hn k hk => by omega) (by omega)) (fun n1 s A r h hr => RunI.row h hr) H0.out
    (fun x a' W => ∃ p, a' = { tmps := ((((a0.tmps.setIfInBounds 25 x.rv).setIfInBounds 26 (.int .i64 0)).setIfInBounds 7 (.pointer (some ⟨p, 0, none⟩))).setIfInBounds 8 (.int .i64 0)), defers := [] } ∧ BK W p [.slice x.A x.m x.ca, .slice x.Q x.nq x.cq, .int .i64 (x.ag : Nat), .int .i64 x.a, .int .i64 x.b, .int .i64 x.x, .int .i64 x.y, .int .i64 (x.t : Nat)] ∧ w6.heap.size + 2 ≤ p ∧ rowOf W (w.heap.size + 1) ≠ some p) (fun x a' A B h hg => by
      obtain ⟨p, e, hb, hp, hr⟩ := h; have hl := hb.lt
      exact ⟨p, e, hb.gb hg (by omega), hp, fun e => hr ((rowOf_eq (World.cell?_of_block (a := ⟨w.heap.size + 1, 0, none⟩) (hg.block (w.heap.size + 1) (by omega) (by omega)))).symm.trans e)⟩) ?assign ?body ?done
  case assign =>
    intro l x W K hW hR hK; subst hA0
    unfold Ch.El.enc Ch.El.rv
    have hn : ∀ o : Obj, rowOf (W.alloc o) (w.heap.size + 1) ≠ some W.heap.size := fun o e => by
      have e1 := rowOf_eq ((below_al (Below.refl W.heap.size W) o).cell (p := ⟨w.heap.size + 1, 0, none⟩) (show w.heap.size + 1 < W.heap.size by omega)); have := hR _ (e1.symm.trans e)
      omega
    gi_wp2
    exact hK _ _ (below_al (Below.refl _ _) _) ⟨W.heap.size, rfl, BK.new _ _ _, hW, hn _⟩
  case body =>
    intro l n1 pre x a' W hI hn1 hnW hAx hlen; obtain ⟨tv, Q0, nq0, cq0, G, hI⟩ := hI; have HST := Lib.hid (fun W9 W10 g cap a b c d e f => hI.step (W9 := W9) (W10 := W10) (g := g) (cap := cap) (x := x) a hnW (by omega) (by omega) b c d e f); obtain ⟨nb, b2, b3, b4, b5, bb, tr, pc, gs, ls⟩ := hI; obtain ⟨p, rfl, BR, hp, hpr⟩ := hAx; subst hA0
    have hown := fun k h => World.ownsRow.lt tr k h
    unfold rowOf at hpr
    rw [b3.c 0 rfl] at hpr; replace hpr : tv.ownBlock ≠ some p := hpr
    dsimp only [Ch.El.rv]
    have hpl := BR.lt; have y2 := BR.c 2 rfl; have y3 := BR.c 3 rfl; have y4 := BR.c 4 rfl; have y5 := BR.c 5 rfl; have y6 := BR.c 6 rfl; have y7 := BR.c 7 rfl
    gi_wp2
    rename_i Q12 K12 hK12
    obtain ⟨W9, hW9⟩ : ∃ z, W.alloc (.cells #[.int .i64 (x.ag : Nat), .int .i64 x.a, .int .i64 x.b, .int .i64 x.x, .int .i64 x.y, .int .i64 (x.t : Nat)] 57) = z := ⟨_, rfl⟩; have hb9 : Below W.heap.size W W9 := hW9 ▸ below_al (Below.refl _ _) _
    have B9 : BK W9 W.heap.size [.int .i64 (x.ag : Nat), .int .i64 x.a, .int .i64 x.b, .int .i64 x.x, .int .i64 x.y, .int .i64 (x.t : Nat)] := by
      rw [← hW9]; exact BK.new W [.int .i64 (x.ag : Nat), .int .i64 x.a, .int .i64 x.b, .int .i64 x.x, .int .i64 x.y, .int .i64 (x.t : Nat)] 57
    have hs9 : W9.heap.size = W.heap.size + 1 := by
      rw [← hW9]
      simp
    rw [hW9]; clear hW9 y2 y3 y4 y5 y6 y7; obtain ⟨q, hq⟩ : ∃ z, W.heap.size = z := ⟨_, rfl⟩; have hql := hq; rw [hq] at B9 hs9 hnW hown hpl hb9 ⊢; have v1 := (BR.keep (hq ▸ hb9)).c 1 rfl; have u0 := B9.c 0 rfl; have u1 := B9.c 1 rfl; have u2 := B9.c 2 rfl; have u3 := B9.c 3 rfl; have u4 := B9.c 4 rfl; have u5 := B9.c 5 rfl
    have hn9 : n1 ≤ W9.heap.size := by omega
    have hT1 : tv.ownBlock ≠ some (w.heap.size + 1) := fun e => by have := (hown _ e).1; omega
    have hT2 : tv.ownBlock ≠ some (w.heap.size + 2) := fun e => by have := (hown _ e).1; omega
    have hFq : ¬ ((q = w.heap.size + 1 ∨ q = w.heap.size + 2) ∨ tv.ownBlock = some q) := fun h => by
      rcases h with h | h
      · omega
      · have := (hown _ h).2
        omega
    have hFp : ¬ ((p = w.heap.size + 1 ∨ p = w.heap.size + 2) ∨ tv.ownBlock = some p) := fun h => by
      rcases h with h | h
      · omega
      · exact hpr h
    have B3 := b3.keep (hql ▸ hb9); have B4 := b4.keep (hql ▸ hb9); have hrow := row_keep tr (hql ▸ hb9); obtain ⟨i0, hi0, hz0, hs1, hs2⟩ := info_parts turnInfo; have HIN := Lib.hid hi0; have HIZ := Lib.hid hz0; have HS1 := Lib.hid hs1; have HS2 := Lib.hid hs2; clear hi0 hz0 hs1 hs2
    have hQ : ¬ LetsOut (Exit.then K12 (Exit.inBlock 1 Q12)) := fun h => by
      obtain ⟨a, v, h⟩ := h
      cases h.1
    refine region_inRound (S := (GB (fun k => (k = w.heap.size + 1 ∨ k = w.heap.size + 2) ∨ tv.ownBlock = some k) W9)) (by kernel_rfl) hQ (by kernel_rfl) ((GB.refl _ _).drew) (fun hHeld => ?_); refine at_anyH (fun u => GB (fun k => (k = w.heap.size + 1 ∨ k = w.heap.size + 2) ∨ tv.ownBlock = some k) W9 u ∧ BK u (w.heap.size + 1) [tv] ∧ BK u (w.heap.size + 2) [.slice Q0 nq0 cq0] ∧ u.ownsRow n1 57 6 tv pre.length (Ch.tcells (pre.map Ch.El.tn))) ⟨hHeld, B3.drew, B4.drew, World.ownsRow.drew hrow⟩ (fun W0 hNew => ?_); clear hHeld B3 B4 hrow; obtain ⟨hHeld, B3, B4, hrow⟩ := hNew; refine tkn 1 ?vr1 rfl ?hyr1 hHeld ?restr1
    case hyr1 => (intro w hSw; have ku0 := hSw.cell hFq u0; have ku1 := hSw.cell hFq u1; have ku2 := hSw.cell hFq u2; have ku3 := hSw.cell hFq u3; have ku4 := hSw.cell hFq u4; have ku5 := hSw.cell hFq u5; have kv1 := hSw.cell hFp v1; go_simp; first | done | (with_reducible rfl))
    (try simp only [PPz]); refine tkn 4 ?vr2 rfl ?hyr2 hHeld ?restr2
    case hyr2 => (intro w hSw; go_simp; first | done | (with_reducible rfl))
    (try simp only [PPz]); refine tkn 5 ?vr3 rfl ?hyr3 hHeld ?restr3
    case hyr3 => (intro w hSw; go_simp; first | done | (with_reducible rfl))
    (try simp only [PPz]); refine tkn 6 ?vr4 rfl ?hyr4 hHeld ?restr4
    case hyr4 => (intro w hSw; have ku0 := hSw.cell hFq u0; have ku1 := hSw.cell hFq u1; have ku2 := hSw.cell hFq u2; have ku3 := hSw.cell hFq u3; have ku4 := hSw.cell hFq u4; have ku5 := hSw.cell hFq u5; have kv1 := hSw.cell hFp v1; go_simp; first | done | (with_reducible rfl))
    (try simp only [PPz]); refine rdy2 0 2 rfl rfl (fun K hK => ?_) (fun K hK => ?_)
    ·
      have n0 := B3.c 0 rfl; go_simp; clear n0; refine hK.out _ _ hHeld (fun hNew => ?_); clear hHeld hK K; have hHeld := hNew; clear hNew; (try simp only [PPz]); refine rdy1 2 rfl (fun K hK => ?_); go_simp; refine hK.out _ _ (hHeld.al _) (fun hNew => ?_); clear hHeld hK K; have hHeld := hNew; clear hNew; (try simp only [PPz]); refine at_anyH (fun u => GB (fun k => (k = w.heap.size + 1 ∨ k = w.heap.size + 2) ∨ tv.ownBlock = some k) W9 u ∧ BK u (w.heap.size + 1) [tv] ∧ BK u (w.heap.size + 2) [.slice Q0 nq0 cq0] ∧ u.ownsRow n1 57 6 tv pre.length (Ch.tcells (pre.map Ch.El.tn)) ∧ BK u W0.heap.size [.int .i64 (x.ag : Nat), .int .i64 x.a, .int .i64 x.b, .int .i64 x.x, .int .i64 x.y, .int .i64 (x.t : Nat)]) ⟨hHeld, B3.al _, B4.al _, row_keep hrow (below_al (Below.refl _ _) _), BK.new _ _ _⟩ (fun Wr6 hS => ?_); clear hHeld B3 B4 hrow; obtain ⟨hHeld, B3, B4, hrow, BX⟩ := hS; obtain ⟨PX, hPX⟩ : ∃ PX, W0.heap.size = PX := ⟨_, rfl⟩; rw [hPX] at BX ⊢; clear hPX; refine rdy1 3 rfl (fun K hK => ?_); refine step_append_lies _ (by rfl) _ _ _ (by rfl) n1 57 i0 _ 6 48 Tryz.underlying50 HIN.out HIZ.out HS1.out HS2.out rfl (by omega) tv pre.length (Ch.tcells (pre.map Ch.El.tn)) (by rfl) hrow ⟨PX, 0, none⟩ 1 1 [.int .i64 (x.ag : Nat), .int .i64 x.a, .int .i64 x.b, .int .i64 x.x, .int .i64 x.y, .int .i64 (x.t : Nat)] (by rfl) (by rfl) (fun j u hj => by rw [Addr.add_lit, Nat.zero_add]; exact BX.c j hj) (by intro u hu; simp at hu; rcases hu with rfl | rfl | rfl | rfl | rfl | rfl <;> rfl) (by omega) (by unfold maxLen; omega) (by omega) (Nat.le_trans hn9 hHeld.size) _ rfl ?_; intro g cap Wr7 hown2 hgrow hat hglt; clear BX; have hlw := hHeld; replace B3 := B3.grown hgrow hT1; replace B4 := B4.grown hgrow hT2; refine hK.out _ _ (hHeld.grown hgrow (fun j e => .inl (.inr e))) (fun hNew => ?_); clear hHeld hK K; have hHeld := hNew; clear hNew; (try simp only [PPz]); refine rdy1 7 rfl (fun K hK => ?_); have n0 := B3.c 0 rfl; have f0 := B3.f 0 rfl; go_simp; clear n0 f0; refine hK.out _ _ (hHeld.set (.inl (.inl (.inl rfl))) _) (fun hNew => ?_); replace B3 := B3.set 0 (.slice (some ⟨g, 0, none⟩) (pre.length + 1) cap); replace B4 := B4.far (show w.heap.size + 1 ≠ w.heap.size + 2 by omega) 0 (.slice (some ⟨g, 0, none⟩) (pre.length + 1) cap); replace hown2 := row_mid hown2 ((Mid.refl n1 _).set (p := w.heap.size + 1) (o := 0) (.inl (by omega)) (.slice (some ⟨g, 0, none⟩) (pre.length + 1) cap)); clear hHeld hK K; have hHeld := hNew; clear hNew; (try simp only [PPz]); refine rdy1 8 rfl (fun K hK => ?_); have n0 := B4.c 0 rfl; have f0 := B4.f 0 rfl; go_simp; clear n0 f0; refine hK.out _ _ (hHeld.set (.inl (.inl (.inr rfl))) _) (fun hNew => ?_); replace B3 := B3.far (show w.heap.size + 2 ≠ w.heap.size + 1 by omega) 0 (.slice x.Q x.nq x.cq); replace B4 := B4.set 0 (.slice x.Q x.nq x.cq); replace hown2 := row_mid hown2 ((Mid.refl n1 _).set (p := w.heap.size + 2) (o := 0) (.inl (by omega)) (.slice x.Q x.nq x.cq)); clear hHeld hK K; have hHeld := hNew; clear hNew; (try simp only [PPz]); refine wpAnyH_done (by kernel_rfl) ?_ _
      have hgq : tv.ownBlock = some g ∨ W9.heap.size ≤ g := hat.imp id fun e => by have := hlw.size; omega
      refine hK12 _ _ ?_; refine at_wpIn (T := fun u => GB (fun k => (k = w.heap.size + 1 ∨ k = w.heap.size + 2) ∨ tv.ownBlock = some k) W9 u ∧ BK u (w.heap.size + 1) [.slice (some ⟨g, 0, none⟩) (pre.length + 1) cap] ∧ BK u (w.heap.size + 2) [.slice x.Q x.nq x.cq] ∧ u.ownsRow n1 57 6 (.slice (some ⟨g, 0, none⟩) (pre.length + 1) cap) (pre.length + 1) (Ch.tcells (pre.map Ch.El.tn) ++ [.int .i64 (x.ag : Nat), .int .i64 x.a, .int .i64 x.b, .int .i64 x.x, .int .i64 x.y, .int .i64 (x.t : Nat)])) ⟨hHeld, B3, B4, hown2⟩ (fun W10 hS => ?_); clear hHeld B3 B4 hown2; obtain ⟨hHeld, B3, B4, hrow⟩ := hS; clear hlw hgrow hat hglt u0 u1 u2 u3 u4 u5 v1
      have hF0 : ∀ k, k < n1 → k ≠ w.heap.size + 1 → k ≠ w.heap.size + 2 → ¬ ((k = w.heap.size + 1 ∨ k = w.heap.size + 2) ∨ tv.ownBlock = some k) := fun k h1 h2 h3 h => by
        rcases h with h | h
        · omega
        · have := (hown _ h).1
          omega
      have B2 := (b2.keep (hql ▸ hb9)).gb hHeld (hF0 _ (by omega) (by omega) (by omega)); have BP := (pc.keep (hql ▸ hb9)).gb hHeld (hF0 _ (by omega) (by omega) (by omega)); have BT := B9.gb hHeld hFq; have z0 := B2.c 0 rfl; have u0 := BT.c 0 rfl; have u1 := BT.c 1 rfl; have u2 := BT.c 2 rfl; have u3 := BT.c 3 rfl; have u4 := BT.c 4 rfl; have u5 := BT.c 5 rfl; have hag := x.hag
      have hget : (Ch.pcs nn (pre.map Ch.El.tn) G)[x.ag]? = some (Ch.pcv (pre.map Ch.El.tn) G x.ag) := by
        unfold Ch.pcs
        simp [hag]
      have cp := (BP.al (.cells #[.int .i64 x.a, .int .i64 x.b, .int .i64 x.x, .int .i64 x.y] 60)).c x.ag hget; have fp := (BP.al (.cells #[.int .i64 x.a, .int .i64 x.b, .int .i64 x.x, .int .i64 x.y] 60)).f x.ag hget
      gi_wp2
      exact HST.out W9 W10 g cap (hql ▸ hb9) hHeld B3 B4 hrow hgq
    ·
      go_simp; refine hK.out _ _ (hHeld.al _) (fun hNew => ?_); clear hHeld hK K; have hHeld := hNew; clear hNew; (try simp only [PPz]); refine at_anyH (fun u => GB (fun k => (k = w.heap.size + 1 ∨ k = w.heap.size + 2) ∨ tv.ownBlock = some k) W9 u ∧ BK u (w.heap.size + 1) [tv] ∧ BK u (w.heap.size + 2) [.slice Q0 nq0 cq0] ∧ u.ownsRow n1 57 6 tv pre.length (Ch.tcells (pre.map Ch.El.tn)) ∧ BK u W0.heap.size [.int .i64 (x.ag : Nat), .int .i64 x.a, .int .i64 x.b, .int .i64 x.x, .int .i64 x.y, .int .i64 (x.t : Nat)]) ⟨hHeld, B3.al _, B4.al _, row_keep hrow (below_al (Below.refl _ _) _), BK.new _ _ _⟩ (fun Wr10 hS => ?_); clear hHeld B3 B4 hrow; obtain ⟨hHeld, B3, B4, hrow, BX⟩ := hS; obtain ⟨PX, hPX⟩ : ∃ PX, W0.heap.size = PX := ⟨_, rfl⟩; rw [hPX] at BX ⊢; clear hPX; refine rdy1 0 rfl (fun K hK => ?_); have n0 := B3.c 0 rfl; go_simp; clear n0; refine hK.out _ _ hHeld (fun hNew => ?_); clear hHeld hK K; have hHeld := hNew; clear hNew; (try simp only [PPz]); refine rdy1 3 rfl (fun K hK => ?_); refine step_append_lies _ (by rfl) _ _ _ (by rfl) n1 57 i0 _ 6 48 Tryz.underlying50 HIN.out HIZ.out HS1.out HS2.out rfl (by omega) tv pre.length (Ch.tcells (pre.map Ch.El.tn)) (by rfl) hrow ⟨PX, 0, none⟩ 1 1 [.int .i64 (x.ag : Nat), .int .i64 x.a, .int .i64 x.b, .int .i64 x.x, .int .i64 x.y, .int .i64 (x.t : Nat)] (by rfl) (by rfl) (fun j u hj => by rw [Addr.add_lit, Nat.zero_add]; exact BX.c j hj) (by intro u hu; simp at hu; rcases hu with rfl | rfl | rfl | rfl | rfl | rfl <;> rfl) (by omega) (by unfold maxLen; omega) (by omega) (Nat.le_trans hn9 hHeld.size) _ rfl ?_; intro g cap Wr12 hown2 hgrow hat hglt; clear BX; have hlw := hHeld; replace B3 := B3.grown hgrow hT1; replace B4 := B4.grown hgrow hT2; refine hK.out _ _ (hHeld.grown hgrow (fun j e => .inl (.inr e))) (fun hNew => ?_); clear hHeld hK K; have hHeld := hNew; clear hNew; (try simp only [PPz]); refine rdy1 7 rfl (fun K hK => ?_); have n0 := B3.c 0 rfl; have f0 := B3.f 0 rfl; go_simp; clear n0 f0; refine hK.out _ _ (hHeld.set (.inl (.inl (.inl rfl))) _) (fun hNew => ?_); replace B3 := B3.set 0 (.slice (some ⟨g, 0, none⟩) (pre.length + 1) cap); replace B4 := B4.far (show w.heap.size + 1 ≠ w.heap.size + 2 by omega) 0 (.slice (some ⟨g, 0, none⟩) (pre.length + 1) cap); replace hown2 := row_mid hown2 ((Mid.refl n1 _).set (p := w.heap.size + 1) (o := 0) (.inl (by omega)) (.slice (some ⟨g, 0, none⟩) (pre.length + 1) cap)); clear hHeld hK K; have hHeld := hNew; clear hNew; (try simp only [PPz]); refine rdy1 8 rfl (fun K hK => ?_); have n0 := B4.c 0 rfl; have f0 := B4.f 0 rfl; go_simp; clear n0 f0; refine hK.out _ _ (hHeld.set (.inl (.inl (.inr rfl))) _) (fun hNew => ?_); replace B3 := B3.far (show w.heap.size + 2 ≠ w.heap.size + 1 by omega) 0 (.slice x.Q x.nq x.cq); replace B4 := B4.set 0 (.slice x.Q x.nq x.cq); replace hown2 := row_mid hown2 ((Mid.refl n1 _).set (p := w.heap.size + 2) (o := 0) (.inl (by omega)) (.slice x.Q x.nq x.cq)); clear hHeld hK K; have hHeld := hNew; clear hNew; (try simp only [PPz]); refine wpAnyH_done (by kernel_rfl) ?_ _
      have hgq : tv.ownBlock = some g ∨ W9.heap.size ≤ g := hat.imp id fun e => by have := hlw.size; omega
      refine hK12 _ _ ?_; refine at_wpIn (T := fun u => GB (fun k => (k = w.heap.size + 1 ∨ k = w.heap.size + 2) ∨ tv.ownBlock = some k) W9 u ∧ BK u (w.heap.size + 1) [.slice (some ⟨g, 0, none⟩) (pre.length + 1) cap] ∧ BK u (w.heap.size + 2) [.slice x.Q x.nq x.cq] ∧ u.ownsRow n1 57 6 (.slice (some ⟨g, 0, none⟩) (pre.length + 1) cap) (pre.length + 1) (Ch.tcells (pre.map Ch.El.tn) ++ [.int .i64 (x.ag : Nat), .int .i64 x.a, .int .i64 x.b, .int .i64 x.x, .int .i64 x.y, .int .i64 (x.t : Nat)])) ⟨hHeld, B3, B4, hown2⟩ (fun W10 hS => ?_); clear hHeld B3 B4 hown2; obtain ⟨hHeld, B3, B4, hrow⟩ := hS; clear hlw hgrow hat hglt u0 u1 u2 u3 u4 u5 v1
      have hF0 : ∀ k, k < n1 → k ≠ w.heap.size + 1 → k ≠ w.heap.size + 2 → ¬ ((k = w.heap.size + 1 ∨ k = w.heap.size + 2) ∨ tv.ownBlock = some k) := fun k h1 h2 h3 h => by
        rcases h with h | h
        · omega
        · have := (hown _ h).1
          omega
      have B2 := (b2.keep (hql ▸ hb9)).gb hHeld (hF0 _ (by omega) (by omega) (by omega)); have BP := (pc.keep (hql ▸ hb9)).gb hHeld (hF0 _ (by omega) (by omega) (by omega)); have BT := B9.gb hHeld hFq; have z0 := B2.c 0 rfl; have u0 := BT.c 0 rfl; have u1 := BT.c 1 rfl; have u2 := BT.c 2 rfl; have u3 := BT.c 3 rfl; have u4 := BT.c 4 rfl; have u5 := BT.c 5 rfl; have hag := x.hag
      have hget : (Ch.pcs nn (pre.map Ch.El.tn) G)[x.ag]? = some (Ch.pcv (pre.map Ch.El.tn) G x.ag) := by
        unfold Ch.pcs
        simp [hag]
      have cp := (BP.al (.cells #[.int .i64 x.a, .int .i64 x.b, .int .i64 x.x, .int .i64 x.y] 60)).c x.ag hget; have fp := (BP.al (.cells #[.int .i64 x.a, .int .i64 x.b, .int .i64 x.x, .int .i64 x.y] 60)).f x.ag hget
      gi_wp2
      exact HST.out W9 W10 g cap (hql ▸ hb9) hHeld B3 B4 hrow hgq
  case done =>
    intro n1 xs W hS hI hW hD; subst hA0
    rename_i K13 hK13
    obtain ⟨tv, Q0, nq0, cq0, G, hI⟩ := hI
    have hxl : xs.length = nn := by
      have := congrArg List.length hS.1
      simpa using this
    obtain ⟨g0, ct, hAt, -, -⟩ := hI.tr.form (by omega); obtain ⟨At, hA2⟩ : ∃ z : Option Addr, some ⟨g0, 0, none⟩ = z := ⟨_, rfl⟩; rw [hA2] at hAt; subst hAt; clear hA2 hxl; have HPO := Lib.hid (fun u hg => hI.done hS u hg (by omega) (by omega) (by omega) (by omega) (by omega)); obtain ⟨nb, b2, b3, b4, b5, bb, tr, pc, gs, ls⟩ := hI; clear hS tr pc gs ls; refine hK13 _ _ ?_; (go_wp2_with fail); refine wp_region_noPanic ?_; refine wp_region_held_drew (S := (fun u => GB (fun k => w.heap.size ≤ k ∧ k ≤ w.heap.size + 3) W u ∧ BK u w.heap.size [.slice (some ⟨Pp, 0, none⟩) nn nn] ∧ BK u (w.heap.size + 1) [.slice At xs.length ct] ∧ BK u (w.heap.size + 2) [.slice Q0 nq0 cq0] ∧ BK u (w.heap.size + 3) [.int .i64 0])) (by kernel_rfl) ⟨(GB.refl _ _).drew, b2.drew, b3.drew, b4.drew, b5.drew⟩ (fun hHeld => ?_); refine at_anyH (fun u => GB (fun k => w.heap.size ≤ k ∧ k ≤ w.heap.size + 3) W u ∧ BK u w.heap.size [.slice (some ⟨Pp, 0, none⟩) nn nn] ∧ BK u (w.heap.size + 1) [.slice At xs.length ct] ∧ BK u (w.heap.size + 2) [.slice Q0 nq0 cq0] ∧ BK u (w.heap.size + 3) [.int .i64 0]) hHeld (fun W0 hNew => ?_); clear hHeld; have hHeld := hNew; clear hNew; refine tkn 0 ?vz1 rfl ?hyz1 hHeld ?restz1
    case hyz1 => (intro w hSw; obtain ⟨_, s0, s1, s2, s3⟩ := hSw; have k0 := s0.c 0 rfl; have k1 := s1.c 0 rfl; have k2 := s2.c 0 rfl; go_simp; first | done | (with_reducible rfl))
    (try simp only [PPz]); refine tkn 1 ?vz2 rfl ?hyz2 hHeld ?restz2
    case hyz2 => (intro w hSw; obtain ⟨_, s0, s1, s2, s3⟩ := hSw; have k0 := s0.c 0 rfl; have k1 := s1.c 0 rfl; have k2 := s2.c 0 rfl; go_simp; first | done | (with_reducible rfl))
    (try simp only [PPz]); refine tkn 2 ?vz3 rfl ?hyz3 hHeld ?restz3
    case hyz3 => (intro w hSw; obtain ⟨_, s0, s1, s2, s3⟩ := hSw; have k0 := s0.c 0 rfl; have k1 := s1.c 0 rfl; have k2 := s2.c 0 rfl; go_simp; first | done | (with_reducible rfl))
    (try simp only [PPz]); refine rdy1 3 rfl (fun K hK => ?_); have hH2 := hHeld; obtain ⟨gb0, s0, s1, s2, s3⟩ := hH2; have n0 := s0.c 0 rfl; have f0 := s0.f 0 rfl; go_simp; clear n0 f0; refine hK.out _ _ ⟨gb0.set (.inl (by omega)) (.slice (some ⟨Pp, 0, none⟩) nn nn), s0.set 0 (.slice (some ⟨Pp, 0, none⟩) nn nn), s1.far (by omega) 0 (.slice (some ⟨Pp, 0, none⟩) nn nn), s2.far (by omega) 0 (.slice (some ⟨Pp, 0, none⟩) nn nn), s3.far (by omega) 0 (.slice (some ⟨Pp, 0, none⟩) nn nn)⟩ (fun hNew => ?_); clear gb0 s0 s1 s2 s3 hHeld hK K; have hHeld := hNew; clear hNew; (try simp only [PPz]); refine rdy1 4 rfl (fun K hK => ?_); have hH2 := hHeld; obtain ⟨gb0, s0, s1, s2, s3⟩ := hH2; have n0 := s1.c 0 rfl; have f0 := s1.f 0 rfl; go_simp; clear n0 f0; refine hK.out _ _ ⟨gb0.set (.inl (by omega)) (.slice At xs.length ct), s0.far (by omega) 0 (.slice At xs.length ct), s1.set 0 (.slice At xs.length ct), s2.far (by omega) 0 (.slice At xs.length ct), s3.far (by omega) 0 (.slice At xs.length ct)⟩ (fun hNew => ?_); clear gb0 s0 s1 s2 s3 hHeld hK K; have hHeld := hNew; clear hNew; (try simp only [PPz]); refine rdy1 5 rfl (fun K hK => ?_); have hH2 := hHeld; obtain ⟨gb0, s0, s1, s2, s3⟩ := hH2; have n0 := s2.c 0 rfl; have f0 := s2.f 0 rfl; go_simp; clear n0 f0; refine hK.out _ _ ⟨gb0.set (.inl (by omega)) (.slice Q0 nq0 cq0), s0.far (by omega) 0 (.slice Q0 nq0 cq0), s1.far (by omega) 0 (.slice Q0 nq0 cq0), s2.set 0 (.slice Q0 nq0 cq0), s3.far (by omega) 0 (.slice Q0 nq0 cq0)⟩ (fun hNew => ?_); clear gb0 s0 s1 s2 s3 hHeld hK K; have hHeld := hNew; clear hNew; (try simp only [PPz]); refine rdy1 6 rfl (fun K hK => ?_); have hH2 := hHeld; obtain ⟨gb0, s0, s1, s2, s3⟩ := hH2; have n0 := s3.c 0 rfl; have f0 := s3.f 0 rfl; go_simp; clear n0 f0; refine hK.out _ _ ⟨gb0.set (.inl (by omega)) (.int .i64 0), s0.far (by omega) 0 (.int .i64 0), s1.far (by omega) 0 (.int .i64 0), s2.far (by omega) 0 (.int .i64 0), s3.set 0 (.int .i64 0)⟩ (fun hNew => ?_); clear gb0 s0 s1 s2 s3 hHeld hK K; have hHeld := hNew; clear hNew; (try simp only [PPz]); refine wpAnyH_done (by kernel_rfl) ?_ _; refine NoPanic.normal ?_; obtain ⟨gb0, t0, t1, t2, t3⟩ := hHeld; (go_wp2_with fail); have hd9 := (gb0.block w6.heap.size (by omega) (by omega)).trans hD; refine ⟨by simp, .inl ⟨_, _, rfl, run_takeDeferred hd9, ?_⟩⟩
    have gp := fun u (_ : GB (fun k => w.heap.size ≤ k ∧ k ≤ w.heap.size + 3) W u) => GB.put (F := fun k => k = w6.heap.size) (W := u) (l := w6.heap.size) rfl (.deferred none)
    have x0 := (t0.gb (gp _ gb0) (by omega)).c 0 rfl; have x1 := (t1.gb (gp _ gb0) (by omega)).c 0 rfl; have x2 := (t2.gb (gp _ gb0) (by omega)).c 0 rfl; have x3 := (t3.gb (gp _ gb0) (by omega)).c 0 rfl; refine ⟨.tuple #[.agg #[.slice (some ⟨Pp, 0, none⟩) nn nn], .slice At xs.length ct, .slice Q0 nq0 cq0, .int .i64 0], ?_, HPO.out _ ((gb0.toF (fun k h => .inl h)).comp ((gp _ gb0).toF (fun k h => .inr h)))⟩
    simp [results, Tryz.results16, go_sem, x0, x1, x2, x3]
end Go.Proofs.YtpcdggkajindbaaGreat

