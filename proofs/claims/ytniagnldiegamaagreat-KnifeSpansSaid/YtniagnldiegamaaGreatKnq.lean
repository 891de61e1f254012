/- Package knife: what the boxes of Spans hold behind some stops. -/
import Derived.Test.YtniagnldiegamaaGreatKnk
import Derived.Test.YtniagnldiegamaaGreatKns
import Derived.Test.YtniagnldiegamaaGreatGh
import Derived.Test.YtniagnldiegamaaGreatKnd
import Derived.Deep.OwnRows
namespace Go.Proofs.YtniagnldiegamaaGreat
open Go.RowKit
theorem knspan_make (n : Nat) (hn : n ≤ 1000) (v : World) : Sem.run Tryz.prog (Instr.makeSlice 36 (.int .i64 (n : Int)) (.int .i64 (n : Int))) v = .ok (.slice (some ⟨v.heap.size, 0, none⟩) n n) (v.alloc (.cells (Array.replicate n (Value.slice none 0 0)) 74)) := by
  have h := run_make_row' (P := Tryz.prog) 36 74 (.slice none 0 0) 24 (by kernel_rfl) (by kernel_rfl) rfl .i64 .i64 n (by omega) (by omega) v
  have e : madeCells #[Value.slice none 0 0] n = Array.replicate n (Value.slice none 0 0) := by
    apply Array.ext
    · simp [madeCells]
    · intro i h1 h2
      simp [madeCells, Nat.mod_one]
  rw [e] at h; exact h
namespace Kn
open Ch
/-- What stopped gives for a good state. -/
def StQ (D : List CkD) (n len : Int) (m : Nat) (s : St) (F : Nat → Prop) (w : World) (e : Ending) (w' : World) : Prop :=
  ∃ (A2 : Option Addr) (ca2 : Nat) (Q2 : Option Addr) (n2 cq2 : Nat) (l2 : List CkR), e = .returned (.tuple #[.agg #[.slice A2 m ca2, .slice Q2 n2 cq2], .int .i64 ((stp D n len s).1 : Nat), .agg #[.int .i64 (stp D n len s).2.1, .int .i64 (stp D n len s).2.2]]) ∧ Below w.heap.size w w' ∧ l2.length = m ∧ (slg D n s).length = n2 ∧ l2.map Ak.dat = D ∧ DkP F w' A2 l2 Q2 (slg D n s)
theorem stopped_good (D : List CkD) (n len : Int) (s : St) (A : Option Addr) (ca : Nat) (cs : List CkR) (Q : Option Addr) (cq g m0 cap m k : Nat) (F : Nat → Prop) (w : World) (hK : DkP F w A cs Q s.L) (hm : cs.length = m) (hk : s.L.length = k) (hD : cs.map Ak.dat = D) (hc : Ak.chkS D 0 = 0) (hlen : (Ak.dAt D 0).1 = len) (hn : n = (D.length : Nat)) (hB : BK w g (Hi.cells1 s.l)) (hm0 : s.l.length = m0) (h1 : 1 ≤ m0) (h6 : m0 ≤ 6) (hs : SGood D n s) (hF : ∀ j, F j → j < w.heap.size) :
    Calls Tryz.prog 48 #[.agg #[.slice A m ca, .slice Q k cq], .slice (some ⟨g, 0, none⟩) m0 cap, .agg #[.int .i64 s.a, .int .i64 s.b]] w (StQ D n len m s F w) := by
  obtain ⟨hC, hq⟩ := hK w (GB.refl _ _)
  have hl0 : (Hi.cells1 s.l)[0]? = some (.int .i64 (s.l.getD 0 0 : Nat)) := by
    unfold Hi.cells1
    simp [show 0 < s.l.length by omega]
  by_cases e : m0 = 1
  · have e1 : stp D n len s = (s.l.getD 0 0, len, 1) := by unfold stp; rw [if_pos (by omega)]
    have e2 : slg D n s = s.L := by unfold slg; rw [if_pos (by omega)]
    refine (knstopped_one D len s.a s.b A ca cs Q cq g m0 cap m k (s.l.getD 0 0) s.l w hC hm hD hc hlen hB e hl0).mono ?_; rintro e w' ⟨rfl, hb⟩
    unfold StQ
    rw [e1, e2]; exact ⟨A, ca, Q, k, cq, cs, rfl, hb, hm, hk, hD, hK.keep ((GB.refl F w).below hb)⟩
  · have e1 : stp D n len s = bst D n s.a s.b s.l (s.l.getD 0 0, len, 1) := by unfold stp; rw [if_neg (by omega)]
    have e2 : slg D n s = s.L ++ s.l.map (qM D n s.a s.b) := by unfold slg; rw [if_neg (by omega)]
    refine (knstopped_more D n len s.a s.b A ca cs Q s.L cq g m0 cap m k (s.l.getD 0 0) s.l w hC hq hm hk hD hc hlen hB hm0 hn (by omega) h6 hl0 hs.fit (by have := hs.lg; omega) hs.ia hs.ib hs.sh).mono ?_; rintro e w' ⟨A2, m2, ca2, Q2, n2, cq2, l2, fi, tx, ty, rfl, hb, hbs, h3, h4, h5, hf⟩
    unfold StQ
    rw [e1, e2, hbs]
    have h7 : m2 = m := by
      have a := congrArg List.length h5; have b := congrArg List.length hD; rw [List.length_map] at a b
      omega
    subst h7; exact ⟨A2, ca2, Q2, n2, cq2, l2, rfl, hb, h3, h4, h5, fd_dkp hf hF⟩
/-- Who stops the knife for the time k, and the span that it has. -/
def agk (D : List CkD) (n len : Int) (k : Nat) : Nat := (stp D n len (sts D n len k)).1
def spk (D : List CkD) (n len : Int) (k : Nat) : Sp := (agk D n len k, (sts D n len k).a, (sts D n len k).b, (stp D n len (sts D n len k)).2.1, (stp D n len (sts D n len k)).2.2)
def Tk (D : List CkD) (n len : Int) (k : Nat) : List Sp := (List.range k).map (spk D n len)
theorem Tk_succ (D : List CkD) (n len : Int) (k : Nat) : Tk D n len (k + 1) = Tk D n len k ++ [spk D n len k] := by
  unfold Tk
  rw [List.range_succ, List.map_append]
  rfl
def ors (D : List CkD) (n len : Int) (k : Nat) : List Int := (List.range k).map fun j => ((agk D n len j : Nat) : Int)
theorem ors_succ (D : List CkD) (n len : Int) (k : Nat) : ors D n len (k + 1) = ors D n len k ++ [((agk D n len k : Nat) : Int)] := by
  unfold ors
  rw [List.range_succ, List.map_append]
  rfl
theorem ors_len (D : List CkD) (n len : Int) (k : Nat) : (ors D n len k).length = k := by unfold ors; simp
/-- The blocks that Spans writes into. -/
def SF (b0 bx fx Pp ge : Nat) (s3 : Value) : Nat → Prop := fun j => (j = b0 ∨ j = bx ∨ j = fx ∨ j = Pp ∨ j = ge) ∨ s3.ownBlock = some j
/-- What the boxes hold ahead of a stop. -/
structure SpI (D : List CkD) (n len : Int) (w : World) (nn bx fx Pp ge no k : Nat) (s3 s8 : Value) (A : Option Addr) (ca : Nat) (cs : List CkR) (Q : Option Addr) (q cq cap : Nat) (G : Nat → Nat) (W : World) : Prop where
  bb : Below w.heap.size w W
  b0 : BK W w.heap.size [.slice (some ⟨Pp, 0, none⟩) nn nn]
  bd : BK W bx [.slice A nn ca, .slice Q q cq]
  bf : BK W fx [.int .i64 (sts D n len k).a, .int .i64 (sts D n len k).b]
  bl : BK W ge (Hi.cells1 (sts D n len k).l)
  bp : BK W Pp (pvs nn (Tk D n len k) G (fun _ => Value.slice none 0 0))
  sp : ∀ t ∈ Tk D n len k, ¬ SF w.heap.size bx fx Pp ge s3 (G t.1) ∧ BK W (G t.1) (spc t)
  or : Own W no s3 (ors D n len k)
  dk : DkP (SF w.heap.size bx fx Pp ge s3) W A cs Q (sts D n len k).L
  cl : cs.length = nn
  ql : (sts D n len k).L.length = q
  cd : cs.map Ak.dat = D
  e8 : s8 = .slice (some ⟨ge, 0, none⟩) (nn - k) cap
  cp : nn - k ≤ cap
  nw : no ≤ W.heap.size
/-- The places of the boxes. -/
structure Plc (w : World) (bx fx Pp ge no : Nat) : Prop where
  p1 : w.heap.size < bx
  p2 : bx < Pp
  p3 : Pp < fx
  p4 : Pp < ge
  p5 : fx ≠ ge
  p6 : fx < no
  p7 : ge < no
theorem SpI.fl {D : List CkD} {n len : Int} {w : World} {nn bx fx Pp ge no k : Nat} {s3 s8 : Value} {A : Option Addr} {ca : Nat} {cs : List CkR} {Q : Option Addr} {q cq cap : Nat} {G : Nat → Nat} {W : World} (h : SpI D n len w nn bx fx Pp ge no k s3 s8 A ca cs Q q cq cap G W) : ∀ j, SF w.heap.size bx fx Pp ge s3 j → j < W.heap.size := fun j hj => by
  rcases hj with (rfl | rfl | rfl | rfl | rfl) | hj
  · exact h.b0.lt
  · exact h.bd.lt
  · exact h.bf.lt
  · exact h.bp.lt
  · exact h.bl.lt
  · exact (h.or.lt j hj).2
theorem dk_next {F F' : Nat → Prop} {w w' : World} {A : Option Addr} {cs : List CkR} {Q : Option Addr} {qs : List Qr} (h : DkP F w A cs Q qs) (hg : GB F w w') (hF : ∀ k, F' k → F k ∨ w.heap.size ≤ k) : DkP F' w' A cs Q qs := fun u hu =>
  h u ⟨hu.os.trans hg.os, hu.tape.trans hg.tape, hu.output.trans hg.output, Nat.le_trans hg.size hu.size, fun i hi hn =>
    (hu.block i (Nat.lt_of_lt_of_le hi hg.size) (fun e => (hF i e).elim hn (by omega))).trans (hg.block i hi hn)⟩
theorem SpI.step {D : List CkD} {n len : Int} {w : World} {nn bx fx Pp ge no k : Nat} {s3 s8 : Value} {A : Option Addr} {ca : Nat} {cs : List CkR} {Q : Option Addr} {q cq cap : Nat} {G : Nat → Nat} {W : World} (h : SpI D n len w nn bx fx Pp ge no k s3 s8 A ca cs Q q cq cap G W) (hp : Plc w bx fx Pp ge no)
    {W1 W6 : World} {A2 : Option Addr} {ca2 : Nat} {cs2 : List CkR} {Q2 : Option Addr} {q2 cq2 gz : Nat} {t3 t8 : Value} (hb1 : Below W.heap.size W W1) (hk1 : DkP (SF w.heap.size bx fx Pp ge s3) W1 A2 cs2 Q2 (slg D n (sts D n len k))) (hg : GB (SF w.heap.size bx fx Pp ge s3) W1 W6)
    (hz : W1.heap.size ≤ gz) (ht3 : ∀ j, t3.ownBlock = some j → s3.ownBlock = some j ∨ gz < j) (h0 : BK W6 w.heap.size [.slice (some ⟨Pp, 0, none⟩) nn nn]) (hd : BK W6 bx [.slice A2 nn ca2, .slice Q2 q2 cq2]) (hf : BK W6 fx [.int .i64 (stp D n len (sts D n len k)).2.1, .int .i64 (stp D n len (sts D n len k)).2.2])
    (hl : BK W6 ge (Hi.cells1 ((sts D n len k).l.eraseIdx ((sts D n len k).l.idxOf (agk D n len k))))) (hP : BK W6 Pp ((pvs nn (Tk D n len k) G (fun _ => Value.slice none 0 0)).set (agk D n len k) (.slice (some ⟨gz, 0, none⟩) 1 1))) (hZ : BK W6 gz (spc (spk D n len k)))
    (ho : Own W6 no t3 (ors D n len k ++ [((agk D n len k : Nat) : Int)])) (hnw : ∀ t ∈ Tk D n len k, t.1 ≠ agk D n len k) (hcl : cs2.length = nn) (hql : (slg D n (sts D n len k)).length = q2) (hcd : cs2.map Ak.dat = D) (h8 : t8 = .slice (some ⟨ge, 0, none⟩) (nn - (k + 1)) cap) (hcp : nn - (k + 1) ≤ cap) :
    SpI D n len w nn bx fx Pp ge no (k + 1) t3 t8 A2 ca2 cs2 Q2 q2 cq2 cap (fun j => if j = agk D n len k then gz else G j) W6 := by
  have hfl := h.fl; have hb1s := hb1.size; obtain ⟨p1, p2, p3, p4, p5, p6, p7⟩ := hp
  have hSF : ∀ j, SF w.heap.size bx fx Pp ge s3 j → w.heap.size ≤ j := fun j hj => by
    rcases hj with (rfl | rfl | rfl | rfl | rfl) | hj
    · exact Nat.le_refl _
    · omega
    · omega
    · omega
    · omega
    · have := (h.or.lt j hj).1
      omega
  have hF' : ∀ j, SF w.heap.size bx fx Pp ge t3 j → SF w.heap.size bx fx Pp ge s3 j ∨ gz < j := fun j hj => by
    rcases hj with hj | hj
    · exact .inl (.inl hj)
    · exact (ht3 j hj).imp .inr id
  have hbw := h.bb.size; refine ⟨hg.toBelow (keepB h.bb hb1) (fun j hj => hSF j hj) (by omega), h0, hd, hf, hl, ?_, ?_, ?_, dk_next hk1 hg (fun j hj => (hF' j hj).imp id (fun e => by omega)), hcl, hql, hcd, h8, hcp, by have := h.nw; have := hg.size; omega⟩
  · rw [Tk_succ]
    have e := pvs_one nn (agk D n len k) gz (spk D n len k).2.1 (spk D n len k).2.2.1 (spk D n len k).2.2.2.1 (spk D n len k).2.2.2.2 (pv (Tk D n len k) G (fun _ => Value.slice none 0 0)); have e2 := pvs_app nn (Tk D n len k) [spk D n len k] G (fun _ => gz) (fun _ => Value.slice none 0 0)
    have e3 : (fun j => if j ∈ [spk D n len k].map (fun t => t.1) then gz else G j) = (fun j => if j = agk D n len k then gz else G j) := by
      funext j
      have : (j ∈ [spk D n len k].map (fun t => t.1)) ↔ j = agk D n len k := by simp [spk]
      by_cases hj : j = agk D n len k
      · rw [if_pos (this.2 hj), if_pos hj]
      · rw [if_neg (fun e => hj (this.1 e)), if_neg hj]
    rw [e3] at e2; rw [← e2]; rw [show (pvs nn (Tk D n len k) G (fun _ => Value.slice none 0 0)).set (agk D n len k) (.slice (some ⟨gz, 0, none⟩) 1 1) = pvs nn [spk D n len k] (fun _ => gz) (pv (Tk D n len k) G (fun _ => Value.slice none 0 0)) from e] at hP; exact hP
  · intro t ht
    rw [Tk_succ] at ht
    have hnz : ¬ SF w.heap.size bx fx Pp ge t3 gz := fun e => by
      rcases hF' _ e with e | e
      · have := hfl _ e
        omega
      · omega
    by_cases e : t.1 = agk D n len k
    · rw [if_pos e]
      rcases List.mem_append.1 ht with ht | ht
      · exact absurd e (hnw t ht)
      · rw [List.mem_singleton.1 ht]
        exact ⟨hnz, hZ⟩
    · rw [if_neg e]
      rcases List.mem_append.1 ht with ht | ht
      · obtain ⟨g1, g2⟩ := h.sp t ht
        have hlt := g2.lt; refine ⟨fun e => ?_, (g2.keep hb1).gb hg g1⟩
        rcases hF' _ e with e | e
        · exact g1 e
        · omega
      · exact absurd (by rw [List.mem_singleton.1 ht]; rfl) e
  · rw [ors_succ]
    exact ho
theorem gb_grown {F : Nat → Prop} {V W W' : World} {row : Option Nat} (h : GB F V W) (hg : W.grownBy W' row) (hr : ∀ k, row = some k → F k) : GB F V W' :=
  ⟨hg.os.trans h.os, hg.tape.trans h.tape, hg.output.trans h.output, Nat.le_trans h.size hg.size, fun i hi hn => (hg.block i (Nat.lt_of_lt_of_le hi h.size) (fun e => hn (hr i e.symm))).trans (h.block i hi hn)⟩
theorem er_map (f : Nat → Int) : ∀ (l : List Nat) (i : Nat), (l.eraseIdx i).map f = (l.map f).eraseIdx i
  | [], _ => rfl
  | _ :: _, 0 => rfl
  | a :: l, i + 1 => by
    show f a :: (l.eraseIdx i).map f = f a :: (l.map f).eraseIdx i
    rw [er_map f l i]
theorem del_nat (g cap m : Nat) (l : List Nat) (fi p : Nat) (w : World) (hB : BK w g (Hi.cells1 l)) (hl : l.length = m) (hnd : l.Pairwise (· < ·)) (hm : fi ∈ l) (h6 : m ≤ 6) (hcap : m ≤ cap) (hp : p ≠ g) (hc : w.cell? ⟨p, 0, none⟩ = some (.int .i64 (fi : Nat))) :
    Calls Tryz.prog 49 #[.slice (some ⟨g, 0, none⟩) m cap, .func (.func 50) #[] #[.pointer (some ⟨p, 0, none⟩)]] w fun e w' => e = .returned (.slice (some ⟨g, 0, none⟩) (m - 1) cap) ∧ GB (fun k => k = g) w w' ∧ BK w' g (Hi.cells1 (l.eraseIdx (l.idxOf fi))) := by
  obtain ⟨zs, hzs⟩ : ∃ zs : List Int, l.map (fun j : Nat => (j : Int)) = zs := ⟨_, rfl⟩
  have e1 : ∀ x : List Nat, Hi.cells1 x = (x.map (fun j : Nat => (j : Int))).map (Value.int .i64) := fun x => by unfold Hi.cells1; rw [List.map_map]; rfl
  have hzl : zs.length = m := by rw [← hzs, List.length_map, hl]
  have hix : l.idxOf fi < l.length := List.idxOf_lt_length_iff.2 hm
  have hget : ∀ k, k < l.length → zs.getD k 0 = ((l.getD k 0 : Nat) : Int) := fun k hk => by rw [← hzs]; simp [hk]
  have hfi : l.getD (l.idxOf fi) 0 = fi := by simp [hix]
  have := kndelete_any g cap zs (l.idxOf fi) (fi : Nat) p w (by rw [← hzs, ← e1]; exact hB) (by omega) (by omega) (by omega) (by rw [hget _ hix, hfi]) (fun k hk hkq => by
    rw [hget k (by omega)]; intro e
    have e : l.getD k 0 = fi := by omega
    have e3 : l.getD k 0 = l[k]'(by omega) := by simp [show k < l.length by omega]
    rw [e3] at e; have e4 : l[l.idxOf fi]'hix = fi := List.getElem_idxOf hix; have hpw := List.pairwise_iff_getElem.1 hnd
    rcases Nat.lt_or_gt_of_ne hkq with h | h
    · have := hpw k (l.idxOf fi) (by omega) hix h
      omega
    · have := hpw (l.idxOf fi) k hix (by omega) h
      omega) hp hc
  rw [hzl] at this; refine this.mono ?_; rintro e w' ⟨rfl, h1, h2⟩; refine ⟨rfl, h1, ?_⟩; rw [e1, er_map, hzs]; exact h2
/-- What Spans holds when all agents have their span. -/
structure FinK (D : List CkD) (n len : Int) (nn b0 Pp go : Nat) (G : Nat → Nat) (Q : Option Addr) (v : World) : Prop where
  p0 : Pp ≠ b0
  p1 : go ≠ b0
  bp : BK v Pp (pvs nn (Tk D n len nn) G (fun _ => Value.slice none 0 0))
  bo : BK v go ((ors D n len nn).map (Value.int .i64))
  sp : ∀ t ∈ Tk D n len nn, G t.1 ≠ b0 ∧ BK v (G t.1) (spc t)
  qs : ∀ w', GB (fun k => k = b0) v w' → IsQs w' Q (sts D n len nn).L
theorem FinK.gb {D : List CkD} {n len : Int} {nn b0 Pp go : Nat} {G : Nat → Nat} {Q : Option Addr} {v v' : World} (h : FinK D n len nn b0 Pp go G Q v) (hg : GB (fun k => k = b0) v v') : FinK D n len nn b0 Pp go G Q v' :=
  ⟨h.p0, h.p1, h.bp.gb hg h.p0, h.bo.gb hg h.p1, fun t ht => ⟨(h.sp t ht).1, (h.sp t ht).2.gb hg (h.sp t ht).1⟩, fun _ k => h.qs _ (gb_comp hg k)⟩
theorem SpI.fin {D : List CkD} {n len : Int} {w : World} {nn bx fx Pp ge no : Nat} {s8 : Value} {A : Option Addr} {ca : Nat} {cs : List CkR} {Q : Option Addr} {q cq cap go co : Nat} {G : Nat → Nat} {W : World} (h : SpI D n len w nn bx fx Pp ge no nn (.slice (some ⟨go, 0, none⟩) nn co) s8 A ca cs Q q cq cap G W) (hp : Plc w bx fx Pp ge no) (hgo : no ≤ go) (hB : BK W go ((ors D n len nn).map (Value.int .i64))) : FinK D n len nn w.heap.size Pp go G Q W := by
  obtain ⟨p1, p2, p3, p4, p5, p6, p7⟩ := hp; exact ⟨by omega, by omega, h.bp, hB, fun t ht => ⟨fun e => (h.sp t ht).1 (.inl (.inl e)), (h.sp t ht).2⟩, fun _ k => (h.dk _ (gb_weak k fun _ e => .inl (.inl e))).2⟩
end Kn
end Go.Proofs.YtniagnldiegamaaGreat

