/- Package halve: a run depends on what cakes tell alone; normal cakes tell the same. Plain mathematics. -/
import Derived.Test.YtmfnlapoefihkaaGreatWd
import Derived.Test.YtmfnlapoefihkaaGreatWe
import Derived.Test.YtmfnlapoefihkaaGreatNormm
import Derived.Test.YtmfnlapoefihkaaGreatRnorm
namespace Go.Proofs.YtmfnlapoefihkaaGreat
open Go.RowKit
namespace Hv
open Ck Ch
theorem chk_of_good {len : Int} {c d : List Int} (hG : Ck.Good len c d) : chk len c d = 0 := by
  have hs := hG.shape; have h0 := hG.len0; have h1 := hG.len1
  unfold chk
  rw [if_neg (by unfold great; simp; omega), if_neg (by unfold shapeBad; simp; omega), if_neg (by
    unfold endsBad
    rw [hG.first, show c.length - 1 = d.length by omega, hG.last]
    simp), if_neg (by
    rw [bad_not (fun j hj => by
      have := hG.step j hj
      unfold badAt
      simp
      omega)]
    decide), if_pos hG.some_]
theorem good_i64 {len : Int} {c d : List Int} (hG : Ck.Good len c d) : (∀ x ∈ c, I64 x) ∧ ∀ x ∈ d, I64 x := by
  have hs := hG.shape
  constructor
  · intro x hx
    obtain ⟨j, hj, rfl⟩ := List.mem_iff_getElem.1 hx; have := hG.range j (by omega); rw [Ck.at_lt hj] at this; exact ⟨by omega, by omega⟩
  · intro x hx
    obtain ⟨j, hj, rfl⟩ := List.mem_iff_getElem.1 hx; have := (hG.step j hj).2; rw [Ck.at_lt hj] at this; exact ⟨by omega, by omega⟩
theorem ok_q {n d m c : Int} (h : Rp.Ok n d) (k : Rp.Ok m c) (e : Rp.q n d = Rp.q m c) : n = m ∧ d = c := by
  have h1 := Rp.ofQ_q h; rw [e, Rp.ofQ_q k, Prod.mk.injEq, Prod.mk.injEq] at h1; exact ⟨h1.1.symm, h1.2.1.symm⟩
theorem tri {x y : Int × Int × Int} (h1 : x.1 = y.1) (h2 : x.2.1 = y.2.1) (h3 : x.2.2 = y.2.2) : x = y := Prod.ext h1 (Prod.ext h2 h3)
/-- Two valid cakes that tell the same. -/
structure CuEq (c c' : CkD) : Prop where
  ck : Ak.ckD c = 0
  ck' : Ak.ckD c' = 0
  ln : c.1 = c'.1
  cu : ∀ x, cu c x = cu c' x
theorem CuEq.tt {c c' : CkD} (h : CuEq c c') : tt c = tt c' := by
  have h1 := cu_len h.ck; have h2 := cu_len h.ck'; rw [← h.ln, ← h.cu] at h2; exact Rat.intCast_inj.1 (h1.symm.trans h2)
theorem CuEq.shq {c c' : CkD} (h : CuEq c c') (n : Int) : shq n c = shq n c' := by unfold Ch.shq sh; rw [h.tt]
structure DEq (D D' : List CkD) : Prop where
  ck : Ak.chkS D 0 = 0
  ck' : Ak.chkS D' 0 = 0
  dl : D.length = D'.length
  eq : ∀ k, k < D.length → CuEq (Ak.dAt D k) (Ak.dAt D' k)
section
variable {D D' : List CkD} {n len a b c d E : Int} {l : List Nat} {m : Nat}
theorem DEq.inv (h : DEq D D') (hi : SInv D n len l a b c d E m) : SInv D' n len l a b c d E m :=
  ⟨hi.ne, hi.h6, hi.so, fun x hx => by rw [← h.dl]; exact hi.lt x hx, hi.pa, hi.pc, hi.ac, hi.e1, hi.e2, hi.da, hi.dc, fun k hk => by
    have e := h.eq k (hi.lt k hk); rw [← e.shq, ← e.cu, ← e.cu]
    exact hi.own k hk, hi.lg⟩
theorem DEq.ln0 (h : DEq D D') (hlen : (Ak.dAt D 0).1 = len) : (Ak.dAt D' 0).1 = len := by rw [← (h.eq 0 (Ak.chkS_good h.ck).l0).ln]; exact hlen
theorem DEq.wv (h : DEq D D') (hn : n = (D.length : Nat)) (hlen : (Ak.dAt D 0).1 = len) (hi : SInv D n len l a b c d E m) (h2 : 2 ≤ l.length) {k : Nat} (hk : k ∈ l) : wv D len a b c d k = wv D' len a b c d k := by
  have K := hi.k h.ck hn hlen h2 hk; have K' := (h.inv hi).k h.ck' (by rw [← h.dl]; exact hn) (h.ln0 hlen) h2 hk; have e := h.eq k (hi.lt k hk); obtain ⟨e1, e2⟩ := ok_q K.v1 K'.v1 (by rw [K.v2, K'.v2, e.cu, e.cu]); exact tri e1 e2 (K.v0.trans K'.v0.symm)
theorem kS_same {c1 c2 : CkD} (h : CuEq c1 c2) {s1 s2 : Int} (e : (Ak.kS c1 a b s1 s2).2.2 = 0) (e' : (Ak.kS c2 a b s1 s2).2.2 = 0) : Ak.kS c1 a b s1 s2 = Ak.kS c2 a b s1 s2 := by
  have hG := chk_good (show Ck.chk c1.1 c1.2.1 c1.2.2 = 0 from h.ck); have hG' := chk_good (show Ck.chk c2.1 c2.2.1 c2.2.2 = 0 from h.ck')
  by_cases g : Ck.pt c1.1 a b = true ∧ Rp.Ok s1 s2 ∧ 0 ≤ s1
  · have g' : Ck.pt c2.1 a b = true ∧ Rp.Ok s1 s2 ∧ 0 ≤ s1 := by rw [← h.ln]; exact g
    have k1 : Ak.kS c1 a b s1 s2 = mrk c1.1 c1.2.1 c1.2.2 a b s1 s2 := by unfold Ak.kS; rw [if_pos g]
    have k2 : Ak.kS c2 a b s1 s2 = mrk c2.1 c2.2.1 c2.2.2 a b s1 s2 := by unfold Ak.kS; rw [if_pos g']
    rw [k1] at e ⊢; rw [k2] at e' ⊢; obtain ⟨oA, qA, lA⟩ := pt_q g.1 hG.len0 hG.len1; have m1 := mrk_is hG oA lA g.2.1 g.2.2; have m2 := mrk_is hG' oA (by rw [← h.ln]; exact lA) g.2.1 g.2.2
    have m3 : IsMark c1.1 c2.2.1 c2.2.2 (Rp.q a b) (Rp.q s1 s2) (mrk c2.1 c2.2.1 c2.2.2 a b s1 s2) := by rw [h.ln]; exact m2
    obtain ⟨u1, u2⟩ := mark_uniq (fun x => (h.cu x).symm) m1 m3 e e'; exact tri u1 u2 (e.trans e'.symm)
  · exfalso
    unfold Ak.kS at e
    rw [if_neg g] at e; exact absurd e (by decide)
theorem DEq.mks (h : DEq D D') (hn : n = (D.length : Nat)) (hlen : (Ak.dAt D 0).1 = len) (hi : SInv D n len l a b c d E m) (h2 : 2 ≤ l.length) {k : Nat} (hk : k ∈ l) :
    wm D len a b c d (prt l).1 (prt l).2.1 k = wm D' len a b c d (prt l).1 (prt l).2.1 k ∧ mkA D len a b c d (prt l).1 (prt l).2.1 k = mkA D' len a b c d (prt l).1 (prt l).2.1 k := by
  have K := hi.k h.ck hn hlen h2 hk; have K' := (h.inv hi).k h.ck' (by rw [← h.dl]; exact hn) (h.ln0 hlen) h2 hk
  have e1 : wm D len a b c d (prt l).1 (prt l).2.1 k = wm D' len a b c d (prt l).1 (prt l).2.1 k := by unfold wm; rw [h.wv hn hlen hi h2 hk]
  refine ⟨e1, ?_⟩; have k0 := K.k0; have k0' := K'.k0
  unfold mkA at k0 k0' ⊢
  rw [← e1] at k0' ⊢; exact kS_same (h.eq k (hi.lt k hk)) k0 k0'
theorem DEq.qsn (h : DEq D D') (hn : n = (D.length : Nat)) (hlen : (Ak.dAt D 0).1 = len) (hi : SInv D n len l a b c d E m) (h2 : 2 ≤ l.length) {k : Nat} (hk : k ∈ l) : qsn D len a b c d (prt l).1 (prt l).2.1 k = qsn D' len a b c d (prt l).1 (prt l).2.1 k := by
  obtain ⟨e1, e2⟩ := h.mks hn hlen hi h2 hk
  unfold Hv.qsn qV qM
  rw [e1, e2, h.wv hn hlen hi h2 hk]
theorem DEq.srtM (h : DEq D D') (hn : n = (D.length : Nat)) (hlen : (Ak.dAt D 0).1 = len) (hi : SInv D n len l a b c d E m) (h2 : 2 ≤ l.length) : srtM D len a b c d l = srtM D' len a b c d l := by
  unfold Hv.srtM rawM Hv.mks
  rw [List.map_congr_left (fun j hj => ?_)]
  dsimp only
  rw [(h.mks hn hlen hi h2 (getD_mem' (List.mem_range.1 hj))).2]
theorem DEq.slog (h : DEq D D') (hn : n = (D.length : Nat)) (hlen : (Ak.dAt D 0).1 = len) (hi : SInv D n len l a b c d E m) (h2 : 2 ≤ l.length) (L : List Qr) : slog D len a b c d l L = slog D' len a b c d l L := by
  unfold Hv.slog lg
  rw [List.flatMap_def, List.flatMap_def, List.map_congr_left (fun j hj => h.qsn hn hlen hi h2 (getD_mem' (List.mem_range.1 hj)))]
theorem run_same (h : DEq D D') (hn : n = (D.length : Nat)) (hlen : (Ak.dAt D 0).1 = len) : ∀ (f : Nat) (l : List Nat) (a b c d E : Int) (L : List Qr), l.length ≤ f → SInv D n len l a b c d E L.length → run D len f l a b c d L = run D' len f l a b c d L
  | 0, l, a, b, c, d, E, L, hf, hi => by have := hi.ne; omega
  | f + 1, l, a, b, c, d, E, L, hf, hi => by
    unfold run
    by_cases h1 : l.length = 1
    · rw [if_pos h1, if_pos h1]
    · have h2 : 2 ≤ l.length := by have := hi.ne; omega
      have es := h.srtM hn hlen hi h2
      have e1 : cut D' len a b c d l = cut D len a b c d l := by unfold cut; rw [es]
      have e2 : lft D' len a b c d l = lft D len a b c d l := by unfold lft; rw [es]
      have e3 : rgt D' len a b c d l = rgt D len a b c d l := by unfold rgt; rw [es]
      have e4 := (h.slog hn hlen hi h2 L).symm; obtain ⟨E', s1, s2⟩ := hi.step h.ck hn hlen h2; have hsl : (Hv.slog D len a b c d l L).length ≤ L.length + 2 * l.length := lg_len (fun k => qsn_len _ _ _) _
      have hll : (lft D len a b c d l).length ≤ f := by rw [lft_len]; omega
      obtain ⟨-, n1, -⟩ := run_all h.ck hn hlen f (lft D len a b c d l) a b _ _ E' (Hv.slog D len a b c d l L) hll (s1.le hsl); rw [lft_len] at n1; have r1 := run_same h hn hlen f (lft D len a b c d l) a b _ _ E' (Hv.slog D len a b c d l L) hll (s1.le hsl); have r2 := run_same h hn hlen f (rgt D len a b c d l) _ _ c d E' (run D len f (lft D len a b c d l) a b (cut D len a b c d l).2.1 (cut D len a b c d l).2.2 (Hv.slog D len a b c d l L)).1 (by rw [rgt_len]; omega) (s2.le (by omega)); rw [if_neg h1, if_neg h1, e1, e2, e3, e4, ← r1, ← r2]
end
/-- The normal cake. -/
def norD (c : CkD) : CkD := (c.1, nC c.2.1 c.2.2 c.2.2.length ++ [c.1], nD c.2.2 c.2.2.length)
theorem nor_eq {c : CkD} (h : Ak.ckD c = 0) : CuEq c (norD c) := by
  have hG := chk_good (show Ck.chk c.1 c.2.1 c.2.2 = 0 from h); have hN := nor_good hG; refine ⟨h, chk_of_good hN, rfl, fun x => ?_⟩; have := cum_nor hG x c.2.2.length (Nat.le_refl _); rw [hG.last] at this; exact this.symm
theorem nor_deq {D : List CkD} (hc : Ak.chkS D 0 = 0) : DEq D (D.map norD) := by
  have g := Ak.chkS_good hc; have g0 := g.l0
  have ea : ∀ k, k < D.length → Ak.dAt (D.map norD) k = norD (Ak.dAt D k) := fun k hk => by
    unfold Ak.dAt
    simp [hk]
  refine ⟨hc, Ak.good_chkS ⟨by rw [List.length_map]; exact g.l0, by rw [List.length_map]; exact g.l1, g.q1, fun x hx => ?_, fun x hx => ?_⟩, by simp, fun k hk => ?_⟩
  · obtain ⟨y, hy, rfl⟩ := List.mem_map.1 hx
    exact (nor_eq (g.all y hy)).ck'
  · obtain ⟨y, hy, rfl⟩ := List.mem_map.1 hx
    rw [ea 0 g0]; exact g.same y hy
  · rw [ea k hk]
    exact nor_eq (ck_at hc hk).1
/-- The piece of an agent. -/
def spOf (T : List Sp) (j : Nat) : Int × Int × Int × Int := match T.find? (fun t => t.1 == j) with
  | some t => t.2
  | none => (0, 0, 0, 0)
theorem spOf_at {T : List Sp} (hn : (T.map fun t => t.1).Nodup) {t : Sp} (ht : t ∈ T) : spOf T t.1 = t.2 := by
  unfold spOf
  rw [find_nd hn t ht]
theorem chn_prev : ∀ {T : List Sp} {p q : Int × Int}, Chn p T q → ∀ j (hj : j + 1 < T.length), ((T[j + 1]).2.1, (T[j + 1]).2.2.1) = ((T[j]'(by omega)).2.2.2.1, (T[j]'(by omega)).2.2.2.2)
  | [], _, _, _, j, hj => absurd hj (by simp)
  | t :: [], _, _, _, j, hj => absurd hj (by simp)
  | t :: s :: T, _, _, h, 0, _ => h.2.1
  | t :: s :: T, _, _, h, j + 1, hj => by
    have := chn_prev (T := s :: T) h.2 j (by simpa using hj)
    simpa using this
theorem begins {T : List Sp} {nn : Nat} {q : Int × Int} (hp : (T.map fun t => t.1).Perm (List.range nn)) (hch : Chn (0, 1) T q) {i : Nat} (hi : i < nn) : (spOf T i).1 = 0 ∨ ∃ k, k < nn ∧ (spOf T k).2.2.1 = (spOf T i).1 ∧ (spOf T k).2.2.2 = (spOf T i).2.1 := by
  have hnd : (T.map fun t => t.1).Nodup := hp.nodup_iff.2 List.nodup_range; obtain ⟨t, ht, e⟩ := List.mem_map.1 (hp.mem_iff.2 (List.mem_range.2 hi)); obtain ⟨j, hj, rfl⟩ := List.mem_iff_getElem.1 ht; subst e; rw [spOf_at hnd ht]
  cases j with
  | zero =>
    left
    cases T with
    | nil => simp at hj
    | cons t T =>
      have e : (t.2.1, t.2.2.1) = ((0 : Int), (1 : Int)) := hch.1; rw [Prod.mk.injEq] at e; exact e.1
  | succ j =>
    right
    have e := chn_prev hch j hj; rw [Prod.mk.injEq] at e; have hm : T[j]'(by omega) ∈ T := List.getElem_mem _; refine ⟨(T[j]'(by omega)).1, List.mem_range.1 (hp.mem_iff.1 (List.mem_map.2 ⟨_, hm, rfl⟩)), ?_⟩; rw [spOf_at hnd hm]; exact ⟨e.1.symm, e.2.symm⟩
/-- The pieces of a run, all of them. -/
theorem pvs_all {T : List Sp} {nn : Nat} (hp : (T.map fun t => t.1).Perm (List.range nn)) (G : Nat → Nat) (vals : Nat → Value) : pvs nn T G vals = (List.range nn).map fun k => .slice (some ⟨G k, 0, none⟩) 1 1 := by
  unfold pvs
  refine List.map_congr_left (fun k hk => ?_)
  unfold pv
  rw [if_pos (hp.mem_iff.2 hk)]
theorem sp_all {T : List Sp} {nn : Nat} {w : World} {G : Nat → Nat} (hp : (T.map fun t => t.1).Perm (List.range nn)) (h : ∀ t ∈ T, BK w (G t.1) (spc t)) {k : Nat} (hk : k < nn) : BK w (G k) [.int .i64 (spOf T k).1, .int .i64 (spOf T k).2.1, .int .i64 (spOf T k).2.2.1, .int .i64 (spOf T k).2.2.2] := by
  have hnd : (T.map fun t => t.1).Nodup := hp.nodup_iff.2 List.nodup_range; obtain ⟨t, ht, rfl⟩ := List.mem_map.1 (hp.mem_iff.2 (List.mem_range.2 hk)); rw [spOf_at hnd ht]; exact h t ht
end Hv
end Go.Proofs.YtmfnlapoefihkaaGreat
