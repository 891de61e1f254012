/- Desks: cakes and queries that came in; what is answered to a query, as a function on lists. -/
import Derived.Test.YtniagnldiegamaaGreatGg
import Derived.Test.YtniagnldiegamaaGreatGh
import Derived.Test.YtniagnldiegamaaGreatTree
namespace Go.Proofs.YtniagnldiegamaaGreat
open Go.RowKit
/-- A cake as it came in. -/
structure CkR where
  len : Int
  K : Option Addr
  cuts : List Int
  ck : Nat
  Z : Option Addr
  dens : List Int
  cz : Nat
/-- A query as it came in. -/
structure Qr where
  ag : Int
  kd : Int
  a : Int
  b : Int
  c : Int
  d : Int
  x : Int
  y : Int
deriving DecidableEq
/-- What a cake tells. -/
abbrev CkD := Int × List Int × List Int
namespace Ak
instance : Inhabited CkR := ⟨⟨0, none, [], 0, none, [], 0⟩⟩
instance : Inhabited Qr := ⟨⟨0, 0, 0, 0, 0, 0, 0, 0⟩⟩
def dat (c : CkR) : CkD := (c.len, c.cuts, c.dens)
def cv (c : CkR) : Value := .agg #[.int .i64 c.len, .slice c.K c.cuts.length c.ck, .slice c.Z c.dens.length c.cz]
def cells (c : CkR) : List Value := [.int .i64 c.len, .slice c.K c.cuts.length c.ck, .slice c.Z c.dens.length c.cz]
def qcells (q : Qr) : List Value := [.int .i64 q.ag, .int .u8 q.kd, .int .i64 q.a, .int .i64 q.b, .int .i64 q.c, .int .i64 q.d, .int .i64 q.x, .int .i64 q.y]
def cellsC (l : List CkR) : List Value := l.flatMap cells
def cellsQ (l : List Qr) : List Value := l.flatMap qcells
def cat (l : List CkR) (k : Nat) : CkR := l.getD k default
def qat (l : List Qr) (k : Nat) : Qr := l.getD k default
theorem cat_lt {l : List CkR} {k : Nat} (h : k < l.length) : cat l k = l[k] := by unfold cat; simp [h]
theorem qat_lt {l : List Qr} {k : Nat} (h : k < l.length) : qat l k = l[k] := by unfold qat; simp [h]
theorem cat_mem {l : List CkR} {k : Nat} (h : k < l.length) : cat l k ∈ l := by rw [cat_lt h]; exact List.getElem_mem h
theorem cellsQ_len : ∀ (l : List Qr), (cellsQ l).length = l.length * 8
  | [] => rfl
  | r :: l => by
    have := cellsQ_len l
    unfold cellsQ at this ⊢
    simp only [List.flatMap_cons, List.length_append, this, List.length_cons, qcells, List.length_nil]
    omega
theorem cellsC_app (l m : List CkR) : cellsC (l ++ m) = cellsC l ++ cellsC m := List.flatMap_append
theorem cellsQ_app (l m : List Qr) : cellsQ (l ++ m) = cellsQ l ++ cellsQ m := List.flatMap_append
theorem cellsC_at : ∀ {l : List CkR} {k : Nat}, k < l.length → (cellsC l)[k * 3]? = some (.int .i64 (cat l k).len) ∧ (cellsC l)[k * 3 + 1]? = some (.slice (cat l k).K (cat l k).cuts.length (cat l k).ck) ∧ (cellsC l)[k * 3 + 2]? = some (.slice (cat l k).Z (cat l k).dens.length (cat l k).cz)
  | r :: l, 0, _ => ⟨rfl, rfl, rfl⟩
  | r :: l, k + 1, h => by
    have ih := cellsC_at (l := l) (k := k) (by simpa using h); have e : cellsC (r :: l) = .int .i64 r.len :: .slice r.K r.cuts.length r.ck :: .slice r.Z r.dens.length r.cz :: cellsC l := rfl; rw [e, show (k + 1) * 3 = k * 3 + 1 + 1 + 1 by omega, show k * 3 + 1 + 1 + 1 + 1 = (k * 3 + 1) + 1 + 1 + 1 by omega, show k * 3 + 1 + 1 + 1 + 2 = (k * 3 + 2) + 1 + 1 + 1 by omega]
    simp only [List.getElem?_cons_succ]
    exact ih
/-- The eight cells of a query at a place. -/
def Q8 (f : Nat → Option Value) (q : Qr) : Prop :=
  f 0 = some (.int .i64 q.ag) ∧ f 1 = some (.int .u8 q.kd) ∧ f 2 = some (.int .i64 q.a) ∧ f 3 = some (.int .i64 q.b) ∧ f 4 = some (.int .i64 q.c) ∧ f 5 = some (.int .i64 q.d) ∧ f 6 = some (.int .i64 q.x) ∧ f 7 = some (.int .i64 q.y)
theorem cellsQ_at : ∀ {l : List Qr} {k : Nat}, k < l.length → Q8 (fun j => (cellsQ l)[k * 8 + j]?) (qat l k)
  | r :: l, 0, _ => ⟨rfl, rfl, rfl, rfl, rfl, rfl, rfl, rfl⟩
  | r :: l, k + 1, h => by
    have ih := cellsQ_at (l := l) (k := k) (by simpa using h); have e : cellsQ (r :: l) = .int .i64 r.ag :: .int .u8 r.kd :: .int .i64 r.a :: .int .i64 r.b :: .int .i64 r.c :: .int .i64 r.d :: .int .i64 r.x :: .int .i64 r.y :: cellsQ l := rfl
    have s : ∀ j, (cellsQ (r :: l))[(k + 1) * 8 + j]? = (cellsQ l)[k * 8 + j]? := fun j => by
      rw [e, show (k + 1) * 8 + j = k * 8 + j + 1 + 1 + 1 + 1 + 1 + 1 + 1 + 1 by omega]
      simp only [List.getElem?_cons_succ]
    unfold Q8 at ih ⊢
    simp only [s]
    exact ih
def Q64 (q : Qr) : Prop := I64 q.ag ∧ (0 ≤ q.kd ∧ q.kd ≤ 255) ∧ I64 q.a ∧ I64 q.b ∧ I64 q.c ∧ I64 q.d ∧ I64 q.x ∧ I64 q.y
end Ak
def IsC (w : World) (c : CkR) : Prop := IsCake w c.len c.K c.cuts c.Z c.dens
theorem IsC.keep {w v : World} {c : CkR} (h : IsC w c) (hb : Below w.heap.size w v) : IsC v c := IsCake.keep h hb
/-- Cakes that came in. -/
structure IsCs (w : World) (A : Option Addr) (cs : List CkR) : Prop where
  cell : 0 < cs.length → ∃ b off, A = some ⟨b, off, none⟩ ∧ ∀ i, i < cs.length → w.cell? ⟨b, off + i * 3, none⟩ = some (.int .i64 (Ak.cat cs i).len) ∧ w.cell? ⟨b, off + i * 3 + 1, none⟩ = some (.slice (Ak.cat cs i).K (Ak.cat cs i).cuts.length (Ak.cat cs i).ck) ∧ w.cell? ⟨b, off + i * 3 + 2, none⟩ = some (.slice (Ak.cat cs i).Z (Ak.cat cs i).dens.length (Ak.cat cs i).cz)
  all : ∀ c ∈ cs, IsC w c
  len : cs.length ≤ maxLen
theorem IsCs.keep {w v : World} {A : Option Addr} {cs : List CkR} (h : IsCs w A cs) (hb : Below w.heap.size w v) : IsCs v A cs :=
  ⟨fun h0 => by
    obtain ⟨b, off, e, hc⟩ := h.cell h0
    exact ⟨b, off, e, fun i hi => ⟨keepC hb (hc i hi).1, keepC hb (hc i hi).2.1, keepC hb (hc i hi).2.2⟩⟩, fun c hc => (h.all c hc).keep hb, h.len⟩
/-- Queries that came in. -/
structure IsQs (w : World) (A : Option Addr) (qs : List Qr) : Prop where
  cell : 0 < qs.length → ∃ b off, A = some ⟨b, off, none⟩ ∧ ∀ i, i < qs.length → Ak.Q8 (fun j => w.cell? ⟨b, off + i * 8 + j, none⟩) (Ak.qat qs i)
  all : ∀ q ∈ qs, Ak.Q64 q
  len : qs.length ≤ maxLen
theorem Ak.Q8.keep {w v : World} {b o : Nat} {q : Qr} (h : Ak.Q8 (fun j => w.cell? ⟨b, o + j, none⟩) q) (hb : Below w.heap.size w v) : Ak.Q8 (fun j => v.cell? ⟨b, o + j, none⟩) q := by
  obtain ⟨h0, h1, h2, h3, h4, h5, h6, h7⟩ := h; exact ⟨keepC hb h0, keepC hb h1, keepC hb h2, keepC hb h3, keepC hb h4, keepC hb h5, keepC hb h6, keepC hb h7⟩
theorem IsQs.keep {w v : World} {A : Option Addr} {qs : List Qr} (h : IsQs w A qs) (hb : Below w.heap.size w v) : IsQs v A qs :=
  ⟨fun h0 => by
    obtain ⟨b, off, e, hc⟩ := h.cell h0
    exact ⟨b, off, e, fun i hi => (hc i hi).keep hb⟩, h.all, h.len⟩
theorem isC_nil (w : World) (A : Option Addr) : IsCs w A [] := ⟨fun h => absurd h (by simp), fun c hc => (by cases hc), by simp⟩
theorem isQs_nil (w : World) (A : Option Addr) : IsQs w A [] := ⟨fun h => absurd h (by simp), fun c hc => (by cases hc), by simp⟩
theorem isCs_row {w : World} {B : Nat} {e : TypeId} {A : Option Addr} {n cap : Nat} {cs : List CkR} (h : w.ownsRow B e 3 (.slice A n cap) n (Ak.cellsC cs)) (hn : n = cs.length) (ha : ∀ c ∈ cs, IsC w c) (hm : cs.length ≤ maxLen) : IsCs w A cs :=
  ⟨fun h0 => by
    obtain ⟨g, cap', hv, _, hlt⟩ := World.ownsRow.form h (by omega)
    simp only [Value.slice.injEq] at hv
    obtain ⟨rfl, _, rfl⟩ := hv; refine ⟨g, 0, rfl, fun i hi => ?_⟩; rw [Nat.zero_add, World.ownsRow.cellAt h (i * 3) (by omega), World.ownsRow.cellAt h (i * 3 + 1) (by omega), World.ownsRow.cellAt h (i * 3 + 2) (by omega)]
    exact Ak.cellsC_at hi, ha, hm⟩
theorem isQs_row {w : World} {B : Nat} {e : TypeId} {A : Option Addr} {n cap : Nat} {qs : List Qr} (h : w.ownsRow B e 8 (.slice A n cap) n (Ak.cellsQ qs)) (hn : n = qs.length) (ha : ∀ q ∈ qs, Ak.Q64 q) (hm : qs.length ≤ maxLen) : IsQs w A qs :=
  ⟨fun h0 => by
    obtain ⟨g, cap', hv, _, hlt⟩ := World.ownsRow.form h (by omega)
    simp only [Value.slice.injEq] at hv
    obtain ⟨rfl, _, rfl⟩ := hv; refine ⟨g, 0, rfl, fun i hi => ?_⟩; have := Ak.cellsQ_at hi
    unfold Ak.Q8 at this ⊢
    simp only [Nat.zero_add]
    rw [World.ownsRow.cellAt h (i * 8 + 0) (by omega), World.ownsRow.cellAt h (i * 8 + 1) (by omega), World.ownsRow.cellAt h (i * 8 + 2) (by omega), World.ownsRow.cellAt h (i * 8 + 3) (by omega), World.ownsRow.cellAt h (i * 8 + 4) (by omega), World.ownsRow.cellAt h (i * 8 + 5) (by omega), World.ownsRow.cellAt h (i * 8 + 6) (by omega), World.ownsRow.cellAt h (i * 8 + 7) (by omega)]
    exact this, ha, hm⟩
theorem IsCs.at_ {w : World} {A : Option Addr} {cs : List CkR} (h : IsCs w A cs) : ∃ b off, (0 < cs.length → A = some ⟨b, off, none⟩) ∧ ∀ i, i < cs.length → w.cell? ⟨b, off + i * 3, none⟩ = some (.int .i64 (Ak.cat cs i).len) ∧ w.cell? ⟨b, off + i * 3 + 1, none⟩ = some (.slice (Ak.cat cs i).K (Ak.cat cs i).cuts.length (Ak.cat cs i).ck) ∧ w.cell? ⟨b, off + i * 3 + 2, none⟩ = some (.slice (Ak.cat cs i).Z (Ak.cat cs i).dens.length (Ak.cat cs i).cz) := by
  by_cases h0 : 0 < cs.length
  · obtain ⟨b, off, e, hc⟩ := h.cell h0
    exact ⟨b, off, fun _ => e, hc⟩
  · exact ⟨0, 0, fun k => absurd k h0, fun i hi => absurd hi (by omega)⟩
theorem IsQs.at_ {w : World} {A : Option Addr} {qs : List Qr} (h : IsQs w A qs) : ∃ b off, (0 < qs.length → A = some ⟨b, off, none⟩) ∧ ∀ i, i < qs.length → Ak.Q8 (fun j => w.cell? ⟨b, off + i * 8 + j, none⟩) (Ak.qat qs i) := by
  by_cases h0 : 0 < qs.length
  · obtain ⟨b, off, e, hc⟩ := h.cell h0
    exact ⟨b, off, fun _ => e, hc⟩
  · exact ⟨0, 0, fun k => absurd k h0, fun i hi => absurd hi (by omega)⟩
namespace Ak
def vS (c : CkD) (n1 d1 n2 d2 : Int) : Int × Int × Int :=
  if Ck.pt c.1 n1 d1 = true ∧ Ck.pt c.1 n2 d2 = true ∧ ¬ Rp.q n2 d2 < Rp.q n1 d1 then Ck.vgo c.2.1 c.2.2 n1 d1 n2 d2 c.2.2.length else (0, 0, 2)
def kS (c : CkD) (n1 d1 v1 v2 : Int) : Int × Int × Int :=
  if Ck.pt c.1 n1 d1 = true ∧ Rp.Ok v1 v2 ∧ 0 ≤ v1 then Ck.mrk c.1 c.2.1 c.2.2 n1 d1 v1 v2 else (0, 0, 2)
def dAt (l : List CkD) (k : Nat) : CkD := l.getD k (0, [], [])
/-- What is answered to a query, and its error. -/
def ansS (cs : List CkD) (q : Qr) : Int × Int × Int :=
  if 0 ≤ q.ag ∧ q.ag < cs.length then
    (if q.kd = 1 then vS (dAt cs q.ag.toNat) q.a q.b q.c q.d else if q.kd = 2 then kS (dAt cs q.ag.toNat) q.a q.b q.c q.d else (0, 0, 2))
  else (0, 0, 2)
def ckD (c : CkD) : Int := Ck.chk c.1 c.2.1 c.2.2
/-- The error of the first cake that has one. -/
def firstE : List CkD → Int
  | [] => 0
  | c :: l => if ckD c = 0 then firstE l else ckD c
def chkS (cs : List CkD) (n : Nat) : Int :=
  if 6 < cs.length ∨ 2000 < n then 4 else if cs.length = 0 then 8 else if firstE cs = 0 then (if cs.all (fun c => decide (c.1 = (dAt cs 0).1)) then 0 else 8) else firstE cs
theorem dAt_map (l : List CkR) {k : Nat} (h : k < l.length) : dAt (l.map dat) k = dat (cat l k) := by
  unfold dAt cat
  simp [h]
theorem firstE_take {l : List CkD} {k : Nat} (h : ∀ j, j < k → ckD (dAt l j) = 0) (hk : k < l.length) (hb : ckD (dAt l k) ≠ 0) : firstE l = ckD (dAt l k) := by
  induction l generalizing k with
  | nil => simp at hk
  | cons c l ih =>
    cases k with
    | zero => have : dAt (c :: l) 0 = c := rfl
              rw [this] at hb ⊢
              unfold firstE
              rw [if_neg hb]
    | succ k =>
      have h0 : ckD c = 0 := h 0 (by omega)
      have e : ∀ j, dAt (c :: l) (j + 1) = dAt l j := fun j => rfl
      unfold firstE
      rw [if_pos h0, e]; exact ih (k := k) (fun j hj => by have := h (j + 1) (Nat.succ_lt_succ hj); rwa [e] at this) (by simpa using hk) (by rwa [e] at hb)
theorem firstE_zero {l : List CkD} (h : ∀ j, j < l.length → ckD (dAt l j) = 0) : firstE l = 0 := by
  induction l with
  | nil => rfl
  | cons c l ih =>
    have h0 : ckD c = 0 := h 0 (by simp)
    unfold firstE
    rw [if_pos h0]
    exact ih fun j hj => h (j + 1) (by simpa using hj)
theorem firstE_all {l : List CkD} (h : firstE l = 0) : ∀ c ∈ l, ckD c = 0 := by
  induction l with
  | nil => intro c hc; cases hc
  | cons c l ih =>
    unfold firstE at h
    split at h
    · rename_i h0
      intro x hx
      rcases List.mem_cons.1 hx with rfl | hx
      · exact h0
      · exact ih h x hx
    · rename_i h0; exact absurd h h0
structure Good (cs : List CkD) (n : Nat) : Prop where
  l0 : 1 ≤ cs.length
  l1 : cs.length ≤ 6
  q1 : n ≤ 2000
  all : ∀ c ∈ cs, ckD c = 0
  same : ∀ c ∈ cs, c.1 = (dAt cs 0).1
theorem chkS_good {cs : List CkD} {n : Nat} (h : chkS cs n = 0) : Good cs n := by
  unfold chkS at h
  split at h
  · cases h
  · split at h
    · cases h
    · split at h
      · rename_i h1 h2 h3
        split at h
        · rename_i h4
          refine ⟨by omega, by omega, by omega, firstE_all h3, fun c hc => ?_⟩; have := List.all_eq_true.1 h4 c hc
          simpa using this
        · cases h
      · rename_i h3; exact absurd h h3
theorem good_chkS {cs : List CkD} {n : Nat} (h : Good cs n) : chkS cs n = 0 := by
  have h1 := h.l0; have h2 := h.l1; have h3 := h.q1
  unfold chkS
  rw [if_neg (by omega), if_neg (by omega)]
  have e : firstE cs = 0 := firstE_zero fun j hj => h.all _ (by unfold dAt; simp [hj])
  rw [if_pos e, if_pos]; rw [List.all_eq_true]; intro c hc
  simpa using h.same c hc
end Ak
theorem Ak.row_cap {w : World} {B : Nat} {e : TypeId} {sz n : Nat} {v : Value} {cs : List Value} (h : w.ownsRow B e sz v n cs) : ∃ A cap, v = .slice A n cap ∧ n ≤ cap := by
  rcases h.2 with ⟨h1, h2⟩ | ⟨g, cap, cur, h1, _, _, h4, _⟩
  · exact ⟨none, 0, by rw [h1, h2], by omega⟩
  · exact ⟨_, cap, h1, h4⟩
theorem BK.grown {W W' : World} {row : Option Nat} {p : Nat} {l : List Value} (h : BK W p l) (hg : W.grownBy W' row) (hne : row ≠ some p) : BK W' p l :=
  ⟨Nat.lt_of_lt_of_le h.1 hg.size, fun j x e => ⟨(hg.cell_far ⟨p, j, none⟩ h.1 (fun k => hne k.symm)).trans (h.2 j x e).1, (hg.frozen_far ⟨p, j, none⟩ h.1 (fun k => hne k.symm)).trans (h.2 j x e).2⟩⟩
theorem BK.drew {W : World} {p : Nat} {l : List Value} (h : BK W p l) : BK W.drew p l := h.keep ((Below.refl _ _).drew)
/-- Ints in a block from B on that is not the row's. -/
def IsG (V : World) (B : Nat) (row : Option Nat) (A : Option Addr) (zs : List Int) : Prop :=
  (0 < zs.length → ∃ g off, A = some ⟨g, off, none⟩ ∧ B ≤ g ∧ row ≠ some g ∧ ∀ i, i < zs.length → V.cell? ⟨g, off + i, none⟩ = some (.int .i64 (Ck.at_ zs i))) ∧ ∀ z ∈ zs, I64 z
section
variable {V W : World} {B : Nat} {row row' : Option Nat} {A : Option Addr} {zs : List Int}
theorem IsG.isI (h : IsG V B row A zs) : IsI V A zs :=
  ⟨fun h0 => by
    obtain ⟨g, off, e, _, _, hc⟩ := h.1 h0
    exact ⟨g, off, e, hc⟩, h.2⟩
theorem IsG.keep (h : IsG V B row A zs) (hb : Below V.heap.size V W) : IsG W B row A zs :=
  ⟨fun h0 => by
    obtain ⟨g, off, e, h1, h2, hc⟩ := h.1 h0
    exact ⟨g, off, e, h1, h2, fun i hi => keepC hb (hc i hi)⟩, h.2⟩
theorem IsG.grown (h : IsG V B row A zs) (hg : V.grownBy W row) (hr : ∀ g, row' = some g → row = some g ∨ V.heap.size ≤ g) : IsG W B row' A zs :=
  ⟨fun h0 => by
    obtain ⟨g, off, e, h1, h2, hc⟩ := h.1 h0; have hlt := lt_of_cell (hc 0 h0); refine ⟨g, off, e, h1, fun k => ?_, fun i hi => ?_⟩
    · rcases hr g k with k | k
      · exact h2 k
      · omega
    · exact (hg.cell_far ⟨g, off + i, none⟩ hlt (fun k => h2 k.symm)).trans (hc i hi), h.2⟩
theorem IsG.set (h : IsG V B row A zs) {p o : Nat} (hp : p < B) (u : Value) : IsG (V.setCell ⟨p, o, none⟩ u) B row A zs :=
  ⟨fun h0 => by
    obtain ⟨g, off, e, h1, h2, hc⟩ := h.1 h0
    exact ⟨g, off, e, h1, h2, fun i hi => cell_far (hc i hi) (by omega) u⟩, h.2⟩
theorem IsG.of_own {n cap : Nat} (h : Own V B (.slice A n cap) zs) (hz : ∀ z ∈ zs, I64 z) (hr : ∀ g, row = some g → g < B) : IsG V B row A zs :=
  ⟨fun h0 => by
    obtain ⟨b, off, e, hc⟩ := (h.isI hz).1 h0; obtain ⟨g, cap', hv, hB, _⟩ := World.ownsRow.form h h0
    simp only [Value.slice.injEq] at hv
    obtain ⟨hv, _, _⟩ := hv; rw [e] at hv
    injection hv with hv
    injection hv with hb ho
    subst hb
    exact ⟨b, off, e, hB, fun k => by have := hr b k; omega, hc⟩, hz⟩
theorem IsG.mono {B' : Nat} (h : IsG V B row A zs) (hb : B' ≤ B) : IsG V B' row A zs :=
  ⟨fun h0 => by
    obtain ⟨g, off, e, h1, h2, hc⟩ := h.1 h0
    exact ⟨g, off, e, Nat.le_trans hb h1, h2, hc⟩, h.2⟩
theorem IsG.far (h : IsG V B row A zs) (hr : ∀ g, row' = some g → g < B) : IsG V B row' A zs :=
  ⟨fun h0 => by
    obtain ⟨g, off, e, h1, h2, hc⟩ := h.1 h0
    exact ⟨g, off, e, h1, fun k => by have := hr g k; omega, hc⟩, h.2⟩
end
/-- A cake whose slices lie from B on, and not in the row. -/
def IsCG (V : World) (B : Nat) (row : Option Nat) (c : CkR) : Prop := I64 c.len ∧ (c.cuts.length ≤ maxLen ∧ c.dens.length ≤ maxLen) ∧ IsG V B row c.K c.cuts ∧ IsG V B row c.Z c.dens
section
variable {V W : World} {B : Nat} {row row' : Option Nat} {c : CkR}
theorem IsCG.isC (h : IsCG V B row c) : IsC V c := ⟨h.1, h.2.1, h.2.2.1.isI, h.2.2.2.isI⟩
theorem IsCG.keep (h : IsCG V B row c) (hb : Below V.heap.size V W) : IsCG W B row c := ⟨h.1, h.2.1, h.2.2.1.keep hb, h.2.2.2.keep hb⟩
theorem IsCG.grown (h : IsCG V B row c) (hg : V.grownBy W row) (hr : ∀ g, row' = some g → row = some g ∨ V.heap.size ≤ g) : IsCG W B row' c := ⟨h.1, h.2.1, h.2.2.1.grown hg hr, h.2.2.2.grown hg hr⟩
theorem IsCG.set (h : IsCG V B row c) {p o : Nat} (hp : p < B) (u : Value) : IsCG (V.setCell ⟨p, o, none⟩ u) B row c := ⟨h.1, h.2.1, h.2.2.1.set hp u, h.2.2.2.set hp u⟩
theorem IsCG.far (h : IsCG V B row c) (hr : ∀ g, row' = some g → g < B) : IsCG V B row' c := ⟨h.1, h.2.1, h.2.2.1.far hr, h.2.2.2.far hr⟩
end
/-- A row of cakes of the call's own, that is filled. -/
structure CRow (w : World) (B : Nat) (e : TypeId) (v : Value) (cs : List CkR) (V : World) : Prop where
  bb : Below w.heap.size w V
  hw : w.heap.size ≤ B
  hB : B ≤ V.heap.size
  row : V.ownsRow B e 3 v cs.length (Ak.cellsC cs)
  all : ∀ c ∈ cs, IsCG V B v.ownBlock c
section
variable {w V W W' : World} {B : Nat} {e : TypeId} {v : Value} {cs : List CkR}
theorem CRow.keep (h : CRow w B e v cs V) (hb : Below V.heap.size V W) : CRow w B e v cs W :=
  ⟨keepB h.bb hb, h.hw, Nat.le_trans h.hB hb.size, row_keep h.row hb, fun c hc => (h.all c hc).keep hb⟩
theorem CRow.app {c : CkR} {g cap : Nat} (h : CRow w B e v cs V) (hb : Below V.heap.size V W) (hc : IsCG W B v.ownBlock c)
    (ho : W'.ownsRow B e 3 (.slice (some ⟨g, 0, none⟩) (cs.length + 1) cap) (cs.length + 1) (Ak.cellsC cs ++ Ak.cells c)) (hg : W.grownBy W' v.ownBlock) (hat : v.ownBlock = some g ∨ g = W.heap.size) :
    CRow w B e (.slice (some ⟨g, 0, none⟩) (cs.length + 1) cap) (cs ++ [c]) W' := by
  have k := h.keep hb
  have hr : ∀ j, (Value.slice (some ⟨g, 0, none⟩) (cs.length + 1) cap).ownBlock = some j → v.ownBlock = some j ∨ W.heap.size ≤ j := by
    intro j e
    have : g = j := by simpa [Value.ownBlock] using e
    subst this
    rcases hat with e | e
    · exact .inl e
    · exact .inr (by omega)
  refine ⟨(k.bb.mono (Nat.le_refl _)).grown hg (Nat.le_trans k.hw k.hB) (fun j ej => Nat.le_trans k.hw (World.ownsRow.lt k.row j ej).1), k.hw, Nat.le_trans k.hB hg.size, ?_, ?_⟩
  · rw [List.length_append, Ak.cellsC_app]
    simpa [Ak.cellsC] using ho
  · intro x hx
    rcases List.mem_append.1 hx with hx | hx
    · exact (k.all x hx).grown hg hr
    · have : x = c := by simpa using hx
      subst this; exact hc.grown hg hr
theorem CRow.isCs {A : Option Addr} {n cap : Nat} (h : CRow w B e (.slice A n cap) cs V) (hn : n = cs.length) (hm : cs.length ≤ maxLen) : IsCs V A cs := by
  have hr := h.row; subst hn; exact isCs_row hr rfl (fun c hc => (h.all c hc).isC) hm
end
/-- What lay in V lies in u, but for the blocks of F. -/
structure GB (F : Nat → Prop) (V u : World) : Prop where
  os : u.os = V.os
  tape : u.tape = V.tape
  output : u.output = V.output
  size : V.heap.size ≤ u.heap.size
  block : ∀ k, k < V.heap.size → ¬ F k → u.heap[k]? = V.heap[k]?
section
variable {F : Nat → Prop} {w V u W W' : World} {B : Nat}
theorem GB.refl (F : Nat → Prop) (V : World) : GB F V V := ⟨rfl, rfl, rfl, Nat.le_refl _, fun _ _ _ => rfl⟩
theorem GB.drew (h : GB F V u) : GB F V u.drew := ⟨h.os, h.tape, h.output, h.size, h.block⟩
theorem GB.below (h : GB F V W) (hb : Below W.heap.size W W') : GB F V W' :=
  ⟨hb.os.trans h.os, hb.tape.trans h.tape, hb.output.trans h.output, Nat.le_trans h.size hb.size, fun k hk hn => (hb.block k (Nat.lt_of_lt_of_le hk h.size)).trans (h.block k hk hn)⟩
theorem GB.al (h : GB F V W) (o : Obj) : GB F V (W.alloc o) := h.below (below_al (Below.refl _ _) o)
theorem GB.set (h : GB F V W) {p o : Nat} (hp : F p ∨ V.heap.size ≤ p) (x : Value) : GB F V (W.setCell ⟨p, o, none⟩ x) :=
  ⟨h.os, h.tape, h.output, by rw [World.size_setCell]; exact h.size, fun k hk hn => (Below.heap_setCell W ⟨p, o, none⟩ x k (fun e => by
    have e : k = p := e; subst e
    rcases hp with hp | hp
    · exact hn hp
    · omega)).trans (h.block k hk hn)⟩
theorem GB.grown (h : GB F V W) {row : Option Nat} (hg : W.grownBy W' row) (hr : ∀ g, row = some g → F g ∨ V.heap.size ≤ g) : GB F V W' :=
  ⟨hg.os.trans h.os, hg.tape.trans h.tape, hg.output.trans h.output, Nat.le_trans h.size hg.size, fun k hk hn => (hg.block k (Nat.lt_of_lt_of_le hk h.size) (fun e => by
    rcases hr k e.symm with hr | hr
    · exact hn hr
    · omega)).trans (h.block k hk hn)⟩
theorem GB.toBelow (h : GB F V W) (hb : Below B w V) (hF : ∀ k, F k → B ≤ k) (hB : B ≤ V.heap.size) : Below B w W :=
  ⟨h.os.trans hb.os, h.tape.trans hb.tape, h.output.trans hb.output, Nat.le_trans hb.size h.size, fun k hk => (h.block k (Nat.lt_of_lt_of_le hk hB) (fun hf => by have := hF k hf; omega)).trans (hb.block k hk)⟩
theorem GB.cell (h : GB F V W) {b o : Nat} {x : Value} (hn : ¬ F b) (hc : V.cell? ⟨b, o, none⟩ = some x) : W.cell? ⟨b, o, none⟩ = some x :=
  (World.cell?_of_block (h.block b (lt_of_cell hc) hn)).trans hc
theorem BK.gb {p : Nat} {l : List Value} (h : BK V p l) (hg : GB F V W) (hn : ¬ F p) : BK W p l :=
  ⟨Nat.lt_of_lt_of_le h.1 hg.size, fun j x e => ⟨hg.cell hn (h.2 j x e).1, (World.frozen?_of_block (hg.block p h.1 hn)).trans (h.2 j x e).2⟩⟩
theorem IsG.gb {row : Option Nat} {A : Option Addr} {zs : List Int} (h : IsG V B row A zs) (hg : GB F V W) (hF : ∀ g, F g → g < B ∨ row = some g) : IsG W B row A zs :=
  ⟨fun h0 => by
    obtain ⟨g, off, e, h1, h2, hc⟩ := h.1 h0; refine ⟨g, off, e, h1, h2, fun i hi => hg.cell (fun hf => ?_) (hc i hi)⟩
    rcases hF g hf with k | k
    · omega
    · exact h2 k, h.2⟩
theorem IsG.row {row row' : Option Nat} {A : Option Addr} {zs : List Int} (h : IsG V B row A zs) (hr : ∀ g, row' = some g → row = some g ∨ V.heap.size ≤ g) : IsG V B row' A zs :=
  ⟨fun h0 => by
    obtain ⟨g, off, e, h1, h2, hc⟩ := h.1 h0; have hlt := lt_of_cell (hc 0 h0); refine ⟨g, off, e, h1, fun k => ?_, hc⟩
    rcases hr g k with k | k
    · exact h2 k
    · omega, h.2⟩
theorem IsCG.gb {row row' : Option Nat} {c : CkR} (h : IsCG V B row c) (hg : GB F V W) (hF : ∀ g, F g → g < B ∨ row = some g) (hr : ∀ g, row' = some g → row = some g ∨ V.heap.size ≤ g) : IsCG W B row' c :=
  ⟨h.1, h.2.1, ⟨fun h0 => by
    obtain ⟨g, off, e, h1, h2, hc⟩ := (h.2.2.1.gb hg hF).1 h0; obtain ⟨g', off', e', _, h2', _⟩ := (h.2.2.1.row hr).1 h0; rw [e] at e'
    injection e' with e'
    injection e' with e' _
    subst e'
    exact ⟨g, off, e, h1, h2', hc⟩, h.2.2.1.2⟩, ⟨fun h0 => by
    obtain ⟨g, off, e, h1, h2, hc⟩ := (h.2.2.2.gb hg hF).1 h0; obtain ⟨g', off', e', _, h2', _⟩ := (h.2.2.2.row hr).1 h0; rw [e] at e'
    injection e' with e'
    injection e' with e' _
    subst e'
    exact ⟨g, off, e, h1, h2', hc⟩, h.2.2.2.2⟩⟩
end
end Go.Proofs.YtniagnldiegamaaGreat

