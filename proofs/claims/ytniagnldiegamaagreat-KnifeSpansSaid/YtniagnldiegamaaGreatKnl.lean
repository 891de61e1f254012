/- Lists of spans, pieces in memory, a desk that outlives what is written elsewhere. -/
import Derived.Test.YtniagnldiegamaaGreatKnm
import Derived.Test.YtniagnldiegamaaGreatSd
namespace Go.Proofs.YtniagnldiegamaaGreat
open Go.RowKit
namespace Kn
open Ck Ch
theorem mid_gb {B : Nat} {F : Nat → Prop} {Wd V W : World} (h : Mid B Wd V) (hg : GB F V W) (hF : ∀ k, B ≤ k → k < Wd.heap.size → ¬ F k) : Mid B Wd W :=
  ⟨Nat.le_trans h.size hg.size, fun k h1 h2 => (hg.block k (by have := h.size; omega) (hF k h1 h2)).trans (h.block k h1 h2)⟩
theorem gb_weak {F F' : Nat → Prop} {V W : World} (h : GB F V W) (hF : ∀ k, F k → F' k) : GB F' V W := ⟨h.os, h.tape, h.output, h.size, fun k hk hn => h.block k hk (fun hf => hn (hF k hf))⟩
theorem gb_comp {F : Nat → Prop} {U V W : World} (h : GB F U V) (k : GB F V W) : GB F U W :=
  ⟨k.os.trans h.os, k.tape.trans h.tape, k.output.trans h.output, Nat.le_trans h.size k.size, fun i hi hn => (k.block i (Nat.lt_of_lt_of_le hi h.size) hn).trans (h.block i hi hn)⟩
theorem gb_set {F : Nat → Prop} {V W : World} {p o : Nat} (h : GB F V W) (hp : F p ∨ V.heap.size ≤ p) (x : Value) : GB F V (W.setCell ⟨p, o, none⟩ x) := h.set hp x
/-- A desk that outlives whatever is written into the blocks of F. -/
def DkP (F : Nat → Prop) (w : World) (A : Option Addr) (cs : List CkR) (Q : Option Addr) (qs : List Qr) : Prop := ∀ w', GB F w w' → IsCs w' A cs ∧ IsQs w' Q qs
theorem DkP.keep {F : Nat → Prop} {w w' : World} {A : Option Addr} {cs : List CkR} {Q : Option Addr} {qs : List Qr} (h : DkP F w A cs Q qs) (hg : GB F w w') : DkP F w' A cs Q qs := fun _ k => h _ (gb_comp hg k)
theorem fd_dkp {F : Nat → Prop} {lo : Nat} {w : World} {A : Option Addr} {ca : Nat} {cs : List CkR} {Q : Option Addr} {cq : Nat} {qs : List Qr} (h : FD w lo A ca cs Q cq qs) (hp : ∀ k, F k → k < lo) : DkP F w A cs Q qs := fun _ k =>
  have hf := h.mid (mid_gb (Mid.refl lo w) k (fun j h1 h2 hk => by have := hp j hk; omega))
  ⟨hf.isCs, hf.isQs⟩
/-- What one agent gets: who, and from where to where. -/
abbrev Sp := Nat × Int × Int × Int × Int
/-- The slice of spans that an agent has. -/
def pv (T : List Sp) (G : Nat → Nat) (vals : Nat → Value) (k : Nat) : Value := if k ∈ T.map (fun t => t.1) then .slice (some ⟨G k, 0, none⟩) 1 1 else vals k
def pvs (N : Nat) (T : List Sp) (G : Nat → Nat) (vals : Nat → Value) : List Value := (List.range N).map (pv T G vals)
theorem pvs_one (N x g : Nat) (a b c d : Int) (vals : Nat → Value) : ((List.range N).map vals).set x (.slice (some ⟨g, 0, none⟩) 1 1) = pvs N [(x, a, b, c, d)] (fun _ => g) vals := by
  unfold pvs
  refine List.ext_getElem (by simp) fun k h1 h2 => ?_
  simp only [List.getElem_set, List.getElem_map, List.getElem_range]
  unfold pv
  by_cases h : x = k
  · rw [if_pos h, if_pos (by simp [h])]
  · rw [if_neg h, if_neg (by simp; omega)]
theorem pvs_app (N : Nat) (T1 T2 : List Sp) (G1 G2 : Nat → Nat) (vals : Nat → Value) : pvs N T2 G2 (pv T1 G1 vals) = pvs N (T1 ++ T2) (fun k => if k ∈ T2.map (fun t => t.1) then G2 k else G1 k) vals := by
  unfold pvs
  refine List.ext_getElem (by simp) fun k h1 h2 => ?_
  simp only [List.getElem_map, List.getElem_range]
  unfold pv
  have ha : k ∈ (T1 ++ T2).map (fun t => t.1) ↔ (k ∈ T1.map (fun t => t.1) ∨ k ∈ T2.map (fun t => t.1)) := by rw [List.map_append]; exact List.mem_append
  by_cases h : k ∈ T2.map (fun t => t.1)
  · rw [if_pos h, if_pos (ha.2 (.inr h))]
    dsimp only
    rw [if_pos h]
  · by_cases h' : k ∈ T1.map (fun t => t.1)
    · rw [if_neg h, if_pos h', if_pos (ha.2 (.inl h'))]
      dsimp only
      rw [if_neg h]
    · rw [if_neg h, if_neg h', if_neg (fun e => (ha.1 e).elim h' h)]
def spc (t : Sp) : List Value := [.int .i64 t.2.1, .int .i64 t.2.2.1, .int .i64 t.2.2.2.1, .int .i64 t.2.2.2.2]
/-- Pieces side by side. -/
def Chn : Int × Int → List Sp → Int × Int → Prop
  | p, [], q => p = q
  | p, t :: T, q => (t.2.1, t.2.2.1) = p ∧ Chn (t.2.2.2.1, t.2.2.2.2) T q
theorem chn_app : ∀ {T1 T2 : List Sp} {p q r : Int × Int}, Chn p T1 q → Chn q T2 r → Chn p (T1 ++ T2) r
  | [], _, _, _, _, h, k => by have h : _ = _ := h; subst h; exact k
  | _ :: _, _, _, _, _, h, k => ⟨h.1, chn_app h.2 k⟩
section
variable {D : List CkD} {n len : Int} {nn : Nat}
theorem ck_at (hc : Ak.chkS D 0 = 0) {j : Nat} (h : j < D.length) : Ak.ckD (Ak.dAt D j) = 0 ∧ (Ak.dAt D j).1 = (Ak.dAt D 0).1 := by
  have g := Ak.chkS_good hc
  have hm : Ak.dAt D j ∈ D := by
    unfold Ak.dAt
    simp [h]
  exact ⟨g.all _ hm, g.same _ hm⟩
theorem ok_len (hc : Ak.chkS D 0 = 0) (hlen : (Ak.dAt D 0).1 = len) : Rp.Ok len 1 := by
  have g := Ak.chkS_good hc; have g0 := g.l0; have hG := chk_good (show Ck.chk (Ak.dAt D 0).1 (Ak.dAt D 0).2.1 (Ak.dAt D 0).2.2 = 0 from (ck_at hc (by omega)).1); have l0 := hG.len0; have l1 := hG.len1; rw [hlen] at l0 l1; exact Rp.Ok_one (by omega) (by omega)
theorem mark_val {c : CkD} (hc : Ak.ckD c = 0) {D a b s1 s2 : Int} (hp : Ck.pt c.1 a b = true) (E1 : 1 ≤ D) (E2 : D ≤ 8000000) (ds : Dd D (Rp.q a b)) (hok : Rp.Ok s1 s2) (dn : Dd D (Rp.q s1 s2)) (hpos : 0 < Rp.q s1 s2) (hle : Rp.q s1 s2 ≤ ((12000 : Int) : Rat)) (he : Rp.q s1 s2 ≤ cu c (c.1 : Rat) - cu c (Rp.q a b)) :
    ∃ x y, Ak.kS c a b s1 s2 = (x, y, 0) ∧ Ck.pt c.1 x y = true ∧ Rp.q a b ≤ Rp.q x y ∧ cu c (Rp.q x y) - cu c (Rp.q a b) = Rp.q s1 s2 ∧ ∃ g : Int, 1 ≤ g ∧ g ≤ 12 ∧ Dd (D * g) (Rp.q x y) := by
  have hG := chk_good (show Ck.chk c.1 c.2.1 c.2.2 = 0 from hc); obtain ⟨oA, qA, lA⟩ := pt_q hp hG.len0 hG.len1; have hn : 0 ≤ s1 := (q_nonneg hok).1 (Rat.le_of_lt hpos)
  have hz : s1 ≠ 0 := fun e => by
    have := (q_zero hok).2 e; rw [this] at hpos; exact absurd hpos (by decide)
  have hk : Ak.kS c a b s1 s2 = mgo c.1 c.2.1 c.2.2 a b c.2.2.length 0 s1 s2 := by
    unfold Ak.kS
    rw [if_pos ⟨hp, hok, hn⟩]
    unfold mrk
    rw [if_neg hz]
  have hm := mrk_is hG oA lA hok hn
  unfold mrk at hm
  rw [if_neg hz] at hm; have hg := mgo_db hG oA ds qA lA E1 E2 c.2.2.length 0 (by omega) s1 s2 hok dn (Rat.le_of_lt hpos) hle; rw [hk]
  generalize mgo c.1 c.2.1 c.2.2 a b c.2.2.length 0 s1 s2 = r at *
  obtain ⟨x, y, e⟩ := r
  rcases hm with ⟨m0, m1, m2, m3, m4, _⟩ | ⟨_, m⟩ | m
  · dsimp only at m0 m1 m2 m3 m4
    subst m0
    rcases hg with ⟨_, g, d1, d2, d3⟩ | hg
    · exact ⟨x, y, rfl, pt_mk m1 (Rat.le_trans qA m2) m3, m2, m4, g, d1, d2, d3⟩
    · simp at hg
  · exfalso
    unfold cu at he
    exact absurd m (Rat.not_lt.2 he)
  · rw [m] at hg
    rcases hg with ⟨hg, _⟩ | hg
    · exact absurd hg (by decide)
    · simp at hg
/-- A query that is right. -/
def rightQ (D : List CkD) (q : Qr) : Prop := Ak.wrongS D q = false
theorem right_of {q : Qr} (h : Ak.ansS D q = (q.x, q.y, 0)) : rightQ D q := by
  unfold rightQ Ak.wrongS
  rw [decide_eq_true h]
  rfl
/-- What is known of a piece. -/
structure PcP (D : List CkD) (n len : Int) (t : Sp) : Prop where
  pa : Ck.pt len t.2.1 t.2.2.1 = true
  pc : Ck.pt len t.2.2.2.1 t.2.2.2.2 = true
  ac : Rp.q t.2.1 t.2.2.1 < Rp.q t.2.2.2.1 t.2.2.2.2
  dd : ∃ E : Int, 1 ≤ E ∧ E ≤ 18000000 ∧ Dd E (Rp.q t.2.1 t.2.2.1) ∧ Dd E (Rp.q t.2.2.2.1 t.2.2.2.2)
  own : shq n (Ak.dAt D t.1) ≤ cu (Ak.dAt D t.1) (Rp.q t.2.2.2.1 t.2.2.2.2) - cu (Ak.dAt D t.1) (Rp.q t.2.1 t.2.2.1)
end
/-- A block that is kept, with its place in sight. -/
structure BKf (v : World) (g : Nat) (l : List Value) : Prop where
  b : BK v g l
theorem BKf.call {v v' : World} {g : Nat} {l : List Value} (h : BKf v g l) (hb : Below v.heap.size v v') : BKf v' g l := ⟨h.b.keep hb⟩
theorem BKf.al {v : World} {g : Nat} {l : List Value} (h : BKf v g l) (o : Obj) : BKf (v.alloc o) g l := ⟨h.b.al o⟩
theorem BKf.set {v : World} {g p o : Nat} {l : List Value} (h : BKf v g l) (hp : p ≠ g) (x : Value) : BKf (v.setCell ⟨p, o, none⟩ x) g l := ⟨h.b.far hp o x⟩
theorem BKf.size {v : World} {g : Nat} {l : List Value} (h : BKf v g l) : g < v.heap.size := h.b.lt
end Kn
end Go.Proofs.YtniagnldiegamaaGreat

