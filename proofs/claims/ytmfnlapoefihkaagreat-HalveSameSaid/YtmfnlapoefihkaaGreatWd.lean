/- Package halve: a run as a function on lists. Plain mathematics. Package halve: a run of valid cakes asks nothing that is out of range; each agent has its share. Plain mathematics. Package halve: Bound. Package halve: each span that is divided has enough for its agents; the log is right and short; the pieces lie side by side. Plain mathematics. -/
import Derived.Test.YtmfnlapoefihkaaGreatWb
import Derived.Test.YtmfnlapoefihkaaGreatHvg
import Derived.Test.YtmfnlapoefihkaaGreatWc
import Derived.Test.YtmfnlapoefihkaaGreatGm
import Derived.Test.YtmfnlapoefihkaaGreatLen
import Derived.Test.YtmfnlapoefihkaaGreatAskm
import Derived.Deep.CutBlock
import Derived.Deep.DeepCutAuto
namespace Go.Proofs.YtmfnlapoefihkaaGreat
open Go.RowKit
namespace Hv
theorem uniq {α : Type} {r : α → α → Prop} (has : ∀ a b, r a b → r b a → a = b) : ∀ {L M : List α}, L.Pairwise r → M.Pairwise r → L.Perm M → L = M
  | [], M, _, _, hp => hp.symm.eq_nil.symm
  | x :: L, M, hL, hM, hp => by
    cases M with
    | nil => exact absurd hp.eq_nil (by simp)
    | cons m M =>
      have hm : x = m := by
        rcases List.mem_cons.1 (hp.mem_iff.1 (List.mem_cons_self ..)) with e | e
        · exact e
        · rcases List.mem_cons.1 (hp.mem_iff.2 (List.mem_cons_self ..)) with e2 | e2
          · exact e2.symm
          · exact has _ _ ((List.pairwise_cons.1 hL).1 m e2) ((List.pairwise_cons.1 hM).1 x e)
      subst hm; rw [uniq has (List.pairwise_cons.1 hL).2 (List.pairwise_cons.1 hM).2 ((List.perm_cons _).1 hp)]
section
variable {α : Type} (le : α → α → Bool)
def ins (x : α) : List α → List α
  | [] => [x]
  | y :: t => if le x y = true then x :: y :: t else y :: ins x t
def srt : List α → List α
  | [] => []
  | x :: t => ins le x (srt t)
theorem ins_perm (x : α) : ∀ t, (ins le x t).Perm (x :: t)
  | [] => .refl _
  | y :: t => by
    unfold ins
    split
    · exact .refl _
    · exact ((ins_perm x t).cons y).trans (.swap x y t)
theorem srt_perm : ∀ l, (srt le l).Perm l
  | [] => .refl _
  | x :: t => (ins_perm le x (srt le t)).trans ((srt_perm t).cons x)
theorem ins_srt {r : α → α → Prop} (htr : ∀ a b c, r a b → r b c → r a c) (x : α) : ∀ t, (∀ y ∈ t, (le x y = true → r x y) ∧ (le x y ≠ true → r y x)) → t.Pairwise r → (ins le x t).Pairwise r
  | [], _, _ => by unfold ins; simp
  | y :: t, hl, ht => by
    have hy := hl y (List.mem_cons_self ..); obtain ⟨h1, h2⟩ := List.pairwise_cons.1 ht
    unfold ins
    split
    · rename_i e
      refine List.pairwise_cons.2 ⟨fun z hz => ?_, ht⟩
      rcases List.mem_cons.1 hz with rfl | hz
      · exact hy.1 e
      · exact htr _ _ _ (hy.1 e) (h1 z hz)
    · rename_i e
      refine List.pairwise_cons.2 ⟨fun z hz => ?_, ins_srt htr x t (fun z hz => hl z (List.mem_cons_of_mem _ hz)) h2⟩
      rcases List.mem_cons.1 ((ins_perm le x t).mem_iff.1 hz) with rfl | hz
      · exact hy.2 e
      · exact h1 z hz
theorem srt_srt {r : α → α → Prop} (htr : ∀ a b c, r a b → r b c → r a c) : ∀ l, l.Pairwise (fun a b => (le a b = true → r a b) ∧ (le a b ≠ true → r b a)) → (srt le l).Pairwise r
  | [], _ => by unfold srt; simp
  | x :: t, h => by
    obtain ⟨h1, h2⟩ := List.pairwise_cons.1 h; exact ins_srt le htr x _ (fun y hy => h1 y ((srt_perm le t).mem_iff.1 hy)) (srt_srt htr t h2)
end
def lxb (a b : Mk) : Bool := decide (mq a < mq b ∨ (mq a = mq b ∧ a.1 < b.1))
theorem lx_of {a b : Mk} (h : lxb a b = true) : Lx a b := of_decide_eq_true (p := mq a < mq b ∨ (mq a = mq b ∧ a.1 < b.1)) h
theorem lx_no {a b : Mk} (h : lxb a b ≠ true) (hn : a.1 ≠ b.1) : Lx b a := by
  have h := fun g => h (decide_eq_true g)
  unfold Lx
  by_cases e : mq a = mq b
  · exact .inr ⟨e.symm, by have : ¬ a.1 < b.1 := fun g => h (.inr ⟨e, g⟩); omega⟩
  · exact .inl (by have : ¬ mq a < mq b := fun g => h (.inl g); grind)
theorem lx_anti (a b : Mk) (h : Lx a b) (k : Lx b a) : a = b := by
  unfold Lx at h k
  rcases h with h | ⟨h, h2⟩ <;> rcases k with k | ⟨k, k2⟩
  · exact absurd k (by grind)
  · rw [k] at h; exact absurd h (by grind)
  · rw [h] at k; exact absurd k (by grind)
  · omega
def leb (a b : Nat) : Bool := decide (a ≤ b)
section
variable (D : List CkD) (len a b c d : Int)
/-- A span is the whole cake. -/
def isAll : Bool := decide (a = 0 ∧ b = 1 ∧ c = len ∧ d = 1)
/-- What a span is worth for an agent. -/
def wv (k : Nat) : Int × Int × Int := if isAll len a b c d = true then (Ch.tt (Ak.dAt D k), 1, 0) else Ak.vS (Ak.dAt D k) a b c d
/-- The part of it, and its mark. -/
def wm (pn pd : Int) (k : Nat) : Int × Int × Int := Rp.mulS (wv D len a b c d k).1 (wv D len a b c d k).2.1 pn pd
def mkA (pn pd : Int) (k : Nat) : Int × Int × Int := Ak.kS (Ak.dAt D k) a b (wm D len a b c d pn pd k).1 (wm D len a b c d pn pd k).2.1
def qV (k : Nat) : Qr := ⟨(k : Nat), 1, a, b, c, d, (wv D len a b c d k).1, (wv D len a b c d k).2.1⟩
def qM (pn pd : Int) (k : Nat) : Qr := ⟨(k : Nat), 2, a, b, (wm D len a b c d pn pd k).1, (wm D len a b c d pn pd k).2.1, (mkA D len a b c d pn pd k).1, (mkA D len a b c d pn pd k).2.1⟩
def qsn (pn pd : Int) (k : Nat) : List Qr := if isAll len a b c d = true then [qM D len a b c d pn pd k] else [qV D len a b c d k, qM D len a b c d pn pd k]
def prt (l : List Nat) : Int × Int × Int := Rp.makeS ((l.length / 2 : Nat) : Int) (l.length : Int)
/-- The marks, ordered; the cut, and who goes where. -/
def rawM (l : List Nat) : List Mk := mks l (fun j => (mkA D len a b c d (prt l).1 (prt l).2.1 (l.getD j 0)).1) (fun j => (mkA D len a b c d (prt l).1 (prt l).2.1 (l.getD j 0)).2.1) l.length
def srtM (l : List Nat) : List Mk := srt lxb (rawM D len a b c d l)
def cut (l : List Nat) : Mk := mat (srtM D len a b c d l) (l.length / 2 - 1)
def lft (l : List Nat) : List Nat := srt leb (((srtM D len a b c d l).take (l.length / 2)).map fun z => z.1)
def rgt (l : List Nat) : List Nat := srt leb (((srtM D len a b c d l).drop (l.length / 2)).map fun z => z.1)
def slog (l : List Nat) (L : List Qr) : List Qr := lg L (fun j => qsn D len a b c d (prt l).1 (prt l).2.1 (l.getD j 0)) l.length
end
/-- What one agent gets: who, and from where to where. -/
abbrev Sp := Nat × Int × Int × Int × Int
section
variable (D : List CkD) (len : Int)
/-- The log, and who gets what, from the left to the right. -/
def run : Nat → List Nat → Int → Int → Int → Int → List Qr → List Qr × List Sp
  | 0, _, _, _, _, _, L => (L, [])
  | f + 1, l, a, b, c, d, L =>
    if l.length = 1 then (L, [(l.getD 0 0, a, b, c, d)]) else
    ((run f (rgt D len a b c d l) (cut D len a b c d l).2.1 (cut D len a b c d l).2.2 c d (run f (lft D len a b c d l) a b (cut D len a b c d l).2.1 (cut D len a b c d l).2.2 (slog D len a b c d l L)).1).1,
      (run f (lft D len a b c d l) a b (cut D len a b c d l).2.1 (cut D len a b c d l).2.2 (slog D len a b c d l L)).2 ++
      (run f (rgt D len a b c d l) (cut D len a b c d l).2.1 (cut D len a b c d l).2.2 c d (run f (lft D len a b c d l) a b (cut D len a b c d l).2.1 (cut D len a b c d l).2.2 (slog D len a b c d l L)).1).2)
/-- All that a split asks is answered. -/
structure SFit (l : List Nat) (a b c d : Int) (L : List Qr) : Prop where
  h2 : 2 ≤ l.length
  h6 : l.length ≤ 6
  so : l.Pairwise fun a b => a < b
  lt : ∀ x ∈ l, x < D.length
  ck : Ak.chkS D L.length = 0
  pa : Rp.Ok a b
  a0 : 0 ≤ a
  pc : Rp.Ok c d
  c0 : 0 ≤ c
  ac : Rp.q a b < Rp.q c d
  cl : Rp.q c d ≤ Rp.q len 1
  ask : ∀ j, j < l.length → Asks D len a b c d (prt l).1 (prt l).2.1 (l.getD j 0) (lg L (fun j => qsn D len a b c d (prt l).1 (prt l).2.1 (l.getD j 0)) j).length (qsn D len a b c d (prt l).1 (prt l).2.1 (l.getD j 0)) (mkA D len a b c d (prt l).1 (prt l).2.1 (l.getD j 0)).1 (mkA D len a b c d (prt l).1 (prt l).2.1 (l.getD j 0)).2.1
  ok : ∀ j, j < l.length → Rp.Ok (mkA D len a b c d (prt l).1 (prt l).2.1 (l.getD j 0)).1 (mkA D len a b c d (prt l).1 (prt l).2.1 (l.getD j 0)).2.1
/-- All that a run asks is answered. -/
def Fine : Nat → List Nat → Int → Int → Int → Int → List Qr → Prop
  | 0, _, _, _, _, _, _ => False
  | f + 1, l, a, b, c, d, L => (l.length = 1 ∧ l.getD 0 0 < D.length) ∨ (SFit D len l a b c d L ∧
    Fine f (lft D len a b c d l) a b (cut D len a b c d l).2.1 (cut D len a b c d l).2.2 (slog D len a b c d l L) ∧
    Fine f (rgt D len a b c d l) (cut D len a b c d l).2.1 (cut D len a b c d l).2.2 c d (run D len f (lft D len a b c d l) a b (cut D len a b c d l).2.1 (cut D len a b c d l).2.2 (slog D len a b c d l L)).1)
end
section
variable {D : List CkD} {len a b c d : Int} {l : List Nat}
theorem prt_spec (h2 : 2 ≤ l.length) (h6 : l.length ≤ 6) : (prt l).2.2 = 0 ∧ 1 ≤ (prt l).1 ∧ (prt l).1 ≤ 6 ∧ 1 ≤ (prt l).2.1 ∧ (prt l).2.1 ≤ 6 ∧ Rp.Ok (prt l).1 (prt l).2.1 ∧ Rp.q (prt l).1 (prt l).2.1 * (((l.length : Nat) : Int) : Rat) = (((l.length / 2 : Nat) : Int) : Rat) := by
  unfold prt
  have : l.length = 2 ∨ l.length = 3 ∨ l.length = 4 ∨ l.length = 5 ∨ l.length = 6 := by omega
  rcases this with e | e | e | e | e <;> rw [e] <;> decide +kernel
theorem getD_mem' {k : Nat} (hk : k < l.length) : l.getD k 0 ∈ l := by simp [hk]
theorem raw_ne (hs : l.Pairwise fun a b => a < b) : (rawM D len a b c d l).Pairwise fun x y => x.1 < y.1 := by
  unfold rawM mks
  rw [List.pairwise_map, List.pairwise_iff_getElem]; intro i j h1 h2 h3; rw [List.length_range] at h1 h2
  simp only [List.getElem_range]
  rw [List.pairwise_iff_getElem] at hs; have := hs i j (by omega) (by omega) h3
  simpa [show i < l.length by omega, show j < l.length by omega] using this
theorem srtM_srt (hs : l.Pairwise fun a b => a < b) : (srtM D len a b c d l).Pairwise Lx :=
  srt_srt lxb (fun _ _ _ h k => h.trans k) _ ((raw_ne hs).imp fun h => ⟨lx_of, fun g => lx_no g (Nat.ne_of_lt h)⟩)
theorem srtM_perm : (srtM D len a b c d l).Perm (rawM D len a b c d l) := srt_perm _ _
theorem srtM_eq (hs : l.Pairwise fun a b => a < b) {M : List Mk} (hp : M.Perm (rawM D len a b c d l)) (hM : M.Pairwise Lx) : M = srtM D len a b c d l :=
  uniq lx_anti hM (srtM_srt hs) (hp.trans srtM_perm.symm)
theorem nsrt (L : List Nat) : Hi.Inc (srt leb L) :=
  srt_srt (r := fun a b => a ≤ b) leb (fun _ _ _ h k => Nat.le_trans h k) L (by
    rw [List.pairwise_iff_getElem]; intro i j _ _ _
    unfold leb
    refine ⟨fun h => ?_, fun h => ?_⟩
    · simpa using h
    · have : ¬ L[i] ≤ L[j] := by simpa using h
      omega)
theorem nsrt_eq {S L : List Nat} (hp : S.Perm L) (hS : Hi.Inc S) : S = srt leb L := uniq (fun _ _ h k => Nat.le_antisymm h k) hS (nsrt L) (hp.trans (srt_perm leb L).symm)
theorem rawM_fst : (rawM D len a b c d l).map (fun z => z.1) = l := by
  unfold rawM mks
  rw [List.map_map]; refine List.ext_getElem (by simp) (fun k h1 h2 => ?_)
  simp [h2]
theorem srtM_len : (srtM D len a b c d l).length = l.length := by
  rw [(srtM_perm (D := D) (len := len) (a := a) (b := b) (c := c) (d := d) (l := l)).length_eq]
  unfold rawM
  exact mks_len _ _ _ _
theorem lr_perm : (lft D len a b c d l ++ rgt D len a b c d l).Perm l := by
  have h1 : (lft D len a b c d l).Perm _ := srt_perm leb _; have h2 : (rgt D len a b c d l).Perm _ := srt_perm leb _; refine (h1.append h2).trans ?_; rw [← List.map_append, List.take_append_drop]; have := (srtM_perm (D := D) (len := len) (a := a) (b := b) (c := c) (d := d) (l := l)).map (fun z => z.1)
  rwa [rawM_fst] at this
theorem lft_len : (lft D len a b c d l).length = l.length / 2 := by
  have h1 : (lft D len a b c d l).Perm _ := srt_perm leb _; rw [h1.length_eq, List.length_map, List.length_take, srtM_len]
  omega
theorem rgt_len : (rgt D len a b c d l).length = l.length - l.length / 2 := by
  have h1 : (rgt D len a b c d l).Perm _ := srt_perm leb _; rw [h1.length_eq, List.length_map, List.length_drop, srtM_len]
theorem inc_lt {S : List Nat} (h : Hi.Inc S) (hn : S.Nodup) : S.Pairwise fun a b => a < b := (List.Pairwise.and h hn).imp fun h => Nat.lt_of_le_of_ne h.1 h.2
theorem lr_nodup (hs : l.Pairwise fun a b => a < b) : (lft D len a b c d l ++ rgt D len a b c d l).Nodup :=
  (lr_perm (D := D) (len := len) (a := a) (b := b) (c := c) (d := d) (l := l)).nodup_iff.2 (hs.imp fun h => Nat.ne_of_lt h)
theorem lft_so (hs : l.Pairwise fun a b => a < b) : (lft D len a b c d l).Pairwise fun a b => a < b := inc_lt (nsrt _) (List.nodup_append.1 (lr_nodup hs)).1
theorem rgt_so (hs : l.Pairwise fun a b => a < b) : (rgt D len a b c d l).Pairwise fun a b => a < b := inc_lt (nsrt _) (List.nodup_append.1 (lr_nodup hs)).2.1
theorem lft_mem {x : Nat} (h : x ∈ lft D len a b c d l) : x ∈ l := lr_perm.mem_iff.1 (List.mem_append_left _ h)
theorem rgt_mem {x : Nat} (h : x ∈ rgt D len a b c d l) : x ∈ l := lr_perm.mem_iff.1 (List.mem_append_right _ h)
theorem lr_no (hs : l.Pairwise fun a b => a < b) {x : Nat} (h : x ∈ lft D len a b c d l) (k : x ∈ rgt D len a b c d l) : False :=
  (List.nodup_append.1 (lr_nodup (D := D) (len := len) (a := a) (b := b) (c := c) (d := d) hs)).2.2 x h x k rfl
/-- Whoever gets something is one of the agents. -/
theorem run_ag : ∀ (f : Nat) (l : List Nat) (a b c d : Int) (L : List Qr), Fine D len f l a b c d L → ((run D len f l a b c d L).2.map fun t => t.1).Perm l
  | 0, _, _, _, _, _, _, h => h.elim
  | f + 1, l, a, b, c, d, L, h => by
    unfold run
    rcases h with ⟨h, _⟩ | ⟨hs, h1, h2⟩
    · rw [if_pos h]
      obtain ⟨x, rfl⟩ := List.length_eq_one_iff.1 h; exact .refl _
    · rw [if_neg (by have := hs.h2; omega)]
      rw [List.map_append]; exact ((run_ag f _ _ _ _ _ _ h1).append (run_ag f _ _ _ _ _ _ h2)).trans lr_perm
end
end Hv
end Go.Proofs.YtmfnlapoefihkaaGreat
namespace Go.Proofs.YtmfnlapoefihkaaGreat
open Go.RowKit
namespace Hv
open Ck Ch
section
variable {D : List CkD} {len a b : Int}
theorem ck_at (hc : Ak.chkS D 0 = 0) {j : Nat} (h : j < D.length) : Ak.ckD (Ak.dAt D j) = 0 ∧ (Ak.dAt D j).1 = (Ak.dAt D 0).1 := by
  have g := Ak.chkS_good hc
  have hm : Ak.dAt D j ∈ D := by
    unfold Ak.dAt
    simp [h]
  exact ⟨g.all _ hm, g.same _ hm⟩
theorem chk_up {m : Nat} (h : Ak.chkS D 0 = 0) (hm : m ≤ 2000) : Ak.chkS D m = 0 :=
  Ak.good_chkS ⟨(Ak.chkS_good h).l0, (Ak.chkS_good h).l1, hm, (Ak.chkS_good h).all, (Ak.chkS_good h).same⟩
theorem ans_M {j : Nat} (hj : j < D.length) (s1 s2 : Int) : Ak.ansS D ⟨(j : Nat), 2, a, b, s1, s2, 0, 0⟩ = Ak.kS (Ak.dAt D j) a b s1 s2 := by
  unfold Ak.ansS
  rw [if_pos ⟨Int.natCast_nonneg _, by dsimp only; omega⟩, if_neg (show ¬ (2 : Int) = 1 by decide), if_pos rfl]
  rfl
theorem ans_V {j : Nat} (hj : j < D.length) (x y : Int) : Ak.ansS D ⟨(j : Nat), 1, a, b, x, y, 0, 0⟩ = Ak.vS (Ak.dAt D j) a b x y := by
  unfold Ak.ansS
  rw [if_pos ⟨Int.natCast_nonneg _, by dsimp only; omega⟩, if_pos rfl]
  rfl
theorem ok_len (hc : Ak.chkS D 0 = 0) (hlen : (Ak.dAt D 0).1 = len) : Rp.Ok len 1 := by
  have g := Ak.chkS_good hc; have g0 := g.l0; have hG := chk_good (show Ck.chk (Ak.dAt D 0).1 (Ak.dAt D 0).2.1 (Ak.dAt D 0).2.2 = 0 from (ck_at hc (by omega)).1); have l0 := hG.len0; have l1 := hG.len1; rw [hlen] at l0 l1; exact Rp.Ok_one (by omega) (by omega)
end
theorem mark_val {c : CkD} (hc : Ak.ckD c = 0) {D a b s1 s2 : Int} (hp : Ck.pt c.1 a b = true) (E1 : 1 ≤ D) (E2 : D ≤ 8000000) (ds : Dd D (Rp.q a b)) (hok : Rp.Ok s1 s2) (dn : Dd D (Rp.q s1 s2)) (hpos : 0 < Rp.q s1 s2) (hle : Rp.q s1 s2 ≤ ((12000 : Int) : Rat)) (he : Rp.q s1 s2 ≤ cu c (c.1 : Rat) - cu c (Rp.q a b)) :
    ∃ x y, Ak.kS c a b s1 s2 = (x, y, 0) ∧ Ck.pt c.1 x y = true ∧ Rp.q a b ≤ Rp.q x y ∧ cu c (Rp.q x y) - cu c (Rp.q a b) = Rp.q s1 s2 ∧ ∃ g : Int, 1 ≤ g ∧ g ≤ 12 ∧ Dd (D * g) (Rp.q x y) := by
  have hG := chk_good (show Ck.chk c.1 c.2.1 c.2.2 = 0 from hc); obtain ⟨oA, qA, lA⟩ := pt_q hp hG.len0 hG.len1; have hn : 0 ≤ s1 := (q_nonneg hok).1 (Rat.le_of_lt hpos)
  have hz : s1 ≠ 0 := fun e => by
    have := (q_zero hok).2 e; rw [this] at hpos; exact absurd hpos (by decide)
  have hk : Ak.kS c a b s1 s2 = mgo c.1 c.2.1 c.2.2 a b c.2.2.length 0 s1 s2 := by
    unfold Ak.kS
    rw [if_pos ⟨hp, hok, hn⟩]
    unfold mrk
    rw [if_neg hz]
  have hm := mrk_is hG oA lA hok hn
  unfold mrk at hm
  rw [if_neg hz] at hm; have hg := mgo_db hG oA ds qA lA E1 E2 c.2.2.length 0 (by omega) s1 s2 hok dn (Rat.le_of_lt hpos) hle; rw [hk]
  generalize mgo c.1 c.2.1 c.2.2 a b c.2.2.length 0 s1 s2 = r at *
  obtain ⟨x, y, e⟩ := r
  rcases hm with ⟨m0, m1, m2, m3, m4, _⟩ | ⟨_, m⟩ | m
  · dsimp only at m0 m1 m2 m3 m4
    subst m0
    rcases hg with ⟨_, g, d1, d2, d3⟩ | hg
    · exact ⟨x, y, rfl, pt_mk m1 (Rat.le_trans qA m2) m3, m2, m4, g, d1, d2, d3⟩
    · simp at hg
  · exfalso
    unfold cu at he
    exact absurd m (Rat.not_lt.2 he)
  · rw [m] at hg
    rcases hg with ⟨hg, _⟩ | hg
    · exact absurd hg (by decide)
    · simp at hg
/-- How fine the points are that n agents may still divide, and how many queries they still may have. -/
def Eb (n : Nat) : Int := if 5 ≤ n then 1 else if 3 ≤ n then 72 else if n = 2 then 5184 else 373248
def qc : Nat → Nat
  | 2 => 4 | 3 => 10 | 4 => 16 | 5 => 24 | 6 => 32 | _ => 0
/-- What holds of a span that some agents are to divide. -/
structure SInv (D : List CkD) (n len : Int) (l : List Nat) (a b c d E : Int) (m : Nat) : Prop where
  ne : 1 ≤ l.length
  h6 : l.length ≤ 6
  so : l.Pairwise fun a b => a < b
  lt : ∀ x ∈ l, x < D.length
  pa : Ck.pt len a b = true
  pc : Ck.pt len c d = true
  ac : Rp.q a b < Rp.q c d
  e1 : 1 ≤ E
  e2 : E ≤ Eb l.length
  da : Dd E (Rp.q a b)
  dc : Dd E (Rp.q c d)
  own : ∀ k ∈ l, (((l.length : Nat) : Int) : Rat) * shq n (Ak.dAt D k) ≤ cu (Ak.dAt D k) (Rp.q c d) - cu (Ak.dAt D k) (Rp.q a b)
  lg : m + qc l.length ≤ 100
section
variable {D : List CkD} {n len a b c d E : Int} {l : List Nat} {m : Nat}
/-- What an agent is asked. -/
structure KInv (D : List CkD) (n len a b c d E : Int) (l : List Nat) (k : Nat) : Prop where
  v0 : (wv D len a b c d k).2.2 = 0
  v1 : Rp.Ok (wv D len a b c d k).1 (wv D len a b c d k).2.1
  v2 : Rp.q (wv D len a b c d k).1 (wv D len a b c d k).2.1 = cu (Ak.dAt D k) (Rp.q c d) - cu (Ak.dAt D k) (Rp.q a b)
  m0 : (wm D len a b c d (prt l).1 (prt l).2.1 k).2.2 = 0
  m1 : Rp.Ok (wm D len a b c d (prt l).1 (prt l).2.1 k).1 (wm D len a b c d (prt l).1 (prt l).2.1 k).2.1
  k0 : (mkA D len a b c d (prt l).1 (prt l).2.1 k).2.2 = 0
  k1 : Ck.pt len (mkA D len a b c d (prt l).1 (prt l).2.1 k).1 (mkA D len a b c d (prt l).1 (prt l).2.1 k).2.1 = true
  kv : cu (Ak.dAt D k) (Rp.q (mkA D len a b c d (prt l).1 (prt l).2.1 k).1 (mkA D len a b c d (prt l).1 (prt l).2.1 k).2.1) - cu (Ak.dAt D k) (Rp.q a b) = (cu (Ak.dAt D k) (Rp.q c d) - cu (Ak.dAt D k) (Rp.q a b)) * Rp.q (prt l).1 (prt l).2.1
  kd : ∃ g : Int, 1 ≤ g ∧ g ≤ 72 ∧ Dd (E * g) (Rp.q (mkA D len a b c d (prt l).1 (prt l).2.1 k).1 (mkA D len a b c d (prt l).1 (prt l).2.1 k).2.1)
  pos : 0 < cu (Ak.dAt D k) (Rp.q c d) - cu (Ak.dAt D k) (Rp.q a b)
theorem prt_bd (h2 : 2 ≤ l.length) (h6 : l.length ≤ 6) : 0 < Rp.q (prt l).1 (prt l).2.1 ∧ Rp.q (prt l).1 (prt l).2.1 < 1 := by
  unfold prt
  have : l.length = 2 ∨ l.length = 3 ∨ l.length = 4 ∨ l.length = 5 ∨ l.length = 6 := by omega
  rcases this with e | e | e | e | e <;> rw [e] <;> decide +kernel
theorem eb_le (h2 : 2 ≤ l.length) : Eb l.length ≤ 5184 := by unfold Eb; (repeat' split) <;> omega
theorem SInv.k (hc : Ak.chkS D 0 = 0) (hn : n = (D.length : Nat)) (hlen : (Ak.dAt D 0).1 = len) (h : SInv D n len l a b c d E m) (h2 : 2 ≤ l.length) {k : Nat} (hk : k ∈ l) : KInv D n len a b c d E l k := by
  obtain ⟨hck, hl1⟩ := ck_at hc (h.lt k hk); rw [hlen] at hl1; have g := Ak.chkS_good hc; have g0 := g.l0; have g1 := g.l1; have hG := chk_good (show Ck.chk (Ak.dAt D k).1 (Ak.dAt D k).2.1 (Ak.dAt D k).2.2 = 0 from hck); have hsh := sh_ok (n := n) hck (by omega) (by omega); have hE := eb_le h2; have e1 := h.e1; have e2 := h.e2; have h6 := h.h6; have hle := Rat.le_of_lt h.ac; obtain ⟨p0, p1, p2, p3, p4, p5, p6⟩ := prt_spec h2 h6; obtain ⟨q0, q1⟩ := prt_bd h2 h6; obtain ⟨w1, w2, u1, u2, u3⟩ := value_db hck (by rw [hl1]; exact h.pa) (by rw [hl1]; exact h.pc) hle e1 (show E ≤ 100000000 by omega) h.da h.dc
  have hV : (wv D len a b c d k).2.2 = 0 ∧ Rp.Ok (wv D len a b c d k).1 (wv D len a b c d k).2.1 ∧ Rp.q (wv D len a b c d k).1 (wv D len a b c d k).2.1 = cu (Ak.dAt D k) (Rp.q c d) - cu (Ak.dAt D k) (Rp.q a b) := by
    unfold wv
    split
    · rename_i hall
      obtain ⟨rfl, rfl, rfl, rfl⟩ := of_decide_eq_true hall; have t0 := (tot_bd hG _ (Nat.le_refl _)).1; have t1 := (tot_bd hG _ (Nat.le_refl _)).2; have la := hG.last; have l1 := hG.len1; refine ⟨rfl, Rp.Ok_one (by unfold tt; omega) (by unfold tt; omega), ?_⟩; rw [Rp.q_one, Rp.q_one, Rp.q_one, show ((0 : Int) : Rat) = 0 from rfl, cu_zero hck, ← hl1, cu_len hck]
      grind
    · rw [u1]
      exact ⟨rfl, u2, u3⟩
  obtain ⟨v0, v1, v2⟩ := hV; have hown := h.own k hk
  have hpos : 0 < cu (Ak.dAt D k) (Rp.q c d) - cu (Ak.dAt D k) (Rp.q a b) := by
    have hl2 := cast_le (show (1 : Int) ≤ ((l.length : Nat) : Int) by omega); have e1 : ((1 : Int) : Rat) = 1 := rfl; rw [e1] at hl2; have := Rat.mul_le_mul_of_nonneg_right hl2 (Rat.le_of_lt hsh.2.2.2.2.1); rw [Rat.one_mul] at this; have h5 := hsh.2.2.2.2.1
    grind
  have hb : cu (Ak.dAt D k) (Rp.q c d) - cu (Ak.dAt D k) (Rp.q a b) ≤ ((12000 : Int) : Rat) := by
    obtain ⟨oA, qA, lA⟩ := pt_q h.pa (by rw [← hl1]; exact hG.len0) (by rw [← hl1]; exact hG.len1); obtain ⟨oC, qC, lC⟩ := pt_q h.pc (by rw [← hl1]; exact hG.len0) (by rw [← hl1]; exact hG.len1); have c1 := cu_mono hck qA; have c2 := cu_mono hck lC; rw [cu_zero hck] at c1; rw [← hl1, cu_len hck] at c2; have t1 := (tot_bd hG _ (Nat.le_refl _)).2; have la := hG.last; have l1 := hG.len1; have : ((tt (Ak.dAt D k) : Int) : Rat) ≤ ((12000 : Int) : Rat) := cast_le (by unfold tt; omega)
    grind
  obtain ⟨V, hVe⟩ : ∃ V, cu (Ak.dAt D k) (Rp.q c d) - cu (Ak.dAt D k) (Rp.q a b) = V := ⟨_, rfl⟩; rw [hVe] at v2 hpos hb; have hx0 : 0 < V * Rp.q (prt l).1 (prt l).2.1 := Rat.mul_pos hpos q0
  have hx1 : V * Rp.q (prt l).1 (prt l).2.1 ≤ V := by
    have := Rat.mul_le_mul_of_nonneg_left (Rat.le_of_lt q1) (Rat.le_of_lt hpos)
    rwa [Rat.mul_one] at this
  have hne : (((l.length : Nat) : Int) : Rat) ≠ 0 := by
    have := cast_lt (show (0 : Int) < ((l.length : Nat) : Int) by omega); rw [c0] at this
    grind
  have hdd : Dd (E * (l.length : Int)) (V * Rp.q (prt l).1 (prt l).2.1) := by
    have hd : Dd E V := by
      have := (cum_dd h.dc (Ak.dAt D k).2.2.length (c := (Ak.dAt D k).2.1) (d := (Ak.dAt D k).2.2)).sub (cum_dd h.da (Ak.dAt D k).2.2.length (c := (Ak.dAt D k).2.1) (d := (Ak.dAt D k).2.2)); rw [← hVe]; exact this
    have := (hd.muli ((l.length / 2 : Nat) : Int)).divi hne
    have e : V * (((l.length / 2 : Nat) : Int) : Rat) / (((l.length : Nat) : Int) : Rat) = V * Rp.q (prt l).1 (prt l).2.1 := by
      rw [← p6, ← Rat.mul_assoc, Rat.mul_div_cancel hne]
    rwa [e] at this
  have hE6 : E * (l.length : Int) ≤ 31104 := by
    have := Int.mul_le_mul (show E ≤ 5184 by omega) (show (l.length : Int) ≤ 6 by omega) (by omega) (by omega)
    omega
  have hE1 : 1 ≤ E * (l.length : Int) := by
    have := Int.mul_le_mul e1 (show (1 : Int) ≤ (l.length : Int) by omega) (by omega) (by omega)
    omega
  have z2 := cast_le (show (-1000000000 : Int) ≤ 0 by decide); have z3 := cast_le (show (12000 : Int) ≤ 1000000000 by decide); rw [c0] at z2
  have hM : (wm D len a b c d (prt l).1 (prt l).2.1 k).2.2 = 0 ∧ Rp.Ok (wm D len a b c d (prt l).1 (prt l).2.1 k).1 (wm D len a b c d (prt l).1 (prt l).2.1 k).2.1 ∧ Rp.q (wm D len a b c d (prt l).1 (prt l).2.1 k).1 (wm D len a b c d (prt l).1 (prt l).2.1 k).2.1 = V * Rp.q (prt l).1 (prt l).2.1 := by
    have hz : (Rp.ofQ (V * Rp.q (prt l).1 (prt l).2.1)).2.2 = 0 := ofQ_db hdd hE1 (by omega) (by grind) (by grind); have hcs := Rp.ofQ_cases (V * Rp.q (prt l).1 (prt l).2.1)
    unfold wm
    rw [Rp.mulS_ok v1 p5, v2]
    rcases hcs with ⟨_, ok, hv⟩ | e
    · exact ⟨hz, ok, hv⟩
    · rw [e] at hz
      exact absurd hz (by decide)
  obtain ⟨m0, m1, m2⟩ := hM
  have hce : V * Rp.q (prt l).1 (prt l).2.1 ≤ cu (Ak.dAt D k) (((Ak.dAt D k).1 : Int) : Rat) - cu (Ak.dAt D k) (Rp.q a b) := by
    obtain ⟨oC, qC, lC⟩ := pt_q h.pc (by rw [← hl1]; exact hG.len0) (by rw [← hl1]; exact hG.len1); have c2 := cu_mono hck lC; rw [hl1]
    grind
  obtain ⟨x, y, f1, f2, f3, f4, g, f5, f6, f7⟩ := mark_val hck (D := E * (l.length : Int)) (a := a) (b := b) (by rw [hl1]; exact h.pa) hE1 (by omega) (h.da.up _) m1 (by rw [m2]; exact hdd) (by rw [m2]; exact hx0) (by rw [m2]; exact Rat.le_trans hx1 hb) (by rw [m2]; exact hce); rw [hl1] at f2; have hmk : mkA D len a b c d (prt l).1 (prt l).2.1 k = (x, y, 0) := f1; refine ⟨v0, v1, by rw [v2, hVe], m0, m1, by rw [hmk], by rw [hmk]; exact f2, by rw [hmk, f4, m2, hVe], ⟨(l.length : Int) * g, ?_, ?_, ?_⟩, by rw [hVe]; exact hpos⟩
  · have := Int.mul_le_mul (show (1 : Int) ≤ (l.length : Int) by omega) f5 (by omega) (by omega)
    omega
  · have := Int.mul_le_mul (show (l.length : Int) ≤ 6 by omega) f6 (by omega) (by omega)
    omega
  · rw [hmk, ← Int.mul_assoc]
    exact f7
theorem asks_of (hc : Ak.chkS D 0 = 0) {k p : Nat} (hk : k < D.length) (hp : p < 2000) (v0 : (wv D len a b c d k).2.2 = 0) (v1 : Rp.Ok (wv D len a b c d k).1 (wv D len a b c d k).2.1) {pn pd : Int} (m0 : (wm D len a b c d pn pd k).2.2 = 0) (m1 : Rp.Ok (wm D len a b c d pn pd k).1 (wm D len a b c d pn pd k).2.1) (k0 : (mkA D len a b c d pn pd k).2.2 = 0) (hp1 : p + 1 < 2000) :
    Asks D len a b c d pn pd k p (qsn D len a b c d pn pd k) (mkA D len a b c d pn pd k).1 (mkA D len a b c d pn pd k).2.1 := by
  obtain ⟨hck, _⟩ := ck_at hc hk; have hG := chk_good (show Ck.chk (Ak.dAt D k).1 (Ak.dAt D k).2.1 (Ak.dAt D k).2.2 = 0 from hck); obtain ⟨o1, o2, o3, o4, _⟩ := m1
  have hwm : wm D len a b c d pn pd k = ((wm D len a b c d pn pd k).1, (wm D len a b c d pn pd k).2.1, 0) := by rw [← m0]
  have pM : ∀ j, j < 2000 → Ak.putE D j ⟨(k : Nat), 2, a, b, (wm D len a b c d pn pd k).1, (wm D len a b c d pn pd k).2.1, 0, 0⟩ = 0 := fun j hj => by
    unfold Ak.putE
    rw [if_neg (by rw [chk_up hc (by omega)]; simp), ans_M hk, if_neg (by have := k0; unfold mkA at this; rw [this]; simp), if_neg (by omega)]
  have tM : Ak.told D ⟨(k : Nat), 2, a, b, (wm D len a b c d pn pd k).1, (wm D len a b c d pn pd k).2.1, 0, 0⟩ = qM D len a b c d pn pd k := by
    unfold Ak.told
    rw [ans_M hk]
    rfl
  unfold Asks qsn
  by_cases hall : isAll len a b c d = true
  · rw [if_pos hall]
    have hw : wv D len a b c d k = (tt (Ak.dAt D k), 1, 0) := by unfold wv; rw [if_pos hall]
    obtain ⟨i1, i2, i3, i4⟩ := of_decide_eq_true hall; refine .inl ⟨⟨i1, i2, i3, i4⟩, chk_up hc (by omega), tt (Ak.dAt D k), (wm D len a b c d pn pd k).1, (wm D len a b c d pn pd k).2.1, qM D len a b c d pn pd k, ?_, ?_, ?_, ⟨by omega, by omega⟩, ⟨by omega, by omega⟩, ?_, ?_, rfl, rfl, rfl⟩
    · unfold Ck.totS
      rw [if_pos (show Ck.chk (Ak.dAt D k).1 (Ak.dAt D k).2.1 (Ak.dAt D k).2.2 = 0 from hck)]
      rfl
    · have t0 := (tot_bd hG _ (Nat.le_refl _)).1
      have t1 := (tot_bd hG _ (Nat.le_refl _)).2; have la := hG.last; have l1 := hG.len1
      unfold tt I64
      omega
    · have := hwm
      unfold wm at this
      rw [hw] at this; rw [this]
      unfold wm
      rw [hw]
    · have := pM p hp
      rw [i1, i2] at this ⊢; exact this
    · have := tM
      rw [i1, i2] at this ⊢; exact this
  · rw [if_neg hall]
    have hw : wv D len a b c d k = Ak.vS (Ak.dAt D k) a b c d := by unfold wv; rw [if_neg hall]
    have hno : a = 0 → b = 1 → c = len → ¬ d = 1 := fun i1 i2 i3 i4 => hall (decide_eq_true ⟨i1, i2, i3, i4⟩)
    obtain ⟨w1, w2, w3, w4, _⟩ := v1; refine .inr ⟨hno, (wm D len a b c d pn pd k).1, (wm D len a b c d pn pd k).2.1, qV D len a b c d k, qM D len a b c d pn pd k, ?_, ?_, ⟨?_, ?_⟩, ⟨?_, ?_⟩, hwm, ⟨by omega, by omega⟩, ⟨by omega, by omega⟩, pM _ (by omega), tM, rfl, rfl, rfl⟩
    · unfold Ak.putE
      rw [if_neg (by rw [chk_up hc (by omega)]; simp), ans_V hk, if_neg (by rw [hw] at v0; rw [v0]; simp), if_neg (by omega)]
    · unfold Ak.told
      rw [ans_V hk]
      unfold qV
      rw [hw]
    all_goals (unfold qV; dsimp only; omega)
end
end Hv
end Go.Proofs.YtmfnlapoefihkaaGreat
namespace Go.Proofs.YtmfnlapoefihkaaGreat
open Go.RowKit
/-- How many queries a run has at most. -/
def Hv.bd : Nat → Int
  | 2 => 2 | 3 => 9 | 4 => 12 | 5 => 25 | 6 => 30 | _ => 0
theorem hvbits_any (x b : Int) (h0 : 0 ≤ x) (h1 : x < 18446744073709551616) (hb : (Lib.bitLen x.toNat : Int) = b) (w : World) : Calls Tryz.prog 32 #[.int .u64 x] w fun e w' => e = .returned (.int .i64 b) ∧ w = w' := by
  have ll := len64_any x h0 h1 w; rw [hb] at ll; have LL := Lib.hid ll; clear ll hb h0 h1
  go_enter Tryz.func32, Tryz.ntmps32
  (go_wp2_with fail); refine LL.out.mono ?_; rintro e w1 ⟨rfl, rfl⟩; (go_wp2_with fail)
  go_ret
  exact ⟨rfl, rfl⟩
set_option linter.unusedSimpArgs false in
set_option maxHeartbeats 8000000 in
set_option maxRecDepth 100000 in
theorem hvbound_any (n : Nat) (w : World) (h1 : 1 ≤ n) (h6 : n ≤ 6) : Calls Tryz.prog 9 #[.int .i64 (n : Nat)] w fun e w' => e = .returned (.tuple #[.int .i64 (Hv.bd n), .int .i64 0]) ∧ Below w.heap.size w w' := by
  have bl := fun (x b : Int) (h0 : 0 ≤ x) (h1 : x < 18446744073709551616) (hb : (Lib.bitLen x.toNat : Int) = b) (v : World) => hvbits_any x b h0 h1 hb v
  rcases (show n = 1 ∨ n = 2 ∨ n = 3 ∨ n = 4 ∨ n = 5 ∨ n = 6 by omega) with rfl | rfl | rfl | rfl | rfl | rfl
  · clear bl
    go_enter Tryz.func9, Tryz.ntmps9
    go_wp2_with fail
    go_ret2
    exact ⟨rfl, Below.refl _ _⟩
  · have hl := bl 1 1 (by decide) (by decide) (by decide)
    have HL := Lib.hid hl; clear hl bl
    go_enter Tryz.func9, Tryz.ntmps9
    (go_wp2_with fail); refine (HL.out _).mono ?_; rintro e w1 ⟨rfl, rfl⟩; (go_wp2_with fail)
    go_ret2
    exact ⟨rfl, Below.refl _ _⟩
  · have hl := bl 2 2 (by decide) (by decide) (by decide)
    have HL := Lib.hid hl; clear hl bl
    go_enter Tryz.func9, Tryz.ntmps9
    (go_wp2_with fail); refine (HL.out _).mono ?_; rintro e w1 ⟨rfl, rfl⟩; (go_wp2_with fail)
    go_ret2
    exact ⟨rfl, Below.refl _ _⟩
  · have hl := bl 3 2 (by decide) (by decide) (by decide)
    have HL := Lib.hid hl; clear hl bl
    go_enter Tryz.func9, Tryz.ntmps9
    (go_wp2_with fail); refine (HL.out _).mono ?_; rintro e w1 ⟨rfl, rfl⟩; (go_wp2_with fail)
    go_ret2
    exact ⟨rfl, Below.refl _ _⟩
  · have hl := bl 4 3 (by decide) (by decide) (by decide)
    have HL := Lib.hid hl; clear hl bl
    go_enter Tryz.func9, Tryz.ntmps9
    (go_wp2_with fail); refine (HL.out _).mono ?_; rintro e w1 ⟨rfl, rfl⟩; (go_wp2_with fail)
    go_ret2
    exact ⟨rfl, Below.refl _ _⟩
  · have hl := bl 5 3 (by decide) (by decide) (by decide)
    have HL := Lib.hid hl; clear hl bl
    go_enter Tryz.func9, Tryz.ntmps9
    (go_wp2_with fail); refine (HL.out _).mono ?_; rintro e w1 ⟨rfl, rfl⟩; (go_wp2_with fail)
    go_ret2
    exact ⟨rfl, Below.refl _ _⟩
end Go.Proofs.YtmfnlapoefihkaaGreat
namespace Go.Proofs.YtmfnlapoefihkaaGreat
open Go.RowKit
namespace Hv
open Ck Ch
section
variable {D : List CkD} {n len a b c d E : Int} {l : List Nat} {m : Nat}
theorem mem_srt {x : Mk} (h : x ∈ srtM D len a b c d l) : ∃ k ∈ l, x = (k, (mkA D len a b c d (prt l).1 (prt l).2.1 k).1, (mkA D len a b c d (prt l).1 (prt l).2.1 k).2.1) := by
  have h := srtM_perm.mem_iff.1 h
  unfold rawM mks at h
  obtain ⟨j, hj, rfl⟩ := List.mem_map.1 h; have hj := List.mem_range.1 hj; exact ⟨l.getD j 0, getD_mem' hj, rfl⟩
theorem cut_lt (h2 : 2 ≤ l.length) : l.length / 2 - 1 < (srtM D len a b c d l).length := by rw [srtM_len]; omega
theorem cut_eq (h2 : 2 ≤ l.length) : cut D len a b c d l = (srtM D len a b c d l)[l.length / 2 - 1]'(cut_lt h2) := by
  unfold cut mat
  simp [cut_lt (D := D) (len := len) (a := a) (b := b) (c := c) (d := d) h2]
theorem lx_le {x y : Mk} (h : Lx x y) : mq x ≤ mq y := by
  rcases h with h | ⟨h, _⟩
  · exact Rat.le_of_lt h
  · rw [h]; exact Rat.le_refl
theorem lft_le (hs : l.Pairwise fun a b => a < b) (h2 : 2 ≤ l.length) {k : Nat} (hk : k ∈ lft D len a b c d l) : Rp.q (mkA D len a b c d (prt l).1 (prt l).2.1 k).1 (mkA D len a b c d (prt l).1 (prt l).2.1 k).2.1 ≤ mq (cut D len a b c d l) := by
  have hk := (srt_perm leb _).mem_iff.1 hk; obtain ⟨x, hx, rfl⟩ := List.mem_map.1 hk; obtain ⟨k, -, e⟩ := mem_srt (List.mem_of_mem_take hx); obtain ⟨i, hi, e2⟩ := List.mem_iff_getElem.1 hx; rw [List.length_take] at hi; rw [List.getElem_take] at e2; have hc := cut_lt (D := D) (len := len) (a := a) (b := b) (c := c) (d := d) h2
  have key : mq x ≤ mq (cut D len a b c d l) := by
    rw [cut_eq h2, ← e2]
    by_cases e : i = l.length / 2 - 1
    · subst e; exact Rat.le_refl
    · exact lx_le (List.pairwise_iff_getElem.1 (srtM_srt hs) i (l.length / 2 - 1) (by omega) hc (by omega))
  rw [e] at key ⊢; exact key
theorem rgt_ge (hs : l.Pairwise fun a b => a < b) (h2 : 2 ≤ l.length) {k : Nat} (hk : k ∈ rgt D len a b c d l) : mq (cut D len a b c d l) ≤ Rp.q (mkA D len a b c d (prt l).1 (prt l).2.1 k).1 (mkA D len a b c d (prt l).1 (prt l).2.1 k).2.1 := by
  have hk := (srt_perm leb _).mem_iff.1 hk; obtain ⟨x, hx, rfl⟩ := List.mem_map.1 hk; obtain ⟨k, -, e⟩ := mem_srt (List.mem_of_mem_drop hx); obtain ⟨i, hi, e2⟩ := List.mem_iff_getElem.1 hx; rw [List.length_drop] at hi; rw [List.getElem_drop] at e2; have hc := cut_lt (D := D) (len := len) (a := a) (b := b) (c := c) (d := d) h2
  have key : mq (cut D len a b c d l) ≤ mq x := by
    rw [cut_eq h2, ← e2]; exact lx_le (List.pairwise_iff_getElem.1 (srtM_srt hs) (l.length / 2 - 1) (l.length / 2 + i) hc (by omega) (by omega))
  rw [e] at key ⊢; exact key
theorem qc_eq (h2 : 2 ≤ l.length) (h6 : l.length ≤ 6) : 2 * l.length + qc (l.length / 2) + qc (l.length - l.length / 2) = qc l.length := by
  have : l.length = 2 ∨ l.length = 3 ∨ l.length = 4 ∨ l.length = 5 ∨ l.length = 6 := by omega
  rcases this with e | e | e | e | e <;> rw [e] <;> rfl
theorem eb_step (h2 : 2 ≤ l.length) (h6 : l.length ≤ 6) {g : Int} (e1 : 1 ≤ E) (e2 : E ≤ Eb l.length) (g1 : 1 ≤ g) (g2 : g ≤ 72) : 1 ≤ E * g ∧ E * g ≤ Eb (l.length / 2) ∧ E * g ≤ Eb (l.length - l.length / 2) := by
  have q1 := Int.mul_le_mul_of_nonneg_left g2 (show 0 ≤ E by omega); have q0 := Int.mul_le_mul_of_nonneg_left g1 (show 0 ≤ E by omega)
  have : l.length = 2 ∨ l.length = 3 ∨ l.length = 4 ∨ l.length = 5 ∨ l.length = 6 := by omega
  rcases this with e | e | e | e | e <;> rw [e] at e2 ⊢ <;> simp [Eb] at e2 ⊢ <;> omega
theorem SInv.le {m' : Nat} (h : SInv D n len l a b c d E m) (hm : m' ≤ m) : SInv D n len l a b c d E m' :=
  ⟨h.ne, h.h6, h.so, h.lt, h.pa, h.pc, h.ac, h.e1, h.e2, h.da, h.dc, h.own, by have := h.lg; omega⟩
theorem SInv.step (hc : Ak.chkS D 0 = 0) (hn : n = (D.length : Nat)) (hlen : (Ak.dAt D 0).1 = len) (h : SInv D n len l a b c d E m) (h2 : 2 ≤ l.length) : ∃ E' : Int,
    SInv D n len (lft D len a b c d l) a b (cut D len a b c d l).2.1 (cut D len a b c d l).2.2 E' (m + 2 * l.length) ∧
    SInv D n len (rgt D len a b c d l) (cut D len a b c d l).2.1 (cut D len a b c d l).2.2 c d E' (m + 2 * l.length + qc (l.length / 2)) := by
  have h6 := h.h6; obtain ⟨p0, p1, p2, p3, p4, p5, p6⟩ := prt_spec h2 h6; obtain ⟨q0, q1⟩ := prt_bd h2 h6; obtain ⟨k0, hk0, e0⟩ := mem_srt (D := D) (len := len) (a := a) (b := b) (c := c) (d := d) (l := l) (x := cut D len a b c d l) (by rw [cut_eq h2]; exact List.getElem_mem _); have K0 := h.k hc hn hlen h2 hk0; obtain ⟨g, g1, g2, g3⟩ := K0.kd; obtain ⟨E1, E2, E3⟩ := eb_step h2 h6 h.e1 h.e2 g1 g2; have hq := qc_eq h2 h6; have hlg := h.lg; have hcm : mq (cut D len a b c d l) = Rp.q (cut D len a b c d l).2.1 (cut D len a b c d l).2.2 := rfl
  have hL := fun k hk => lft_le (D := D) (len := len) (a := a) (b := b) (c := c) (d := d) h.so h2 (k := k) hk
  have hR := fun k hk => rgt_ge (D := D) (len := len) (a := a) (b := b) (c := c) (d := d) h.so h2 (k := k) hk
  rw [hcm] at hL hR
  have hcp : Ck.pt len (cut D len a b c d l).2.1 (cut D len a b c d l).2.2 = true := by rw [e0]; exact K0.k1
  have hcd : Dd (E * g) (Rp.q (cut D len a b c d l).2.1 (cut D len a b c d l).2.2) := by rw [e0]; exact g3
  have hcv : cu (Ak.dAt D k0) (Rp.q (cut D len a b c d l).2.1 (cut D len a b c d l).2.2) - cu (Ak.dAt D k0) (Rp.q a b) = (cu (Ak.dAt D k0) (Rp.q c d) - cu (Ak.dAt D k0) (Rp.q a b)) * Rp.q (prt l).1 (prt l).2.1 := by rw [e0]; exact K0.kv
  obtain ⟨hck0, -⟩ := ck_at hc (h.lt k0 hk0); have hp0 := Rat.mul_pos K0.pos q0
  have hp1 : (cu (Ak.dAt D k0) (Rp.q c d) - cu (Ak.dAt D k0) (Rp.q a b)) * Rp.q (prt l).1 (prt l).2.1 < cu (Ak.dAt D k0) (Rp.q c d) - cu (Ak.dAt D k0) (Rp.q a b) := by
    have := Rat.mul_lt_mul_of_pos_left q1 K0.pos
    rwa [Rat.mul_one] at this
  clear e0
  generalize (cut D len a b c d l).2.1 = x at *
  generalize (cut D len a b c d l).2.2 = y at *
  refine ⟨E * g, ⟨by rw [lft_len]; omega, by rw [lft_len]; omega, lft_so h.so, fun k hk => h.lt k (lft_mem hk), h.pa, hcp, ?_, E1, by rw [lft_len]; exact E2, h.da.up g, hcd, fun k hk => ?_, by rw [lft_len]; omega⟩, ⟨by rw [rgt_len]; omega, by rw [rgt_len]; omega, rgt_so h.so, fun k hk => h.lt k (rgt_mem hk), hcp, h.pc, ?_, E1, by rw [rgt_len]; exact E3, hcd, h.dc.up g, fun k hk => ?_, by rw [rgt_len]; omega⟩⟩
  · rcases lt_or (Rp.q a b) (Rp.q x y) with q | q
    · exact q
    · have := cu_mono hck0 q
      grind
  · have K := h.k hc hn hlen h2 (lft_mem hk)
    obtain ⟨hck, -⟩ := ck_at hc (h.lt k (lft_mem hk)); have hm := cu_mono hck (hL k hk); have ho := Rat.mul_le_mul_of_nonneg_right (h.own k (lft_mem hk)) (Rat.le_of_lt q0); have hkv := K.kv; rw [lft_len, ← p6]
    generalize cu (Ak.dAt D k) (Rp.q (mkA D len a b c d (prt l).1 (prt l).2.1 k).1 (mkA D len a b c d (prt l).1 (prt l).2.1 k).2.1) = z1 at *
    generalize Rp.q (prt l).1 (prt l).2.1 = z2 at *
    generalize (((l.length : Nat) : Int) : Rat) = z3 at *
    grind
  · rcases lt_or (Rp.q x y) (Rp.q c d) with q | q
    · exact q
    · have := cu_mono hck0 q
      grind
  · have K := h.k hc hn hlen h2 (rgt_mem hk)
    obtain ⟨hck, -⟩ := ck_at hc (h.lt k (rgt_mem hk)); have hm := cu_mono hck (hR k hk); have ho := Rat.mul_le_mul_of_nonneg_right (h.own k (rgt_mem hk)) (show 0 ≤ 1 - Rp.q (prt l).1 (prt l).2.1 by grind); have hkv := K.kv
    have e : (((l.length - l.length / 2 : Nat) : Int) : Rat) = (((l.length : Nat) : Int) : Rat) - (((l.length / 2 : Nat) : Int) : Rat) := by
      rw [← Rat.intCast_sub]
      congr 1
      omega
    rw [rgt_len, e, ← p6]
    generalize cu (Ak.dAt D k) (Rp.q (mkA D len a b c d (prt l).1 (prt l).2.1 k).1 (mkA D len a b c d (prt l).1 (prt l).2.1 k).2.1) = z1 at *
    generalize Rp.q (prt l).1 (prt l).2.1 = z2 at *
    generalize (((l.length : Nat) : Int) : Rat) = z3 at *
    grind
theorem qsn_len (pn pd : Int) (k : Nat) : (qsn D len a b c d pn pd k).length ≤ 2 := by unfold qsn; split <;> simp
theorem lg_len {L : List Qr} {f : Nat → List Qr} {u : Nat} (hf : ∀ k, (f k).length ≤ u) : ∀ j, (lg L f j).length ≤ L.length + u * j
  | 0 => by unfold lg; simp
  | j + 1 => by
    rw [lg_succ, List.length_append]; have := lg_len (L := L) hf j; have := hf j; rw [Nat.mul_succ]
    omega
theorem SInv.fit (hc : Ak.chkS D 0 = 0) (hn : n = (D.length : Nat)) (hlen : (Ak.dAt D 0).1 = len) {L : List Qr} (h : SInv D n len l a b c d E L.length) (h2 : 2 ≤ l.length) : SFit D len l a b c d L := by
  have hlg := h.lg; have h6 := h.h6; obtain ⟨hck, _⟩ := ck_at hc (j := 0) (Ak.chkS_good hc).l0; have hG := chk_good (show Ck.chk (Ak.dAt D 0).1 (Ak.dAt D 0).2.1 (Ak.dAt D 0).2.2 = 0 from hck); have l0 := hG.len0; have l1 := hG.len1; rw [hlen] at l0 l1; obtain ⟨oA, qA, lA⟩ := pt_q h.pa l0 l1; obtain ⟨oC, qC, lC⟩ := pt_q h.pc l0 l1; refine ⟨h2, h6, h.so, h.lt, chk_up hc (by omega), oA, (pt_spec h.pa).2.1, oC, (pt_spec h.pc).2.1, h.ac, by rw [Rp.q_one]; exact lC, fun j hj => ?_, fun j hj => ?_⟩
  · have K := h.k hc hn hlen h2 (getD_mem' hj)
    have hl := lg_len (L := L) (f := fun j => qsn D len a b c d (prt l).1 (prt l).2.1 (l.getD j 0)) (u := 2) (fun k => qsn_len _ _ _) j; exact asks_of hc (h.lt _ (getD_mem' hj)) (by omega) K.v0 K.v1 K.m0 K.m1 K.k0 (by omega)
  · exact (pt_spec (h.k hc hn hlen h2 (getD_mem' hj)).k1).1
/-- A query that is right. -/
def rightQ (D : List CkD) (q : Qr) : Prop := Ak.wrongS D q = false
theorem right_of {q : Qr} (h : Ak.ansS D q = (q.x, q.y, 0)) : rightQ D q := by
  unfold rightQ Ak.wrongS
  rw [decide_eq_true h]
  rfl
theorem qsn_right (hc : Ak.chkS D 0 = 0) (hn : n = (D.length : Nat)) (hlen : (Ak.dAt D 0).1 = len) (h : SInv D n len l a b c d E m) (h2 : 2 ≤ l.length) {k : Nat} (hk : k ∈ l) : ∀ q ∈ qsn D len a b c d (prt l).1 (prt l).2.1 k, rightQ D q := fun q hq => by
  have K := h.k hc hn hlen h2 hk; have hlt := h.lt k hk
  have hM : rightQ D (qM D len a b c d (prt l).1 (prt l).2.1 k) := right_of (by
    have e : Ak.ansS D (qM D len a b c d (prt l).1 (prt l).2.1 k) = mkA D len a b c d (prt l).1 (prt l).2.1 k := ans_M hlt _ _; rw [e]
    show _ = ((mkA D len a b c d (prt l).1 (prt l).2.1 k).1, (mkA D len a b c d (prt l).1 (prt l).2.1 k).2.1, 0)
    rw [← K.k0])
  unfold qsn at hq
  split at hq
  · rw [List.mem_singleton.1 hq]
    exact hM
  · rename_i hall
    rcases List.mem_cons.1 hq with rfl | hq
    · refine right_of ?_
      have hw : wv D len a b c d k = Ak.vS (Ak.dAt D k) a b c d := by unfold wv; rw [if_neg hall]
      have e : Ak.ansS D (qV D len a b c d k) = Ak.vS (Ak.dAt D k) a b c d := ans_V hlt _ _; rw [e, ← hw]
      show _ = ((wv D len a b c d k).1, (wv D len a b c d k).2.1, 0)
      rw [← K.v0]
    · rw [List.mem_singleton.1 hq]
      exact hM
theorem slog_right (hc : Ak.chkS D 0 = 0) (hn : n = (D.length : Nat)) (hlen : (Ak.dAt D 0).1 = len) (h : SInv D n len l a b c d E m) (h2 : 2 ≤ l.length) {L : List Qr} (hL : ∀ q ∈ L, rightQ D q) : ∀ q ∈ slog D len a b c d l L, rightQ D q := fun q hq => by
  unfold slog lg at hq
  rcases List.mem_append.1 hq with hq | hq
  · exact hL q hq
  · obtain ⟨j, hj, hq⟩ := List.mem_flatMap.1 hq
    exact qsn_right hc hn hlen h h2 (getD_mem' (List.mem_range.1 hj)) q hq
/-- Pieces side by side. -/
def Chn : Int × Int → List Sp → Int × Int → Prop
  | p, [], q => p = q
  | p, t :: T, q => (t.2.1, t.2.2.1) = p ∧ Chn (t.2.2.2.1, t.2.2.2.2) T q
theorem chn_app : ∀ {T1 T2 : List Sp} {p q r : Int × Int}, Chn p T1 q → Chn q T2 r → Chn p (T1 ++ T2) r
  | [], _, _, _, _, h, k => by have h : _ = _ := h; subst h; exact k
  | _ :: _, _, _, _, _, h, k => ⟨h.1, chn_app h.2 k⟩
/-- What is known of a piece. -/
structure PcP (D : List CkD) (n len : Int) (t : Sp) : Prop where
  pa : Ck.pt len t.2.1 t.2.2.1 = true
  pc : Ck.pt len t.2.2.2.1 t.2.2.2.2 = true
  ac : Rp.q t.2.1 t.2.2.1 < Rp.q t.2.2.2.1 t.2.2.2.2
  dd : ∃ E : Int, 1 ≤ E ∧ E ≤ 18000000 ∧ Dd E (Rp.q t.2.1 t.2.2.1) ∧ Dd E (Rp.q t.2.2.2.1 t.2.2.2.2)
  own : shq n (Ak.dAt D t.1) ≤ cu (Ak.dAt D t.1) (Rp.q t.2.2.2.1 t.2.2.2.2) - cu (Ak.dAt D t.1) (Rp.q t.2.1 t.2.2.1)
theorem run_all (hc : Ak.chkS D 0 = 0) (hn : n = (D.length : Nat)) (hlen : (Ak.dAt D 0).1 = len) : ∀ (f : Nat) (l : List Nat) (a b c d E : Int) (L : List Qr), l.length ≤ f → SInv D n len l a b c d E L.length →
    Fine D len f l a b c d L ∧ (run D len f l a b c d L).1.length ≤ L.length + qc l.length ∧ ((∀ q ∈ L, rightQ D q) → ∀ q ∈ (run D len f l a b c d L).1, rightQ D q) ∧ Chn (a, b) (run D len f l a b c d L).2 (c, d) ∧ ∀ t ∈ (run D len f l a b c d L).2, PcP D n len t
  | 0, l, a, b, c, d, E, L, hf, h => by have := h.ne; omega
  | f + 1, l, a, b, c, d, E, L, hf, h => by
    by_cases h1 : l.length = 1
    · have e : run D len (f + 1) l a b c d L = (L, [(l.getD 0 0, a, b, c, d)]) := by
        show (if l.length = 1 then _ else _) = _
        rw [if_pos h1]
      have hm : l.getD 0 0 ∈ l := getD_mem' (by omega); rw [e]; refine ⟨.inl ⟨h1, h.lt _ hm⟩, by dsimp only; omega, fun hL => hL, ⟨rfl, rfl⟩, fun t ht => ?_⟩; rw [List.mem_singleton.1 ht]; have ho := h.own _ hm; have e2 := h.e2; rw [h1] at ho e2; rw [show (((1 : Nat) : Int) : Rat) = 1 from rfl, Rat.one_mul] at ho; exact ⟨h.pa, h.pc, h.ac, ⟨E, h.e1, by simp [Eb] at e2; omega, h.da, h.dc⟩, ho⟩
    · have h2 : 2 ≤ l.length := by have := h.ne; omega
      have h6 := h.h6; obtain ⟨E', s1, s2⟩ := h.step hc hn hlen h2; have hsl : (slog D len a b c d l L).length ≤ L.length + 2 * l.length := lg_len (fun k => qsn_len _ _ _) _; have hq := qc_eq h2 h6; obtain ⟨f1, n1, r1, c1, t1⟩ := run_all hc hn hlen f (lft D len a b c d l) a b _ _ E' (slog D len a b c d l L) (by rw [lft_len]; omega) (s1.le hsl); rw [lft_len] at n1; obtain ⟨f2, n2, r2, c2, t2⟩ := run_all hc hn hlen f (rgt D len a b c d l) _ _ c d E' (run D len f (lft D len a b c d l) a b (cut D len a b c d l).2.1 (cut D len a b c d l).2.2 (slog D len a b c d l L)).1 (by rw [rgt_len]; omega) (s2.le (by omega)); rw [rgt_len] at n2
      have e : run D len (f + 1) l a b c d L = ((run D len f (rgt D len a b c d l) (cut D len a b c d l).2.1 (cut D len a b c d l).2.2 c d (run D len f (lft D len a b c d l) a b (cut D len a b c d l).2.1 (cut D len a b c d l).2.2 (slog D len a b c d l L)).1).1, (run D len f (lft D len a b c d l) a b (cut D len a b c d l).2.1 (cut D len a b c d l).2.2 (slog D len a b c d l L)).2 ++ (run D len f (rgt D len a b c d l) (cut D len a b c d l).2.1 (cut D len a b c d l).2.2 c d (run D len f (lft D len a b c d l) a b (cut D len a b c d l).2.1 (cut D len a b c d l).2.2 (slog D len a b c d l L)).1).2) := by
        show (if l.length = 1 then _ else _) = _
        rw [if_neg h1]
      rw [e]; refine ⟨.inr ⟨h.fit hc hn hlen h2, f1, f2⟩, by dsimp only; omega, fun hL => r2 (r1 (slog_right hc hn hlen h h2 hL)), chn_app c1 c2, fun t ht => ?_⟩
      rcases List.mem_append.1 ht with ht | ht
      · exact t1 t ht
      · exact t2 t ht
end
section
variable {D : List CkD} {n len : Int} {nn : Nat}
theorem top_inv (hc : Ak.chkS D 0 = 0) (hn : n = (D.length : Nat)) (hlen : (Ak.dAt D 0).1 = len) (hnn : D.length = nn) : SInv D n len (List.range nn) 0 1 len 1 1 0 := by
  have g := Ak.chkS_good hc; have g0 := g.l0; have g1 := g.l1; obtain ⟨hck, _⟩ := ck_at hc g0; have hG := chk_good (show Ck.chk (Ak.dAt D 0).1 (Ak.dAt D 0).2.1 (Ak.dAt D 0).2.2 = 0 from hck); have l0 := hG.len0; have l1 := hG.len1; rw [hlen] at l0 l1; have hl0 := cast_lt (show (0 : Int) < len by omega); rw [c0] at hl0; have hq0 : Rp.q 0 1 = 0 := Rp.q_one 0; refine ⟨by simp; omega, by simp; omega, List.pairwise_lt_range, fun x hx => by rw [hnn]; exact List.mem_range.1 hx, pt_mk (Rp.Ok_one (by omega) (by omega)) (by rw [hq0]; exact Rat.le_refl) (by rw [hq0]; exact Rat.le_of_lt hl0), pt_mk (ok_len hc hlen) (by rw [Rp.q_one]; exact Rat.le_of_lt hl0) (by rw [Rp.q_one]; exact Rat.le_refl), by rw [hq0, Rp.q_one]; exact hl0, Int.le_refl _, ?_, by rw [Rp.q_one]; exact Dd.int _ _, by rw [Rp.q_one]; exact Dd.int _ _, fun k hk => ?_, ?_⟩
  · rw [List.length_range]
    have : nn = 1 ∨ nn = 2 ∨ nn = 3 ∨ nn = 4 ∨ nn = 5 ∨ nn = 6 := by omega
    rcases this with e | e | e | e | e | e <;> rw [e] <;> decide
  · obtain ⟨hck, hl⟩ := ck_at hc (j := k) (by rw [hnn]; exact List.mem_range.1 hk)
    have hsh := sh_ok (n := n) hck (by omega) (by omega); rw [List.length_range, hq0, Rp.q_one, cu_zero hck, ← hlen, ← hl, cu_len hck]; have h3 := hsh.2.2.1; rw [hn, hnn] at h3 ⊢; rw [Rat.mul_comm, h3]
    grind
  · rw [List.length_range]
    have : nn = 1 ∨ nn = 2 ∨ nn = 3 ∨ nn = 4 ∨ nn = 5 ∨ nn = 6 := by omega
    rcases this with e | e | e | e | e | e <;> rw [e] <;> decide
theorem top_len (hc : Ak.chkS D 0 = 0) (hn : n = (D.length : Nat)) (hlen : (Ak.dAt D 0).1 = len) (hnn : D.length = nn) : ((run D len 6 (List.range nn) 0 1 len 1 []).1.length : Int) ≤ bd nn := by
  have g := Ak.chkS_good hc; have g0 := g.l0; have g1 := g.l1; have h := top_inv hc hn hlen hnn
  by_cases h1 : nn = 1
  · subst h1
    have e : (run D len 6 (List.range 1) 0 1 len 1 []).1 = [] := by
      show (if (List.range 1).length = 1 then (([] : List Qr), [((List.range 1).getD 0 0, (0 : Int), (1 : Int), len, (1 : Int))]) else _ : List Qr × List Sp).1 = []
      rw [if_pos (by simp)]
    rw [e]
    decide
  · have h2 : 2 ≤ (List.range nn).length := by simp; omega
    obtain ⟨E', s1, s2⟩ := h.step hc hn hlen h2
    have hsl : (slog D len 0 1 len 1 (List.range nn) []).length ≤ 0 + 1 * (List.range nn).length := lg_len (L := []) (u := 1) (fun k => by
      unfold qsn
      rw [if_pos (show isAll len 0 1 len 1 = true from decide_eq_true ⟨rfl, rfl, rfl, rfl⟩)]
      simp) _
    obtain ⟨f1, n1, -⟩ := run_all hc hn hlen 5 (lft D len 0 1 len 1 (List.range nn)) 0 1 _ _ E' (slog D len 0 1 len 1 (List.range nn) []) (by rw [lft_len]; simp; omega) (s1.le (by omega)); rw [lft_len] at n1; obtain ⟨f2, n2, -⟩ := run_all hc hn hlen 5 (rgt D len 0 1 len 1 (List.range nn)) _ _ len 1 E' (run D len 5 (lft D len 0 1 len 1 (List.range nn)) 0 1 (cut D len 0 1 len 1 (List.range nn)).2.1 (cut D len 0 1 len 1 (List.range nn)).2.2 (slog D len 0 1 len 1 (List.range nn) [])).1 (by rw [rgt_len]; simp; omega) (s2.le (by omega)); rw [rgt_len] at n2
    have e : (run D len 6 (List.range nn) 0 1 len 1 []).1 = (run D len 5 (rgt D len 0 1 len 1 (List.range nn)) (cut D len 0 1 len 1 (List.range nn)).2.1 (cut D len 0 1 len 1 (List.range nn)).2.2 len 1 (run D len 5 (lft D len 0 1 len 1 (List.range nn)) 0 1 (cut D len 0 1 len 1 (List.range nn)).2.1 (cut D len 0 1 len 1 (List.range nn)).2.2 (slog D len 0 1 len 1 (List.range nn) [])).1).1 := by
      show (if (List.range nn).length = 1 then _ else _ : List Qr × List Sp).1 = _
      rw [if_neg (by simp; omega)]
    rw [e]
    simp only [List.length_range] at n1 n2 hsl
    have : nn = 2 ∨ nn = 3 ∨ nn = 4 ∨ nn = 5 ∨ nn = 6 := by omega
    generalize (run D len 5 (rgt D len 0 1 len 1 (List.range nn)) (cut D len 0 1 len 1 (List.range nn)).2.1 (cut D len 0 1 len 1 (List.range nn)).2.2 len 1 (run D len 5 (lft D len 0 1 len 1 (List.range nn)) 0 1 (cut D len 0 1 len 1 (List.range nn)).2.1 (cut D len 0 1 len 1 (List.range nn)).2.2 (slog D len 0 1 len 1 (List.range nn) [])).1).1.length = z1 at *
    generalize (run D len 5 (lft D len 0 1 len 1 (List.range nn)) 0 1 (cut D len 0 1 len 1 (List.range nn)).2.1 (cut D len 0 1 len 1 (List.range nn)).2.2 (slog D len 0 1 len 1 (List.range nn) [])).1.length = z2 at *
    rcases this with e | e | e | e | e <;> subst e <;> simp [qc, bd] at n1 n2 hsl ⊢ <;> omega
/-- Where the piece k begins. -/
def Pq (len : Int) (T : List Sp) (k : Nat) : Rat := match T[k]? with
  | some t => Rp.q t.2.1 t.2.2.1
  | none => (len : Rat)
theorem pq_end : ∀ {T : List Sp} {p : Int × Int}, Chn p T (len, 1) → ∀ k (hk : k < T.length), Rp.q (T[k]).2.2.2.1 (T[k]).2.2.2.2 = Pq len T (k + 1)
  | [], _, _, k, hk => absurd hk (by simp)
  | t :: [], _, h, 0, _ => by
    have e : (t.2.2.2.1, t.2.2.2.2) = (len, (1 : Int)) := h.2
    show Rp.q t.2.2.2.1 t.2.2.2.2 = (len : Rat)
    rw [Prod.mk.injEq] at e; rw [e.1, e.2]; exact Rp.q_one _
  | t :: s :: T, _, h, 0, _ => by
    have e : (s.2.1, s.2.2.1) = (t.2.2.2.1, t.2.2.2.2) := h.2.1
    show Rp.q t.2.2.2.1 t.2.2.2.2 = Rp.q s.2.1 s.2.2.1
    rw [Prod.mk.injEq] at e; rw [e.1, e.2]
  | t :: T, _, h, k + 1, hk => by
    have := pq_end (T := T) h.2 k (by simpa using hk)
    simpa [Pq] using this
theorem find_nd : ∀ {T : List Sp}, (T.map (fun t => t.1)).Nodup → ∀ t ∈ T, T.find? (fun s => s.1 == t.1) = some t
  | [], _, t, ht => by cases ht
  | x :: T, hn, t, ht => by
    rw [List.map_cons, List.nodup_cons] at hn; rw [List.find?_cons]
    rcases List.mem_cons.1 ht with rfl | ht
    · simp
    · have e : (x.1 == t.1) = false := by
        rw [beq_eq_false_iff_ne]; intro e; exact hn.1 (e ▸ List.mem_map.2 ⟨t, ht, rfl⟩)
      rw [e]; exact find_nd hn.2 t ht
theorem firstW_all : ∀ (L : List Qr), (∀ q ∈ L, rightQ D q) → Ak.firstW D L = L.length
  | [], _ => rfl
  | q :: L, h => by
    show (if Ak.wrongS D q then 0 else Ak.firstW D L + 1) = L.length + 1
    rw [show Ak.wrongS D q = false from h q (List.mem_cons_self ..), firstW_all L (fun x hx => h x (List.mem_cons_of_mem _ hx))]
    simp
theorem rep_all (hc : Ak.chkS D 0 = 0) {L : List Qr} (h : ∀ q ∈ L, rightQ D q) (hl : L.length ≤ 2000) : Ak.repS D L = ((L.length : Int), 0) := by
  unfold Ak.repS
  rw [if_neg (by rw [chk_up hc hl]; simp), firstW_all L h]
end
end Hv
end Go.Proofs.YtmfnlapoefihkaaGreat

