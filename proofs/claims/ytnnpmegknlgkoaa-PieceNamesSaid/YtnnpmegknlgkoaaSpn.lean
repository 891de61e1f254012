/- Lists of spans: what Check answers, as a function on lists; spans that came in. -/
import Derived.Test.YtnnpmegknlgkoaaSetm
import Derived.Test.YtnnpmegknlgkoaaGh
import Derived.Test.YtnnpmegknlgkoaaGf
namespace Go.Proofs.Ytnnpmegknlgkoaa
open Go.RowKit
/-- A span, as it came in: from (numerator, denominator), to (numerator, denominator). -/
structure Raw where
  a : Int
  b : Int
  c : Int
  d : Int
namespace Pc
instance : Inhabited Raw := ⟨⟨0, 0, 0, 0⟩⟩
def Raw64 (s : Raw) : Prop := (I64 s.a ∧ I64 s.b) ∧ I64 s.c ∧ I64 s.d
def lessB (n d m c : Int) : Bool := decide (Rp.Ok n d ∧ Rp.Ok m c ∧ Rp.q n d < Rp.q m c)
def spanB (s : Raw) : Bool := lessB s.a s.b s.c s.d
def at_ (l : List Raw) (k : Nat) : Raw := l.getD k default
def bad (l : List Raw) (k : Nat) : Bool := !spanB (at_ l k) || (decide (0 < k) && !lessB (at_ l (k - 1)).c (at_ l (k - 1)).d (at_ l k).a (at_ l k).b)
/-- Check's answer. -/
def chk (l : List Raw) : Int := if 60 < l.length then 4 else if (List.range l.length).any (bad l) then 8 else 0
theorem at_lt {l : List Raw} {k : Nat} (h : k < l.length) : at_ l k = l[k] := by unfold at_; simp [h]
theorem at_get {l : List Raw} {k : Nat} (h : k < l.length) : l[k]? = some (at_ l k) := by rw [at_lt h]; exact List.getElem?_eq_getElem h
theorem chk_many {l : List Raw} (h : 60 < l.length) : chk l = 4 := by unfold chk; rw [if_pos h]
theorem chk_bad {l : List Raw} {k : Nat} (h : ¬ 60 < l.length) (hk : k < l.length) (hb : bad l k = true) : chk l = 8 := by
  unfold chk
  rw [if_neg h, if_pos]
  rw [List.any_eq_true]
  exact ⟨k, by simpa using hk, hb⟩
theorem chk_ok {l : List Raw} (h : ¬ 60 < l.length) (hb : ∀ k, k < l.length → bad l k = false) : chk l = 0 := by
  unfold chk
  rw [if_neg h, if_neg]
  intro hh
  rw [List.any_eq_true] at hh
  obtain ⟨k, hk, h1⟩ := hh
  rw [hb k (by simpa using hk)] at h1
  cases h1
def Fit (r : Rat) : Prop := Rp.Ok r.num r.den
def raw (s : Rat × Rat) : Raw := ⟨s.1.num, s.1.den, s.2.num, s.2.den⟩
def toQ (s : Raw) : Rat × Rat := (Rp.q s.a s.b, Rp.q s.c s.d)
theorem raw_toQ {s : Raw} (h : spanB s = true) : raw (toQ s) = s := by
  obtain ⟨h1, h2, _⟩ := of_decide_eq_true h
  unfold raw toQ
  simp only [Rp.q_num h1, Rp.q_denI h1, Rp.q_num h2, Rp.q_denI h2]
theorem fit_q {n d : Int} (h : Rp.Ok n d) : Fit (Rp.q n d) := by unfold Fit; rw [Rp.q_num h, Rp.q_denI h]; exact h
theorem bad_first {l : List Raw} {s : Raw} (h : bad (s :: l) 0 = false) : spanB s = true := by
  unfold bad at h
  simpa [at_] using h
theorem bad_next {l : List Raw} {s : Raw} {k : Nat} (h : bad (s :: l) (k + 1) = false) : bad l k = false := by
  unfold bad at h ⊢
  have e : at_ (s :: l) (k + 1) = at_ l k := by simp [at_]
  rw [e] at h
  cases k with
  | zero => simp at h ⊢; exact h.1
  | succ k =>
    have e2 : at_ (s :: l) (k + 1 + 1 - 1) = at_ l (k + 1 - 1) := by simp [at_]
    rw [e2] at h
    simpa using h
theorem bad_gap {l : List Raw} {s t : Raw} (h : bad (s :: t :: l) 1 = false) : lessB s.c s.d t.a t.b = true := by
  unfold bad at h
  simp [at_] at h
  exact h.2
theorem good_of : ∀ {l : List Raw}, (∀ k, k < l.length → bad l k = false) → (l.map toQ).map raw = l ∧ Inc (ends (l.map toQ)) ∧ ∀ r ∈ ends (l.map toQ), Fit r
  | [], _ => ⟨rfl, trivial, by simp [ends]⟩
  | s :: l, h => by
    have h0 := bad_first (h 0 (by simp))
    obtain ⟨i1, i2, i3⟩ := good_of (l := l) (fun k hk => bad_next (h (k + 1) (by simpa using hk)))
    obtain ⟨o1, o2, o3⟩ := of_decide_eq_true h0
    have hf : ∀ r ∈ ends (l.map toQ), (toQ s).2 < r := by
      cases l with
      | nil => simp [ends]
      | cons t l =>
        have hg := bad_gap (h 1 (by simp))
        obtain ⟨_, _, g⟩ := of_decide_eq_true hg
        have g' : (toQ s).2 < (toQ t).1 := g
        intro r hr
        simp only [List.map_cons, ends] at hr i2
        rcases List.mem_cons.1 hr with rfl | hr
        · exact g'
        · have := i2.1 r hr
          grind
    have hs : (toQ s).1 < (toQ s).2 := o3
    refine ⟨by simp only [List.map_cons]; rw [raw_toQ h0, i1], ?_, ?_⟩
    · simp only [List.map_cons, ends]
      refine ⟨?_, hf, i2⟩
      intro r hr
      rcases List.mem_cons.1 hr with rfl | hr
      · exact hs
      · have := hf r hr
        grind
    · intro r hr
      simp only [List.map_cons, ends] at hr
      rcases List.mem_cons.1 hr with rfl | hr
      · exact fit_q o1
      · rcases List.mem_cons.1 hr with rfl | hr
        · exact fit_q o2
        · exact i3 r hr
/-- Pieces: spans in order, apart, with ends that are valid. -/
structure Good (L : List (Rat × Rat)) : Prop where
  inc : Inc (ends L)
  fit : ∀ r ∈ ends L, Fit r
  len : L.length ≤ 60
theorem chk_good {l : List Raw} (h : chk l = 0) : ∃ L, l = L.map raw ∧ Good L := by
  unfold chk at h
  split at h
  · cases h
  · split at h
    · cases h
    · rename_i h1 h2
      have hb : ∀ k, k < l.length → bad l k = false := by
        intro k hk
        have h2 : (List.range l.length).any (bad l) = false := by simpa using h2
        rw [List.any_eq_false] at h2
        have := h2 k (by simpa using hk)
        simpa using this
      obtain ⟨i1, i2, i3⟩ := good_of hb
      exact ⟨l.map toQ, i1.symm, i2, i3, by rw [List.length_map]; omega⟩
theorem cmp_less (n d m c : Int) : (Rp.cmpS n d m c = (-1, 0) ∧ lessB n d m c = true) ∨ (Rp.cmpS n d m c = (1, 0) ∧ lessB n d m c = false) ∨ (Rp.cmpS n d m c = (0, 0) ∧ lessB n d m c = false) ∨ (Rp.cmpS n d m c = (0, 8) ∧ lessB n d m c = false) := by
  unfold Rp.cmpS lessB
  rcases both_cases n d m c with ⟨h, hx, hy⟩ | h
  · rw [if_pos h]
    unfold Rp.cmpQ
    by_cases a : Rp.q n d < Rp.q m c
    · left; rw [if_pos a]; exact ⟨rfl, decide_eq_true ⟨hx, hy, a⟩⟩
    · have e : decide (Rp.Ok n d ∧ Rp.Ok m c ∧ Rp.q n d < Rp.q m c) = false := decide_eq_false fun h => a h.2.2
      right
      rw [if_neg a, e]
      by_cases b : Rp.q m c < Rp.q n d
      · left; rw [if_pos b]; exact ⟨rfl, rfl⟩
      · right; left; rw [if_neg b]; exact ⟨rfl, rfl⟩
  · right; right; right
    rw [if_neg (by rw [h]; decide)]
    refine ⟨rfl, decide_eq_false fun k => ?_⟩
    unfold Rp.both Rp.chk at h
    rw [if_pos k.1, if_pos k.2.1] at h
    cases h
end Pc
/-- Spans that came in. -/
def IsS (w : World) (A : Option Addr) (xs : List Raw) : Prop :=
  (0 < xs.length → ∃ b off, A = some ⟨b, off, none⟩ ∧ ∀ i, i < xs.length → w.cell? ⟨b, off + i * 4, none⟩ = some (.int .i64 (Pc.at_ xs i).a) ∧ w.cell? ⟨b, off + i * 4 + 1, none⟩ = some (.int .i64 (Pc.at_ xs i).b) ∧
    w.cell? ⟨b, off + i * 4 + 2, none⟩ = some (.int .i64 (Pc.at_ xs i).c) ∧ w.cell? ⟨b, off + i * 4 + 3, none⟩ = some (.int .i64 (Pc.at_ xs i).d)) ∧ (∀ z ∈ xs, Pc.Raw64 z) ∧ xs.length ≤ maxLen
theorem IsS.keep {w v : World} {A : Option Addr} {xs : List Raw} (h : IsS w A xs) (hb : Below w.heap.size w v) : IsS v A xs :=
  ⟨fun h0 => by
    obtain ⟨b, off, e, hc⟩ := h.1 h0
    exact ⟨b, off, e, fun i hi => ⟨keepC hb (hc i hi).1, keepC hb (hc i hi).2.1, keepC hb (hc i hi).2.2.1, keepC hb (hc i hi).2.2.2⟩⟩, h.2⟩
theorem IsS.bd {w : World} {A : Option Addr} {xs : List Raw} (h : IsS w A xs) (k : Nat) : Pc.Raw64 (Pc.at_ xs k) := by
  unfold Pc.at_
  rw [List.getD_eq_getElem?_getD]
  rcases Nat.lt_or_ge k xs.length with hk | hk
  · rw [List.getElem?_eq_getElem hk]
    exact h.2.1 _ (List.getElem_mem hk)
  · rw [List.getElem?_eq_none hk]
    exact ⟨⟨⟨by decide, by decide⟩, by decide, by decide⟩, ⟨by decide, by decide⟩, by decide, by decide⟩

set_option maxHeartbeats 1000000 in
theorem pless_any (n d m c : Int) (w : World) (h1 : I64 n) (h2 : I64 d) (h3 : I64 m) (h4 : I64 c) :
    Calls Try.prog 49 #[.agg #[.int .i64 n, .int .i64 d], .agg #[.int .i64 m, .int .i64 c]] w fun e w' => e = .returned (.bool (Pc.lessB n d m c)) ∧ Below w.heap.size w w' := by
  have cm := fun v => Cmp_any n d m c v h1.1 h1.2 h2.1 h2.2 h3.1 h3.2 h4.1 h4.2
  clear h1 h2 h3 h4
  rcases Pc.cmp_less n d m c with ⟨e, k⟩ | ⟨e, k⟩ | ⟨e, k⟩ | ⟨e, k⟩ <;>
  · rw [e] at cm
    rw [k]
    have CM := Lib.hid cm
    clear cm e k
    go_enter Try.func49, Try.ntmps49
    go_wp2_with fail
    refine (CM.out _).mono ?_
    rintro e w1 ⟨rfl, hb1⟩
    have hbb : Below w.heap.size w w1 := keepB (((Below.refl _ _).alloc (Nat.le_refl _) _).alloc (by simp) _) hb1
    clear hb1 CM
    go_wp2
    go_ret
    exact ⟨rfl, hbb⟩

set_option maxHeartbeats 1000000 in
theorem isSpan_any (s : Raw) (w : World) (h : Pc.Raw64 s) :
    Calls Try.prog 54 #[.agg #[.int .i64 s.a, .int .i64 s.b, .int .i64 s.c, .int .i64 s.d]] w fun e w' => e = .returned (.bool (Pc.spanB s)) ∧ Below w.heap.size w w' := by
  obtain ⟨a, b, c, d⟩ := s
  obtain ⟨⟨h1, h2⟩, h3, h4⟩ := h
  have L := Lib.hid (fun v => pless_any a b c d v h1 h2 h3 h4)
  show Calls Try.prog 54 #[.agg #[.int .i64 a, .int .i64 b, .int .i64 c, .int .i64 d]] w fun e w' => e = .returned (.bool (Pc.lessB a b c d)) ∧ Below w.heap.size w w'
  clear h1 h2 h3 h4
  generalize Pc.lessB a b c d = R at *
  go_enter Try.func54, Try.ntmps54
  go_wp2_with fail
  refine (L.out _).mono ?_
  rintro e w1 ⟨rfl, hb1⟩
  have hbb : Below w.heap.size w w1 := keepB ((Below.refl _ _).alloc (Nat.le_refl _) _) hb1
  clear hb1 L
  go_wp2
  go_ret
  exact ⟨rfl, hbb⟩
end Go.Proofs.Ytnnpmegknlgkoaa
