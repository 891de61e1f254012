/- Package room: asked and its closure. A region that draws its order, reads and calls first, and then stores into what it has read. -/
import Derived.Test.YtncmffhoodfhjaaYb
import Derived.Test.YtncmffhoodfhjaaYl
import Derived.Test.YtncmffhoodfhjaaYf
import Derived.Deep.RegionHeld3
import Derived.Test.YtncmffhoodfhjaaYa
import Derived.StillTail
namespace Go.Proofs.Ytncmffhoodfhjaa
open Go.RowKit
namespace As
theorem idx_own {b : List Nat} {n : Nat} (hp : b.Perm (List.range n)) {k : Nat} (hk : k < n) : b.idxOf (b.getD k 0) = k := by
  have hl : b.length = n := by simpa using hp.length_eq
  have hn : b.Nodup := hp.nodup_iff.2 List.nodup_range
  rw [getD_lt (by omega)]
  exact hn.idxOf_getElem k (by omega)
theorem idx_lt {b : List Nat} {n : Nat} (hp : b.Perm (List.range n)) {j : Nat} (hj : j < n) : b.idxOf j < n := by
  have hl : b.length = n := by simpa using hp.length_eq
  have := List.idxOf_lt_length_iff.2 (hp.mem_iff.2 (List.mem_range.2 hj))
  omega
theorem idx_get {b : List Nat} {n : Nat} (hp : b.Perm (List.range n)) {j : Nat} (hj : j < n) : b.getD (b.idxOf j) 0 = j := by
  have hk := List.idxOf_lt_length_iff.2 (hp.mem_iff.2 (List.mem_range.2 hj))
  rw [getD_lt hk]; exact List.getElem_idxOf hk
/-- The tenants of the first agents' rooms. -/
def tnF (b : List Nat) (k j : Nat) : Int := if b.idxOf j < k then ((b.idxOf j : Nat) : Int) else 0
theorem tnF_step {b : List Nat} {n : Nat} (hp : b.Perm (List.range n)) {k j : Nat} (hk : k < n) (hj : j < n) : (if j = b.getD k 0 then (k : Int) else tnF b k j) = tnF b (k + 1) j := by
  unfold tnF
  by_cases e : j = b.getD k 0
  · rw [if_pos e, e, idx_own hp hk, if_pos (by omega)]
  · rw [if_neg e]
    have hne : b.idxOf j ≠ k := fun h => e (by rw [← h, idx_get hp hj])
    by_cases h2 : b.idxOf j < k
    · rw [if_pos h2, if_pos (by omega)]
    · rw [if_neg h2, if_neg (by omega)]
theorem tnF_end {b : List Nat} {n : Nat} (hp : b.Perm (List.range n)) {j : Nat} (hj : j < n) : tnF b n j = ((b.idxOf j : Nat) : Int) := by unfold tnF; rw [if_pos (idx_lt hp hj)]
end As
/-- The closure's boxes. -/
structure Ak (v : World) (p q tb : Nat) (A : Option Addr) (cv : Nat) (V : List (List Int)) (b : List Nat) : Prop where
  p0 : v.cell? ⟨p, 0, none⟩ = some (.slice A V.length cv)
  q0 : v.cell? ⟨q, 0, none⟩ = some (.slice (some ⟨tb, 0, none⟩) V.length V.length)
  bf : BF v tb V.length (fun j => ((b.idxOf j : Nat) : Int))
theorem Ak.keep {v w : World} {p q tb : Nat} {A : Option Addr} {cv : Nat} {V : List (List Int)} {b : List Nat} (h : Ak v p q tb A cv V b) (hb : Below v.heap.size v w) : Ak w p q tb A cv V b := ⟨keepC hb h.p0, keepC hb h.q0, h.bf.keep hb⟩
/-- What asked gives. -/
def AkQ (A : Option Addr) (cv : Nat) (V : List (List Int)) (w : World) (e : Ending) (w' : World) : Prop :=
  ∃ p q tb, e = .returned (.func (.func 84) #[] #[.pointer (some ⟨p, 0, none⟩), .pointer (some ⟨q, 0, none⟩)]) ∧ Ak w' p q tb A cv V (As.bst V) ∧ Below w.heap.size w w'
set_option maxRecDepth 100000 in
set_option maxHeartbeats 4000000 in
theorem asked_any (A : Option Addr) (cv : Nat) (V : List (List Int)) (w : World) (hc : As.chk V = 0) (hl : V.length ≤ maxLen) (h : IsM w A V) :
    Calls Try.prog 73 #[.slice A V.length cv] w (AkQ A cv V w) := by
  have ok := As.chk_ok hc
  have ht := As.bst_top ok
  have n1 := ok.n1
  have n6 := ok.n6
  have CB := Lib.hid (fun v (hv : Below w.heap.size w v) => asBest2_any A cv V v hc hl (h.keep hv))
  have MK := ints_make V.length (by omega)
  have HMK := Lib.hid MK
  have HP := Lib.hid ht.perm
  have HLT := Lib.hid (As.perm_lt ht.perm).2
  have HST := Lib.hid (fun k j hk hj => @As.tnF_step (As.bst V) V.length ht.perm k j hk hj)
  have HEN := Lib.hid (fun j hj => @As.tnF_end (As.bst V) V.length ht.perm j hj)
  have hbl := ht.len
  have HBL := Lib.hid hbl
  clear ok ht h hc MK hbl
  go_enter Try.func73, Try.ntmps73
  go_upto_region 1 with fail
  refine at_box1 (fun V0 hbb b0 hsz => ?_)
  have HP0 := Lib.hid hsz
  clear hsz
  have c0 := b0.c 0 rfl
  go_wp2_with fail
  refine (CB.out _ hbb).mono ?_
  rintro e w1 ⟨X, cX, rfl, hI, -, hb1⟩
  replace c0 := keepC hb1 c0
  have HIX := Lib.hid hI
  have HBB := Lib.hid (keepB hbb hb1)
  generalize As.wr V (As.bst V) = z at *
  generalize hbst : As.bst V = bs at *
  have HBST := Lib.hid hbst
  clear hb1 hI b0 hbb hbst
  have MK := HMK.out
  go_upto_region 3 with fail
  clear MK
  refine at_worldQ (fun v => Below w1.heap.size w1 v ∧ BF v w1.heap.size V.length (As.tnF bs 0) ∧ BK v (w1.heap.size + 1) [.slice (some ⟨w1.heap.size, 0, none⟩) V.length V.length]) ⟨below_al (below_al (Below.refl _ _) _) _, ((BF.new w1 V.length _).al _).cong (fun j _ => by unfold As.tnF; rw [if_neg (Nat.not_lt_zero _)]), by
    have hh := BK.new (w1.alloc (.cells (Array.replicate V.length (Value.int .i64 0)) 3)) [.slice (some ⟨w1.heap.size, 0, none⟩) V.length V.length] 25
    rw [World.size_alloc] at hh
    exact hh⟩ (fun V3 hS => ?_)
  obtain ⟨hb3, hbf, hbk⟩ := hS
  have HB3 := Lib.hid hb3
  have HBK := Lib.hid hbk
  have HBF := Lib.hid hbf
  have HC0 := Lib.hid c0
  obtain ⟨tb, htb⟩ : ∃ tb, w1.heap.size = tb := ⟨_, rfl⟩
  have HTB := Lib.hid htb
  rw [htb] at HBK HBF ⊢
  clear c0 hb3 hbf hbk htb
  go_wp2_with fail
  go_loopw [20] (fun i W => ∃ k : Nat, k ≤ V.length ∧ i = .int .i64 k ∧ Hid (BF W tb V.length (As.tnF bs k)) ∧ Hid (BK W (tb + 1) [.slice (some ⟨tb, 0, none⟩) V.length V.length]) ∧ Hid (Below w1.heap.size w1 W)) (fun i _ => V.length - (intOf i).toNat)
  case atStart => exact ⟨0, Nat.zero_le _, rfl, HBF, HBK, HB3⟩
  case round =>
    obtain ⟨k, hk, rfl, HF, HK, HW⟩ := hrel
    by_cases hlt : k < V.length
    · obtain ⟨xb, xo, hXe, hcs⟩ := list_at HIX.out (j := k) (by rw [As.al_len, HBL.out]; exact hlt)
      have x0 := keepC HW.out (hcs k (by rw [As.al_len, HBL.out]; exact hlt))
      rw [As.el_al] at x0
      have hj := HLT.out k hlt
      have q0 := HK.out.c 0 rfl
      have HNEW := Lib.hid (show ∀ o, bs.getD k 0 = o → BF (wr.setCell ⟨tb, o, none⟩ (.int .i64 (k : Int))) tb V.length (As.tnF bs (k + 1)) from fun o ho => (HF.out.set o _).cong fun j hjj => by
        have h9 := HST.out k j hlt hjj
        rw [ho] at h9
        exact h9)
      subst hXe
      generalize bs.getD k 0 = o at *
      have HN2 := Lib.hid (HNEW.out o rfl)
      have y1 := HF.out.c hj
      have y2 := HF.out.f hj
      have HNK := Lib.hid (HK.out.far (q := tb) (by omega) o (.int .i64 (k : Int)))
      have HNW := Lib.hid (show Below w1.heap.size w1 (wr.setCell ⟨tb, o, none⟩ (.int .i64 (k : Int))) from HW.out.setCell (by rw [HTB.out]; exact Nat.le_refl _) _)
      have i1 : (o : Int) < (V.length : Int) := by omega
      clear hcs HNEW
      go_wp2_with fail
      clear x0 q0 y1 y2
      go_roundw
      case rel => exact ⟨k + 1, by omega, by go_num, HN2, HNK, HNW⟩
      case measure => simp [intOf]; omega
    · obtain rfl : k = V.length := by omega
      have HA := Lib.hid (show Ak wr w.heap.size (tb + 1) tb A cv V bs from ⟨keepC HW.out HC0.out, HK.out.c 0 rfl, HF.out.cong fun j hj => HEN.out j hj⟩)
      have HBW := Lib.hid (keepB HBB.out HW.out)
      go_wp2_with fail
      go_ret
      exact ⟨_, _, tb, rfl, by rw [HBST.out]; exact HA.out, HBW.out⟩
set_option maxRecDepth 100000 in
set_option maxHeartbeats 2000000 in
theorem asked1_any (p q tb : Nat) (A : Option Addr) (cv : Nat) (V : List (List Int)) (b : List Nat) (i j : Nat) (w : World) (ok : As.Ok V) (hp : b.Perm (List.range V.length)) (hM : IsM w A V) (hA : Ak w p q tb A cv V b) (hi : i < V.length) (hj : j < V.length) :
    Calls Try.prog 84 #[.int .i64 i, .int .i64 j, .pointer (some ⟨p, 0, none⟩), .pointer (some ⟨q, 0, none⟩)] w fun e w' => e = .returned (.int .i64 (As.wt V b i j)) ∧ Below w.heap.size w w' := by
  have hu := As.idx_lt hp hi
  have z0 := hA.p0
  have z1 := hA.q0
  have z2 := hA.bf.c hi
  have b1 := ok.bd (b.idxOf i) j
  have b2 := ok.bd (b.idxOf i) i
  rw [show As.wt V b i j = As.vl V (b.idxOf i) j - As.vl V (b.idxOf i) i from rfl]
  generalize b.idxOf i = u at *
  obtain ⟨ob, off, rb, ro, c, rfl, hc, hcs⟩ := row_at ok hM hu
  have x1 := hcs j hj
  have x2 := hcs i hi
  generalize As.vl V u j = x at *
  generalize As.vl V u i = y at *
  obtain ⟨b11, b12⟩ := b1
  obtain ⟨b21, b22⟩ := b2
  have hw2 : IntKind.i64.wrap (x - y) = x - y := IntWalk.i64_in _ (by omega)
  have i1 : (u : Int) < (V.length : Int) := by omega
  clear hcs hA hM ok hp
  go_enter Try.func84, Try.ntmps84
  go_upto_region 1 with fail
  go_region_held3 (fun v => Below w.heap.size w v ∧ v.cell? ⟨p, 0, none⟩ = some (.slice (some ⟨ob, off, none⟩) V.length cv) ∧ v.cell? ⟨q, 0, none⟩ = some (.slice (some ⟨tb, 0, none⟩) V.length V.length) ∧ v.cell? ⟨tb, i, none⟩ = some (.int .i64 u) ∧ v.cell? ⟨ob, off + u, none⟩ = some (.slice (some ⟨rb, ro, none⟩) V.length c))
    (first | (exact ⟨(Below.refl _ _).drew, z0, z1, z2, hc⟩) | (exact ⟨Below.refl _ _, z0, z1, z2, hc⟩))
    (fail)
  go_upto_region 2 with fail
  go_region_held3 (fun v => Below w.heap.size w v ∧ v.cell? ⟨rb, ro + j, none⟩ = some (.int .i64 x) ∧ v.cell? ⟨rb, ro + i, none⟩ = some (.int .i64 y))
    (first | (exact ⟨(Below.refl _ _).drew, x1, x2⟩) | (exact ⟨(Below.refl _ _).drew.drew, x1, x2⟩) | (exact ⟨Below.refl _ _, x1, x2⟩))
    (fail)
  go_wp2_with fail
  go_ret
  exact ⟨rfl, by first | exact (Below.refl _ _).drew.drew | exact (Below.refl _ _).drew | exact Below.refl _ _ | exact below_drewN (Below.refl _ _) _⟩
end Go.Proofs.Ytncmffhoodfhjaa
namespace Go.Proofs.Ytncmffhoodfhjaa
section
variable {P : Program} {ops : Array Oper} {Q : Exit → Act → World → Prop} {md : Region.Mode} {S T : World → Prop} {s : Nat}
/-- Whatever comes up next: S holds behind it, as long as number s has not come up; T from there on. -/
def ordU (P : Program) (md : Region.Mode) (ops : Array Oper) (Q : Exit → Act → World → Prop) (S T : World → Prop) (s : Nat) : Nat → Array Bool → Act → World → Prop
  | 0, l, a, w => Region.ready md ops l = [] ∧ Q .normal a w
  | n + 1, l, a, w => (Region.ready md ops l = [] → Q .normal a w) ∧
    ∀ i ∈ Region.ready md ops l, wpOp P ops Q i (fun b u => (i = s → T u ∧ wpAnyH P md ops Q T n (l.setIfInBounds i true) b u) ∧ (i ≠ s → S u ∧ ordU P md ops Q S T s n (l.setIfInBounds i true) b u)) a w
theorem ordU_any : ∀ (n : Nat) (l : Array Bool) (a : Act) (w : World), ordU P md ops Q S T s n l a w → wpAny P md ops Q n l a w
  | 0, _, _, _, h => h
  | n + 1, l, a, w, h => ⟨h.1, fun i hi => wpOp_mono (fun b u k => by
      by_cases e : i = s
      · exact wpAny_of_held _ _ _ _ (k.1 e).2
      · exact ordU_any n _ _ _ (k.2 e).2) (h.2 i hi)⟩
/-- Taken first: what yields the same in each world of S, if number s waits for it. -/
theorem ordU_first {i : Nat} {o : Oper} {v : Value} (hi : ops[i]? = some o) (hns : Region.noSelect ops = true) (hQ : ∀ c a w, Q (.panic c) (a.put o.dst v) w → Q (.panic c) a w) (hws : Region.waitsFor md ops s i = true) :
    ∀ (n : Nat) (l : Array Bool) (a : Act) (w : World), (∀ j p, ops[j]? = some p → j ≠ i → l.getD j true = false → (∀ e ∈ p.after, Region.binds md e = true → e.on ≠ i) → o.apart ops p = true) →
      i ∈ Region.ready md ops l → YieldsIf P ops S o v a → S w → ordU P md ops Q S T s n (l.setIfInBounds i true) (a.put o.dst v) w → ordU P md ops Q S T s (n + 1) l a w := by
  have sel := Region.noSelect_spec hns
  obtain ⟨os, hos, x, hx, hxb, hxi⟩ := Region.waitsFor_spec hws
  have un : ∀ l : Array Bool, i ∈ Region.ready md ops l → l.getD i false = false := fun l hr => by
    have h0 := (mem_ready.1 hr).1
    rcases Nat.lt_or_ge i l.size with k | k
    · simp [k] at h0 ⊢
      exact h0
    · simp [Array.getElem?_eq_none k]
  have his : ∀ l : Array Bool, i ∈ Region.ready md ops l → ∀ j ∈ Region.ready md ops l, j ≠ s := fun l hr j hj e => by
    subst e
    obtain ⟨_, p, hp, hall⟩ := mem_ready.1 hj
    rw [hos] at hp
    cases hp
    have := hall x hx hxb
    rw [hxi, un l hr] at this
    cases this
  intro n
  induction n with
  | zero =>
    intro l a w _ hr hy hS H
    refine ⟨fun h => (by rw [h] at hr; cases hr), fun j hj => ?_⟩
    by_cases e : j = i
    · subst e
      exact hy.wpOp hi hS ⟨fun e => absurd e (his l hr j hr), fun _ => ⟨hS, H⟩⟩
    · have := ready_mono hj e
      rw [H.1] at this
      cases this
  | succ n ih =>
    intro l a w hfree hr hy hS H
    refine ⟨fun h => (by rw [h] at hr; cases hr), fun j hj => ?_⟩
    have hjs := his l hr j hj
    by_cases e : j = i
    · subst e
      exact hy.wpOp hi hS ⟨fun e => absurd e hjs, fun _ => ⟨hS, H⟩⟩
    · have h1 := wpOp_mono (fun b u k => k.2 hjs) (H.2 j (ready_mono hj e))
      obtain ⟨hju, p, hp, hall⟩ := mem_ready.1 hj
      have hno : ∀ y ∈ p.after, Region.binds md y = true → y.on ≠ i := fun y hy' hb he => by
        have := hall y hy' hb
        rw [he, un l hr] at this
        cases this
      have h2 := wpOp_putIf hp (hfree j p hp e hju hno) (fun cs b => sel i o cs b hi) (fun cs b => sel j p cs b hp) hQ hy h1
      refine wpOp_mono (fun b u h3 => ⟨fun e => absurd e hjs, fun _ => ⟨h3.2.1, ih (l.setIfInBounds j true) b u (fun k ok hk hki hun hn => ?_) (ready_mono hr (Ne.symm e)) h3.1 h3.2.1 ?_⟩⟩) h2
      · refine hfree k ok hk hki ?_ hn
        by_cases hjk : j = k
        · subst hjk
          exact hju
        · rwa [getD_set_ne true hjk] at hun
      · rw [Array.setIfInBounds_comm _ _ e]
        exact h3.2.2
theorem ordU_take {i : Nat} {o : Oper} {v : Value} {n : Nat} {l : Array Bool} {a : Act} {w : World} (hi : ops[i]? = some o) (hns : Region.noSelect ops = true) (hf : Region.free md ops l i = true) (hr : (Region.ready md ops l).contains i = true) (hws : Region.waitsFor md ops s i = true)
    (hQ : ∀ c a w, Q (.panic c) (a.put o.dst v) w → Q (.panic c) a w) (hy : YieldsIf P ops S o v a) (hS : S w) (h : ordU P md ops Q S T s n (l.setIfInBounds i true) (a.put o.dst v) w) : ordU P md ops Q S T s (n + 1) l a w :=
  ordU_first hi hns hQ hws n l a w (Region.free_spec hi hf) (by simpa using hr) hy hS h
/-- Taken first: what yields the same in each world of S and in each world of T. -/
theorem ordU_first2 {i : Nat} {o : Oper} {v : Value} (hi : ops[i]? = some o) (hns : Region.noSelect ops = true) (hQ : ∀ c a w, Q (.panic c) (a.put o.dst v) w → Q (.panic c) a w) (his : i ≠ s) :
    ∀ (n : Nat) (l : Array Bool) (a : Act) (w : World), (∀ j p, ops[j]? = some p → j ≠ i → l.getD j true = false → (∀ e ∈ p.after, Region.binds md e = true → e.on ≠ i) → o.apart ops p = true) →
      i ∈ Region.ready md ops l → YieldsIf P ops S o v a → YieldsIf P ops T o v a → S w → ordU P md ops Q S T s n (l.setIfInBounds i true) (a.put o.dst v) w → ordU P md ops Q S T s (n + 1) l a w := by
  have sel := Region.noSelect_spec hns
  have un : ∀ l : Array Bool, i ∈ Region.ready md ops l → l.getD i false = false := fun l hr => by
    have h0 := (mem_ready.1 hr).1
    rcases Nat.lt_or_ge i l.size with k | k
    · simp [k] at h0 ⊢
      exact h0
    · simp [Array.getElem?_eq_none k]
  intro n
  induction n with
  | zero =>
    intro l a w _ hr hy _ hS H
    refine ⟨fun h => (by rw [h] at hr; cases hr), fun j hj => ?_⟩
    by_cases e : j = i
    · subst e
      exact hy.wpOp hi hS ⟨fun e => absurd e his, fun _ => ⟨hS, H⟩⟩
    · have := ready_mono hj e
      rw [H.1] at this
      cases this
  | succ n ih =>
    intro l a w hfree hr hy hz hS H
    refine ⟨fun h => (by rw [h] at hr; cases hr), fun j hj => ?_⟩
    by_cases e : j = i
    · subst e
      exact hy.wpOp hi hS ⟨fun e => absurd e his, fun _ => ⟨hS, H⟩⟩
    · obtain ⟨hju, p, hp, hall⟩ := mem_ready.1 hj
      have hno : ∀ y ∈ p.after, Region.binds md y = true → y.on ≠ i := fun y hy' hb he => by
        have := hall y hy' hb
        rw [he, un l hr] at this
        cases this
      have hfree2 : ∀ k ok, ops[k]? = some ok → k ≠ i → (l.setIfInBounds j true).getD k true = false → (∀ e ∈ ok.after, Region.binds md e = true → e.on ≠ i) → o.apart ops ok = true := fun k ok hk hki hun hn => by
        refine hfree k ok hk hki ?_ hn
        by_cases hjk : j = k
        · subst hjk
          exact hju
        · rwa [getD_set_ne true hjk] at hun
      have hap := hfree j p hp e hju hno
      have h0 := H.2 j (ready_mono hj e)
      by_cases hjs : j = s
      · have h1 := wpOp_mono (fun b u k => k.1 hjs) h0
        have h2 := wpOp_putIf hp hap (fun cs b => sel i o cs b hi) (fun cs b => sel j p cs b hp) hQ hz h1
        refine wpOp_mono (fun b u h3 => ⟨fun _ => ⟨h3.2.1, wpAnyH_first hi sel hQ n _ _ _ hfree2 (ready_mono hr (Ne.symm e)) h3.1 h3.2.1 ?_⟩, fun k => absurd hjs k⟩) h2
        rw [Array.setIfInBounds_comm _ _ e]
        exact h3.2.2
      · have h1 := wpOp_mono (fun b u k => k.2 hjs) h0
        have h2 := wpOp_putIf (S := fun u => S u ∨ T u) hp hap (fun cs b => sel i o cs b hi) (fun cs b => sel j p cs b hp) hQ
          (hy.elim (fun ⟨q1, q2⟩ => hz.elim (fun ⟨_, q3⟩ => .inl ⟨q1, fun w k => k.elim (q2 w) (q3 w)⟩) (fun ⟨q3, _⟩ => by rw [q1] at q3; cases q3)) (fun k => .inr k)) h1
        refine wpOp_mono (fun b u h3 => ⟨fun k => absurd k hjs, fun _ => ⟨h3.2.1, ih (l.setIfInBounds j true) b u hfree2 (ready_mono hr (Ne.symm e)) (h3.1.imp (fun ⟨q1, q2⟩ => ⟨q1, fun w k => q2 w (.inl k)⟩) id) (h3.1.imp (fun ⟨q1, q2⟩ => ⟨q1, fun w k => q2 w (.inr k)⟩) id) h3.2.1 ?_⟩⟩) h2
        rw [Array.setIfInBounds_comm _ _ e]
        exact h3.2.2
theorem ordU_take2 {i : Nat} {o : Oper} {v : Value} {n : Nat} {l : Array Bool} {a : Act} {w : World} (hi : ops[i]? = some o) (hns : Region.noSelect ops = true) (hf : Region.free md ops l i = true) (hr : (Region.ready md ops l).contains i = true) (his : i ≠ s)
    (hQ : ∀ c a w, Q (.panic c) (a.put o.dst v) w → Q (.panic c) a w) (hy : YieldsIf P ops S o v a) (hz : YieldsIf P ops T o v a) (hS : S w) (h : ordU P md ops Q S T s n (l.setIfInBounds i true) (a.put o.dst v) w) : ordU P md ops Q S T s (n + 1) l a w :=
  ordU_first2 hi hns hQ his n l a w (Region.free_spec hi hf) (by simpa using hr) hy hz hS h
/-- Each of the operations comes up next. -/
def ReadyU (P : Program) (md : Region.Mode) (ops : Array Oper) (Q : Exit → Act → World → Prop) (S T : World → Prop) (s n : Nat) (l : Array Bool) (a : Act) (w : World) (rs : List Nat) : Prop :=
  ∀ i ∈ rs, wpOp P ops Q i (fun b u => (i = s → T u ∧ wpAnyH P md ops Q T n (l.setIfInBounds i true) b u) ∧ (i ≠ s → S u ∧ ordU P md ops Q S T s n (l.setIfInBounds i true) b u)) a w
theorem ReadyU.nil {n : Nat} {l : Array Bool} {a : Act} {w : World} : ReadyU P md ops Q S T s n l a w [] := fun _ h => by cases h
theorem ReadyU.cons {n i : Nat} {o : Oper} {rs : List Nat} {l : Array Bool} {a : Act} {w : World} (ho : ops[i]? = some o) (his : i ≠ s)
    (h : ∀ K : Act → World → Prop, Shut (∀ a w, S w → (S w → ordU P md ops Q S T s n (l.setIfInBounds i true) a w) → K a w) → if Region.wanted o (yielded ops a.tmps) = true then Oper.wp P o a w K Q else K (a.put o.dst undef) w)
    (hs : ReadyU P md ops Q S T s n l a w rs) : ReadyU P md ops Q S T s n l a w (i :: rs) := fun j hj => by
  rcases List.mem_cons.1 hj with rfl | hj
  · exact wpOp_step ho (fun K hK => h K (fun a w hS hW => hK a w ⟨fun e => absurd e his, fun _ => ⟨hS, hW hS⟩⟩))
  · exact hs j hj
theorem ordU_ready {rs : List Nat} {n : Nat} {l : Array Bool} {a : Act} {w : World} (hr : Region.ready md ops l = rs) (hne : rs ≠ []) (h : ReadyU P md ops Q S T s n l a w rs) : ordU P md ops Q S T s (n + 1) l a w :=
  ⟨fun h0 => absurd (hr ▸ h0) hne, hr ▸ h⟩
/-- Number s comes up: from here on T alone. -/
theorem ordU_at {n : Nat} {l : Array Bool} {a : Act} {w : World} (hr : Region.ready md ops l = [s]) (h : wpAnyH P md ops Q T (n + 1) l a w) : ordU P md ops Q S T s (n + 1) l a w := by
  refine ⟨fun h0 => absurd (hr.symm.trans h0) (by simp), fun i hi => ?_⟩
  have := h.2 i hi
  rw [hr] at hi
  obtain rfl : i = s := by simpa using hi
  exact wpOp_mono (fun b u k => ⟨fun _ => k, fun e => absurd rfl e⟩) this
theorem at_ordU {n : Nat} {l : Array Bool} {a : Act} {w : World} (R : World → Prop) (h : R w) (k : ∀ V, R V → ordU P md ops Q S T s n l a V) : ordU P md ops Q S T s n l a w := k w h
theorem region_ordU {id : Nat} {a : Act} {w : World} (T : World → Prop) (s : Nat) (hm : P.follows .mixedOrders = true) (hS : S w.drew)
    (h : S w.drew → ordU P .any ops Q S T s ops.size (Array.replicate ops.size false) a w.drew) : (Code.region id ops true).wp P Q a w :=
  wp_region_any hm (ordU_any _ _ _ _ (h hS))
end
end Go.Proofs.Ytncmffhoodfhjaa
