/- A region that draws its order, reads and calls first, and then stores into what it has read. Package halve: Split. -/
import Derived.Test.YtmfnlapoefihkaaGreatTree
import Derived.StillTail
import Derived.Test.YtmfnlapoefihkaaGreatHvg
import Derived.Test.YtmfnlapoefihkaaGreatWc
namespace Go.Proofs.YtmfnlapoefihkaaGreat
section
variable {P : Program} {ops : Array Oper} {Q : Exit → Act → World → Prop} {md : Region.Mode} {S T : World → Prop} {s : Nat}
/-- Whatever comes up next: S holds behind it, as long as number s has not come up; T from there on. -/
def ordU (P : Program) (md : Region.Mode) (ops : Array Oper) (Q : Exit → Act → World → Prop) (S T : World → Prop) (s : Nat) : Nat → Array Bool → Act → World → Prop
  | 0, l, a, w => Region.ready md ops l = [] ∧ Q .normal a w
  | n + 1, l, a, w => (Region.ready md ops l = [] → Q .normal a w) ∧
    ∀ i ∈ Region.ready md ops l, wpOp P ops Q i (fun b u => (i = s → T u ∧ wpAnyH P md ops Q T n (l.setIfInBounds i true) b u) ∧ (i ≠ s → S u ∧ ordU P md ops Q S T s n (l.setIfInBounds i true) b u)) a w
theorem ordU_any : ∀ (n : Nat) (l : Array Bool) (a : Act) (w : World), ordU P md ops Q S T s n l a w → wpAny P md ops Q n l a w
  | 0, _, _, _, h => h
  | n + 1, l, a, w, h => ⟨h.1, fun i hi => wpOp_mono (fun b u k => by
      by_cases e : i = s
      · exact wpAny_of_held _ _ _ _ (k.1 e).2
      · exact ordU_any n _ _ _ (k.2 e).2) (h.2 i hi)⟩
/-- Taken first: what yields the same in each world of S, if number s waits for it. -/
theorem ordU_first {i : Nat} {o : Oper} {v : Value} (hi : ops[i]? = some o) (hns : Region.noSelect ops = true) (hQ : ∀ c a w, Q (.panic c) (a.put o.dst v) w → Q (.panic c) a w) (hws : Region.waitsFor md ops s i = true) :
    ∀ (n : Nat) (l : Array Bool) (a : Act) (w : World), (∀ j p, ops[j]? = some p → j ≠ i → l.getD j true = false → (∀ e ∈ p.after, Region.binds md e = true → e.on ≠ i) → o.apart ops p = true) →
      i ∈ Region.ready md ops l → YieldsIf P ops S o v a → S w → ordU P md ops Q S T s n (l.setIfInBounds i true) (a.put o.dst v) w → ordU P md ops Q S T s (n + 1) l a w := by
  have sel := Region.noSelect_spec hns; obtain ⟨os, hos, x, hx, hxb, hxi⟩ := Region.waitsFor_spec hws
  have un : ∀ l : Array Bool, i ∈ Region.ready md ops l → l.getD i false = false := fun l hr => by
    have h0 := (mem_ready.1 hr).1
    rcases Nat.lt_or_ge i l.size with k | k
    · simp [k] at h0 ⊢
      exact h0
    · simp [Array.getElem?_eq_none k]
  have his : ∀ l : Array Bool, i ∈ Region.ready md ops l → ∀ j ∈ Region.ready md ops l, j ≠ s := fun l hr j hj e => by
    subst e; obtain ⟨_, p, hp, hall⟩ := mem_ready.1 hj; rw [hos] at hp
    cases hp
    have := hall x hx hxb; rw [hxi, un l hr] at this
    cases this
  intro n
  induction n with
  | zero =>
    intro l a w _ hr hy hS H; refine ⟨fun h => (by rw [h] at hr; cases hr), fun j hj => ?_⟩
    by_cases e : j = i
    · subst e
      exact hy.wpOp hi hS ⟨fun e => absurd e (his l hr j hr), fun _ => ⟨hS, H⟩⟩
    · have := ready_mono hj e
      rw [H.1] at this
      cases this
  | succ n ih =>
    intro l a w hfree hr hy hS H; refine ⟨fun h => (by rw [h] at hr; cases hr), fun j hj => ?_⟩; have hjs := his l hr j hj
    by_cases e : j = i
    · subst e
      exact hy.wpOp hi hS ⟨fun e => absurd e hjs, fun _ => ⟨hS, H⟩⟩
    · have h1 := wpOp_mono (fun b u k => k.2 hjs) (H.2 j (ready_mono hj e))
      obtain ⟨hju, p, hp, hall⟩ := mem_ready.1 hj
      have hno : ∀ y ∈ p.after, Region.binds md y = true → y.on ≠ i := fun y hy' hb he => by
        have := hall y hy' hb; rw [he, un l hr] at this
        cases this
      have h2 := wpOp_putIf hp (hfree j p hp e hju hno) (fun cs b => sel i o cs b hi) (fun cs b => sel j p cs b hp) hQ hy h1; refine wpOp_mono (fun b u h3 => ⟨fun e => absurd e hjs, fun _ => ⟨h3.2.1, ih (l.setIfInBounds j true) b u (fun k ok hk hki hun hn => ?_) (ready_mono hr (Ne.symm e)) h3.1 h3.2.1 ?_⟩⟩) h2
      · refine hfree k ok hk hki ?_ hn
        by_cases hjk : j = k
        · subst hjk
          exact hju
        · rwa [getD_set_ne true hjk] at hun
      · rw [Array.setIfInBounds_comm _ _ e]
        exact h3.2.2
theorem ordU_take {i : Nat} {o : Oper} {v : Value} {n : Nat} {l : Array Bool} {a : Act} {w : World} (hi : ops[i]? = some o) (hns : Region.noSelect ops = true) (hf : Region.free md ops l i = true) (hr : (Region.ready md ops l).contains i = true) (hws : Region.waitsFor md ops s i = true)
    (hQ : ∀ c a w, Q (.panic c) (a.put o.dst v) w → Q (.panic c) a w) (hy : YieldsIf P ops S o v a) (hS : S w) (h : ordU P md ops Q S T s n (l.setIfInBounds i true) (a.put o.dst v) w) : ordU P md ops Q S T s (n + 1) l a w :=
  ordU_first hi hns hQ hws n l a w (Region.free_spec hi hf) (by simpa using hr) hy hS h
/-- Taken first: what yields the same in each world of S and in each world of T. -/
theorem ordU_first2 {i : Nat} {o : Oper} {v : Value} (hi : ops[i]? = some o) (hns : Region.noSelect ops = true) (hQ : ∀ c a w, Q (.panic c) (a.put o.dst v) w → Q (.panic c) a w) (his : i ≠ s) :
    ∀ (n : Nat) (l : Array Bool) (a : Act) (w : World), (∀ j p, ops[j]? = some p → j ≠ i → l.getD j true = false → (∀ e ∈ p.after, Region.binds md e = true → e.on ≠ i) → o.apart ops p = true) →
      i ∈ Region.ready md ops l → YieldsIf P ops S o v a → YieldsIf P ops T o v a → S w → ordU P md ops Q S T s n (l.setIfInBounds i true) (a.put o.dst v) w → ordU P md ops Q S T s (n + 1) l a w := by
  have sel := Region.noSelect_spec hns
  have un : ∀ l : Array Bool, i ∈ Region.ready md ops l → l.getD i false = false := fun l hr => by
    have h0 := (mem_ready.1 hr).1
    rcases Nat.lt_or_ge i l.size with k | k
    · simp [k] at h0 ⊢
      exact h0
    · simp [Array.getElem?_eq_none k]
  intro n
  induction n with
  | zero =>
    intro l a w _ hr hy _ hS H; refine ⟨fun h => (by rw [h] at hr; cases hr), fun j hj => ?_⟩
    by_cases e : j = i
    · subst e
      exact hy.wpOp hi hS ⟨fun e => absurd e his, fun _ => ⟨hS, H⟩⟩
    · have := ready_mono hj e
      rw [H.1] at this
      cases this
  | succ n ih =>
    intro l a w hfree hr hy hz hS H; refine ⟨fun h => (by rw [h] at hr; cases hr), fun j hj => ?_⟩
    by_cases e : j = i
    · subst e
      exact hy.wpOp hi hS ⟨fun e => absurd e his, fun _ => ⟨hS, H⟩⟩
    · obtain ⟨hju, p, hp, hall⟩ := mem_ready.1 hj
      have hno : ∀ y ∈ p.after, Region.binds md y = true → y.on ≠ i := fun y hy' hb he => by
        have := hall y hy' hb; rw [he, un l hr] at this
        cases this
      have hfree2 : ∀ k ok, ops[k]? = some ok → k ≠ i → (l.setIfInBounds j true).getD k true = false → (∀ e ∈ ok.after, Region.binds md e = true → e.on ≠ i) → o.apart ops ok = true := fun k ok hk hki hun hn => by
        refine hfree k ok hk hki ?_ hn
        by_cases hjk : j = k
        · subst hjk
          exact hju
        · rwa [getD_set_ne true hjk] at hun
      have hap := hfree j p hp e hju hno; have h0 := H.2 j (ready_mono hj e)
      by_cases hjs : j = s
      · have h1 := wpOp_mono (fun b u k => k.1 hjs) h0
        have h2 := wpOp_putIf hp hap (fun cs b => sel i o cs b hi) (fun cs b => sel j p cs b hp) hQ hz h1; refine wpOp_mono (fun b u h3 => ⟨fun _ => ⟨h3.2.1, wpAnyH_first hi sel hQ n _ _ _ hfree2 (ready_mono hr (Ne.symm e)) h3.1 h3.2.1 ?_⟩, fun k => absurd hjs k⟩) h2; rw [Array.setIfInBounds_comm _ _ e]; exact h3.2.2
      · have h1 := wpOp_mono (fun b u k => k.2 hjs) h0
        have h2 := wpOp_putIf (S := fun u => S u ∨ T u) hp hap (fun cs b => sel i o cs b hi) (fun cs b => sel j p cs b hp) hQ
          (hy.elim (fun ⟨q1, q2⟩ => hz.elim (fun ⟨_, q3⟩ => .inl ⟨q1, fun w k => k.elim (q2 w) (q3 w)⟩) (fun ⟨q3, _⟩ => by rw [q1] at q3; cases q3)) (fun k => .inr k)) h1
        refine wpOp_mono (fun b u h3 => ⟨fun k => absurd k hjs, fun _ => ⟨h3.2.1, ih (l.setIfInBounds j true) b u hfree2 (ready_mono hr (Ne.symm e)) (h3.1.imp (fun ⟨q1, q2⟩ => ⟨q1, fun w k => q2 w (.inl k)⟩) id) (h3.1.imp (fun ⟨q1, q2⟩ => ⟨q1, fun w k => q2 w (.inr k)⟩) id) h3.2.1 ?_⟩⟩) h2; rw [Array.setIfInBounds_comm _ _ e]; exact h3.2.2
theorem ordU_take2 {i : Nat} {o : Oper} {v : Value} {n : Nat} {l : Array Bool} {a : Act} {w : World} (hi : ops[i]? = some o) (hns : Region.noSelect ops = true) (hf : Region.free md ops l i = true) (hr : (Region.ready md ops l).contains i = true) (his : i ≠ s)
    (hQ : ∀ c a w, Q (.panic c) (a.put o.dst v) w → Q (.panic c) a w) (hy : YieldsIf P ops S o v a) (hz : YieldsIf P ops T o v a) (hS : S w) (h : ordU P md ops Q S T s n (l.setIfInBounds i true) (a.put o.dst v) w) : ordU P md ops Q S T s (n + 1) l a w :=
  ordU_first2 hi hns hQ his n l a w (Region.free_spec hi hf) (by simpa using hr) hy hz hS h
/-- Each of the operations comes up next. -/
def ReadyU (P : Program) (md : Region.Mode) (ops : Array Oper) (Q : Exit → Act → World → Prop) (S T : World → Prop) (s n : Nat) (l : Array Bool) (a : Act) (w : World) (rs : List Nat) : Prop :=
  ∀ i ∈ rs, wpOp P ops Q i (fun b u => (i = s → T u ∧ wpAnyH P md ops Q T n (l.setIfInBounds i true) b u) ∧ (i ≠ s → S u ∧ ordU P md ops Q S T s n (l.setIfInBounds i true) b u)) a w
theorem ReadyU.nil {n : Nat} {l : Array Bool} {a : Act} {w : World} : ReadyU P md ops Q S T s n l a w [] := fun _ h => by cases h
theorem ReadyU.cons {n i : Nat} {o : Oper} {rs : List Nat} {l : Array Bool} {a : Act} {w : World} (ho : ops[i]? = some o) (his : i ≠ s)
    (h : ∀ K : Act → World → Prop, Shut (∀ a w, S w → (S w → ordU P md ops Q S T s n (l.setIfInBounds i true) a w) → K a w) → if Region.wanted o (yielded ops a.tmps) = true then Oper.wp P o a w K Q else K (a.put o.dst undef) w)
    (hs : ReadyU P md ops Q S T s n l a w rs) : ReadyU P md ops Q S T s n l a w (i :: rs) := fun j hj => by
  rcases List.mem_cons.1 hj with rfl | hj
  · exact wpOp_step ho (fun K hK => h K (fun a w hS hW => hK a w ⟨fun e => absurd e his, fun _ => ⟨hS, hW hS⟩⟩))
  · exact hs j hj
theorem ordU_ready {rs : List Nat} {n : Nat} {l : Array Bool} {a : Act} {w : World} (hr : Region.ready md ops l = rs) (hne : rs ≠ []) (h : ReadyU P md ops Q S T s n l a w rs) : ordU P md ops Q S T s (n + 1) l a w :=
  ⟨fun h0 => absurd (hr ▸ h0) hne, hr ▸ h⟩
/-- Number s comes up: from here on T alone. -/
theorem ordU_at {n : Nat} {l : Array Bool} {a : Act} {w : World} (hr : Region.ready md ops l = [s]) (h : wpAnyH P md ops Q T (n + 1) l a w) : ordU P md ops Q S T s (n + 1) l a w := by
  refine ⟨fun h0 => absurd (hr.symm.trans h0) (by simp), fun i hi => ?_⟩; have := h.2 i hi; rw [hr] at hi
  obtain rfl : i = s := by simpa using hi
  exact wpOp_mono (fun b u k => ⟨fun _ => k, fun e => absurd rfl e⟩) this
theorem at_ordU {n : Nat} {l : Array Bool} {a : Act} {w : World} (R : World → Prop) (h : R w) (k : ∀ V, R V → ordU P md ops Q S T s n l a V) : ordU P md ops Q S T s n l a w := k w h
theorem region_ordU {id : Nat} {a : Act} {w : World} (T : World → Prop) (s : Nat) (hm : P.follows .mixedOrders = true) (hS : S w.drew)
    (h : S w.drew → ordU P .any ops Q S T s ops.size (Array.replicate ops.size false) a w.drew) : (Code.region id ops true).wp P Q a w :=
  wp_region_any hm (ordU_any _ _ _ _ (h hS))
end
end Go.Proofs.YtmfnlapoefihkaaGreat
namespace Go.Proofs.YtmfnlapoefihkaaGreat
open Go.RowKit
theorem GB.weak {F F' : Nat → Prop} {V W : World} (h : GB F V W) (hF : ∀ k, F k → F' k) : GB F' V W := ⟨h.os, h.tape, h.output, h.size, fun k hk hn => h.block k hk (fun hf => hn (hF k hf))⟩
structure BKk (v : World) (g : Nat) (l : List Value) : Prop where
  b : BK v g l
theorem BKk.call {v v' : World} {g : Nat} {l : List Value} (h : BKk v g l) (hb : Below v.heap.size v v') : BKk v' g l := ⟨h.b.keep hb⟩
theorem BKk.al {v : World} {g : Nat} {l : List Value} (h : BKk v g l) (o : Obj) : BKk (v.alloc o) g l := ⟨h.b.al o⟩
theorem BKk.set {v : World} {g p o : Nat} {l : List Value} (h : BKk v g l) (hp : p ≠ g) (x : Value) : BKk (v.setCell ⟨p, o, none⟩ x) g l := ⟨h.b.far hp o x⟩
/-- What Split gives. -/
def SpQ (D : List CkD) (l : List Nat) (n h : Nat) (L : List Qr) (xs ys : Nat → Int) (w : World) (e : Ending) (w' : World) : Prop :=
  ∃ (A2 : Option Addr) (m2 ca2 : Nat) (Q2 : Option Addr) (n2 cq2 : Nat) (l2 : List CkR) (M : List Hv.Mk) (ma mb : Int) (gl cl : Nat) (Sl : List Nat) (gr cr : Nat) (Sr : List Nat),
    e = .returned (.tuple #[.agg #[.slice A2 m2 ca2, .slice Q2 n2 cq2], .agg #[.int .i64 ma, .int .i64 mb], .slice (some ⟨gl, 0, none⟩) h cl, .slice (some ⟨gr, 0, none⟩) (n - h) cr, .int .i64 0]) ∧ Below w.heap.size w w' ∧ m2 = l2.length ∧ n2 = L.length ∧ l2.map Ak.dat = D ∧ FD w' w.heap.size A2 ca2 l2 Q2 cq2 L ∧
    M.Perm (Hv.mks l xs ys n) ∧ M.Pairwise Hv.Lx ∧ ((Hv.mat M (h - 1)).2.1 = ma ∧ (Hv.mat M (h - 1)).2.2 = mb) ∧ Sl.Perm ((M.take h).map fun z => z.1) ∧ Hi.Inc Sl ∧ BK w' gl (Hi.cells1 Sl) ∧ Sr.Perm ((M.drop h).map fun z => z.1) ∧ Hi.Inc Sr ∧ BK w' gr (Hi.cells1 Sr) ∧ w.heap.size ≤ gl ∧ w.heap.size ≤ gr
theorem Hv.cells3_at {M : List Hv.Mk} {k : Nat} (h : k < M.length) : (Hv.cells3 M)[k * 3]? = some (.int .i64 ((Hv.mat M k).1 : Nat)) ∧ (Hv.cells3 M)[k * 3 + 1]? = some (.int .i64 (Hv.mat M k).2.1) ∧ (Hv.cells3 M)[k * 3 + 2]? = some (.int .i64 (Hv.mat M k).2.2) := by
  induction M generalizing k with
  | nil => simp at h
  | cons x M ih =>
    cases k with
    | zero => exact ⟨rfl, rfl, rfl⟩
    | succ k =>
      have := ih (k := k) (by simpa using h); rw [Hv.cells3_cons, show (k + 1) * 3 = k * 3 + 3 by omega, show k * 3 + 3 + 1 = (k * 3 + 1) + 3 by omega, show k * 3 + 3 + 2 = (k * 3 + 2) + 3 by omega]; exact this
set_option linter.unusedSimpArgs false in
set_option maxHeartbeats 8000000 in
set_option maxRecDepth 100000 in
theorem hvsplit_any (A : Option Addr) (ca : Nat) (cs : List CkR) (Q : Option Addr) (qs : List Qr) (cq p n cap mh : Nat) (l : List Nat) (len a b c d pn pd : Int) (qn : Nat → List Qr) (xs ys : Nat → Int) (w : World) (hC : IsCs w A cs) (hq : IsQs w Q qs) (hck : Ak.chkS (cs.map Ak.dat) qs.length = 0) (hB : BK w p (Hi.cells1 l)) (hn : l.length = n) (h2 : 2 ≤ n) (h6 : n ≤ 6) (hh : n / 2 = mh) (hi : l.Pairwise fun a b => a < b) (hlt : ∀ x ∈ l, x < cs.length) (hl : (Ak.cat cs 0).len = len)
    (l0 : 1 ≤ len) (l1 : len ≤ 1000) (hpa : Rp.Ok a b) (h0a : 0 ≤ a) (hpc : Rp.Ok c d) (h0c : 0 ≤ c) (hac : Rp.q a b < Rp.q c d) (hcl : Rp.q c d ≤ Rp.q len 1)
    (hpt : Rp.makeS ((n / 2 : Nat) : Int) (n : Int) = (pn, pd, 0)) (hp1 : I64 pn) (hp2 : I64 pd)
    (hA : ∀ j, j < n → Hv.Asks (cs.map Ak.dat) len a b c d pn pd (l.getD j 0) (Hv.lg qs qn j).length (qn j) (xs j) (ys j)) (hok : ∀ j, j < n → Rp.Ok (xs j) (ys j)) :
    Calls Tryz.prog 25 #[.agg #[.slice A cs.length ca, .slice Q qs.length cq], .slice (some ⟨p, 0, none⟩) n cap, .agg #[.int .i64 a, .int .i64 b], .agg #[.int .i64 c, .int .i64 d]] w (SpQ (cs.map Ak.dat) l n mh (Hv.lg qs qn n) xs ys w) := by
  have hgd := Ak.chkS_good hck; have hc6 := hgd.l1; have hc1 := hgd.l0; rw [List.length_map] at hc6 hc1
  have ch := fun v (hv : Below w.heap.size w v) => askCheck_any A ca cs Q qs.length cq v hq.len (hC.keep hv)
  rw [hck] at ch
  have ar := fun v (hv : Below w.heap.size w v) => hvare_any A cs.length ca Q qs.length cq p n cap l v hn h2 h6 hi hlt hc6 (hB.keep hv)
  have li := fun v (hv : Below w.heap.size w v) => hvlies_any A ca cs Q qs.length cq len a b c d v (hC.keep hv) (by omega) hl l0 l1 hpa h0a hpc h0c hac hcl
  obtain ⟨k1, k2, k3, k4, _⟩ := hpa; obtain ⟨e1, e2, e3, e4, _⟩ := hpc
  have ms := fun v (hv : Below w.heap.size w v) => hvmarks_any A ca cs Q qs cq p n cap l len a b c d pn pd qn xs ys v (hC.keep hv) (hq.keep hv) (hB.keep hv) hn h2 h6 hi hlt hl hpt hp1 hp2 ⟨by omega, by omega⟩ ⟨by omega, by omega⟩ ⟨by omega, by omega⟩ ⟨by omega, by omega⟩ hA hok
  have hf := fun v => hvhalf_any (some ⟨p, 0, none⟩) n cap v h6
  rw [hh] at hf
  generalize Hv.lg qs qn n = LL at *
  generalize cs.map Ak.dat = D at *
  unfold MsQ at ms
  have CH := Lib.hid ch; have AR := Lib.hid ar; have LI := Lib.hid li; have MS := Lib.hid ms; have HF := Lib.hid hf
  have hh1 : 1 ≤ mh := by omega
  have hhn : mh < n := by omega
  clear ch ar li ms hf hgd hck hC hq hB hi hlt hl hpt hp1 hp2 hA hok h0a h0c hac hcl l0 l1 k1 k2 k3 k4 e1 e2 e3 e4 hn hh
  unfold SpQ
  go_enter Tryz.func25, Tryz.ntmps25
  go_upto_region 1 with fail
  refine at_box5 (fun V hbb B0 B1 B2 B3 B4 hVs => ?_); have p0 := B0.c 0 rfl; have p1 := B0.c 1 rfl; (go_wp2_with fail); refine (CH.out _ hbb).mono ?_; rintro e w1 ⟨rfl, hb⟩; clear p0 p1; have hsz1 := hb.size; replace hbb := keepB hbb hb; replace B0 := B0.keep hb; replace B1 := B1.keep hb; replace B2 := B2.keep hb; replace B3 := B3.keep hb; replace B4 := B4.keep hb; clear hb; have f0 := B1.c 0 rfl; have f1 := B1.c 1 rfl; have f2 := B2.c 0 rfl; have f3 := B2.c 1 rfl
  go_upto_region 5 with fail
  refine at_worldQ (fun v => Below w.heap.size w v ∧ BK v w.heap.size [.slice A cs.length ca, .slice Q qs.length cq] ∧ BK v (w.heap.size + 3) [.slice none 0 0, .slice none 0 0] ∧ BK v (w.heap.size + 4) [.int .i64 0, .int .i64 0] ∧ BK v w1.heap.size [.int .i64 a, .int .i64 b, .int .i64 c, .int .i64 d] ∧ w.heap.size + 5 ≤ v.heap.size) ⟨below_al hbb _, B0.al _, B3.al _, B4.al _, BK.new _ _ _, by simp only [World.size_alloc]; omega⟩ (fun V5 hS => ?_); clear hbb B0 B1 B2 B3 B4 f0 f1 f2 f3; obtain ⟨hbb, B0, B3, B4, BS, hs5⟩ := hS
  generalize w1.heap.size = P5 at *
  have p0 := B0.c 0 rfl; have p1 := B0.c 1 rfl; (go_wp2_with fail); refine (AR.out _ hbb).mono ?_; rintro e w2 ⟨rfl, hb⟩; clear p0 p1; replace hbb := keepB hbb hb; replace B0 := B0.keep hb; replace B3 := B3.keep hb; replace B4 := B4.keep hb; replace BS := BS.keep hb; replace hs5 := Nat.le_trans hs5 hb.size; clear hb; have p0 := B0.c 0 rfl; have p1 := B0.c 1 rfl; have s0 := BS.c 0 rfl; have s1 := BS.c 1 rfl; have s2 := BS.c 2 rfl; have s3 := BS.c 3 rfl; (go_wp2_with fail); refine (LI.out _ hbb).mono ?_; rintro e w3 ⟨rfl, hb⟩; clear p0 p1 s0 s1 s2 s3; replace hbb := keepB hbb hb; replace B0 := B0.keep hb; replace B3 := B3.keep hb; replace B4 := B4.keep hb; replace BS := BS.keep hb; replace hs5 := Nat.le_trans hs5 hb.size; clear hb; have p0 := B0.c 0 rfl; have p1 := B0.c 1 rfl; have s0 := BS.c 0 rfl; have s1 := BS.c 1 rfl; have s2 := BS.c 2 rfl; have s3 := BS.c 3 rfl; (go_wp2_with fail); refine (MS.out _ hbb).mono ?_; rintro e w4 ⟨A2, ca2, Q2, cq2, l2, g, cp, M, rfl, hb, hd2, hfd, hpm, hsm, hg, hBM, hcp⟩; clear p0 p1 s0 s1 s2 s3; have hs4 := hb.size; replace hbb := keepB hbb hb; replace B3 := B3.keep hb; replace B4 := B4.keep hb
  have hML : M.length = n := by rw [hpm.length_eq, Hv.mks_len]
  obtain ⟨m2, hm2⟩ : ∃ z, l2.length = z := ⟨_, rfl⟩; obtain ⟨n2, hn2⟩ : ∃ z, LL.length = z := ⟨_, rfl⟩; rw [hm2, hn2]; have HM2 := Lib.hid hm2.symm; have HN2 := Lib.hid hn2.symm; have HD2 := Lib.hid hd2; have HPM := Lib.hid hpm; have HSM := Lib.hid hsm; have HML := Lib.hid hML; have HFD4 := Lib.hid hfd; clear hb B0 BS hm2 hn2 hd2 hpm hsm hML hfd; have r0 := B3.c 0 rfl; have r1 := B3.c 1 rfl; have f0 := B3.f 0 rfl; have f1 := B3.f 1 rfl; (go_wp2_with fail); refine (HF.out _).mono ?_; rintro e w5 ⟨rfl, hw5⟩; subst hw5; obtain ⟨ma, hma⟩ : ∃ z, (Hv.mat M (mh - 1)).2.1 = z := ⟨_, rfl⟩; obtain ⟨mb, hmb⟩ : ∃ z, (Hv.mat M (mh - 1)).2.2 = z := ⟨_, rfl⟩; have HMM := Lib.hid (And.intro hma hmb)
  have agl := fun v (hv : BK v g (Hv.cells3 M)) => hvagents_any g 0 mh cp (M.take mh) v (by rw [List.length_take, HML.out]; omega) hh1 (by omega) (fun k hk => by
    obtain ⟨u0, u1, u2⟩ := Hv.cells3_at (M := M) (k := k) (by rw [HML.out]; omega)
    have e : Hv.mat (M.take mh) k = Hv.mat M k := by unfold Hv.mat; simp [List.getD, hk]
    rw [e, Nat.zero_add]
    exact ⟨hv.c _ u0, hv.c _ u1, hv.c _ u2⟩)
  have agr := fun v (hv : BK v g (Hv.cells3 M)) => hvagents_any g (mh * 3) (n - mh) (cp - mh) (M.drop mh) v (by rw [List.length_drop, HML.out]) (by omega) (by omega) (fun k hk => by
    obtain ⟨u0, u1, u2⟩ := Hv.cells3_at (M := M) (k := mh + k) (by rw [HML.out]; omega)
    have e : Hv.mat (M.drop mh) k = Hv.mat M (mh + k) := by unfold Hv.mat; simp [List.getD]
    rw [e, show mh * 3 + k * 3 = (mh + k) * 3 by omega]
    exact ⟨hv.c _ u0, hv.c _ u1, hv.c _ u2⟩)
  unfold AgO at agl agr
  have AGL := Lib.hid agl; have AGR := Lib.hid agr; clear agl agr; have hgl4 := hBM.lt
  go_upto_region 11 with fail
  refine at_worldQ (fun v => Below w.heap.size w v ∧ BK v (w.heap.size + 3) [.slice A2 m2 ca2, .slice Q2 n2 cq2] ∧ BK v (w.heap.size + 4) [.int .i64 0, .int .i64 0] ∧ BK v g (Hv.cells3 M) ∧ FD v (w.heap.size + 5) A2 ca2 l2 Q2 cq2 LL ∧ w.heap.size + 5 ≤ v.heap.size) ⟨below_set (below_set hbb (by omega) _) (by omega) _, ((B3.set 0 _).set 1 _), ((B4.far (by omega) _ _).far (by omega) _ _), ((hBM.far (by omega) _ _).far (by omega) _ _), (((HFD4.out.set (p := w.heap.size + 3) (o := 0) (by omega) (.slice A2 m2 ca2)).set (p := w.heap.size + 3) (o := 1) (by omega) (.slice Q2 n2 cq2)).mono hs5), by simp only [World.size_setCell]; omega⟩ (fun V hS => ?_); clear hbb B3 B4 hBM r0 r1 f0 f1; obtain ⟨hbb, BD, BE, hBM, hfd, hsV⟩ := hS; have HFD := Lib.hid hfd; clear hfd; have p0 := BD.c 0 rfl; have p1 := BD.c 1 rfl; obtain ⟨_, mm1, mm2⟩ := Hv.cells3_at (M := M) (k := mh - 1) (by rw [HML.out]; omega); rw [hma] at mm1; rw [hmb] at mm2; replace mm1 := hBM.c _ mm1; replace mm2 := hBM.c _ mm2; clear hma hmb
  have j1 : IntKind.i64.wrap ((mh : Int) - 1) = ((mh - 1 : Nat) : Int) := by rw [show (mh : Int) - 1 = ((mh - 1 : Nat) : Int) by omega]; exact IntWalk.i64_in _ (by omega)
  have j2 : ((mh - 1 : Nat) : Int) < (n : Int) := by omega
  have j3 : (mh : Int) ≤ (cp : Int) := by omega
  have j4 : (mh : Int) ≤ (n : Int) := by omega
  have j5 : (0 : Int) ≤ (mh : Int) := by omega
  have j6 : (0 : Int) ≤ ((mh - 1 : Nat) : Int) := by omega
  refine wp_region_noPanic ?_; refine region_ordU (S := (GB (fun _ => False) V)) (GB (fun k => k = w.heap.size + 3 ∨ k = w.heap.size + 4) V) 15 (by kernel_rfl) ((GB.refl _ _).drew) (fun hHeld => ?_); refine at_ordU (fun v => GB (fun _ => False) V v) hHeld (fun wu0 hNew => ?_); clear hHeld; have hHeld := hNew; clear hNew; refine ordU_take (i := 0) (o := _) (v := ?vu1) rfl (by kernel_rfl) (by kernel_rfl) (by kernel_rfl) (by kernel_rfl) (fun _ _ _ h => h) (Or.inl ⟨by kernel_rfl, ?hyu1⟩) hHeld ?restu1
  case hyu1 => (intro w hSw; have kp0 := hSw.cell (fun h => h) p0; have kp1 := hSw.cell (fun h => h) p1; have kmm1 := hSw.cell (fun h => h) mm1; have kmm2 := hSw.cell (fun h => h) mm2; go_simp <;> with_reducible rfl)
  (try simp only [PPz]); refine ordU_take2 (i := 1) (o := _) (v := ?vu2) rfl (by kernel_rfl) (by kernel_rfl) (by kernel_rfl) (by decide) (fun  _ _ _ h => h) (Or.inl ⟨by kernel_rfl, ?hyu2⟩) (Or.inl ⟨by kernel_rfl, ?hzu2⟩) hHeld ?restu2
  case hyu2 => (intro w hSw; go_simp <;> with_reducible rfl)
  case hzu2 => (intro w hSw; go_simp <;> with_reducible rfl)
  (try simp only [PPz]); refine ordU_take2 (i := 2) (o := _) (v := ?vu3) rfl (by kernel_rfl) (by kernel_rfl) (by kernel_rfl) (by decide) (fun  _ _ _ h => h) (Or.inl ⟨by kernel_rfl, ?hyu3⟩) (Or.inl ⟨by kernel_rfl, ?hzu3⟩) hHeld ?restu3
  case hyu3 => (intro w hSw; go_simp <;> with_reducible rfl)
  case hzu3 => (intro w hSw; go_simp <;> with_reducible rfl)
  (try simp only [PPz]); refine ordU_take2 (i := 3) (o := _) (v := ?vu4) rfl (by kernel_rfl) (by kernel_rfl) (by kernel_rfl) (by decide) (fun  _ _ _ h => h) (Or.inl ⟨by kernel_rfl, ?hyu4⟩) (Or.inl ⟨by kernel_rfl, ?hzu4⟩) hHeld ?restu4
  case hyu4 => (intro w hSw; go_simp <;> with_reducible rfl)
  case hzu4 => (intro w hSw; go_simp <;> with_reducible rfl)
  (try simp only [PPz]); refine ordU_take2 (i := 4) (o := _) (v := ?vu5) rfl (by kernel_rfl) (by kernel_rfl) (by kernel_rfl) (by decide) (fun  _ _ _ h => h) (Or.inl ⟨by kernel_rfl, ?hyu5⟩) (Or.inl ⟨by kernel_rfl, ?hzu5⟩) hHeld ?restu5
  case hyu5 => (intro w hSw; go_simp <;> with_reducible rfl)
  case hzu5 => (intro w hSw; go_simp <;> with_reducible rfl)
  (try simp only [PPz]); refine ordU_take2 (i := 5) (o := _) (v := ?vu6) rfl (by kernel_rfl) (by kernel_rfl) (by kernel_rfl) (by decide) (fun  _ _ _ h => h) (Or.inl ⟨by kernel_rfl, ?hyu6⟩) (Or.inl ⟨by kernel_rfl, ?hzu6⟩) hHeld ?restu6
  case hyu6 => (intro w hSw; go_simp <;> with_reducible rfl)
  case hzu6 => (intro w hSw; go_simp <;> with_reducible rfl)
  (try simp only [PPz]); refine ordU_take2 (i := 6) (o := _) (v := ?vu7) rfl (by kernel_rfl) (by kernel_rfl) (by kernel_rfl) (by decide) (fun  _ _ _ h => h) (Or.inl ⟨by kernel_rfl, ?hyu7⟩) (Or.inl ⟨by kernel_rfl, ?hzu7⟩) hHeld ?restu7
  case hyu7 => (intro w hSw; have kp0 := hSw.cell (fun h => h) p0; have kp1 := hSw.cell (fun h => h) p1; have kmm1 := hSw.cell (fun h => h) mm1; have kmm2 := hSw.cell (fun h => h) mm2; go_simp <;> with_reducible rfl)
  case hzu7 => (intro w hSw; have kmm1 := hSw.cell (by omega) mm1; have kmm2 := hSw.cell (by omega) mm2; go_simp <;> with_reducible rfl)
  (try simp only [PPz]); refine ordU_take2 (i := 7) (o := _) (v := ?vu8) rfl (by kernel_rfl) (by kernel_rfl) (by kernel_rfl) (by decide) (fun  _ _ _ h => h) (Or.inl ⟨by kernel_rfl, ?hyu8⟩) (Or.inl ⟨by kernel_rfl, ?hzu8⟩) hHeld ?restu8
  case hyu8 => (intro w hSw; go_simp <;> with_reducible rfl)
  case hzu8 => (intro w hSw; go_simp <;> with_reducible rfl)
  (try simp only [PPz]); refine ordU_take2 (i := 8) (o := _) (v := ?vu9) rfl (by kernel_rfl) (by kernel_rfl) (by kernel_rfl) (by decide) (fun  _ _ _ h => h) (Or.inl ⟨by kernel_rfl, ?hyu9⟩) (Or.inl ⟨by kernel_rfl, ?hzu9⟩) hHeld ?restu9
  case hyu9 => (intro w hSw; go_simp <;> with_reducible rfl)
  case hzu9 => (intro w hSw; go_simp <;> with_reducible rfl)
  (try simp only [PPz]); refine ordU_take2 (i := 9) (o := _) (v := ?vu10) rfl (by kernel_rfl) (by kernel_rfl) (by kernel_rfl) (by decide) (fun  _ _ _ h => h) (Or.inl ⟨by kernel_rfl, ?hyu10⟩) (Or.inl ⟨by kernel_rfl, ?hzu10⟩) hHeld ?restu10
  case hyu10 => (intro w hSw; go_simp <;> with_reducible rfl)
  case hzu10 => (intro w hSw; go_simp <;> with_reducible rfl)
  (try simp only [PPz]); refine ordU_take2 (i := 11) (o := _) (v := ?vu11) rfl (by kernel_rfl) (by kernel_rfl) (by kernel_rfl) (by decide) (fun  _ _ _ h => h) (Or.inl ⟨by kernel_rfl, ?hyu11⟩) (Or.inl ⟨by kernel_rfl, ?hzu11⟩) hHeld ?restu11
  case hyu11 => (intro w hSw; go_simp <;> with_reducible rfl)
  case hzu11 => (intro w hSw; go_simp <;> with_reducible rfl)
  (try simp only [PPz]); refine ordU_take2 (i := 12) (o := _) (v := ?vu12) rfl (by kernel_rfl) (by kernel_rfl) (by kernel_rfl) (by decide) (fun  _ _ _ h => h) (Or.inl ⟨by kernel_rfl, ?hyu12⟩) (Or.inl ⟨by kernel_rfl, ?hzu12⟩) hHeld ?restu12
  case hyu12 => (intro w hSw; go_simp <;> with_reducible rfl)
  case hzu12 => (intro w hSw; go_simp <;> with_reducible rfl)
  (try simp only [PPz]); refine ordU_take2 (i := 13) (o := _) (v := ?vu13) rfl (by kernel_rfl) (by kernel_rfl) (by kernel_rfl) (by decide) (fun  _ _ _ h => h) (Or.inl ⟨by kernel_rfl, ?hyu13⟩) (Or.inl ⟨by kernel_rfl, ?hzu13⟩) hHeld ?restu13
  case hyu13 => (intro w hSw; go_simp <;> with_reducible rfl)
  case hzu13 => (intro w hSw; go_simp <;> with_reducible rfl)
  (try simp only [PPz]); refine ordU_ready (rs := [10]) (by kernel_rfl) (by simp) (ReadyU.cons (o := _) rfl (by decide) (fun K hK => ?_) ReadyU.nil); go_simp; refine (AGL.out _ (hBM.gb hHeld (fun h => h.elim))).mono ?_; rintro e wu14 ⟨gl, cl, Sl, rfl, hgl, hPl, hIl, hBl, hb3⟩; have hL := BKk.mk hBl
  have hLg : w.heap.size + 5 ≤ gl := by have := hHeld.size; omega
  clear hBl; (go_wp2_with fail); refine hK.out _ _ (hHeld.below hb3) (fun hNew => ?_); clear hb3; clear hHeld hK K; have hHeld := hNew; clear hNew; (try simp only [PPz]); refine ordU_ready (rs := [14]) (by kernel_rfl) (by simp) (ReadyU.cons (o := _) rfl (by decide) (fun K hK => ?_) ReadyU.nil); go_simp; refine (AGR.out _ (hBM.gb hHeld (fun h => h.elim))).mono ?_; rintro e wu15 ⟨gr, cr, Sr, rfl, hgr, hPr, hIr, hBr, hb3⟩; have hR := BKk.mk hBr
  have hRg : w.heap.size + 5 ≤ gr := by have := hHeld.size; omega
  clear hBr; (go_wp2_with fail); refine hK.out _ _ (hHeld.below hb3) (fun hNew => ?_); replace hL := hL.call hb3; clear hb3; clear hHeld hK K; have hHeld := hNew; clear hNew; (try simp only [PPz]); refine ordU_at (by kernel_rfl) ?_; replace BD := BD.gb hHeld (fun h => h); replace BE := BE.gb hHeld (fun h => h); replace hHeld : GB (fun k => k = w.heap.size + 3 ∨ k = w.heap.size + 4) V wu15 := hHeld.weak (fun k hk => hk.elim); refine rdy1 15 rfl (fun K hK => ?_); have n0 := BD.c 0 rfl; have f0 := BD.f 0 rfl; have n1 := BD.c 1 rfl; have f1 := BD.f 1 rfl; go_simp; clear n0 f0 n1 f1; refine hK.out _ _ ((hHeld.set (.inl (.inl rfl)) _).set (.inl (.inl rfl)) _) (fun hNew => ?_); clear hHeld hK K; have hHeld := hNew; clear hNew; (try simp only [PPz]); refine at_anyH (fun v => GB (fun k => k = w.heap.size + 3 ∨ k = w.heap.size + 4) V v ∧ BK v (w.heap.size + 3) [.slice A2 m2 ca2, .slice Q2 n2 cq2] ∧ BK v (w.heap.size + 4) [.int .i64 0, .int .i64 0] ∧ BKk v gl (Hi.cells1 Sl) ∧ BKk v gr (Hi.cells1 Sr)) ⟨hHeld, ((BD.set 0 _).set 1 _), ((BE.far (by omega) _ _).far (by omega) _ _), ((hL.set (by omega) _).set (by omega) _), ((hR.set (by omega) _).set (by omega) _)⟩ (fun wu16 hS => ?_); clear hHeld BD BE hL hR; obtain ⟨hHeld, BD, BE, hL, hR⟩ := hS; refine rdy1 16 rfl (fun K hK => ?_); have n0 := BE.c 0 rfl; have f0 := BE.f 0 rfl; have n1 := BE.c 1 rfl; have f1 := BE.f 1 rfl; go_simp; clear n0 f0 n1 f1; refine hK.out _ _ ((hHeld.set (.inl (.inr rfl)) _).set (.inl (.inr rfl)) _) (fun hNew => ?_); clear hHeld hK K; have hHeld := hNew; clear hNew; (try simp only [PPz]); refine at_anyH (fun v => GB (fun k => k = w.heap.size + 3 ∨ k = w.heap.size + 4) V v ∧ BK v (w.heap.size + 3) [.slice A2 m2 ca2, .slice Q2 n2 cq2] ∧ BK v (w.heap.size + 4) [.int .i64 ma, .int .i64 mb] ∧ BKk v gl (Hi.cells1 Sl) ∧ BKk v gr (Hi.cells1 Sr)) ⟨hHeld, ((BD.far (by omega) _ _).far (by omega) _ _), ((BE.set 0 _).set 1 _), ((hL.set (by omega) _).set (by omega) _), ((hR.set (by omega) _).set (by omega) _)⟩ (fun wu17 hS => ?_); clear hHeld BD BE hL hR; obtain ⟨hHeld, BD, BE, hL, hR⟩ := hS; refine tkd 17 rfl hHeld ?_; (try simp only [PPz]); refine tkd 18 rfl hHeld ?_; (try simp only [PPz]); refine tkd 19 rfl hHeld ?_; (try simp only [PPz]); refine wpAnyH_done (by kernel_rfl) ?_ _; refine NoPanic.normal ?_; have hbb2 := hHeld.toBelow hbb (fun k hk => by omega) (by omega); have hfd2 := HFD.out.mid ((Mid.refl _ _).gb' hHeld (fun k h1 h2 hk => by omega)); have r0 := BD.c 0 rfl; have r1 := BD.c 1 rfl; have t0 := BE.c 0 rfl; have t1 := BE.c 1 rfl; (go_wp2_with fail); exact bodyPost_ret (v := .tuple #[.agg #[.slice A2 m2 ca2, .slice Q2 n2 cq2], .agg #[.int .i64 ma, .int .i64 mb], .slice (some ⟨gl, 0, none⟩) mh cl, .slice (some ⟨gr, 0, none⟩) (n - mh) cr, .int .i64 0]) (by simp [results, Tryz.results25, go_sem, r0, r1, t0, t1]) rfl ⟨A2, m2, ca2, Q2, n2, cq2, l2, M, ma, mb, gl, cl, Sl, gr, cr, Sr, rfl, hbb2, HM2.out, HN2.out, HD2.out, hfd2.mono (by omega), HPM.out, HSM.out, HMM.out, hPl, hIl, hL.b, hPr, hIr, hR.b, by omega, by omega⟩
end Go.Proofs.YtmfnlapoefihkaaGreat

