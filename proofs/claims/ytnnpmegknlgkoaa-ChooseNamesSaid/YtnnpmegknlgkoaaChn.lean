/- What ChooseLine asks of valid states. -/
import Derived.Test.YtnnpmegknlgkoaaChl
namespace Go.Proofs.Ytnnpmegknlgkoaa
open Go.RowKit
/-- What Run gives for two valid cakes, with the desk that the log lies in. -/
def RunF (L : List Qr) (a0 b0 c0 d0 a1 b1 c1 d1 : Int) (w : World) (e : Ending) (w' : World) : Prop :=
  ∃ (P g0 g1 : Nat) (A : Option Addr) (ca : Nat) (Q : Option Addr) (cq : Nat) (l : List CkR) (n : Nat), e = .returned (.tuple #[.agg #[.slice (some ⟨P, 0, none⟩) 2 2], .slice Q n cq, .int .i64 0]) ∧ Below w.heap.size w w' ∧ n = L.length ∧ FD w' w.heap.size A ca l Q cq L ∧ DivB w.heap.size P g0 g1 a0 b0 c0 d0 a1 b1 c1 d1 w'
set_option linter.unusedSimpArgs false in
set_option maxHeartbeats 8000000 in
set_option maxRecDepth 100000 in
theorem run_of2 (A : Option Addr) (ca n : Nat) (K x y : Int) (b : Bool) (D : List CkD) (L : List Qr) (a0 b0 c0 d0 a1 b1 c1 d1 : Int) (w : World)
    (hR : ∀ v, Below w.heap.size w v → Calls Try.prog 71 #[.slice A n ca, .int .i64 K, .int .i64 2] v (StR D L K 2 x y b v))
    (hV : ∀ (A : Option Addr) (ca : Nat) (l : List CkR) (Q : Option Addr) (n cq : Nat) (v : World), IsCs v A l → l.map Ak.dat = D → Calls Try.prog 72 #[.agg #[.slice A l.length ca, .slice Q n cq, .int .i64 K, .int .i64 2, .int .i64 x, .int .i64 y, .bool b]] v (DivQ a0 b0 c0 d0 a1 b1 c1 d1 v)) :
    Calls Try.prog 33 #[.slice A n ca, .int .i64 K] w (RunF L a0 b0 c0 d0 a1 b1 c1 d1 w) := by
  unfold StR at hR
  have RE := Lib.hid hR
  have DV := Lib.hid hV
  have e0 : ((0 : Int) != 0) = false := rfl
  clear hR hV
  unfold RunF
  go_enter Try.func33, Try.ntmps33
  go_upto_region 1 with fail
  refine at_worldQ (fun v => Below w.heap.size w v ∧ BK v (w.heap.size) [.slice none 0 0] ∧ v.heap.size = w.heap.size + 1) ⟨(below_al (Below.refl _ _) _), (by have b := (BK.new w [.slice none 0 0] 67); simpa only [World.size_alloc] using b), by simp only [World.size_alloc]⟩ (fun V hS => ?_)
  obtain ⟨hbb, B0, hVs⟩ := hS
  have hV0 : w.heap.size + 1 ≤ V.heap.size := by omega
  clear hVs
  go_wp2_with fail
  refine (RE.out _ hbb).mono ?_
  rintro e w1 ⟨A1, m1, ca1, Q1, n1, cq1, l1, rfl, hb, hm1, hn1, hd1, hfd⟩
  have HM1 := Lib.hid hm1
  have HN1 := Lib.hid hn1
  have HD1 := Lib.hid hd1
  clear hm1 hn1 hd1
  replace hbb := keepB hbb hb
  replace B0 := B0.keep hb
  have hw1 := hb.size
  clear hb
  go_upto_region 2 with fail
  refine at_worldQ (fun v => Below w.heap.size w v ∧ BK v w.heap.size [.slice none 0 0] ∧ BK v w1.heap.size [.slice A1 m1 ca1, .slice Q1 n1 cq1, .int .i64 K, .int .i64 2, .int .i64 x, .int .i64 y, .bool b] ∧ FD v V.heap.size A1 ca1 l1 Q1 cq1 L ∧ w.heap.size + 1 ≤ v.heap.size) ⟨below_al hbb _, B0.al _, BK.new _ _ _, hfd.keep (below_al (Below.refl _ _) _), by simp only [World.size_alloc]; omega⟩ (fun V4 hS => ?_)
  clear hbb B0 hfd
  obtain ⟨hbb, B0, BX, hfd, hV4⟩ := hS
  have hX : w.heap.size + 1 ≤ w1.heap.size := by omega
  clear hw1
  generalize w1.heap.size = X at *
  generalize V.heap.size = BV at *
  go_upto_region 4 with fail
  clear e0
  have s0 := BX.c 0 rfl
  have s1 := BX.c 1 rfl
  have s2 := BX.c 2 rfl
  have s3 := BX.c 3 rfl
  have s4 := BX.c 4 rfl
  have s5 := BX.c 5 rfl
  have s6 := BX.c 6 rfl
  have dv := fun u (hu : IsCs u A1 l1) => DV.out A1 ca1 l1 Q1 n1 cq1 u hu HD1.out
  rw [← HM1.out] at dv
  have DVL := Lib.hid dv
  clear dv
  refine wp_region_noPanic ?_
  refine region_ordU (S := (GB (fun _ => False) V4)) (GB (fun k => k = w.heap.size) V4) 5 (by kernel_rfl) ((GB.refl _ _).drew) (fun hHeld => ?_)
  refine at_ordU (fun v => GB (fun _ => False) V4 v) hHeld (fun wa0 hNew => ?_)
  clear hHeld
  have hHeld := hNew
  clear hNew
  refine ordU_take (i := 0) (o := _) (v := ?va1) rfl (by kernel_rfl) (by kernel_rfl) (by kernel_rfl) (by kernel_rfl) (fun _ _ _ h => h) (Or.inl ⟨by kernel_rfl, ?hya1⟩) hHeld ?resta1
  case hya1 => (intro w hSw; have ks0 := hSw.cell (fun h => h) s0; have ks1 := hSw.cell (fun h => h) s1; have ks2 := hSw.cell (fun h => h) s2; have ks3 := hSw.cell (fun h => h) s3; have ks4 := hSw.cell (fun h => h) s4; have ks5 := hSw.cell (fun h => h) s5; have ks6 := hSw.cell (fun h => h) s6; go_simp; first | done | (with_reducible rfl))
  try simp only [Act.put, PA, PB]
  refine ordU_take2 (i := 2) (o := _) (v := ?va2) rfl (by kernel_rfl) (by kernel_rfl) (by kernel_rfl) (by decide) (fun  _ _ _ h => h) (Or.inl ⟨by kernel_rfl, ?hya2⟩) (Or.inl ⟨by kernel_rfl, ?hza2⟩) hHeld ?resta2
  case hya2 => (intro w hSw; go_simp; first | done | (with_reducible rfl))
  case hza2 => (intro w hSw; go_simp; first | done | (with_reducible rfl))
  try simp only [Act.put, PA, PB]
  refine ordU_take2 (i := 3) (o := _) (v := ?va3) rfl (by kernel_rfl) (by kernel_rfl) (by kernel_rfl) (by decide) (fun  _ _ _ h => h) (Or.inl ⟨by kernel_rfl, ?hya3⟩) (Or.inl ⟨by kernel_rfl, ?hza3⟩) hHeld ?resta3
  case hya3 => (intro w hSw; go_simp; first | done | (with_reducible rfl))
  case hza3 => (intro w hSw; go_simp; first | done | (with_reducible rfl))
  try simp only [Act.put, PA, PB]
  refine ordU_take2 (i := 4) (o := _) (v := ?va4) rfl (by kernel_rfl) (by kernel_rfl) (by kernel_rfl) (by decide) (fun  _ _ _ h => h) (Or.inl ⟨by kernel_rfl, ?hya4⟩) (Or.inl ⟨by kernel_rfl, ?hza4⟩) hHeld ?resta4
  case hya4 => (intro w hSw; have ks0 := hSw.cell (fun h => h) s0; have ks1 := hSw.cell (fun h => h) s1; have ks2 := hSw.cell (fun h => h) s2; have ks3 := hSw.cell (fun h => h) s3; have ks4 := hSw.cell (fun h => h) s4; have ks5 := hSw.cell (fun h => h) s5; have ks6 := hSw.cell (fun h => h) s6; go_simp; first | done | (with_reducible rfl))
  case hza4 => (intro w hSw; have ks0 := hSw.cell (by omega) s0; have ks1 := hSw.cell (by omega) s1; have ks2 := hSw.cell (by omega) s2; have ks3 := hSw.cell (by omega) s3; have ks4 := hSw.cell (by omega) s4; have ks5 := hSw.cell (by omega) s5; have ks6 := hSw.cell (by omega) s6; go_simp; first | done | (with_reducible rfl))
  try simp only [Act.put, PA, PB]
  refine ordU_ready (rs := [1]) (by kernel_rfl) (by simp) (ReadyU.cons (o := _) rfl (by decide) (fun K hK => ?_) ReadyU.nil)
  go_simp
  refine (DVL.out _ (hfd.keep (hHeld.toBelow (Below.refl _ _) (fun k hk => hk.elim) (Nat.le_refl _))).isCs).mono ?_
  rintro e wa5 hput
  unfold DivQ at hput
  obtain ⟨P, g0, g1, rfl, hb3, hdv⟩ := hput
  have hvw := hHeld.size
  replace hfd := (hfd.keep (hHeld.toBelow (Below.refl _ _) (fun k hk => hk.elim) (Nat.le_refl _))).keep hb3
  go_wp2_with fail
  refine hK.out _ _ (hHeld.below hb3) (fun hNew => ?_)
  clear hb3
  clear hHeld hK K
  have hHeld := hNew
  clear hNew
  try simp only [Act.put, PA, PB]
  refine ordU_at (by kernel_rfl) ?_
  replace B0 := B0.gb hHeld (fun h => h)
  replace hHeld : GB (fun k => k = w.heap.size) V4 wa5 := hHeld.weak (fun k hk => hk.elim)
  refine wpAnyH_ready (rs := [5]) (by kernel_rfl) (by simp) (AllReadyH.cons (o := _) rfl (fun K hK => ?_) AllReadyH.nil)
  have n0 := B0.c 0 rfl
  have f0 := B0.f 0 rfl
  go_simp
  clear n0 f0
  refine hK.out _ _ (hHeld.set (.inl rfl) _) (fun hNew => ?_)
  clear hHeld hK K
  have hHeld := hNew
  clear hNew
  try simp only [Act.put, PA, PB]
  refine at_anyH (fun v => GB (fun k => k = w.heap.size) V4 v ∧ BK v (w.heap.size) [.slice (some ⟨P, 0, none⟩) 2 2] ∧ DivB wa0.heap.size P g0 g1 a0 b0 c0 d0 a1 b1 c1 d1 v ∧ FD v BV A1 ca1 l1 Q1 cq1 L) ⟨hHeld, (B0.set 0 _), (hdv.set (by omega) _), (hfd.set (by omega) _)⟩ (fun wa6 hS => ?_)
  clear hHeld B0 hdv hfd
  obtain ⟨hHeld, B0, hdv, hfd⟩ := hS
  refine wpAnyH_take (i := 6) (oi := _) (v := ?va7) rfl (by kernel_rfl) (by kernel_rfl) (by kernel_rfl) (fun _ _ _ h => h) (Or.inl ⟨by kernel_rfl, ?hya7⟩) hHeld ?resta7
  case hya7 => (intro w hSw; go_simp; first | done | (with_reducible rfl))
  try simp only [Act.put, PA, PB]
  refine wpAnyH_take (i := 7) (oi := _) (v := ?va8) rfl (by kernel_rfl) (by kernel_rfl) (by kernel_rfl) (fun _ _ _ h => h) (Or.inl ⟨by kernel_rfl, ?hya8⟩) hHeld ?resta8
  case hya8 => (intro w hSw; go_simp; first | done | (with_reducible rfl))
  try simp only [Act.put, PA, PB]
  refine wpAnyH_done (by kernel_rfl) ?_ _
  refine NoPanic.normal ?_
  skip
  have hbb2 := hHeld.toBelow hbb (fun k hk => by omega) (by omega)
  have r0 := B0.c 0 rfl
  clear s0 s1 s2 s3 s4 s5 s6
  go_wp2_with fail
  exact bodyPost_ret (v := .tuple #[.agg #[.slice (some ⟨P, 0, none⟩) 2 2], .slice Q1 n1 cq1, .int .i64 0]) (by simp [results, Try.results33, go_sem, r0]) rfl ⟨P, g0, g1, A1, ca1, Q1, cq1, l1, n1, rfl, hbb2, HN1.out, hfd.mono (by omega), hdv.mono (by omega)⟩
/-- The desk of a state. -/
structure Vl (D : List CkD) (L : List Qr) (A : Option Addr) (m : Nat) (Q : Option Addr) (n : Nat) (l : List CkR) (w : World) : Prop where
  cs : IsCs w A l
  m : m = l.length
  d : l.map Ak.dat = D
  q : IsQs w Q L
  n : n = L.length
theorem Vl.keep {D : List CkD} {L : List Qr} {A : Option Addr} {m : Nat} {Q : Option Addr} {n : Nat} {l : List CkR} {w v : World} (h : Vl D L A m Q n l w) (hb : Below w.heap.size w v) : Vl D L A m Q n l v := ⟨h.cs.keep hb, h.m, h.d, h.q.keep hb, h.n⟩
section
variable {D : List CkD} {k j : Nat} {h1 h2 g1 g2 x y v1 v2 z : Int}
theorem Ch.Rn.check0 (R : Ch.Rn D k j h1 h2 g1 g2 x y v1 v2 z) (hc : Ak.chkS D 0 = 0) (hl : D.length = 2) (A : Option Addr) (m ca : Nat) (Q : Option Addr) (n cq : Nat) (l : List CkR) (w : World) (V : Vl D [] A m Q n l w) :
    Calls Try.prog 34 #[.agg #[.slice A m ca, .slice Q n cq, .int .i64 k, .int .i64 0, .int .i64 0, .int .i64 1, .bool false]] w fun e w' => e = .returned (.int .i64 0) ∧ Below w.heap.size w w' :=
  check_ok A m ca Q n cq k 0 0 1 false D [] l w V.cs V.m V.d V.q V.n (by simp) (Ch.chkS_up hc (by have := V.n; simp at this; omega)) (fun v hv => by
    have := R.reach hc hl 0 (by omega) A ca l v (V.cs.keep hv) V.d
    rw [← V.m] at this
    exact this)
theorem Ch.Rn.check1 (R : Ch.Rn D k j h1 h2 g1 g2 x y v1 v2 z) (hc : Ak.chkS D 0 = 0) (hl : D.length = 2) (A : Option Addr) (m ca : Nat) (Q : Option Addr) (n cq : Nat) (l : List CkR) (w : World) (V : Vl D [⟨k, 2, 0, 1, h1, h2, x, y⟩] A m Q n l w) :
    Calls Try.prog 34 #[.agg #[.slice A m ca, .slice Q n cq, .int .i64 k, .int .i64 1, .int .i64 x, .int .i64 y, .bool false]] w fun e w' => e = .returned (.int .i64 0) ∧ Below w.heap.size w w' :=
  check_ok A m ca Q n cq k 1 x y false D [⟨k, 2, 0, 1, h1, h2, x, y⟩] l w V.cs V.m V.d V.q V.n (by simp) (Ch.chkS_up hc (by have := V.n; simp at this; omega)) (fun v hv => by
    have := R.reach hc hl 1 (by omega) A ca l v (V.cs.keep hv) V.d
    rw [← V.m] at this
    exact this)
theorem Ch.Rn.check2 (R : Ch.Rn D k j h1 h2 g1 g2 x y v1 v2 z) (hc : Ak.chkS D 0 = 0) (hl : D.length = 2) (A : Option Addr) (m ca : Nat) (Q : Option Addr) (n cq : Nat) (l : List CkR) (w : World) (V : Vl D [⟨k, 2, 0, 1, h1, h2, x, y⟩, ⟨j, 1, 0, 1, x, y, v1, v2⟩] A m Q n l w) :
    Calls Try.prog 34 #[.agg #[.slice A m ca, .slice Q n cq, .int .i64 k, .int .i64 2, .int .i64 x, .int .i64 y, .bool (decide (0 ≤ z))]] w fun e w' => e = .returned (.int .i64 0) ∧ Below w.heap.size w w' :=
  check_ok A m ca Q n cq k 2 x y (decide (0 ≤ z)) D [⟨k, 2, 0, 1, h1, h2, x, y⟩, ⟨j, 1, 0, 1, x, y, v1, v2⟩] l w V.cs V.m V.d V.q V.n (by simp) (Ch.chkS_up hc (by have := V.n; simp at this; omega)) (fun v hv => by
    have := R.reach hc hl 2 (by omega) A ca l v (V.cs.keep hv) V.d
    rw [← V.m] at this
    exact this)
theorem Ch.Rn.next0 (R : Ch.Rn D k j h1 h2 g1 g2 x y v1 v2 z) (hc : Ak.chkS D 0 = 0) (hl : D.length = 2) (A : Option Addr) (m ca : Nat) (Q : Option Addr) (n cq : Nat) (l : List CkR) (w : World) (V : Vl D [] A m Q n l w) :
    Calls Try.prog 32 #[.agg #[.slice A m ca, .slice Q n cq, .int .i64 k, .int .i64 0, .int .i64 0, .int .i64 1, .bool false]] w (StR D [⟨k, 2, 0, 1, h1, h2, x, y⟩] k 1 x y false w) := by
  refine next_ok A m ca Q n cq k 0 0 1 false w D [⟨k, 2, 0, 1, h1, h2, x, y⟩] 1 x y false rfl (fun v hv => R.check0 hc hl A m ca Q n cq l v (V.keep hv)) (fun v hv => ?_)
  have := R.step0 hc hl A ca l Q cq v (V.cs.keep hv) V.d (V.q.keep hv)
  rw [← V.m, ← V.n] at this
  exact this
theorem Ch.Rn.next1 (R : Ch.Rn D k j h1 h2 g1 g2 x y v1 v2 z) (hc : Ak.chkS D 0 = 0) (hl : D.length = 2) (A : Option Addr) (m ca : Nat) (Q : Option Addr) (n cq : Nat) (l : List CkR) (w : World) (V : Vl D [⟨k, 2, 0, 1, h1, h2, x, y⟩] A m Q n l w) :
    Calls Try.prog 32 #[.agg #[.slice A m ca, .slice Q n cq, .int .i64 k, .int .i64 1, .int .i64 x, .int .i64 y, .bool false]] w (StR D [⟨k, 2, 0, 1, h1, h2, x, y⟩, ⟨j, 1, 0, 1, x, y, v1, v2⟩] k 2 x y (decide (0 ≤ z)) w) := by
  refine next_ok A m ca Q n cq k 1 x y false w D [⟨k, 2, 0, 1, h1, h2, x, y⟩, ⟨j, 1, 0, 1, x, y, v1, v2⟩] 2 x y (decide (0 ≤ z)) rfl (fun v hv => R.check1 hc hl A m ca Q n cq l v (V.keep hv)) (fun v hv => ?_)
  have := R.step1 hc hl _ A ca l Q cq v (V.cs.keep hv) V.d (V.q.keep hv)
  rw [← V.m, ← V.n] at this
  exact this
theorem Ch.Rn.next2 (R : Ch.Rn D k j h1 h2 g1 g2 x y v1 v2 z) (hc : Ak.chkS D 0 = 0) (hl : D.length = 2) (A : Option Addr) (m ca : Nat) (Q : Option Addr) (n cq : Nat) (l : List CkR) (w : World) (V : Vl D [⟨k, 2, 0, 1, h1, h2, x, y⟩, ⟨j, 1, 0, 1, x, y, v1, v2⟩] A m Q n l w) :
    Calls Try.prog 32 #[.agg #[.slice A m ca, .slice Q n cq, .int .i64 k, .int .i64 2, .int .i64 x, .int .i64 y, .bool (decide (0 ≤ z))]] w fun e w' => e = .returned (.tuple #[.agg #[.slice none 0 0, .slice none 0 0, .int .i64 0, .int .i64 0, .int .i64 0, .int .i64 0, .bool false], .int .i64 36]) ∧ Below w.heap.size w w' :=
  next_end A m ca Q n cq k x y (decide (0 ≤ z)) w (fun v hv => R.check2 hc hl A m ca Q n cq l v (V.keep hv))
theorem Ch.Rn.start (R : Ch.Rn D k j h1 h2 g1 g2 x y v1 v2 z) (hc : Ak.chkS D 0 = 0) (hl : D.length = 2) (A : Option Addr) (ca : Nat) (cs : List CkR) (w : World) (h : IsCs w A cs) (hD : cs.map Ak.dat = D) :
    Calls Try.prog 29 #[.slice A cs.length ca, .int .i64 k] w (StR D [] k 0 0 1 false w) :=
  start_ok A cs.length ca k 0 1 false D [] w (fun v hv => R.reach hc hl 0 (by omega) A ca cs v (h.keep hv) hD)
theorem Ch.Rn.divs (R : Ch.Rn D k j h1 h2 g1 g2 x y v1 v2 z) (hl : D.length = 2) : ∃ a0 b0 c0 d0 a1 b1 c1 d1 : Int, ∀ (A : Option Addr) (ca : Nat) (l : List CkR) (Q : Option Addr) (n cq : Nat) (v : World), IsCs v A l → l.map Ak.dat = D →
    Calls Try.prog 72 #[.agg #[.slice A l.length ca, .slice Q n cq, .int .i64 k, .int .i64 2, .int .i64 x, .int .i64 y, .bool (decide (0 ≤ z))]] v (DivQ a0 b0 c0 d0 a1 b1 c1 d1 v) := by
  have l2 : ∀ l : List CkR, l.map Ak.dat = D → l.length = 2 := fun l hd => by rw [← List.length_map (f := Ak.dat), hd]; exact hl
  rcases R.kj with ⟨rfl, rfl⟩ | ⟨rfl, rfl⟩ <;> by_cases hz : 0 ≤ z
  · rw [decide_eq_true hz]
    exact ⟨_, _, _, _, _, _, _, _, fun A ca l Q n cq v hi hd => divided0t A ca l Q n cq 2 x y (Ak.dAt D 0).1 v hi (l2 l hd) (cat0_len hd hl rfl)⟩
  · rw [decide_eq_false hz]
    exact ⟨_, _, _, _, _, _, _, _, fun A ca l Q n cq v hi hd => divided0f A ca l Q n cq 2 x y (Ak.dAt D 0).1 v hi (l2 l hd) (cat0_len hd hl rfl)⟩
  · rw [decide_eq_true hz]
    exact ⟨_, _, _, _, _, _, _, _, fun A ca l Q n cq v hi hd => divided1t A ca l Q n cq 2 x y (Ak.dAt D 0).1 v hi (l2 l hd) (cat0_len hd hl rfl)⟩
  · rw [decide_eq_false hz]
    exact ⟨_, _, _, _, _, _, _, _, fun A ca l Q n cq v hi hd => divided1f A ca l Q n cq 2 x y (Ak.dAt D 0).1 v hi (l2 l hd) (cat0_len hd hl rfl)⟩
end
end Go.Proofs.Ytnnpmegknlgkoaa
