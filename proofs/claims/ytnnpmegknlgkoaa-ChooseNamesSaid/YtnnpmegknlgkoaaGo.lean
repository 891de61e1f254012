/- Package choose: following. Package choose: reached. -/
import Derived.Test.YtnnpmegknlgkoaaChd
namespace Go.Proofs.Ytnnpmegknlgkoaa
open Go.RowKit
set_option linter.unusedSimpArgs false in
set_option maxHeartbeats 8000000 in
set_option maxRecDepth 100000 in
theorem following0 (A : Option Addr) (m ca : Nat) (Q : Option Addr) (n cq : Nat) (k x y : Int) (b : Bool) (D : List CkD) (L : List Qr) (k2 s2 x2 y2 : Int) (b2 : Bool) (w : World)
    (hf : ∀ v, Below w.heap.size w v → Calls Try.prog 104 #[.agg #[.slice A m ca, .slice Q n cq, .int .i64 k, .int .i64 0, .int .i64 x, .int .i64 y, .bool b]] v (StQ D L k2 s2 x2 y2 b2 v)) :
    Calls Try.prog 73 #[.agg #[.slice A m ca, .slice Q n cq, .int .i64 k, .int .i64 0, .int .i64 x, .int .i64 y, .bool b]] w (StQ D L k2 s2 x2 y2 b2 w) := by
  unfold StQ at hf ⊢
  have HF := Lib.hid hf
  clear hf
  go_enter Try.func73, Try.ntmps73
  go_upto_region 1 with fail
  refine at_worldQ (fun v => Below w.heap.size w v ∧ BK v (w.heap.size) [.slice A m ca, .slice Q n cq, .int .i64 k, .int .i64 0, .int .i64 x, .int .i64 y, .bool b] ∧ BK v (w.heap.size + 1) [.slice none 0 0, .slice none 0 0, .int .i64 0, .int .i64 0, .int .i64 0, .int .i64 0, .bool false] ∧ v.heap.size = w.heap.size + 2) ⟨(below_al (below_al (Below.refl _ _) _) _), (by have b := ((BK.new w [.slice A m ca, .slice Q n cq, .int .i64 k, .int .i64 0, .int .i64 x, .int .i64 y, .bool b] 62).al (.cells #[.slice none 0 0, .slice none 0 0, .int .i64 0, .int .i64 0, .int .i64 0, .int .i64 0, .bool false] 62)); simpa only [World.size_alloc] using b), (by have b := (BK.new (w.alloc (.cells #[.slice A m ca, .slice Q n cq, .int .i64 k, .int .i64 0, .int .i64 x, .int .i64 y, .bool b] 62)) [.slice none 0 0, .slice none 0 0, .int .i64 0, .int .i64 0, .int .i64 0, .int .i64 0, .bool false] 62); simpa only [World.size_alloc] using b), by simp only [World.size_alloc]⟩ (fun V hS => ?_)
  obtain ⟨hbb, B0, B1, hVs⟩ := hS
  have p0 := B0.c 0 rfl
  have p1 := B0.c 1 rfl
  have p2 := B0.c 2 rfl
  have p3 := B0.c 3 rfl
  have p4 := B0.c 4 rfl
  have p5 := B0.c 5 rfl
  have p6 := B0.c 6 rfl
  go_wp2_with fail
  refine (HF.out _ hbb).mono ?_
  rintro e w1 ⟨A2, m2, ca2, Q2, n2, cq2, l2, rfl, hb, hm2, hn2, hd2, hfd⟩
  have HM2 := Lib.hid hm2
  have HN2 := Lib.hid hn2
  have HD2 := Lib.hid hd2
  clear hm2 hn2 hd2 p0 p1 p2 p3 p4 p5 p6
  replace hbb := keepB hbb hb
  replace B1 := B1.keep hb
  clear hb B0
  have hlt := B1.lt
  have ya0 := B1.c 0 rfl
  have ya1 := B1.c 1 rfl
  have ya2 := B1.c 2 rfl
  have ya3 := B1.c 3 rfl
  have ya4 := B1.c 4 rfl
  have ya5 := B1.c 5 rfl
  have ya6 := B1.c 6 rfl
  have yb0 := B1.f 0 rfl
  have yb1 := B1.f 1 rfl
  have yb2 := B1.f 2 rfl
  have yb3 := B1.f 3 rfl
  have yb4 := B1.f 4 rfl
  have yb5 := B1.f 5 rfl
  have yb6 := B1.f 6 rfl
  go_wp2_with fail
  exact bodyPost_ret (v := .agg #[.slice A2 m2 ca2, .slice Q2 n2 cq2, .int .i64 k2, .int .i64 s2, .int .i64 x2, .int .i64 y2, .bool b2]) (by simp [results, Try.results73, go_sem, ya0, ya1, ya2, ya3, ya4, ya5, ya6]) rfl ⟨A2, m2, ca2, Q2, n2, cq2, l2, rfl, (below_set (below_set (below_set (below_set (below_set (below_set (below_set hbb (by omega) _) (by omega) _) (by omega) _) (by omega) _) (by omega) _) (by omega) _) (by omega) _), HM2.out, HN2.out, HD2.out, ((((((((hfd.set (by omega) _).set (by omega) _).set (by omega) _).set (by omega) _).set (by omega) _).set (by omega) _).set (by omega) _).mono (by omega))⟩
set_option linter.unusedSimpArgs false in
set_option maxHeartbeats 8000000 in
set_option maxRecDepth 100000 in
theorem following1 (A : Option Addr) (m ca : Nat) (Q : Option Addr) (n cq : Nat) (k x y : Int) (b : Bool) (D : List CkD) (L : List Qr) (k2 s2 x2 y2 : Int) (b2 : Bool) (w : World)
    (hf : ∀ v, Below w.heap.size w v → Calls Try.prog 105 #[.agg #[.slice A m ca, .slice Q n cq, .int .i64 k, .int .i64 1, .int .i64 x, .int .i64 y, .bool b]] v (StQ D L k2 s2 x2 y2 b2 v)) :
    Calls Try.prog 73 #[.agg #[.slice A m ca, .slice Q n cq, .int .i64 k, .int .i64 1, .int .i64 x, .int .i64 y, .bool b]] w (StQ D L k2 s2 x2 y2 b2 w) := by
  unfold StQ at hf ⊢
  have HF := Lib.hid hf
  clear hf
  go_enter Try.func73, Try.ntmps73
  go_upto_region 1 with fail
  refine at_worldQ (fun v => Below w.heap.size w v ∧ BK v (w.heap.size) [.slice A m ca, .slice Q n cq, .int .i64 k, .int .i64 1, .int .i64 x, .int .i64 y, .bool b] ∧ BK v (w.heap.size + 1) [.slice none 0 0, .slice none 0 0, .int .i64 0, .int .i64 0, .int .i64 0, .int .i64 0, .bool false] ∧ v.heap.size = w.heap.size + 2) ⟨(below_al (below_al (Below.refl _ _) _) _), (by have b := ((BK.new w [.slice A m ca, .slice Q n cq, .int .i64 k, .int .i64 1, .int .i64 x, .int .i64 y, .bool b] 62).al (.cells #[.slice none 0 0, .slice none 0 0, .int .i64 0, .int .i64 0, .int .i64 0, .int .i64 0, .bool false] 62)); simpa only [World.size_alloc] using b), (by have b := (BK.new (w.alloc (.cells #[.slice A m ca, .slice Q n cq, .int .i64 k, .int .i64 1, .int .i64 x, .int .i64 y, .bool b] 62)) [.slice none 0 0, .slice none 0 0, .int .i64 0, .int .i64 0, .int .i64 0, .int .i64 0, .bool false] 62); simpa only [World.size_alloc] using b), by simp only [World.size_alloc]⟩ (fun V hS => ?_)
  obtain ⟨hbb, B0, B1, hVs⟩ := hS
  have p0 := B0.c 0 rfl
  have p1 := B0.c 1 rfl
  have p2 := B0.c 2 rfl
  have p3 := B0.c 3 rfl
  have p4 := B0.c 4 rfl
  have p5 := B0.c 5 rfl
  have p6 := B0.c 6 rfl
  go_wp2_with fail
  refine (HF.out _ hbb).mono ?_
  rintro e w1 ⟨A2, m2, ca2, Q2, n2, cq2, l2, rfl, hb, hm2, hn2, hd2, hfd⟩
  have HM2 := Lib.hid hm2
  have HN2 := Lib.hid hn2
  have HD2 := Lib.hid hd2
  clear hm2 hn2 hd2 p0 p1 p2 p3 p4 p5 p6
  replace hbb := keepB hbb hb
  replace B1 := B1.keep hb
  clear hb B0
  have hlt := B1.lt
  have ya0 := B1.c 0 rfl
  have ya1 := B1.c 1 rfl
  have ya2 := B1.c 2 rfl
  have ya3 := B1.c 3 rfl
  have ya4 := B1.c 4 rfl
  have ya5 := B1.c 5 rfl
  have ya6 := B1.c 6 rfl
  have yb0 := B1.f 0 rfl
  have yb1 := B1.f 1 rfl
  have yb2 := B1.f 2 rfl
  have yb3 := B1.f 3 rfl
  have yb4 := B1.f 4 rfl
  have yb5 := B1.f 5 rfl
  have yb6 := B1.f 6 rfl
  go_wp2_with fail
  exact bodyPost_ret (v := .agg #[.slice A2 m2 ca2, .slice Q2 n2 cq2, .int .i64 k2, .int .i64 s2, .int .i64 x2, .int .i64 y2, .bool b2]) (by simp [results, Try.results73, go_sem, ya0, ya1, ya2, ya3, ya4, ya5, ya6]) rfl ⟨A2, m2, ca2, Q2, n2, cq2, l2, rfl, (below_set (below_set (below_set (below_set (below_set (below_set (below_set hbb (by omega) _) (by omega) _) (by omega) _) (by omega) _) (by omega) _) (by omega) _) (by omega) _), HM2.out, HN2.out, HD2.out, ((((((((hfd.set (by omega) _).set (by omega) _).set (by omega) _).set (by omega) _).set (by omega) _).set (by omega) _).set (by omega) _).mono (by omega))⟩
end Go.Proofs.Ytnnpmegknlgkoaa
namespace Go.Proofs.Ytnnpmegknlgkoaa
open Go.RowKit
/-- The state that is reached. -/
def StR (D : List CkD) (L : List Qr) (k s x y : Int) (b : Bool) (w : World) (e : Ending) (w' : World) : Prop :=
  ∃ (A : Option Addr) (m ca : Nat) (Q : Option Addr) (n cq : Nat) (l : List CkR), e = .returned (.tuple #[.agg #[.slice A m ca, .slice Q n cq, .int .i64 k, .int .i64 s, .int .i64 x, .int .i64 y, .bool b], .int .i64 0]) ∧ Below w.heap.size w w' ∧ m = l.length ∧ n = L.length ∧ l.map Ak.dat = D ∧ FD w' w.heap.size A ca l Q cq L
theorem StR.mk {D : List CkD} {L : List Qr} {k s x y : Int} {b : Bool} {w w' : World} {e : Ending} (A : Option Addr) (m ca : Nat) (Q : Option Addr) (n cq : Nat) (l : List CkR) (he : e = .returned (.tuple #[.agg #[.slice A m ca, .slice Q n cq, .int .i64 k, .int .i64 s, .int .i64 x, .int .i64 y, .bool b], .int .i64 0])) (hb : Below w.heap.size w w') (hm : m = l.length) (hn : n = L.length) (hd : l.map Ak.dat = D) (hf : FD w' w.heap.size A ca l Q cq L) : StR D L k s x y b w e w' :=
  ⟨A, m, ca, Q, n, cq, l, he, hb, hm, hn, hd, hf⟩
/-- The step that a box of a state holds. -/
def Ch.stepOf (W : World) (p : Nat) : Nat := match W.cell? ⟨p, 3, none⟩ with | some v => (intOf v).toNat | none => 0
theorem Ch.stepOf_bk {W : World} {p i : Nat} {l : List Value} (h : BK W p l) (e : l[3]? = some (.int .i64 (i : Nat)) := by rfl) : Ch.stepOf W p = i := by
  unfold Ch.stepOf
  rw [h.c 3 e]
  simp [intOf]
set_option linter.unusedSimpArgs false in
set_option maxHeartbeats 8000000 in
set_option maxRecDepth 100000 in
theorem reached_good (A : Option Addr) (ca : Nat) (cs : List CkR) (K : Int) (s : Nat) (D : List CkD) (Ls : Nat → List Qr) (xs ys : Nat → Int) (bs : Nat → Bool) (w : World) (h : IsCs w A cs) (hD : cs.map Ak.dat = D) (hc : Ak.chkS D 0 = 0) (hl : cs.length = 2) (hK : K = 0 ∨ K = 1) (h0 : Ls 0 = [] ∧ xs 0 = 0 ∧ ys 0 = 1 ∧ bs 0 = false)
    (hF : ∀ i, i < s → ∀ (A : Option Addr) (ca : Nat) (l : List CkR) (Q : Option Addr) (cq : Nat) (v : World), IsCs v A l → l.map Ak.dat = D → IsQs v Q (Ls i) →
      Calls Try.prog 73 #[.agg #[.slice A l.length ca, .slice Q (Ls i).length cq, .int .i64 K, .int .i64 (i : Nat), .int .i64 (xs i), .int .i64 (ys i), .bool (bs i)]] v (StQ D (Ls (i + 1)) K ((i + 1 : Nat) : Int) (xs (i + 1)) (ys (i + 1)) (bs (i + 1)) v)) :
    Calls Try.prog 71 #[.slice A cs.length ca, .int .i64 K, .int .i64 (s : Nat)] w (StR D (Ls s) K (s : Nat) (xs s) (ys s) (bs s) w) := by
  have op := fun v (hv : Below w.heap.size w v) => askOpen_any A ca cs v (h.keep hv)
  rw [hD] at op
  unfold OpenQ at op
  have wh := fun v => chwhole_any 0 v
  have e0 : ((0 : Int) != 0) = false := rfl
  have e2 : (((cs.length : Nat) : Int) != 2) = false := by rw [hl]; rfl
  have OP := Lib.hid op
  have WH := Lib.hid wh
  have HC := Lib.hid hc
  have HL0 := Lib.hid h0
  have HF := Lib.hid hF
  clear op wh hc h0 hF hD h hl
  rcases hK with rfl | rfl
  · go_enter Try.func71, Try.ntmps71
    go_upto_region 1 with fail
    refine at_worldQ (fun v => Below w.heap.size w v ∧ BK v (w.heap.size) [.slice none 0 0, .slice none 0 0, .int .i64 0, .int .i64 0, .int .i64 0, .int .i64 0, .bool false] ∧ v.heap.size = w.heap.size + 1) ⟨(below_al (Below.refl _ _) _), (by have b := (BK.new w [.slice none 0 0, .slice none 0 0, .int .i64 0, .int .i64 0, .int .i64 0, .int .i64 0, .bool false] 62); simpa only [World.size_alloc] using b), by simp only [World.size_alloc]⟩ (fun V hS => ?_)
    obtain ⟨hbb, B0, hVs⟩ := hS
    go_wp2_with fail
    refine (OP.out _ hbb).mono ?_
    rintro e w1 ⟨hb, ⟨hn, _⟩ | ⟨_, A1, ca1, l1, Q1, cq1, rfl, hd1, hfd⟩⟩
    · exact absurd HC.out hn
    obtain ⟨m1, hm1⟩ : ∃ m, l1.length = m := ⟨_, rfl⟩
    rw [hm1]
    have HM1 := Lib.hid hm1
    have HD1 := Lib.hid hd1
    clear hm1 hd1
    replace hbb := keepB hbb hb
    replace B0 := B0.keep hb
    have hw1 := hb.size
    clear hb
    go_upto_region 2 with fail
    refine at_worldQ (fun v => Below w.heap.size w v ∧ BK v w.heap.size [.slice none 0 0, .slice none 0 0, .int .i64 0, .int .i64 0, .int .i64 0, .int .i64 0, .bool false] ∧ BK v w1.heap.size [.slice A1 m1 ca1, .slice Q1 0 cq1] ∧ FD v V.heap.size A1 ca1 l1 Q1 cq1 []) ⟨below_al hbb _, B0.al _, BK.new _ _ _, hfd.keep (below_al (Below.refl _ _) _)⟩ (fun V6 hS => ?_)
    clear hbb B0 hfd
    obtain ⟨hbb, B0, BD, hfd⟩ := hS
    go_upto_region 6 with fail
    have d0 := BD.c 0 rfl
    have d1 := BD.c 1 rfl
    go_cut [10] (fun x v => ∃ p : Nat, x = .pointer (some ⟨p, 0, none⟩) ∧ BK v p [.slice A1 m1 ca1, .slice Q1 0 cq1, .int .i64 0, .int .i64 0, .int .i64 0, .int .i64 1, .bool false] ∧ V6.heap.size ≤ p ∧ Below V6.heap.size V6 v)
    case first =>
      refine wp_region_held_drew (S := (GB (fun _ => False) V6)) (by kernel_rfl) ((GB.refl _ _).drew) (fun hHeld => ?_)
      refine at_anyH (fun v => GB (fun _ => False) V6 v) hHeld (fun wa0 hNew => ?_)
      clear hHeld
      have hHeld := hNew
      clear hNew
      refine wpAnyH_take (i := 0) (oi := _) (v := ?va1) rfl (by kernel_rfl) (by kernel_rfl) (by kernel_rfl) (fun _ _ _ h => h) (Or.inl ⟨by kernel_rfl, ?hya1⟩) hHeld ?resta1
      case hya1 => (intro w hSw; have kd0 := hSw.cell (fun h => h) d0; have kd1 := hSw.cell (fun h => h) d1; go_simp; first | done | (with_reducible rfl))
      try simp only [Act.put, PA, PB]
      refine wpAnyH_take (i := 1) (oi := _) (v := ?va2) rfl (by kernel_rfl) (by kernel_rfl) (by kernel_rfl) (fun _ _ _ h => h) (Or.inl ⟨by kernel_rfl, ?hya2⟩) hHeld ?resta2
      case hya2 => (intro w hSw; go_simp; first | done | (with_reducible rfl))
      try simp only [Act.put, PA, PB]
      refine wpAnyH_ready (rs := [2, 4]) (by kernel_rfl) (by simp) (AllReadyH.cons (o := _) rfl (fun K hK => ?_) (AllReadyH.cons (o := _) rfl (fun K hK => ?_) AllReadyH.nil))
      ·
        go_simp
        refine (WH.out _).mono ?_
        rintro e wa3 ⟨rfl, hb3⟩
        go_wp2_with fail
        refine hK.out _ _ (hHeld.below hb3) (fun hNew => ?_)
        clear hb3
        clear hHeld hK K
        have hHeld := hNew
        clear hNew
        try simp only [Act.put, PA, PB]
        refine wpAnyH_take (i := 3) (oi := _) (v := ?va4) rfl (by kernel_rfl) (by kernel_rfl) (by kernel_rfl) (fun _ _ _ h => h) (Or.inl ⟨by kernel_rfl, ?hya4⟩) hHeld ?resta4
        case hya4 => (intro w hSw; go_simp; first | done | (with_reducible rfl))
        try simp only [Act.put, PA, PB]
        refine wpAnyH_ready (rs := [4]) (by kernel_rfl) (by simp) (AllReadyH.cons (o := _) rfl (fun K hK => ?_) AllReadyH.nil)
        go_simp
        refine hK.out _ _ (hHeld.al _) (fun hNew => ?_)
        have hX : V6.heap.size ≤ wa3.heap.size := hHeld.size
        clear hHeld hK K
        have hHeld := hNew
        clear hNew
        try simp only [Act.put, PA, PB]
        refine at_anyH (fun v => GB (fun _ => False) V6 v ∧ BK v (wa3.heap.size) [.slice none 0 0, .slice none 0 0, .int .i64 0, .int .i64 0, .int .i64 0, .int .i64 0, .bool false]) ⟨hHeld, BK.new _ _ _⟩ (fun wa5 hS => ?_)
        clear hHeld
        obtain ⟨hHeld, BX⟩ := hS
        refine wpAnyH_ready (rs := [5]) (by kernel_rfl) (by simp) (AllReadyH.cons (o := _) rfl (fun K hK => ?_) AllReadyH.nil)
        have n0 := BX.c 0 rfl
        have f0 := BX.f 0 rfl
        have n1 := BX.c 1 rfl
        have f1 := BX.f 1 rfl
        have n2 := BX.c 2 rfl
        have f2 := BX.f 2 rfl
        have n3 := BX.c 3 rfl
        have f3 := BX.f 3 rfl
        have n4 := BX.c 4 rfl
        have f4 := BX.f 4 rfl
        have n5 := BX.c 5 rfl
        have f5 := BX.f 5 rfl
        have n6 := BX.c 6 rfl
        have f6 := BX.f 6 rfl
        go_simp
        clear n0 f0 n1 f1 n2 f2 n3 f3 n4 f4 n5 f5 n6 f6
        refine hK.out _ _ (((((((hHeld.set (.inr hX) _).set (.inr hX) _).set (.inr hX) _).set (.inr hX) _).set (.inr hX) _).set (.inr hX) _).set (.inr hX) _) (fun hNew => ?_)
        clear hHeld hK K
        have hHeld := hNew
        clear hNew
        try simp only [Act.put, PA, PB]
        refine at_anyH (fun v => GB (fun _ => False) V6 v ∧ BK v (wa3.heap.size) [.slice A1 m1 ca1, .slice Q1 0 cq1, .int .i64 0, .int .i64 0, .int .i64 0, .int .i64 1, .bool false]) ⟨hHeld, (((((((BX.set 0 _).set 1 _).set 2 _).set 3 _).set 4 _).set 5 _).set 6 _)⟩ (fun wa6 hS => ?_)
        clear hHeld BX
        obtain ⟨hHeld, BX⟩ := hS
        refine wpAnyH_done (by kernel_rfl) ?_ _
        go_wp2_with fail
        go_meet
        exact ⟨_, rfl, BX, hX, hHeld.toBelow (Below.refl _ _) (fun k hk => hk.elim) (Nat.le_refl _)⟩
      ·
        go_simp
        refine hK.out _ _ (hHeld.al _) (fun hNew => ?_)
        have hX : V6.heap.size ≤ wa0.heap.size := hHeld.size
        clear hHeld hK K
        have hHeld := hNew
        clear hNew
        try simp only [Act.put, PA, PB]
        refine at_anyH (fun v => GB (fun _ => False) V6 v ∧ BK v (wa0.heap.size) [.slice none 0 0, .slice none 0 0, .int .i64 0, .int .i64 0, .int .i64 0, .int .i64 0, .bool false]) ⟨hHeld, BK.new _ _ _⟩ (fun wa7 hS => ?_)
        clear hHeld
        obtain ⟨hHeld, BX⟩ := hS
        refine wpAnyH_ready (rs := [2]) (by kernel_rfl) (by simp) (AllReadyH.cons (o := _) rfl (fun K hK => ?_) AllReadyH.nil)
        go_simp
        refine (WH.out _).mono ?_
        rintro e wa8 ⟨rfl, hb3⟩
        go_wp2_with fail
        refine hK.out _ _ (hHeld.below hb3) (fun hNew => ?_)
        replace BX := BX.keep hb3
        clear hb3
        clear hHeld hK K
        have hHeld := hNew
        clear hNew
        try simp only [Act.put, PA, PB]
        refine wpAnyH_take (i := 3) (oi := _) (v := ?va9) rfl (by kernel_rfl) (by kernel_rfl) (by kernel_rfl) (fun _ _ _ h => h) (Or.inl ⟨by kernel_rfl, ?hya9⟩) hHeld ?resta9
        case hya9 => (intro w hSw; go_simp; first | done | (with_reducible rfl))
        try simp only [Act.put, PA, PB]
        refine wpAnyH_ready (rs := [5]) (by kernel_rfl) (by simp) (AllReadyH.cons (o := _) rfl (fun K hK => ?_) AllReadyH.nil)
        have n0 := BX.c 0 rfl
        have f0 := BX.f 0 rfl
        have n1 := BX.c 1 rfl
        have f1 := BX.f 1 rfl
        have n2 := BX.c 2 rfl
        have f2 := BX.f 2 rfl
        have n3 := BX.c 3 rfl
        have f3 := BX.f 3 rfl
        have n4 := BX.c 4 rfl
        have f4 := BX.f 4 rfl
        have n5 := BX.c 5 rfl
        have f5 := BX.f 5 rfl
        have n6 := BX.c 6 rfl
        have f6 := BX.f 6 rfl
        go_simp
        clear n0 f0 n1 f1 n2 f2 n3 f3 n4 f4 n5 f5 n6 f6
        refine hK.out _ _ (((((((hHeld.set (.inr hX) _).set (.inr hX) _).set (.inr hX) _).set (.inr hX) _).set (.inr hX) _).set (.inr hX) _).set (.inr hX) _) (fun hNew => ?_)
        clear hHeld hK K
        have hHeld := hNew
        clear hNew
        try simp only [Act.put, PA, PB]
        refine at_anyH (fun v => GB (fun _ => False) V6 v ∧ BK v (wa0.heap.size) [.slice A1 m1 ca1, .slice Q1 0 cq1, .int .i64 0, .int .i64 0, .int .i64 0, .int .i64 1, .bool false]) ⟨hHeld, (((((((BX.set 0 _).set 1 _).set 2 _).set 3 _).set 4 _).set 5 _).set 6 _)⟩ (fun wa10 hS => ?_)
        clear hHeld BX
        obtain ⟨hHeld, BX⟩ := hS
        refine wpAnyH_done (by kernel_rfl) ?_ _
        go_wp2_with fail
        go_meet
        exact ⟨_, rfl, BX, hX, hHeld.toBelow (Below.refl _ _) (fun k hk => hk.elim) (Nat.le_refl _)⟩
    case rest =>
      obtain ⟨p10, rfl, BX, hp10, hb⟩ := hcut
      have hv6 := hbb.size
      have hl6 := B0.lt
      replace hbb := keepB hbb hb
      replace B0 := B0.keep hb
      replace hfd := hfd.keep hb
      clear hb d0 d1 BD e0 e2
      go_wp2_with fail
      go_loopw [] (fun W => ∃ (i : Nat) (A2 : Option Addr) (ca2 : Nat) (l2 : List CkR) (Q2 : Option Addr) (cq2 : Nat), i ≤ s ∧ BK W p10 [.slice A2 l2.length ca2, .slice Q2 (Ls i).length cq2, .int .i64 0, .int .i64 (i : Nat), .int .i64 (xs i), .int .i64 (ys i), .bool (bs i)] ∧ l2.map Ak.dat = D ∧ FD W (w.heap.size + 1) A2 ca2 l2 Q2 cq2 (Ls i) ∧ BK W w.heap.size [.slice none 0 0, .slice none 0 0, .int .i64 0, .int .i64 0, .int .i64 0, .int .i64 0, .bool false] ∧ Below w.heap.size w W) (fun W => s - Ch.stepOf W p10)
      case atStart =>
        refine ⟨0, A1, ca1, l1, Q1, cq1, Nat.zero_le _, ?_, HD1.out, ?_, B0, hbb⟩
        · rw [HL0.out.1, HL0.out.2.1, HL0.out.2.2.1, HL0.out.2.2.2, HM1.out]
          exact BX
        · rw [HL0.out.1]
          exact hfd.mono (by omega)
      case round =>
        obtain ⟨i, A2, ca2, l2, Q2, cq2, hi, BX, hd2, hfd, B0, hbb⟩ := hrel
        obtain ⟨x2, hx2⟩ : ∃ z, xs i = z := ⟨_, rfl⟩
        obtain ⟨y2, hy2⟩ : ∃ z, ys i = z := ⟨_, rfl⟩
        obtain ⟨b2, hb2⟩ : ∃ z, bs i = z := ⟨_, rfl⟩
        obtain ⟨n2, hn2⟩ : ∃ z, (Ls i).length = z := ⟨_, rfl⟩
        obtain ⟨m2, hm2⟩ : ∃ z, l2.length = z := ⟨_, rfl⟩
        rw [hx2, hy2, hb2, hn2, hm2] at BX
        have HX2 := Lib.hid hx2
        have HY2 := Lib.hid hy2
        have HB2 := Lib.hid hb2
        have HN2 := Lib.hid hn2
        have HM2 := Lib.hid hm2
        have HD2 := Lib.hid hd2
        have hst := Ch.stepOf_bk BX
        clear hx2 hy2 hb2 hn2 hm2 hd2
        have hlt0 := B0.lt
        have hltX := BX.lt
        have xa0 := BX.c 0 rfl
        have xa1 := BX.c 1 rfl
        have xa2 := BX.c 2 rfl
        have xa3 := BX.c 3 rfl
        have xa4 := BX.c 4 rfl
        have xa5 := BX.c 5 rfl
        have xa6 := BX.c 6 rfl
        by_cases hlt : i < s
        · have i2 : (i : Int) < (s : Int) := by omega
          have HFi := HF.out i hlt A2 ca2 l2 Q2 cq2 _ hfd.isCs HD2.out hfd.isQs
          rw [HX2.out, HY2.out, HB2.out, HN2.out, HM2.out] at HFi
          have HFI := Lib.hid HFi
          have HST := Lib.hid hst
          clear HFi hst
          go_upto_region 8 with fail
          clear i2
          go_wp2_with fail
          refine (HFI.out).mono ?_
          unfold StQ
          rintro e w4 ⟨A3, m3, ca3, Q3, n3, cq3, l3, rfl, hb, hm3, hn3, hd3, hfd3⟩
          have HM3 := Lib.hid hm3
          have HN3 := Lib.hid hn3
          have HD3 := Lib.hid hd3
          clear hm3 hn3 hd3 xa0 xa1 xa2 xa3 xa4 xa5 xa6 HFI hfd
          replace BX := BX.keep hb
          replace B0 := B0.keep hb
          replace hbb := keepB hbb hb
          clear hb
          have xa0 := BX.c 0 rfl
          have xa1 := BX.c 1 rfl
          have xa2 := BX.c 2 rfl
          have xa3 := BX.c 3 rfl
          have xa4 := BX.c 4 rfl
          have xa5 := BX.c 5 rfl
          have xa6 := BX.c 6 rfl
          have xb0 := BX.f 0 rfl
          have xb1 := BX.f 1 rfl
          have xb2 := BX.f 2 rfl
          have xb3 := BX.f 3 rfl
          have xb4 := BX.f 4 rfl
          have xb5 := BX.f 5 rfl
          have xb6 := BX.f 6 rfl
          go_wp2_with fail
          go_roundw
          case rel => exact ⟨i + 1, A3, ca3, l3, Q3, cq3, hlt, by rw [← HM3.out, ← HN3.out]; exact ((((((BX.set 0 _).set 1 _).set 2 _).set 3 _).set 4 _).set 5 _).set 6 _, HD3.out, ((((((((hfd3.set (by omega) _).set (by omega) _).set (by omega) _).set (by omega) _).set (by omega) _).set (by omega) _).set (by omega) _).mono (by omega)), (((((((B0.far (by omega) _ _).far (by omega) _ _).far (by omega) _ _).far (by omega) _ _).far (by omega) _ _).far (by omega) _ _).far (by omega) _ _), (below_set (below_set (below_set (below_set (below_set (below_set (below_set hbb (by omega) _) (by omega) _) (by omega) _) (by omega) _) (by omega) _) (by omega) _) (by omega) _)⟩
          case measure => exact Nat.lt_of_le_of_lt (Nat.le_of_eq (congrArg (fun t => s - t) (Ch.stepOf_bk (i := i + 1) (show BK _ p10 [.slice A3 m3 ca3, .slice Q3 n3 cq3, .int .i64 0, .int .i64 ((i + 1 : Nat) : Int), .int .i64 (xs (i + 1)), .int .i64 (ys (i + 1)), .bool (bs (i + 1))] from ((((((BX.set 0 _).set 1 _).set 2 _).set 3 _).set 4 _).set 5 _).set 6 _) rfl))) (by rw [HST.out]; omega)
        · have i2 : ¬ (i : Int) < (s : Int) := by omega
          obtain rfl : i = s := by omega
          clear hst hlt
          have ya0 := B0.c 0 rfl
          have ya1 := B0.c 1 rfl
          have ya2 := B0.c 2 rfl
          have ya3 := B0.c 3 rfl
          have ya4 := B0.c 4 rfl
          have ya5 := B0.c 5 rfl
          have ya6 := B0.c 6 rfl
          have yb0 := B0.f 0 rfl
          have yb1 := B0.f 1 rfl
          have yb2 := B0.f 2 rfl
          have yb3 := B0.f 3 rfl
          have yb4 := B0.f 4 rfl
          have yb5 := B0.f 5 rfl
          have yb6 := B0.f 6 rfl
          go_wp2_with fail
          exact bodyPost_ret (v := .tuple #[.agg #[.slice A2 m2 ca2, .slice Q2 n2 cq2, .int .i64 0, .int .i64 (i : Nat), .int .i64 x2, .int .i64 y2, .bool b2], .int .i64 0]) (by simp [results, Try.results71, go_sem, ya0, ya1, ya2, ya3, ya4, ya5, ya6]) rfl (StR.mk A2 m2 ca2 Q2 n2 cq2 l2 (by rw [HX2.out, HY2.out, HB2.out]) (below_set (below_set (below_set (below_set (below_set (below_set (below_set hbb (by omega) _) (by omega) _) (by omega) _) (by omega) _) (by omega) _) (by omega) _) (by omega) _) HM2.out.symm HN2.out.symm HD2.out ((((((((hfd.set (by omega) _).set (by omega) _).set (by omega) _).set (by omega) _).set (by omega) _).set (by omega) _).set (by omega) _).mono (by omega)))

  · go_enter Try.func71, Try.ntmps71
    go_upto_region 1 with fail
    refine at_worldQ (fun v => Below w.heap.size w v ∧ BK v (w.heap.size) [.slice none 0 0, .slice none 0 0, .int .i64 0, .int .i64 0, .int .i64 0, .int .i64 0, .bool false] ∧ v.heap.size = w.heap.size + 1) ⟨(below_al (Below.refl _ _) _), (by have b := (BK.new w [.slice none 0 0, .slice none 0 0, .int .i64 0, .int .i64 0, .int .i64 0, .int .i64 0, .bool false] 62); simpa only [World.size_alloc] using b), by simp only [World.size_alloc]⟩ (fun V hS => ?_)
    obtain ⟨hbb, B0, hVs⟩ := hS
    go_wp2_with fail
    refine (OP.out _ hbb).mono ?_
    rintro e w1 ⟨hb, ⟨hn, _⟩ | ⟨_, A1, ca1, l1, Q1, cq1, rfl, hd1, hfd⟩⟩
    · exact absurd HC.out hn
    obtain ⟨m1, hm1⟩ : ∃ m, l1.length = m := ⟨_, rfl⟩
    rw [hm1]
    have HM1 := Lib.hid hm1
    have HD1 := Lib.hid hd1
    clear hm1 hd1
    replace hbb := keepB hbb hb
    replace B0 := B0.keep hb
    have hw1 := hb.size
    clear hb
    go_upto_region 2 with fail
    refine at_worldQ (fun v => Below w.heap.size w v ∧ BK v w.heap.size [.slice none 0 0, .slice none 0 0, .int .i64 0, .int .i64 0, .int .i64 0, .int .i64 0, .bool false] ∧ BK v w1.heap.size [.slice A1 m1 ca1, .slice Q1 0 cq1] ∧ FD v V.heap.size A1 ca1 l1 Q1 cq1 []) ⟨below_al hbb _, B0.al _, BK.new _ _ _, hfd.keep (below_al (Below.refl _ _) _)⟩ (fun V6 hS => ?_)
    clear hbb B0 hfd
    obtain ⟨hbb, B0, BD, hfd⟩ := hS
    go_upto_region 6 with fail
    have d0 := BD.c 0 rfl
    have d1 := BD.c 1 rfl
    go_cut [10] (fun x v => ∃ p : Nat, x = .pointer (some ⟨p, 0, none⟩) ∧ BK v p [.slice A1 m1 ca1, .slice Q1 0 cq1, .int .i64 1, .int .i64 0, .int .i64 0, .int .i64 1, .bool false] ∧ V6.heap.size ≤ p ∧ Below V6.heap.size V6 v)
    case first =>
      refine wp_region_held_drew (S := (GB (fun _ => False) V6)) (by kernel_rfl) ((GB.refl _ _).drew) (fun hHeld => ?_)
      refine at_anyH (fun v => GB (fun _ => False) V6 v) hHeld (fun wa0 hNew => ?_)
      clear hHeld
      have hHeld := hNew
      clear hNew
      refine wpAnyH_take (i := 0) (oi := _) (v := ?va11) rfl (by kernel_rfl) (by kernel_rfl) (by kernel_rfl) (fun _ _ _ h => h) (Or.inl ⟨by kernel_rfl, ?hya11⟩) hHeld ?resta11
      case hya11 => (intro w hSw; have kd0 := hSw.cell (fun h => h) d0; have kd1 := hSw.cell (fun h => h) d1; go_simp; first | done | (with_reducible rfl))
      try simp only [Act.put, PA, PB]
      refine wpAnyH_take (i := 1) (oi := _) (v := ?va12) rfl (by kernel_rfl) (by kernel_rfl) (by kernel_rfl) (fun _ _ _ h => h) (Or.inl ⟨by kernel_rfl, ?hya12⟩) hHeld ?resta12
      case hya12 => (intro w hSw; go_simp; first | done | (with_reducible rfl))
      try simp only [Act.put, PA, PB]
      refine wpAnyH_ready (rs := [2, 4]) (by kernel_rfl) (by simp) (AllReadyH.cons (o := _) rfl (fun K hK => ?_) (AllReadyH.cons (o := _) rfl (fun K hK => ?_) AllReadyH.nil))
      ·
        go_simp
        refine (WH.out _).mono ?_
        rintro e wa13 ⟨rfl, hb3⟩
        go_wp2_with fail
        refine hK.out _ _ (hHeld.below hb3) (fun hNew => ?_)
        clear hb3
        clear hHeld hK K
        have hHeld := hNew
        clear hNew
        try simp only [Act.put, PA, PB]
        refine wpAnyH_take (i := 3) (oi := _) (v := ?va14) rfl (by kernel_rfl) (by kernel_rfl) (by kernel_rfl) (fun _ _ _ h => h) (Or.inl ⟨by kernel_rfl, ?hya14⟩) hHeld ?resta14
        case hya14 => (intro w hSw; go_simp; first | done | (with_reducible rfl))
        try simp only [Act.put, PA, PB]
        refine wpAnyH_ready (rs := [4]) (by kernel_rfl) (by simp) (AllReadyH.cons (o := _) rfl (fun K hK => ?_) AllReadyH.nil)
        go_simp
        refine hK.out _ _ (hHeld.al _) (fun hNew => ?_)
        have hX : V6.heap.size ≤ wa13.heap.size := hHeld.size
        clear hHeld hK K
        have hHeld := hNew
        clear hNew
        try simp only [Act.put, PA, PB]
        refine at_anyH (fun v => GB (fun _ => False) V6 v ∧ BK v (wa13.heap.size) [.slice none 0 0, .slice none 0 0, .int .i64 0, .int .i64 0, .int .i64 0, .int .i64 0, .bool false]) ⟨hHeld, BK.new _ _ _⟩ (fun wa15 hS => ?_)
        clear hHeld
        obtain ⟨hHeld, BX⟩ := hS
        refine wpAnyH_ready (rs := [5]) (by kernel_rfl) (by simp) (AllReadyH.cons (o := _) rfl (fun K hK => ?_) AllReadyH.nil)
        have n0 := BX.c 0 rfl
        have f0 := BX.f 0 rfl
        have n1 := BX.c 1 rfl
        have f1 := BX.f 1 rfl
        have n2 := BX.c 2 rfl
        have f2 := BX.f 2 rfl
        have n3 := BX.c 3 rfl
        have f3 := BX.f 3 rfl
        have n4 := BX.c 4 rfl
        have f4 := BX.f 4 rfl
        have n5 := BX.c 5 rfl
        have f5 := BX.f 5 rfl
        have n6 := BX.c 6 rfl
        have f6 := BX.f 6 rfl
        go_simp
        clear n0 f0 n1 f1 n2 f2 n3 f3 n4 f4 n5 f5 n6 f6
        refine hK.out _ _ (((((((hHeld.set (.inr hX) _).set (.inr hX) _).set (.inr hX) _).set (.inr hX) _).set (.inr hX) _).set (.inr hX) _).set (.inr hX) _) (fun hNew => ?_)
        clear hHeld hK K
        have hHeld := hNew
        clear hNew
        try simp only [Act.put, PA, PB]
        refine at_anyH (fun v => GB (fun _ => False) V6 v ∧ BK v (wa13.heap.size) [.slice A1 m1 ca1, .slice Q1 0 cq1, .int .i64 1, .int .i64 0, .int .i64 0, .int .i64 1, .bool false]) ⟨hHeld, (((((((BX.set 0 _).set 1 _).set 2 _).set 3 _).set 4 _).set 5 _).set 6 _)⟩ (fun wa16 hS => ?_)
        clear hHeld BX
        obtain ⟨hHeld, BX⟩ := hS
        refine wpAnyH_done (by kernel_rfl) ?_ _
        go_wp2_with fail
        go_meet
        exact ⟨_, rfl, BX, hX, hHeld.toBelow (Below.refl _ _) (fun k hk => hk.elim) (Nat.le_refl _)⟩
      ·
        go_simp
        refine hK.out _ _ (hHeld.al _) (fun hNew => ?_)
        have hX : V6.heap.size ≤ wa0.heap.size := hHeld.size
        clear hHeld hK K
        have hHeld := hNew
        clear hNew
        try simp only [Act.put, PA, PB]
        refine at_anyH (fun v => GB (fun _ => False) V6 v ∧ BK v (wa0.heap.size) [.slice none 0 0, .slice none 0 0, .int .i64 0, .int .i64 0, .int .i64 0, .int .i64 0, .bool false]) ⟨hHeld, BK.new _ _ _⟩ (fun wa17 hS => ?_)
        clear hHeld
        obtain ⟨hHeld, BX⟩ := hS
        refine wpAnyH_ready (rs := [2]) (by kernel_rfl) (by simp) (AllReadyH.cons (o := _) rfl (fun K hK => ?_) AllReadyH.nil)
        go_simp
        refine (WH.out _).mono ?_
        rintro e wa18 ⟨rfl, hb3⟩
        go_wp2_with fail
        refine hK.out _ _ (hHeld.below hb3) (fun hNew => ?_)
        replace BX := BX.keep hb3
        clear hb3
        clear hHeld hK K
        have hHeld := hNew
        clear hNew
        try simp only [Act.put, PA, PB]
        refine wpAnyH_take (i := 3) (oi := _) (v := ?va19) rfl (by kernel_rfl) (by kernel_rfl) (by kernel_rfl) (fun _ _ _ h => h) (Or.inl ⟨by kernel_rfl, ?hya19⟩) hHeld ?resta19
        case hya19 => (intro w hSw; go_simp; first | done | (with_reducible rfl))
        try simp only [Act.put, PA, PB]
        refine wpAnyH_ready (rs := [5]) (by kernel_rfl) (by simp) (AllReadyH.cons (o := _) rfl (fun K hK => ?_) AllReadyH.nil)
        have n0 := BX.c 0 rfl
        have f0 := BX.f 0 rfl
        have n1 := BX.c 1 rfl
        have f1 := BX.f 1 rfl
        have n2 := BX.c 2 rfl
        have f2 := BX.f 2 rfl
        have n3 := BX.c 3 rfl
        have f3 := BX.f 3 rfl
        have n4 := BX.c 4 rfl
        have f4 := BX.f 4 rfl
        have n5 := BX.c 5 rfl
        have f5 := BX.f 5 rfl
        have n6 := BX.c 6 rfl
        have f6 := BX.f 6 rfl
        go_simp
        clear n0 f0 n1 f1 n2 f2 n3 f3 n4 f4 n5 f5 n6 f6
        refine hK.out _ _ (((((((hHeld.set (.inr hX) _).set (.inr hX) _).set (.inr hX) _).set (.inr hX) _).set (.inr hX) _).set (.inr hX) _).set (.inr hX) _) (fun hNew => ?_)
        clear hHeld hK K
        have hHeld := hNew
        clear hNew
        try simp only [Act.put, PA, PB]
        refine at_anyH (fun v => GB (fun _ => False) V6 v ∧ BK v (wa0.heap.size) [.slice A1 m1 ca1, .slice Q1 0 cq1, .int .i64 1, .int .i64 0, .int .i64 0, .int .i64 1, .bool false]) ⟨hHeld, (((((((BX.set 0 _).set 1 _).set 2 _).set 3 _).set 4 _).set 5 _).set 6 _)⟩ (fun wa20 hS => ?_)
        clear hHeld BX
        obtain ⟨hHeld, BX⟩ := hS
        refine wpAnyH_done (by kernel_rfl) ?_ _
        go_wp2_with fail
        go_meet
        exact ⟨_, rfl, BX, hX, hHeld.toBelow (Below.refl _ _) (fun k hk => hk.elim) (Nat.le_refl _)⟩
    case rest =>
      obtain ⟨p10, rfl, BX, hp10, hb⟩ := hcut
      have hv6 := hbb.size
      have hl6 := B0.lt
      replace hbb := keepB hbb hb
      replace B0 := B0.keep hb
      replace hfd := hfd.keep hb
      clear hb d0 d1 BD e0 e2
      go_wp2_with fail
      go_loopw [] (fun W => ∃ (i : Nat) (A2 : Option Addr) (ca2 : Nat) (l2 : List CkR) (Q2 : Option Addr) (cq2 : Nat), i ≤ s ∧ BK W p10 [.slice A2 l2.length ca2, .slice Q2 (Ls i).length cq2, .int .i64 1, .int .i64 (i : Nat), .int .i64 (xs i), .int .i64 (ys i), .bool (bs i)] ∧ l2.map Ak.dat = D ∧ FD W (w.heap.size + 1) A2 ca2 l2 Q2 cq2 (Ls i) ∧ BK W w.heap.size [.slice none 0 0, .slice none 0 0, .int .i64 0, .int .i64 0, .int .i64 0, .int .i64 0, .bool false] ∧ Below w.heap.size w W) (fun W => s - Ch.stepOf W p10)
      case atStart =>
        refine ⟨0, A1, ca1, l1, Q1, cq1, Nat.zero_le _, ?_, HD1.out, ?_, B0, hbb⟩
        · rw [HL0.out.1, HL0.out.2.1, HL0.out.2.2.1, HL0.out.2.2.2, HM1.out]
          exact BX
        · rw [HL0.out.1]
          exact hfd.mono (by omega)
      case round =>
        obtain ⟨i, A2, ca2, l2, Q2, cq2, hi, BX, hd2, hfd, B0, hbb⟩ := hrel
        obtain ⟨x2, hx2⟩ : ∃ z, xs i = z := ⟨_, rfl⟩
        obtain ⟨y2, hy2⟩ : ∃ z, ys i = z := ⟨_, rfl⟩
        obtain ⟨b2, hb2⟩ : ∃ z, bs i = z := ⟨_, rfl⟩
        obtain ⟨n2, hn2⟩ : ∃ z, (Ls i).length = z := ⟨_, rfl⟩
        obtain ⟨m2, hm2⟩ : ∃ z, l2.length = z := ⟨_, rfl⟩
        rw [hx2, hy2, hb2, hn2, hm2] at BX
        have HX2 := Lib.hid hx2
        have HY2 := Lib.hid hy2
        have HB2 := Lib.hid hb2
        have HN2 := Lib.hid hn2
        have HM2 := Lib.hid hm2
        have HD2 := Lib.hid hd2
        have hst := Ch.stepOf_bk BX
        clear hx2 hy2 hb2 hn2 hm2 hd2
        have hlt0 := B0.lt
        have hltX := BX.lt
        have xa0 := BX.c 0 rfl
        have xa1 := BX.c 1 rfl
        have xa2 := BX.c 2 rfl
        have xa3 := BX.c 3 rfl
        have xa4 := BX.c 4 rfl
        have xa5 := BX.c 5 rfl
        have xa6 := BX.c 6 rfl
        by_cases hlt : i < s
        · have i2 : (i : Int) < (s : Int) := by omega
          have HFi := HF.out i hlt A2 ca2 l2 Q2 cq2 _ hfd.isCs HD2.out hfd.isQs
          rw [HX2.out, HY2.out, HB2.out, HN2.out, HM2.out] at HFi
          have HFI := Lib.hid HFi
          have HST := Lib.hid hst
          clear HFi hst
          go_upto_region 8 with fail
          clear i2
          go_wp2_with fail
          refine (HFI.out).mono ?_
          unfold StQ
          rintro e w4 ⟨A3, m3, ca3, Q3, n3, cq3, l3, rfl, hb, hm3, hn3, hd3, hfd3⟩
          have HM3 := Lib.hid hm3
          have HN3 := Lib.hid hn3
          have HD3 := Lib.hid hd3
          clear hm3 hn3 hd3 xa0 xa1 xa2 xa3 xa4 xa5 xa6 HFI hfd
          replace BX := BX.keep hb
          replace B0 := B0.keep hb
          replace hbb := keepB hbb hb
          clear hb
          have xa0 := BX.c 0 rfl
          have xa1 := BX.c 1 rfl
          have xa2 := BX.c 2 rfl
          have xa3 := BX.c 3 rfl
          have xa4 := BX.c 4 rfl
          have xa5 := BX.c 5 rfl
          have xa6 := BX.c 6 rfl
          have xb0 := BX.f 0 rfl
          have xb1 := BX.f 1 rfl
          have xb2 := BX.f 2 rfl
          have xb3 := BX.f 3 rfl
          have xb4 := BX.f 4 rfl
          have xb5 := BX.f 5 rfl
          have xb6 := BX.f 6 rfl
          go_wp2_with fail
          go_roundw
          case rel => exact ⟨i + 1, A3, ca3, l3, Q3, cq3, hlt, by rw [← HM3.out, ← HN3.out]; exact ((((((BX.set 0 _).set 1 _).set 2 _).set 3 _).set 4 _).set 5 _).set 6 _, HD3.out, ((((((((hfd3.set (by omega) _).set (by omega) _).set (by omega) _).set (by omega) _).set (by omega) _).set (by omega) _).set (by omega) _).mono (by omega)), (((((((B0.far (by omega) _ _).far (by omega) _ _).far (by omega) _ _).far (by omega) _ _).far (by omega) _ _).far (by omega) _ _).far (by omega) _ _), (below_set (below_set (below_set (below_set (below_set (below_set (below_set hbb (by omega) _) (by omega) _) (by omega) _) (by omega) _) (by omega) _) (by omega) _) (by omega) _)⟩
          case measure => exact Nat.lt_of_le_of_lt (Nat.le_of_eq (congrArg (fun t => s - t) (Ch.stepOf_bk (i := i + 1) (show BK _ p10 [.slice A3 m3 ca3, .slice Q3 n3 cq3, .int .i64 1, .int .i64 ((i + 1 : Nat) : Int), .int .i64 (xs (i + 1)), .int .i64 (ys (i + 1)), .bool (bs (i + 1))] from ((((((BX.set 0 _).set 1 _).set 2 _).set 3 _).set 4 _).set 5 _).set 6 _) rfl))) (by rw [HST.out]; omega)
        · have i2 : ¬ (i : Int) < (s : Int) := by omega
          obtain rfl : i = s := by omega
          clear hst hlt
          have ya0 := B0.c 0 rfl
          have ya1 := B0.c 1 rfl
          have ya2 := B0.c 2 rfl
          have ya3 := B0.c 3 rfl
          have ya4 := B0.c 4 rfl
          have ya5 := B0.c 5 rfl
          have ya6 := B0.c 6 rfl
          have yb0 := B0.f 0 rfl
          have yb1 := B0.f 1 rfl
          have yb2 := B0.f 2 rfl
          have yb3 := B0.f 3 rfl
          have yb4 := B0.f 4 rfl
          have yb5 := B0.f 5 rfl
          have yb6 := B0.f 6 rfl
          go_wp2_with fail
          exact bodyPost_ret (v := .tuple #[.agg #[.slice A2 m2 ca2, .slice Q2 n2 cq2, .int .i64 1, .int .i64 (i : Nat), .int .i64 x2, .int .i64 y2, .bool b2], .int .i64 0]) (by simp [results, Try.results71, go_sem, ya0, ya1, ya2, ya3, ya4, ya5, ya6]) rfl (StR.mk A2 m2 ca2 Q2 n2 cq2 l2 (by rw [HX2.out, HY2.out, HB2.out]) (below_set (below_set (below_set (below_set (below_set (below_set (below_set hbb (by omega) _) (by omega) _) (by omega) _) (by omega) _) (by omega) _) (by omega) _) (by omega) _) HM2.out.symm HN2.out.symm HD2.out ((((((((hfd.set (by omega) _).set (by omega) _).set (by omega) _).set (by omega) _).set (by omega) _).set (by omega) _).set (by omega) _).mono (by omega)))

end Go.Proofs.Ytnnpmegknlgkoaa
