/- Package trim: Bound, areAgents, liesBeforeEnd, copied. -/
import Derived.Test.YtnnpmegknlgkoaaTre
import Derived.Test.YtnnpmegknlgkoaaTrf
import Derived.Test.YtnnpmegknlgkoaaGe
namespace Go.Proofs.Ytnnpmegknlgkoaa
open Go.RowKit
set_option linter.unusedSimpArgs false in
set_option maxHeartbeats 8000000 in
set_option maxRecDepth 100000 in
theorem tmbound_any (n : Int) (h1 : 1 ≤ n) (h6 : n ≤ 6) (w : World) : Calls Try.prog 40 #[.int .i64 n] w fun e w' => e = .returned (.tuple #[.int .i64 (n * n - 1), .int .i64 0]) ∧ Below w.heap.size w w' := by
  have a1 : ¬ n < 1 := by omega
  have a2 : ¬ 6 < n := by omega
  have e1 : wrap64 (n * n) = n * n := by
    have : n = 1 ∨ n = 2 ∨ n = 3 ∨ n = 4 ∨ n = 5 ∨ n = 6 := by omega
    rcases this with rfl | rfl | rfl | rfl | rfl | rfl <;> (unfold wrap64; decide)
  have e2 : wrap64 (n * n - 1) = n * n - 1 := by
    have : n = 1 ∨ n = 2 ∨ n = 3 ∨ n = 4 ∨ n = 5 ∨ n = 6 := by omega
    rcases this with rfl | rfl | rfl | rfl | rfl | rfl <;> (unfold wrap64; decide)
  go_enter Try.func40, Try.ntmps40
  go_wp2_with fail
  exact bodyPost_ret (v := .tuple #[.int .i64 (n * n - 1), .int .i64 0]) (by simp [results, Try.results40, go_sem, e1, e2]) rfl ⟨rfl, Below.refl _ _⟩
set_option linter.unusedSimpArgs false in
set_option maxHeartbeats 8000000 in
set_option maxRecDepth 100000 in
theorem tmlies_any (A : Option Addr) (ca : Nat) (cs : List CkR) (Q : Option Addr) (m cq : Nat) (a b len : Int) (w : World) (h : IsCs w A cs) (h0 : 0 < cs.length) (hl : (Ak.cat cs 0).len = len) (hok : Rp.Ok a b) (ha : 0 ≤ a) (hol : Rp.Ok len 1) (hlt : Rp.q a b < Rp.q len 1) :
    Calls Try.prog 78 #[.agg #[.slice A cs.length ca, .slice Q m cq], .agg #[.int .i64 a, .int .i64 b]] w fun e w' => e = .returned (.bool true) ∧ Below w.heap.size w w' := by
  have en := fun v (hv : Below w.heap.size w v) => tmend_any A ca cs Q m cq len v (h.keep hv) h0 hl
  have hc0 : Rp.chk a b = 0 := (chk_cases a b).elim (fun h => h.1) (fun h => absurd hok h.2)
  have chk := fun v => check_any a b v (by have := hok.2.2.1; omega) (by have := hok.2.2.2.1; omega) (by have := hok.1; omega) (by have := hok.2.1; omega)
  rw [hc0] at chk
  have ls := fun v => tmless_any a b len 1 hok hol v
  rw [decide_eq_true hlt] at ls
  obtain ⟨nc, hnc⟩ : ∃ z, cs.length = z := ⟨_, rfl⟩
  rw [hnc] at en ⊢
  have EN := Lib.hid en
  have CHK := Lib.hid chk
  have LS := Lib.hid ls
  clear en chk ls h h0 hl hnc hok hol hlt hc0
  go_enter Try.func78, Try.ntmps78
  go_upto_region 1 with fail
  refine at_worldQ (fun v => Below w.heap.size w v ∧ BK v (w.heap.size) [.slice A nc ca, .slice Q m cq] ∧ BK v (w.heap.size + 1) [.int .i64 a, .int .i64 b] ∧ v.heap.size = w.heap.size + 2) ⟨(below_al (below_al (Below.refl _ _) _) _), (by have b := ((BK.new w [.slice A nc ca, .slice Q m cq] 49).al (.cells #[.int .i64 a, .int .i64 b] 23)); simpa only [World.size_alloc] using b), (by have b := (BK.new (w.alloc (.cells #[.slice A nc ca, .slice Q m cq] 49)) [.int .i64 a, .int .i64 b] 23); simpa only [World.size_alloc] using b), by simp only [World.size_alloc]⟩ (fun V hS => ?_)
  obtain ⟨hbb, B0, B1, hVs⟩ := hS
  have p0 := B0.c 0 rfl
  have p1 := B0.c 1 rfl
  have y0 := B1.c 0 rfl
  have y1 := B1.c 1 rfl
  refine wp_region_noPanic ?_
  refine wp_region_held_drew (S := (Below V.heap.size V)) (by kernel_rfl) ((Below.refl _ _).drew) (fun hHeld => ?_)
  refine at_anyH (Below V.heap.size V) hHeld (fun wl0 hNew => ?_)
  clear hHeld
  have hHeld := hNew
  clear hNew
  refine wpAnyH_take (i := 0) (oi := _) (v := ?vl1) rfl (by kernel_rfl) (by kernel_rfl) (by kernel_rfl) (fun _ _ _ h => h) (Or.inl ⟨by kernel_rfl, ?hyl1⟩) hHeld ?restl1
  case hyl1 => (intro w hSw; have kp0 := keepC hSw p0; have kp1 := keepC hSw p1; have ky0 := keepC hSw y0; have ky1 := keepC hSw y1; go_simp; first | done | (with_reducible rfl))
  try simp only [Act.put, PA, PB]
  refine wpAnyH_ready (rs := [1]) (by kernel_rfl) (by simp) (AllReadyH.cons (o := _) rfl (fun K hK => ?_) AllReadyH.nil)
  go_simp
  refine (CHK.out _).mono ?_
  rintro e wl2 ⟨rfl, hb3⟩
  go_wp2_with fail
  refine hK.out _ _ (keepB hHeld hb3) (fun hNew => ?_)
  clear hb3
  clear hHeld hK K
  have hHeld := hNew
  clear hNew
  try simp only [Act.put, PA, PB]
  refine wpAnyH_take (i := 2) (oi := _) (v := ?vl3) rfl (by kernel_rfl) (by kernel_rfl) (by kernel_rfl) (fun _ _ _ h => h) (Or.inl ⟨by kernel_rfl, ?hyl3⟩) hHeld ?restl3
  case hyl3 => (intro w hSw; go_simp; first | done | (with_reducible rfl))
  try simp only [Act.put, PA, PB]
  refine wpAnyH_take (i := 3) (oi := _) (v := ?vl4) rfl (by kernel_rfl) (by kernel_rfl) (by kernel_rfl) (fun _ _ _ h => h) (Or.inl ⟨by kernel_rfl, ?hyl4⟩) hHeld ?restl4
  case hyl4 => (intro w hSw; go_simp; first | done | (with_reducible rfl))
  try simp only [Act.put, PA, PB]
  refine wpAnyH_take (i := 4) (oi := _) (v := ?vl5) rfl (by kernel_rfl) (by kernel_rfl) (by kernel_rfl) (fun _ _ _ h => h) (Or.inl ⟨by kernel_rfl, ?hyl5⟩) hHeld ?restl5
  case hyl5 => (intro w hSw; go_simp; first | done | (with_reducible rfl))
  try simp only [Act.put, PA, PB]
  refine wpAnyH_take (i := 5) (oi := _) (v := ?vl6) rfl (by kernel_rfl) (by kernel_rfl) (by kernel_rfl) (fun _ _ _ h => h) (Or.inl ⟨by kernel_rfl, ?hyl6⟩) hHeld ?restl6
  case hyl6 => (intro w hSw; have kp0 := keepC hSw p0; have kp1 := keepC hSw p1; have ky0 := keepC hSw y0; have ky1 := keepC hSw y1; go_simp; first | done | (with_reducible rfl))
  try simp only [Act.put, PA, PB]
  refine wpAnyH_take (i := 6) (oi := _) (v := .bool true) rfl (by kernel_rfl) (by kernel_rfl) (by kernel_rfl) (fun _ _ _ h => h) (Or.inl ⟨by kernel_rfl, ?_⟩) hHeld ?_
  · intro w hSw
    have kp0 := keepC hSw p0
    have kp1 := keepC hSw p1
    have ky0 := keepC hSw y0
    have ky1 := keepC hSw y1
    go_simp
    first | done | exact ha
  try simp only [Act.put, PA, PB]
  refine wpAnyH_take (i := 7) (oi := _) (v := ?vl8) rfl (by kernel_rfl) (by kernel_rfl) (by kernel_rfl) (fun _ _ _ h => h) (Or.inl ⟨by kernel_rfl, ?hyl8⟩) hHeld ?restl8
  case hyl8 => (intro w hSw; go_simp; first | done | (with_reducible rfl))
  try simp only [Act.put, PA, PB]
  refine wpAnyH_take (i := 8) (oi := _) (v := ?vl9) rfl (by kernel_rfl) (by kernel_rfl) (by kernel_rfl) (fun _ _ _ h => h) (Or.inl ⟨by kernel_rfl, ?hyl9⟩) hHeld ?restl9
  case hyl9 => (intro w hSw; go_simp; first | done | (with_reducible rfl))
  try simp only [Act.put, PA, PB]
  refine wpAnyH_take (i := 9) (oi := _) (v := ?vl10) rfl (by kernel_rfl) (by kernel_rfl) (by kernel_rfl) (fun _ _ _ h => h) (Or.inl ⟨by kernel_rfl, ?hyl10⟩) hHeld ?restl10
  case hyl10 => (intro w hSw; have kp0 := keepC hSw p0; have kp1 := keepC hSw p1; have ky0 := keepC hSw y0; have ky1 := keepC hSw y1; go_simp; first | done | (with_reducible rfl))
  try simp only [Act.put, PA, PB]
  refine wpAnyH_take (i := 10) (oi := _) (v := ?vl11) rfl (by kernel_rfl) (by kernel_rfl) (by kernel_rfl) (fun _ _ _ h => h) (Or.inl ⟨by kernel_rfl, ?hyl11⟩) hHeld ?restl11
  case hyl11 => (intro w hSw; have kp0 := keepC hSw p0; have kp1 := keepC hSw p1; have ky0 := keepC hSw y0; have ky1 := keepC hSw y1; go_simp; first | done | (with_reducible rfl))
  try simp only [Act.put, PA, PB]
  refine wpAnyH_ready (rs := [11]) (by kernel_rfl) (by simp) (AllReadyH.cons (o := _) rfl (fun K hK => ?_) AllReadyH.nil)
  go_simp
  refine (EN.out _ (keepB hbb hHeld)).mono ?_
  rintro e wl12 ⟨rfl, hb3⟩
  go_wp2_with fail
  refine hK.out _ _ (keepB hHeld hb3) (fun hNew => ?_)
  clear hb3
  clear hHeld hK K
  have hHeld := hNew
  clear hNew
  try simp only [Act.put, PA, PB]
  refine wpAnyH_ready (rs := [12]) (by kernel_rfl) (by simp) (AllReadyH.cons (o := _) rfl (fun K hK => ?_) AllReadyH.nil)
  go_simp
  refine (LS.out _).mono ?_
  rintro e wl13 ⟨rfl, hb3⟩
  go_wp2_with fail
  refine hK.out _ _ (keepB hHeld hb3) (fun hNew => ?_)
  clear hb3
  clear hHeld hK K
  have hHeld := hNew
  clear hNew
  try simp only [Act.put, PA, PB]
  refine wpAnyH_take (i := 13) (oi := _) (v := ?vl14) rfl (by kernel_rfl) (by kernel_rfl) (by kernel_rfl) (fun _ _ _ h => h) (Or.inl ⟨by kernel_rfl, ?hyl14⟩) hHeld ?restl14
  case hyl14 => (intro w hSw; go_simp; first | done | (with_reducible rfl))
  try simp only [Act.put, PA, PB]
  refine wpAnyH_take (i := 14) (oi := _) (v := ?vl15) rfl (by kernel_rfl) (by kernel_rfl) (by kernel_rfl) (fun _ _ _ h => h) (Or.inl ⟨by kernel_rfl, ?hyl15⟩) hHeld ?restl15
  case hyl15 => (intro w hSw; go_simp; first | done | (with_reducible rfl))
  try simp only [Act.put, PA, PB]
  refine wpAnyH_done (by kernel_rfl) ?_ _
  refine NoPanic.normal ?_
  replace hbb := keepB hbb hHeld
  clear hHeld
  go_wp2_with fail
  go_ret
  exact ⟨rfl, hbb⟩
set_option linter.unusedSimpArgs false in
set_option maxHeartbeats 8000000 in
set_option maxRecDepth 100000 in
theorem tmare_any (A : Option Addr) (n ca : Nat) (Q : Option Addr) (m cq g off cg : Nat) (l : List Nat) (w : World) (hn : n ≤ 6) (h1 : 1 ≤ l.length) (h6 : l.length ≤ 6) (hg : ∀ k, k < l.length → w.cell? ⟨g, off + k, none⟩ = some (.int .i64 ((l.getD k 0 : Nat) : Int))) (hlt : ∀ k, k < l.length → l.getD k 0 < n) (hin : ∀ k, k + 1 < l.length → l.getD k 0 < l.getD (k + 1) 0) :
    Calls Try.prog 77 #[.agg #[.slice A n ca, .slice Q m cq], .slice (some ⟨g, off, none⟩) l.length cg] w fun e w' => e = .returned (.bool true) ∧ Below w.heap.size w w' := by
  obtain ⟨nl, hnl⟩ : ∃ z, l.length = z := ⟨_, rfl⟩
  have hn6 := hn
  rw [hnl] at h1 h6 hg hlt hin ⊢
  have hgl := lt_of_cell (hg 0 (by omega))
  have HG := Lib.hid hg
  have HLT := Lib.hid hlt
  have HIN := Lib.hid hin
  clear hg hlt hin hnl
  go_enter Try.func77, Try.ntmps77
  go_upto_region 1 with fail
  refine at_worldQ (fun v => Below w.heap.size w v ∧ BK v (w.heap.size) [.slice A n ca, .slice Q m cq] ∧ v.heap.size = w.heap.size + 1) ⟨(below_al (Below.refl _ _) _), (by have b := (BK.new w [.slice A n ca, .slice Q m cq] 49); simpa only [World.size_alloc] using b), by simp only [World.size_alloc]⟩ (fun V hS => ?_)
  obtain ⟨hbb, B0, hVs⟩ := hS
  have p0 := B0.c 0 rfl
  go_wp2_with fail
  clear p0
  go_loopw [5, 10] (fun s i W => ∃ k : Nat, k ≤ nl ∧ i = .int .i64 k ∧ s = .int .i64 (if k = 0 then -1 else ((l.getD (k - 1) 0 : Nat) : Int)) ∧ Below w.heap.size w W ∧ BK W w.heap.size [.slice A n ca, .slice Q m cq]) (fun _ i _ => nl - (intOf i).toNat)
  case atStart => exact ⟨0, Nat.zero_le _, rfl, rfl, hbb, B0⟩
  case round =>
    clear hbb B0 hVs
    obtain ⟨k, hk, rfl, rfl, hbb, B0⟩ := hrel
    by_cases hlt : k < nl
    · have i1 : (k : Int) < (nl : Int) := by omega
      have i0 : (0 : Int) ≤ (k : Int) := by omega
      obtain ⟨x, hx⟩ : ∃ z, l.getD k 0 = z := ⟨_, rfl⟩
      obtain ⟨y, hy⟩ : ∃ z : Int, (if k = 0 then -1 else ((l.getD (k - 1) 0 : Nat) : Int)) = z := ⟨_, rfl⟩
      have hxn := HLT.out k hlt
      have hxy : y < (x : Int) := by
        rw [← hy]
        split
        · omega
        · have := HIN.out (k - 1) (by omega)
          rw [show k - 1 + 1 = k by omega, hx] at this
          omega
      have cx := keepC hbb (HG.out k hlt)
      rw [hx] at cx hxn
      rw [hy]
      have p0 := B0.c 0 rfl
      have t1 : ¬ (x : Int) ≤ y := by omega
      have t2 : ¬ (n : Int) ≤ (x : Int) := by omega
      have HX := Lib.hid hx
      clear hx hy
      go_wp2_with fail
      go_roundw
      case rel => exact ⟨k + 1, by omega, by go_num, by rw [if_neg (by omega), Nat.add_sub_cancel, HX.out], hbb, B0⟩
      case measure => (simp [intOf] <;> omega)
    · obtain rfl : k = nl := by omega
      have i1 : ¬ (k : Int) < (k : Int) := by omega
      have i2 : 0 < k := h1
      generalize (if k = 0 then (-1 : Int) else ((l.getD (k - 1) 0 : Nat) : Int)) = y
      go_wp2_with fail
      go_ret
      exact ⟨by first | rfl | simp [i2], hbb⟩
def CopQ (D : List CkD) (L : List Qr) (w : World) (e : Ending) (w' : World) : Prop :=
  ∃ (A : Option Addr) (m ca : Nat) (Q : Option Addr) (nq cq : Nat) (cs : List CkR), e = .returned (.agg #[.slice A m ca, .slice Q nq cq]) ∧ Below w.heap.size w w' ∧ m = cs.length ∧ nq = L.length ∧ cs.map Ak.dat = D ∧ FD w' w.heap.size A ca cs Q cq L
set_option linter.unusedSimpArgs false in
set_option maxHeartbeats 8000000 in
set_option maxRecDepth 100000 in
theorem tmcopied_any (D : List CkD) (A : Option Addr) (ca : Nat) (cs : List CkR) (Q : Option Addr) (L : List Qr) (cq : Nat) (w : World) (h : IsCs w A cs) (hq : IsQs w Q L) (hD : cs.map Ak.dat = D) (hc : Ak.chkS D 0 = 0) (hL : L.length ≤ 3000) :
    Calls Try.prog 80 #[.agg #[.slice A cs.length ca, .slice Q L.length cq]] w (CopQ D L w) := by
  have op := fun v (hv : Below w.heap.size w v) => askOpen_any A ca cs v (h.keep hv)
  have qc := fun v (hv : Below w.heap.size w v) => qclone_any Q cq L v (hq.keep hv) hL
  have hq64 := hq.all
  have HQ64 := Lib.hid hq64
  have HLL := Lib.hid hq.len
  clear hq64
  rw [hD] at op
  unfold OpenQ at op
  obtain ⟨nc, hnc⟩ : ∃ z, cs.length = z := ⟨_, rfl⟩
  obtain ⟨nq, hnq⟩ : ∃ z, L.length = z := ⟨_, rfl⟩
  rw [hnc] at op ⊢
  rw [hnq] at qc hL ⊢
  have OP := Lib.hid op
  have QC := Lib.hid qc
  have HC := Lib.hid hc
  have HNQ := Lib.hid hnq
  clear op qc hc hnc hnq h hq hD
  unfold CopQ
  go_enter Try.func80, Try.ntmps80
  go_upto_region 1 with fail
  refine at_worldQ (fun v => Below w.heap.size w v ∧ BK v (w.heap.size) [.slice A nc ca, .slice Q nq cq] ∧ BK v (w.heap.size + 1) [.slice none 0 0, .slice none 0 0] ∧ v.heap.size = w.heap.size + 2) ⟨(below_al (below_al (Below.refl _ _) _) _), (by have b := ((BK.new w [.slice A nc ca, .slice Q nq cq] 49).al (.cells #[.slice none 0 0, .slice none 0 0] 49)); simpa only [World.size_alloc] using b), (by have b := (BK.new (w.alloc (.cells #[.slice A nc ca, .slice Q nq cq] 49)) [.slice none 0 0, .slice none 0 0] 49); simpa only [World.size_alloc] using b), by simp only [World.size_alloc]⟩ (fun V hS => ?_)
  obtain ⟨hbb, B0, B1, hVs⟩ := hS
  have p0 := B0.c 0 rfl
  have p1 := B0.c 1 rfl
  go_wp2_with fail
  refine (OP.out _ hbb).mono ?_
  rintro e w1 ⟨hb, ⟨hne, _⟩ | ⟨_, A1, ca1, cs1, Q1, cq1, rfl, hd1, hfd⟩⟩
  · exact absurd HC.out hne
  clear p0 p1
  replace hbb := keepB hbb hb
  replace B0 := B0.keep hb
  replace B1 := B1.keep hb
  clear hb OP
  obtain ⟨n1, hn1⟩ : ∃ z, cs1.length = z := ⟨_, rfl⟩
  have HN1 := Lib.hid hn1
  have HD1 := Lib.hid hd1
  have HFD := Lib.hid hfd
  rw [hn1]
  clear hn1 hd1 hfd
  go_upto_region 2 with fail
  have hw1 := B0.lt
  have hwb := B1.lt
  have hm1 := (Mid.refl (w.heap.size + 2) w1).al (.cells #[.slice A1 n1 ca1, .slice Q1 0 cq1] 49)
  refine at_worldQ (fun v => Below w.heap.size w v ∧ BK v w.heap.size [.slice A nc ca, .slice Q nq cq] ∧ BK v (w.heap.size + 1) [.slice none 0 0, .slice none 0 0] ∧ BK v w1.heap.size [.slice A1 n1 ca1, .slice Q1 0 cq1] ∧ Mid (w.heap.size + 2) w1 v ∧ v.heap.size = w1.heap.size + 1) ⟨below_al hbb _, B0.al _, B1.al _, BK.new _ _ _, hm1, by simp⟩ (fun V2 hS => ?_)
  clear hbb B0 B1 hm1
  obtain ⟨hbb, B0, B1, BX, hm1, hs2⟩ := hS
  have p1 := B0.c 1 rfl
  go_wp2_with fail
  refine (QC.out _ hbb).mono ?_
  rintro e w3 ⟨v3, rfl, hacc⟩
  obtain ⟨Q2, cq2, rfl, -⟩ := Ak.row_cap hacc.row
  have hb := hacc.bb
  have HLG := Lib.hid hacc.row
  clear p1 QC
  replace hbb := keepB hbb hb
  replace B1 := B1.keep hb
  replace BX := BX.keep hb
  replace hm1 := hm1.call hb
  have hs3 := hb.size
  clear hb hacc B0
  have x0 := BX.c 0 rfl
  have x1 := BX.c 1 rfl
  have z1 := BX.f 1 rfl
  go_upto_region 3 with fail
  refine at_worldQ (fun v => Below w.heap.size w v ∧ BK v (w.heap.size + 1) [.slice none 0 0, .slice none 0 0] ∧ BK v w1.heap.size [.slice A1 n1 ca1, .slice Q2 nq cq2] ∧ Mid (w.heap.size + 2) w1 v ∧ Mid V2.heap.size w3 v ∧ w3.heap.size ≤ v.heap.size) ⟨below_set hbb (by omega) _, B1.far (by omega) _ _, BX.set 1 _, hm1.set (.inr (Nat.le_refl _)) _, (Mid.refl _ _).set (.inl (by omega)) _, by simp⟩ (fun V3 hS => ?_)
  clear hbb B1 BX hm1 x0 x1 z1
  obtain ⟨hbb, B1, BX, hm1, hm3, hs4⟩ := hS
  have x0 := BX.c 0 rfl
  have x1 := BX.c 1 rfl
  have r0 := B1.c 0 rfl
  have r1 := B1.c 1 rfl
  have g0 := B1.f 0 rfl
  have g1 := B1.f 1 rfl
  go_wp2_with fail
  have hm2 := (hm1.set (p := w.heap.size + 1) (o := 0) (.inl (by omega)) (.slice A1 n1 ca1)).set (p := w.heap.size + 1) (o := 1) (.inl (by omega)) (.slice Q2 nq cq2)
  have hm4 := (hm3.set (p := w.heap.size + 1) (o := 0) (.inl (by omega)) (.slice A1 n1 ca1)).set (p := w.heap.size + 1) (o := 1) (.inl (by omega)) (.slice Q2 nq cq2)
  have hfd := HFD.out
  have hlg := row_mid HLG.out hm4
  have hfm := FD.mid (FD.mono hfd (B' := w.heap.size + 2) (by omega)) hm2
  exact bodyPost_ret (v := .agg #[.slice A1 n1 ca1, .slice Q2 nq cq2]) (by simp [results, Try.results80, go_sem, r0, r1]) rfl ⟨A1, n1, ca1, Q2, nq, cq2, cs1, rfl, below_set (below_set hbb (by omega) _) (by omega) _, HN1.out.symm, HNQ.out.symm, HD1.out, by
    have h2 := FD.mono hfm (B' := w.heap.size) (by omega)
    refine ⟨h2.row, h2.all, ?_, HQ64.out, h2.lc, HLL.out⟩
    rw [HNQ.out]
    exact World.ownsRow.mono hlg (by omega)⟩
end Go.Proofs.Ytnnpmegknlgkoaa
