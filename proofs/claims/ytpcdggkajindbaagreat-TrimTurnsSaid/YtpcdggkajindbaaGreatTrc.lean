/- Package trim: played. -/
import Derived.Test.YtpcdggkajindbaaGreatGzz
import Derived.WalkMore
namespace Go.Proofs.YtpcdggkajindbaaGreat
open Go.RowKit
/-- At the head of the outer loop: the agent number h is to mark. -/
structure OuS (D : List CkD) (n a b : Int) (l : List Nat) (R : Nat × Nat × List Qr) (w : World) (h t : Nat) (v : World) (A : Option Addr) (ca : Nat) (cs : List CkR) (Q : Option Addr) (cq : Nat) (L : List Qr) (tg x y : Int) : Prop where
  hm : h < l.length
  th : t ≤ h
  sc : Ch.scan D n a b (l.drop (h + 1)) (l.getD h 0) t (L ++ [Ch.qM D n a b (l.getD h 0)]) = R
  lg : L.length + 2 * (l.length - h) ≤ 2001
  dt : cs.map Ak.dat = D
  c : ∀ u, GB (fun k => w.heap.size ≤ k ∧ k < w.heap.size + 4) v u → IsCs u A cs ∧ IsQs u Q L
  b0 : BK v w.heap.size [.slice A cs.length ca, .slice Q L.length cq]
  b1 : BK v (w.heap.size + 1) [.int .i64 a, .int .i64 b]
  b2 : BK v (w.heap.size + 2) [.slice none 0 0, .slice none 0 0, .int .i64 0, .int .i64 0, .int .i64 0, .int .i64 0, .int .i64 0, .int .i64 0]
  b3 : BK v (w.heap.size + 3) [.int .i64 tg, .int .i64 a, .int .i64 b, .int .i64 x, .int .i64 y, .int .i64 (t : Nat)]
  bb : Below w.heap.size w v
/-- At the head of the inner loop: the agent g holds the piece, the agent number k is to be asked. -/
structure InS (D : List CkD) (n a b : Int) (l : List Nat) (R : Nat × Nat × List Qr) (w : World) (h g t k : Nat) (v : World) (A : Option Addr) (ca : Nat) (cs : List CkR) (Q : Option Addr) (cq : Nat) (L : List Qr) (x y : Int) : Prop where
  hk : h < k
  km : k ≤ l.length
  sc : Ch.scan D n a b (l.drop k) g t L = R
  lg : L.length + 2 * (l.length - k) ≤ 2000
  dt : cs.map Ak.dat = D
  fd : FD v (w.heap.size + 4) A ca cs Q cq L
  b0 : BK v w.heap.size [.slice A cs.length ca, .slice Q L.length cq]
  b1 : BK v (w.heap.size + 1) [.int .i64 a, .int .i64 b]
  b2 : BK v (w.heap.size + 2) [.slice none 0 0, .slice none 0 0, .int .i64 0, .int .i64 0, .int .i64 0, .int .i64 0, .int .i64 0, .int .i64 0]
  b3 : BK v (w.heap.size + 3) [.int .i64 (g : Nat), .int .i64 a, .int .i64 b, .int .i64 x, .int .i64 y, .int .i64 (t : Nat)]
  bb : Below w.heap.size w v
/-- What a round gives. -/
def PlQ (D : List CkD) (a b : Int) (i t : Nat) (x y : Int) (L : List Qr) (w : World) (e : Ending) (w' : World) : Prop :=
  ∃ (A : Option Addr) (m ca : Nat) (Q : Option Addr) (nq cq : Nat) (cs : List CkR), e = .returned (.tuple #[.agg #[.slice A m ca, .slice Q nq cq, .int .i64 (i : Nat), .int .i64 a, .int .i64 b, .int .i64 x, .int .i64 y, .int .i64 (t : Nat)], .int .i64 0]) ∧ Below w.heap.size w w' ∧ m = cs.length ∧ nq = L.length ∧ cs.map Ak.dat = D ∧ FD w' w.heap.size A ca cs Q cq L
set_option linter.unusedSimpArgs false in
set_option maxHeartbeats 8000000 in
set_option maxRecDepth 100000 in
theorem tmplayed_any (A : Option Addr) (ca : Nat) (cs : List CkR) (Q : Option Addr) (qs : List Qr) (cq : Nat) (g off cg : Nat) (l : List Nat) (D : List CkD) (n a b : Int) (R : Nat × Nat × List Qr) (w : World) (h : IsCs w A cs) (hq : IsQs w Q qs) (hD : cs.map Ak.dat = D) (hc : Ak.chkS D 0 = 0) (hn : n = (D.length : Nat))
    (hG : ∀ k, k < l.length → w.cell? ⟨g, off + k, none⟩ = some (.int .i64 ((l.getD k 0 : Nat) : Int))) (h2 : 2 ≤ l.length) (h6 : l.length ≤ 6) (hlg : qs.length + 2 * l.length ≤ 2001) (ia : I64 a) (ib : I64 b) (F : Ch.RFit D n a b l) (hR : Ch.scan D n a b (l.drop 1) (l.getD 0 0) 0 (qs ++ [Ch.qM D n a b (l.getD 0 0)]) = R) :
    Calls Tryz.prog 67 #[.agg #[.slice A cs.length ca, .slice Q qs.length cq], .slice (some ⟨g, off, none⟩) l.length cg, .agg #[.int .i64 a, .int .i64 b]] w (PlQ D a b R.1 R.2.1 (Ch.mkQ D n a b R.1).1 (Ch.mkQ D n a b R.1).2.1 R.2.2 w) := by
  have hgd := Ak.chkS_good hc
  have hsok : ∀ j, j ∈ l → Rp.Ok (Ch.sh n (Ak.dAt D j)).1 (Ch.sh n (Ak.dAt D j)).2.1 := fun j hj => by
    have hlt := F.lt j hj
    have hm : Ak.dAt D j ∈ D := by unfold Ak.dAt; simp [hlt]
    exact (Ch.sh_ok (hgd.all _ hm) (by have := hgd.l0; omega) (by have := hgd.l1; omega)).2.1
  have HG := Lib.hid hG
  have HC := Lib.hid hc
  have HN := Lib.hid hn
  have HF := Lib.hid F
  have HSO := Lib.hid hsok
  have e0 : ((0 : Int) != 0) = false := rfl
  have S0 : ∀ v, Below w.heap.size w v → BK v w.heap.size [.slice A cs.length ca, .slice Q qs.length cq] → BK v (w.heap.size + 1) [.int .i64 a, .int .i64 b] → BK v (w.heap.size + 2) [.slice none 0 0, .slice none 0 0, .int .i64 0, .int .i64 0, .int .i64 0, .int .i64 0, .int .i64 0, .int .i64 0] → BK v (w.heap.size + 3) [.int .i64 0, .int .i64 a, .int .i64 b, .int .i64 0, .int .i64 0, .int .i64 0] → OuS D n a b l R w 0 0 v A ca cs Q cq qs 0 0 0 := fun v hv b0 b1 b2 b3 => ⟨by omega, Nat.le_refl _, hR, by omega, hD, fun u hu => ⟨h.keep (hu.toBelow hv (fun k hk => hk.1) hv.size), hq.keep (hu.toBelow hv (fun k hk => hk.1) hv.size)⟩, b0, b1, b2, b3, hv⟩
  have HS0 := Lib.hid S0
  have t1 : (((l.length : Nat) : Int) == 1) = false := by rw [beq_eq_false_iff_ne]; omega
  obtain ⟨nc, hnc⟩ : ∃ z, cs.length = z := ⟨_, rfl⟩
  obtain ⟨nq, hnq⟩ : ∃ z, qs.length = z := ⟨_, rfl⟩
  obtain ⟨nl, hnl⟩ : ∃ z, l.length = z := ⟨_, rfl⟩
  rw [hnl] at t1 h6
  rw [hnc, hnq, hnl]
  have HNC := Lib.hid hnc
  have HNQ := Lib.hid hnq
  have HNL := Lib.hid hnl
  have T1 := Lib.hid t1
  clear hG hc hn F hsok S0 t1 hnc hnq hnl hgd h hq hD hR hlg h2
  unfold PlQ
  go_enter Tryz.func67, Tryz.ntmps67
  go_upto_region 1 with fail
  refine at_worldQ (fun v => Below w.heap.size w v ∧ BK v (w.heap.size) [.slice A nc ca, .slice Q nq cq] ∧ BK v (w.heap.size + 1) [.int .i64 a, .int .i64 b] ∧ BK v (w.heap.size + 2) [.slice none 0 0, .slice none 0 0, .int .i64 0, .int .i64 0, .int .i64 0, .int .i64 0, .int .i64 0, .int .i64 0] ∧ v.heap.size = w.heap.size + 3) ⟨(below_al (below_al (below_al (Below.refl _ _) _) _) _), (by have b := (((BK.new w [.slice A nc ca, .slice Q nq cq] 65).al (.cells #[.int .i64 a, .int .i64 b] 44)).al (.cells #[.slice none 0 0, .slice none 0 0, .int .i64 0, .int .i64 0, .int .i64 0, .int .i64 0, .int .i64 0, .int .i64 0] 101)); simpa only [World.size_alloc] using b), (by have b := ((BK.new (w.alloc (.cells #[.slice A nc ca, .slice Q nq cq] 65)) [.int .i64 a, .int .i64 b] 44).al (.cells #[.slice none 0 0, .slice none 0 0, .int .i64 0, .int .i64 0, .int .i64 0, .int .i64 0, .int .i64 0, .int .i64 0] 101)); simpa only [World.size_alloc] using b), (by have b := (BK.new ((w.alloc (.cells #[.slice A nc ca, .slice Q nq cq] 65)).alloc (.cells #[.int .i64 a, .int .i64 b] 44)) [.slice none 0 0, .slice none 0 0, .int .i64 0, .int .i64 0, .int .i64 0, .int .i64 0, .int .i64 0, .int .i64 0] 101); simpa only [World.size_alloc] using b), by simp only [World.size_alloc]⟩ (fun V hS => ?_)
  obtain ⟨hbb, B0, B1, B2, hVs⟩ := hS
  have f0 := B1.c 0 rfl
  have f1 := B1.c 1 rfl
  have t1 := T1.out
  go_step3
  go_upto_region 4 with fail
  clear t1 T1
  refine at_worldQ (fun v => OuS D n a b l R w 0 0 v A ca cs Q cq qs 0 0 0) (HS0.out _ (below_al hbb _) (by rw [HNC.out, HNQ.out]; exact B0.al _) (B1.al _) (B2.al _) (by have b := BK.new V [.int .i64 0, .int .i64 a, .int .i64 b, .int .i64 0, .int .i64 0, .int .i64 0] 57; rw [hVs] at b; exact b)) (fun V4 hS => ?_)
  clear hbb B0 B1 B2 f0 f1 hVs HS0
  go_wp2_with fail
  go_step3
  go_wp2_with fail
  go_loopw [9] (fun x v => ∃ (h t : Nat) (A2 : Option Addr) (ca2 : Nat) (cs2 : List CkR) (Q2 : Option Addr) (cq2 : Nat) (L2 : List Qr) (tg x0 y0 : Int), x = .int .i64 (h : Nat) ∧ OuS D n a b l R w h t v A2 ca2 cs2 Q2 cq2 L2 tg x0 y0) (fun x _ => nl - (intOf x).toNat)
  case atStart => exact ⟨0, 0, A, ca, cs, Q, cq, qs, 0, 0, 0, rfl, hS⟩
  case round =>
    clear hS
    obtain ⟨h, t, A2, ca2, cs2, Q2, cq2, L2, tg, x, y, rfl, hO⟩ := hrel
    obtain ⟨wo, hwo⟩ : ∃ wo : World, wo = wr := ⟨_, rfl⟩
    subst hwo
    obtain ⟨m2, hm2⟩ : ∃ z, cs2.length = z := ⟨_, rfl⟩
    obtain ⟨nq2, hnq2⟩ : ∃ z, L2.length = z := ⟨_, rfl⟩
    have hm := hO.hm
    have hgm := Ch.getD_mem hO.hm
    have hgc := keepC hO.bb (HG.out h hO.hm)
    obtain ⟨gg, hgg⟩ : ∃ z, l.getD h 0 = z := ⟨_, rfl⟩
    rw [hgg] at hgm hgc
    have hj := HF.out.lt gg hgm
    have hlen : cs2.length = D.length := by rw [← hO.dt, List.length_map]
    have hlq : L2.length < 2000 := by have := hO.lg; omega
    obtain ⟨hE, hT⟩ := Ch.put_M HF.out hgm HC.out hlq
    have hOq := (hO.c wo (GB.refl _ _)).2.len
    have mr := fun v (hv : GB (fun k => w.heap.size ≤ k ∧ k < w.heap.size + 4) wo v) => askMark_any A2 ca2 cs2 Q2 L2 cq2 (gg : Nat) a b (Ch.sh n (Ak.dAt D gg)).1 (Ch.sh n (Ak.dAt D gg)).2.1 v (hO.c v hv).1 (hO.c v hv).2 ⟨by omega, by have := HC.out; have := (Ak.chkS_good this).l1; omega⟩ ia ib ⟨by have := (HSO.out gg hgm).2.2.1; omega, by have := (HSO.out gg hgm).2.2.2.1; omega⟩ ⟨by have := (HSO.out gg hgm).1; omega, by have := (HSO.out gg hgm).2.1; omega⟩
    have sr := fun v (hv : GB (fun k => w.heap.size ≤ k ∧ k < w.heap.size + 4) wo v) => tmshare_any A2 ca2 cs2 Q2 L2.length cq2 gg n v (hO.c v hv).1 hOq (by rw [hO.dt]; exact Ch.chk_up HC.out (by omega)) (by omega) (by rw [hlen]; exact HN.out)
    rw [hO.dt] at mr sr
    obtain ⟨s1, hs1⟩ : ∃ z, (Ch.sh n (Ak.dAt D gg)).1 = z := ⟨_, rfl⟩
    obtain ⟨s2, hs2⟩ : ∃ z, (Ch.sh n (Ak.dAt D gg)).2.1 = z := ⟨_, rfl⟩
    obtain ⟨q, hqq⟩ : ∃ z, Ch.qM D n a b gg = z := ⟨_, rfl⟩
    obtain ⟨mx, hqx⟩ : ∃ z, (Ch.mkQ D n a b gg).1 = z := ⟨_, rfl⟩
    obtain ⟨my, hqy⟩ : ∃ z, (Ch.mkQ D n a b gg).2.1 = z := ⟨_, rfl⟩
    have hx : q.x = mx := by rw [← hqq, ← hqx]; rfl
    have hy : q.y = my := by rw [← hqq, ← hqy]; rfl
    rw [hs1, hs2, hqq] at hT
    rw [hs1, hs2] at hE mr sr
    have HSC := Lib.hid (show Ch.scan D n a b (l.drop (h + 1)) gg t (L2 ++ [q]) = R by rw [← hqq, ← hgg]; exact hO.sc)
    have HE := Lib.hid hE
    have HT := Lib.hid hT
    have HQX := Lib.hid hx
    have HQY := Lib.hid hy
    have HMX := Lib.hid hqx
    have HMY := Lib.hid hqy
    have HTH := Lib.hid hO.th
    have HLG := Lib.hid hO.lg
    have HGM := Lib.hid hgm
    have B0 := hO.b0
    have B1 := hO.b1
    have B2 := hO.b2
    have B3 := hO.b3
    have hbb := hO.bb
    rw [hm2, hnq2] at mr B0
    rw [hm2, hnq2] at sr
    have HNQ2 := Lib.hid hnq2
    have SR := Lib.hid sr
    have MR := Lib.hid mr
    have i1 : (0 : Int) ≤ (h : Int) := by omega
    have hmn : h < nl := by have := HNL.out; omega
    have i2 : (h : Int) < (nl : Int) := by omega
    have d0 := B0.lt
    have d3 := B3.lt
    have g0 := B3.c 0 rfl
    have g0f := B3.f 0 rfl
    clear mr sr hE hT hx hy hqx hqy hs1 hs2 hqq hgg hgm hj hlen hlq hm2 hnq2 hm hO
    go_upto_region 7 with fail
    refine at_worldQ (fun v => Below w.heap.size w v ∧ BK v w.heap.size [.slice A2 m2 ca2, .slice Q2 nq2 cq2] ∧ BK v (w.heap.size + 1) [.int .i64 a, .int .i64 b] ∧ BK v (w.heap.size + 2) [.slice none 0 0, .slice none 0 0, .int .i64 0, .int .i64 0, .int .i64 0, .int .i64 0, .int .i64 0, .int .i64 0] ∧ BK v (w.heap.size + 3) [.int .i64 (gg : Nat), .int .i64 a, .int .i64 b, .int .i64 x, .int .i64 y, .int .i64 (t : Nat)] ∧ GB (fun k => w.heap.size ≤ k ∧ k < w.heap.size + 4) wo v ∧ w.heap.size + 4 ≤ v.heap.size) ⟨below_set hbb (by omega) _, B0.far (by omega) _ _, B1.far (by omega) _ _, B2.far (by omega) _ _, B3.set 0 _, (GB.refl (fun k => w.heap.size ≤ k ∧ k < w.heap.size + 4) wo).set (.inl ⟨by omega, by omega⟩) _, by simp; omega⟩ (fun V hS => ?_)
    clear hbb B0 B1 B2 B3 g0 g0f d0 d3 hgc
    obtain ⟨hbb, B0, B1, B2, B3, hGB, hV4⟩ := hS
    have p0 := B0.c 0 rfl
    have p1 := B0.c 1 rfl
    have g0 := B3.c 0 rfl
    have f0 := B1.c 0 rfl
    have f1 := B1.c 1 rfl
    refine wp_region_noPanic ?_
    refine region_ordU (S := (GB (fun _ => False) V)) (GB (fun k => k = w.heap.size ∨ k = w.heap.size + 3) V) 13 (by kernel_rfl) ((GB.refl _ _).drew) (fun hHeld => ?_)
    refine at_ordU (fun v => GB (fun _ => False) V v) hHeld (fun wu0 hNew => ?_)
    clear hHeld
    have hHeld := hNew
    clear hNew
    refine ordU_take (i := 0) (o := _) (v := ?vu1) rfl (by kernel_rfl) (by kernel_rfl) (by kernel_rfl) (by kernel_rfl) (fun _ _ _ h => h) (Or.inl ⟨by kernel_rfl, ?hyu1⟩) hHeld ?restu1
    case hyu1 => (intro w hSw; have kp0 := hSw.cell (fun h => h) p0; have kp1 := hSw.cell (fun h => h) p1; have kg0 := hSw.cell (fun h => h) g0; have kf0 := hSw.cell (fun h => h) f0; have kf1 := hSw.cell (fun h => h) f1; go_simp; first | done | (with_reducible rfl))
    try simp only [PPz]
    refine ordU_take (i := 1) (o := _) (v := ?vu2) rfl (by kernel_rfl) (by kernel_rfl) (by kernel_rfl) (by kernel_rfl) (fun _ _ _ h => h) (Or.inl ⟨by kernel_rfl, ?hyu2⟩) hHeld ?restu2
    case hyu2 => (intro w hSw; go_simp; first | done | (with_reducible rfl))
    try simp only [PPz]
    refine ordU_take (i := 2) (o := _) (v := ?vu3) rfl (by kernel_rfl) (by kernel_rfl) (by kernel_rfl) (by kernel_rfl) (fun _ _ _ h => h) (Or.inl ⟨by kernel_rfl, ?hyu3⟩) hHeld ?restu3
    case hyu3 => (intro w hSw; have kp0 := hSw.cell (fun h => h) p0; have kp1 := hSw.cell (fun h => h) p1; have kg0 := hSw.cell (fun h => h) g0; have kf0 := hSw.cell (fun h => h) f0; have kf1 := hSw.cell (fun h => h) f1; go_simp; first | done | (with_reducible rfl))
    try simp only [PPz]
    refine ordU_take (i := 3) (o := _) (v := ?vu4) rfl (by kernel_rfl) (by kernel_rfl) (by kernel_rfl) (by kernel_rfl) (fun _ _ _ h => h) (Or.inl ⟨by kernel_rfl, ?hyu4⟩) hHeld ?restu4
    case hyu4 => (intro w hSw; have kp0 := hSw.cell (fun h => h) p0; have kp1 := hSw.cell (fun h => h) p1; have kg0 := hSw.cell (fun h => h) g0; have kf0 := hSw.cell (fun h => h) f0; have kf1 := hSw.cell (fun h => h) f1; go_simp; first | done | (with_reducible rfl))
    try simp only [PPz]
    refine ordU_take (i := 4) (o := _) (v := ?vu5) rfl (by kernel_rfl) (by kernel_rfl) (by kernel_rfl) (by kernel_rfl) (fun _ _ _ h => h) (Or.inl ⟨by kernel_rfl, ?hyu5⟩) hHeld ?restu5
    case hyu5 => (intro w hSw; have kp0 := hSw.cell (fun h => h) p0; have kp1 := hSw.cell (fun h => h) p1; have kg0 := hSw.cell (fun h => h) g0; have kf0 := hSw.cell (fun h => h) f0; have kf1 := hSw.cell (fun h => h) f1; go_simp; first | done | (with_reducible rfl))
    try simp only [PPz]
    refine ordU_take (i := 5) (o := _) (v := ?vu6) rfl (by kernel_rfl) (by kernel_rfl) (by kernel_rfl) (by kernel_rfl) (fun _ _ _ h => h) (Or.inl ⟨by kernel_rfl, ?hyu6⟩) hHeld ?restu6
    case hyu6 => (intro w hSw; go_simp; first | done | (with_reducible rfl))
    try simp only [PPz]
    refine ordU_take (i := 6) (o := _) (v := ?vu7) rfl (by kernel_rfl) (by kernel_rfl) (by kernel_rfl) (by kernel_rfl) (fun _ _ _ h => h) (Or.inl ⟨by kernel_rfl, ?hyu7⟩) hHeld ?restu7
    case hyu7 => (intro w hSw; have kp0 := hSw.cell (fun h => h) p0; have kp1 := hSw.cell (fun h => h) p1; have kg0 := hSw.cell (fun h => h) g0; have kf0 := hSw.cell (fun h => h) f0; have kf1 := hSw.cell (fun h => h) f1; go_simp; first | done | (with_reducible rfl))
    try simp only [PPz]
    refine ordU_ready (rs := [7]) (by kernel_rfl) (by simp) (ReadyU.cons (o := _) rfl (by decide) (fun K hK => ?_) ReadyU.nil)
    go_simp
    refine (SR.out _ (hGB.below (hHeld.toBelow (Below.refl _ _) (fun k hk => hk.elim) (Nat.le_refl _)))).mono ?_
    rintro e wu8 ⟨rfl, hb3⟩
    go_wp2_with fail
    refine hK.out _ _ (hHeld.below hb3) (fun hNew => ?_)
    clear hb3
    clear hHeld hK K
    have hHeld := hNew
    clear hNew
    try simp only [PPz]
    refine ordU_ready (rs := [8]) (by kernel_rfl) (by simp) (ReadyU.cons (o := _) rfl (by decide) (fun K hK => ?_) ReadyU.nil)
    go_simp
    refine (MR.out _ (hGB.below (hHeld.toBelow (Below.refl _ _) (fun k hk => hk.elim) (Nat.le_refl _)))).mono ?_
    rintro e wu9 hput
    obtain ⟨A3, m3, ca3, Q3, nq3, cq3, cs3, rfl, hb3, hm3, hn3, hd3, hfd⟩ := hput.yes HE.out HT.out
    have HM3 := Lib.hid hm3
    have HN3 := Lib.hid hn3
    have HD3 := Lib.hid hd3
    clear hm3 hn3 hd3
    rw [HQX.out, HQY.out]
    have hm := Mid.refl wu8.heap.size wu9
    have hvw := hHeld.size
    go_wp2_with fail
    refine hK.out _ _ (hHeld.below hb3) (fun hNew => ?_)
    clear hb3
    clear hHeld hK K
    have hHeld := hNew
    clear hNew
    try simp only [PPz]
    refine ordU_take (i := 9) (o := _) (v := ?vu10) rfl (by kernel_rfl) (by kernel_rfl) (by kernel_rfl) (by kernel_rfl) (fun _ _ _ h => h) (Or.inl ⟨by kernel_rfl, ?hyu10⟩) hHeld ?restu10
    case hyu10 => (intro w hSw; go_simp; first | done | (with_reducible rfl))
    try simp only [PPz]
    refine ordU_take (i := 10) (o := _) (v := ?vu11) rfl (by kernel_rfl) (by kernel_rfl) (by kernel_rfl) (by kernel_rfl) (fun _ _ _ h => h) (Or.inl ⟨by kernel_rfl, ?hyu11⟩) hHeld ?restu11
    case hyu11 => (intro w hSw; go_simp; first | done | (with_reducible rfl))
    try simp only [PPz]
    refine ordU_take2 (i := 11) (o := _) (v := ?vu12) rfl (by kernel_rfl) (by kernel_rfl) (by kernel_rfl) (by decide) (fun  _ _ _ h => h) (Or.inl ⟨by kernel_rfl, ?hyu12⟩) (Or.inl ⟨by kernel_rfl, ?hzu12⟩) hHeld ?restu12
    case hyu12 => (intro w hSw; go_simp; first | done | (with_reducible rfl))
    case hzu12 => (intro w hSw; go_simp; first | done | (with_reducible rfl))
    try simp only [PPz]
    refine ordU_take2 (i := 12) (o := _) (v := ?vu13) rfl (by kernel_rfl) (by kernel_rfl) (by kernel_rfl) (by decide) (fun  _ _ _ h => h) (Or.inl ⟨by kernel_rfl, ?hyu13⟩) (Or.inl ⟨by kernel_rfl, ?hzu13⟩) hHeld ?restu13
    case hyu13 => (intro w hSw; go_simp; first | done | (with_reducible rfl))
    case hzu13 => (intro w hSw; go_simp; first | done | (with_reducible rfl))
    try simp only [PPz]
    refine ordU_at (by kernel_rfl) ?_
    replace B0 := B0.gb hHeld (fun h => h)
    replace B3 := B3.gb hHeld (fun h => h)
    replace hHeld : GB (fun k => k = w.heap.size ∨ k = w.heap.size + 3) V wu9 := hHeld.weak (fun k hk => hk.elim)
    refine rdy1 13 rfl (fun K hK => ?_)
    have n0 := B0.c 0 rfl
    have f0 := B0.f 0 rfl
    have n1 := B0.c 1 rfl
    have f1 := B0.f 1 rfl
    go_simp
    clear n0 f0 n1 f1
    refine hK.out _ _ ((hHeld.set (.inl (.inl rfl)) _).set (.inl (.inl rfl)) _) (fun hNew => ?_)
    clear hHeld hK K
    have hHeld := hNew
    clear hNew
    try simp only [PPz]
    refine at_anyH (fun v => GB (fun k => k = w.heap.size ∨ k = w.heap.size + 3) V v ∧ BK v (w.heap.size) [.slice A3 m3 ca3, .slice Q3 nq3 cq3] ∧ BK v (w.heap.size + 3) [.int .i64 (gg : Nat), .int .i64 a, .int .i64 b, .int .i64 x, .int .i64 y, .int .i64 (t : Nat)] ∧ Mid wu8.heap.size wu9 v) ⟨hHeld, ((B0.set 0 _).set 1 _), ((B3.far (by omega) _ _).far (by omega) _ _), ((hm.set (by omega) _).set (by omega) _)⟩ (fun wu14 hS => ?_)
    clear hHeld B0 B3 hm
    obtain ⟨hHeld, B0, B3, hm⟩ := hS
    refine tkn 14 ?vu15 rfl ?hyu15 hHeld ?restu15
    case hyu15 => (intro w hSw; go_simp; first | done | (with_reducible rfl))
    try simp only [PPz]
    refine rdy1 15 rfl (fun K hK => ?_)
    have n0 := B3.c 3 rfl
    have f0 := B3.f 3 rfl
    have n1 := B3.c 4 rfl
    have f1 := B3.f 4 rfl
    go_simp
    clear n0 f0 n1 f1
    refine hK.out _ _ ((hHeld.set (.inl (.inr rfl)) _).set (.inl (.inr rfl)) _) (fun hNew => ?_)
    clear hHeld hK K
    have hHeld := hNew
    clear hNew
    try simp only [PPz]
    refine at_anyH (fun v => GB (fun k => k = w.heap.size ∨ k = w.heap.size + 3) V v ∧ BK v (w.heap.size) [.slice A3 m3 ca3, .slice Q3 nq3 cq3] ∧ BK v (w.heap.size + 3) [.int .i64 (gg : Nat), .int .i64 a, .int .i64 b, .int .i64 mx, .int .i64 my, .int .i64 (t : Nat)] ∧ Mid wu8.heap.size wu9 v) ⟨hHeld, ((B0.far (by omega) _ _).far (by omega) _ _), ((B3.set 3 _).set 4 _), ((hm.set (by omega) _).set (by omega) _)⟩ (fun wu16 hS => ?_)
    clear hHeld B0 B3 hm
    obtain ⟨hHeld, B0, B3, hm⟩ := hS
    refine tkn 16 ?vu17 rfl ?hyu17 hHeld ?restu17
    case hyu17 => (intro w hSw; go_simp; first | done | (with_reducible rfl))
    try simp only [PPz]
    refine wpAnyH_done (by kernel_rfl) ?_ _
    refine NoPanic.normal ?_
    have hbb2 := hHeld.toBelow hbb (fun k hk => by omega) (by omega)
    have B1 := B1.gb hHeld (by omega)
    have B2 := B2.gb hHeld (by omega)
    have hfd2 := (hfd.mid hm).mono (show w.heap.size + 4 ≤ _ from by omega)
    clear hfd
    clear p0 p1 g0 f0 f1 hGB hbb hHeld
    have i3 : IntKind.i64.wrap ((h : Int) + 1) = (h : Int) + 1 := IntWalk.i64_in _ (by omega)
    go_wp2_with fail
    go_loopw [11] (fun x v => ∃ (k : Nat) (A3 : Option Addr) (ca3 : Nat) (cs3 : List CkR) (Q3 : Option Addr) (cq3 : Nat) (L3 : List Qr), x = .int .i64 (k : Nat) ∧ InS D n a b l R w h gg t k v A3 ca3 cs3 Q3 cq3 L3 mx my) (fun x _ => nl - (intOf x).toNat)
    case atStart =>
      refine ⟨h + 1, A3, ca3, cs3, Q3, cq3, L2 ++ [q], by go_num, by omega, by rw [HNL.out]; omega, HSC.out, ?_, HD3.out, hfd2, by rw [← HM3.out, ← HN3.out]; exact B0, B1, B2, B3, hbb2⟩
      rw [List.length_append]
      have := HLG.out
      have := HNL.out
      simp
      omega
    case round =>
      clear B0 B1 B2 B3 hbb2 hfd2 i1 i2 i3 HSC HE HT HLG
      obtain ⟨k, A3, ca3, cs3, Q3, cq3, L3, rfl, hI⟩ := hrel
      obtain ⟨wi, hwi⟩ : ∃ wi : World, wi = wr := ⟨_, rfl⟩
      subst hwi
      have hnl := HNL.out
      by_cases hlt : k < nl
      · have hkm : k < l.length := by omega
        have hgj := Ch.getD_mem hkm
        have hgk := keepC hI.bb (HG.out k hkm)
        obtain ⟨gj, hgjj⟩ : ∃ z, l.getD k 0 = z := ⟨_, rfl⟩
        rw [hgjj] at hgj hgk
        have hj := HF.out.lt gj hgj
        have hlen : cs3.length = D.length := by rw [← hI.dt, List.length_map]
        have hlq : L3.length < 2000 := by have := hI.lg; omega
        obtain ⟨hE, hT⟩ := Ch.put_V HF.out HGM.out hgj HC.out hlq
        have om := (HF.out.mark gg HGM.out).2
        have ov := (HF.out.val gg HGM.out gj hgj).2
        have gv := fun v (hv : Below wi.heap.size wi v) => tmgives_any A3 ca3 cs3 Q3 L3 cq3 gj (gg : Nat) a b (Ch.mkQ D n a b gg).1 (Ch.mkQ D n a b gg).2.1 (t : Nat) (Ch.qV D n a b gg gj) n v (hI.fd.isCs.keep hv) (hI.fd.isQs.keep hv) (by rw [hI.dt]; exact Ch.chk_up HC.out (by omega)) (by omega) (by rw [hlen]; exact HN.out) ia ib ⟨by have := om.2.2.1; omega, by have := om.2.2.2.1; omega⟩ ⟨by have := om.1; omega, by have := om.2.1; omega⟩ (by rw [hI.dt]; exact hE) (by rw [hI.dt]; exact hT) ov (by rw [hI.dt]; exact HSO.out gj hgj)
        rw [hI.dt] at gv
        have hz : decide (Ch.shq n (Ak.dAt D gj) < Rp.q (Ch.qV D n a b gg gj).x (Ch.qV D n a b gg gj).y) = Ch.mre D n a b gg gj := rfl
        rw [hz, HMX.out, HMY.out] at gv
        have hsc := hI.sc
        rw [Ch.drop_at hkm, hgjj] at hsc
        unfold Ch.scan at hsc
        obtain ⟨z, hzz⟩ : ∃ z, Ch.mre D n a b gg gj = z := ⟨_, rfl⟩
        rw [hzz] at gv hsc
        obtain ⟨q', hqq⟩ : ∃ z, Ch.qV D n a b gg gj = z := ⟨_, rfl⟩
        rw [hqq] at gv hsc
        have HSC := Lib.hid hsc
        have HKI := Lib.hid hI.hk
        have HLG := Lib.hid hI.lg
        have HGJ := Lib.hid hgjj
        have HLL := Lib.hid (show (L3 ++ [q']).length = L3.length + 1 by simp)
        have B0 := hI.b0
        have B1 := hI.b1
        have B2 := hI.b2
        have B3 := hI.b3
        have hbb := hI.bb
        obtain ⟨m3, hm3⟩ : ∃ z, cs3.length = z := ⟨_, rfl⟩
        obtain ⟨nq3, hnq3⟩ : ∃ z, L3.length = z := ⟨_, rfl⟩
        rw [hm3, hnq3] at gv B0
        have GIV := Lib.hid gv
        have i1 : (0 : Int) ≤ (k : Int) := by omega
        have i2 : (k : Int) < (nl : Int) := by omega
        have i3 : IntKind.i64.wrap ((k : Int) + 1) = (k : Int) + 1 := IntWalk.i64_in _ (by omega)
        have ht6 : t ≤ h := HTH.out
        have i4 : IntKind.i64.wrap ((t : Int) + 1) = (t : Int) + 1 := IntWalk.i64_in _ (by omega)
        have d0 := B0.lt
        have d3 := B3.lt
        have hV4 : w.heap.size + 4 ≤ wi.heap.size := by omega
        clear gv hE hT hm3 hnq3 hqq hzz hsc hz hgjj hgj hj hlen hlq om ov hI hkm hnl
        go_upto_region 14 with fail
        have p0 := B0.c 0 rfl
        have p1 := B0.c 1 rfl
        have t0 := B3.c 0 rfl
        have t1 := B3.c 1 rfl
        have t2 := B3.c 2 rfl
        have t3 := B3.c 3 rfl
        have t4 := B3.c 4 rfl
        have t5 := B3.c 5 rfl
        have gk := hgk
        refine wp_region_noPanic ?_
        refine region_ordU (S := (GB (fun _ => False) wi)) (GB (fun k => k = w.heap.size) wi) 11 (by kernel_rfl) ((GB.refl _ _).drew) (fun hHeld => ?_)
        refine at_ordU (fun v => GB (fun _ => False) wi v) hHeld (fun wx0 hNew => ?_)
        clear hHeld
        have hHeld := hNew
        clear hNew
        refine ordU_take (i := 0) (o := _) (v := ?vx1) rfl (by kernel_rfl) (by kernel_rfl) (by kernel_rfl) (by kernel_rfl) (fun _ _ _ h => h) (Or.inl ⟨by kernel_rfl, ?hyx1⟩) hHeld ?restx1
        case hyx1 => (intro w hSw; have kp0 := hSw.cell (fun h => h) p0; have kp1 := hSw.cell (fun h => h) p1; have kgk := hSw.cell (fun h => h) gk; have kt0 := hSw.cell (fun h => h) t0; have kt1 := hSw.cell (fun h => h) t1; have kt2 := hSw.cell (fun h => h) t2; have kt3 := hSw.cell (fun h => h) t3; have kt4 := hSw.cell (fun h => h) t4; have kt5 := hSw.cell (fun h => h) t5; go_simp; first | done | (with_reducible rfl))
        try simp only [PPz]
        refine ordU_take (i := 1) (o := _) (v := ?vx2) rfl (by kernel_rfl) (by kernel_rfl) (by kernel_rfl) (by kernel_rfl) (fun _ _ _ h => h) (Or.inl ⟨by kernel_rfl, ?hyx2⟩) hHeld ?restx2
        case hyx2 => (intro w hSw; go_simp; first | done | (with_reducible rfl))
        try simp only [PPz]
        refine ordU_take (i := 2) (o := _) (v := ?vx3) rfl (by kernel_rfl) (by kernel_rfl) (by kernel_rfl) (by kernel_rfl) (fun _ _ _ h => h) (Or.inl ⟨by kernel_rfl, ?hyx3⟩) hHeld ?restx3
        case hyx3 => (intro w hSw; go_simp; first | done | (with_reducible rfl))
        try simp only [PPz]
        refine ordU_take (i := 3) (o := _) (v := ?vx4) rfl (by kernel_rfl) (by kernel_rfl) (by kernel_rfl) (by kernel_rfl) (fun _ _ _ h => h) (Or.inl ⟨by kernel_rfl, ?hyx4⟩) hHeld ?restx4
        case hyx4 => (intro w hSw; go_simp; first | done | (with_reducible rfl))
        try simp only [PPz]
        refine ordU_take (i := 4) (o := _) (v := ?vx5) rfl (by kernel_rfl) (by kernel_rfl) (by kernel_rfl) (by kernel_rfl) (fun _ _ _ h => h) (Or.inl ⟨by kernel_rfl, ?hyx5⟩) hHeld ?restx5
        case hyx5 => (intro w hSw; have kp0 := hSw.cell (fun h => h) p0; have kp1 := hSw.cell (fun h => h) p1; have kgk := hSw.cell (fun h => h) gk; have kt0 := hSw.cell (fun h => h) t0; have kt1 := hSw.cell (fun h => h) t1; have kt2 := hSw.cell (fun h => h) t2; have kt3 := hSw.cell (fun h => h) t3; have kt4 := hSw.cell (fun h => h) t4; have kt5 := hSw.cell (fun h => h) t5; go_simp; first | done | (with_reducible rfl))
        try simp only [PPz]
        refine ordU_take (i := 5) (o := _) (v := ?vx6) rfl (by kernel_rfl) (by kernel_rfl) (by kernel_rfl) (by kernel_rfl) (fun _ _ _ h => h) (Or.inl ⟨by kernel_rfl, ?hyx6⟩) hHeld ?restx6
        case hyx6 => (intro w hSw; have kp0 := hSw.cell (fun h => h) p0; have kp1 := hSw.cell (fun h => h) p1; have kgk := hSw.cell (fun h => h) gk; have kt0 := hSw.cell (fun h => h) t0; have kt1 := hSw.cell (fun h => h) t1; have kt2 := hSw.cell (fun h => h) t2; have kt3 := hSw.cell (fun h => h) t3; have kt4 := hSw.cell (fun h => h) t4; have kt5 := hSw.cell (fun h => h) t5; go_simp; first | done | (with_reducible rfl))
        try simp only [PPz]
        refine ordU_ready (rs := [6]) (by kernel_rfl) (by simp) (ReadyU.cons (o := _) rfl (by decide) (fun K hK => ?_) ReadyU.nil)
        go_simp
        refine (GIV.out _ (hHeld.toBelow (Below.refl _ _) (fun k hk => hk.elim) (Nat.le_refl _))).mono ?_
        rintro e wx7 ⟨A4, m4, ca4, Q4, nq4, cq4, cs4, rfl, hb3, hm4, hn4, hd4, hfd4⟩
        have HM4 := Lib.hid hm4
        have HN4 := Lib.hid hn4
        have HD4 := Lib.hid hd4
        clear hm4 hn4 hd4
        have hm := Mid.refl wx0.heap.size wx7
        have hvw := hHeld.size
        go_wp2_with fail
        refine hK.out _ _ (hHeld.below hb3) (fun hNew => ?_)
        clear hb3
        clear hHeld hK K
        have hHeld := hNew
        clear hNew
        try simp only [PPz]
        refine ordU_take (i := 7) (o := _) (v := ?vx8) rfl (by kernel_rfl) (by kernel_rfl) (by kernel_rfl) (by kernel_rfl) (fun _ _ _ h => h) (Or.inl ⟨by kernel_rfl, ?hyx8⟩) hHeld ?restx8
        case hyx8 => (intro w hSw; go_simp; first | done | (with_reducible rfl))
        try simp only [PPz]
        refine ordU_take (i := 8) (o := _) (v := ?vx9) rfl (by kernel_rfl) (by kernel_rfl) (by kernel_rfl) (by kernel_rfl) (fun _ _ _ h => h) (Or.inl ⟨by kernel_rfl, ?hyx9⟩) hHeld ?restx9
        case hyx9 => (intro w hSw; go_simp; first | done | (with_reducible rfl))
        try simp only [PPz]
        refine ordU_take2 (i := 9) (o := _) (v := ?vx10) rfl (by kernel_rfl) (by kernel_rfl) (by kernel_rfl) (by decide) (fun  _ _ _ h => h) (Or.inl ⟨by kernel_rfl, ?hyx10⟩) (Or.inl ⟨by kernel_rfl, ?hzx10⟩) hHeld ?restx10
        case hyx10 => (intro w hSw; go_simp; first | done | (with_reducible rfl))
        case hzx10 => (intro w hSw; go_simp; first | done | (with_reducible rfl))
        try simp only [PPz]
        refine ordU_take2 (i := 10) (o := _) (v := ?vx11) rfl (by kernel_rfl) (by kernel_rfl) (by kernel_rfl) (by decide) (fun  _ _ _ h => h) (Or.inl ⟨by kernel_rfl, ?hyx11⟩) (Or.inl ⟨by kernel_rfl, ?hzx11⟩) hHeld ?restx11
        case hyx11 => (intro w hSw; go_simp; first | done | (with_reducible rfl))
        case hzx11 => (intro w hSw; go_simp; first | done | (with_reducible rfl))
        try simp only [PPz]
        refine ordU_at (by kernel_rfl) ?_
        replace B0 := B0.gb hHeld (fun h => h)
        replace hHeld : GB (fun k => k = w.heap.size) wi wx7 := hHeld.weak (fun k hk => hk.elim)
        refine rdy1 11 rfl (fun K hK => ?_)
        have n0 := B0.c 0 rfl
        have f0 := B0.f 0 rfl
        have n1 := B0.c 1 rfl
        have f1 := B0.f 1 rfl
        go_simp
        clear n0 f0 n1 f1
        refine hK.out _ _ ((hHeld.set (.inl rfl) _).set (.inl rfl) _) (fun hNew => ?_)
        clear hHeld hK K
        have hHeld := hNew
        clear hNew
        try simp only [PPz]
        refine at_anyH (fun v => GB (fun k => k = w.heap.size) wi v ∧ BK v (w.heap.size) [.slice A4 m4 ca4, .slice Q4 nq4 cq4] ∧ Mid wx0.heap.size wx7 v) ⟨hHeld, ((B0.set 0 _).set 1 _), ((hm.set (by omega) _).set (by omega) _)⟩ (fun wx12 hS => ?_)
        clear hHeld B0 hm
        obtain ⟨hHeld, B0, hm⟩ := hS
        refine tkn 12 ?vx13 rfl ?hyx13 hHeld ?restx13
        case hyx13 => (intro w hSw; go_simp; first | done | (with_reducible rfl))
        try simp only [PPz]
        refine tkn 13 ?vx14 rfl ?hyx14 hHeld ?restx14
        case hyx14 => (intro w hSw; go_simp; first | done | (with_reducible rfl))
        try simp only [PPz]
        refine wpAnyH_done (by kernel_rfl) ?_ _
        refine NoPanic.normal ?_
        have hbb2 := hHeld.toBelow hbb (fun k hk => by omega) (by omega)
        have B1 := B1.gb hHeld (by omega)
        have B2 := B2.gb hHeld (by omega)
        have B3 := B3.gb hHeld (by omega)
        have hfd2 := (hfd4.mid hm).mono (show w.heap.size + 4 ≤ _ from by omega)
        clear hfd4
        clear p0 p1 t0 t1 t2 t3 t4 t5 gk hgk hbb hHeld
        have d0 := B0.lt
        have d3 := B3.lt
        cases z
        · go_wp2_with fail
          go_roundw
          case rel =>
            refine ⟨k + 1, A4, ca4, cs4, Q4, cq4, L3 ++ [q'], by go_num, by have := HKI.out; omega, by rw [HNL.out]; omega, HSC.out, ?_, HD4.out, hfd2, by rw [← HM4.out, ← HN4.out]; exact B0, B1, B2, B3, hbb2⟩
            rw [HLL.out]
            have := HLG.out
            have := HNL.out
            omega
          case measure => (simp [intOf] <;> omega)
        · have t5 := B3.c 5 rfl
          have f5 := B3.f 5 rfl
          go_wp2_with fail
          go_roundw
          case rel =>
            refine ⟨k, t + 1, A4, ca4, cs4, Q4, cq4, L3 ++ [q'], (gg : Nat), mx, my, by go_num, by rw [HNL.out]; exact hlt, by have := HKI.out; omega, by rw [HGJ.out]; exact HSC.out, ?_, HD4.out, fun u hu => ⟨(FD.keep_gb (hfd2.set (by omega) _) hu (fun k hk => hk.2)).isCs, (FD.keep_gb (hfd2.set (by omega) _) hu (fun k hk => hk.2)).isQs⟩, by rw [← HM4.out, ← HN4.out]; exact B0.far (by omega) _ _, B1.far (by omega) _ _, B2.far (by omega) _ _, B3.set 5 _, below_set hbb2 (by omega) _⟩
            rw [HLL.out]
            have := HLG.out
            have := HNL.out
            omega
          case measure => (simp [intOf] <;> (have := HKI.out; omega))
      · have hke : k = l.length := by have := hI.km; omega
        have hsc := hI.sc
        rw [hke, List.drop_length] at hsc
        unfold Ch.scan at hsc
        have hfd := hI.fd
        have hdt := hI.dt
        have B0 := hI.b0
        have B2 := hI.b2
        have B3 := hI.b3
        have hbb := hI.bb
        obtain ⟨m3, hm3⟩ : ∃ z, cs3.length = z := ⟨_, rfl⟩
        obtain ⟨nq3, hnq3⟩ : ∃ z, L3.length = z := ⟨_, rfl⟩
        rw [hm3, hnq3] at B0
        have HM3 := Lib.hid hm3
        have HN3 := Lib.hid hnq3
        have HSC := Lib.hid hsc
        have HDT := Lib.hid hdt
        have i2 : ¬ (k : Int) < (nl : Int) := by omega
        have d2 := B2.lt
        clear hm3 hnq3 hsc hdt hI hke hnl
        have r0 := B2.c 0 rfl
        have r1 := B2.c 1 rfl
        have r2 := B2.c 2 rfl
        have r3 := B2.c 3 rfl
        have r4 := B2.c 4 rfl
        have r5 := B2.c 5 rfl
        have r6 := B2.c 6 rfl
        have r7 := B2.c 7 rfl
        have s0 := B2.f 0 rfl
        have s1 := B2.f 1 rfl
        have s2 := B2.f 2 rfl
        have s3 := B2.f 3 rfl
        have s4 := B2.f 4 rfl
        have s5 := B2.f 5 rfl
        have s6 := B2.f 6 rfl
        have s7 := B2.f 7 rfl
        have t0 := B3.c 0 rfl
        have t1 := B3.c 1 rfl
        have t2 := B3.c 2 rfl
        have t3 := B3.c 3 rfl
        have t4 := B3.c 4 rfl
        have t5 := B3.c 5 rfl
        have p0 := B0.c 0 rfl
        have p1 := B0.c 1 rfl
        go_wp2_with fail
        have eR : R.1 = gg ∧ R.2.1 = t ∧ R.2.2 = L3 := by rw [← HSC.out]; exact ⟨rfl, rfl, rfl⟩
        exact bodyPost_ret (v := .tuple #[.agg #[.slice A3 m3 ca3, .slice Q3 nq3 cq3, .int .i64 (gg : Nat), .int .i64 a, .int .i64 b, .int .i64 mx, .int .i64 my, .int .i64 (t : Nat)], .int .i64 0]) (by simp [results, Tryz.results67, go_sem, r0, r1, r2, r3, r4, r5, r6, r7]) rfl ⟨A3, m3, ca3, Q3, nq3, cq3, cs3, by rw [eR.1, eR.2.1, HMX.out, HMY.out], (below_set (below_set (below_set (below_set (below_set (below_set (below_set (below_set hbb (by omega) _) (by omega) _) (by omega) _) (by omega) _) (by omega) _) (by omega) _) (by omega) _) (by omega) _), HM3.out.symm, by rw [eR.2.2]; exact HN3.out.symm, HDT.out, by rw [eR.2.2]; exact (((((((((hfd.set (by omega) _).set (by omega) _).set (by omega) _).set (by omega) _).set (by omega) _).set (by omega) _).set (by omega) _).set (by omega) _).mono (by omega))⟩
end Go.Proofs.YtpcdggkajindbaaGreat

