/- Package trim: played. Package trim: everybody; slices.DeleteFunc at ints. Package trim: everybody; rounds. Package trim: a round of one agent; rounds one behind the other. -/
import Derived.Test.YtpcdggkajindbaaGreatGzz
import Derived.WalkMore
import Derived.Test.YtpcdggkajindbaaGreatGh
import Derived.Lib.SliceRun
namespace Go.Proofs.YtpcdggkajindbaaGreat
open Go.RowKit
/-- At the head of the outer loop: the agent number h is to mark. -/
structure OuS (D : List CkD) (n a b : Int) (l : List Nat) (R : Nat × Nat × List Qr) (w : World) (h t : Nat) (v : World) (A : Option Addr) (ca : Nat) (cs : List CkR) (Q : Option Addr) (cq : Nat) (L : List Qr) (tg x y : Int) : Prop where
  hm : h < l.length
  th : t ≤ h
  sc : Ch.scan D n a b (l.drop (h + 1)) (l.getD h 0) t (L ++ [Ch.qM D n a b (l.getD h 0)]) = R
  lg : L.length + 2 * (l.length - h) ≤ 2001
  dt : cs.map Ak.dat = D
  c : ∀ u, GB (fun k => w.heap.size ≤ k ∧ k < w.heap.size + 4) v u → IsCs u A cs ∧ IsQs u Q L
  b0 : BK v w.heap.size [.slice A cs.length ca, .slice Q L.length cq]
  b1 : BK v (w.heap.size + 1) [.int .i64 a, .int .i64 b]
  b2 : BK v (w.heap.size + 2) [.slice none 0 0, .slice none 0 0, .int .i64 0, .int .i64 0, .int .i64 0, .int .i64 0, .int .i64 0, .int .i64 0]
  b3 : BK v (w.heap.size + 3) [.int .i64 tg, .int .i64 a, .int .i64 b, .int .i64 x, .int .i64 y, .int .i64 (t : Nat)]
  bb : Below w.heap.size w v
/-- At the head of the inner loop: the agent g holds the piece, the agent number k is to be asked. -/
structure InS (D : List CkD) (n a b : Int) (l : List Nat) (R : Nat × Nat × List Qr) (w : World) (h g t k : Nat) (v : World) (A : Option Addr) (ca : Nat) (cs : List CkR) (Q : Option Addr) (cq : Nat) (L : List Qr) (x y : Int) : Prop where
  hk : h < k
  km : k ≤ l.length
  sc : Ch.scan D n a b (l.drop k) g t L = R
  lg : L.length + 2 * (l.length - k) ≤ 2000
  dt : cs.map Ak.dat = D
  fd : FD v (w.heap.size + 4) A ca cs Q cq L
  b0 : BK v w.heap.size [.slice A cs.length ca, .slice Q L.length cq]
  b1 : BK v (w.heap.size + 1) [.int .i64 a, .int .i64 b]
  b2 : BK v (w.heap.size + 2) [.slice none 0 0, .slice none 0 0, .int .i64 0, .int .i64 0, .int .i64 0, .int .i64 0, .int .i64 0, .int .i64 0]
  b3 : BK v (w.heap.size + 3) [.int .i64 (g : Nat), .int .i64 a, .int .i64 b, .int .i64 x, .int .i64 y, .int .i64 (t : Nat)]
  bb : Below w.heap.size w v
/-- What a round gives. -/
def PlQ (D : List CkD) (a b : Int) (i t : Nat) (x y : Int) (L : List Qr) (w : World) (e : Ending) (w' : World) : Prop :=
  ∃ (A : Option Addr) (m ca : Nat) (Q : Option Addr) (nq cq : Nat) (cs : List CkR), e = .returned (.tuple #[.agg #[.slice A m ca, .slice Q nq cq, .int .i64 (i : Nat), .int .i64 a, .int .i64 b, .int .i64 x, .int .i64 y, .int .i64 (t : Nat)], .int .i64 0]) ∧ Below w.heap.size w w' ∧ m = cs.length ∧ nq = L.length ∧ cs.map Ak.dat = D ∧ FD w' w.heap.size A ca cs Q cq L
set_option linter.unusedSimpArgs false in
set_option maxHeartbeats 8000000 in
set_option maxRecDepth 100000 in
theorem tmplayed_any (A : Option Addr) (ca : Nat) (cs : List CkR) (Q : Option Addr) (qs : List Qr) (cq : Nat) (g off cg : Nat) (l : List Nat) (D : List CkD) (n a b : Int) (R : Nat × Nat × List Qr) (w : World) (h : IsCs w A cs) (hq : IsQs w Q qs) (hD : cs.map Ak.dat = D) (hc : Ak.chkS D 0 = 0) (hn : n = (D.length : Nat))
    (hG : ∀ k, k < l.length → w.cell? ⟨g, off + k, none⟩ = some (.int .i64 ((l.getD k 0 : Nat) : Int))) (h2 : 2 ≤ l.length) (h6 : l.length ≤ 6) (hlg : qs.length + 2 * l.length ≤ 2001) (ia : I64 a) (ib : I64 b) (F : Ch.RFit D n a b l) (hR : Ch.scan D n a b (l.drop 1) (l.getD 0 0) 0 (qs ++ [Ch.qM D n a b (l.getD 0 0)]) = R) :
    Calls Tryz.prog 67 #[.agg #[.slice A cs.length ca, .slice Q qs.length cq], .slice (some ⟨g, off, none⟩) l.length cg, .agg #[.int .i64 a, .int .i64 b]] w (PlQ D a b R.1 R.2.1 (Ch.mkQ D n a b R.1).1 (Ch.mkQ D n a b R.1).2.1 R.2.2 w) := by
  have hgd := Ak.chkS_good hc
  have hsok : ∀ j, j ∈ l → Rp.Ok (Ch.sh n (Ak.dAt D j)).1 (Ch.sh n (Ak.dAt D j)).2.1 := fun j hj => by
    have hlt := F.lt j hj
    have hm : Ak.dAt D j ∈ D := by unfold Ak.dAt; simp [hlt]
    exact (Ch.sh_ok (hgd.all _ hm) (by have := hgd.l0; omega) (by have := hgd.l1; omega)).2.1
  have HG := Lib.hid hG; have HC := Lib.hid hc; have HN := Lib.hid hn; have HF := Lib.hid F; have HSO := Lib.hid hsok; have e0 : ((0 : Int) != 0) = false := rfl
  have S0 : ∀ v, Below w.heap.size w v → BK v w.heap.size [.slice A cs.length ca, .slice Q qs.length cq] → BK v (w.heap.size + 1) [.int .i64 a, .int .i64 b] → BK v (w.heap.size + 2) [.slice none 0 0, .slice none 0 0, .int .i64 0, .int .i64 0, .int .i64 0, .int .i64 0, .int .i64 0, .int .i64 0] → BK v (w.heap.size + 3) [.int .i64 0, .int .i64 a, .int .i64 b, .int .i64 0, .int .i64 0, .int .i64 0] → OuS D n a b l R w 0 0 v A ca cs Q cq qs 0 0 0 := fun v hv b0 b1 b2 b3 => ⟨by omega, Nat.le_refl _, hR, by omega, hD, fun u hu => ⟨h.keep (hu.toBelow hv (fun k hk => hk.1) hv.size), hq.keep (hu.toBelow hv (fun k hk => hk.1) hv.size)⟩, b0, b1, b2, b3, hv⟩
  have HS0 := Lib.hid S0
  have t1 : (((l.length : Nat) : Int) == 1) = false := by rw [beq_eq_false_iff_ne]; omega
  obtain ⟨nc, hnc⟩ : ∃ z, cs.length = z := ⟨_, rfl⟩; obtain ⟨nq, hnq⟩ : ∃ z, qs.length = z := ⟨_, rfl⟩; obtain ⟨nl, hnl⟩ : ∃ z, l.length = z := ⟨_, rfl⟩; rw [hnl] at t1 h6; rw [hnc, hnq, hnl]; have HNC := Lib.hid hnc; have HNQ := Lib.hid hnq; have HNL := Lib.hid hnl; have T1 := Lib.hid t1; clear hG hc hn F hsok S0 t1 hnc hnq hnl hgd h hq hD hR hlg h2
  unfold PlQ
  go_enter Tryz.func67, Tryz.ntmps67
  go_upto_region 1 with fail
  refine at_worldQ (fun v => Below w.heap.size w v ∧ BK v (w.heap.size) [.slice A nc ca, .slice Q nq cq] ∧ BK v (w.heap.size + 1) [.int .i64 a, .int .i64 b] ∧ BK v (w.heap.size + 2) [.slice none 0 0, .slice none 0 0, .int .i64 0, .int .i64 0, .int .i64 0, .int .i64 0, .int .i64 0, .int .i64 0] ∧ v.heap.size = w.heap.size + 3) ⟨(below_al (below_al (below_al (Below.refl _ _) _) _) _), (by have b := (((BK.new w [.slice A nc ca, .slice Q nq cq] 65).al (.cells #[.int .i64 a, .int .i64 b] 44)).al (.cells #[.slice none 0 0, .slice none 0 0, .int .i64 0, .int .i64 0, .int .i64 0, .int .i64 0, .int .i64 0, .int .i64 0] 101)); simpa only [World.size_alloc] using b), (by have b := ((BK.new (w.alloc (.cells #[.slice A nc ca, .slice Q nq cq] 65)) [.int .i64 a, .int .i64 b] 44).al (.cells #[.slice none 0 0, .slice none 0 0, .int .i64 0, .int .i64 0, .int .i64 0, .int .i64 0, .int .i64 0, .int .i64 0] 101)); simpa only [World.size_alloc] using b), (by have b := (BK.new ((w.alloc (.cells #[.slice A nc ca, .slice Q nq cq] 65)).alloc (.cells #[.int .i64 a, .int .i64 b] 44)) [.slice none 0 0, .slice none 0 0, .int .i64 0, .int .i64 0, .int .i64 0, .int .i64 0, .int .i64 0, .int .i64 0] 101); simpa only [World.size_alloc] using b), by simp only [World.size_alloc]⟩ (fun V hS => ?_); obtain ⟨hbb, B0, B1, B2, hVs⟩ := hS; have f0 := B1.c 0 rfl; have f1 := B1.c 1 rfl; have t1 := T1.out
  go_step3
  go_upto_region 4 with fail
  clear t1 T1; refine at_worldQ (fun v => OuS D n a b l R w 0 0 v A ca cs Q cq qs 0 0 0) (HS0.out _ (below_al hbb _) (by rw [HNC.out, HNQ.out]; exact B0.al _) (B1.al _) (B2.al _) (by have b := BK.new V [.int .i64 0, .int .i64 a, .int .i64 b, .int .i64 0, .int .i64 0, .int .i64 0] 57; rw [hVs] at b; exact b)) (fun V4 hS => ?_); clear hbb B0 B1 B2 f0 f1 hVs HS0; (go_wp2_with fail)
  go_step3
  go_wp2_with fail
  go_loopw [9] (fun x v => ∃ (h t : Nat) (A2 : Option Addr) (ca2 : Nat) (cs2 : List CkR) (Q2 : Option Addr) (cq2 : Nat) (L2 : List Qr) (tg x0 y0 : Int), x = .int .i64 (h : Nat) ∧ OuS D n a b l R w h t v A2 ca2 cs2 Q2 cq2 L2 tg x0 y0) (fun x _ => nl - (intOf x).toNat)
  case atStart => exact ⟨0, 0, A, ca, cs, Q, cq, qs, 0, 0, 0, rfl, hS⟩
  case round =>
    clear hS; obtain ⟨h, t, A2, ca2, cs2, Q2, cq2, L2, tg, x, y, rfl, hO⟩ := hrel; obtain ⟨wo, hwo⟩ : ∃ wo : World, wo = wr := ⟨_, rfl⟩; subst hwo; obtain ⟨m2, hm2⟩ : ∃ z, cs2.length = z := ⟨_, rfl⟩; obtain ⟨nq2, hnq2⟩ : ∃ z, L2.length = z := ⟨_, rfl⟩; have hm := hO.hm; have hgm := Ch.getD_mem hO.hm; have hgc := keepC hO.bb (HG.out h hO.hm); obtain ⟨gg, hgg⟩ : ∃ z, l.getD h 0 = z := ⟨_, rfl⟩; rw [hgg] at hgm hgc; have hj := HF.out.lt gg hgm
    have hlen : cs2.length = D.length := by rw [← hO.dt, List.length_map]
    have hlq : L2.length < 2000 := by have := hO.lg; omega
    obtain ⟨hE, hT⟩ := Ch.put_M HF.out hgm HC.out hlq; have hOq := (hO.c wo (GB.refl _ _)).2.len
    have mr := fun v (hv : GB (fun k => w.heap.size ≤ k ∧ k < w.heap.size + 4) wo v) => askMark_any A2 ca2 cs2 Q2 L2 cq2 (gg : Nat) a b (Ch.sh n (Ak.dAt D gg)).1 (Ch.sh n (Ak.dAt D gg)).2.1 v (hO.c v hv).1 (hO.c v hv).2 ⟨by omega, by have := HC.out; have := (Ak.chkS_good this).l1; omega⟩ ia ib ⟨by have := (HSO.out gg hgm).2.2.1; omega, by have := (HSO.out gg hgm).2.2.2.1; omega⟩ ⟨by have := (HSO.out gg hgm).1; omega, by have := (HSO.out gg hgm).2.1; omega⟩
    have sr := fun v (hv : GB (fun k => w.heap.size ≤ k ∧ k < w.heap.size + 4) wo v) => tmshare_any A2 ca2 cs2 Q2 L2.length cq2 gg n v (hO.c v hv).1 hOq (by rw [hO.dt]; exact Ch.chk_up HC.out (by omega)) (by omega) (by rw [hlen]; exact HN.out)
    rw [hO.dt] at mr sr; obtain ⟨s1, hs1⟩ : ∃ z, (Ch.sh n (Ak.dAt D gg)).1 = z := ⟨_, rfl⟩; obtain ⟨s2, hs2⟩ : ∃ z, (Ch.sh n (Ak.dAt D gg)).2.1 = z := ⟨_, rfl⟩; obtain ⟨q, hqq⟩ : ∃ z, Ch.qM D n a b gg = z := ⟨_, rfl⟩; obtain ⟨mx, hqx⟩ : ∃ z, (Ch.mkQ D n a b gg).1 = z := ⟨_, rfl⟩; obtain ⟨my, hqy⟩ : ∃ z, (Ch.mkQ D n a b gg).2.1 = z := ⟨_, rfl⟩
    have hx : q.x = mx := by rw [← hqq, ← hqx]; rfl
    have hy : q.y = my := by rw [← hqq, ← hqy]; rfl
    rw [hs1, hs2, hqq] at hT; rw [hs1, hs2] at hE mr sr; have HSC := Lib.hid (show Ch.scan D n a b (l.drop (h + 1)) gg t (L2 ++ [q]) = R by rw [← hqq, ← hgg]; exact hO.sc); have HE := Lib.hid hE; have HT := Lib.hid hT; have HQX := Lib.hid hx; have HQY := Lib.hid hy; have HMX := Lib.hid hqx; have HMY := Lib.hid hqy; have HTH := Lib.hid hO.th; have HLG := Lib.hid hO.lg; have HGM := Lib.hid hgm; have B0 := hO.b0; have B1 := hO.b1; have B2 := hO.b2; have B3 := hO.b3; have hbb := hO.bb; rw [hm2, hnq2] at mr B0; rw [hm2, hnq2] at sr; have HNQ2 := Lib.hid hnq2; have SR := Lib.hid sr; have MR := Lib.hid mr
    have i1 : (0 : Int) ≤ (h : Int) := by omega
    have hmn : h < nl := by have := HNL.out; omega
    have i2 : (h : Int) < (nl : Int) := by omega
    have d0 := B0.lt; have d3 := B3.lt; have g0 := B3.c 0 rfl; have g0f := B3.f 0 rfl; clear mr sr hE hT hx hy hqx hqy hs1 hs2 hqq hgg hgm hj hlen hlq hm2 hnq2 hm hO
    go_upto_region 7 with fail
    refine at_worldQ (fun v => Below w.heap.size w v ∧ BK v w.heap.size [.slice A2 m2 ca2, .slice Q2 nq2 cq2] ∧ BK v (w.heap.size + 1) [.int .i64 a, .int .i64 b] ∧ BK v (w.heap.size + 2) [.slice none 0 0, .slice none 0 0, .int .i64 0, .int .i64 0, .int .i64 0, .int .i64 0, .int .i64 0, .int .i64 0] ∧ BK v (w.heap.size + 3) [.int .i64 (gg : Nat), .int .i64 a, .int .i64 b, .int .i64 x, .int .i64 y, .int .i64 (t : Nat)] ∧ GB (fun k => w.heap.size ≤ k ∧ k < w.heap.size + 4) wo v ∧ w.heap.size + 4 ≤ v.heap.size) ⟨below_set hbb (by omega) _, B0.far (by omega) _ _, B1.far (by omega) _ _, B2.far (by omega) _ _, B3.set 0 _, (GB.refl (fun k => w.heap.size ≤ k ∧ k < w.heap.size + 4) wo).set (.inl ⟨by omega, by omega⟩) _, by simp; omega⟩ (fun V hS => ?_); clear hbb B0 B1 B2 B3 g0 g0f d0 d3 hgc; obtain ⟨hbb, B0, B1, B2, B3, hGB, hV4⟩ := hS; have p0 := B0.c 0 rfl; have p1 := B0.c 1 rfl; have g0 := B3.c 0 rfl; have f0 := B1.c 0 rfl; have f1 := B1.c 1 rfl; refine wp_region_noPanic ?_; refine region_ordU (S := (GB (fun _ => False) V)) (GB (fun k => k = w.heap.size ∨ k = w.heap.size + 3) V) 13 (by kernel_rfl) ((GB.refl _ _).drew) (fun hHeld => ?_); refine at_ordU (fun v => GB (fun _ => False) V v) hHeld (fun wu0 hNew => ?_); clear hHeld; have hHeld := hNew; clear hNew; refine ordU_take (i := 0) (o := _) (v := ?vu1) rfl (by kernel_rfl) (by kernel_rfl) (by kernel_rfl) (by kernel_rfl) (fun _ _ _ h => h) (Or.inl ⟨by kernel_rfl, ?hyu1⟩) hHeld ?restu1
    case hyu1 => (intro w hSw; have kp0 := hSw.cell (fun h => h) p0; have kp1 := hSw.cell (fun h => h) p1; have kg0 := hSw.cell (fun h => h) g0; have kf0 := hSw.cell (fun h => h) f0; have kf1 := hSw.cell (fun h => h) f1; go_simp; first | done | (with_reducible rfl))
    (try simp only [PPz]); refine ordU_take (i := 1) (o := _) (v := ?vu2) rfl (by kernel_rfl) (by kernel_rfl) (by kernel_rfl) (by kernel_rfl) (fun _ _ _ h => h) (Or.inl ⟨by kernel_rfl, ?hyu2⟩) hHeld ?restu2
    case hyu2 => (intro w hSw; go_simp; first | done | (with_reducible rfl))
    (try simp only [PPz]); refine ordU_take (i := 2) (o := _) (v := ?vu3) rfl (by kernel_rfl) (by kernel_rfl) (by kernel_rfl) (by kernel_rfl) (fun _ _ _ h => h) (Or.inl ⟨by kernel_rfl, ?hyu3⟩) hHeld ?restu3
    case hyu3 => (intro w hSw; have kp0 := hSw.cell (fun h => h) p0; have kp1 := hSw.cell (fun h => h) p1; have kg0 := hSw.cell (fun h => h) g0; have kf0 := hSw.cell (fun h => h) f0; have kf1 := hSw.cell (fun h => h) f1; go_simp; first | done | (with_reducible rfl))
    (try simp only [PPz]); refine ordU_take (i := 3) (o := _) (v := ?vu4) rfl (by kernel_rfl) (by kernel_rfl) (by kernel_rfl) (by kernel_rfl) (fun _ _ _ h => h) (Or.inl ⟨by kernel_rfl, ?hyu4⟩) hHeld ?restu4
    case hyu4 => (intro w hSw; have kp0 := hSw.cell (fun h => h) p0; have kp1 := hSw.cell (fun h => h) p1; have kg0 := hSw.cell (fun h => h) g0; have kf0 := hSw.cell (fun h => h) f0; have kf1 := hSw.cell (fun h => h) f1; go_simp; first | done | (with_reducible rfl))
    (try simp only [PPz]); refine ordU_take (i := 4) (o := _) (v := ?vu5) rfl (by kernel_rfl) (by kernel_rfl) (by kernel_rfl) (by kernel_rfl) (fun _ _ _ h => h) (Or.inl ⟨by kernel_rfl, ?hyu5⟩) hHeld ?restu5
    case hyu5 => (intro w hSw; have kp0 := hSw.cell (fun h => h) p0; have kp1 := hSw.cell (fun h => h) p1; have kg0 := hSw.cell (fun h => h) g0; have kf0 := hSw.cell (fun h => h) f0; have kf1 := hSw.cell (fun h => h) f1; go_simp; first | done | (with_reducible rfl))
    (try simp only [PPz]); refine ordU_take (i := 5) (o := _) (v := ?vu6) rfl (by kernel_rfl) (by kernel_rfl) (by kernel_rfl) (by kernel_rfl) (fun _ _ _ h => h) (Or.inl ⟨by kernel_rfl, ?hyu6⟩) hHeld ?restu6
    case hyu6 => (intro w hSw; go_simp; first | done | (with_reducible rfl))
    (try simp only [PPz]); refine ordU_take (i := 6) (o := _) (v := ?vu7) rfl (by kernel_rfl) (by kernel_rfl) (by kernel_rfl) (by kernel_rfl) (fun _ _ _ h => h) (Or.inl ⟨by kernel_rfl, ?hyu7⟩) hHeld ?restu7
    case hyu7 => (intro w hSw; have kp0 := hSw.cell (fun h => h) p0; have kp1 := hSw.cell (fun h => h) p1; have kg0 := hSw.cell (fun h => h) g0; have kf0 := hSw.cell (fun h => h) f0; have kf1 := hSw.cell (fun h => h) f1; go_simp; first | done | (with_reducible rfl))
    (try simp only [PPz]); refine ordU_ready (rs := [7]) (by kernel_rfl) (by simp) (ReadyU.cons (o := _) rfl (by decide) (fun K hK => ?_) ReadyU.nil); go_simp; refine (SR.out _ (hGB.below (hHeld.toBelow (Below.refl _ _) (fun k hk => hk.elim) (Nat.le_refl _)))).mono ?_; rintro e wu8 ⟨rfl, hb3⟩; (go_wp2_with fail); refine hK.out _ _ (hHeld.below hb3) (fun hNew => ?_); clear hb3; clear hHeld hK K; have hHeld := hNew; clear hNew; (try simp only [PPz]); refine ordU_ready (rs := [8]) (by kernel_rfl) (by simp) (ReadyU.cons (o := _) rfl (by decide) (fun K hK => ?_) ReadyU.nil); go_simp; refine (MR.out _ (hGB.below (hHeld.toBelow (Below.refl _ _) (fun k hk => hk.elim) (Nat.le_refl _)))).mono ?_; rintro e wu9 hput; obtain ⟨A3, m3, ca3, Q3, nq3, cq3, cs3, rfl, hb3, hm3, hn3, hd3, hfd⟩ := hput.yes HE.out HT.out; have HM3 := Lib.hid hm3; have HN3 := Lib.hid hn3; have HD3 := Lib.hid hd3; clear hm3 hn3 hd3; rw [HQX.out, HQY.out]; have hm := Mid.refl wu8.heap.size wu9; have hvw := hHeld.size; (go_wp2_with fail); refine hK.out _ _ (hHeld.below hb3) (fun hNew => ?_); clear hb3; clear hHeld hK K; have hHeld := hNew; clear hNew; (try simp only [PPz]); refine ordU_take (i := 9) (o := _) (v := ?vu10) rfl (by kernel_rfl) (by kernel_rfl) (by kernel_rfl) (by kernel_rfl) (fun _ _ _ h => h) (Or.inl ⟨by kernel_rfl, ?hyu10⟩) hHeld ?restu10
    case hyu10 => (intro w hSw; go_simp; first | done | (with_reducible rfl))
    (try simp only [PPz]); refine ordU_take (i := 10) (o := _) (v := ?vu11) rfl (by kernel_rfl) (by kernel_rfl) (by kernel_rfl) (by kernel_rfl) (fun _ _ _ h => h) (Or.inl ⟨by kernel_rfl, ?hyu11⟩) hHeld ?restu11
    case hyu11 => (intro w hSw; go_simp; first | done | (with_reducible rfl))
    (try simp only [PPz]); refine ordU_take2 (i := 11) (o := _) (v := ?vu12) rfl (by kernel_rfl) (by kernel_rfl) (by kernel_rfl) (by decide) (fun  _ _ _ h => h) (Or.inl ⟨by kernel_rfl, ?hyu12⟩) (Or.inl ⟨by kernel_rfl, ?hzu12⟩) hHeld ?restu12
    case hyu12 => (intro w hSw; go_simp; first | done | (with_reducible rfl))
    case hzu12 => (intro w hSw; go_simp; first | done | (with_reducible rfl))
    (try simp only [PPz]); refine ordU_take2 (i := 12) (o := _) (v := ?vu13) rfl (by kernel_rfl) (by kernel_rfl) (by kernel_rfl) (by decide) (fun  _ _ _ h => h) (Or.inl ⟨by kernel_rfl, ?hyu13⟩) (Or.inl ⟨by kernel_rfl, ?hzu13⟩) hHeld ?restu13
    case hyu13 => (intro w hSw; go_simp; first | done | (with_reducible rfl))
    case hzu13 => (intro w hSw; go_simp; first | done | (with_reducible rfl))
    (try simp only [PPz]); refine ordU_at (by kernel_rfl) ?_; replace B0 := B0.gb hHeld (fun h => h); replace B3 := B3.gb hHeld (fun h => h); replace hHeld : GB (fun k => k = w.heap.size ∨ k = w.heap.size + 3) V wu9 := hHeld.weak (fun k hk => hk.elim); refine rdy1 13 rfl (fun K hK => ?_); have n0 := B0.c 0 rfl; have f0 := B0.f 0 rfl; have n1 := B0.c 1 rfl; have f1 := B0.f 1 rfl; go_simp; clear n0 f0 n1 f1; refine hK.out _ _ ((hHeld.set (.inl (.inl rfl)) _).set (.inl (.inl rfl)) _) (fun hNew => ?_); clear hHeld hK K; have hHeld := hNew; clear hNew; (try simp only [PPz]); refine at_anyH (fun v => GB (fun k => k = w.heap.size ∨ k = w.heap.size + 3) V v ∧ BK v (w.heap.size) [.slice A3 m3 ca3, .slice Q3 nq3 cq3] ∧ BK v (w.heap.size + 3) [.int .i64 (gg : Nat), .int .i64 a, .int .i64 b, .int .i64 x, .int .i64 y, .int .i64 (t : Nat)] ∧ Mid wu8.heap.size wu9 v) ⟨hHeld, ((B0.set 0 _).set 1 _), ((B3.far (by omega) _ _).far (by omega) _ _), ((hm.set (by omega) _).set (by omega) _)⟩ (fun wu14 hS => ?_); clear hHeld B0 B3 hm; obtain ⟨hHeld, B0, B3, hm⟩ := hS; refine tkn 14 ?vu15 rfl ?hyu15 hHeld ?restu15
    case hyu15 => (intro w hSw; go_simp; first | done | (with_reducible rfl))
    (try simp only [PPz]); refine rdy1 15 rfl (fun K hK => ?_); have n0 := B3.c 3 rfl; have f0 := B3.f 3 rfl; have n1 := B3.c 4 rfl; have f1 := B3.f 4 rfl; go_simp; clear n0 f0 n1 f1; refine hK.out _ _ ((hHeld.set (.inl (.inr rfl)) _).set (.inl (.inr rfl)) _) (fun hNew => ?_); clear hHeld hK K; have hHeld := hNew; clear hNew; (try simp only [PPz]); refine at_anyH (fun v => GB (fun k => k = w.heap.size ∨ k = w.heap.size + 3) V v ∧ BK v (w.heap.size) [.slice A3 m3 ca3, .slice Q3 nq3 cq3] ∧ BK v (w.heap.size + 3) [.int .i64 (gg : Nat), .int .i64 a, .int .i64 b, .int .i64 mx, .int .i64 my, .int .i64 (t : Nat)] ∧ Mid wu8.heap.size wu9 v) ⟨hHeld, ((B0.far (by omega) _ _).far (by omega) _ _), ((B3.set 3 _).set 4 _), ((hm.set (by omega) _).set (by omega) _)⟩ (fun wu16 hS => ?_); clear hHeld B0 B3 hm; obtain ⟨hHeld, B0, B3, hm⟩ := hS; refine tkn 16 ?vu17 rfl ?hyu17 hHeld ?restu17
    case hyu17 => (intro w hSw; go_simp; first | done | (with_reducible rfl))
    (try simp only [PPz]); refine wpAnyH_done (by kernel_rfl) ?_ _; refine NoPanic.normal ?_; have hbb2 := hHeld.toBelow hbb (fun k hk => by omega) (by omega); have B1 := B1.gb hHeld (by omega); have B2 := B2.gb hHeld (by omega); have hfd2 := (hfd.mid hm).mono (show w.heap.size + 4 ≤ _ from by omega); clear hfd; clear p0 p1 g0 f0 f1 hGB hbb hHeld; have i3 : IntKind.i64.wrap ((h : Int) + 1) = (h : Int) + 1 := IntWalk.i64_in _ (by omega); (go_wp2_with fail)
    go_loopw [11] (fun x v => ∃ (k : Nat) (A3 : Option Addr) (ca3 : Nat) (cs3 : List CkR) (Q3 : Option Addr) (cq3 : Nat) (L3 : List Qr), x = .int .i64 (k : Nat) ∧ InS D n a b l R w h gg t k v A3 ca3 cs3 Q3 cq3 L3 mx my) (fun x _ => nl - (intOf x).toNat)
    case atStart =>
      refine ⟨h + 1, A3, ca3, cs3, Q3, cq3, L2 ++ [q], by go_num, by omega, by rw [HNL.out]; omega, HSC.out, ?_, HD3.out, hfd2, by rw [← HM3.out, ← HN3.out]; exact B0, B1, B2, B3, hbb2⟩; rw [List.length_append]; have := HLG.out; have := HNL.out
      simp
      omega
    case round =>
      clear B0 B1 B2 B3 hbb2 hfd2 i1 i2 i3 HSC HE HT HLG; obtain ⟨k, A3, ca3, cs3, Q3, cq3, L3, rfl, hI⟩ := hrel; obtain ⟨wi, hwi⟩ : ∃ wi : World, wi = wr := ⟨_, rfl⟩; subst hwi; have hnl := HNL.out
      by_cases hlt : k < nl
      · have hkm : k < l.length := by omega
        have hgj := Ch.getD_mem hkm; have hgk := keepC hI.bb (HG.out k hkm); obtain ⟨gj, hgjj⟩ : ∃ z, l.getD k 0 = z := ⟨_, rfl⟩; rw [hgjj] at hgj hgk; have hj := HF.out.lt gj hgj
        have hlen : cs3.length = D.length := by rw [← hI.dt, List.length_map]
        have hlq : L3.length < 2000 := by have := hI.lg; omega
        obtain ⟨hE, hT⟩ := Ch.put_V HF.out HGM.out hgj HC.out hlq; have om := (HF.out.mark gg HGM.out).2; have ov := (HF.out.val gg HGM.out gj hgj).2
        have gv := fun v (hv : Below wi.heap.size wi v) => tmgives_any A3 ca3 cs3 Q3 L3 cq3 gj (gg : Nat) a b (Ch.mkQ D n a b gg).1 (Ch.mkQ D n a b gg).2.1 (t : Nat) (Ch.qV D n a b gg gj) n v (hI.fd.isCs.keep hv) (hI.fd.isQs.keep hv) (by rw [hI.dt]; exact Ch.chk_up HC.out (by omega)) (by omega) (by rw [hlen]; exact HN.out) ia ib ⟨by have := om.2.2.1; omega, by have := om.2.2.2.1; omega⟩ ⟨by have := om.1; omega, by have := om.2.1; omega⟩ (by rw [hI.dt]; exact hE) (by rw [hI.dt]; exact hT) ov (by rw [hI.dt]; exact HSO.out gj hgj)
        rw [hI.dt] at gv; have hz : decide (Ch.shq n (Ak.dAt D gj) < Rp.q (Ch.qV D n a b gg gj).x (Ch.qV D n a b gg gj).y) = Ch.mre D n a b gg gj := rfl; rw [hz, HMX.out, HMY.out] at gv; have hsc := hI.sc; rw [Ch.drop_at hkm, hgjj] at hsc
        unfold Ch.scan at hsc
        obtain ⟨z, hzz⟩ : ∃ z, Ch.mre D n a b gg gj = z := ⟨_, rfl⟩; rw [hzz] at gv hsc; obtain ⟨q', hqq⟩ : ∃ z, Ch.qV D n a b gg gj = z := ⟨_, rfl⟩; rw [hqq] at gv hsc; have HSC := Lib.hid hsc; have HKI := Lib.hid hI.hk; have HLG := Lib.hid hI.lg; have HGJ := Lib.hid hgjj; have HLL := Lib.hid (show (L3 ++ [q']).length = L3.length + 1 by simp); have B0 := hI.b0; have B1 := hI.b1; have B2 := hI.b2; have B3 := hI.b3; have hbb := hI.bb; obtain ⟨m3, hm3⟩ : ∃ z, cs3.length = z := ⟨_, rfl⟩; obtain ⟨nq3, hnq3⟩ : ∃ z, L3.length = z := ⟨_, rfl⟩; rw [hm3, hnq3] at gv B0; have GIV := Lib.hid gv
        have i1 : (0 : Int) ≤ (k : Int) := by omega
        have i2 : (k : Int) < (nl : Int) := by omega
        have i3 : IntKind.i64.wrap ((k : Int) + 1) = (k : Int) + 1 := IntWalk.i64_in _ (by omega); have ht6 : t ≤ h := HTH.out; have i4 : IntKind.i64.wrap ((t : Int) + 1) = (t : Int) + 1 := IntWalk.i64_in _ (by omega); have d0 := B0.lt; have d3 := B3.lt
        have hV4 : w.heap.size + 4 ≤ wi.heap.size := by omega
        clear gv hE hT hm3 hnq3 hqq hzz hsc hz hgjj hgj hj hlen hlq om ov hI hkm hnl
        go_upto_region 14 with fail
        have p0 := B0.c 0 rfl; have p1 := B0.c 1 rfl; have t0 := B3.c 0 rfl; have t1 := B3.c 1 rfl; have t2 := B3.c 2 rfl; have t3 := B3.c 3 rfl; have t4 := B3.c 4 rfl; have t5 := B3.c 5 rfl; have gk := hgk; refine wp_region_noPanic ?_; refine region_ordU (S := (GB (fun _ => False) wi)) (GB (fun k => k = w.heap.size) wi) 11 (by kernel_rfl) ((GB.refl _ _).drew) (fun hHeld => ?_); refine at_ordU (fun v => GB (fun _ => False) wi v) hHeld (fun wx0 hNew => ?_); clear hHeld; have hHeld := hNew; clear hNew; refine ordU_take (i := 0) (o := _) (v := ?vx1) rfl (by kernel_rfl) (by kernel_rfl) (by kernel_rfl) (by kernel_rfl) (fun _ _ _ h => h) (Or.inl ⟨by kernel_rfl, ?hyx1⟩) hHeld ?restx1
        case hyx1 => (intro w hSw; have kp0 := hSw.cell (fun h => h) p0; have kp1 := hSw.cell (fun h => h) p1; have kgk := hSw.cell (fun h => h) gk; have kt0 := hSw.cell (fun h => h) t0; have kt1 := hSw.cell (fun h => h) t1; have kt2 := hSw.cell (fun h => h) t2; have kt3 := hSw.cell (fun h => h) t3; have kt4 := hSw.cell (fun h => h) t4; have kt5 := hSw.cell (fun h => h) t5; go_simp; first | done | (with_reducible rfl))
        (try simp only [PPz]); refine ordU_take (i := 1) (o := _) (v := ?vx2) rfl (by kernel_rfl) (by kernel_rfl) (by kernel_rfl) (by kernel_rfl) (fun _ _ _ h => h) (Or.inl ⟨by kernel_rfl, ?hyx2⟩) hHeld ?restx2
        case hyx2 => (intro w hSw; go_simp; first | done | (with_reducible rfl))
        (try simp only [PPz]); refine ordU_take (i := 2) (o := _) (v := ?vx3) rfl (by kernel_rfl) (by kernel_rfl) (by kernel_rfl) (by kernel_rfl) (fun _ _ _ h => h) (Or.inl ⟨by kernel_rfl, ?hyx3⟩) hHeld ?restx3
        case hyx3 => (intro w hSw; go_simp; first | done | (with_reducible rfl))
        (try simp only [PPz]); refine ordU_take (i := 3) (o := _) (v := ?vx4) rfl (by kernel_rfl) (by kernel_rfl) (by kernel_rfl) (by kernel_rfl) (fun _ _ _ h => h) (Or.inl ⟨by kernel_rfl, ?hyx4⟩) hHeld ?restx4
        case hyx4 => (intro w hSw; go_simp; first | done | (with_reducible rfl))
        (try simp only [PPz]); refine ordU_take (i := 4) (o := _) (v := ?vx5) rfl (by kernel_rfl) (by kernel_rfl) (by kernel_rfl) (by kernel_rfl) (fun _ _ _ h => h) (Or.inl ⟨by kernel_rfl, ?hyx5⟩) hHeld ?restx5
        case hyx5 => (intro w hSw; have kp0 := hSw.cell (fun h => h) p0; have kp1 := hSw.cell (fun h => h) p1; have kgk := hSw.cell (fun h => h) gk; have kt0 := hSw.cell (fun h => h) t0; have kt1 := hSw.cell (fun h => h) t1; have kt2 := hSw.cell (fun h => h) t2; have kt3 := hSw.cell (fun h => h) t3; have kt4 := hSw.cell (fun h => h) t4; have kt5 := hSw.cell (fun h => h) t5; go_simp; first | done | (with_reducible rfl))
        (try simp only [PPz]); refine ordU_take (i := 5) (o := _) (v := ?vx6) rfl (by kernel_rfl) (by kernel_rfl) (by kernel_rfl) (by kernel_rfl) (fun _ _ _ h => h) (Or.inl ⟨by kernel_rfl, ?hyx6⟩) hHeld ?restx6
        case hyx6 => (intro w hSw; have kp0 := hSw.cell (fun h => h) p0; have kp1 := hSw.cell (fun h => h) p1; have kgk := hSw.cell (fun h => h) gk; have kt0 := hSw.cell (fun h => h) t0; have kt1 := hSw.cell (fun h => h) t1; have kt2 := hSw.cell (fun h => h) t2; have kt3 := hSw.cell (fun h => h) t3; have kt4 := hSw.cell (fun h => h) t4; have kt5 := hSw.cell (fun h => h) t5; go_simp; first | done | (with_reducible rfl))
        (try simp only [PPz]); refine ordU_ready (rs := [6]) (by kernel_rfl) (by simp) (ReadyU.cons (o := _) rfl (by decide) (fun K hK => ?_) ReadyU.nil); go_simp; refine (GIV.out _ (hHeld.toBelow (Below.refl _ _) (fun k hk => hk.elim) (Nat.le_refl _))).mono ?_; rintro e wx7 ⟨A4, m4, ca4, Q4, nq4, cq4, cs4, rfl, hb3, hm4, hn4, hd4, hfd4⟩; have HM4 := Lib.hid hm4; have HN4 := Lib.hid hn4; have HD4 := Lib.hid hd4; clear hm4 hn4 hd4; have hm := Mid.refl wx0.heap.size wx7; have hvw := hHeld.size; (go_wp2_with fail); refine hK.out _ _ (hHeld.below hb3) (fun hNew => ?_); clear hb3; clear hHeld hK K; have hHeld := hNew; clear hNew; (try simp only [PPz]); refine ordU_take (i := 7) (o := _) (v := ?vx8) rfl (by kernel_rfl) (by kernel_rfl) (by kernel_rfl) (by kernel_rfl) (fun _ _ _ h => h) (Or.inl ⟨by kernel_rfl, ?hyx8⟩) hHeld ?restx8
        case hyx8 => (intro w hSw; go_simp; first | done | (with_reducible rfl))
        (try simp only [PPz]); refine ordU_take (i := 8) (o := _) (v := ?vx9) rfl (by kernel_rfl) (by kernel_rfl) (by kernel_rfl) (by kernel_rfl) (fun _ _ _ h => h) (Or.inl ⟨by kernel_rfl, ?hyx9⟩) hHeld ?restx9
        case hyx9 => (intro w hSw; go_simp; first | done | (with_reducible rfl))
        (try simp only [PPz]); refine ordU_take2 (i := 9) (o := _) (v := ?vx10) rfl (by kernel_rfl) (by kernel_rfl) (by kernel_rfl) (by decide) (fun  _ _ _ h => h) (Or.inl ⟨by kernel_rfl, ?hyx10⟩) (Or.inl ⟨by kernel_rfl, ?hzx10⟩) hHeld ?restx10
        case hyx10 => (intro w hSw; go_simp; first | done | (with_reducible rfl))
        case hzx10 => (intro w hSw; go_simp; first | done | (with_reducible rfl))
        (try simp only [PPz]); refine ordU_take2 (i := 10) (o := _) (v := ?vx11) rfl (by kernel_rfl) (by kernel_rfl) (by kernel_rfl) (by decide) (fun  _ _ _ h => h) (Or.inl ⟨by kernel_rfl, ?hyx11⟩) (Or.inl ⟨by kernel_rfl, ?hzx11⟩) hHeld ?restx11
        case hyx11 => (intro w hSw; go_simp; first | done | (with_reducible rfl))
        case hzx11 => (intro w hSw; go_simp; first | done | (with_reducible rfl))
        (try simp only [PPz]); refine ordU_at (by kernel_rfl) ?_; replace B0 := B0.gb hHeld (fun h => h); replace hHeld : GB (fun k => k = w.heap.size) wi wx7 := hHeld.weak (fun k hk => hk.elim); refine rdy1 11 rfl (fun K hK => ?_); have n0 := B0.c 0 rfl; have f0 := B0.f 0 rfl; have n1 := B0.c 1 rfl; have f1 := B0.f 1 rfl; go_simp; clear n0 f0 n1 f1; refine hK.out _ _ ((hHeld.set (.inl rfl) _).set (.inl rfl) _) (fun hNew => ?_); clear hHeld hK K; have hHeld := hNew; clear hNew; (try simp only [PPz]); refine at_anyH (fun v => GB (fun k => k = w.heap.size) wi v ∧ BK v (w.heap.size) [.slice A4 m4 ca4, .slice Q4 nq4 cq4] ∧ Mid wx0.heap.size wx7 v) ⟨hHeld, ((B0.set 0 _).set 1 _), ((hm.set (by omega) _).set (by omega) _)⟩ (fun wx12 hS => ?_); clear hHeld B0 hm; obtain ⟨hHeld, B0, hm⟩ := hS; refine tkn 12 ?vx13 rfl ?hyx13 hHeld ?restx13
        case hyx13 => (intro w hSw; go_simp; first | done | (with_reducible rfl))
        (try simp only [PPz]); refine tkn 13 ?vx14 rfl ?hyx14 hHeld ?restx14
        case hyx14 => (intro w hSw; go_simp; first | done | (with_reducible rfl))
        (try simp only [PPz]); refine wpAnyH_done (by kernel_rfl) ?_ _; refine NoPanic.normal ?_; have hbb2 := hHeld.toBelow hbb (fun k hk => by omega) (by omega); have B1 := B1.gb hHeld (by omega); have B2 := B2.gb hHeld (by omega); have B3 := B3.gb hHeld (by omega); have hfd2 := (hfd4.mid hm).mono (show w.heap.size + 4 ≤ _ from by omega); clear hfd4; clear p0 p1 t0 t1 t2 t3 t4 t5 gk hgk hbb hHeld; have d0 := B0.lt; have d3 := B3.lt
        cases z
        · go_wp2_with fail
          go_roundw
          case rel =>
            refine ⟨k + 1, A4, ca4, cs4, Q4, cq4, L3 ++ [q'], by go_num, by have := HKI.out; omega, by rw [HNL.out]; omega, HSC.out, ?_, HD4.out, hfd2, by rw [← HM4.out, ← HN4.out]; exact B0, B1, B2, B3, hbb2⟩; rw [HLL.out]; have := HLG.out; have := HNL.out
            omega
          case measure => (simp [intOf] <;> omega)
        · have t5 := B3.c 5 rfl
          have f5 := B3.f 5 rfl; (go_wp2_with fail)
          go_roundw
          case rel =>
            refine ⟨k, t + 1, A4, ca4, cs4, Q4, cq4, L3 ++ [q'], (gg : Nat), mx, my, by go_num, by rw [HNL.out]; exact hlt, by have := HKI.out; omega, by rw [HGJ.out]; exact HSC.out, ?_, HD4.out, fun u hu => ⟨(FD.keep_gb (hfd2.set (by omega) _) hu (fun k hk => hk.2)).isCs, (FD.keep_gb (hfd2.set (by omega) _) hu (fun k hk => hk.2)).isQs⟩, by rw [← HM4.out, ← HN4.out]; exact B0.far (by omega) _ _, B1.far (by omega) _ _, B2.far (by omega) _ _, B3.set 5 _, below_set hbb2 (by omega) _⟩; rw [HLL.out]; have := HLG.out; have := HNL.out
            omega
          case measure => (simp [intOf] <;> (have := HKI.out; omega))
      · have hke : k = l.length := by have := hI.km; omega
        have hsc := hI.sc; rw [hke, List.drop_length] at hsc
        unfold Ch.scan at hsc
        have hfd := hI.fd; have hdt := hI.dt; have B0 := hI.b0; have B2 := hI.b2; have B3 := hI.b3; have hbb := hI.bb; obtain ⟨m3, hm3⟩ : ∃ z, cs3.length = z := ⟨_, rfl⟩; obtain ⟨nq3, hnq3⟩ : ∃ z, L3.length = z := ⟨_, rfl⟩; rw [hm3, hnq3] at B0; have HM3 := Lib.hid hm3; have HN3 := Lib.hid hnq3; have HSC := Lib.hid hsc; have HDT := Lib.hid hdt
        have i2 : ¬ (k : Int) < (nl : Int) := by omega
        have d2 := B2.lt; clear hm3 hnq3 hsc hdt hI hke hnl; have r0 := B2.c 0 rfl; have r1 := B2.c 1 rfl; have r2 := B2.c 2 rfl; have r3 := B2.c 3 rfl; have r4 := B2.c 4 rfl; have r5 := B2.c 5 rfl; have r6 := B2.c 6 rfl; have r7 := B2.c 7 rfl; have s0 := B2.f 0 rfl; have s1 := B2.f 1 rfl; have s2 := B2.f 2 rfl; have s3 := B2.f 3 rfl; have s4 := B2.f 4 rfl; have s5 := B2.f 5 rfl; have s6 := B2.f 6 rfl; have s7 := B2.f 7 rfl; have t0 := B3.c 0 rfl; have t1 := B3.c 1 rfl; have t2 := B3.c 2 rfl; have t3 := B3.c 3 rfl; have t4 := B3.c 4 rfl; have t5 := B3.c 5 rfl; have p0 := B0.c 0 rfl; have p1 := B0.c 1 rfl; (go_wp2_with fail)
        have eR : R.1 = gg ∧ R.2.1 = t ∧ R.2.2 = L3 := by rw [← HSC.out]; exact ⟨rfl, rfl, rfl⟩
        exact bodyPost_ret (v := .tuple #[.agg #[.slice A3 m3 ca3, .slice Q3 nq3 cq3, .int .i64 (gg : Nat), .int .i64 a, .int .i64 b, .int .i64 mx, .int .i64 my, .int .i64 (t : Nat)], .int .i64 0]) (by simp [results, Tryz.results67, go_sem, r0, r1, r2, r3, r4, r5, r6, r7]) rfl ⟨A3, m3, ca3, Q3, nq3, cq3, cs3, by rw [eR.1, eR.2.1, HMX.out, HMY.out], (below_set (below_set (below_set (below_set (below_set (below_set (below_set (below_set hbb (by omega) _) (by omega) _) (by omega) _) (by omega) _) (by omega) _) (by omega) _) (by omega) _) (by omega) _), HM3.out.symm, by rw [eR.2.2]; exact HN3.out.symm, HDT.out, by rw [eR.2.2]; exact (((((((((hfd.set (by omega) _).set (by omega) _).set (by omega) _).set (by omega) _).set (by omega) _).set (by omega) _).set (by omega) _).set (by omega) _).mono (by omega))⟩
end Go.Proofs.YtpcdggkajindbaaGreat
namespace Go.Proofs.YtpcdggkajindbaaGreat
open Go.RowKit
set_option linter.unusedSimpArgs false in
set_option maxHeartbeats 8000000 in
set_option maxRecDepth 100000 in
theorem tmdel1_any (x hh : Int) (p : Nat) (w : World) (hc : w.cell? ⟨p, 2, none⟩ = some (.int .i64 hh)) :
    Calls Tryz.prog 69 #[.int .i64 x, .pointer (some ⟨p, 0, none⟩)] w fun e w' => e = .returned (.bool (x == hh)) ∧ Below w.heap.size w w' := by
  go_enter Tryz.func69, Tryz.ntmps69
  go_wp2_with fail
  go_ret
  exact ⟨rfl, Below.refl _ _⟩
theorem bk_int {w : World} {g : Nat} {zs : List Int} (h : BK w g (zs.map (Value.int .i64))) {k : Nat} (hk : k < zs.length) : w.cell? ⟨g, k, none⟩ = some (.int .i64 (zs.getD k 0)) ∧ w.frozen? ⟨g, k, none⟩ = false := by
  have e : (zs.map (Value.int .i64))[k]? = some (.int .i64 (zs.getD k 0)) := by simp [hk]
  exact ⟨h.c k e, h.f k e⟩
set_option linter.unusedSimpArgs false in
set_option maxHeartbeats 8000000 in
set_option maxRecDepth 100000 in
theorem tmindex_any (g cap : Nat) (zs : List Int) (q : Nat) (hh : Int) (p : Nat) (w : World) (hB : BK w g (zs.map (Value.int .i64))) (hq : q < zs.length) (h6 : zs.length ≤ 6) (he : zs.getD q 0 = hh) (hne : ∀ k, k < q → zs.getD k 0 ≠ hh) (hc : w.cell? ⟨p, 2, none⟩ = some (.int .i64 hh)) :
    Calls Tryz.prog 101 #[.slice (some ⟨g, 0, none⟩) zs.length cap, .func (.func 69) #[] #[.pointer (some ⟨p, 0, none⟩)]] w fun e w' => e = .returned (.int .i64 (q : Nat)) ∧ Below w.heap.size w w' := by
  have HB := Lib.hid hB; have HE := Lib.hid he; have HNE := Lib.hid hne; have HCE := Lib.hid hc; obtain ⟨m, hm⟩ : ∃ z, zs.length = z := ⟨_, rfl⟩; rw [hm] at hq h6 ⊢; have HM := Lib.hid hm; clear hB he hne hc hm
  go_enter Tryz.func101, Tryz.ntmps101
  go_wp2_with fail
  go_loopw [5, 8] (fun _ i W => ∃ k : Nat, k ≤ q ∧ i = .int .i64 k ∧ Below w.heap.size w W) (fun _ i _ => m - (intOf i).toNat)
  case atStart => exact ⟨0, Nat.zero_le _, rfl, Below.refl _ _⟩
  case round =>
    obtain ⟨k, hk, rfl, hbb⟩ := hrel; have c0 := keepC hbb (bk_int HB.out (k := k) (by rw [HM.out]; omega)).1; obtain ⟨x, hx⟩ : ∃ x, zs.getD k 0 = x := ⟨_, rfl⟩; rw [hx] at c0
    have i1 : (0 : Int) ≤ (k : Int) := by omega
    have i2 : (k : Int) < (m : Int) := by omega
    have hv := tmdel1_any x hh p wr (keepC hbb HCE.out)
    by_cases hkq : k = q
    · subst hkq
      have e : (x == hh) = true := by rw [← hx, HE.out]; simp
      rw [e] at hv; have HV := Lib.hid hv; clear hv e hx; (go_wp2_with fail); refine HV.out.mono ?_; rintro e w1 ⟨rfl, hb1⟩; replace hbb := keepB hbb hb1; clear hb1; (go_wp2_with fail)
      go_ret
      exact ⟨rfl, hbb⟩
    · have e : (x == hh) = false := by rw [beq_eq_false_iff_ne, ← hx]; exact HNE.out k (by omega)
      rw [e] at hv; have HV := Lib.hid hv; clear hv e hx; (go_wp2_with fail); refine HV.out.mono ?_; rintro e w1 ⟨rfl, hb1⟩; replace hbb := keepB hbb hb1; clear hb1 c0; (go_wp2_with fail)
      go_roundw
      case rel => exact ⟨k + 1, by omega, by go_num, hbb⟩
      case measure => simp [intOf]; omega
theorem getD_ge {l : List Int} {k : Nat} (h : k < l.length) : l.getD k 0 = l[k] := by simp [h]
namespace Ch
/-- A list in which what stands behind place q has moved one to the front, as far as place j. -/
def mvd (zs : List Int) (q j : Nat) : List Int := (List.range zs.length).map fun (k : Nat) => if q ≤ k ∧ k + 1 < j then zs.getD (k + 1) 0 else zs.getD k 0
theorem mvd_len (zs : List Int) (q j : Nat) : (mvd zs q j).length = zs.length := by unfold mvd; simp
theorem mvd_at (zs : List Int) (q j : Nat) {k : Nat} (hk : k < zs.length) : (mvd zs q j).getD k 0 = if q ≤ k ∧ k + 1 < j then zs.getD (k + 1) 0 else zs.getD k 0 := by
  unfold mvd
  simp [hk]
theorem mvd_start (zs : List Int) (q : Nat) : mvd zs q (q + 1) = zs := by
  refine List.ext_getElem (mvd_len _ _ _) fun k h1 h2 => ?_
  have := mvd_at zs q (q + 1) h2; rw [if_neg (by omega)] at this
  simpa [h1, h2] using this
theorem mvd_step (zs : List Int) (q j : Nat) (_ : j < zs.length) (hq : q < j) : (mvd zs q j).set (j - 1) (zs.getD j 0) = mvd zs q (j + 1) := by
  refine List.ext_getElem (by simp [mvd_len]) fun k h1 h2 => ?_
  have hk : k < zs.length := by rw [mvd_len] at h2; exact h2
  have a := mvd_at zs q j hk; have b := mvd_at zs q (j + 1) hk
  have h3 : k < (mvd zs q j).length := by rw [mvd_len]; exact hk
  rw [getD_ge h3] at a; rw [getD_ge h2] at b; rw [List.getElem_set, b]
  by_cases e : j - 1 = k
  · rw [if_pos e, if_pos (by omega), show k + 1 = j by omega]
  · rw [if_neg e, a]
    by_cases c : q ≤ k ∧ k + 1 < j
    · rw [if_pos c, if_pos (by omega)]
    · rw [if_neg c, if_neg (by omega)]
theorem mvd_end (zs : List Int) (q : Nat) (hq : q < zs.length) {k : Nat} (hk : k + 1 < zs.length) : (mvd zs q zs.length).getD k 0 = (zs.eraseIdx q).getD k 0 := by
  rw [mvd_at zs q zs.length (by omega)]
  have hl : k < (zs.eraseIdx q).length := by rw [List.length_eraseIdx]; rw [if_pos hq]; omega
  rw [getD_ge hl, List.getElem_eraseIdx]
  by_cases c : k < q
  · rw [dif_pos c, if_neg (by omega)]
    simp [show k < zs.length by omega]
  · rw [dif_neg c, if_pos (by omega)]
    simp [hk]
end Ch
set_option linter.unusedSimpArgs false in
set_option maxHeartbeats 8000000 in
set_option maxRecDepth 100000 in
theorem tmdelete_any (g cap : Nat) (zs : List Int) (q : Nat) (hh : Int) (p : Nat) (w : World) (hB : BK w g (zs.map (Value.int .i64))) (hq : q < zs.length) (h6 : zs.length ≤ 6) (hcap : zs.length ≤ cap) (he : zs.getD q 0 = hh) (hne : ∀ k, k < zs.length → k ≠ q → zs.getD k 0 ≠ hh) (hp : p ≠ g) (hc : w.cell? ⟨p, 2, none⟩ = some (.int .i64 hh)) :
    Calls Tryz.prog 68 #[.slice (some ⟨g, 0, none⟩) zs.length cap, .func (.func 69) #[] #[.pointer (some ⟨p, 0, none⟩)]] w fun e w' => e = .returned (.slice (some ⟨g, 0, none⟩) (zs.length - 1) cap) ∧ GB (fun k => k = g) w w' ∧ BK w' g ((zs.eraseIdx q).map (Value.int .i64)) := by
  have ix := tmindex_any g cap zs q hh p w hB hq h6 he (fun k hk => hne k (by omega) (by omega)) hc; have HB := Lib.hid hB; have HNE := Lib.hid hne; have HCE := Lib.hid hc
  have HFIN := Lib.hid (fun (W : World) (h : BK W g ((Ch.mvd zs q zs.length).map (Value.int .i64))) => show BK (W.setCell ⟨g, zs.length - 1, none⟩ (.int .i64 0)) g ((zs.eraseIdx q).map (Value.int .i64)) from ⟨by rw [World.size_setCell]; exact h.1, fun j x e => by
    have hj : j < (zs.eraseIdx q).length := by
      have := (List.getElem?_eq_some_iff.1 e).1
      simpa using this
    have hj2 : j + 1 < zs.length := by rw [List.length_eraseIdx, if_pos hq] at hj; omega
    have hx : x = .int .i64 ((Ch.mvd zs q zs.length).getD j 0) := by
      rw [Ch.mvd_end zs q hq hj2]
      have : ((zs.eraseIdx q).map (Value.int .i64))[j]? = some (.int .i64 ((zs.eraseIdx q).getD j 0)) := by simp [hj]
      rw [this] at e; exact (Option.some.inj e).symm
    subst hx
    have hm1 : j < ((Ch.mvd zs q zs.length).map (Value.int .i64)).length := by rw [List.length_map, Ch.mvd_len]; omega
    have e2 : (((Ch.mvd zs q zs.length).map (Value.int .i64)).set (zs.length - 1) (.int .i64 0))[j]? = some (.int .i64 ((Ch.mvd zs q zs.length).getD j 0)) := by
      rw [List.getElem?_set_ne (by omega), List.getElem?_eq_getElem hm1, List.getElem_map, getD_ge]
    exact (h.set (zs.length - 1) (.int .i64 0)).2 j _ e2⟩)
  obtain ⟨m, hm⟩ : ∃ z, zs.length = z := ⟨_, rfl⟩; rw [hm] at ix hq h6 hcap ⊢; have IX := Lib.hid ix; have HM := Lib.hid hm; have HQ := Lib.hid hq
  have en : (((q : Nat) : Int) == -1) = false := by rw [beq_eq_false_iff_ne]; omega
  clear ix hB hne hc hm he
  go_enter Tryz.func68, Tryz.ntmps68
  (go_wp2_with fail); refine IX.out.mono ?_; rintro e w1 ⟨rfl, hb1⟩; have a0 : IntKind.i64.wrap ((q : Int) + 1) = (q : Int) + 1 := IntWalk.i64_in _ (by omega); (go_wp2_with fail)
  go_loopw [5, 6] (fun x y W => ∃ j : Nat, q < j ∧ j ≤ m ∧ x = .int .i64 ((j - 1 : Nat) : Int) ∧ y = .int .i64 (j : Nat) ∧ GB (fun k => k = g) w W ∧ BK W g ((Ch.mvd zs q j).map (Value.int .i64))) (fun _ y _ => m - (intOf y).toNat)
  case atStart => exact ⟨q + 1, by omega, by omega, by simp, by go_num, (GB.refl _ _).below hb1, by rw [Ch.mvd_start]; exact HB.out.keep hb1⟩
  case round =>
    obtain ⟨j, hqj, hj, rfl, rfl, hG, hBK⟩ := hrel
    by_cases hlt : j < m
    · have hmj : j < zs.length := by rw [HM.out]; exact hlt
      have c0 := (bk_int hBK (k := j) (by rw [Ch.mvd_len]; exact hmj)).1; rw [Ch.mvd_at zs q j hmj, if_neg (by omega)] at c0; have c1 := bk_int hBK (k := j - 1) (by rw [Ch.mvd_len]; omega); obtain ⟨old, hold⟩ : ∃ x, (Ch.mvd zs q j).getD (j - 1) 0 = x := ⟨_, rfl⟩; rw [hold] at c1; obtain ⟨c1, c2⟩ := c1; have hxe := HNE.out j hmj (by omega); obtain ⟨x, hx⟩ : ∃ x, zs.getD j 0 = x := ⟨_, rfl⟩; rw [hx] at c0 hxe; have hv := tmdel1_any x hh p wr (hG.cell hp HCE.out)
      have e : (x == hh) = false := by rw [beq_eq_false_iff_ne]; exact hxe
      rw [e] at hv; have HV := Lib.hid hv; have HX := Lib.hid hx
      have i1 : (0 : Int) ≤ (j : Int) := by omega
      have i2 : (j : Int) < (m : Int) := by omega
      have i3 : (0 : Int) ≤ ((j - 1 : Nat) : Int) := by omega
      have i4 : ((j - 1 : Nat) : Int) < (m : Int) := by omega
      have i5 : IntKind.i64.wrap (((j - 1 : Nat) : Int) + 1) = ((j - 1 : Nat) : Int) + 1 := IntWalk.i64_in _ (by omega); have i6 : IntKind.i64.wrap ((j : Int) + 1) = (j : Int) + 1 := IntWalk.i64_in _ (by omega); have HST := Lib.hid (Ch.mvd_step zs q j hmj hqj); clear hv e hxe hx hold; (go_wp2_with fail); refine HV.out.mono ?_; rintro e w2 ⟨rfl, hb2⟩; replace hG := hG.below hb2; replace hBK := hBK.keep hb2; replace c0 := keepC hb2 c0; have c1' := (bk_int hBK (k := j - 1) (by rw [Ch.mvd_len]; omega)); obtain ⟨d1, d2⟩ := c1'; clear hb2 c0 c1 c2; (go_wp2_with fail)
      go_roundw
      case rel =>
        refine ⟨j + 1, by omega, by omega, ?_, by go_num, hG.set (.inl rfl) _, ?_⟩
        · rw [show ((j + 1 - 1 : Nat) : Int) = ((j - 1 : Nat) : Int) + 1 by omega]
        · have := hBK.set (j - 1) (.int .i64 x)
          rw [← HST.out, List.map_set, HX.out]; exact this
      case measure => (simp [intOf] <;> omega)
    · obtain rfl : j = m := by omega
      have b0 := bk_int hBK (k := j - 1) (by rw [Ch.mvd_len, HM.out]; omega); obtain ⟨b1, b2⟩ := b0; have hq' := HQ.out
      have s1 : (((j - 1 : Nat) : Int)) ≤ (j : Int) := by omega
      have s2 : (0 : Int) ≤ ((j - 1 : Nat) : Int) := by omega
      have s3 : ((j - 1 : Nat) : Int) ≤ (cap : Int) := by omega
      have s4 : ¬ cap - (j - 1) = 0 := by omega
      have s5 : ¬ cap ≤ j - 1 := by omega
      have s6 : j - (j - 1) = 1 := by omega
      have hclr := Lib.run_clear_slice (P := Tryz.prog) wr 46 3 0 (.int .i64 0) Tryz.underlying46 (fun v => by first | rfl | kernel_rfl | (simp [zeroValue]; rfl)) rfl rfl g (j - 1) 1 (cap - (j - 1)) (by omega) (fun i hi => by
        obtain rfl : i = 0 := by omega
        rw [Nat.add_zero, b1]
        rfl) (fun i hi => by
        obtain rfl : i = 0 := by omega
        rw [Nat.add_zero]
        exact b2)
      have hsc : wr.setCells g (j - 1) (List.replicate 1 (.int .i64 0)) = wr.setCell ⟨g, j - 1, none⟩ (.int .i64 0) := by first | rfl | simp [World.setCells]
      rw [hsc] at hclr
      have HCL := Lib.hid (show BK (wr.setCell ⟨g, j - 1, none⟩ (.int .i64 0)) g ((zs.eraseIdx q).map (Value.int .i64)) by
        have h1 := HM.out; have h2 := HFIN.out wr (by rw [h1]; exact hBK); rw [h1] at h2
        exact h2)
      have HG := Lib.hid (hG.set (p := g) (o := j - 1) (.inl rfl) (.int .i64 0)); clear hsc b1 b2 hBK hG; (go_wp2_with fail)
      go_ret
      exact ⟨rfl, HG.out, HCL.out⟩
end Go.Proofs.YtpcdggkajindbaaGreat
namespace Go.Proofs.YtpcdggkajindbaaGreat
open Go.RowKit
theorem bk_rown {w : World} {B n : Nat} {e : TypeId} {v : Value} {xs : List Value} (h : w.ownsRow B e 1 v n xs) (hn : 0 < n) : ∃ g cap, v = .slice (some ⟨g, 0, none⟩) n cap ∧ B ≤ g ∧ n ≤ cap ∧ BK w g xs := by
  rcases h.2 with ⟨_, h0⟩ | ⟨g, cap, cur, hv, hb, hg, hc, _, hs, ht⟩
  · omega
  · have hlt : g < w.heap.size := (Array.getElem?_eq_some_iff.1 hg).1
    refine ⟨g, cap, hv, hb, hc, hlt, fun j x ej => ?_⟩; rw [← ht] at ej
    have hj : cur[j]? = some x := by
      rw [List.getElem?_take] at ej
      split at ej
      · simpa using ej
      · cases ej
    constructor
    · simp [World.cell?, hg, hj]
    · simp [World.frozen?, hg]
/-- The numbers of the first agents. -/
def Ch.rng (k : Nat) : List Int := (List.range k).map fun (j : Nat) => (j : Int)
theorem Ch.rng_len (k : Nat) : (Ch.rng k).length = k := by unfold Ch.rng; simp
theorem Ch.rng_succ (k : Nat) : Ch.rng (k + 1) = Ch.rng k ++ [(k : Int)] := by unfold Ch.rng; rw [List.range_succ, List.map_append]; rfl
set_option linter.unusedSimpArgs false in
set_option maxHeartbeats 8000000 in
set_option maxRecDepth 100000 in
theorem tmevery_any (A : Option Addr) (n ca : Nat) (Q : Option Addr) (m cq : Nat) (w : World) (h1 : 1 ≤ n) (h6 : n ≤ 6) :
    Calls Tryz.prog 66 #[.agg #[.slice A n ca, .slice Q m cq]] w fun e w' => ∃ g cap : Nat, e = .returned (.slice (some ⟨g, 0, none⟩) n cap) ∧ w.heap.size ≤ g ∧ n ≤ cap ∧ BK w' g ((Ch.rng n).map (Value.int .i64)) ∧ Below w.heap.size w w' := by
  obtain ⟨i0, hi0, hz0, hz1, hz2⟩ := info_parts intInfo; have HI := Lib.hid hi0; have HI2 := Lib.hid hz0; have HI3 := Lib.hid hz1; have HI4 := Lib.hid hz2; clear hi0 hz0 hz1 hz2
  go_enter Tryz.func66, Tryz.ntmps66
  go_upto_region 1 with fail
  refine at_worldQ (fun v => Below w.heap.size w v ∧ BK v (w.heap.size) [.slice A n ca, .slice Q m cq] ∧ v.heap.size = w.heap.size + 1) ⟨(below_al (Below.refl _ _) _), (by have b := (BK.new w [.slice A n ca, .slice Q m cq] 65); simpa only [World.size_alloc] using b), by simp only [World.size_alloc]⟩ (fun V hS => ?_); obtain ⟨hbb, B0, hVs⟩ := hS; have p0 := B0.c 0 rfl; (go_wp2_with fail); clear p0
  go_loopw [3, 8] (fun s i W => ∃ k : Nat, k ≤ n ∧ i = .int .i64 k ∧ Own W (w.heap.size + 1) s (Ch.rng k) ∧ Below w.heap.size w W ∧ w.heap.size + 1 ≤ W.heap.size) (fun _ i _ => n - (intOf i).toNat)
  case atStart => exact ⟨0, Nat.zero_le _, rfl, Own.nil_ _ _, hbb, by omega⟩
  case round =>
    clear hbb B0 hVs; obtain ⟨k, hk, rfl, hO, hbb, hws⟩ := hrel
    by_cases hlt : k < n
    · have i2 : (k : Int) < (n : Int) := by omega
      have HT := Lib.hid (Ch.rng_succ k); have HL := Lib.hid (Ch.rng_len k); obtain ⟨T, hT⟩ : ∃ T, Ch.rng k = T := ⟨_, rfl⟩; rw [hT] at hO; have HT2 := Lib.hid hT
      have hnT : T.length = k := by rw [← hT]; exact Ch.rng_len k
      obtain ⟨nE, hE'⟩ : ∃ z, T.length = z := ⟨_, rfl⟩; have hE := Lib.hid hE'
      have hk6 : nE ≤ 6 := by omega
      unfold Own at hO
      rw [hE'] at hO; clear hT hnT hE'
      go_wp2_with (at_builtin; refine wpList_append_lies _ rfl _ _ _ rfl (w.heap.size + 1) 3 i0 _ 1 8 Tryz.underlying46 HI.out HI2.out HI3.out HI4.out rfl (by omega) _ nE (T.map (Value.int .i64)) (by rfl) (World.ownsRow.alloc hO _) ⟨wr.heap.size, 0, none⟩ 1 1 [.int .i64 (k : Int)] (by rfl) (by rfl) (World.news_of_block (cs := #[.int .i64 (k : Int)]) (t := 3) (fr := (0, 0)) (heap_alloc_new wr _)) (by simp [Value.oneCell']) (by omega) (by unfold maxLen; omega) (by omega) (by simp; omega) (wr.heap.size + 1) (by simp) ?_; intro g cap w1 hown1 hgrow hat hglt)
      all_goals
        (try go_wp2_with fail)
        go_roundw
        case rel =>
          refine ⟨k + 1, by omega, by go_num, ?_, ?_, ?_⟩
          · rw [HT.out, HT2.out]
            unfold Own
            rw [List.length_append, hE.out, List.map_append]; exact hown1
          · exact (below_al hbb _).grown hgrow (by simp; omega) (fun j ej => by
              have := (World.ownsRow.lt hO j ej).1
              omega)
          · have := hgrow.size
            simp at this
            omega
        case measure => (simp [intOf] <;> omega)
    · obtain rfl : k = n := by omega
      unfold Own at hO
      rw [Ch.rng_len] at hO; obtain ⟨g, cap, rfl, hg, hcap, hB⟩ := bk_rown hO (by omega)
      have i2 : ¬ (k : Int) < (k : Int) := by omega
      have HB := Lib.hid hB; clear hO hB HI HI2 HI3 HI4; (go_wp2_with fail)
      go_ret
      exact ⟨g, cap, rfl, by omega, hcap, HB.out, hbb⟩
theorem tmrounds_any (A : Option Addr) (n ca : Nat) (Q : Option Addr) (m cq : Nat) (w : World) :
    Calls Tryz.prog 42 #[.agg #[.slice A n ca, .slice Q m cq]] w fun e w' => e = .returned (.func (.func 64) #[] #[.pointer (some ⟨w.heap.size, 0, none⟩)]) ∧ BK w' w.heap.size [.slice A n ca, .slice Q m cq] ∧ Below w.heap.size w w' := by
  go_enter Tryz.func42, Tryz.ntmps42
  go_wp2_with fail
  go_ret
  exact ⟨rfl, BK.new w [.slice A n ca, .slice Q m cq] 65, below_al (Below.refl _ _) _⟩
end Go.Proofs.YtpcdggkajindbaaGreat
namespace Go.Proofs.YtpcdggkajindbaaGreat
open Go.RowKit
set_option linter.unusedSimpArgs false in
set_option maxHeartbeats 8000000 in
set_option maxRecDepth 100000 in
theorem tmplayed1_any (A : Option Addr) (ca : Nat) (cs : List CkR) (Q : Option Addr) (nq cq g off cg j : Nat) (a b len : Int) (w : World) (h : IsCs w A cs) (h0 : 0 < cs.length) (hl : (Ak.cat cs 0).len = len) (hg : w.cell? ⟨g, off, none⟩ = some (.int .i64 (j : Nat))) :
    Calls Tryz.prog 67 #[.agg #[.slice A cs.length ca, .slice Q nq cq], .slice (some ⟨g, off, none⟩) 1 cg, .agg #[.int .i64 a, .int .i64 b]] w fun e w' => e = .returned (.tuple #[.agg #[.slice A cs.length ca, .slice Q nq cq, .int .i64 (j : Nat), .int .i64 a, .int .i64 b, .int .i64 len, .int .i64 1, .int .i64 0], .int .i64 0]) ∧ Below w.heap.size w w' := by
  have en := fun v (hv : Below w.heap.size w v) => tmend_any A ca cs Q nq cq len v (h.keep hv) h0 hl
  obtain ⟨nc, hnc⟩ : ∃ z, cs.length = z := ⟨_, rfl⟩; rw [hnc] at en ⊢; have EN := Lib.hid en; clear en h h0 hl hnc
  go_enter Tryz.func67, Tryz.ntmps67
  go_upto_region 1 with fail
  refine at_worldQ (fun v => Below w.heap.size w v ∧ BK v (w.heap.size) [.slice A nc ca, .slice Q nq cq] ∧ BK v (w.heap.size + 1) [.int .i64 a, .int .i64 b] ∧ BK v (w.heap.size + 2) [.slice none 0 0, .slice none 0 0, .int .i64 0, .int .i64 0, .int .i64 0, .int .i64 0, .int .i64 0, .int .i64 0] ∧ v.heap.size = w.heap.size + 3) ⟨(below_al (below_al (below_al (Below.refl _ _) _) _) _), (by have b := (((BK.new w [.slice A nc ca, .slice Q nq cq] 65).al (.cells #[.int .i64 a, .int .i64 b] 44)).al (.cells #[.slice none 0 0, .slice none 0 0, .int .i64 0, .int .i64 0, .int .i64 0, .int .i64 0, .int .i64 0, .int .i64 0] 101)); simpa only [World.size_alloc] using b), (by have b := ((BK.new (w.alloc (.cells #[.slice A nc ca, .slice Q nq cq] 65)) [.int .i64 a, .int .i64 b] 44).al (.cells #[.slice none 0 0, .slice none 0 0, .int .i64 0, .int .i64 0, .int .i64 0, .int .i64 0, .int .i64 0, .int .i64 0] 101)); simpa only [World.size_alloc] using b), (by have b := (BK.new ((w.alloc (.cells #[.slice A nc ca, .slice Q nq cq] 65)).alloc (.cells #[.int .i64 a, .int .i64 b] 44)) [.slice none 0 0, .slice none 0 0, .int .i64 0, .int .i64 0, .int .i64 0, .int .i64 0, .int .i64 0, .int .i64 0] 101); simpa only [World.size_alloc] using b), by simp only [World.size_alloc]⟩ (fun V hS => ?_); obtain ⟨hbb, B0, B1, B2, hVs⟩ := hS
  go_step3
  go_upto_region 2 with fail
  have p0 := B0.c 0 rfl; have p1 := B0.c 1 rfl; have f0 := B1.c 0 rfl; have f1 := B1.c 1 rfl; have gg := keepC hbb hg; have hgl := lt_of_cell hg; refine wp_region_noPanic ?_; refine wp_region_held_drew (S := (GB (fun k => k = w.heap.size + 2) V)) (by kernel_rfl) ((GB.refl _ _).drew) (fun hHeld => ?_); refine at_anyH (fun v => GB (fun k => k = w.heap.size + 2) V v ∧ BK v (w.heap.size + 2) [.slice none 0 0, .slice none 0 0, .int .i64 0, .int .i64 0, .int .i64 0, .int .i64 0, .int .i64 0, .int .i64 0]) ⟨hHeld, B2.drew⟩ (fun wt0 hNew => ?_); clear hHeld B2; obtain ⟨hHeld, B2⟩ := hNew; refine tkn 0 ?vt1 rfl ?hyt1 hHeld ?restt1
  case hyt1 => (intro w hSw; have kp0 := hSw.cell (by omega) p0; have kp1 := hSw.cell (by omega) p1; have kgg := hSw.cell (by omega) gg; have kf0 := hSw.cell (by omega) f0; have kf1 := hSw.cell (by omega) f1; go_simp; first | done | (with_reducible rfl))
  (try simp only [PPz]); refine tkn 1 ?vt2 rfl ?hyt2 hHeld ?restt2
  case hyt2 => (intro w hSw; go_simp; first | done | (with_reducible rfl))
  (try simp only [PPz]); refine tkn 2 ?vt3 rfl ?hyt3 hHeld ?restt3
  case hyt3 => (intro w hSw; go_simp; first | done | (with_reducible rfl))
  (try simp only [PPz]); refine tkn 3 ?vt4 rfl ?hyt4 hHeld ?restt4
  case hyt4 => (intro w hSw; have kp0 := hSw.cell (by omega) p0; have kp1 := hSw.cell (by omega) p1; have kgg := hSw.cell (by omega) gg; have kf0 := hSw.cell (by omega) f0; have kf1 := hSw.cell (by omega) f1; go_simp; first | done | (with_reducible rfl))
  (try simp only [PPz]); refine tkn 4 ?vt5 rfl ?hyt5 hHeld ?restt5
  case hyt5 => (intro w hSw; have kp0 := hSw.cell (by omega) p0; have kp1 := hSw.cell (by omega) p1; have kgg := hSw.cell (by omega) gg; have kf0 := hSw.cell (by omega) f0; have kf1 := hSw.cell (by omega) f1; go_simp; first | done | (with_reducible rfl))
  (try simp only [PPz]); refine tkn 5 ?vt6 rfl ?hyt6 hHeld ?restt6
  case hyt6 => (intro w hSw; have kp0 := hSw.cell (by omega) p0; have kp1 := hSw.cell (by omega) p1; have kgg := hSw.cell (by omega) gg; have kf0 := hSw.cell (by omega) f0; have kf1 := hSw.cell (by omega) f1; go_simp; first | done | (with_reducible rfl))
  (try simp only [PPz]); refine rdy1 6 rfl (fun K hK => ?_); go_simp; refine (EN.out _ (hHeld.toBelow hbb (fun k hk => by omega) (by omega))).mono ?_; rintro e wt7 ⟨rfl, hb3⟩; (go_wp2_with fail); refine hK.out _ _ (hHeld.below hb3) (fun hNew => ?_); replace B2 := B2.keep hb3; clear hb3; clear hHeld hK K; have hHeld := hNew; clear hNew; (try simp only [PPz]); refine tkn 7 ?vt8 rfl ?hyt8 hHeld ?restt8
  case hyt8 => (intro w hSw; go_simp; first | done | (with_reducible rfl))
  (try simp only [PPz]); refine tkn 8 ?vt9 rfl ?hyt9 hHeld ?restt9
  case hyt9 => (intro w hSw; go_simp; first | done | (with_reducible rfl))
  (try simp only [PPz]); refine rdy1 9 rfl (fun K hK => ?_); have n0 := B2.c 0 rfl; have f0 := B2.f 0 rfl; have n1 := B2.c 1 rfl; have f1 := B2.f 1 rfl; have n2 := B2.c 2 rfl; have f2 := B2.f 2 rfl; have n3 := B2.c 3 rfl; have f3 := B2.f 3 rfl; have n4 := B2.c 4 rfl; have f4 := B2.f 4 rfl; have n5 := B2.c 5 rfl; have f5 := B2.f 5 rfl; have n6 := B2.c 6 rfl; have f6 := B2.f 6 rfl; have n7 := B2.c 7 rfl; have f7 := B2.f 7 rfl; go_simp; clear n0 f0 n1 f1 n2 f2 n3 f3 n4 f4 n5 f5 n6 f6 n7 f7; refine hK.out _ _ ((((((((hHeld.set (.inl rfl) _).set (.inl rfl) _).set (.inl rfl) _).set (.inl rfl) _).set (.inl rfl) _).set (.inl rfl) _).set (.inl rfl) _).set (.inl rfl) _) (fun hNew => ?_); clear hHeld hK K; have hHeld := hNew; clear hNew; (try simp only [PPz]); refine at_anyH (fun v => GB (fun k => k = w.heap.size + 2) V v ∧ BK v (w.heap.size + 2) [.slice A nc ca, .slice Q nq cq, .int .i64 (j : Nat), .int .i64 a, .int .i64 b, .int .i64 len, .int .i64 1, .int .i64 0]) ⟨hHeld, ((((((((B2.set 0 _).set 1 _).set 2 _).set 3 _).set 4 _).set 5 _).set 6 _).set 7 _)⟩ (fun wt10 hS => ?_); clear hHeld B2; obtain ⟨hHeld, B2⟩ := hS; refine tkn 10 ?vt11 rfl ?hyt11 hHeld ?restt11
  case hyt11 => (intro w hSw; go_simp; first | done | (with_reducible rfl))
  (try simp only [PPz]); refine wpAnyH_done (by kernel_rfl) ?_ _; refine NoPanic.normal ?_; have hbb2 := hHeld.toBelow hbb (fun k hk => by omega) (by omega); have r0 := B2.c 0 rfl; have r1 := B2.c 1 rfl; have r2 := B2.c 2 rfl; have r3 := B2.c 3 rfl; have r4 := B2.c 4 rfl; have r5 := B2.c 5 rfl; have r6 := B2.c 6 rfl; have r7 := B2.c 7 rfl; (go_wp2_with fail)
  try rw [Exit.noGoto_ret]
  exact bodyPost_ret (v := .tuple #[.agg #[.slice A nc ca, .slice Q nq cq, .int .i64 (j : Nat), .int .i64 a, .int .i64 b, .int .i64 len, .int .i64 1, .int .i64 0], .int .i64 0]) (by simp [results, Tryz.results67, go_sem, r0, r1, r2, r3, r4, r5, r6, r7]) rfl ⟨rfl, hbb2⟩
namespace Ch
/-- What the iterator hands on: a desk, and a turn. -/
structure El (nn : Nat) where
  A : Option Addr
  m : Nat
  ca : Nat
  Q : Option Addr
  nq : Nat
  cq : Nat
  ag : Nat
  a : Int
  b : Int
  x : Int
  y : Int
  t : Nat
  hag : ag < nn
/-- A turn. -/
structure Tn where
  ag : Nat
  a : Int
  b : Int
  x : Int
  y : Int
  t : Nat
def El.rv {nn : Nat} (e : El nn) : Value := .agg #[.slice e.A e.m e.ca, .slice e.Q e.nq e.cq, .int .i64 (e.ag : Nat), .int .i64 e.a, .int .i64 e.b, .int .i64 e.x, .int .i64 e.y, .int .i64 (e.t : Nat)]
def El.enc {nn : Nat} (e : El nn) : Array Value := #[e.rv, .int .i64 0]
def El.tn {nn : Nat} (e : El nn) : Tn := ⟨e.ag, e.a, e.b, e.x, e.y, e.t⟩
/-- Between two rounds: from where, who is left, the log. -/
structure St where
  a : Int
  b : Int
  l : List Nat
  L : List Qr
section
variable (D : List CkD) (n len : Int)
def rout (s : St) : Nat × Nat × List Qr := if s.l.length = 1 then (s.l.getD 0 0, 0, s.L) else scan D n s.a s.b (s.l.drop 1) (s.l.getD 0 0) 0 (s.L ++ [qM D n s.a s.b (s.l.getD 0 0)])
def rto (s : St) : Int × Int := if s.l.length = 1 then (len, 1) else ((mkQ D n s.a s.b (rout D n s).1).1, (mkQ D n s.a s.b (rout D n s).1).2.1)
def rtn (s : St) : Tn := ⟨(rout D n s).1, s.a, s.b, (rto D n len s).1, (rto D n len s).2, (rout D n s).2.1⟩
def rnx (s : St) : St := ⟨(rto D n len s).1, (rto D n len s).2, s.l.eraseIdx (s.l.idxOf (rout D n s).1), (rout D n s).2.2⟩
def sts (s : St) : Nat → St
  | 0 => s
  | k + 1 => rnx D n len (sts s k)
structure SGood (s : St) : Prop where
  nd : s.l.Nodup
  ag : ∀ j ∈ s.l, j < D.length
  fit : 2 ≤ s.l.length → RFit D n s.a s.b s.l
  ia : I64 s.a
  ib : I64 s.b
  lg : s.L.length + 2 * s.l.length ≤ 2001
end
theorem scan_mem {D : List CkD} {n a b : Int} : ∀ (r : List Nat) (i t : Nat) (L : List Qr), (scan D n a b r i t L).1 = i ∨ (scan D n a b r i t L).1 ∈ r
  | [], i, t, L => .inl rfl
  | j :: r, i, t, L => by
    unfold scan
    split
    · rcases scan_mem r j (t + 1) (L ++ [qV D n a b i j] ++ [qM D n a b j]) with h | h
      · exact .inr (by rw [h]; simp)
      · exact .inr (List.mem_cons_of_mem _ h)
    · rcases scan_mem r i t (L ++ [qV D n a b i j]) with h | h
      · exact .inl h
      · exact .inr (List.mem_cons_of_mem _ h)
theorem rout_mem {D : List CkD} {n : Int} {s : St} (h : 0 < s.l.length) : (rout D n s).1 ∈ s.l := by
  unfold rout
  have h0 := getD_mem (l := s.l) (k := 0) h
  split
  · exact h0
  · rcases scan_mem (D := D) (n := n) (a := s.a) (b := s.b) (s.l.drop 1) (s.l.getD 0 0) 0 (s.L ++ [qM D n s.a s.b (s.l.getD 0 0)]) with e | e
    · rw [e]; exact h0
    · exact List.mem_of_mem_drop e
end Ch
/-- What a round gives, whoever takes part. -/
def PxQ (D : List CkD) (o : Nat × Nat × List Qr) (a b x y : Int) (lo : Nat) (Wd : World) (w : World) (e : Ending) (w' : World) : Prop :=
  ∃ (A : Option Addr) (m ca : Nat) (Q : Option Addr) (nq cq : Nat) (cs : List CkR) (lo2 : Nat) (Wd2 : World), e = .returned (.tuple #[.agg #[.slice A m ca, .slice Q nq cq, .int .i64 (o.1 : Nat), .int .i64 a, .int .i64 b, .int .i64 x, .int .i64 y, .int .i64 (o.2.1 : Nat)], .int .i64 0]) ∧ Below w.heap.size w w' ∧ m = cs.length ∧ nq = o.2.2.length ∧ cs.map Ak.dat = D ∧ FD Wd2 lo2 A ca cs Q cq o.2.2 ∧ Mid lo2 Wd2 w' ∧ ∀ k, lo2 ≤ k → k < Wd2.heap.size → (lo ≤ k ∧ k < Wd.heap.size) ∨ w.heap.size ≤ k
theorem tmplayedx_any (D : List CkD) (n len : Int) (s : Ch.St) (A : Option Addr) (ca : Nat) (cs : List CkR) (Q : Option Addr) (cq g cg lo : Nat) (Wd w : World) (hfd : FD Wd lo A ca cs Q cq s.L) (hm : Mid lo Wd w) (hD : cs.map Ak.dat = D) (hc : Ak.chkS D 0 = 0) (hn : n = (D.length : Nat)) (hlen : (Ak.dAt D 0).1 = len)
    (hB : BK w g ((s.l.map fun (j : Nat) => (j : Int)).map (Value.int .i64))) (h1 : 1 ≤ s.l.length) (h6 : s.l.length ≤ 6) (G : Ch.SGood D n s) :
    Calls Tryz.prog 67 #[.agg #[.slice A cs.length ca, .slice Q s.L.length cq], .slice (some ⟨g, 0, none⟩) s.l.length cg, .agg #[.int .i64 s.a, .int .i64 s.b]] w (PxQ D (Ch.rout D n s) s.a s.b (Ch.rto D n len s).1 (Ch.rto D n len s).2 lo Wd w) := by
  have hf := hfd.mid hm
  have hgc : ∀ k, k < s.l.length → w.cell? ⟨g, 0 + k, none⟩ = some (.int .i64 ((s.l.getD k 0 : Nat) : Int)) := fun k hk => by
    have := (bk_int hB (k := k) (by simpa using hk)).1; rw [Nat.zero_add, this]
    simp [hk]
  have hgd := Ak.chkS_good hc
  have hcl : cs.length = D.length := by rw [← hD, List.length_map]
  by_cases e1 : s.l.length = 1
  · have hc0 : (Ak.cat cs 0).len = len := by
      rw [← hlen, ← hD, Ak.dAt_map cs (by have := hgd.l0; omega)]
      rfl
    have := tmplayed1_any A ca cs Q s.L.length cq g 0 cg (s.l.getD 0 0) s.a s.b len w hf.isCs (by have := hgd.l0; omega) hc0 (hgc 0 (by omega))
    have eo : Ch.rout D n s = (s.l.getD 0 0, 0, s.L) := by unfold Ch.rout; rw [if_pos e1]
    have et : Ch.rto D n len s = (len, 1) := by unfold Ch.rto; rw [if_pos e1]
    rw [eo, et, e1]; refine this.mono ?_; rintro e w' ⟨rfl, hb⟩; exact ⟨A, cs.length, ca, Q, s.L.length, cq, cs, lo, Wd, rfl, hb, rfl, rfl, hD, hfd, hm.call hb, fun k h1 h2 => .inl ⟨h1, h2⟩⟩
  · have eo : Ch.scan D n s.a s.b (s.l.drop 1) (s.l.getD 0 0) 0 (s.L ++ [Ch.qM D n s.a s.b (s.l.getD 0 0)]) = Ch.rout D n s := by unfold Ch.rout; rw [if_neg e1]
    have et : Ch.rto D n len s = ((Ch.mkQ D n s.a s.b (Ch.rout D n s).1).1, (Ch.mkQ D n s.a s.b (Ch.rout D n s).1).2.1) := by unfold Ch.rto; rw [if_neg e1]
    have := tmplayed_any A ca cs Q s.L cq g 0 cg s.l D n s.a s.b (Ch.rout D n s) w hf.isCs hf.isQs hD hc hn hgc (by omega) h6 G.lg G.ia G.ib (G.fit (by omega)) eo; rw [et]; refine this.mono ?_; rintro e w' ⟨A2, m, ca2, Q2, nq, cq2, cs2, rfl, hb, h1, h2, h3, h4⟩; exact ⟨A2, m, ca2, Q2, nq, cq2, cs2, w.heap.size, w', rfl, hb, h1, h2, h3, h4, Mid.refl _ _, fun k h1 h2 => .inr h1⟩
end Go.Proofs.YtpcdggkajindbaaGreat

