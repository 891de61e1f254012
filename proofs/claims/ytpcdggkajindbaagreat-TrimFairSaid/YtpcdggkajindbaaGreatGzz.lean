/- Package trim: less, whole, end, share. Package trim: givesMore. Rounds of the last diminisher: what is asked and answered, as functions on lists. -/
import Derived.Test.YtpcdggkajindbaaGreatGk
import Derived.Test.YtpcdggkajindbaaGreatSd
import Derived.Test.YtpcdggkajindbaaGreatGm
import Derived.Test.YtpcdggkajindbaaGreatMake
import Derived.Test.YtpcdggkajindbaaGreatPoint
import Derived.Test.YtpcdggkajindbaaGreatGn
namespace Go.Proofs.YtpcdggkajindbaaGreat
open Go.RowKit
theorem tmwhole_any (n : Int) (w : World) : Calls Tryz.prog 65 #[.int .i64 n] w fun e w' => e = .returned (.agg #[.int .i64 n, .int .i64 1]) ∧ Below w.heap.size w w' := by
  go_enter Tryz.func65, Tryz.ntmps65
  go_wp2
  exact bodyPost_ret (v := .agg #[.int .i64 n, .int .i64 1]) (by simp [results, Tryz.results65, go_sem]) rfl ⟨rfl, (Below.refl _ _).alloc (Nat.le_refl _) _⟩
theorem tmless_any (n d m c : Int) (h : Rp.Ok n d) (k : Rp.Ok m c) (w : World) :
    Calls Tryz.prog 139 #[.agg #[.int .i64 n, .int .i64 d], .agg #[.int .i64 m, .int .i64 c]] w fun e w' => e = .returned (.bool (decide (Rp.q n d < Rp.q m c))) ∧ Below w.heap.size w w' := by
  have h' := h; have k' := k; obtain ⟨h1, h2, h3, h4, _⟩ := h'; obtain ⟨k1, k2, k3, k4, _⟩ := k'
  have cc := fun w => Cmp_any n d m c w (by omega) (by omega) (by omega) (by omega) (by omega) (by omega) (by omega) (by omega)
  rw [Rp.cmpS_ok h k] at cc; have HD := Lib.hid (Rp.cmpQ_neg (Rp.q n d) (Rp.q m c))
  generalize Rp.cmpQ (Rp.q n d) (Rp.q m c) = R at *
  have CC := Lib.hid cc; clear cc h k
  go_enter Tryz.func139, Tryz.ntmps139
  (go_wp2_with fail); refine (CC.out _).mono ?_; rintro e w1 ⟨rfl, hb1⟩; have hbb : Below w.heap.size w w1 := keepB (((Below.refl _ _).alloc (Nat.le_refl _) _).alloc (by simp) _) hb1; clear hb1 CC
  go_wp2
  go_ret
  exact ⟨by rw [← HD.out]; rfl, hbb⟩
set_option linter.unusedSimpArgs false in
set_option maxHeartbeats 8000000 in
set_option maxRecDepth 100000 in
theorem tmend_any (A : Option Addr) (ca : Nat) (cs : List CkR) (Q : Option Addr) (m cq : Nat) (len : Int) (w : World) (h : IsCs w A cs) (h0 : 0 < cs.length) (hl : (Ak.cat cs 0).len = len) :
    Calls Tryz.prog 97 #[.agg #[.slice A cs.length ca, .slice Q m cq]] w fun e w' => e = .returned (.agg #[.int .i64 len, .int .i64 1]) ∧ Below w.heap.size w w' := by
  obtain ⟨bb, o, hA, hcl⟩ := h.at_; obtain rfl := hA h0; have hc0 := (hcl 0 h0).1; rw [hl, show o + 0 * 3 = o by omega] at hc0
  have wh := fun v => tmwhole_any len v
  have WHH := Lib.hid wh
  have i1 : (0 : Int) < (cs.length : Int) := by omega
  clear hcl hA h hl wh
  go_enter Tryz.func97, Tryz.ntmps97
  go_upto_region 1 with fail
  refine at_worldQ (fun v => Below w.heap.size w v ∧ BK v (w.heap.size) [.slice (some ⟨bb, o, none⟩) cs.length ca, .slice Q m cq] ∧ BK v (w.heap.size + 1) [.int .i64 0, .int .i64 0] ∧ v.heap.size = w.heap.size + 2) ⟨(below_al (below_al (Below.refl _ _) _) _), (by have b := ((BK.new w [.slice (some ⟨bb, o, none⟩) cs.length ca, .slice Q m cq] 65).al (.cells #[.int .i64 0, .int .i64 0] 44)); simpa only [World.size_alloc] using b), (by have b := (BK.new (w.alloc (.cells #[.slice (some ⟨bb, o, none⟩) cs.length ca, .slice Q m cq] 65)) [.int .i64 0, .int .i64 0] 44); simpa only [World.size_alloc] using b), by simp only [World.size_alloc]⟩ (fun V hS => ?_); obtain ⟨hbb, B0, B1, hVs⟩ := hS; have p0 := B0.c 0 rfl; have c0 := keepC hbb hc0; (go_wp2_with fail); refine (WHH.out _).mono ?_; rintro e w1 ⟨rfl, hb⟩; replace hbb := keepB hbb hb; replace B1 := B1.keep hb; clear hb c0 p0 B0; have r0 := B1.c 0 rfl; have r1 := B1.c 1 rfl; have g0 := B1.f 0 rfl; have g1 := B1.f 1 rfl; (go_wp2_with fail); exact bodyPost_ret (v := .agg #[.int .i64 len, .int .i64 1]) (by simp [results, Tryz.results97, go_sem, r0, r1]) rfl ⟨rfl, below_set (below_set hbb (by omega) _) (by omega) _⟩
set_option linter.unusedSimpArgs false in
set_option maxHeartbeats 8000000 in
set_option maxRecDepth 100000 in
theorem tmshare_any (A : Option Addr) (ca : Nat) (cs : List CkR) (Q : Option Addr) (m cq k : Nat) (n : Int) (w : World) (h : IsCs w A cs) (hm : m ≤ maxLen) (hc : Ak.chkS (cs.map Ak.dat) m = 0) (hk : k < cs.length) (hn : n = (cs.length : Nat)) :
    Calls Tryz.prog 99 #[.agg #[.slice A cs.length ca, .slice Q m cq], .int .i64 k] w fun e w' => e = .returned (.agg #[.int .i64 (Ch.sh n (Ak.dAt (cs.map Ak.dat) k)).1, .int .i64 (Ch.sh n (Ak.dAt (cs.map Ak.dat) k)).2.1]) ∧ Below w.heap.size w w' := by
  have hgd := Ak.chkS_good hc; have hl1 := hgd.l0; have hl6 := hgd.l1; rw [List.length_map] at hl1 hl6; have hck := hgd.all (Ak.dat (Ak.cat cs k)) (List.mem_map_of_mem (Ak.cat_mem hk))
  have tot := fun v (hv : Below w.heap.size w v) => askTotal_good A ca cs Q m cq k v (h.keep hv) hm hc hk
  rw [Ak.dAt_map cs hk]
  have ht : Ck.totS (Ak.cat cs k).len (Ak.cat cs k).cuts (Ak.cat cs k).dens = (Ck.tot (Ak.cat cs k).cuts (Ak.cat cs k).dens (Ak.cat cs k).dens.length, 0) := by
    unfold Ck.totS
    rw [if_pos (show Ck.chk (Ak.cat cs k).len (Ak.cat cs k).cuts (Ak.cat cs k).dens = 0 from hck)]
  rw [ht] at tot; have hG := Ck.chk_good (show Ck.chk _ _ _ = 0 from hck); have t0 := (Ck.tot_bd hG _ (Nat.le_refl _)).1; have t1 := (Ck.tot_bd hG _ (Nat.le_refl _)).2; have l1 := hG.len1; have la := hG.last; have hf : Ch.sh n (Ak.dat (Ak.cat cs k)) = Rp.makeS (Ck.tot (Ak.cat cs k).cuts (Ak.cat cs k).dens (Ak.cat cs k).dens.length) n := rfl
  dsimp only [Ak.dat] at l1 la t0 t1
  dsimp only at tot; rw [hf]
  have t2 : Ck.tot (Ak.cat cs k).cuts (Ak.cat cs k).dens (Ak.cat cs k).dens.length ≤ 12000 := by omega
  clear hf ht la l1 t1 hG hck hgd
  generalize Ck.tot (Ak.cat cs k).cuts (Ak.cat cs k).dens (Ak.cat cs k).dens.length = T at *
  have mk := fun v => Make_any T n (by omega) (by omega) (by omega) (by omega) v
  generalize Rp.makeS T n = M at *
  obtain ⟨M1, M2, M3⟩ := M; dsimp only at mk ⊢; obtain ⟨nc, hnc⟩ : ∃ z, cs.length = z := ⟨_, rfl⟩; rw [hnc] at tot hn ⊢; subst hn; have TOT := Lib.hid tot; have MK := Lib.hid mk; clear tot mk h hm hc hk t0 t2 hnc hl1 hl6
  go_enter Tryz.func99, Tryz.ntmps99
  go_upto_region 1 with fail
  refine at_worldQ (fun v => Below w.heap.size w v ∧ BK v (w.heap.size) [.slice A nc ca, .slice Q m cq] ∧ BK v (w.heap.size + 1) [.int .i64 0, .int .i64 0] ∧ v.heap.size = w.heap.size + 2) ⟨(below_al (below_al (Below.refl _ _) _) _), (by have b := ((BK.new w [.slice A nc ca, .slice Q m cq] 65).al (.cells #[.int .i64 0, .int .i64 0] 44)); simpa only [World.size_alloc] using b), (by have b := (BK.new (w.alloc (.cells #[.slice A nc ca, .slice Q m cq] 65)) [.int .i64 0, .int .i64 0] 44); simpa only [World.size_alloc] using b), by simp only [World.size_alloc]⟩ (fun V hS => ?_); obtain ⟨hbb, B0, B1, hVs⟩ := hS; have p0 := B0.c 0 rfl; have p1 := B0.c 1 rfl; (go_wp2_with fail); refine (TOT.out _ hbb).mono ?_; rintro e w1 ⟨rfl, hb⟩; clear p0 p1; replace hbb := keepB hbb hb; replace B0 := B0.keep hb; replace B1 := B1.keep hb; clear hb; have p0 := B0.c 0 rfl; (go_wp2_with fail); refine (MK.out _).mono ?_; rintro e w2 ⟨rfl, hb⟩; clear p0; replace hbb := keepB hbb hb; replace B1 := B1.keep hb; clear hb B0
  go_upto_region 3 with fail
  refine at_worldQ (fun v => Below w.heap.size w v ∧ BK v (w.heap.size + 1) [.int .i64 0, .int .i64 0] ∧ BK v w2.heap.size [.int .i64 M1, .int .i64 M2]) ⟨below_al hbb _, B1.al _, BK.new _ _ _⟩ (fun V3 hS => ?_); have hw2 := hbb.size; clear hbb B1; obtain ⟨hbb, B1, B2⟩ := hS; have a0 := B2.c 0 rfl; have a1 := B2.c 1 rfl; have r0 := B1.c 0 rfl; have r1 := B1.c 1 rfl; have g0 := B1.f 0 rfl; have g1 := B1.f 1 rfl; (go_wp2_with fail); exact bodyPost_ret (v := .agg #[.int .i64 M1, .int .i64 M2]) (by simp [results, Tryz.results99, go_sem, r0, r1]) rfl ⟨rfl, by repeat (first | exact hbb | refine below_set ?_ (by omega) _)⟩
end Go.Proofs.YtpcdggkajindbaaGreat
namespace Go.Proofs.YtpcdggkajindbaaGreat
open Go.RowKit
theorem FD.keep_gb {F : Nat → Prop} {W W' : World} {B ca cq : Nat} {A Q : Option Addr} {l : List CkR} {L : List Qr} (h : FD W B A ca l Q cq L) (hg : GB F W W') (hF : ∀ k, F k → k < B) : FD W' B A ca l Q cq L :=
  h.mid ⟨hg.size, fun k h1 h2 => hg.block k h2 (fun hf => by have := hF k hf; omega)⟩
/-- Whether an agent gives more to a piece than its share, and the desk behind this. -/
def GvQ (D : List CkD) (L : List Qr) (z : Bool) (w : World) (e : Ending) (w' : World) : Prop :=
  ∃ (A : Option Addr) (m ca : Nat) (Q : Option Addr) (n cq : Nat) (l : List CkR), e = .returned (.tuple #[.agg #[.slice A m ca, .slice Q n cq], .bool z, .int .i64 0]) ∧ Below w.heap.size w w' ∧ m = l.length ∧ n = L.length ∧ l.map Ak.dat = D ∧ FD w' w.heap.size A ca l Q cq L
set_option linter.unusedSimpArgs false in
set_option maxHeartbeats 8000000 in
set_option maxRecDepth 100000 in
theorem tmgives_any (A : Option Addr) (ca : Nat) (cs : List CkR) (Q : Option Addr) (qs : List Qr) (cq k : Nat) (tg a b x y tm : Int) (q : Qr) (n : Int) (w : World) (h : IsCs w A cs) (hq : IsQs w Q qs) (hc : Ak.chkS (cs.map Ak.dat) qs.length = 0) (hk : k < cs.length) (hn : n = (cs.length : Nat)) (i1 : I64 a) (i2 : I64 b) (i3 : I64 x) (i4 : I64 y)
    (hE : Ak.putE (cs.map Ak.dat) qs.length ⟨k, 1, a, b, x, y, 0, 0⟩ = 0) (hT : Ak.told (cs.map Ak.dat) ⟨k, 1, a, b, x, y, 0, 0⟩ = q) (hv : Rp.Ok q.x q.y) (hs : Rp.Ok (Ch.sh n (Ak.dAt (cs.map Ak.dat) k)).1 (Ch.sh n (Ak.dAt (cs.map Ak.dat) k)).2.1) :
    Calls Tryz.prog 100 #[.agg #[.slice A cs.length ca, .slice Q qs.length cq], .int .i64 k, .agg #[.int .i64 tg, .int .i64 a, .int .i64 b, .int .i64 x, .int .i64 y, .int .i64 tm]] w (GvQ (cs.map Ak.dat) (qs ++ [q]) (decide (Ch.shq n (Ak.dAt (cs.map Ak.dat) k) < Rp.q q.x q.y)) w) := by
  have hlc := h.len
  unfold maxLen at hlc
  have vl := fun v (hv : Below w.heap.size w v) => askValue_any A ca cs Q qs cq k a b x y v (h.keep hv) (hq.keep hv) ⟨by omega, by omega⟩ i1 i2 i3 i4
  have sr := fun v (hv : Below w.heap.size w v) => tmshare_any A ca cs Q qs.length cq k n v (h.keep hv) hq.len hc hk hn
  have ls := fun v => tmless_any _ _ _ _ hs hv v
  unfold Ch.shq
  generalize Ch.sh n (Ak.dAt (cs.map Ak.dat) k) = S at *
  obtain ⟨s1, s2, s3⟩ := S; dsimp only at sr ls ⊢
  generalize cs.map Ak.dat = D at *
  obtain ⟨qx, hqx⟩ : ∃ z, q.x = z := ⟨_, rfl⟩; obtain ⟨qy, hqy⟩ : ∃ z, q.y = z := ⟨_, rfl⟩; have HQX := Lib.hid hqx; have HQY := Lib.hid hqy; rw [hqx, hqy] at ls ⊢
  generalize decide (Rp.q s1 s2 < Rp.q qx qy) = z at *
  have HE := Lib.hid hE; have HT := Lib.hid hT; have VL := Lib.hid vl; have SHR := Lib.hid sr; have LSS := Lib.hid ls; obtain ⟨nc, hnc⟩ : ∃ z, cs.length = z := ⟨_, rfl⟩; obtain ⟨nq, hnq⟩ : ∃ z, qs.length = z := ⟨_, rfl⟩; rw [hnc, hnq] at VL SHR; rw [hnq] at HE; rw [hnc, hnq]; have HNQ := Lib.hid hnq; clear vl sr ls hE hT h hq hc hk hn hv hs hqx hqy hnc hnq hlc i1 i2 i3 i4
  unfold GvQ
  go_enter Tryz.func100, Tryz.ntmps100
  go_upto_region 1 with fail
  refine at_worldQ (fun v => Below w.heap.size w v ∧ BK v (w.heap.size) [.slice A nc ca, .slice Q nq cq] ∧ BK v (w.heap.size + 1) [.int .i64 tg, .int .i64 a, .int .i64 b, .int .i64 x, .int .i64 y, .int .i64 tm] ∧ BK v (w.heap.size + 2) [.slice none 0 0, .slice none 0 0] ∧ v.heap.size = w.heap.size + 3) ⟨(below_al (below_al (below_al (Below.refl _ _) _) _) _), (by have b := (((BK.new w [.slice A nc ca, .slice Q nq cq] 65).al (.cells #[.int .i64 tg, .int .i64 a, .int .i64 b, .int .i64 x, .int .i64 y, .int .i64 tm] 57)).al (.cells #[.slice none 0 0, .slice none 0 0] 65)); simpa only [World.size_alloc] using b), (by have b := ((BK.new (w.alloc (.cells #[.slice A nc ca, .slice Q nq cq] 65)) [.int .i64 tg, .int .i64 a, .int .i64 b, .int .i64 x, .int .i64 y, .int .i64 tm] 57).al (.cells #[.slice none 0 0, .slice none 0 0] 65)); simpa only [World.size_alloc] using b), (by have b := (BK.new ((w.alloc (.cells #[.slice A nc ca, .slice Q nq cq] 65)).alloc (.cells #[.int .i64 tg, .int .i64 a, .int .i64 b, .int .i64 x, .int .i64 y, .int .i64 tm] 57)) [.slice none 0 0, .slice none 0 0] 65); simpa only [World.size_alloc] using b), by simp only [World.size_alloc]⟩ (fun V hS => ?_); obtain ⟨hbb, B0, B1, B2, hVs⟩ := hS; have p0 := B0.c 0 rfl; have p1 := B0.c 1 rfl; have t1 := B1.c 1 rfl; have t2 := B1.c 2 rfl; have t3 := B1.c 3 rfl; have t4 := B1.c 4 rfl; (go_wp2_with fail); refine (VL.out _ hbb).mono ?_; rintro e w1 hput; obtain ⟨A2, m2, ca2, Q2, n2, cq2, l2, rfl, hb3, hm2, hn2, hd2, hfd⟩ := hput.yes (by rw [HNQ.out]; exact HE.out) HT.out; clear hput; have HM2 := Lib.hid hm2; have HN2 := Lib.hid hn2; have HD2 := Lib.hid hd2; clear hm2 hn2 hd2 p0 p1 t1 t2 t3 t4; rw [HQX.out, HQY.out]; have hw1 := hb3.size; replace hbb := keepB hbb hb3; replace B0 := B0.keep hb3; replace B2 := B2.keep hb3; clear hb3 B1; have r0 := B2.c 0 rfl; have r1 := B2.c 1 rfl; have f0 := B2.f 0 rfl; have f1 := B2.f 1 rfl; have d2 := B2.lt
  go_upto_region 4 with fail
  refine at_worldQ (fun v => Below w.heap.size w v ∧ BK v w.heap.size [.slice A nc ca, .slice Q nq cq] ∧ BK v (w.heap.size + 2) [.slice A2 m2 ca2, .slice Q2 n2 cq2] ∧ BK v w1.heap.size [.int .i64 qx, .int .i64 qy] ∧ FD v (w.heap.size + 3) A2 ca2 l2 Q2 cq2 (qs ++ [q]) ∧ w1.heap.size + 1 ≤ v.heap.size) ⟨below_al (below_set (below_set hbb (by omega) _) (by omega) _) _, ((B0.far (by omega) _ _).far (by omega) _ _).al _, ((B2.set 0 _).set 1 _).al _, (by have b := BK.new ((w1.setCell ⟨w.heap.size + 2, 0, none⟩ (.slice A2 m2 ca2)).setCell ⟨w.heap.size + 2, 1, none⟩ (.slice Q2 n2 cq2)) [.int .i64 qx, .int .i64 qy] 44; simpa only [World.size_setCell] using b), (((hfd.mono (by omega)).set (by omega) _).set (by omega) _).al _, by simp⟩ (fun V4 hS => ?_)
  have hV4 : w.heap.size + 3 ≤ w1.heap.size := by omega
  clear hbb B0 B2 hfd r0 r1 f0 f1; obtain ⟨hbb, B0, B2, B9, hfd, hV5⟩ := hS; have r0 := B2.c 0 rfl; have r1 := B2.c 1 rfl; have p0 := B0.c 0 rfl; have p1 := B0.c 1 rfl; have v0 := B9.c 0 rfl; have v1 := B9.c 1 rfl; clear hw1 hVs; refine wp_region_noPanic ?_; refine region_ordU (S := (GB (fun _ => False) V4)) (GB (fun k => k = w.heap.size + 2) V4) 6 (by kernel_rfl) ((GB.refl _ _).drew) (fun hHeld => ?_); refine at_ordU (fun v => GB (fun _ => False) V4 v) hHeld (fun wu0 hNew => ?_); clear hHeld; have hHeld := hNew; clear hNew; refine ordU_take (i := 0) (o := _) (v := ?vu1) rfl (by kernel_rfl) (by kernel_rfl) (by kernel_rfl) (by kernel_rfl) (fun _ _ _ h => h) (Or.inl ⟨by kernel_rfl, ?hyu1⟩) hHeld ?restu1
  case hyu1 => (intro w hSw; have kr0 := hSw.cell (fun h => h) r0; have kr1 := hSw.cell (fun h => h) r1; have kp0 := hSw.cell (fun h => h) p0; have kp1 := hSw.cell (fun h => h) p1; have kv0 := hSw.cell (fun h => h) v0; have kv1 := hSw.cell (fun h => h) v1; go_simp; first | done | (with_reducible rfl))
  (try simp only [PPz]); refine ordU_take2 (i := 1) (o := _) (v := ?vu2) rfl (by kernel_rfl) (by kernel_rfl) (by kernel_rfl) (by decide) (fun  _ _ _ h => h) (Or.inl ⟨by kernel_rfl, ?hyu2⟩) (Or.inl ⟨by kernel_rfl, ?hzu2⟩) hHeld ?restu2
  case hyu2 => (intro w hSw; have kr0 := hSw.cell (fun h => h) r0; have kr1 := hSw.cell (fun h => h) r1; have kp0 := hSw.cell (fun h => h) p0; have kp1 := hSw.cell (fun h => h) p1; have kv0 := hSw.cell (fun h => h) v0; have kv1 := hSw.cell (fun h => h) v1; go_simp; first | done | (with_reducible rfl))
  case hzu2 => (intro w hSw; have kp0 := hSw.cell (by omega) p0; have kp1 := hSw.cell (by omega) p1; have kv0 := hSw.cell (by omega) v0; have kv1 := hSw.cell (by omega) v1; go_simp; first | done | (with_reducible rfl))
  (try simp only [PPz]); refine ordU_take2 (i := 2) (o := _) (v := ?vu3) rfl (by kernel_rfl) (by kernel_rfl) (by kernel_rfl) (by decide) (fun  _ _ _ h => h) (Or.inl ⟨by kernel_rfl, ?hyu3⟩) (Or.inl ⟨by kernel_rfl, ?hzu3⟩) hHeld ?restu3
  case hyu3 => (intro w hSw; go_simp; first | done | (with_reducible rfl))
  case hzu3 => (intro w hSw; go_simp; first | done | (with_reducible rfl))
  (try simp only [PPz]); refine ordU_take2 (i := 4) (o := _) (v := ?vu4) rfl (by kernel_rfl) (by kernel_rfl) (by kernel_rfl) (by decide) (fun  _ _ _ h => h) (Or.inl ⟨by kernel_rfl, ?hyu4⟩) (Or.inl ⟨by kernel_rfl, ?hzu4⟩) hHeld ?restu4
  case hyu4 => (intro w hSw; have kr0 := hSw.cell (fun h => h) r0; have kr1 := hSw.cell (fun h => h) r1; have kp0 := hSw.cell (fun h => h) p0; have kp1 := hSw.cell (fun h => h) p1; have kv0 := hSw.cell (fun h => h) v0; have kv1 := hSw.cell (fun h => h) v1; go_simp; first | done | (with_reducible rfl))
  case hzu4 => (intro w hSw; have kp0 := hSw.cell (by omega) p0; have kp1 := hSw.cell (by omega) p1; have kv0 := hSw.cell (by omega) v0; have kv1 := hSw.cell (by omega) v1; go_simp; first | done | (with_reducible rfl))
  (try simp only [PPz]); refine ordU_ready (rs := [3]) (by kernel_rfl) (by simp) (ReadyU.cons (o := _) rfl (by decide) (fun K hK => ?_) ReadyU.nil); go_simp; refine (SHR.out _ (hHeld.toBelow hbb (fun k hk => hk.elim) (by omega))).mono ?_; rintro e wu5 ⟨rfl, hb3⟩; (go_wp2_with fail); refine hK.out _ _ (hHeld.below hb3) (fun hNew => ?_); clear hb3; clear hHeld hK K; have hHeld := hNew; clear hNew; (try simp only [PPz]); refine ordU_ready (rs := [5]) (by kernel_rfl) (by simp) (ReadyU.cons (o := _) rfl (by decide) (fun K hK => ?_) ReadyU.nil); go_simp; refine (LSS.out _).mono ?_; rintro e wu6 ⟨rfl, hb3⟩; (go_wp2_with fail); refine hK.out _ _ (hHeld.below hb3) (fun hNew => ?_); clear hb3; clear hHeld hK K; have hHeld := hNew; clear hNew; (try simp only [PPz]); refine ordU_at (by kernel_rfl) ?_; replace B2 := B2.gb hHeld (fun h => h); replace hHeld : GB (fun k => k = w.heap.size + 2) V4 wu6 := hHeld.weak (fun k hk => hk.elim); refine rdy1 6 rfl (fun K hK => ?_); have n0 := B2.c 0 rfl; have f0 := B2.f 0 rfl; have n1 := B2.c 1 rfl; have f1 := B2.f 1 rfl; go_simp; clear n0 f0 n1 f1; refine hK.out _ _ ((hHeld.set (.inl rfl) _).set (.inl rfl) _) (fun hNew => ?_); clear hHeld hK K; have hHeld := hNew; clear hNew; (try simp only [PPz]); refine at_anyH (fun v => GB (fun k => k = w.heap.size + 2) V4 v ∧ BK v (w.heap.size + 2) [.slice A2 m2 ca2, .slice Q2 n2 cq2]) ⟨hHeld, ((B2.set 0 _).set 1 _)⟩ (fun wu7 hS => ?_); clear hHeld B2; obtain ⟨hHeld, B2⟩ := hS; refine tkn 7 ?vu8 rfl ?hyu8 hHeld ?restu8
  case hyu8 => (intro w hSw; go_simp; first | done | (with_reducible rfl))
  (try simp only [PPz]); refine tkn 8 ?vu9 rfl ?hyu9 hHeld ?restu9
  case hyu9 => (intro w hSw; go_simp; first | done | (with_reducible rfl))
  (try simp only [PPz]); refine wpAnyH_done (by kernel_rfl) ?_ _; refine NoPanic.normal ?_; have hbb2 := hHeld.toBelow hbb (fun k hk => by omega) (by omega); have hfd2 := hfd.keep_gb hHeld (by omega); have ya0 := B2.c 0 rfl; have ya1 := B2.c 1 rfl; (go_wp2_with fail); exact bodyPost_ret (v := .tuple #[.agg #[.slice A2 m2 ca2, .slice Q2 n2 cq2], .bool z, .int .i64 0]) (by simp [results, Tryz.results100, go_sem, ya0, ya1]) rfl ⟨A2, m2, ca2, Q2, n2, cq2, l2, rfl, hbb2, HM2.out, HN2.out, HD2.out, hfd2.mono (by omega)⟩
end Go.Proofs.YtpcdggkajindbaaGreat
namespace Go.Proofs.YtpcdggkajindbaaGreat
open Go.RowKit
namespace Ch
section
variable (D : List CkD) (n a b : Int)
/-- The mark for the share of an agent. -/
def mkQ (j : Nat) : Int × Int × Int := Ak.kS (Ak.dAt D j) a b (sh n (Ak.dAt D j)).1 (sh n (Ak.dAt D j)).2.1
def qM (j : Nat) : Qr := ⟨j, 2, a, b, (sh n (Ak.dAt D j)).1, (sh n (Ak.dAt D j)).2.1, (mkQ D n a b j).1, (mkQ D n a b j).2.1⟩
/-- What the piece up to the mark of i is worth for j. -/
def vlQ (i j : Nat) : Int × Int × Int := Ak.vS (Ak.dAt D j) a b (mkQ D n a b i).1 (mkQ D n a b i).2.1
def qV (i j : Nat) : Qr := ⟨j, 1, a, b, (mkQ D n a b i).1, (mkQ D n a b i).2.1, (vlQ D n a b i j).1, (vlQ D n a b i j).2.1⟩
def mre (i j : Nat) : Bool := decide (shq n (Ak.dAt D j) < Rp.q (vlQ D n a b i j).1 (vlQ D n a b i j).2.1)
/-- The rest of a round: who holds the piece, how often it was trimmed, and the log. -/
def scan : List Nat → Nat → Nat → List Qr → Nat × Nat × List Qr
  | [], i, t, L => (i, t, L)
  | j :: r, i, t, L => if mre D n a b i j = true then scan r j (t + 1) (L ++ [qV D n a b i j] ++ [qM D n a b j]) else scan r i t (L ++ [qV D n a b i j])
/-- All marks and values that a round may ask for are there. -/
structure RFit (l : List Nat) : Prop where
  lt : ∀ j ∈ l, j < D.length
  mark : ∀ j ∈ l, (mkQ D n a b j).2.2 = 0 ∧ Rp.Ok (mkQ D n a b j).1 (mkQ D n a b j).2.1
  val : ∀ i ∈ l, ∀ j ∈ l, (vlQ D n a b i j).2.2 = 0 ∧ Rp.Ok (vlQ D n a b i j).1 (vlQ D n a b i j).2.1
end
section
variable {D : List CkD} {n a b : Int}
theorem chk_up {m : Nat} (h : Ak.chkS D 0 = 0) (hm : m ≤ 2000) : Ak.chkS D m = 0 :=
  Ak.good_chkS ⟨(Ak.chkS_good h).l0, (Ak.chkS_good h).l1, hm, (Ak.chkS_good h).all, (Ak.chkS_good h).same⟩
theorem ans_M {j : Nat} (hj : j < D.length) (s1 s2 : Int) : Ak.ansS D ⟨j, 2, a, b, s1, s2, 0, 0⟩ = Ak.kS (Ak.dAt D j) a b s1 s2 := by
  unfold Ak.ansS
  rw [if_pos ⟨Int.natCast_nonneg _, by dsimp only; omega⟩, if_neg (show ¬ (2 : Int) = 1 by decide), if_pos rfl]
  rfl
theorem ans_V {j : Nat} (hj : j < D.length) (x y : Int) : Ak.ansS D ⟨j, 1, a, b, x, y, 0, 0⟩ = Ak.vS (Ak.dAt D j) a b x y := by
  unfold Ak.ansS
  rw [if_pos ⟨Int.natCast_nonneg _, by dsimp only; omega⟩, if_pos rfl]
  rfl
theorem put_M {l : List Nat} (F : RFit D n a b l) {j m : Nat} (hj : j ∈ l) (hc : Ak.chkS D 0 = 0) (hm : m < 2000) :
    Ak.putE D m ⟨j, 2, a, b, (sh n (Ak.dAt D j)).1, (sh n (Ak.dAt D j)).2.1, 0, 0⟩ = 0 ∧ Ak.told D ⟨j, 2, a, b, (sh n (Ak.dAt D j)).1, (sh n (Ak.dAt D j)).2.1, 0, 0⟩ = qM D n a b j := by
  have h1 := ans_M (a := a) (b := b) (F.lt j hj) (sh n (Ak.dAt D j)).1 (sh n (Ak.dAt D j)).2.1
  constructor
  · unfold Ak.putE
    rw [if_neg (by rw [chk_up hc (by omega)]; simp), h1, if_neg (by have := (F.mark j hj).1; unfold mkQ at this; rw [this]; simp), if_neg (by omega)]
  · unfold Ak.told
    rw [h1]
    rfl
theorem put_V {l : List Nat} (F : RFit D n a b l) {i j m : Nat} (hi : i ∈ l) (hj : j ∈ l) (hc : Ak.chkS D 0 = 0) (hm : m < 2000) :
    Ak.putE D m ⟨j, 1, a, b, (mkQ D n a b i).1, (mkQ D n a b i).2.1, 0, 0⟩ = 0 ∧ Ak.told D ⟨j, 1, a, b, (mkQ D n a b i).1, (mkQ D n a b i).2.1, 0, 0⟩ = qV D n a b i j := by
  have h1 := ans_V (a := a) (b := b) (F.lt j hj) (mkQ D n a b i).1 (mkQ D n a b i).2.1
  constructor
  · unfold Ak.putE
    rw [if_neg (by rw [chk_up hc (by omega)]; simp), h1, if_neg (by have := (F.val i hi j hj).1; unfold vlQ at this; rw [this]; simp), if_neg (by omega)]
  · unfold Ak.told
    rw [h1]
    rfl
theorem drop_at {l : List Nat} {k : Nat} (hk : k < l.length) : l.drop k = l.getD k 0 :: l.drop (k + 1) := by
  rw [List.drop_eq_getElem_cons hk]
  simp [hk]
theorem getD_mem {l : List Nat} {k : Nat} (hk : k < l.length) : l.getD k 0 ∈ l := by
  simp [hk]
end
end Ch
end Go.Proofs.YtpcdggkajindbaaGreat

