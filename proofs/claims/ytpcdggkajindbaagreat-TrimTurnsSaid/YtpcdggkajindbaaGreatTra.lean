/- Package trim: less, whole, end, share. -/
import Derived.Test.YtpcdggkajindbaaGreatGk
import Derived.Test.YtpcdggkajindbaaGreatSd
import Derived.Test.YtpcdggkajindbaaGreatTrm
import Derived.Test.YtpcdggkajindbaaGreatMake
import Derived.Test.YtpcdggkajindbaaGreatPoint
import Derived.Test.YtpcdggkajindbaaGreatGn
namespace Go.Proofs.YtpcdggkajindbaaGreat
open Go.RowKit
theorem tmwhole_any (n : Int) (w : World) : Calls Tryz.prog 65 #[.int .i64 n] w fun e w' => e = .returned (.agg #[.int .i64 n, .int .i64 1]) ∧ Below w.heap.size w w' := by
  go_enter Tryz.func65, Tryz.ntmps65
  go_wp2
  exact bodyPost_ret (v := .agg #[.int .i64 n, .int .i64 1]) (by simp [results, Tryz.results65, go_sem]) rfl ⟨rfl, (Below.refl _ _).alloc (Nat.le_refl _) _⟩
theorem tmless_any (n d m c : Int) (h : Rp.Ok n d) (k : Rp.Ok m c) (w : World) :
    Calls Tryz.prog 139 #[.agg #[.int .i64 n, .int .i64 d], .agg #[.int .i64 m, .int .i64 c]] w fun e w' => e = .returned (.bool (decide (Rp.q n d < Rp.q m c))) ∧ Below w.heap.size w w' := by
  have h' := h
  have k' := k
  obtain ⟨h1, h2, h3, h4, _⟩ := h'
  obtain ⟨k1, k2, k3, k4, _⟩ := k'
  have cc := fun w => Cmp_any n d m c w (by omega) (by omega) (by omega) (by omega) (by omega) (by omega) (by omega) (by omega)
  rw [Rp.cmpS_ok h k] at cc
  have HD := Lib.hid (Rp.cmpQ_neg (Rp.q n d) (Rp.q m c))
  generalize Rp.cmpQ (Rp.q n d) (Rp.q m c) = R at *
  have CC := Lib.hid cc
  clear cc h k
  go_enter Tryz.func139, Tryz.ntmps139
  go_wp2_with fail
  refine (CC.out _).mono ?_
  rintro e w1 ⟨rfl, hb1⟩
  have hbb : Below w.heap.size w w1 := keepB (((Below.refl _ _).alloc (Nat.le_refl _) _).alloc (by simp) _) hb1
  clear hb1 CC
  go_wp2
  go_ret
  exact ⟨by rw [← HD.out]; rfl, hbb⟩
set_option linter.unusedSimpArgs false in
set_option maxHeartbeats 8000000 in
set_option maxRecDepth 100000 in
theorem tmend_any (A : Option Addr) (ca : Nat) (cs : List CkR) (Q : Option Addr) (m cq : Nat) (len : Int) (w : World) (h : IsCs w A cs) (h0 : 0 < cs.length) (hl : (Ak.cat cs 0).len = len) :
    Calls Tryz.prog 97 #[.agg #[.slice A cs.length ca, .slice Q m cq]] w fun e w' => e = .returned (.agg #[.int .i64 len, .int .i64 1]) ∧ Below w.heap.size w w' := by
  obtain ⟨bb, o, hA, hcl⟩ := h.at_
  obtain rfl := hA h0
  have hc0 := (hcl 0 h0).1
  rw [hl, show o + 0 * 3 = o by omega] at hc0
  have wh := fun v => tmwhole_any len v
  have WHH := Lib.hid wh
  have i1 : (0 : Int) < (cs.length : Int) := by omega
  clear hcl hA h hl wh
  go_enter Tryz.func97, Tryz.ntmps97
  go_upto_region 1 with fail
  refine at_worldQ (fun v => Below w.heap.size w v ∧ BK v (w.heap.size) [.slice (some ⟨bb, o, none⟩) cs.length ca, .slice Q m cq] ∧ BK v (w.heap.size + 1) [.int .i64 0, .int .i64 0] ∧ v.heap.size = w.heap.size + 2) ⟨(below_al (below_al (Below.refl _ _) _) _), (by have b := ((BK.new w [.slice (some ⟨bb, o, none⟩) cs.length ca, .slice Q m cq] 65).al (.cells #[.int .i64 0, .int .i64 0] 44)); simpa only [World.size_alloc] using b), (by have b := (BK.new (w.alloc (.cells #[.slice (some ⟨bb, o, none⟩) cs.length ca, .slice Q m cq] 65)) [.int .i64 0, .int .i64 0] 44); simpa only [World.size_alloc] using b), by simp only [World.size_alloc]⟩ (fun V hS => ?_)
  obtain ⟨hbb, B0, B1, hVs⟩ := hS
  have p0 := B0.c 0 rfl
  have c0 := keepC hbb hc0
  go_wp2_with fail
  refine (WHH.out _).mono ?_
  rintro e w1 ⟨rfl, hb⟩
  replace hbb := keepB hbb hb
  replace B1 := B1.keep hb
  clear hb c0 p0 B0
  have r0 := B1.c 0 rfl
  have r1 := B1.c 1 rfl
  have g0 := B1.f 0 rfl
  have g1 := B1.f 1 rfl
  go_wp2_with fail
  exact bodyPost_ret (v := .agg #[.int .i64 len, .int .i64 1]) (by simp [results, Tryz.results97, go_sem, r0, r1]) rfl ⟨rfl, below_set (below_set hbb (by omega) _) (by omega) _⟩
set_option linter.unusedSimpArgs false in
set_option maxHeartbeats 8000000 in
set_option maxRecDepth 100000 in
theorem tmshare_any (A : Option Addr) (ca : Nat) (cs : List CkR) (Q : Option Addr) (m cq k : Nat) (n : Int) (w : World) (h : IsCs w A cs) (hm : m ≤ maxLen) (hc : Ak.chkS (cs.map Ak.dat) m = 0) (hk : k < cs.length) (hn : n = (cs.length : Nat)) :
    Calls Tryz.prog 99 #[.agg #[.slice A cs.length ca, .slice Q m cq], .int .i64 k] w fun e w' => e = .returned (.agg #[.int .i64 (Ch.sh n (Ak.dAt (cs.map Ak.dat) k)).1, .int .i64 (Ch.sh n (Ak.dAt (cs.map Ak.dat) k)).2.1]) ∧ Below w.heap.size w w' := by
  have hgd := Ak.chkS_good hc
  have hl1 := hgd.l0
  have hl6 := hgd.l1
  rw [List.length_map] at hl1 hl6
  have hck := hgd.all (Ak.dat (Ak.cat cs k)) (List.mem_map_of_mem (Ak.cat_mem hk))
  have tot := fun v (hv : Below w.heap.size w v) => askTotal_good A ca cs Q m cq k v (h.keep hv) hm hc hk
  rw [Ak.dAt_map cs hk]
  have ht : Ck.totS (Ak.cat cs k).len (Ak.cat cs k).cuts (Ak.cat cs k).dens = (Ck.tot (Ak.cat cs k).cuts (Ak.cat cs k).dens (Ak.cat cs k).dens.length, 0) := by
    unfold Ck.totS
    rw [if_pos (show Ck.chk (Ak.cat cs k).len (Ak.cat cs k).cuts (Ak.cat cs k).dens = 0 from hck)]
  rw [ht] at tot
  have hG := Ck.chk_good (show Ck.chk _ _ _ = 0 from hck)
  have t0 := (Ck.tot_bd hG _ (Nat.le_refl _)).1
  have t1 := (Ck.tot_bd hG _ (Nat.le_refl _)).2
  have l1 := hG.len1
  have la := hG.last
  have hf : Ch.sh n (Ak.dat (Ak.cat cs k)) = Rp.makeS (Ck.tot (Ak.cat cs k).cuts (Ak.cat cs k).dens (Ak.cat cs k).dens.length) n := rfl
  dsimp only [Ak.dat] at l1 la t0 t1
  dsimp only at tot
  rw [hf]
  have t2 : Ck.tot (Ak.cat cs k).cuts (Ak.cat cs k).dens (Ak.cat cs k).dens.length ≤ 12000 := by omega
  clear hf ht la l1 t1 hG hck hgd
  generalize Ck.tot (Ak.cat cs k).cuts (Ak.cat cs k).dens (Ak.cat cs k).dens.length = T at *
  have mk := fun v => Make_any T n (by omega) (by omega) (by omega) (by omega) v
  generalize Rp.makeS T n = M at *
  obtain ⟨M1, M2, M3⟩ := M
  dsimp only at mk ⊢
  obtain ⟨nc, hnc⟩ : ∃ z, cs.length = z := ⟨_, rfl⟩
  rw [hnc] at tot hn ⊢
  subst hn
  have TOT := Lib.hid tot
  have MK := Lib.hid mk
  clear tot mk h hm hc hk t0 t2 hnc hl1 hl6
  go_enter Tryz.func99, Tryz.ntmps99
  go_upto_region 1 with fail
  refine at_worldQ (fun v => Below w.heap.size w v ∧ BK v (w.heap.size) [.slice A nc ca, .slice Q m cq] ∧ BK v (w.heap.size + 1) [.int .i64 0, .int .i64 0] ∧ v.heap.size = w.heap.size + 2) ⟨(below_al (below_al (Below.refl _ _) _) _), (by have b := ((BK.new w [.slice A nc ca, .slice Q m cq] 65).al (.cells #[.int .i64 0, .int .i64 0] 44)); simpa only [World.size_alloc] using b), (by have b := (BK.new (w.alloc (.cells #[.slice A nc ca, .slice Q m cq] 65)) [.int .i64 0, .int .i64 0] 44); simpa only [World.size_alloc] using b), by simp only [World.size_alloc]⟩ (fun V hS => ?_)
  obtain ⟨hbb, B0, B1, hVs⟩ := hS
  have p0 := B0.c 0 rfl
  have p1 := B0.c 1 rfl
  go_wp2_with fail
  refine (TOT.out _ hbb).mono ?_
  rintro e w1 ⟨rfl, hb⟩
  clear p0 p1
  replace hbb := keepB hbb hb
  replace B0 := B0.keep hb
  replace B1 := B1.keep hb
  clear hb
  have p0 := B0.c 0 rfl
  go_wp2_with fail
  refine (MK.out _).mono ?_
  rintro e w2 ⟨rfl, hb⟩
  clear p0
  replace hbb := keepB hbb hb
  replace B1 := B1.keep hb
  clear hb B0
  go_upto_region 3 with fail
  refine at_worldQ (fun v => Below w.heap.size w v ∧ BK v (w.heap.size + 1) [.int .i64 0, .int .i64 0] ∧ BK v w2.heap.size [.int .i64 M1, .int .i64 M2]) ⟨below_al hbb _, B1.al _, BK.new _ _ _⟩ (fun V3 hS => ?_)
  have hw2 := hbb.size
  clear hbb B1
  obtain ⟨hbb, B1, B2⟩ := hS
  have a0 := B2.c 0 rfl
  have a1 := B2.c 1 rfl
  have r0 := B1.c 0 rfl
  have r1 := B1.c 1 rfl
  have g0 := B1.f 0 rfl
  have g1 := B1.f 1 rfl
  go_wp2_with fail
  exact bodyPost_ret (v := .agg #[.int .i64 M1, .int .i64 M2]) (by simp [results, Tryz.results99, go_sem, r0, r1]) rfl ⟨rfl, by repeat (first | exact hbb | refine below_set ?_ (by omega) _)⟩
end Go.Proofs.YtpcdggkajindbaaGreat

