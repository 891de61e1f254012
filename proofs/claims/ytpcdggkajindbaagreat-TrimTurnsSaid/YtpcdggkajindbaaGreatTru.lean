/- The reference's Value of a valid cake, and its Share. -/
import Derived.Test.YtpcdggkajindbaaGreatGg
import Derived.Test.YtpcdggkajindbaaGreatAskm
import Derived.Test.YtpcdggkajindbaaGreatRcheck
import Derived.Test.YtpcdggkajindbaaGreatRadda
import Derived.Test.YtpcdggkajindbaaGreatGv
import Derived.Test.YtpcdggkajindbaaGreatGf
import Derived.Test.YtpcdggkajindbaaGreatMake
import Derived.Test.YtpcdggkajindbaaGreatTrm
import Derived.Test.YtpcdggkajindbaaGreatTree
import Derived.Deep.CutBlock
import Derived.Deep.DeepCutAuto
namespace Go.Proofs.YtpcdggkajindbaaGreat
open Go.RowKit
theorem Ck.mnS_other {n d m c : Int} (h : Rp.Ok n d) (k : Rp.Ok m c) : Ck.mnS n d m c = if Rp.q n d < Rp.q m c then (n, d) else (m, c) := by
  unfold Ck.mnS
  by_cases h1 : Rp.q n d < Rp.q m c
  · rw [if_pos h1, if_neg (by grind)]
  · rw [if_neg h1]
    by_cases h2 : Rp.q m c < Rp.q n d
    · rw [if_pos h2]
    · rw [if_neg h2]
      obtain ⟨rfl, rfl⟩ := Rp.q_inj h k (by grind)
      rfl
/-- What an interval gives, and its error. -/
def Ck.wrS (a b c d k : Int) : Int × Int × Int := if k = 0 ∨ ¬ Rp.q a b < Rp.q c d then (0, 1, 0) else Ck.wthS a b c d k
set_option linter.unusedSimpArgs false in
set_option maxHeartbeats 8000000 in
set_option maxRecDepth 100000 in
theorem rlater_any (n d m c : Int) (h : Rp.Ok n d) (k : Rp.Ok m c) (w : World) :
    Calls Tryz.prog 73 #[.agg #[.int .i64 n, .int .i64 d], .agg #[.int .i64 m, .int .i64 c]] w fun e w' => e = .returned (.agg #[.int .i64 (Ck.mxS n d m c).1, .int .i64 (Ck.mxS n d m c).2]) ∧ Below w.heap.size w w' := by
  have ls := fun v => Less_any n d m c h k v
  unfold Ck.mxS
  by_cases hlt : Rp.q n d < Rp.q m c
  · rw [decide_eq_true hlt] at ls
    rw [if_pos hlt]
    have LS := Lib.hid ls
    clear ls hlt h k
    go_enter Tryz.func73, Tryz.ntmps73
    go_upto_region 1 with fail
    refine at_worldQ (fun v => Below w.heap.size w v ∧ BK v (w.heap.size) [.int .i64 n, .int .i64 d] ∧ BK v (w.heap.size + 1) [.int .i64 m, .int .i64 c] ∧ BK v (w.heap.size + 2) [.int .i64 0, .int .i64 0] ∧ v.heap.size = w.heap.size + 3) ⟨(below_al (below_al (below_al (Below.refl _ _) _) _) _), (by have b := (((BK.new w [.int .i64 n, .int .i64 d] 44).al (.cells #[.int .i64 m, .int .i64 c] 44)).al (.cells #[.int .i64 0, .int .i64 0] 44)); simpa only [World.size_alloc] using b), (by have b := ((BK.new (w.alloc (.cells #[.int .i64 n, .int .i64 d] 44)) [.int .i64 m, .int .i64 c] 44).al (.cells #[.int .i64 0, .int .i64 0] 44)); simpa only [World.size_alloc] using b), (by have b := (BK.new ((w.alloc (.cells #[.int .i64 n, .int .i64 d] 44)).alloc (.cells #[.int .i64 m, .int .i64 c] 44)) [.int .i64 0, .int .i64 0] 44); simpa only [World.size_alloc] using b), by simp only [World.size_alloc]⟩ (fun V hS => ?_)
    obtain ⟨hbb, B0, B1, B2, hVs⟩ := hS
    have p0 := B0.c 0 rfl
    have p1 := B0.c 1 rfl
    have q0 := B1.c 0 rfl
    have q1 := B1.c 1 rfl
    go_wp2_with fail
    refine (LS.out _).mono ?_
    rintro e w1 ⟨rfl, hb⟩
    clear p0 p1 q0 q1
    replace hbb := keepB hbb hb
    replace B0 := B0.keep hb
    replace B1 := B1.keep hb
    replace B2 := B2.keep hb
    clear hb LS
    have p0 := B0.c 0 rfl
    have p1 := B0.c 1 rfl
    have q0 := B1.c 0 rfl
    have q1 := B1.c 1 rfl
    have r0 := B2.c 0 rfl
    have r1 := B2.c 1 rfl
    have g0 := B2.f 0 rfl
    have g1 := B2.f 1 rfl
    go_wp2_with fail
    exact bodyPost_ret (v := .agg #[.int .i64 m, .int .i64 c]) (by simp [results, Tryz.results73, go_sem, r0, r1]) rfl ⟨rfl, below_set (below_set hbb (by omega) _) (by omega) _⟩
  · rw [decide_eq_false hlt] at ls
    rw [if_neg hlt]
    have LS := Lib.hid ls
    clear ls hlt h k
    go_enter Tryz.func73, Tryz.ntmps73
    go_upto_region 1 with fail
    refine at_worldQ (fun v => Below w.heap.size w v ∧ BK v (w.heap.size) [.int .i64 n, .int .i64 d] ∧ BK v (w.heap.size + 1) [.int .i64 m, .int .i64 c] ∧ BK v (w.heap.size + 2) [.int .i64 0, .int .i64 0] ∧ v.heap.size = w.heap.size + 3) ⟨(below_al (below_al (below_al (Below.refl _ _) _) _) _), (by have b := (((BK.new w [.int .i64 n, .int .i64 d] 44).al (.cells #[.int .i64 m, .int .i64 c] 44)).al (.cells #[.int .i64 0, .int .i64 0] 44)); simpa only [World.size_alloc] using b), (by have b := ((BK.new (w.alloc (.cells #[.int .i64 n, .int .i64 d] 44)) [.int .i64 m, .int .i64 c] 44).al (.cells #[.int .i64 0, .int .i64 0] 44)); simpa only [World.size_alloc] using b), (by have b := (BK.new ((w.alloc (.cells #[.int .i64 n, .int .i64 d] 44)).alloc (.cells #[.int .i64 m, .int .i64 c] 44)) [.int .i64 0, .int .i64 0] 44); simpa only [World.size_alloc] using b), by simp only [World.size_alloc]⟩ (fun V hS => ?_)
    obtain ⟨hbb, B0, B1, B2, hVs⟩ := hS
    have p0 := B0.c 0 rfl
    have p1 := B0.c 1 rfl
    have q0 := B1.c 0 rfl
    have q1 := B1.c 1 rfl
    go_wp2_with fail
    refine (LS.out _).mono ?_
    rintro e w1 ⟨rfl, hb⟩
    clear p0 p1 q0 q1
    replace hbb := keepB hbb hb
    replace B0 := B0.keep hb
    replace B1 := B1.keep hb
    replace B2 := B2.keep hb
    clear hb LS
    have p0 := B0.c 0 rfl
    have p1 := B0.c 1 rfl
    have q0 := B1.c 0 rfl
    have q1 := B1.c 1 rfl
    have r0 := B2.c 0 rfl
    have r1 := B2.c 1 rfl
    have g0 := B2.f 0 rfl
    have g1 := B2.f 1 rfl
    go_wp2_with fail
    exact bodyPost_ret (v := .agg #[.int .i64 n, .int .i64 d]) (by simp [results, Tryz.results73, go_sem, r0, r1]) rfl ⟨rfl, below_set (below_set hbb (by omega) _) (by omega) _⟩
set_option linter.unusedSimpArgs false in
set_option maxHeartbeats 8000000 in
set_option maxRecDepth 100000 in
theorem rsooner_any (n d m c : Int) (h : Rp.Ok n d) (k : Rp.Ok m c) (w : World) :
    Calls Tryz.prog 74 #[.agg #[.int .i64 n, .int .i64 d], .agg #[.int .i64 m, .int .i64 c]] w fun e w' => e = .returned (.agg #[.int .i64 (Ck.mnS n d m c).1, .int .i64 (Ck.mnS n d m c).2]) ∧ Below w.heap.size w w' := by
  have ls := fun v => Less_any n d m c h k v
  rw [Ck.mnS_other h k]
  by_cases hlt : Rp.q n d < Rp.q m c
  · rw [decide_eq_true hlt] at ls
    rw [if_pos hlt]
    have LS := Lib.hid ls
    clear ls hlt h k
    go_enter Tryz.func74, Tryz.ntmps74
    go_upto_region 1 with fail
    refine at_worldQ (fun v => Below w.heap.size w v ∧ BK v (w.heap.size) [.int .i64 n, .int .i64 d] ∧ BK v (w.heap.size + 1) [.int .i64 m, .int .i64 c] ∧ BK v (w.heap.size + 2) [.int .i64 0, .int .i64 0] ∧ v.heap.size = w.heap.size + 3) ⟨(below_al (below_al (below_al (Below.refl _ _) _) _) _), (by have b := (((BK.new w [.int .i64 n, .int .i64 d] 44).al (.cells #[.int .i64 m, .int .i64 c] 44)).al (.cells #[.int .i64 0, .int .i64 0] 44)); simpa only [World.size_alloc] using b), (by have b := ((BK.new (w.alloc (.cells #[.int .i64 n, .int .i64 d] 44)) [.int .i64 m, .int .i64 c] 44).al (.cells #[.int .i64 0, .int .i64 0] 44)); simpa only [World.size_alloc] using b), (by have b := (BK.new ((w.alloc (.cells #[.int .i64 n, .int .i64 d] 44)).alloc (.cells #[.int .i64 m, .int .i64 c] 44)) [.int .i64 0, .int .i64 0] 44); simpa only [World.size_alloc] using b), by simp only [World.size_alloc]⟩ (fun V hS => ?_)
    obtain ⟨hbb, B0, B1, B2, hVs⟩ := hS
    have p0 := B0.c 0 rfl
    have p1 := B0.c 1 rfl
    have q0 := B1.c 0 rfl
    have q1 := B1.c 1 rfl
    go_wp2_with fail
    refine (LS.out _).mono ?_
    rintro e w1 ⟨rfl, hb⟩
    clear p0 p1 q0 q1
    replace hbb := keepB hbb hb
    replace B0 := B0.keep hb
    replace B1 := B1.keep hb
    replace B2 := B2.keep hb
    clear hb LS
    have p0 := B0.c 0 rfl
    have p1 := B0.c 1 rfl
    have q0 := B1.c 0 rfl
    have q1 := B1.c 1 rfl
    have r0 := B2.c 0 rfl
    have r1 := B2.c 1 rfl
    have g0 := B2.f 0 rfl
    have g1 := B2.f 1 rfl
    go_wp2_with fail
    exact bodyPost_ret (v := .agg #[.int .i64 n, .int .i64 d]) (by simp [results, Tryz.results74, go_sem, r0, r1]) rfl ⟨rfl, below_set (below_set hbb (by omega) _) (by omega) _⟩
  · rw [decide_eq_false hlt] at ls
    rw [if_neg hlt]
    have LS := Lib.hid ls
    clear ls hlt h k
    go_enter Tryz.func74, Tryz.ntmps74
    go_upto_region 1 with fail
    refine at_worldQ (fun v => Below w.heap.size w v ∧ BK v (w.heap.size) [.int .i64 n, .int .i64 d] ∧ BK v (w.heap.size + 1) [.int .i64 m, .int .i64 c] ∧ BK v (w.heap.size + 2) [.int .i64 0, .int .i64 0] ∧ v.heap.size = w.heap.size + 3) ⟨(below_al (below_al (below_al (Below.refl _ _) _) _) _), (by have b := (((BK.new w [.int .i64 n, .int .i64 d] 44).al (.cells #[.int .i64 m, .int .i64 c] 44)).al (.cells #[.int .i64 0, .int .i64 0] 44)); simpa only [World.size_alloc] using b), (by have b := ((BK.new (w.alloc (.cells #[.int .i64 n, .int .i64 d] 44)) [.int .i64 m, .int .i64 c] 44).al (.cells #[.int .i64 0, .int .i64 0] 44)); simpa only [World.size_alloc] using b), (by have b := (BK.new ((w.alloc (.cells #[.int .i64 n, .int .i64 d] 44)).alloc (.cells #[.int .i64 m, .int .i64 c] 44)) [.int .i64 0, .int .i64 0] 44); simpa only [World.size_alloc] using b), by simp only [World.size_alloc]⟩ (fun V hS => ?_)
    obtain ⟨hbb, B0, B1, B2, hVs⟩ := hS
    have p0 := B0.c 0 rfl
    have p1 := B0.c 1 rfl
    have q0 := B1.c 0 rfl
    have q1 := B1.c 1 rfl
    go_wp2_with fail
    refine (LS.out _).mono ?_
    rintro e w1 ⟨rfl, hb⟩
    clear p0 p1 q0 q1
    replace hbb := keepB hbb hb
    replace B0 := B0.keep hb
    replace B1 := B1.keep hb
    replace B2 := B2.keep hb
    clear hb LS
    have p0 := B0.c 0 rfl
    have p1 := B0.c 1 rfl
    have q0 := B1.c 0 rfl
    have q1 := B1.c 1 rfl
    have r0 := B2.c 0 rfl
    have r1 := B2.c 1 rfl
    have g0 := B2.f 0 rfl
    have g1 := B2.f 1 rfl
    go_wp2_with fail
    exact bodyPost_ret (v := .agg #[.int .i64 m, .int .i64 c]) (by simp [results, Tryz.results74, go_sem, r0, r1]) rfl ⟨rfl, below_set (below_set hbb (by omega) _) (by omega) _⟩
set_option linter.unusedSimpArgs false in
set_option maxHeartbeats 8000000 in
set_option maxRecDepth 100000 in
theorem rworth_any (len : Int) (bk ok nk ck bz oz nz cz i : Nat) (n1 d1 n2 d2 p1 p2 dd : Int) (w : World) (h1 : Rp.Ok n1 d1) (h2 : Rp.Ok n2 d2) (r1 : 0 ≤ p1 ∧ p1 ≤ 1000) (r2 : 0 ≤ p2 ∧ p2 ≤ 1000) (rd : 0 ≤ dd ∧ dd ≤ 12) (hi : i + 1 < nk) (hz : i < nz) (hk : nk ≤ 40)
    (c1 : w.cell? ⟨bk, ok + i, none⟩ = some (.int .i64 p1)) (c2 : w.cell? ⟨bk, ok + (i + 1), none⟩ = some (.int .i64 p2)) (c3 : w.cell? ⟨bz, oz + i, none⟩ = some (.int .i64 dd)) :
    Calls Tryz.prog 46 #[.agg #[.int .i64 len, .slice (some ⟨bk, ok, none⟩) nk ck, .slice (some ⟨bz, oz, none⟩) nz cz], .int .i64 (i : Nat), .agg #[.int .i64 n1, .int .i64 d1], .agg #[.int .i64 n2, .int .i64 d2]] w fun e w' => e = .returned (.tuple #[.agg #[.int .i64 (Ck.wrS (Ck.mxS n1 d1 p1 1).1 (Ck.mxS n1 d1 p1 1).2 (Ck.mnS n2 d2 p2 1).1 (Ck.mnS n2 d2 p2 1).2 dd).1, .int .i64 (Ck.wrS (Ck.mxS n1 d1 p1 1).1 (Ck.mxS n1 d1 p1 1).2 (Ck.mnS n2 d2 p2 1).1 (Ck.mnS n2 d2 p2 1).2 dd).2.1], .int .i64 (Ck.wrS (Ck.mxS n1 d1 p1 1).1 (Ck.mxS n1 d1 p1 1).2 (Ck.mnS n2 d2 p2 1).1 (Ck.mnS n2 d2 p2 1).2 dd).2.2]) ∧ Below w.heap.size w w' := by
  have o1 : Rp.Ok p1 1 := Rp.Ok_one (by omega) (by omega)
  have o2 : Rp.Ok p2 1 := Rp.Ok_one (by omega) (by omega)
  have la := fun v => rlater_any n1 d1 p1 1 h1 o1 v
  have so := fun v => rsooner_any n2 d2 p2 1 h2 o2 v
  have m1 := (Ck.mxS_ok h1 o1).1
  have m2 := (Ck.mnS_ok h2 o2).1
  obtain ⟨⟨f1, f2⟩, hf⟩ : ∃ z, Ck.mxS n1 d1 p1 1 = z := ⟨_, rfl⟩
  obtain ⟨⟨t1, t2⟩, ht⟩ : ∃ z, Ck.mnS n2 d2 p2 1 = z := ⟨_, rfl⟩
  rw [hf] at la m1 ⊢
  rw [ht] at so m2 ⊢
  dsimp only at la so m1 m2 ⊢
  have ls := fun v => Less_any f1 f2 t1 t2 m1 m2 v
  have sb := fun v => rSub_any t1 t2 f1 f2 v (by have := m2.2.2.1; omega) (by have := m2.2.2.2.1; omega) (by have := m2.1; omega) (by have := m2.2.1; omega) (by have := m1.2.2.1; omega) (by have := m1.2.2.2.1; omega) (by have := m1.1; omega) (by have := m1.2.1; omega)
  have sk := Rp.ofQ_cases (Rp.q t1 t2 - Rp.q f1 f2)
  rw [← Rp.subS_ok m2 m1] at sk
  obtain ⟨R, hR⟩ : ∃ z, Ck.wrS f1 f2 t1 t2 dd = z := ⟨_, rfl⟩
  rw [hR]
  unfold Ck.wrS Ck.wthS at hR
  obtain ⟨⟨s1, s2, s3⟩, hs⟩ : ∃ z, Rp.subS t1 t2 f1 f2 = z := ⟨_, rfl⟩
  rw [hs] at sb sk hR
  dsimp only at sb sk hR
  have ml := fun v (hok : Rp.Ok s1 s2) => rMul_any s1 s2 dd 1 v (by have := hok.2.2.1; omega) (by have := hok.2.2.2.1; omega) (by have := hok.1; omega) (by have := hok.2.1; omega) (by omega) (by omega) (by omega) (by omega)
  have of := fun (z : Int) (v : World) => rOf_any z v
  obtain ⟨lt, hlt⟩ : ∃ z : Bool, decide (Rp.q f1 f2 < Rp.q t1 t2) = z := ⟨_, rfl⟩
  rw [hlt] at ls
  obtain ⟨R1, R2, R3⟩ := R
  dsimp only
  have rest : ∀ (pf pt : Nat) (v : World), Below w.heap.size w v → BK v w.heap.size [.int .i64 len, .slice (some ⟨bk, ok, none⟩) nk ck, .slice (some ⟨bz, oz, none⟩) nz cz] → BK v (w.heap.size + 3) [.int .i64 0, .int .i64 0] → BK v pf [.int .i64 f1, .int .i64 f2] → BK v pt [.int .i64 t1, .int .i64 t2] → True := fun _ _ _ _ _ _ _ _ => trivial
  have HLT := Lib.hid hlt
  have HR := Lib.hid hR
  have SK := Lib.hid sk
  have LA := Lib.hid la
  have SQ := Lib.hid so
  have LS := Lib.hid ls
  have SB := Lib.hid sb
  have ML := Lib.hid ml
  have OFF := Lib.hid of
  have hzw := lt_of_cell c3
  clear la so ls sb ml of hf ht hs hlt hR sk h1 h2 o1 o2 m1 m2 rest
  have i1 : (i : Int) < (nk : Int) := by omega
  have i2 : (i : Int) + 1 < (nk : Int) := by omega
  have i3 : (i : Int) < (nz : Int) := by omega
  have i0 : (0 : Int) ≤ (i : Int) := by omega
  have i4 : (0 : Int) ≤ (i : Int) + 1 := by omega
  have i5 : ((i : Int) + 1).toNat = i + 1 := by omega
  have i6 : IntKind.i64.wrap ((i : Int) + 1) = (i : Int) + 1 := IntWalk.i64_in _ (by omega)
  go_enter Tryz.func46, Tryz.ntmps46
  go_upto_region 1 with fail
  refine at_worldQ (fun v => Below w.heap.size w v ∧ BK v (w.heap.size) [.int .i64 len, .slice (some ⟨bk, ok, none⟩) nk ck, .slice (some ⟨bz, oz, none⟩) nz cz] ∧ BK v (w.heap.size + 1) [.int .i64 n1, .int .i64 d1] ∧ BK v (w.heap.size + 2) [.int .i64 n2, .int .i64 d2] ∧ BK v (w.heap.size + 3) [.int .i64 0, .int .i64 0] ∧ v.heap.size = w.heap.size + 4) ⟨(below_al (below_al (below_al (below_al (Below.refl _ _) _) _) _) _), (by have b := ((((BK.new w [.int .i64 len, .slice (some ⟨bk, ok, none⟩) nk ck, .slice (some ⟨bz, oz, none⟩) nz cz] 48).al (.cells #[.int .i64 n1, .int .i64 d1] 44)).al (.cells #[.int .i64 n2, .int .i64 d2] 44)).al (.cells #[.int .i64 0, .int .i64 0] 44)); simpa only [World.size_alloc] using b), (by have b := (((BK.new (w.alloc (.cells #[.int .i64 len, .slice (some ⟨bk, ok, none⟩) nk ck, .slice (some ⟨bz, oz, none⟩) nz cz] 48)) [.int .i64 n1, .int .i64 d1] 44).al (.cells #[.int .i64 n2, .int .i64 d2] 44)).al (.cells #[.int .i64 0, .int .i64 0] 44)); simpa only [World.size_alloc] using b), (by have b := ((BK.new ((w.alloc (.cells #[.int .i64 len, .slice (some ⟨bk, ok, none⟩) nk ck, .slice (some ⟨bz, oz, none⟩) nz cz] 48)).alloc (.cells #[.int .i64 n1, .int .i64 d1] 44)) [.int .i64 n2, .int .i64 d2] 44).al (.cells #[.int .i64 0, .int .i64 0] 44)); simpa only [World.size_alloc] using b), (by have b := (BK.new (((w.alloc (.cells #[.int .i64 len, .slice (some ⟨bk, ok, none⟩) nk ck, .slice (some ⟨bz, oz, none⟩) nz cz] 48)).alloc (.cells #[.int .i64 n1, .int .i64 d1] 44)).alloc (.cells #[.int .i64 n2, .int .i64 d2] 44)) [.int .i64 0, .int .i64 0] 44); simpa only [World.size_alloc] using b), by simp only [World.size_alloc]⟩ (fun V hS => ?_)
  obtain ⟨hbb, B0, B1, B2, B3, hVs⟩ := hS
  have y0 := B0.c 0 rfl
  have y1 := B0.c 1 rfl
  have y2 := B0.c 2 rfl
  have a0 := B1.c 0 rfl
  have a1 := B1.c 1 rfl
  have z0 := B2.c 0 rfl
  have z1 := B2.c 1 rfl
  have hc0 := keepC hbb c1
  have hc1 := keepC hbb c2
  have hz0 := keepC hbb c3
  clear c1 c2 c3
  go_cut [10, 11] (fun x y v => ∃ pf pt : Nat, x = .pointer (some ⟨pf, 0, none⟩) ∧ y = .pointer (some ⟨pt, 0, none⟩) ∧ Below V.heap.size V v ∧ BK v pf [.int .i64 f1, .int .i64 f2] ∧ BK v pt [.int .i64 t1, .int .i64 t2])
  case first =>
    refine wp_region_held_drew (S := (Below V.heap.size V)) (by kernel_rfl) ((Below.refl _ _).drew) (fun hHeld => ?_)
    refine at_anyH (Below V.heap.size V) hHeld (fun wa0 hNew => ?_)
    clear hHeld
    have hHeld := hNew
    clear hNew
    refine tkn 0 ?va1 rfl ?hya1 hHeld ?resta1
    case hya1 => (intro w hSw; have ky0 := keepC hSw y0; have ky1 := keepC hSw y1; have ky2 := keepC hSw y2; have ka0 := keepC hSw a0; have ka1 := keepC hSw a1; have kz0 := keepC hSw z0; have kz1 := keepC hSw z1; have khc0 := keepC hSw hc0; have khc1 := keepC hSw hc1; go_simp; first | done | (with_reducible rfl))
    try simp only [PPz]
    refine tkn 1 ?va2 rfl ?hya2 hHeld ?resta2
    case hya2 => (intro w hSw; go_simp; first | done | (with_reducible rfl))
    try simp only [PPz]
    refine tkn 2 ?va3 rfl ?hya3 hHeld ?resta3
    case hya3 => (intro w hSw; have ky0 := keepC hSw y0; have ky1 := keepC hSw y1; have ky2 := keepC hSw y2; have ka0 := keepC hSw a0; have ka1 := keepC hSw a1; have kz0 := keepC hSw z0; have kz1 := keepC hSw z1; have khc0 := keepC hSw hc0; have khc1 := keepC hSw hc1; go_simp; first | done | (with_reducible rfl))
    try simp only [PPz]
    refine tkn 3 ?va4 rfl ?hya4 hHeld ?resta4
    case hya4 => (intro w hSw; go_simp; first | done | (with_reducible rfl))
    try simp only [PPz]
    refine tkn 4 ?va5 rfl ?hya5 hHeld ?resta5
    case hya5 => (intro w hSw; go_simp; first | done | (with_reducible rfl))
    try simp only [PPz]
    refine tkn 5 ?va6 rfl ?hya6 hHeld ?resta6
    case hya6 => (intro w hSw; have ky0 := keepC hSw y0; have ky1 := keepC hSw y1; have ky2 := keepC hSw y2; have ka0 := keepC hSw a0; have ka1 := keepC hSw a1; have kz0 := keepC hSw z0; have kz1 := keepC hSw z1; have khc0 := keepC hSw hc0; have khc1 := keepC hSw hc1; go_simp; first | done | (with_reducible rfl))
    try simp only [PPz]
    refine tkn 8 ?va7 rfl ?hya7 hHeld ?resta7
    case hya7 => (intro w hSw; have ky0 := keepC hSw y0; have ky1 := keepC hSw y1; have ky2 := keepC hSw y2; have ka0 := keepC hSw a0; have ka1 := keepC hSw a1; have kz0 := keepC hSw z0; have kz1 := keepC hSw z1; have khc0 := keepC hSw hc0; have khc1 := keepC hSw hc1; go_simp; first | done | (with_reducible rfl))
    try simp only [PPz]
    refine tkn 9 ?va8 rfl ?hya8 hHeld ?resta8
    case hya8 => (intro w hSw; go_simp; first | done | (with_reducible rfl))
    try simp only [PPz]
    refine tkn 10 ?va9 rfl ?hya9 hHeld ?resta9
    case hya9 => (intro w hSw; have ky0 := keepC hSw y0; have ky1 := keepC hSw y1; have ky2 := keepC hSw y2; have ka0 := keepC hSw a0; have ka1 := keepC hSw a1; have kz0 := keepC hSw z0; have kz1 := keepC hSw z1; have khc0 := keepC hSw hc0; have khc1 := keepC hSw hc1; go_simp; first | done | (with_reducible rfl))
    try simp only [PPz]
    refine tkn 11 ?va10 rfl ?hya10 hHeld ?resta10
    case hya10 => (intro w hSw; go_simp; first | done | (with_reducible rfl))
    try simp only [PPz]
    refine tkn 12 ?va11 rfl ?hya11 hHeld ?resta11
    case hya11 => (intro w hSw; go_simp; first | done | (with_reducible rfl))
    try simp only [PPz]
    refine tkn 13 ?va12 rfl ?hya12 hHeld ?resta12
    case hya12 => (intro w hSw; go_simp; first | done | (with_reducible rfl))
    try simp only [PPz]
    refine tkn 14 ?va13 rfl ?hya13 hHeld ?resta13
    case hya13 => (intro w hSw; have ky0 := keepC hSw y0; have ky1 := keepC hSw y1; have ky2 := keepC hSw y2; have ka0 := keepC hSw a0; have ka1 := keepC hSw a1; have kz0 := keepC hSw z0; have kz1 := keepC hSw z1; have khc0 := keepC hSw hc0; have khc1 := keepC hSw hc1; go_simp; first | done | (with_reducible rfl))
    try simp only [PPz]
    refine rdy3 6 17 18 rfl rfl rfl (fun K hK => ?_) (fun K hK => ?_) (fun K hK => ?_)
    ·
      go_simp
      refine (OFF.out p1 _).mono ?_
      rintro e wa14 ⟨rfl, hb3⟩
      go_wp2_with fail
      refine hK.out _ _ (keepB hHeld hb3) (fun hNew => ?_)
      clear hb3
      clear hHeld hK K
      have hHeld := hNew
      clear hNew
      try simp only [PPz]
      refine rdy3 7 17 18 rfl rfl rfl (fun K hK => ?_) (fun K hK => ?_) (fun K hK => ?_)
      ·
        go_simp
        refine (LA.out _).mono ?_
        rintro e wa15 ⟨rfl, hb3⟩
        go_wp2_with fail
        refine hK.out _ _ (keepB hHeld hb3) (fun hNew => ?_)
        clear hb3
        clear hHeld hK K
        have hHeld := hNew
        clear hNew
        try simp only [PPz]
        refine rdy3 15 17 18 rfl rfl rfl (fun K hK => ?_) (fun K hK => ?_) (fun K hK => ?_)
        ·
          go_simp
          refine (OFF.out p2 _).mono ?_
          rintro e wa16 ⟨rfl, hb3⟩
          go_wp2_with fail
          refine hK.out _ _ (keepB hHeld hb3) (fun hNew => ?_)
          clear hb3
          clear hHeld hK K
          have hHeld := hNew
          clear hNew
          try simp only [PPz]
          refine rdy3 16 17 18 rfl rfl rfl (fun K hK => ?_) (fun K hK => ?_) (fun K hK => ?_)
          ·
            go_simp
            refine (SQ.out _).mono ?_
            rintro e wa17 ⟨rfl, hb3⟩
            go_wp2_with fail
            refine hK.out _ _ (keepB hHeld hb3) (fun hNew => ?_)
            clear hb3
            clear hHeld hK K
            have hHeld := hNew
            clear hNew
            try simp only [PPz]
            refine rdy2 17 18 rfl rfl (fun K hK => ?_) (fun K hK => ?_)
            ·
              go_simp
              refine hK.out _ _ (below_al hHeld _) (fun hNew => ?_)
              have hf : V.heap.size ≤ wa17.heap.size := hHeld.size
              clear hHeld hK K
              have hHeld := hNew
              clear hNew
              try simp only [PPz]
              refine at_anyH (fun v => Below V.heap.size V v ∧ BK v wa17.heap.size [.int .i64 0, .int .i64 0]) ⟨hHeld, BK.new _ _ _⟩ (fun wa18 hS => ?_)
              clear hHeld
              obtain ⟨hHeld, Bf⟩ := hS
              refine rdy1 18 rfl (fun K hK => ?_)
              go_simp
              refine hK.out _ _ (below_al hHeld _) (fun hNew => ?_)
              have ht : V.heap.size ≤ wa18.heap.size := hHeld.size
              have dft := Bf.lt
              clear hHeld hK K
              have hHeld := hNew
              clear hNew
              try simp only [PPz]
              refine at_anyH (fun v => Below V.heap.size V v ∧ BK v wa17.heap.size [.int .i64 0, .int .i64 0] ∧ BK v wa18.heap.size [.int .i64 0, .int .i64 0]) ⟨hHeld, Bf.al _, BK.new _ _ _⟩ (fun wa19 hS => ?_)
              clear hHeld Bf
              obtain ⟨hHeld, Bf, Bt⟩ := hS
              refine rdy1 19 rfl (fun K hK => ?_)
              have n0 := Bf.c 0 rfl
              have f0 := Bf.f 0 rfl
              have n1 := Bf.c 1 rfl
              have f1 := Bf.f 1 rfl
              go_simp
              clear n0 f0 n1 f1
              refine hK.out _ _ (below_set (below_set hHeld (by omega) _) (by omega) _) (fun hNew => ?_)
              clear hHeld hK K
              have hHeld := hNew
              clear hNew
              try simp only [PPz]
              refine at_anyH (fun v => Below V.heap.size V v ∧ BK v wa17.heap.size [.int .i64 f1, .int .i64 f2] ∧ BK v wa18.heap.size [.int .i64 0, .int .i64 0]) ⟨hHeld, ((Bf.set 0 _).set 1 _), ((Bt.far (by omega) _ _).far (by omega) _ _)⟩ (fun wa20 hS => ?_)
              clear hHeld Bf Bt
              obtain ⟨hHeld, Bf, Bt⟩ := hS
              refine rdy1 20 rfl (fun K hK => ?_)
              have n0 := Bt.c 0 rfl
              have f0 := Bt.f 0 rfl
              have n1 := Bt.c 1 rfl
              have f1 := Bt.f 1 rfl
              go_simp
              clear n0 f0 n1 f1
              refine hK.out _ _ (below_set (below_set hHeld (by omega) _) (by omega) _) (fun hNew => ?_)
              clear hHeld hK K
              have hHeld := hNew
              clear hNew
              try simp only [PPz]
              refine at_anyH (fun v => Below V.heap.size V v ∧ BK v wa17.heap.size [.int .i64 f1, .int .i64 f2] ∧ BK v wa18.heap.size [.int .i64 t1, .int .i64 t2]) ⟨hHeld, ((Bf.far (by omega) _ _).far (by omega) _ _), ((Bt.set 0 _).set 1 _)⟩ (fun wa21 hS => ?_)
              clear hHeld Bf Bt
              obtain ⟨hHeld, Bf, Bt⟩ := hS
              refine wpAnyH_done (by kernel_rfl) ?_ _
              go_wp2_with fail
              go_meet
              exact ⟨_, _, rfl, rfl, hHeld, Bf, Bt⟩
            ·
              go_simp
              refine hK.out _ _ (below_al hHeld _) (fun hNew => ?_)
              have ht : V.heap.size ≤ wa17.heap.size := hHeld.size
              clear hHeld hK K
              have hHeld := hNew
              clear hNew
              try simp only [PPz]
              refine at_anyH (fun v => Below V.heap.size V v ∧ BK v wa17.heap.size [.int .i64 0, .int .i64 0]) ⟨hHeld, BK.new _ _ _⟩ (fun wa22 hS => ?_)
              clear hHeld
              obtain ⟨hHeld, Bt⟩ := hS
              refine rdy1 17 rfl (fun K hK => ?_)
              go_simp
              refine hK.out _ _ (below_al hHeld _) (fun hNew => ?_)
              have hf : V.heap.size ≤ wa22.heap.size := hHeld.size
              have dtf := Bt.lt
              clear hHeld hK K
              have hHeld := hNew
              clear hNew
              try simp only [PPz]
              refine at_anyH (fun v => Below V.heap.size V v ∧ BK v wa17.heap.size [.int .i64 0, .int .i64 0] ∧ BK v wa22.heap.size [.int .i64 0, .int .i64 0]) ⟨hHeld, Bt.al _, BK.new _ _ _⟩ (fun wa23 hS => ?_)
              clear hHeld Bt
              obtain ⟨hHeld, Bt, Bf⟩ := hS
              refine rdy1 19 rfl (fun K hK => ?_)
              have n0 := Bf.c 0 rfl
              have f0 := Bf.f 0 rfl
              have n1 := Bf.c 1 rfl
              have f1 := Bf.f 1 rfl
              go_simp
              clear n0 f0 n1 f1
              refine hK.out _ _ (below_set (below_set hHeld (by omega) _) (by omega) _) (fun hNew => ?_)
              clear hHeld hK K
              have hHeld := hNew
              clear hNew
              try simp only [PPz]
              refine at_anyH (fun v => Below V.heap.size V v ∧ BK v wa17.heap.size [.int .i64 0, .int .i64 0] ∧ BK v wa22.heap.size [.int .i64 f1, .int .i64 f2]) ⟨hHeld, ((Bt.far (by omega) _ _).far (by omega) _ _), ((Bf.set 0 _).set 1 _)⟩ (fun wa24 hS => ?_)
              clear hHeld Bt Bf
              obtain ⟨hHeld, Bt, Bf⟩ := hS
              refine rdy1 20 rfl (fun K hK => ?_)
              have n0 := Bt.c 0 rfl
              have f0 := Bt.f 0 rfl
              have n1 := Bt.c 1 rfl
              have f1 := Bt.f 1 rfl
              go_simp
              clear n0 f0 n1 f1
              refine hK.out _ _ (below_set (below_set hHeld (by omega) _) (by omega) _) (fun hNew => ?_)
              clear hHeld hK K
              have hHeld := hNew
              clear hNew
              try simp only [PPz]
              refine at_anyH (fun v => Below V.heap.size V v ∧ BK v wa17.heap.size [.int .i64 t1, .int .i64 t2] ∧ BK v wa22.heap.size [.int .i64 f1, .int .i64 f2]) ⟨hHeld, ((Bt.set 0 _).set 1 _), ((Bf.far (by omega) _ _).far (by omega) _ _)⟩ (fun wa25 hS => ?_)
              clear hHeld Bt Bf
              obtain ⟨hHeld, Bt, Bf⟩ := hS
              refine wpAnyH_done (by kernel_rfl) ?_ _
              go_wp2_with fail
              go_meet
              exact ⟨_, _, rfl, rfl, hHeld, Bf, Bt⟩
          ·
            go_simp
            refine hK.out _ _ (below_al hHeld _) (fun hNew => ?_)
            have hf : V.heap.size ≤ wa16.heap.size := hHeld.size
            clear hHeld hK K
            have hHeld := hNew
            clear hNew
            try simp only [PPz]
            refine at_anyH (fun v => Below V.heap.size V v ∧ BK v wa16.heap.size [.int .i64 0, .int .i64 0]) ⟨hHeld, BK.new _ _ _⟩ (fun wa26 hS => ?_)
            clear hHeld
            obtain ⟨hHeld, Bf⟩ := hS
            refine rdy2 16 18 rfl rfl (fun K hK => ?_) (fun K hK => ?_)
            ·
              go_simp
              refine (SQ.out _).mono ?_
              rintro e wa27 ⟨rfl, hb3⟩
              go_wp2_with fail
              refine hK.out _ _ (keepB hHeld hb3) (fun hNew => ?_)
              replace Bf := Bf.keep hb3
              clear hb3
              clear hHeld hK K
              have hHeld := hNew
              clear hNew
              try simp only [PPz]
              refine rdy1 18 rfl (fun K hK => ?_)
              go_simp
              refine hK.out _ _ (below_al hHeld _) (fun hNew => ?_)
              have ht : V.heap.size ≤ wa27.heap.size := hHeld.size
              have dft := Bf.lt
              clear hHeld hK K
              have hHeld := hNew
              clear hNew
              try simp only [PPz]
              refine at_anyH (fun v => Below V.heap.size V v ∧ BK v wa16.heap.size [.int .i64 0, .int .i64 0] ∧ BK v wa27.heap.size [.int .i64 0, .int .i64 0]) ⟨hHeld, Bf.al _, BK.new _ _ _⟩ (fun wa28 hS => ?_)
              clear hHeld Bf
              obtain ⟨hHeld, Bf, Bt⟩ := hS
              refine rdy1 19 rfl (fun K hK => ?_)
              have n0 := Bf.c 0 rfl
              have f0 := Bf.f 0 rfl
              have n1 := Bf.c 1 rfl
              have f1 := Bf.f 1 rfl
              go_simp
              clear n0 f0 n1 f1
              refine hK.out _ _ (below_set (below_set hHeld (by omega) _) (by omega) _) (fun hNew => ?_)
              clear hHeld hK K
              have hHeld := hNew
              clear hNew
              try simp only [PPz]
              refine at_anyH (fun v => Below V.heap.size V v ∧ BK v wa16.heap.size [.int .i64 f1, .int .i64 f2] ∧ BK v wa27.heap.size [.int .i64 0, .int .i64 0]) ⟨hHeld, ((Bf.set 0 _).set 1 _), ((Bt.far (by omega) _ _).far (by omega) _ _)⟩ (fun wa29 hS => ?_)
              clear hHeld Bf Bt
              obtain ⟨hHeld, Bf, Bt⟩ := hS
              refine rdy1 20 rfl (fun K hK => ?_)
              have n0 := Bt.c 0 rfl
              have f0 := Bt.f 0 rfl
              have n1 := Bt.c 1 rfl
              have f1 := Bt.f 1 rfl
              go_simp
              clear n0 f0 n1 f1
              refine hK.out _ _ (below_set (below_set hHeld (by omega) _) (by omega) _) (fun hNew => ?_)
              clear hHeld hK K
              have hHeld := hNew
              clear hNew
              try simp only [PPz]
              refine at_anyH (fun v => Below V.heap.size V v ∧ BK v wa16.heap.size [.int .i64 f1, .int .i64 f2] ∧ BK v wa27.heap.size [.int .i64 t1, .int .i64 t2]) ⟨hHeld, ((Bf.far (by omega) _ _).far (by omega) _ _), ((Bt.set 0 _).set 1 _)⟩ (fun wa30 hS => ?_)
              clear hHeld Bf Bt
              obtain ⟨hHeld, Bf, Bt⟩ := hS
              refine wpAnyH_done (by kernel_rfl) ?_ _
              go_wp2_with fail
              go_meet
              exact ⟨_, _, rfl, rfl, hHeld, Bf, Bt⟩
            ·
              go_simp
              refine hK.out _ _ (below_al hHeld _) (fun hNew => ?_)
              have ht : V.heap.size ≤ wa26.heap.size := hHeld.size
              have dft := Bf.lt
              clear hHeld hK K
              have hHeld := hNew
              clear hNew
              try simp only [PPz]
              refine at_anyH (fun v => Below V.heap.size V v ∧ BK v wa16.heap.size [.int .i64 0, .int .i64 0] ∧ BK v wa26.heap.size [.int .i64 0, .int .i64 0]) ⟨hHeld, Bf.al _, BK.new _ _ _⟩ (fun wa31 hS => ?_)
              clear hHeld Bf
              obtain ⟨hHeld, Bf, Bt⟩ := hS
              refine rdy1 16 rfl (fun K hK => ?_)
              go_simp
              refine (SQ.out _).mono ?_
              rintro e wa32 ⟨rfl, hb3⟩
              go_wp2_with fail
              refine hK.out _ _ (keepB hHeld hb3) (fun hNew => ?_)
              replace Bf := Bf.keep hb3
              replace Bt := Bt.keep hb3
              clear hb3
              clear hHeld hK K
              have hHeld := hNew
              clear hNew
              try simp only [PPz]
              refine rdy1 19 rfl (fun K hK => ?_)
              have n0 := Bf.c 0 rfl
              have f0 := Bf.f 0 rfl
              have n1 := Bf.c 1 rfl
              have f1 := Bf.f 1 rfl
              go_simp
              clear n0 f0 n1 f1
              refine hK.out _ _ (below_set (below_set hHeld (by omega) _) (by omega) _) (fun hNew => ?_)
              clear hHeld hK K
              have hHeld := hNew
              clear hNew
              try simp only [PPz]
              refine at_anyH (fun v => Below V.heap.size V v ∧ BK v wa16.heap.size [.int .i64 f1, .int .i64 f2] ∧ BK v wa26.heap.size [.int .i64 0, .int .i64 0]) ⟨hHeld, ((Bf.set 0 _).set 1 _), ((Bt.far (by omega) _ _).far (by omega) _ _)⟩ (fun wa33 hS => ?_)
              clear hHeld Bf Bt
              obtain ⟨hHeld, Bf, Bt⟩ := hS
              refine rdy1 20 rfl (fun K hK => ?_)
              have n0 := Bt.c 0 rfl
              have f0 := Bt.f 0 rfl
              have n1 := Bt.c 1 rfl
              have f1 := Bt.f 1 rfl
              go_simp
              clear n0 f0 n1 f1
              refine hK.out _ _ (below_set (below_set hHeld (by omega) _) (by omega) _) (fun hNew => ?_)
              clear hHeld hK K
              have hHeld := hNew
              clear hNew
              try simp only [PPz]
              refine at_anyH (fun v => Below V.heap.size V v ∧ BK v wa16.heap.size [.int .i64 f1, .int .i64 f2] ∧ BK v wa26.heap.size [.int .i64 t1, .int .i64 t2]) ⟨hHeld, ((Bf.far (by omega) _ _).far (by omega) _ _), ((Bt.set 0 _).set 1 _)⟩ (fun wa34 hS => ?_)
              clear hHeld Bf Bt
              obtain ⟨hHeld, Bf, Bt⟩ := hS
              refine wpAnyH_done (by kernel_rfl) ?_ _
              go_wp2_with fail
              go_meet
              exact ⟨_, _, rfl, rfl, hHeld, Bf, Bt⟩
          ·
            go_simp
            refine hK.out _ _ (below_al hHeld _) (fun hNew => ?_)
            have ht : V.heap.size ≤ wa16.heap.size := hHeld.size
            clear hHeld hK K
            have hHeld := hNew
            clear hNew
            try simp only [PPz]
            refine at_anyH (fun v => Below V.heap.size V v ∧ BK v wa16.heap.size [.int .i64 0, .int .i64 0]) ⟨hHeld, BK.new _ _ _⟩ (fun wa35 hS => ?_)
            clear hHeld
            obtain ⟨hHeld, Bt⟩ := hS
            refine rdy2 16 17 rfl rfl (fun K hK => ?_) (fun K hK => ?_)
            ·
              go_simp
              refine (SQ.out _).mono ?_
              rintro e wa36 ⟨rfl, hb3⟩
              go_wp2_with fail
              refine hK.out _ _ (keepB hHeld hb3) (fun hNew => ?_)
              replace Bt := Bt.keep hb3
              clear hb3
              clear hHeld hK K
              have hHeld := hNew
              clear hNew
              try simp only [PPz]
              refine rdy1 17 rfl (fun K hK => ?_)
              go_simp
              refine hK.out _ _ (below_al hHeld _) (fun hNew => ?_)
              have hf : V.heap.size ≤ wa36.heap.size := hHeld.size
              have dtf := Bt.lt
              clear hHeld hK K
              have hHeld := hNew
              clear hNew
              try simp only [PPz]
              refine at_anyH (fun v => Below V.heap.size V v ∧ BK v wa16.heap.size [.int .i64 0, .int .i64 0] ∧ BK v wa36.heap.size [.int .i64 0, .int .i64 0]) ⟨hHeld, Bt.al _, BK.new _ _ _⟩ (fun wa37 hS => ?_)
              clear hHeld Bt
              obtain ⟨hHeld, Bt, Bf⟩ := hS
              refine rdy1 19 rfl (fun K hK => ?_)
              have n0 := Bf.c 0 rfl
              have f0 := Bf.f 0 rfl
              have n1 := Bf.c 1 rfl
              have f1 := Bf.f 1 rfl
              go_simp
              clear n0 f0 n1 f1
              refine hK.out _ _ (below_set (below_set hHeld (by omega) _) (by omega) _) (fun hNew => ?_)
              clear hHeld hK K
              have hHeld := hNew
              clear hNew
              try simp only [PPz]
              refine at_anyH (fun v => Below V.heap.size V v ∧ BK v wa16.heap.size [.int .i64 0, .int .i64 0] ∧ BK v wa36.heap.size [.int .i64 f1, .int .i64 f2]) ⟨hHeld, ((Bt.far (by omega) _ _).far (by omega) _ _), ((Bf.set 0 _).set 1 _)⟩ (fun wa38 hS => ?_)
              clear hHeld Bt Bf
              obtain ⟨hHeld, Bt, Bf⟩ := hS
              refine rdy1 20 rfl (fun K hK => ?_)
              have n0 := Bt.c 0 rfl
              have f0 := Bt.f 0 rfl
              have n1 := Bt.c 1 rfl
              have f1 := Bt.f 1 rfl
              go_simp
              clear n0 f0 n1 f1
              refine hK.out _ _ (below_set (below_set hHeld (by omega) _) (by omega) _) (fun hNew => ?_)
              clear hHeld hK K
              have hHeld := hNew
              clear hNew
              try simp only [PPz]
              refine at_anyH (fun v => Below V.heap.size V v ∧ BK v wa16.heap.size [.int .i64 t1, .int .i64 t2] ∧ BK v wa36.heap.size [.int .i64 f1, .int .i64 f2]) ⟨hHeld, ((Bt.set 0 _).set 1 _), ((Bf.far (by omega) _ _).far (by omega) _ _)⟩ (fun wa39 hS => ?_)
              clear hHeld Bt Bf
              obtain ⟨hHeld, Bt, Bf⟩ := hS
              refine wpAnyH_done (by kernel_rfl) ?_ _
              go_wp2_with fail
              go_meet
              exact ⟨_, _, rfl, rfl, hHeld, Bf, Bt⟩
            ·
              go_simp
              refine hK.out _ _ (below_al hHeld _) (fun hNew => ?_)
              have hf : V.heap.size ≤ wa35.heap.size := hHeld.size
              have dtf := Bt.lt
              clear hHeld hK K
              have hHeld := hNew
              clear hNew
              try simp only [PPz]
              refine at_anyH (fun v => Below V.heap.size V v ∧ BK v wa16.heap.size [.int .i64 0, .int .i64 0] ∧ BK v wa35.heap.size [.int .i64 0, .int .i64 0]) ⟨hHeld, Bt.al _, BK.new _ _ _⟩ (fun wa40 hS => ?_)
              clear hHeld Bt
              obtain ⟨hHeld, Bt, Bf⟩ := hS
              refine rdy1 16 rfl (fun K hK => ?_)
              go_simp
              refine (SQ.out _).mono ?_
              rintro e wa41 ⟨rfl, hb3⟩
              go_wp2_with fail
              refine hK.out _ _ (keepB hHeld hb3) (fun hNew => ?_)
              replace Bt := Bt.keep hb3
              replace Bf := Bf.keep hb3
              clear hb3
              clear hHeld hK K
              have hHeld := hNew
              clear hNew
              try simp only [PPz]
              refine rdy1 19 rfl (fun K hK => ?_)
              have n0 := Bf.c 0 rfl
              have f0 := Bf.f 0 rfl
              have n1 := Bf.c 1 rfl
              have f1 := Bf.f 1 rfl
              go_simp
              clear n0 f0 n1 f1
              refine hK.out _ _ (below_set (below_set hHeld (by omega) _) (by omega) _) (fun hNew => ?_)
              clear hHeld hK K
              have hHeld := hNew
              clear hNew
              try simp only [PPz]
              refine at_anyH (fun v => Below V.heap.size V v ∧ BK v wa16.heap.size [.int .i64 0, .int .i64 0] ∧ BK v wa35.heap.size [.int .i64 f1, .int .i64 f2]) ⟨hHeld, ((Bt.far (by omega) _ _).far (by omega) _ _), ((Bf.set 0 _).set 1 _)⟩ (fun wa42 hS => ?_)
              clear hHeld Bt Bf
              obtain ⟨hHeld, Bt, Bf⟩ := hS
              refine rdy1 20 rfl (fun K hK => ?_)
              have n0 := Bt.c 0 rfl
              have f0 := Bt.f 0 rfl
              have n1 := Bt.c 1 rfl
              have f1 := Bt.f 1 rfl
              go_simp
              clear n0 f0 n1 f1
              refine hK.out _ _ (below_set (below_set hHeld (by omega) _) (by omega) _) (fun hNew => ?_)
              clear hHeld hK K
              have hHeld := hNew
              clear hNew
              try simp only [PPz]
              refine at_anyH (fun v => Below V.heap.size V v ∧ BK v wa16.heap.size [.int .i64 t1, .int .i64 t2] ∧ BK v wa35.heap.size [.int .i64 f1, .int .i64 f2]) ⟨hHeld, ((Bt.set 0 _).set 1 _), ((Bf.far (by omega) _ _).far (by omega) _ _)⟩ (fun wa43 hS => ?_)
              clear hHeld Bt Bf
              obtain ⟨hHeld, Bt, Bf⟩ := hS
              refine wpAnyH_done (by kernel_rfl) ?_ _
              go_wp2_with fail
              go_meet
              exact ⟨_, _, rfl, rfl, hHeld, Bf, Bt⟩
        ·
          go_simp
          refine hK.out _ _ (below_al hHeld _) (fun hNew => ?_)
          have hf : V.heap.size ≤ wa15.heap.size := hHeld.size
          clear hHeld hK K
          have hHeld := hNew
          clear hNew
          try simp only [PPz]
          refine at_anyH (fun v => Below V.heap.size V v ∧ BK v wa15.heap.size [.int .i64 0, .int .i64 0]) ⟨hHeld, BK.new _ _ _⟩ (fun wa44 hS => ?_)
          clear hHeld
          obtain ⟨hHeld, Bf⟩ := hS
          refine rdy2 15 18 rfl rfl (fun K hK => ?_) (fun K hK => ?_)
          ·
            go_simp
            refine (OFF.out p2 _).mono ?_
            rintro e wa45 ⟨rfl, hb3⟩
            go_wp2_with fail
            refine hK.out _ _ (keepB hHeld hb3) (fun hNew => ?_)
            replace Bf := Bf.keep hb3
            clear hb3
            clear hHeld hK K
            have hHeld := hNew
            clear hNew
            try simp only [PPz]
            refine rdy2 16 18 rfl rfl (fun K hK => ?_) (fun K hK => ?_)
            ·
              go_simp
              refine (SQ.out _).mono ?_
              rintro e wa46 ⟨rfl, hb3⟩
              go_wp2_with fail
              refine hK.out _ _ (keepB hHeld hb3) (fun hNew => ?_)
              replace Bf := Bf.keep hb3
              clear hb3
              clear hHeld hK K
              have hHeld := hNew
              clear hNew
              try simp only [PPz]
              refine rdy1 18 rfl (fun K hK => ?_)
              go_simp
              refine hK.out _ _ (below_al hHeld _) (fun hNew => ?_)
              have ht : V.heap.size ≤ wa46.heap.size := hHeld.size
              have dft := Bf.lt
              clear hHeld hK K
              have hHeld := hNew
              clear hNew
              try simp only [PPz]
              refine at_anyH (fun v => Below V.heap.size V v ∧ BK v wa15.heap.size [.int .i64 0, .int .i64 0] ∧ BK v wa46.heap.size [.int .i64 0, .int .i64 0]) ⟨hHeld, Bf.al _, BK.new _ _ _⟩ (fun wa47 hS => ?_)
              clear hHeld Bf
              obtain ⟨hHeld, Bf, Bt⟩ := hS
              refine rdy1 19 rfl (fun K hK => ?_)
              have n0 := Bf.c 0 rfl
              have f0 := Bf.f 0 rfl
              have n1 := Bf.c 1 rfl
              have f1 := Bf.f 1 rfl
              go_simp
              clear n0 f0 n1 f1
              refine hK.out _ _ (below_set (below_set hHeld (by omega) _) (by omega) _) (fun hNew => ?_)
              clear hHeld hK K
              have hHeld := hNew
              clear hNew
              try simp only [PPz]
              refine at_anyH (fun v => Below V.heap.size V v ∧ BK v wa15.heap.size [.int .i64 f1, .int .i64 f2] ∧ BK v wa46.heap.size [.int .i64 0, .int .i64 0]) ⟨hHeld, ((Bf.set 0 _).set 1 _), ((Bt.far (by omega) _ _).far (by omega) _ _)⟩ (fun wa48 hS => ?_)
              clear hHeld Bf Bt
              obtain ⟨hHeld, Bf, Bt⟩ := hS
              refine rdy1 20 rfl (fun K hK => ?_)
              have n0 := Bt.c 0 rfl
              have f0 := Bt.f 0 rfl
              have n1 := Bt.c 1 rfl
              have f1 := Bt.f 1 rfl
              go_simp
              clear n0 f0 n1 f1
              refine hK.out _ _ (below_set (below_set hHeld (by omega) _) (by omega) _) (fun hNew => ?_)
              clear hHeld hK K
              have hHeld := hNew
              clear hNew
              try simp only [PPz]
              refine at_anyH (fun v => Below V.heap.size V v ∧ BK v wa15.heap.size [.int .i64 f1, .int .i64 f2] ∧ BK v wa46.heap.size [.int .i64 t1, .int .i64 t2]) ⟨hHeld, ((Bf.far (by omega) _ _).far (by omega) _ _), ((Bt.set 0 _).set 1 _)⟩ (fun wa49 hS => ?_)
              clear hHeld Bf Bt
              obtain ⟨hHeld, Bf, Bt⟩ := hS
              refine wpAnyH_done (by kernel_rfl) ?_ _
              go_wp2_with fail
              go_meet
              exact ⟨_, _, rfl, rfl, hHeld, Bf, Bt⟩
            ·
              go_simp
              refine hK.out _ _ (below_al hHeld _) (fun hNew => ?_)
              have ht : V.heap.size ≤ wa45.heap.size := hHeld.size
              have dft := Bf.lt
              clear hHeld hK K
              have hHeld := hNew
              clear hNew
              try simp only [PPz]
              refine at_anyH (fun v => Below V.heap.size V v ∧ BK v wa15.heap.size [.int .i64 0, .int .i64 0] ∧ BK v wa45.heap.size [.int .i64 0, .int .i64 0]) ⟨hHeld, Bf.al _, BK.new _ _ _⟩ (fun wa50 hS => ?_)
              clear hHeld Bf
              obtain ⟨hHeld, Bf, Bt⟩ := hS
              refine rdy1 16 rfl (fun K hK => ?_)
              go_simp
              refine (SQ.out _).mono ?_
              rintro e wa51 ⟨rfl, hb3⟩
              go_wp2_with fail
              refine hK.out _ _ (keepB hHeld hb3) (fun hNew => ?_)
              replace Bf := Bf.keep hb3
              replace Bt := Bt.keep hb3
              clear hb3
              clear hHeld hK K
              have hHeld := hNew
              clear hNew
              try simp only [PPz]
              refine rdy1 19 rfl (fun K hK => ?_)
              have n0 := Bf.c 0 rfl
              have f0 := Bf.f 0 rfl
              have n1 := Bf.c 1 rfl
              have f1 := Bf.f 1 rfl
              go_simp
              clear n0 f0 n1 f1
              refine hK.out _ _ (below_set (below_set hHeld (by omega) _) (by omega) _) (fun hNew => ?_)
              clear hHeld hK K
              have hHeld := hNew
              clear hNew
              try simp only [PPz]
              refine at_anyH (fun v => Below V.heap.size V v ∧ BK v wa15.heap.size [.int .i64 f1, .int .i64 f2] ∧ BK v wa45.heap.size [.int .i64 0, .int .i64 0]) ⟨hHeld, ((Bf.set 0 _).set 1 _), ((Bt.far (by omega) _ _).far (by omega) _ _)⟩ (fun wa52 hS => ?_)
              clear hHeld Bf Bt
              obtain ⟨hHeld, Bf, Bt⟩ := hS
              refine rdy1 20 rfl (fun K hK => ?_)
              have n0 := Bt.c 0 rfl
              have f0 := Bt.f 0 rfl
              have n1 := Bt.c 1 rfl
              have f1 := Bt.f 1 rfl
              go_simp
              clear n0 f0 n1 f1
              refine hK.out _ _ (below_set (below_set hHeld (by omega) _) (by omega) _) (fun hNew => ?_)
              clear hHeld hK K
              have hHeld := hNew
              clear hNew
              try simp only [PPz]
              refine at_anyH (fun v => Below V.heap.size V v ∧ BK v wa15.heap.size [.int .i64 f1, .int .i64 f2] ∧ BK v wa45.heap.size [.int .i64 t1, .int .i64 t2]) ⟨hHeld, ((Bf.far (by omega) _ _).far (by omega) _ _), ((Bt.set 0 _).set 1 _)⟩ (fun wa53 hS => ?_)
              clear hHeld Bf Bt
              obtain ⟨hHeld, Bf, Bt⟩ := hS
              refine wpAnyH_done (by kernel_rfl) ?_ _
              go_wp2_with fail
              go_meet
              exact ⟨_, _, rfl, rfl, hHeld, Bf, Bt⟩
          ·
            go_simp
            refine hK.out _ _ (below_al hHeld _) (fun hNew => ?_)
            have ht : V.heap.size ≤ wa44.heap.size := hHeld.size
            have dft := Bf.lt
            clear hHeld hK K
            have hHeld := hNew
            clear hNew
            try simp only [PPz]
            refine at_anyH (fun v => Below V.heap.size V v ∧ BK v wa15.heap.size [.int .i64 0, .int .i64 0] ∧ BK v wa44.heap.size [.int .i64 0, .int .i64 0]) ⟨hHeld, Bf.al _, BK.new _ _ _⟩ (fun wa54 hS => ?_)
            clear hHeld Bf
            obtain ⟨hHeld, Bf, Bt⟩ := hS
            refine rdy1 15 rfl (fun K hK => ?_)
            go_simp
            refine (OFF.out p2 _).mono ?_
            rintro e wa55 ⟨rfl, hb3⟩
            go_wp2_with fail
            refine hK.out _ _ (keepB hHeld hb3) (fun hNew => ?_)
            replace Bf := Bf.keep hb3
            replace Bt := Bt.keep hb3
            clear hb3
            clear hHeld hK K
            have hHeld := hNew
            clear hNew
            try simp only [PPz]
            refine rdy1 16 rfl (fun K hK => ?_)
            go_simp
            refine (SQ.out _).mono ?_
            rintro e wa56 ⟨rfl, hb3⟩
            go_wp2_with fail
            refine hK.out _ _ (keepB hHeld hb3) (fun hNew => ?_)
            replace Bf := Bf.keep hb3
            replace Bt := Bt.keep hb3
            clear hb3
            clear hHeld hK K
            have hHeld := hNew
            clear hNew
            try simp only [PPz]
            refine rdy1 19 rfl (fun K hK => ?_)
            have n0 := Bf.c 0 rfl
            have f0 := Bf.f 0 rfl
            have n1 := Bf.c 1 rfl
            have f1 := Bf.f 1 rfl
            go_simp
            clear n0 f0 n1 f1
            refine hK.out _ _ (below_set (below_set hHeld (by omega) _) (by omega) _) (fun hNew => ?_)
            clear hHeld hK K
            have hHeld := hNew
            clear hNew
            try simp only [PPz]
            refine at_anyH (fun v => Below V.heap.size V v ∧ BK v wa15.heap.size [.int .i64 f1, .int .i64 f2] ∧ BK v wa44.heap.size [.int .i64 0, .int .i64 0]) ⟨hHeld, ((Bf.set 0 _).set 1 _), ((Bt.far (by omega) _ _).far (by omega) _ _)⟩ (fun wa57 hS => ?_)
            clear hHeld Bf Bt
            obtain ⟨hHeld, Bf, Bt⟩ := hS
            refine rdy1 20 rfl (fun K hK => ?_)
            have n0 := Bt.c 0 rfl
            have f0 := Bt.f 0 rfl
            have n1 := Bt.c 1 rfl
            have f1 := Bt.f 1 rfl
            go_simp
            clear n0 f0 n1 f1
            refine hK.out _ _ (below_set (below_set hHeld (by omega) _) (by omega) _) (fun hNew => ?_)
            clear hHeld hK K
            have hHeld := hNew
            clear hNew
            try simp only [PPz]
            refine at_anyH (fun v => Below V.heap.size V v ∧ BK v wa15.heap.size [.int .i64 f1, .int .i64 f2] ∧ BK v wa44.heap.size [.int .i64 t1, .int .i64 t2]) ⟨hHeld, ((Bf.far (by omega) _ _).far (by omega) _ _), ((Bt.set 0 _).set 1 _)⟩ (fun wa58 hS => ?_)
            clear hHeld Bf Bt
            obtain ⟨hHeld, Bf, Bt⟩ := hS
            refine wpAnyH_done (by kernel_rfl) ?_ _
            go_wp2_with fail
            go_meet
            exact ⟨_, _, rfl, rfl, hHeld, Bf, Bt⟩
        ·
          go_simp
          refine hK.out _ _ (below_al hHeld _) (fun hNew => ?_)
          have ht : V.heap.size ≤ wa15.heap.size := hHeld.size
          clear hHeld hK K
          have hHeld := hNew
          clear hNew
          try simp only [PPz]
          refine at_anyH (fun v => Below V.heap.size V v ∧ BK v wa15.heap.size [.int .i64 0, .int .i64 0]) ⟨hHeld, BK.new _ _ _⟩ (fun wa59 hS => ?_)
          clear hHeld
          obtain ⟨hHeld, Bt⟩ := hS
          refine rdy2 15 17 rfl rfl (fun K hK => ?_) (fun K hK => ?_)
          ·
            go_simp
            refine (OFF.out p2 _).mono ?_
            rintro e wa60 ⟨rfl, hb3⟩
            go_wp2_with fail
            refine hK.out _ _ (keepB hHeld hb3) (fun hNew => ?_)
            replace Bt := Bt.keep hb3
            clear hb3
            clear hHeld hK K
            have hHeld := hNew
            clear hNew
            try simp only [PPz]
            refine rdy2 16 17 rfl rfl (fun K hK => ?_) (fun K hK => ?_)
            ·
              go_simp
              refine (SQ.out _).mono ?_
              rintro e wa61 ⟨rfl, hb3⟩
              go_wp2_with fail
              refine hK.out _ _ (keepB hHeld hb3) (fun hNew => ?_)
              replace Bt := Bt.keep hb3
              clear hb3
              clear hHeld hK K
              have hHeld := hNew
              clear hNew
              try simp only [PPz]
              refine rdy1 17 rfl (fun K hK => ?_)
              go_simp
              refine hK.out _ _ (below_al hHeld _) (fun hNew => ?_)
              have hf : V.heap.size ≤ wa61.heap.size := hHeld.size
              have dtf := Bt.lt
              clear hHeld hK K
              have hHeld := hNew
              clear hNew
              try simp only [PPz]
              refine at_anyH (fun v => Below V.heap.size V v ∧ BK v wa15.heap.size [.int .i64 0, .int .i64 0] ∧ BK v wa61.heap.size [.int .i64 0, .int .i64 0]) ⟨hHeld, Bt.al _, BK.new _ _ _⟩ (fun wa62 hS => ?_)
              clear hHeld Bt
              obtain ⟨hHeld, Bt, Bf⟩ := hS
              refine rdy1 19 rfl (fun K hK => ?_)
              have n0 := Bf.c 0 rfl
              have f0 := Bf.f 0 rfl
              have n1 := Bf.c 1 rfl
              have f1 := Bf.f 1 rfl
              go_simp
              clear n0 f0 n1 f1
              refine hK.out _ _ (below_set (below_set hHeld (by omega) _) (by omega) _) (fun hNew => ?_)
              clear hHeld hK K
              have hHeld := hNew
              clear hNew
              try simp only [PPz]
              refine at_anyH (fun v => Below V.heap.size V v ∧ BK v wa15.heap.size [.int .i64 0, .int .i64 0] ∧ BK v wa61.heap.size [.int .i64 f1, .int .i64 f2]) ⟨hHeld, ((Bt.far (by omega) _ _).far (by omega) _ _), ((Bf.set 0 _).set 1 _)⟩ (fun wa63 hS => ?_)
              clear hHeld Bt Bf
              obtain ⟨hHeld, Bt, Bf⟩ := hS
              refine rdy1 20 rfl (fun K hK => ?_)
              have n0 := Bt.c 0 rfl
              have f0 := Bt.f 0 rfl
              have n1 := Bt.c 1 rfl
              have f1 := Bt.f 1 rfl
              go_simp
              clear n0 f0 n1 f1
              refine hK.out _ _ (below_set (below_set hHeld (by omega) _) (by omega) _) (fun hNew => ?_)
              clear hHeld hK K
              have hHeld := hNew
              clear hNew
              try simp only [PPz]
              refine at_anyH (fun v => Below V.heap.size V v ∧ BK v wa15.heap.size [.int .i64 t1, .int .i64 t2] ∧ BK v wa61.heap.size [.int .i64 f1, .int .i64 f2]) ⟨hHeld, ((Bt.set 0 _).set 1 _), ((Bf.far (by omega) _ _).far (by omega) _ _)⟩ (fun wa64 hS => ?_)
              clear hHeld Bt Bf
              obtain ⟨hHeld, Bt, Bf⟩ := hS
              refine wpAnyH_done (by kernel_rfl) ?_ _
              go_wp2_with fail
              go_meet
              exact ⟨_, _, rfl, rfl, hHeld, Bf, Bt⟩
            ·
              go_simp
              refine hK.out _ _ (below_al hHeld _) (fun hNew => ?_)
              have hf : V.heap.size ≤ wa60.heap.size := hHeld.size
              have dtf := Bt.lt
              clear hHeld hK K
              have hHeld := hNew
              clear hNew
              try simp only [PPz]
              refine at_anyH (fun v => Below V.heap.size V v ∧ BK v wa15.heap.size [.int .i64 0, .int .i64 0] ∧ BK v wa60.heap.size [.int .i64 0, .int .i64 0]) ⟨hHeld, Bt.al _, BK.new _ _ _⟩ (fun wa65 hS => ?_)
              clear hHeld Bt
              obtain ⟨hHeld, Bt, Bf⟩ := hS
              refine rdy1 16 rfl (fun K hK => ?_)
              go_simp
              refine (SQ.out _).mono ?_
              rintro e wa66 ⟨rfl, hb3⟩
              go_wp2_with fail
              refine hK.out _ _ (keepB hHeld hb3) (fun hNew => ?_)
              replace Bt := Bt.keep hb3
              replace Bf := Bf.keep hb3
              clear hb3
              clear hHeld hK K
              have hHeld := hNew
              clear hNew
              try simp only [PPz]
              refine rdy1 19 rfl (fun K hK => ?_)
              have n0 := Bf.c 0 rfl
              have f0 := Bf.f 0 rfl
              have n1 := Bf.c 1 rfl
              have f1 := Bf.f 1 rfl
              go_simp
              clear n0 f0 n1 f1
              refine hK.out _ _ (below_set (below_set hHeld (by omega) _) (by omega) _) (fun hNew => ?_)
              clear hHeld hK K
              have hHeld := hNew
              clear hNew
              try simp only [PPz]
              refine at_anyH (fun v => Below V.heap.size V v ∧ BK v wa15.heap.size [.int .i64 0, .int .i64 0] ∧ BK v wa60.heap.size [.int .i64 f1, .int .i64 f2]) ⟨hHeld, ((Bt.far (by omega) _ _).far (by omega) _ _), ((Bf.set 0 _).set 1 _)⟩ (fun wa67 hS => ?_)
              clear hHeld Bt Bf
              obtain ⟨hHeld, Bt, Bf⟩ := hS
              refine rdy1 20 rfl (fun K hK => ?_)
              have n0 := Bt.c 0 rfl
              have f0 := Bt.f 0 rfl
              have n1 := Bt.c 1 rfl
              have f1 := Bt.f 1 rfl
              go_simp
              clear n0 f0 n1 f1
              refine hK.out _ _ (below_set (below_set hHeld (by omega) _) (by omega) _) (fun hNew => ?_)
              clear hHeld hK K
              have hHeld := hNew
              clear hNew
              try simp only [PPz]
              refine at_anyH (fun v => Below V.heap.size V v ∧ BK v wa15.heap.size [.int .i64 t1, .int .i64 t2] ∧ BK v wa60.heap.size [.int .i64 f1, .int .i64 f2]) ⟨hHeld, ((Bt.set 0 _).set 1 _), ((Bf.far (by omega) _ _).far (by omega) _ _)⟩ (fun wa68 hS => ?_)
              clear hHeld Bt Bf
              obtain ⟨hHeld, Bt, Bf⟩ := hS
              refine wpAnyH_done (by kernel_rfl) ?_ _
              go_wp2_with fail
              go_meet
              exact ⟨_, _, rfl, rfl, hHeld, Bf, Bt⟩
          ·
            go_simp
            refine hK.out _ _ (below_al hHeld _) (fun hNew => ?_)
            have hf : V.heap.size ≤ wa59.heap.size := hHeld.size
            have dtf := Bt.lt
            clear hHeld hK K
            have hHeld := hNew
            clear hNew
            try simp only [PPz]
            refine at_anyH (fun v => Below V.heap.size V v ∧ BK v wa15.heap.size [.int .i64 0, .int .i64 0] ∧ BK v wa59.heap.size [.int .i64 0, .int .i64 0]) ⟨hHeld, Bt.al _, BK.new _ _ _⟩ (fun wa69 hS => ?_)
            clear hHeld Bt
            obtain ⟨hHeld, Bt, Bf⟩ := hS
            refine rdy1 15 rfl (fun K hK => ?_)
            go_simp
            refine (OFF.out p2 _).mono ?_
            rintro e wa70 ⟨rfl, hb3⟩
            go_wp2_with fail
            refine hK.out _ _ (keepB hHeld hb3) (fun hNew => ?_)
            replace Bt := Bt.keep hb3
            replace Bf := Bf.keep hb3
            clear hb3
            clear hHeld hK K
            have hHeld := hNew
            clear hNew
            try simp only [PPz]
            refine rdy1 16 rfl (fun K hK => ?_)
            go_simp
            refine (SQ.out _).mono ?_
            rintro e wa71 ⟨rfl, hb3⟩
            go_wp2_with fail
            refine hK.out _ _ (keepB hHeld hb3) (fun hNew => ?_)
            replace Bt := Bt.keep hb3
            replace Bf := Bf.keep hb3
            clear hb3
            clear hHeld hK K
            have hHeld := hNew
            clear hNew
            try simp only [PPz]
            refine rdy1 19 rfl (fun K hK => ?_)
            have n0 := Bf.c 0 rfl
            have f0 := Bf.f 0 rfl
            have n1 := Bf.c 1 rfl
            have f1 := Bf.f 1 rfl
            go_simp
            clear n0 f0 n1 f1
            refine hK.out _ _ (below_set (below_set hHeld (by omega) _) (by omega) _) (fun hNew => ?_)
            clear hHeld hK K
            have hHeld := hNew
            clear hNew
            try simp only [PPz]
            refine at_anyH (fun v => Below V.heap.size V v ∧ BK v wa15.heap.size [.int .i64 0, .int .i64 0] ∧ BK v wa59.heap.size [.int .i64 f1, .int .i64 f2]) ⟨hHeld, ((Bt.far (by omega) _ _).far (by omega) _ _), ((Bf.set 0 _).set 1 _)⟩ (fun wa72 hS => ?_)
            clear hHeld Bt Bf
            obtain ⟨hHeld, Bt, Bf⟩ := hS
            refine rdy1 20 rfl (fun K hK => ?_)
            have n0 := Bt.c 0 rfl
            have f0 := Bt.f 0 rfl
            have n1 := Bt.c 1 rfl
            have f1 := Bt.f 1 rfl
            go_simp
            clear n0 f0 n1 f1
            refine hK.out _ _ (below_set (below_set hHeld (by omega) _) (by omega) _) (fun hNew => ?_)
            clear hHeld hK K
            have hHeld := hNew
            clear hNew
            try simp only [PPz]
            refine at_anyH (fun v => Below V.heap.size V v ∧ BK v wa15.heap.size [.int .i64 t1, .int .i64 t2] ∧ BK v wa59.heap.size [.int .i64 f1, .int .i64 f2]) ⟨hHeld, ((Bt.set 0 _).set 1 _), ((Bf.far (by omega) _ _).far (by omega) _ _)⟩ (fun wa73 hS => ?_)
            clear hHeld Bt Bf
            obtain ⟨hHeld, Bt, Bf⟩ := hS
            refine wpAnyH_done (by kernel_rfl) ?_ _
            go_wp2_with fail
            go_meet
            exact ⟨_, _, rfl, rfl, hHeld, Bf, Bt⟩
      ·
        go_simp
        refine hK.out _ _ (below_al hHeld _) (fun hNew => ?_)
        have hf : V.heap.size ≤ wa14.heap.size := hHeld.size
        clear hHeld hK K
        have hHeld := hNew
        clear hNew
        try simp only [PPz]
        refine at_anyH (fun v => Below V.heap.size V v ∧ BK v wa14.heap.size [.int .i64 0, .int .i64 0]) ⟨hHeld, BK.new _ _ _⟩ (fun wa74 hS => ?_)
        clear hHeld
        obtain ⟨hHeld, Bf⟩ := hS
        refine rdy2 7 18 rfl rfl (fun K hK => ?_) (fun K hK => ?_)
        ·
          go_simp
          refine (LA.out _).mono ?_
          rintro e wa75 ⟨rfl, hb3⟩
          go_wp2_with fail
          refine hK.out _ _ (keepB hHeld hb3) (fun hNew => ?_)
          replace Bf := Bf.keep hb3
          clear hb3
          clear hHeld hK K
          have hHeld := hNew
          clear hNew
          try simp only [PPz]
          refine rdy2 15 18 rfl rfl (fun K hK => ?_) (fun K hK => ?_)
          ·
            go_simp
            refine (OFF.out p2 _).mono ?_
            rintro e wa76 ⟨rfl, hb3⟩
            go_wp2_with fail
            refine hK.out _ _ (keepB hHeld hb3) (fun hNew => ?_)
            replace Bf := Bf.keep hb3
            clear hb3
            clear hHeld hK K
            have hHeld := hNew
            clear hNew
            try simp only [PPz]
            refine rdy2 16 18 rfl rfl (fun K hK => ?_) (fun K hK => ?_)
            ·
              go_simp
              refine (SQ.out _).mono ?_
              rintro e wa77 ⟨rfl, hb3⟩
              go_wp2_with fail
              refine hK.out _ _ (keepB hHeld hb3) (fun hNew => ?_)
              replace Bf := Bf.keep hb3
              clear hb3
              clear hHeld hK K
              have hHeld := hNew
              clear hNew
              try simp only [PPz]
              refine rdy1 18 rfl (fun K hK => ?_)
              go_simp
              refine hK.out _ _ (below_al hHeld _) (fun hNew => ?_)
              have ht : V.heap.size ≤ wa77.heap.size := hHeld.size
              have dft := Bf.lt
              clear hHeld hK K
              have hHeld := hNew
              clear hNew
              try simp only [PPz]
              refine at_anyH (fun v => Below V.heap.size V v ∧ BK v wa14.heap.size [.int .i64 0, .int .i64 0] ∧ BK v wa77.heap.size [.int .i64 0, .int .i64 0]) ⟨hHeld, Bf.al _, BK.new _ _ _⟩ (fun wa78 hS => ?_)
              clear hHeld Bf
              obtain ⟨hHeld, Bf, Bt⟩ := hS
              refine rdy1 19 rfl (fun K hK => ?_)
              have n0 := Bf.c 0 rfl
              have f0 := Bf.f 0 rfl
              have n1 := Bf.c 1 rfl
              have f1 := Bf.f 1 rfl
              go_simp
              clear n0 f0 n1 f1
              refine hK.out _ _ (below_set (below_set hHeld (by omega) _) (by omega) _) (fun hNew => ?_)
              clear hHeld hK K
              have hHeld := hNew
              clear hNew
              try simp only [PPz]
              refine at_anyH (fun v => Below V.heap.size V v ∧ BK v wa14.heap.size [.int .i64 f1, .int .i64 f2] ∧ BK v wa77.heap.size [.int .i64 0, .int .i64 0]) ⟨hHeld, ((Bf.set 0 _).set 1 _), ((Bt.far (by omega) _ _).far (by omega) _ _)⟩ (fun wa79 hS => ?_)
              clear hHeld Bf Bt
              obtain ⟨hHeld, Bf, Bt⟩ := hS
              refine rdy1 20 rfl (fun K hK => ?_)
              have n0 := Bt.c 0 rfl
              have f0 := Bt.f 0 rfl
              have n1 := Bt.c 1 rfl
              have f1 := Bt.f 1 rfl
              go_simp
              clear n0 f0 n1 f1
              refine hK.out _ _ (below_set (below_set hHeld (by omega) _) (by omega) _) (fun hNew => ?_)
              clear hHeld hK K
              have hHeld := hNew
              clear hNew
              try simp only [PPz]
              refine at_anyH (fun v => Below V.heap.size V v ∧ BK v wa14.heap.size [.int .i64 f1, .int .i64 f2] ∧ BK v wa77.heap.size [.int .i64 t1, .int .i64 t2]) ⟨hHeld, ((Bf.far (by omega) _ _).far (by omega) _ _), ((Bt.set 0 _).set 1 _)⟩ (fun wa80 hS => ?_)
              clear hHeld Bf Bt
              obtain ⟨hHeld, Bf, Bt⟩ := hS
              refine wpAnyH_done (by kernel_rfl) ?_ _
              go_wp2_with fail
              go_meet
              exact ⟨_, _, rfl, rfl, hHeld, Bf, Bt⟩
            ·
              go_simp
              refine hK.out _ _ (below_al hHeld _) (fun hNew => ?_)
              have ht : V.heap.size ≤ wa76.heap.size := hHeld.size
              have dft := Bf.lt
              clear hHeld hK K
              have hHeld := hNew
              clear hNew
              try simp only [PPz]
              refine at_anyH (fun v => Below V.heap.size V v ∧ BK v wa14.heap.size [.int .i64 0, .int .i64 0] ∧ BK v wa76.heap.size [.int .i64 0, .int .i64 0]) ⟨hHeld, Bf.al _, BK.new _ _ _⟩ (fun wa81 hS => ?_)
              clear hHeld Bf
              obtain ⟨hHeld, Bf, Bt⟩ := hS
              refine rdy1 16 rfl (fun K hK => ?_)
              go_simp
              refine (SQ.out _).mono ?_
              rintro e wa82 ⟨rfl, hb3⟩
              go_wp2_with fail
              refine hK.out _ _ (keepB hHeld hb3) (fun hNew => ?_)
              replace Bf := Bf.keep hb3
              replace Bt := Bt.keep hb3
              clear hb3
              clear hHeld hK K
              have hHeld := hNew
              clear hNew
              try simp only [PPz]
              refine rdy1 19 rfl (fun K hK => ?_)
              have n0 := Bf.c 0 rfl
              have f0 := Bf.f 0 rfl
              have n1 := Bf.c 1 rfl
              have f1 := Bf.f 1 rfl
              go_simp
              clear n0 f0 n1 f1
              refine hK.out _ _ (below_set (below_set hHeld (by omega) _) (by omega) _) (fun hNew => ?_)
              clear hHeld hK K
              have hHeld := hNew
              clear hNew
              try simp only [PPz]
              refine at_anyH (fun v => Below V.heap.size V v ∧ BK v wa14.heap.size [.int .i64 f1, .int .i64 f2] ∧ BK v wa76.heap.size [.int .i64 0, .int .i64 0]) ⟨hHeld, ((Bf.set 0 _).set 1 _), ((Bt.far (by omega) _ _).far (by omega) _ _)⟩ (fun wa83 hS => ?_)
              clear hHeld Bf Bt
              obtain ⟨hHeld, Bf, Bt⟩ := hS
              refine rdy1 20 rfl (fun K hK => ?_)
              have n0 := Bt.c 0 rfl
              have f0 := Bt.f 0 rfl
              have n1 := Bt.c 1 rfl
              have f1 := Bt.f 1 rfl
              go_simp
              clear n0 f0 n1 f1
              refine hK.out _ _ (below_set (below_set hHeld (by omega) _) (by omega) _) (fun hNew => ?_)
              clear hHeld hK K
              have hHeld := hNew
              clear hNew
              try simp only [PPz]
              refine at_anyH (fun v => Below V.heap.size V v ∧ BK v wa14.heap.size [.int .i64 f1, .int .i64 f2] ∧ BK v wa76.heap.size [.int .i64 t1, .int .i64 t2]) ⟨hHeld, ((Bf.far (by omega) _ _).far (by omega) _ _), ((Bt.set 0 _).set 1 _)⟩ (fun wa84 hS => ?_)
              clear hHeld Bf Bt
              obtain ⟨hHeld, Bf, Bt⟩ := hS
              refine wpAnyH_done (by kernel_rfl) ?_ _
              go_wp2_with fail
              go_meet
              exact ⟨_, _, rfl, rfl, hHeld, Bf, Bt⟩
          ·
            go_simp
            refine hK.out _ _ (below_al hHeld _) (fun hNew => ?_)
            have ht : V.heap.size ≤ wa75.heap.size := hHeld.size
            have dft := Bf.lt
            clear hHeld hK K
            have hHeld := hNew
            clear hNew
            try simp only [PPz]
            refine at_anyH (fun v => Below V.heap.size V v ∧ BK v wa14.heap.size [.int .i64 0, .int .i64 0] ∧ BK v wa75.heap.size [.int .i64 0, .int .i64 0]) ⟨hHeld, Bf.al _, BK.new _ _ _⟩ (fun wa85 hS => ?_)
            clear hHeld Bf
            obtain ⟨hHeld, Bf, Bt⟩ := hS
            refine rdy1 15 rfl (fun K hK => ?_)
            go_simp
            refine (OFF.out p2 _).mono ?_
            rintro e wa86 ⟨rfl, hb3⟩
            go_wp2_with fail
            refine hK.out _ _ (keepB hHeld hb3) (fun hNew => ?_)
            replace Bf := Bf.keep hb3
            replace Bt := Bt.keep hb3
            clear hb3
            clear hHeld hK K
            have hHeld := hNew
            clear hNew
            try simp only [PPz]
            refine rdy1 16 rfl (fun K hK => ?_)
            go_simp
            refine (SQ.out _).mono ?_
            rintro e wa87 ⟨rfl, hb3⟩
            go_wp2_with fail
            refine hK.out _ _ (keepB hHeld hb3) (fun hNew => ?_)
            replace Bf := Bf.keep hb3
            replace Bt := Bt.keep hb3
            clear hb3
            clear hHeld hK K
            have hHeld := hNew
            clear hNew
            try simp only [PPz]
            refine rdy1 19 rfl (fun K hK => ?_)
            have n0 := Bf.c 0 rfl
            have f0 := Bf.f 0 rfl
            have n1 := Bf.c 1 rfl
            have f1 := Bf.f 1 rfl
            go_simp
            clear n0 f0 n1 f1
            refine hK.out _ _ (below_set (below_set hHeld (by omega) _) (by omega) _) (fun hNew => ?_)
            clear hHeld hK K
            have hHeld := hNew
            clear hNew
            try simp only [PPz]
            refine at_anyH (fun v => Below V.heap.size V v ∧ BK v wa14.heap.size [.int .i64 f1, .int .i64 f2] ∧ BK v wa75.heap.size [.int .i64 0, .int .i64 0]) ⟨hHeld, ((Bf.set 0 _).set 1 _), ((Bt.far (by omega) _ _).far (by omega) _ _)⟩ (fun wa88 hS => ?_)
            clear hHeld Bf Bt
            obtain ⟨hHeld, Bf, Bt⟩ := hS
            refine rdy1 20 rfl (fun K hK => ?_)
            have n0 := Bt.c 0 rfl
            have f0 := Bt.f 0 rfl
            have n1 := Bt.c 1 rfl
            have f1 := Bt.f 1 rfl
            go_simp
            clear n0 f0 n1 f1
            refine hK.out _ _ (below_set (below_set hHeld (by omega) _) (by omega) _) (fun hNew => ?_)
            clear hHeld hK K
            have hHeld := hNew
            clear hNew
            try simp only [PPz]
            refine at_anyH (fun v => Below V.heap.size V v ∧ BK v wa14.heap.size [.int .i64 f1, .int .i64 f2] ∧ BK v wa75.heap.size [.int .i64 t1, .int .i64 t2]) ⟨hHeld, ((Bf.far (by omega) _ _).far (by omega) _ _), ((Bt.set 0 _).set 1 _)⟩ (fun wa89 hS => ?_)
            clear hHeld Bf Bt
            obtain ⟨hHeld, Bf, Bt⟩ := hS
            refine wpAnyH_done (by kernel_rfl) ?_ _
            go_wp2_with fail
            go_meet
            exact ⟨_, _, rfl, rfl, hHeld, Bf, Bt⟩
        ·
          go_simp
          refine hK.out _ _ (below_al hHeld _) (fun hNew => ?_)
          have ht : V.heap.size ≤ wa74.heap.size := hHeld.size
          have dft := Bf.lt
          clear hHeld hK K
          have hHeld := hNew
          clear hNew
          try simp only [PPz]
          refine at_anyH (fun v => Below V.heap.size V v ∧ BK v wa14.heap.size [.int .i64 0, .int .i64 0] ∧ BK v wa74.heap.size [.int .i64 0, .int .i64 0]) ⟨hHeld, Bf.al _, BK.new _ _ _⟩ (fun wa90 hS => ?_)
          clear hHeld Bf
          obtain ⟨hHeld, Bf, Bt⟩ := hS
          refine rdy1 7 rfl (fun K hK => ?_)
          go_simp
          refine (LA.out _).mono ?_
          rintro e wa91 ⟨rfl, hb3⟩
          go_wp2_with fail
          refine hK.out _ _ (keepB hHeld hb3) (fun hNew => ?_)
          replace Bf := Bf.keep hb3
          replace Bt := Bt.keep hb3
          clear hb3
          clear hHeld hK K
          have hHeld := hNew
          clear hNew
          try simp only [PPz]
          refine rdy1 15 rfl (fun K hK => ?_)
          go_simp
          refine (OFF.out p2 _).mono ?_
          rintro e wa92 ⟨rfl, hb3⟩
          go_wp2_with fail
          refine hK.out _ _ (keepB hHeld hb3) (fun hNew => ?_)
          replace Bf := Bf.keep hb3
          replace Bt := Bt.keep hb3
          clear hb3
          clear hHeld hK K
          have hHeld := hNew
          clear hNew
          try simp only [PPz]
          refine rdy1 16 rfl (fun K hK => ?_)
          go_simp
          refine (SQ.out _).mono ?_
          rintro e wa93 ⟨rfl, hb3⟩
          go_wp2_with fail
          refine hK.out _ _ (keepB hHeld hb3) (fun hNew => ?_)
          replace Bf := Bf.keep hb3
          replace Bt := Bt.keep hb3
          clear hb3
          clear hHeld hK K
          have hHeld := hNew
          clear hNew
          try simp only [PPz]
          refine rdy1 19 rfl (fun K hK => ?_)
          have n0 := Bf.c 0 rfl
          have f0 := Bf.f 0 rfl
          have n1 := Bf.c 1 rfl
          have f1 := Bf.f 1 rfl
          go_simp
          clear n0 f0 n1 f1
          refine hK.out _ _ (below_set (below_set hHeld (by omega) _) (by omega) _) (fun hNew => ?_)
          clear hHeld hK K
          have hHeld := hNew
          clear hNew
          try simp only [PPz]
          refine at_anyH (fun v => Below V.heap.size V v ∧ BK v wa14.heap.size [.int .i64 f1, .int .i64 f2] ∧ BK v wa74.heap.size [.int .i64 0, .int .i64 0]) ⟨hHeld, ((Bf.set 0 _).set 1 _), ((Bt.far (by omega) _ _).far (by omega) _ _)⟩ (fun wa94 hS => ?_)
          clear hHeld Bf Bt
          obtain ⟨hHeld, Bf, Bt⟩ := hS
          refine rdy1 20 rfl (fun K hK => ?_)
          have n0 := Bt.c 0 rfl
          have f0 := Bt.f 0 rfl
          have n1 := Bt.c 1 rfl
          have f1 := Bt.f 1 rfl
          go_simp
          clear n0 f0 n1 f1
          refine hK.out _ _ (below_set (below_set hHeld (by omega) _) (by omega) _) (fun hNew => ?_)
          clear hHeld hK K
          have hHeld := hNew
          clear hNew
          try simp only [PPz]
          refine at_anyH (fun v => Below V.heap.size V v ∧ BK v wa14.heap.size [.int .i64 f1, .int .i64 f2] ∧ BK v wa74.heap.size [.int .i64 t1, .int .i64 t2]) ⟨hHeld, ((Bf.far (by omega) _ _).far (by omega) _ _), ((Bt.set 0 _).set 1 _)⟩ (fun wa95 hS => ?_)
          clear hHeld Bf Bt
          obtain ⟨hHeld, Bf, Bt⟩ := hS
          refine wpAnyH_done (by kernel_rfl) ?_ _
          go_wp2_with fail
          go_meet
          exact ⟨_, _, rfl, rfl, hHeld, Bf, Bt⟩
      ·
        go_simp
        refine hK.out _ _ (below_al hHeld _) (fun hNew => ?_)
        have ht : V.heap.size ≤ wa14.heap.size := hHeld.size
        clear hHeld hK K
        have hHeld := hNew
        clear hNew
        try simp only [PPz]
        refine at_anyH (fun v => Below V.heap.size V v ∧ BK v wa14.heap.size [.int .i64 0, .int .i64 0]) ⟨hHeld, BK.new _ _ _⟩ (fun wa96 hS => ?_)
        clear hHeld
        obtain ⟨hHeld, Bt⟩ := hS
        refine rdy2 7 17 rfl rfl (fun K hK => ?_) (fun K hK => ?_)
        ·
          go_simp
          refine (LA.out _).mono ?_
          rintro e wa97 ⟨rfl, hb3⟩
          go_wp2_with fail
          refine hK.out _ _ (keepB hHeld hb3) (fun hNew => ?_)
          replace Bt := Bt.keep hb3
          clear hb3
          clear hHeld hK K
          have hHeld := hNew
          clear hNew
          try simp only [PPz]
          refine rdy2 15 17 rfl rfl (fun K hK => ?_) (fun K hK => ?_)
          ·
            go_simp
            refine (OFF.out p2 _).mono ?_
            rintro e wa98 ⟨rfl, hb3⟩
            go_wp2_with fail
            refine hK.out _ _ (keepB hHeld hb3) (fun hNew => ?_)
            replace Bt := Bt.keep hb3
            clear hb3
            clear hHeld hK K
            have hHeld := hNew
            clear hNew
            try simp only [PPz]
            refine rdy2 16 17 rfl rfl (fun K hK => ?_) (fun K hK => ?_)
            ·
              go_simp
              refine (SQ.out _).mono ?_
              rintro e wa99 ⟨rfl, hb3⟩
              go_wp2_with fail
              refine hK.out _ _ (keepB hHeld hb3) (fun hNew => ?_)
              replace Bt := Bt.keep hb3
              clear hb3
              clear hHeld hK K
              have hHeld := hNew
              clear hNew
              try simp only [PPz]
              refine rdy1 17 rfl (fun K hK => ?_)
              go_simp
              refine hK.out _ _ (below_al hHeld _) (fun hNew => ?_)
              have hf : V.heap.size ≤ wa99.heap.size := hHeld.size
              have dtf := Bt.lt
              clear hHeld hK K
              have hHeld := hNew
              clear hNew
              try simp only [PPz]
              refine at_anyH (fun v => Below V.heap.size V v ∧ BK v wa14.heap.size [.int .i64 0, .int .i64 0] ∧ BK v wa99.heap.size [.int .i64 0, .int .i64 0]) ⟨hHeld, Bt.al _, BK.new _ _ _⟩ (fun wa100 hS => ?_)
              clear hHeld Bt
              obtain ⟨hHeld, Bt, Bf⟩ := hS
              refine rdy1 19 rfl (fun K hK => ?_)
              have n0 := Bf.c 0 rfl
              have f0 := Bf.f 0 rfl
              have n1 := Bf.c 1 rfl
              have f1 := Bf.f 1 rfl
              go_simp
              clear n0 f0 n1 f1
              refine hK.out _ _ (below_set (below_set hHeld (by omega) _) (by omega) _) (fun hNew => ?_)
              clear hHeld hK K
              have hHeld := hNew
              clear hNew
              try simp only [PPz]
              refine at_anyH (fun v => Below V.heap.size V v ∧ BK v wa14.heap.size [.int .i64 0, .int .i64 0] ∧ BK v wa99.heap.size [.int .i64 f1, .int .i64 f2]) ⟨hHeld, ((Bt.far (by omega) _ _).far (by omega) _ _), ((Bf.set 0 _).set 1 _)⟩ (fun wa101 hS => ?_)
              clear hHeld Bt Bf
              obtain ⟨hHeld, Bt, Bf⟩ := hS
              refine rdy1 20 rfl (fun K hK => ?_)
              have n0 := Bt.c 0 rfl
              have f0 := Bt.f 0 rfl
              have n1 := Bt.c 1 rfl
              have f1 := Bt.f 1 rfl
              go_simp
              clear n0 f0 n1 f1
              refine hK.out _ _ (below_set (below_set hHeld (by omega) _) (by omega) _) (fun hNew => ?_)
              clear hHeld hK K
              have hHeld := hNew
              clear hNew
              try simp only [PPz]
              refine at_anyH (fun v => Below V.heap.size V v ∧ BK v wa14.heap.size [.int .i64 t1, .int .i64 t2] ∧ BK v wa99.heap.size [.int .i64 f1, .int .i64 f2]) ⟨hHeld, ((Bt.set 0 _).set 1 _), ((Bf.far (by omega) _ _).far (by omega) _ _)⟩ (fun wa102 hS => ?_)
              clear hHeld Bt Bf
              obtain ⟨hHeld, Bt, Bf⟩ := hS
              refine wpAnyH_done (by kernel_rfl) ?_ _
              go_wp2_with fail
              go_meet
              exact ⟨_, _, rfl, rfl, hHeld, Bf, Bt⟩
            ·
              go_simp
              refine hK.out _ _ (below_al hHeld _) (fun hNew => ?_)
              have hf : V.heap.size ≤ wa98.heap.size := hHeld.size
              have dtf := Bt.lt
              clear hHeld hK K
              have hHeld := hNew
              clear hNew
              try simp only [PPz]
              refine at_anyH (fun v => Below V.heap.size V v ∧ BK v wa14.heap.size [.int .i64 0, .int .i64 0] ∧ BK v wa98.heap.size [.int .i64 0, .int .i64 0]) ⟨hHeld, Bt.al _, BK.new _ _ _⟩ (fun wa103 hS => ?_)
              clear hHeld Bt
              obtain ⟨hHeld, Bt, Bf⟩ := hS
              refine rdy1 16 rfl (fun K hK => ?_)
              go_simp
              refine (SQ.out _).mono ?_
              rintro e wa104 ⟨rfl, hb3⟩
              go_wp2_with fail
              refine hK.out _ _ (keepB hHeld hb3) (fun hNew => ?_)
              replace Bt := Bt.keep hb3
              replace Bf := Bf.keep hb3
              clear hb3
              clear hHeld hK K
              have hHeld := hNew
              clear hNew
              try simp only [PPz]
              refine rdy1 19 rfl (fun K hK => ?_)
              have n0 := Bf.c 0 rfl
              have f0 := Bf.f 0 rfl
              have n1 := Bf.c 1 rfl
              have f1 := Bf.f 1 rfl
              go_simp
              clear n0 f0 n1 f1
              refine hK.out _ _ (below_set (below_set hHeld (by omega) _) (by omega) _) (fun hNew => ?_)
              clear hHeld hK K
              have hHeld := hNew
              clear hNew
              try simp only [PPz]
              refine at_anyH (fun v => Below V.heap.size V v ∧ BK v wa14.heap.size [.int .i64 0, .int .i64 0] ∧ BK v wa98.heap.size [.int .i64 f1, .int .i64 f2]) ⟨hHeld, ((Bt.far (by omega) _ _).far (by omega) _ _), ((Bf.set 0 _).set 1 _)⟩ (fun wa105 hS => ?_)
              clear hHeld Bt Bf
              obtain ⟨hHeld, Bt, Bf⟩ := hS
              refine rdy1 20 rfl (fun K hK => ?_)
              have n0 := Bt.c 0 rfl
              have f0 := Bt.f 0 rfl
              have n1 := Bt.c 1 rfl
              have f1 := Bt.f 1 rfl
              go_simp
              clear n0 f0 n1 f1
              refine hK.out _ _ (below_set (below_set hHeld (by omega) _) (by omega) _) (fun hNew => ?_)
              clear hHeld hK K
              have hHeld := hNew
              clear hNew
              try simp only [PPz]
              refine at_anyH (fun v => Below V.heap.size V v ∧ BK v wa14.heap.size [.int .i64 t1, .int .i64 t2] ∧ BK v wa98.heap.size [.int .i64 f1, .int .i64 f2]) ⟨hHeld, ((Bt.set 0 _).set 1 _), ((Bf.far (by omega) _ _).far (by omega) _ _)⟩ (fun wa106 hS => ?_)
              clear hHeld Bt Bf
              obtain ⟨hHeld, Bt, Bf⟩ := hS
              refine wpAnyH_done (by kernel_rfl) ?_ _
              go_wp2_with fail
              go_meet
              exact ⟨_, _, rfl, rfl, hHeld, Bf, Bt⟩
          ·
            go_simp
            refine hK.out _ _ (below_al hHeld _) (fun hNew => ?_)
            have hf : V.heap.size ≤ wa97.heap.size := hHeld.size
            have dtf := Bt.lt
            clear hHeld hK K
            have hHeld := hNew
            clear hNew
            try simp only [PPz]
            refine at_anyH (fun v => Below V.heap.size V v ∧ BK v wa14.heap.size [.int .i64 0, .int .i64 0] ∧ BK v wa97.heap.size [.int .i64 0, .int .i64 0]) ⟨hHeld, Bt.al _, BK.new _ _ _⟩ (fun wa107 hS => ?_)
            clear hHeld Bt
            obtain ⟨hHeld, Bt, Bf⟩ := hS
            refine rdy1 15 rfl (fun K hK => ?_)
            go_simp
            refine (OFF.out p2 _).mono ?_
            rintro e wa108 ⟨rfl, hb3⟩
            go_wp2_with fail
            refine hK.out _ _ (keepB hHeld hb3) (fun hNew => ?_)
            replace Bt := Bt.keep hb3
            replace Bf := Bf.keep hb3
            clear hb3
            clear hHeld hK K
            have hHeld := hNew
            clear hNew
            try simp only [PPz]
            refine rdy1 16 rfl (fun K hK => ?_)
            go_simp
            refine (SQ.out _).mono ?_
            rintro e wa109 ⟨rfl, hb3⟩
            go_wp2_with fail
            refine hK.out _ _ (keepB hHeld hb3) (fun hNew => ?_)
            replace Bt := Bt.keep hb3
            replace Bf := Bf.keep hb3
            clear hb3
            clear hHeld hK K
            have hHeld := hNew
            clear hNew
            try simp only [PPz]
            refine rdy1 19 rfl (fun K hK => ?_)
            have n0 := Bf.c 0 rfl
            have f0 := Bf.f 0 rfl
            have n1 := Bf.c 1 rfl
            have f1 := Bf.f 1 rfl
            go_simp
            clear n0 f0 n1 f1
            refine hK.out _ _ (below_set (below_set hHeld (by omega) _) (by omega) _) (fun hNew => ?_)
            clear hHeld hK K
            have hHeld := hNew
            clear hNew
            try simp only [PPz]
            refine at_anyH (fun v => Below V.heap.size V v ∧ BK v wa14.heap.size [.int .i64 0, .int .i64 0] ∧ BK v wa97.heap.size [.int .i64 f1, .int .i64 f2]) ⟨hHeld, ((Bt.far (by omega) _ _).far (by omega) _ _), ((Bf.set 0 _).set 1 _)⟩ (fun wa110 hS => ?_)
            clear hHeld Bt Bf
            obtain ⟨hHeld, Bt, Bf⟩ := hS
            refine rdy1 20 rfl (fun K hK => ?_)
            have n0 := Bt.c 0 rfl
            have f0 := Bt.f 0 rfl
            have n1 := Bt.c 1 rfl
            have f1 := Bt.f 1 rfl
            go_simp
            clear n0 f0 n1 f1
            refine hK.out _ _ (below_set (below_set hHeld (by omega) _) (by omega) _) (fun hNew => ?_)
            clear hHeld hK K
            have hHeld := hNew
            clear hNew
            try simp only [PPz]
            refine at_anyH (fun v => Below V.heap.size V v ∧ BK v wa14.heap.size [.int .i64 t1, .int .i64 t2] ∧ BK v wa97.heap.size [.int .i64 f1, .int .i64 f2]) ⟨hHeld, ((Bt.set 0 _).set 1 _), ((Bf.far (by omega) _ _).far (by omega) _ _)⟩ (fun wa111 hS => ?_)
            clear hHeld Bt Bf
            obtain ⟨hHeld, Bt, Bf⟩ := hS
            refine wpAnyH_done (by kernel_rfl) ?_ _
            go_wp2_with fail
            go_meet
            exact ⟨_, _, rfl, rfl, hHeld, Bf, Bt⟩
        ·
          go_simp
          refine hK.out _ _ (below_al hHeld _) (fun hNew => ?_)
          have hf : V.heap.size ≤ wa96.heap.size := hHeld.size
          have dtf := Bt.lt
          clear hHeld hK K
          have hHeld := hNew
          clear hNew
          try simp only [PPz]
          refine at_anyH (fun v => Below V.heap.size V v ∧ BK v wa14.heap.size [.int .i64 0, .int .i64 0] ∧ BK v wa96.heap.size [.int .i64 0, .int .i64 0]) ⟨hHeld, Bt.al _, BK.new _ _ _⟩ (fun wa112 hS => ?_)
          clear hHeld Bt
          obtain ⟨hHeld, Bt, Bf⟩ := hS
          refine rdy1 7 rfl (fun K hK => ?_)
          go_simp
          refine (LA.out _).mono ?_
          rintro e wa113 ⟨rfl, hb3⟩
          go_wp2_with fail
          refine hK.out _ _ (keepB hHeld hb3) (fun hNew => ?_)
          replace Bt := Bt.keep hb3
          replace Bf := Bf.keep hb3
          clear hb3
          clear hHeld hK K
          have hHeld := hNew
          clear hNew
          try simp only [PPz]
          refine rdy1 15 rfl (fun K hK => ?_)
          go_simp
          refine (OFF.out p2 _).mono ?_
          rintro e wa114 ⟨rfl, hb3⟩
          go_wp2_with fail
          refine hK.out _ _ (keepB hHeld hb3) (fun hNew => ?_)
          replace Bt := Bt.keep hb3
          replace Bf := Bf.keep hb3
          clear hb3
          clear hHeld hK K
          have hHeld := hNew
          clear hNew
          try simp only [PPz]
          refine rdy1 16 rfl (fun K hK => ?_)
          go_simp
          refine (SQ.out _).mono ?_
          rintro e wa115 ⟨rfl, hb3⟩
          go_wp2_with fail
          refine hK.out _ _ (keepB hHeld hb3) (fun hNew => ?_)
          replace Bt := Bt.keep hb3
          replace Bf := Bf.keep hb3
          clear hb3
          clear hHeld hK K
          have hHeld := hNew
          clear hNew
          try simp only [PPz]
          refine rdy1 19 rfl (fun K hK => ?_)
          have n0 := Bf.c 0 rfl
          have f0 := Bf.f 0 rfl
          have n1 := Bf.c 1 rfl
          have f1 := Bf.f 1 rfl
          go_simp
          clear n0 f0 n1 f1
          refine hK.out _ _ (below_set (below_set hHeld (by omega) _) (by omega) _) (fun hNew => ?_)
          clear hHeld hK K
          have hHeld := hNew
          clear hNew
          try simp only [PPz]
          refine at_anyH (fun v => Below V.heap.size V v ∧ BK v wa14.heap.size [.int .i64 0, .int .i64 0] ∧ BK v wa96.heap.size [.int .i64 f1, .int .i64 f2]) ⟨hHeld, ((Bt.far (by omega) _ _).far (by omega) _ _), ((Bf.set 0 _).set 1 _)⟩ (fun wa116 hS => ?_)
          clear hHeld Bt Bf
          obtain ⟨hHeld, Bt, Bf⟩ := hS
          refine rdy1 20 rfl (fun K hK => ?_)
          have n0 := Bt.c 0 rfl
          have f0 := Bt.f 0 rfl
          have n1 := Bt.c 1 rfl
          have f1 := Bt.f 1 rfl
          go_simp
          clear n0 f0 n1 f1
          refine hK.out _ _ (below_set (below_set hHeld (by omega) _) (by omega) _) (fun hNew => ?_)
          clear hHeld hK K
          have hHeld := hNew
          clear hNew
          try simp only [PPz]
          refine at_anyH (fun v => Below V.heap.size V v ∧ BK v wa14.heap.size [.int .i64 t1, .int .i64 t2] ∧ BK v wa96.heap.size [.int .i64 f1, .int .i64 f2]) ⟨hHeld, ((Bt.set 0 _).set 1 _), ((Bf.far (by omega) _ _).far (by omega) _ _)⟩ (fun wa117 hS => ?_)
          clear hHeld Bt Bf
          obtain ⟨hHeld, Bt, Bf⟩ := hS
          refine wpAnyH_done (by kernel_rfl) ?_ _
          go_wp2_with fail
          go_meet
          exact ⟨_, _, rfl, rfl, hHeld, Bf, Bt⟩
    ·
      go_simp
      refine hK.out _ _ (below_al hHeld _) (fun hNew => ?_)
      have hf : V.heap.size ≤ wa0.heap.size := hHeld.size
      clear hHeld hK K
      have hHeld := hNew
      clear hNew
      try simp only [PPz]
      refine at_anyH (fun v => Below V.heap.size V v ∧ BK v wa0.heap.size [.int .i64 0, .int .i64 0]) ⟨hHeld, BK.new _ _ _⟩ (fun wa118 hS => ?_)
      clear hHeld
      obtain ⟨hHeld, Bf⟩ := hS
      refine rdy2 6 18 rfl rfl (fun K hK => ?_) (fun K hK => ?_)
      ·
        go_simp
        refine (OFF.out p1 _).mono ?_
        rintro e wa119 ⟨rfl, hb3⟩
        go_wp2_with fail
        refine hK.out _ _ (keepB hHeld hb3) (fun hNew => ?_)
        replace Bf := Bf.keep hb3
        clear hb3
        clear hHeld hK K
        have hHeld := hNew
        clear hNew
        try simp only [PPz]
        refine rdy2 7 18 rfl rfl (fun K hK => ?_) (fun K hK => ?_)
        ·
          go_simp
          refine (LA.out _).mono ?_
          rintro e wa120 ⟨rfl, hb3⟩
          go_wp2_with fail
          refine hK.out _ _ (keepB hHeld hb3) (fun hNew => ?_)
          replace Bf := Bf.keep hb3
          clear hb3
          clear hHeld hK K
          have hHeld := hNew
          clear hNew
          try simp only [PPz]
          refine rdy2 15 18 rfl rfl (fun K hK => ?_) (fun K hK => ?_)
          ·
            go_simp
            refine (OFF.out p2 _).mono ?_
            rintro e wa121 ⟨rfl, hb3⟩
            go_wp2_with fail
            refine hK.out _ _ (keepB hHeld hb3) (fun hNew => ?_)
            replace Bf := Bf.keep hb3
            clear hb3
            clear hHeld hK K
            have hHeld := hNew
            clear hNew
            try simp only [PPz]
            refine rdy2 16 18 rfl rfl (fun K hK => ?_) (fun K hK => ?_)
            ·
              go_simp
              refine (SQ.out _).mono ?_
              rintro e wa122 ⟨rfl, hb3⟩
              go_wp2_with fail
              refine hK.out _ _ (keepB hHeld hb3) (fun hNew => ?_)
              replace Bf := Bf.keep hb3
              clear hb3
              clear hHeld hK K
              have hHeld := hNew
              clear hNew
              try simp only [PPz]
              refine rdy1 18 rfl (fun K hK => ?_)
              go_simp
              refine hK.out _ _ (below_al hHeld _) (fun hNew => ?_)
              have ht : V.heap.size ≤ wa122.heap.size := hHeld.size
              have dft := Bf.lt
              clear hHeld hK K
              have hHeld := hNew
              clear hNew
              try simp only [PPz]
              refine at_anyH (fun v => Below V.heap.size V v ∧ BK v wa0.heap.size [.int .i64 0, .int .i64 0] ∧ BK v wa122.heap.size [.int .i64 0, .int .i64 0]) ⟨hHeld, Bf.al _, BK.new _ _ _⟩ (fun wa123 hS => ?_)
              clear hHeld Bf
              obtain ⟨hHeld, Bf, Bt⟩ := hS
              refine rdy1 19 rfl (fun K hK => ?_)
              have n0 := Bf.c 0 rfl
              have f0 := Bf.f 0 rfl
              have n1 := Bf.c 1 rfl
              have f1 := Bf.f 1 rfl
              go_simp
              clear n0 f0 n1 f1
              refine hK.out _ _ (below_set (below_set hHeld (by omega) _) (by omega) _) (fun hNew => ?_)
              clear hHeld hK K
              have hHeld := hNew
              clear hNew
              try simp only [PPz]
              refine at_anyH (fun v => Below V.heap.size V v ∧ BK v wa0.heap.size [.int .i64 f1, .int .i64 f2] ∧ BK v wa122.heap.size [.int .i64 0, .int .i64 0]) ⟨hHeld, ((Bf.set 0 _).set 1 _), ((Bt.far (by omega) _ _).far (by omega) _ _)⟩ (fun wa124 hS => ?_)
              clear hHeld Bf Bt
              obtain ⟨hHeld, Bf, Bt⟩ := hS
              refine rdy1 20 rfl (fun K hK => ?_)
              have n0 := Bt.c 0 rfl
              have f0 := Bt.f 0 rfl
              have n1 := Bt.c 1 rfl
              have f1 := Bt.f 1 rfl
              go_simp
              clear n0 f0 n1 f1
              refine hK.out _ _ (below_set (below_set hHeld (by omega) _) (by omega) _) (fun hNew => ?_)
              clear hHeld hK K
              have hHeld := hNew
              clear hNew
              try simp only [PPz]
              refine at_anyH (fun v => Below V.heap.size V v ∧ BK v wa0.heap.size [.int .i64 f1, .int .i64 f2] ∧ BK v wa122.heap.size [.int .i64 t1, .int .i64 t2]) ⟨hHeld, ((Bf.far (by omega) _ _).far (by omega) _ _), ((Bt.set 0 _).set 1 _)⟩ (fun wa125 hS => ?_)
              clear hHeld Bf Bt
              obtain ⟨hHeld, Bf, Bt⟩ := hS
              refine wpAnyH_done (by kernel_rfl) ?_ _
              go_wp2_with fail
              go_meet
              exact ⟨_, _, rfl, rfl, hHeld, Bf, Bt⟩
            ·
              go_simp
              refine hK.out _ _ (below_al hHeld _) (fun hNew => ?_)
              have ht : V.heap.size ≤ wa121.heap.size := hHeld.size
              have dft := Bf.lt
              clear hHeld hK K
              have hHeld := hNew
              clear hNew
              try simp only [PPz]
              refine at_anyH (fun v => Below V.heap.size V v ∧ BK v wa0.heap.size [.int .i64 0, .int .i64 0] ∧ BK v wa121.heap.size [.int .i64 0, .int .i64 0]) ⟨hHeld, Bf.al _, BK.new _ _ _⟩ (fun wa126 hS => ?_)
              clear hHeld Bf
              obtain ⟨hHeld, Bf, Bt⟩ := hS
              refine rdy1 16 rfl (fun K hK => ?_)
              go_simp
              refine (SQ.out _).mono ?_
              rintro e wa127 ⟨rfl, hb3⟩
              go_wp2_with fail
              refine hK.out _ _ (keepB hHeld hb3) (fun hNew => ?_)
              replace Bf := Bf.keep hb3
              replace Bt := Bt.keep hb3
              clear hb3
              clear hHeld hK K
              have hHeld := hNew
              clear hNew
              try simp only [PPz]
              refine rdy1 19 rfl (fun K hK => ?_)
              have n0 := Bf.c 0 rfl
              have f0 := Bf.f 0 rfl
              have n1 := Bf.c 1 rfl
              have f1 := Bf.f 1 rfl
              go_simp
              clear n0 f0 n1 f1
              refine hK.out _ _ (below_set (below_set hHeld (by omega) _) (by omega) _) (fun hNew => ?_)
              clear hHeld hK K
              have hHeld := hNew
              clear hNew
              try simp only [PPz]
              refine at_anyH (fun v => Below V.heap.size V v ∧ BK v wa0.heap.size [.int .i64 f1, .int .i64 f2] ∧ BK v wa121.heap.size [.int .i64 0, .int .i64 0]) ⟨hHeld, ((Bf.set 0 _).set 1 _), ((Bt.far (by omega) _ _).far (by omega) _ _)⟩ (fun wa128 hS => ?_)
              clear hHeld Bf Bt
              obtain ⟨hHeld, Bf, Bt⟩ := hS
              refine rdy1 20 rfl (fun K hK => ?_)
              have n0 := Bt.c 0 rfl
              have f0 := Bt.f 0 rfl
              have n1 := Bt.c 1 rfl
              have f1 := Bt.f 1 rfl
              go_simp
              clear n0 f0 n1 f1
              refine hK.out _ _ (below_set (below_set hHeld (by omega) _) (by omega) _) (fun hNew => ?_)
              clear hHeld hK K
              have hHeld := hNew
              clear hNew
              try simp only [PPz]
              refine at_anyH (fun v => Below V.heap.size V v ∧ BK v wa0.heap.size [.int .i64 f1, .int .i64 f2] ∧ BK v wa121.heap.size [.int .i64 t1, .int .i64 t2]) ⟨hHeld, ((Bf.far (by omega) _ _).far (by omega) _ _), ((Bt.set 0 _).set 1 _)⟩ (fun wa129 hS => ?_)
              clear hHeld Bf Bt
              obtain ⟨hHeld, Bf, Bt⟩ := hS
              refine wpAnyH_done (by kernel_rfl) ?_ _
              go_wp2_with fail
              go_meet
              exact ⟨_, _, rfl, rfl, hHeld, Bf, Bt⟩
          ·
            go_simp
            refine hK.out _ _ (below_al hHeld _) (fun hNew => ?_)
            have ht : V.heap.size ≤ wa120.heap.size := hHeld.size
            have dft := Bf.lt
            clear hHeld hK K
            have hHeld := hNew
            clear hNew
            try simp only [PPz]
            refine at_anyH (fun v => Below V.heap.size V v ∧ BK v wa0.heap.size [.int .i64 0, .int .i64 0] ∧ BK v wa120.heap.size [.int .i64 0, .int .i64 0]) ⟨hHeld, Bf.al _, BK.new _ _ _⟩ (fun wa130 hS => ?_)
            clear hHeld Bf
            obtain ⟨hHeld, Bf, Bt⟩ := hS
            refine rdy1 15 rfl (fun K hK => ?_)
            go_simp
            refine (OFF.out p2 _).mono ?_
            rintro e wa131 ⟨rfl, hb3⟩
            go_wp2_with fail
            refine hK.out _ _ (keepB hHeld hb3) (fun hNew => ?_)
            replace Bf := Bf.keep hb3
            replace Bt := Bt.keep hb3
            clear hb3
            clear hHeld hK K
            have hHeld := hNew
            clear hNew
            try simp only [PPz]
            refine rdy1 16 rfl (fun K hK => ?_)
            go_simp
            refine (SQ.out _).mono ?_
            rintro e wa132 ⟨rfl, hb3⟩
            go_wp2_with fail
            refine hK.out _ _ (keepB hHeld hb3) (fun hNew => ?_)
            replace Bf := Bf.keep hb3
            replace Bt := Bt.keep hb3
            clear hb3
            clear hHeld hK K
            have hHeld := hNew
            clear hNew
            try simp only [PPz]
            refine rdy1 19 rfl (fun K hK => ?_)
            have n0 := Bf.c 0 rfl
            have f0 := Bf.f 0 rfl
            have n1 := Bf.c 1 rfl
            have f1 := Bf.f 1 rfl
            go_simp
            clear n0 f0 n1 f1
            refine hK.out _ _ (below_set (below_set hHeld (by omega) _) (by omega) _) (fun hNew => ?_)
            clear hHeld hK K
            have hHeld := hNew
            clear hNew
            try simp only [PPz]
            refine at_anyH (fun v => Below V.heap.size V v ∧ BK v wa0.heap.size [.int .i64 f1, .int .i64 f2] ∧ BK v wa120.heap.size [.int .i64 0, .int .i64 0]) ⟨hHeld, ((Bf.set 0 _).set 1 _), ((Bt.far (by omega) _ _).far (by omega) _ _)⟩ (fun wa133 hS => ?_)
            clear hHeld Bf Bt
            obtain ⟨hHeld, Bf, Bt⟩ := hS
            refine rdy1 20 rfl (fun K hK => ?_)
            have n0 := Bt.c 0 rfl
            have f0 := Bt.f 0 rfl
            have n1 := Bt.c 1 rfl
            have f1 := Bt.f 1 rfl
            go_simp
            clear n0 f0 n1 f1
            refine hK.out _ _ (below_set (below_set hHeld (by omega) _) (by omega) _) (fun hNew => ?_)
            clear hHeld hK K
            have hHeld := hNew
            clear hNew
            try simp only [PPz]
            refine at_anyH (fun v => Below V.heap.size V v ∧ BK v wa0.heap.size [.int .i64 f1, .int .i64 f2] ∧ BK v wa120.heap.size [.int .i64 t1, .int .i64 t2]) ⟨hHeld, ((Bf.far (by omega) _ _).far (by omega) _ _), ((Bt.set 0 _).set 1 _)⟩ (fun wa134 hS => ?_)
            clear hHeld Bf Bt
            obtain ⟨hHeld, Bf, Bt⟩ := hS
            refine wpAnyH_done (by kernel_rfl) ?_ _
            go_wp2_with fail
            go_meet
            exact ⟨_, _, rfl, rfl, hHeld, Bf, Bt⟩
        ·
          go_simp
          refine hK.out _ _ (below_al hHeld _) (fun hNew => ?_)
          have ht : V.heap.size ≤ wa119.heap.size := hHeld.size
          have dft := Bf.lt
          clear hHeld hK K
          have hHeld := hNew
          clear hNew
          try simp only [PPz]
          refine at_anyH (fun v => Below V.heap.size V v ∧ BK v wa0.heap.size [.int .i64 0, .int .i64 0] ∧ BK v wa119.heap.size [.int .i64 0, .int .i64 0]) ⟨hHeld, Bf.al _, BK.new _ _ _⟩ (fun wa135 hS => ?_)
          clear hHeld Bf
          obtain ⟨hHeld, Bf, Bt⟩ := hS
          refine rdy1 7 rfl (fun K hK => ?_)
          go_simp
          refine (LA.out _).mono ?_
          rintro e wa136 ⟨rfl, hb3⟩
          go_wp2_with fail
          refine hK.out _ _ (keepB hHeld hb3) (fun hNew => ?_)
          replace Bf := Bf.keep hb3
          replace Bt := Bt.keep hb3
          clear hb3
          clear hHeld hK K
          have hHeld := hNew
          clear hNew
          try simp only [PPz]
          refine rdy1 15 rfl (fun K hK => ?_)
          go_simp
          refine (OFF.out p2 _).mono ?_
          rintro e wa137 ⟨rfl, hb3⟩
          go_wp2_with fail
          refine hK.out _ _ (keepB hHeld hb3) (fun hNew => ?_)
          replace Bf := Bf.keep hb3
          replace Bt := Bt.keep hb3
          clear hb3
          clear hHeld hK K
          have hHeld := hNew
          clear hNew
          try simp only [PPz]
          refine rdy1 16 rfl (fun K hK => ?_)
          go_simp
          refine (SQ.out _).mono ?_
          rintro e wa138 ⟨rfl, hb3⟩
          go_wp2_with fail
          refine hK.out _ _ (keepB hHeld hb3) (fun hNew => ?_)
          replace Bf := Bf.keep hb3
          replace Bt := Bt.keep hb3
          clear hb3
          clear hHeld hK K
          have hHeld := hNew
          clear hNew
          try simp only [PPz]
          refine rdy1 19 rfl (fun K hK => ?_)
          have n0 := Bf.c 0 rfl
          have f0 := Bf.f 0 rfl
          have n1 := Bf.c 1 rfl
          have f1 := Bf.f 1 rfl
          go_simp
          clear n0 f0 n1 f1
          refine hK.out _ _ (below_set (below_set hHeld (by omega) _) (by omega) _) (fun hNew => ?_)
          clear hHeld hK K
          have hHeld := hNew
          clear hNew
          try simp only [PPz]
          refine at_anyH (fun v => Below V.heap.size V v ∧ BK v wa0.heap.size [.int .i64 f1, .int .i64 f2] ∧ BK v wa119.heap.size [.int .i64 0, .int .i64 0]) ⟨hHeld, ((Bf.set 0 _).set 1 _), ((Bt.far (by omega) _ _).far (by omega) _ _)⟩ (fun wa139 hS => ?_)
          clear hHeld Bf Bt
          obtain ⟨hHeld, Bf, Bt⟩ := hS
          refine rdy1 20 rfl (fun K hK => ?_)
          have n0 := Bt.c 0 rfl
          have f0 := Bt.f 0 rfl
          have n1 := Bt.c 1 rfl
          have f1 := Bt.f 1 rfl
          go_simp
          clear n0 f0 n1 f1
          refine hK.out _ _ (below_set (below_set hHeld (by omega) _) (by omega) _) (fun hNew => ?_)
          clear hHeld hK K
          have hHeld := hNew
          clear hNew
          try simp only [PPz]
          refine at_anyH (fun v => Below V.heap.size V v ∧ BK v wa0.heap.size [.int .i64 f1, .int .i64 f2] ∧ BK v wa119.heap.size [.int .i64 t1, .int .i64 t2]) ⟨hHeld, ((Bf.far (by omega) _ _).far (by omega) _ _), ((Bt.set 0 _).set 1 _)⟩ (fun wa140 hS => ?_)
          clear hHeld Bf Bt
          obtain ⟨hHeld, Bf, Bt⟩ := hS
          refine wpAnyH_done (by kernel_rfl) ?_ _
          go_wp2_with fail
          go_meet
          exact ⟨_, _, rfl, rfl, hHeld, Bf, Bt⟩
      ·
        go_simp
        refine hK.out _ _ (below_al hHeld _) (fun hNew => ?_)
        have ht : V.heap.size ≤ wa118.heap.size := hHeld.size
        have dft := Bf.lt
        clear hHeld hK K
        have hHeld := hNew
        clear hNew
        try simp only [PPz]
        refine at_anyH (fun v => Below V.heap.size V v ∧ BK v wa0.heap.size [.int .i64 0, .int .i64 0] ∧ BK v wa118.heap.size [.int .i64 0, .int .i64 0]) ⟨hHeld, Bf.al _, BK.new _ _ _⟩ (fun wa141 hS => ?_)
        clear hHeld Bf
        obtain ⟨hHeld, Bf, Bt⟩ := hS
        refine rdy1 6 rfl (fun K hK => ?_)
        go_simp
        refine (OFF.out p1 _).mono ?_
        rintro e wa142 ⟨rfl, hb3⟩
        go_wp2_with fail
        refine hK.out _ _ (keepB hHeld hb3) (fun hNew => ?_)
        replace Bf := Bf.keep hb3
        replace Bt := Bt.keep hb3
        clear hb3
        clear hHeld hK K
        have hHeld := hNew
        clear hNew
        try simp only [PPz]
        refine rdy1 7 rfl (fun K hK => ?_)
        go_simp
        refine (LA.out _).mono ?_
        rintro e wa143 ⟨rfl, hb3⟩
        go_wp2_with fail
        refine hK.out _ _ (keepB hHeld hb3) (fun hNew => ?_)
        replace Bf := Bf.keep hb3
        replace Bt := Bt.keep hb3
        clear hb3
        clear hHeld hK K
        have hHeld := hNew
        clear hNew
        try simp only [PPz]
        refine rdy1 15 rfl (fun K hK => ?_)
        go_simp
        refine (OFF.out p2 _).mono ?_
        rintro e wa144 ⟨rfl, hb3⟩
        go_wp2_with fail
        refine hK.out _ _ (keepB hHeld hb3) (fun hNew => ?_)
        replace Bf := Bf.keep hb3
        replace Bt := Bt.keep hb3
        clear hb3
        clear hHeld hK K
        have hHeld := hNew
        clear hNew
        try simp only [PPz]
        refine rdy1 16 rfl (fun K hK => ?_)
        go_simp
        refine (SQ.out _).mono ?_
        rintro e wa145 ⟨rfl, hb3⟩
        go_wp2_with fail
        refine hK.out _ _ (keepB hHeld hb3) (fun hNew => ?_)
        replace Bf := Bf.keep hb3
        replace Bt := Bt.keep hb3
        clear hb3
        clear hHeld hK K
        have hHeld := hNew
        clear hNew
        try simp only [PPz]
        refine rdy1 19 rfl (fun K hK => ?_)
        have n0 := Bf.c 0 rfl
        have f0 := Bf.f 0 rfl
        have n1 := Bf.c 1 rfl
        have f1 := Bf.f 1 rfl
        go_simp
        clear n0 f0 n1 f1
        refine hK.out _ _ (below_set (below_set hHeld (by omega) _) (by omega) _) (fun hNew => ?_)
        clear hHeld hK K
        have hHeld := hNew
        clear hNew
        try simp only [PPz]
        refine at_anyH (fun v => Below V.heap.size V v ∧ BK v wa0.heap.size [.int .i64 f1, .int .i64 f2] ∧ BK v wa118.heap.size [.int .i64 0, .int .i64 0]) ⟨hHeld, ((Bf.set 0 _).set 1 _), ((Bt.far (by omega) _ _).far (by omega) _ _)⟩ (fun wa146 hS => ?_)
        clear hHeld Bf Bt
        obtain ⟨hHeld, Bf, Bt⟩ := hS
        refine rdy1 20 rfl (fun K hK => ?_)
        have n0 := Bt.c 0 rfl
        have f0 := Bt.f 0 rfl
        have n1 := Bt.c 1 rfl
        have f1 := Bt.f 1 rfl
        go_simp
        clear n0 f0 n1 f1
        refine hK.out _ _ (below_set (below_set hHeld (by omega) _) (by omega) _) (fun hNew => ?_)
        clear hHeld hK K
        have hHeld := hNew
        clear hNew
        try simp only [PPz]
        refine at_anyH (fun v => Below V.heap.size V v ∧ BK v wa0.heap.size [.int .i64 f1, .int .i64 f2] ∧ BK v wa118.heap.size [.int .i64 t1, .int .i64 t2]) ⟨hHeld, ((Bf.far (by omega) _ _).far (by omega) _ _), ((Bt.set 0 _).set 1 _)⟩ (fun wa147 hS => ?_)
        clear hHeld Bf Bt
        obtain ⟨hHeld, Bf, Bt⟩ := hS
        refine wpAnyH_done (by kernel_rfl) ?_ _
        go_wp2_with fail
        go_meet
        exact ⟨_, _, rfl, rfl, hHeld, Bf, Bt⟩
    ·
      go_simp
      refine hK.out _ _ (below_al hHeld _) (fun hNew => ?_)
      have ht : V.heap.size ≤ wa0.heap.size := hHeld.size
      clear hHeld hK K
      have hHeld := hNew
      clear hNew
      try simp only [PPz]
      refine at_anyH (fun v => Below V.heap.size V v ∧ BK v wa0.heap.size [.int .i64 0, .int .i64 0]) ⟨hHeld, BK.new _ _ _⟩ (fun wa148 hS => ?_)
      clear hHeld
      obtain ⟨hHeld, Bt⟩ := hS
      refine rdy2 6 17 rfl rfl (fun K hK => ?_) (fun K hK => ?_)
      ·
        go_simp
        refine (OFF.out p1 _).mono ?_
        rintro e wa149 ⟨rfl, hb3⟩
        go_wp2_with fail
        refine hK.out _ _ (keepB hHeld hb3) (fun hNew => ?_)
        replace Bt := Bt.keep hb3
        clear hb3
        clear hHeld hK K
        have hHeld := hNew
        clear hNew
        try simp only [PPz]
        refine rdy2 7 17 rfl rfl (fun K hK => ?_) (fun K hK => ?_)
        ·
          go_simp
          refine (LA.out _).mono ?_
          rintro e wa150 ⟨rfl, hb3⟩
          go_wp2_with fail
          refine hK.out _ _ (keepB hHeld hb3) (fun hNew => ?_)
          replace Bt := Bt.keep hb3
          clear hb3
          clear hHeld hK K
          have hHeld := hNew
          clear hNew
          try simp only [PPz]
          refine rdy2 15 17 rfl rfl (fun K hK => ?_) (fun K hK => ?_)
          ·
            go_simp
            refine (OFF.out p2 _).mono ?_
            rintro e wa151 ⟨rfl, hb3⟩
            go_wp2_with fail
            refine hK.out _ _ (keepB hHeld hb3) (fun hNew => ?_)
            replace Bt := Bt.keep hb3
            clear hb3
            clear hHeld hK K
            have hHeld := hNew
            clear hNew
            try simp only [PPz]
            refine rdy2 16 17 rfl rfl (fun K hK => ?_) (fun K hK => ?_)
            ·
              go_simp
              refine (SQ.out _).mono ?_
              rintro e wa152 ⟨rfl, hb3⟩
              go_wp2_with fail
              refine hK.out _ _ (keepB hHeld hb3) (fun hNew => ?_)
              replace Bt := Bt.keep hb3
              clear hb3
              clear hHeld hK K
              have hHeld := hNew
              clear hNew
              try simp only [PPz]
              refine rdy1 17 rfl (fun K hK => ?_)
              go_simp
              refine hK.out _ _ (below_al hHeld _) (fun hNew => ?_)
              have hf : V.heap.size ≤ wa152.heap.size := hHeld.size
              have dtf := Bt.lt
              clear hHeld hK K
              have hHeld := hNew
              clear hNew
              try simp only [PPz]
              refine at_anyH (fun v => Below V.heap.size V v ∧ BK v wa0.heap.size [.int .i64 0, .int .i64 0] ∧ BK v wa152.heap.size [.int .i64 0, .int .i64 0]) ⟨hHeld, Bt.al _, BK.new _ _ _⟩ (fun wa153 hS => ?_)
              clear hHeld Bt
              obtain ⟨hHeld, Bt, Bf⟩ := hS
              refine rdy1 19 rfl (fun K hK => ?_)
              have n0 := Bf.c 0 rfl
              have f0 := Bf.f 0 rfl
              have n1 := Bf.c 1 rfl
              have f1 := Bf.f 1 rfl
              go_simp
              clear n0 f0 n1 f1
              refine hK.out _ _ (below_set (below_set hHeld (by omega) _) (by omega) _) (fun hNew => ?_)
              clear hHeld hK K
              have hHeld := hNew
              clear hNew
              try simp only [PPz]
              refine at_anyH (fun v => Below V.heap.size V v ∧ BK v wa0.heap.size [.int .i64 0, .int .i64 0] ∧ BK v wa152.heap.size [.int .i64 f1, .int .i64 f2]) ⟨hHeld, ((Bt.far (by omega) _ _).far (by omega) _ _), ((Bf.set 0 _).set 1 _)⟩ (fun wa154 hS => ?_)
              clear hHeld Bt Bf
              obtain ⟨hHeld, Bt, Bf⟩ := hS
              refine rdy1 20 rfl (fun K hK => ?_)
              have n0 := Bt.c 0 rfl
              have f0 := Bt.f 0 rfl
              have n1 := Bt.c 1 rfl
              have f1 := Bt.f 1 rfl
              go_simp
              clear n0 f0 n1 f1
              refine hK.out _ _ (below_set (below_set hHeld (by omega) _) (by omega) _) (fun hNew => ?_)
              clear hHeld hK K
              have hHeld := hNew
              clear hNew
              try simp only [PPz]
              refine at_anyH (fun v => Below V.heap.size V v ∧ BK v wa0.heap.size [.int .i64 t1, .int .i64 t2] ∧ BK v wa152.heap.size [.int .i64 f1, .int .i64 f2]) ⟨hHeld, ((Bt.set 0 _).set 1 _), ((Bf.far (by omega) _ _).far (by omega) _ _)⟩ (fun wa155 hS => ?_)
              clear hHeld Bt Bf
              obtain ⟨hHeld, Bt, Bf⟩ := hS
              refine wpAnyH_done (by kernel_rfl) ?_ _
              go_wp2_with fail
              go_meet
              exact ⟨_, _, rfl, rfl, hHeld, Bf, Bt⟩
            ·
              go_simp
              refine hK.out _ _ (below_al hHeld _) (fun hNew => ?_)
              have hf : V.heap.size ≤ wa151.heap.size := hHeld.size
              have dtf := Bt.lt
              clear hHeld hK K
              have hHeld := hNew
              clear hNew
              try simp only [PPz]
              refine at_anyH (fun v => Below V.heap.size V v ∧ BK v wa0.heap.size [.int .i64 0, .int .i64 0] ∧ BK v wa151.heap.size [.int .i64 0, .int .i64 0]) ⟨hHeld, Bt.al _, BK.new _ _ _⟩ (fun wa156 hS => ?_)
              clear hHeld Bt
              obtain ⟨hHeld, Bt, Bf⟩ := hS
              refine rdy1 16 rfl (fun K hK => ?_)
              go_simp
              refine (SQ.out _).mono ?_
              rintro e wa157 ⟨rfl, hb3⟩
              go_wp2_with fail
              refine hK.out _ _ (keepB hHeld hb3) (fun hNew => ?_)
              replace Bt := Bt.keep hb3
              replace Bf := Bf.keep hb3
              clear hb3
              clear hHeld hK K
              have hHeld := hNew
              clear hNew
              try simp only [PPz]
              refine rdy1 19 rfl (fun K hK => ?_)
              have n0 := Bf.c 0 rfl
              have f0 := Bf.f 0 rfl
              have n1 := Bf.c 1 rfl
              have f1 := Bf.f 1 rfl
              go_simp
              clear n0 f0 n1 f1
              refine hK.out _ _ (below_set (below_set hHeld (by omega) _) (by omega) _) (fun hNew => ?_)
              clear hHeld hK K
              have hHeld := hNew
              clear hNew
              try simp only [PPz]
              refine at_anyH (fun v => Below V.heap.size V v ∧ BK v wa0.heap.size [.int .i64 0, .int .i64 0] ∧ BK v wa151.heap.size [.int .i64 f1, .int .i64 f2]) ⟨hHeld, ((Bt.far (by omega) _ _).far (by omega) _ _), ((Bf.set 0 _).set 1 _)⟩ (fun wa158 hS => ?_)
              clear hHeld Bt Bf
              obtain ⟨hHeld, Bt, Bf⟩ := hS
              refine rdy1 20 rfl (fun K hK => ?_)
              have n0 := Bt.c 0 rfl
              have f0 := Bt.f 0 rfl
              have n1 := Bt.c 1 rfl
              have f1 := Bt.f 1 rfl
              go_simp
              clear n0 f0 n1 f1
              refine hK.out _ _ (below_set (below_set hHeld (by omega) _) (by omega) _) (fun hNew => ?_)
              clear hHeld hK K
              have hHeld := hNew
              clear hNew
              try simp only [PPz]
              refine at_anyH (fun v => Below V.heap.size V v ∧ BK v wa0.heap.size [.int .i64 t1, .int .i64 t2] ∧ BK v wa151.heap.size [.int .i64 f1, .int .i64 f2]) ⟨hHeld, ((Bt.set 0 _).set 1 _), ((Bf.far (by omega) _ _).far (by omega) _ _)⟩ (fun wa159 hS => ?_)
              clear hHeld Bt Bf
              obtain ⟨hHeld, Bt, Bf⟩ := hS
              refine wpAnyH_done (by kernel_rfl) ?_ _
              go_wp2_with fail
              go_meet
              exact ⟨_, _, rfl, rfl, hHeld, Bf, Bt⟩
          ·
            go_simp
            refine hK.out _ _ (below_al hHeld _) (fun hNew => ?_)
            have hf : V.heap.size ≤ wa150.heap.size := hHeld.size
            have dtf := Bt.lt
            clear hHeld hK K
            have hHeld := hNew
            clear hNew
            try simp only [PPz]
            refine at_anyH (fun v => Below V.heap.size V v ∧ BK v wa0.heap.size [.int .i64 0, .int .i64 0] ∧ BK v wa150.heap.size [.int .i64 0, .int .i64 0]) ⟨hHeld, Bt.al _, BK.new _ _ _⟩ (fun wa160 hS => ?_)
            clear hHeld Bt
            obtain ⟨hHeld, Bt, Bf⟩ := hS
            refine rdy1 15 rfl (fun K hK => ?_)
            go_simp
            refine (OFF.out p2 _).mono ?_
            rintro e wa161 ⟨rfl, hb3⟩
            go_wp2_with fail
            refine hK.out _ _ (keepB hHeld hb3) (fun hNew => ?_)
            replace Bt := Bt.keep hb3
            replace Bf := Bf.keep hb3
            clear hb3
            clear hHeld hK K
            have hHeld := hNew
            clear hNew
            try simp only [PPz]
            refine rdy1 16 rfl (fun K hK => ?_)
            go_simp
            refine (SQ.out _).mono ?_
            rintro e wa162 ⟨rfl, hb3⟩
            go_wp2_with fail
            refine hK.out _ _ (keepB hHeld hb3) (fun hNew => ?_)
            replace Bt := Bt.keep hb3
            replace Bf := Bf.keep hb3
            clear hb3
            clear hHeld hK K
            have hHeld := hNew
            clear hNew
            try simp only [PPz]
            refine rdy1 19 rfl (fun K hK => ?_)
            have n0 := Bf.c 0 rfl
            have f0 := Bf.f 0 rfl
            have n1 := Bf.c 1 rfl
            have f1 := Bf.f 1 rfl
            go_simp
            clear n0 f0 n1 f1
            refine hK.out _ _ (below_set (below_set hHeld (by omega) _) (by omega) _) (fun hNew => ?_)
            clear hHeld hK K
            have hHeld := hNew
            clear hNew
            try simp only [PPz]
            refine at_anyH (fun v => Below V.heap.size V v ∧ BK v wa0.heap.size [.int .i64 0, .int .i64 0] ∧ BK v wa150.heap.size [.int .i64 f1, .int .i64 f2]) ⟨hHeld, ((Bt.far (by omega) _ _).far (by omega) _ _), ((Bf.set 0 _).set 1 _)⟩ (fun wa163 hS => ?_)
            clear hHeld Bt Bf
            obtain ⟨hHeld, Bt, Bf⟩ := hS
            refine rdy1 20 rfl (fun K hK => ?_)
            have n0 := Bt.c 0 rfl
            have f0 := Bt.f 0 rfl
            have n1 := Bt.c 1 rfl
            have f1 := Bt.f 1 rfl
            go_simp
            clear n0 f0 n1 f1
            refine hK.out _ _ (below_set (below_set hHeld (by omega) _) (by omega) _) (fun hNew => ?_)
            clear hHeld hK K
            have hHeld := hNew
            clear hNew
            try simp only [PPz]
            refine at_anyH (fun v => Below V.heap.size V v ∧ BK v wa0.heap.size [.int .i64 t1, .int .i64 t2] ∧ BK v wa150.heap.size [.int .i64 f1, .int .i64 f2]) ⟨hHeld, ((Bt.set 0 _).set 1 _), ((Bf.far (by omega) _ _).far (by omega) _ _)⟩ (fun wa164 hS => ?_)
            clear hHeld Bt Bf
            obtain ⟨hHeld, Bt, Bf⟩ := hS
            refine wpAnyH_done (by kernel_rfl) ?_ _
            go_wp2_with fail
            go_meet
            exact ⟨_, _, rfl, rfl, hHeld, Bf, Bt⟩
        ·
          go_simp
          refine hK.out _ _ (below_al hHeld _) (fun hNew => ?_)
          have hf : V.heap.size ≤ wa149.heap.size := hHeld.size
          have dtf := Bt.lt
          clear hHeld hK K
          have hHeld := hNew
          clear hNew
          try simp only [PPz]
          refine at_anyH (fun v => Below V.heap.size V v ∧ BK v wa0.heap.size [.int .i64 0, .int .i64 0] ∧ BK v wa149.heap.size [.int .i64 0, .int .i64 0]) ⟨hHeld, Bt.al _, BK.new _ _ _⟩ (fun wa165 hS => ?_)
          clear hHeld Bt
          obtain ⟨hHeld, Bt, Bf⟩ := hS
          refine rdy1 7 rfl (fun K hK => ?_)
          go_simp
          refine (LA.out _).mono ?_
          rintro e wa166 ⟨rfl, hb3⟩
          go_wp2_with fail
          refine hK.out _ _ (keepB hHeld hb3) (fun hNew => ?_)
          replace Bt := Bt.keep hb3
          replace Bf := Bf.keep hb3
          clear hb3
          clear hHeld hK K
          have hHeld := hNew
          clear hNew
          try simp only [PPz]
          refine rdy1 15 rfl (fun K hK => ?_)
          go_simp
          refine (OFF.out p2 _).mono ?_
          rintro e wa167 ⟨rfl, hb3⟩
          go_wp2_with fail
          refine hK.out _ _ (keepB hHeld hb3) (fun hNew => ?_)
          replace Bt := Bt.keep hb3
          replace Bf := Bf.keep hb3
          clear hb3
          clear hHeld hK K
          have hHeld := hNew
          clear hNew
          try simp only [PPz]
          refine rdy1 16 rfl (fun K hK => ?_)
          go_simp
          refine (SQ.out _).mono ?_
          rintro e wa168 ⟨rfl, hb3⟩
          go_wp2_with fail
          refine hK.out _ _ (keepB hHeld hb3) (fun hNew => ?_)
          replace Bt := Bt.keep hb3
          replace Bf := Bf.keep hb3
          clear hb3
          clear hHeld hK K
          have hHeld := hNew
          clear hNew
          try simp only [PPz]
          refine rdy1 19 rfl (fun K hK => ?_)
          have n0 := Bf.c 0 rfl
          have f0 := Bf.f 0 rfl
          have n1 := Bf.c 1 rfl
          have f1 := Bf.f 1 rfl
          go_simp
          clear n0 f0 n1 f1
          refine hK.out _ _ (below_set (below_set hHeld (by omega) _) (by omega) _) (fun hNew => ?_)
          clear hHeld hK K
          have hHeld := hNew
          clear hNew
          try simp only [PPz]
          refine at_anyH (fun v => Below V.heap.size V v ∧ BK v wa0.heap.size [.int .i64 0, .int .i64 0] ∧ BK v wa149.heap.size [.int .i64 f1, .int .i64 f2]) ⟨hHeld, ((Bt.far (by omega) _ _).far (by omega) _ _), ((Bf.set 0 _).set 1 _)⟩ (fun wa169 hS => ?_)
          clear hHeld Bt Bf
          obtain ⟨hHeld, Bt, Bf⟩ := hS
          refine rdy1 20 rfl (fun K hK => ?_)
          have n0 := Bt.c 0 rfl
          have f0 := Bt.f 0 rfl
          have n1 := Bt.c 1 rfl
          have f1 := Bt.f 1 rfl
          go_simp
          clear n0 f0 n1 f1
          refine hK.out _ _ (below_set (below_set hHeld (by omega) _) (by omega) _) (fun hNew => ?_)
          clear hHeld hK K
          have hHeld := hNew
          clear hNew
          try simp only [PPz]
          refine at_anyH (fun v => Below V.heap.size V v ∧ BK v wa0.heap.size [.int .i64 t1, .int .i64 t2] ∧ BK v wa149.heap.size [.int .i64 f1, .int .i64 f2]) ⟨hHeld, ((Bt.set 0 _).set 1 _), ((Bf.far (by omega) _ _).far (by omega) _ _)⟩ (fun wa170 hS => ?_)
          clear hHeld Bt Bf
          obtain ⟨hHeld, Bt, Bf⟩ := hS
          refine wpAnyH_done (by kernel_rfl) ?_ _
          go_wp2_with fail
          go_meet
          exact ⟨_, _, rfl, rfl, hHeld, Bf, Bt⟩
      ·
        go_simp
        refine hK.out _ _ (below_al hHeld _) (fun hNew => ?_)
        have hf : V.heap.size ≤ wa148.heap.size := hHeld.size
        have dtf := Bt.lt
        clear hHeld hK K
        have hHeld := hNew
        clear hNew
        try simp only [PPz]
        refine at_anyH (fun v => Below V.heap.size V v ∧ BK v wa0.heap.size [.int .i64 0, .int .i64 0] ∧ BK v wa148.heap.size [.int .i64 0, .int .i64 0]) ⟨hHeld, Bt.al _, BK.new _ _ _⟩ (fun wa171 hS => ?_)
        clear hHeld Bt
        obtain ⟨hHeld, Bt, Bf⟩ := hS
        refine rdy1 6 rfl (fun K hK => ?_)
        go_simp
        refine (OFF.out p1 _).mono ?_
        rintro e wa172 ⟨rfl, hb3⟩
        go_wp2_with fail
        refine hK.out _ _ (keepB hHeld hb3) (fun hNew => ?_)
        replace Bt := Bt.keep hb3
        replace Bf := Bf.keep hb3
        clear hb3
        clear hHeld hK K
        have hHeld := hNew
        clear hNew
        try simp only [PPz]
        refine rdy1 7 rfl (fun K hK => ?_)
        go_simp
        refine (LA.out _).mono ?_
        rintro e wa173 ⟨rfl, hb3⟩
        go_wp2_with fail
        refine hK.out _ _ (keepB hHeld hb3) (fun hNew => ?_)
        replace Bt := Bt.keep hb3
        replace Bf := Bf.keep hb3
        clear hb3
        clear hHeld hK K
        have hHeld := hNew
        clear hNew
        try simp only [PPz]
        refine rdy1 15 rfl (fun K hK => ?_)
        go_simp
        refine (OFF.out p2 _).mono ?_
        rintro e wa174 ⟨rfl, hb3⟩
        go_wp2_with fail
        refine hK.out _ _ (keepB hHeld hb3) (fun hNew => ?_)
        replace Bt := Bt.keep hb3
        replace Bf := Bf.keep hb3
        clear hb3
        clear hHeld hK K
        have hHeld := hNew
        clear hNew
        try simp only [PPz]
        refine rdy1 16 rfl (fun K hK => ?_)
        go_simp
        refine (SQ.out _).mono ?_
        rintro e wa175 ⟨rfl, hb3⟩
        go_wp2_with fail
        refine hK.out _ _ (keepB hHeld hb3) (fun hNew => ?_)
        replace Bt := Bt.keep hb3
        replace Bf := Bf.keep hb3
        clear hb3
        clear hHeld hK K
        have hHeld := hNew
        clear hNew
        try simp only [PPz]
        refine rdy1 19 rfl (fun K hK => ?_)
        have n0 := Bf.c 0 rfl
        have f0 := Bf.f 0 rfl
        have n1 := Bf.c 1 rfl
        have f1 := Bf.f 1 rfl
        go_simp
        clear n0 f0 n1 f1
        refine hK.out _ _ (below_set (below_set hHeld (by omega) _) (by omega) _) (fun hNew => ?_)
        clear hHeld hK K
        have hHeld := hNew
        clear hNew
        try simp only [PPz]
        refine at_anyH (fun v => Below V.heap.size V v ∧ BK v wa0.heap.size [.int .i64 0, .int .i64 0] ∧ BK v wa148.heap.size [.int .i64 f1, .int .i64 f2]) ⟨hHeld, ((Bt.far (by omega) _ _).far (by omega) _ _), ((Bf.set 0 _).set 1 _)⟩ (fun wa176 hS => ?_)
        clear hHeld Bt Bf
        obtain ⟨hHeld, Bt, Bf⟩ := hS
        refine rdy1 20 rfl (fun K hK => ?_)
        have n0 := Bt.c 0 rfl
        have f0 := Bt.f 0 rfl
        have n1 := Bt.c 1 rfl
        have f1 := Bt.f 1 rfl
        go_simp
        clear n0 f0 n1 f1
        refine hK.out _ _ (below_set (below_set hHeld (by omega) _) (by omega) _) (fun hNew => ?_)
        clear hHeld hK K
        have hHeld := hNew
        clear hNew
        try simp only [PPz]
        refine at_anyH (fun v => Below V.heap.size V v ∧ BK v wa0.heap.size [.int .i64 t1, .int .i64 t2] ∧ BK v wa148.heap.size [.int .i64 f1, .int .i64 f2]) ⟨hHeld, ((Bt.set 0 _).set 1 _), ((Bf.far (by omega) _ _).far (by omega) _ _)⟩ (fun wa177 hS => ?_)
        clear hHeld Bt Bf
        obtain ⟨hHeld, Bt, Bf⟩ := hS
        refine wpAnyH_done (by kernel_rfl) ?_ _
        go_wp2_with fail
        go_meet
        exact ⟨_, _, rfl, rfl, hHeld, Bf, Bt⟩
  case rest =>
    obtain ⟨pf, pt, rfl, rfl, hb2, Bf, Bt⟩ := hcut
    replace hbb := keepB hbb hb2
    replace B0 := B0.keep hb2
    replace B3 := B3.keep hb2
    replace hz0 := keepC hb2 hz0
    clear y0 y1 y2 a0 a1 z0 z1 hc0 hc1 hb2 B1 B2
    go_upto_region 2 with fail
    refine at_worldQ (fun v => Below w.heap.size w v ∧ BK v w.heap.size [.int .i64 len, .slice (some ⟨bk, ok, none⟩) nk ck, .slice (some ⟨bz, oz, none⟩) nz cz] ∧ BK v (w.heap.size + 3) [.int .i64 0, .int .i64 0] ∧ BK v pf [.int .i64 f1, .int .i64 f2] ∧ BK v pt [.int .i64 t1, .int .i64 t2] ∧ v.cell? ⟨bz, oz + i, none⟩ = some (.int .i64 dd)) ⟨hbb, B0, B3, Bf, Bt, hz0⟩ (fun V2 hS => ?_)
    clear hbb B0 B3 Bf Bt hz0
    obtain ⟨hbb, B0, B3, Bf, Bt, hz0⟩ := hS
    have b0 := Bf.c 0 rfl
    have b1 := Bf.c 1 rfl
    have e0 := Bt.c 0 rfl
    have e1 := Bt.c 1 rfl
    go_wp2_with fail
    refine (LS.out _).mono ?_
    rintro e w3 ⟨rfl, hb⟩
    replace hbb := keepB hbb hb
    replace B0 := B0.keep hb
    replace B3 := B3.keep hb
    replace Bf := Bf.keep hb
    replace Bt := Bt.keep hb
    replace hz0 := keepC hb hz0
    clear hb b0 b1 e0 e1 LS
    have b0 := Bf.c 0 rfl
    have b1 := Bf.c 1 rfl
    have e0 := Bt.c 0 rfl
    have e1 := Bt.c 1 rfl
    have y2 := B0.c 2 rfl
    have r0 := B3.c 0 rfl
    have r1 := B3.c 1 rfl
    have g0 := B3.f 0 rfl
    have g1 := B3.f 1 rfl
    have hw3 := hbb.size
    have hp3 := B3.lt
    cases lt with
    | false =>
      have hR2 := HR.out
      rw [if_pos (.inr (of_decide_eq_false HLT.out))] at hR2
      simp only [Prod.mk.injEq] at hR2
      obtain ⟨rfl, rfl, rfl⟩ := hR2
      go_wp2_with fail
      exact bodyPost_ret (v := .tuple #[.agg #[.int .i64 0, .int .i64 1], .int .i64 0]) (by simp [results, Tryz.results46, go_sem, r0, r1]) rfl ⟨rfl, below_set (below_set hbb (by omega) _) (by omega) _⟩
    | true =>
      by_cases hd0 : dd = 0
      · have hR2 := HR.out
        rw [if_pos (.inl hd0)] at hR2
        simp only [Prod.mk.injEq] at hR2
        obtain ⟨rfl, rfl, rfl⟩ := hR2
        have dz : (dd == 0) = true := by simp [hd0]
        go_wp2_with fail
        exact bodyPost_ret (v := .tuple #[.agg #[.int .i64 0, .int .i64 1], .int .i64 0]) (by simp [results, Tryz.results46, go_sem, r0, r1]) rfl ⟨rfl, below_set (below_set hbb (by omega) _) (by omega) _⟩
      · have hR2 := HR.out
        have hl := of_decide_eq_true HLT.out
        rw [if_neg (fun h => h.elim hd0 (fun h => h hl))] at hR2
        have dz : (dd == 0) = false := by simp [hd0]
        clear HLT HR hl
        go_upto_region 4 with fail
        go_wp2_with fail
        refine (SB.out _).mono ?_
        rintro e w4 ⟨rfl, hb⟩
        clear b0 b1 e0 e1 y2 r0 r1 g0 g1 SB
        replace hbb := keepB hbb hb
        replace B0 := B0.keep hb
        replace B3 := B3.keep hb
        replace hz0 := keepC hb hz0
        have hw4 := hbb.size
        have hw4b := B3.lt
        clear hb dz
        go_upto_region 5 with fail
        refine at_worldQ (fun v => Below w.heap.size w v ∧ BK v w.heap.size [.int .i64 len, .slice (some ⟨bk, ok, none⟩) nk ck, .slice (some ⟨bz, oz, none⟩) nz cz] ∧ BK v (w.heap.size + 3) [.int .i64 0, .int .i64 0] ∧ v.cell? ⟨bz, oz + i, none⟩ = some (.int .i64 dd) ∧ BK v w4.heap.size [.int .i64 s1, .int .i64 s2]) ⟨below_al hbb _, B0.al _, B3.al _, keepC (below_al (Below.refl _ _) _) hz0, BK.new _ _ _⟩ (fun V5 hS => ?_)
        clear hbb B0 B3 hz0 Bf Bt
        obtain ⟨hbb, B0, B3, hz0, BS⟩ := hS
        rcases SK.out with ⟨rfl, hok, -⟩ | he
        · rw [if_pos rfl] at hR2
          have ml := fun v => ML.out v hok
          rw [hR2] at ml
          have ML2 := Lib.hid ml
          clear ml hR2 ML
          have u0 := BS.c 0 rfl
          have u1 := BS.c 1 rfl
          have y2 := B0.c 2 rfl
          go_upto_region 7 with fail
          clear u0 u1 y2
          have u0 := BS.c 0 rfl
          have u1 := BS.c 1 rfl
          have y2 := B0.c 2 rfl
          have r0 := B3.c 0 rfl
          have r1 := B3.c 1 rfl
          have g0 := B3.f 0 rfl
          have g1 := B3.f 1 rfl
          have hus := BS.lt
          have hzl := lt_of_cell hz0
          refine at_worldQ (fun v => Below w.heap.size w v ∧ BK v w.heap.size [.int .i64 len, .slice (some ⟨bk, ok, none⟩) nk ck, .slice (some ⟨bz, oz, none⟩) nz cz] ∧ BK v (w.heap.size + 3) [.int .i64 0, .int .i64 0] ∧ v.cell? ⟨bz, oz + i, none⟩ = some (.int .i64 dd) ∧ BK v w4.heap.size [.int .i64 s1, .int .i64 s2]) ⟨hbb, B0, B3, hz0, BS⟩ (fun V7 hS => ?_)
          clear hbb B0 B3 hz0 BS u0 u1 y2 r0 r1 g0 g1
          obtain ⟨hbb, B0, Br, hz0, BS⟩ := hS
          have u0 := BS.c 0 rfl
          have u1 := BS.c 1 rfl
          have y2 := B0.c 2 rfl
          refine wp_region_noPanic ?_
          refine wp_region_held_drew (S := (GB (fun k => k = w.heap.size + 3) V7)) (by kernel_rfl) ((GB.refl _ _).drew) (fun hHeld => ?_)
          refine at_anyH (fun v => GB (fun k => k = w.heap.size + 3) V7 v ∧ BK v ((w.heap.size + 3)) [.int .i64 0, .int .i64 0]) ⟨hHeld, Br.drew⟩ (fun wm0 hNew => ?_)
          clear hHeld Br
          obtain ⟨hHeld, Br⟩ := hNew
          refine tkn 0 ?vm1 rfl ?hym1 hHeld ?restm1
          case hym1 => (intro w hSw; have ku0 := hSw.cell (by omega) u0; have ku1 := hSw.cell (by omega) u1; have ky2 := hSw.cell (by omega) y2; have khz0 := hSw.cell (by omega) hz0; go_simp; first | done | (with_reducible rfl))
          try simp only [PPz]
          refine tkn 1 ?vm2 rfl ?hym2 hHeld ?restm2
          case hym2 => (intro w hSw; go_simp; first | done | (with_reducible rfl))
          try simp only [PPz]
          refine tkn 2 ?vm3 rfl ?hym3 hHeld ?restm3
          case hym3 => (intro w hSw; have ku0 := hSw.cell (by omega) u0; have ku1 := hSw.cell (by omega) u1; have ky2 := hSw.cell (by omega) y2; have khz0 := hSw.cell (by omega) hz0; go_simp; first | done | (with_reducible rfl))
          try simp only [PPz]
          refine tkn 3 ?vm4 rfl ?hym4 hHeld ?restm4
          case hym4 => (intro w hSw; go_simp; first | done | (with_reducible rfl))
          try simp only [PPz]
          refine tkn 4 ?vm5 rfl ?hym5 hHeld ?restm5
          case hym5 => (intro w hSw; go_simp; first | done | (with_reducible rfl))
          try simp only [PPz]
          refine tkn 5 ?vm6 rfl ?hym6 hHeld ?restm6
          case hym6 => (intro w hSw; have ku0 := hSw.cell (by omega) u0; have ku1 := hSw.cell (by omega) u1; have ky2 := hSw.cell (by omega) y2; have khz0 := hSw.cell (by omega) hz0; go_simp; first | done | (with_reducible rfl))
          try simp only [PPz]
          refine rdy1 6 rfl (fun K hK => ?_)
          go_simp
          refine (OFF.out dd _).mono ?_
          rintro e wm7 ⟨rfl, hb3⟩
          go_wp2_with fail
          refine hK.out _ _ (hHeld.below hb3) (fun hNew => ?_)
          replace Br := Br.keep hb3
          clear hb3
          clear hHeld hK K
          have hHeld := hNew
          clear hNew
          try simp only [PPz]
          refine rdy1 7 rfl (fun K hK => ?_)
          go_simp
          refine (ML2.out _).mono ?_
          rintro e wm8 ⟨rfl, hb3⟩
          go_wp2_with fail
          refine hK.out _ _ (hHeld.below hb3) (fun hNew => ?_)
          replace Br := Br.keep hb3
          clear hb3
          clear hHeld hK K
          have hHeld := hNew
          clear hNew
          try simp only [PPz]
          refine tkn 8 ?vm9 rfl ?hym9 hHeld ?restm9
          case hym9 => (intro w hSw; go_simp; first | done | (with_reducible rfl))
          try simp only [PPz]
          refine tkn 9 ?vm10 rfl ?hym10 hHeld ?restm10
          case hym10 => (intro w hSw; go_simp; first | done | (with_reducible rfl))
          try simp only [PPz]
          refine rdy1 10 rfl (fun K hK => ?_)
          have n0 := Br.c 0 rfl
          have f0 := Br.f 0 rfl
          have n1 := Br.c 1 rfl
          have f1 := Br.f 1 rfl
          go_simp
          clear n0 f0 n1 f1
          refine hK.out _ _ ((hHeld.set (.inl rfl) _).set (.inl rfl) _) (fun hNew => ?_)
          clear hHeld hK K
          have hHeld := hNew
          clear hNew
          try simp only [PPz]
          refine at_anyH (fun v => GB (fun k => k = w.heap.size + 3) V7 v ∧ BK v ((w.heap.size + 3)) [.int .i64 R1, .int .i64 R2]) ⟨hHeld, ((Br.set 0 _).set 1 _)⟩ (fun wm11 hS => ?_)
          clear hHeld Br
          obtain ⟨hHeld, Br⟩ := hS
          refine tkn 11 ?vm12 rfl ?hym12 hHeld ?restm12
          case hym12 => (intro w hSw; go_simp; first | done | (with_reducible rfl))
          try simp only [PPz]
          refine wpAnyH_done (by kernel_rfl) ?_ _
          refine NoPanic.normal ?_
          have hbb2 := hHeld.toBelow hbb (fun k hk => by omega) hbb.size
          have r0 := Br.c 0 rfl
          have r1 := Br.c 1 rfl
          go_wp2_with fail
          try rw [Exit.noGoto_ret]
          exact bodyPost_ret (v := .tuple #[.agg #[.int .i64 R1, .int .i64 R2], .int .i64 R3]) (by simp [results, Tryz.results46, go_sem, r0, r1]) rfl ⟨rfl, hbb2⟩
        · simp only [Prod.mk.injEq] at he
          obtain ⟨rfl, rfl, rfl⟩ := he
          rw [if_neg (by decide)] at hR2
          simp only [Prod.mk.injEq] at hR2
          obtain ⟨rfl, rfl, rfl⟩ := hR2
          have r0 := B3.c 0 rfl
          have r1 := B3.c 1 rfl
          have g0 := B3.f 0 rfl
          have g1 := B3.f 1 rfl
          go_wp2_with fail
          exact bodyPost_ret (v := .tuple #[.agg #[.int .i64 0, .int .i64 0], .int .i64 16]) (by simp [results, Tryz.results46, go_sem, r0, r1]) rfl ⟨rfl, below_set (below_set hbb (by omega) _) (by omega) _⟩

end Go.Proofs.YtpcdggkajindbaaGreat

