/- Package piece's sum of a measure over spans, and Length. -/
import Derived.Test.YtnnpmegknlgkoaaPhas
namespace Go.Proofs.Ytnnpmegknlgkoaa
open Go.RowKit
namespace Pc
/-- The sum of a measure, from an accumulated ratio on. -/
def sumF (mf : Rat × Rat → Int × Int × Int) : List (Rat × Rat) → Int → Int → Int × Int × Int
  | [], a, b => (a, b, 0)
  | s :: l, a, b => if (mf s).2.2 = 0 then (if (Rp.addS a b (mf s).1 (mf s).2.1).2.2 = 0 then sumF mf l (Rp.addS a b (mf s).1 (mf s).2.1).1 (Rp.addS a b (mf s).1 (mf s).2.1).2.1 else (0, 0, (Rp.addS a b (mf s).1 (mf s).2.1).2.2)) else (0, 0, (mf s).2.2)
theorem low_bd (n d : Int) : I64 (Rp.low n d).1 ∧ I64 (Rp.low n d).2.1 ∧ (0 ≤ (Rp.low n d).2.2 ∧ (Rp.low n d).2.2 ≤ 18) := by
  unfold Rp.low
  split
  · unfold I64; dsimp only; omega
  · unfold I64; dsimp only; omega
theorem addS_bd (a b c d : Int) : I64 (Rp.addS a b c d).1 ∧ I64 (Rp.addS a b c d).2.1 := by
  unfold Rp.addS
  split
  · exact ⟨(low_bd _ _).1, (low_bd _ _).2.1⟩
  · unfold I64; dsimp only; omega
theorem subS_bd (a b c d : Int) : I64 (Rp.subS a b c d).1 ∧ I64 (Rp.subS a b c d).2.1 := by
  unfold Rp.subS
  split
  · exact ⟨(low_bd _ _).1, (low_bd _ _).2.1⟩
  · unfold I64; dsimp only; omega
end Pc
set_option linter.unusedSimpArgs false in
set_option maxHeartbeats 8000000 in
set_option maxRecDepth 100000 in
theorem sum_any (g : FuncId) (mf : Rat × Rat → Int × Int × Int) (A : Option Addr) (cap : Nat) (L : List (Rat × Rat)) (w : World) (hl : L.length ≤ 1000) (h : IsS w A (L.map Pc.raw))
    (hM : ∀ s ∈ L, ∀ v, Calls Try.prog g #[.agg #[.int .i64 s.1.num, .int .i64 (s.1.den : Int), .int .i64 s.2.num, .int .i64 (s.2.den : Int)]] v fun e w' => e = .returned (.tuple #[.agg #[.int .i64 (mf s).1, .int .i64 (mf s).2.1], .int .i64 (mf s).2.2]) ∧ Below v.heap.size v w')
    (hE : ∀ (x : Value) (v : World), Sem.run Try.prog (callFunc g #[x]) v = .ok (.enter g #[x]) v) (hB : ∀ s ∈ L, I64 (mf s).1 ∧ I64 (mf s).2.1) :
    Calls Try.prog 50 #[.slice A L.length cap, .func (.func g) #[] #[]] w fun e w' => e = .returned (.tuple #[.agg #[.int .i64 (Pc.sumF mf L 0 1).1, .int .i64 (Pc.sumF mf L 0 1).2.1], .int .i64 (Pc.sumF mf L 0 1).2.2]) ∧ Below w.heap.size w w' := by
  obtain ⟨b, off, hA, hc⟩ := h.cell
  have HC := Lib.hid hc
  have HA := Lib.hid hA
  have HMM := Lib.hid (show ∀ k, k < L.length → (∀ v, Calls Try.prog g #[.agg #[.int .i64 (Pc.sat L k).1.num, .int .i64 ((Pc.sat L k).1.den : Int), .int .i64 (Pc.sat L k).2.num, .int .i64 ((Pc.sat L k).2.den : Int)]] v fun e w' => e = .returned (.tuple #[.agg #[.int .i64 (mf (Pc.sat L k)).1, .int .i64 (mf (Pc.sat L k)).2.1], .int .i64 (mf (Pc.sat L k)).2.2]) ∧ Below v.heap.size v w') ∧ I64 (mf (Pc.sat L k)).1 ∧ I64 (mf (Pc.sat L k)).2.1 from fun k hk => by
    rw [Pc.sat_lt hk]
    exact ⟨hM _ (List.getElem_mem hk), hB _ (List.getElem_mem hk)⟩)
  have HE := Lib.hid hE
  obtain ⟨R, hR⟩ : ∃ R, Pc.sumF mf L 0 1 = R := ⟨_, rfl⟩
  rw [hR]
  obtain ⟨R1, R2, R3⟩ := R
  dsimp only
  have HR := Lib.hid hR
  clear h hc hA hM hE hB hR
  go_enter Try.func50, Try.ntmps50
  go_upto_region 2 with fail
  refine at_worldQ (fun v => Below w.heap.size w v ∧ BK v w.heap.size [.int .i64 0, .int .i64 0] ∧ BK v (w.heap.size + 1) [.int .i64 0, .int .i64 1]) ⟨below_al (below_al (Below.refl _ _) _) _, (BK.new w [.int .i64 0, .int .i64 0] _).al _, by have b := BK.new (w.alloc (.cells #[.int .i64 0, .int .i64 0] 23)) [.int .i64 0, .int .i64 1] 23; simpa only [World.size_alloc] using b⟩ (fun V hS => ?_)
  go_wp2_with fail
  go_loopw [8, 9, 10, 14] (fun _ _ _ i W => ∃ (k : Nat) (a c : Int), k ≤ L.length ∧ i = .int .i64 k ∧ Pc.sumF mf (L.drop k) a c = (R1, R2, R3) ∧ (I64 a ∧ I64 c) ∧ Below w.heap.size w W ∧ BK W w.heap.size [.int .i64 0, .int .i64 0] ∧ BK W (w.heap.size + 1) [.int .i64 a, .int .i64 c]) (fun _ _ _ i _ => L.length - (intOf i).toNat)
  case atStart => exact ⟨0, 0, 1, Nat.zero_le _, rfl, HR.out, ⟨⟨by decide, by decide⟩, by decide, by decide⟩, hS.1, hS.2.1, hS.2.2⟩
  case round =>
    clear hS HR
    obtain ⟨k, a, c, hk, rfl, hsum, ⟨ha, hcc⟩, hbb, B0, B1⟩ := hrel
    by_cases hlt : k < L.length
    · have hA' := HA.out (by omega)
      subst hA'
      obtain ⟨s, hs⟩ : ∃ s, Pc.sat L k = s := ⟨_, rfl⟩
      have c0 := keepC hbb (HC.out k hlt).1
      have c1 := keepC hbb (HC.out k hlt).2.1
      have c2 := keepC hbb (HC.out k hlt).2.2.1
      have c3 := keepC hbb (HC.out k hlt).2.2.2
      obtain ⟨hm, hm1, hm2⟩ := HMM.out k hlt
      have hdr : L.drop k = s :: L.drop (k + 1) := by rw [List.drop_eq_getElem_cons hlt, ← Pc.sat_lt hlt, hs]
      rw [hdr] at hsum
      rw [hs] at c0 c1 c2 c3 hm hm1 hm2
      unfold Pc.sumF at hsum
      have hcf := HE.out (.agg #[.int .i64 s.1.num, .int .i64 (s.1.den : Int), .int .i64 s.2.num, .int .i64 (s.2.den : Int)])
      have ad := fun v => Add_any a c (mf s).1 (mf s).2.1 v ha.1 ha.2 hcc.1 hcc.2 hm1.1 hm1.2 hm2.1 hm2.2
      have hab := Pc.addS_bd a c (mf s).1 (mf s).2.1
      generalize Rp.addS a c (mf s).1 (mf s).2.1 = T at *
      obtain ⟨T1, T2, T3⟩ := T
      generalize mf s = M at *
      obtain ⟨M1, M2, M3⟩ := M
      dsimp only at hm ad hsum hab
      have HM := Lib.hid hm
      have AD := Lib.hid ad
      have HAB := Lib.hid hab
      have HSUM := Lib.hid hsum
      clear hm ad hs hdr hm1 hm2 ha hcc hab hsum
      have i1 : (0 : Int) ≤ (k : Int) := by omega
      have i2 : (k : Int) < (L.length : Int) := by omega
      go_upto_region 5 with fail
      refine at_worldQ (fun v => Below w.heap.size w v ∧ BK v w.heap.size [.int .i64 0, .int .i64 0] ∧ BK v (w.heap.size + 1) [.int .i64 a, .int .i64 c] ∧ BK v wr.heap.size [.int .i64 s.1.num, .int .i64 (s.1.den : Int), .int .i64 s.2.num, .int .i64 (s.2.den : Int)]) ⟨below_al hbb _, B0.al _, B1.al _, BK.new wr [.int .i64 s.1.num, .int .i64 (s.1.den : Int), .int .i64 s.2.num, .int .i64 (s.2.den : Int)] _⟩ (fun V5 hS5 => ?_)
      clear hbb B0 B1 c0 c1 c2 c3
      obtain ⟨hbb, B0, B1, B8⟩ := hS5
      have p0 := B8.c 0 rfl
      have p1 := B8.c 1 rfl
      have p2 := B8.c 2 rfl
      have p3 := B8.c 3 rfl
      generalize wr.heap.size = P8 at *
      clear B8
      go_wp2_with fail
      refine (HM.out _).mono ?_
      rintro e w5 ⟨rfl, hb5⟩
      replace hbb := keepB hbb hb5
      replace B0 := B0.keep hb5
      replace B1 := B1.keep hb5
      clear hb5 HM p0 p1 p2 p3 hcf
      go_upto_region 6 with fail
      refine at_worldQ (fun v => Below w.heap.size w v ∧ BK v w.heap.size [.int .i64 0, .int .i64 0] ∧ BK v (w.heap.size + 1) [.int .i64 a, .int .i64 c] ∧ BK v w5.heap.size [.int .i64 M1, .int .i64 M2]) ⟨below_al hbb _, B0.al _, B1.al _, BK.new w5 [.int .i64 M1, .int .i64 M2] _⟩ (fun V6 hS6 => ?_)
      clear hbb B0 B1
      obtain ⟨hbb, B0, B1, B9⟩ := hS6
      generalize w5.heap.size = P9 at *
      by_cases hM3 : M3 = 0
      · subst hM3
        have e0 : ((0 : Int) == 0) = true := rfl
        have q0 := B9.c 0 rfl
        have q1 := B9.c 1 rfl
        have t0 := B1.c 0 rfl
        have t1 := B1.c 1 rfl
        go_wp2_with fail
        refine (AD.out _).mono ?_
        rintro e w7 ⟨rfl, hb7⟩
        replace hbb := keepB hbb hb7
        replace B0 := B0.keep hb7
        replace B1 := B1.keep hb7
        clear hb7 AD q0 q1 t0 t1 B9
        have t0 := B1.c 0 rfl
        have t1 := B1.c 1 rfl
        have g0 := B1.f 0 rfl
        have g1 := B1.f 1 rfl
        go_upto_region 8 with fail
        refine at_worldQ (fun v => Below w.heap.size w v ∧ BK v w.heap.size [.int .i64 0, .int .i64 0] ∧ BK v (w.heap.size + 1) [.int .i64 T1, .int .i64 T2]) ⟨below_set (below_set hbb (by omega) _) (by omega) _, (B0.far (by omega) _ _).far (by omega) _ _, (B1.set 0 _).set 1 _⟩ (fun V8 hS8 => ?_)
        clear hbb B0 B1 t0 t1 g0 g1
        obtain ⟨hbb, B0, B1⟩ := hS8
        by_cases hT : T3 = 0
        · subst hT
          have hs2 := HSUM.out
          simp only [↓reduceIte] at hs2
          have HS2 := Lib.hid hs2
          have e1 : ((0 : Int) != 0) = false := rfl
          clear hs2 HSUM
          go_wp2_with fail
          go_roundw
          case rel => exact ⟨k + 1, T1, T2, by omega, by go_num, HS2.out, HAB.out, hbb, B0, B1⟩
          case measure => simp [intOf]; omega
        · have hs2 := HSUM.out
          simp only [↓reduceIte, if_neg hT] at hs2
          have EB := Lib.hid hs2.symm
          have e1 : (T3 != 0) = true := by rw [bne_iff_ne]; exact hT
          clear hs2 HSUM hT
          have r0 := B0.c 0 rfl
          have r1 := B0.c 1 rfl
          have f0 := B0.f 0 rfl
          have f1 := B0.f 1 rfl
          go_wp2_with fail
          exact bodyPost_ret (v := .tuple #[.agg #[.int .i64 0, .int .i64 0], .int .i64 T3]) (by simp [results, Try.results50, go_sem, r0, r1]) rfl ⟨by have e := EB.out; simp only [Prod.mk.injEq] at e; obtain ⟨e1', e2', e3'⟩ := e; rw [e1', e2', e3'], below_set (below_set hbb (Nat.le_refl _) _) (Nat.le_refl _) _⟩
      · have hs2 := HSUM.out
        rw [if_neg hM3] at hs2
        have EB := Lib.hid hs2.symm
        have e0 : (M3 == 0) = false := by rw [beq_eq_false_iff_ne]; exact hM3
        have e1 : (M3 != 0) = true := by rw [bne_iff_ne]; exact hM3
        clear hs2 HSUM hM3
        have r0 := B0.c 0 rfl
        have r1 := B0.c 1 rfl
        have f0 := B0.f 0 rfl
        have f1 := B0.f 1 rfl
        go_wp2_with fail
        exact bodyPost_ret (v := .tuple #[.agg #[.int .i64 0, .int .i64 0], .int .i64 M3]) (by simp [results, Try.results50, go_sem, r0, r1]) rfl ⟨by have e := EB.out; simp only [Prod.mk.injEq] at e; obtain ⟨e1', e2', e3'⟩ := e; rw [e1', e2', e3'], below_set (below_set hbb (Nat.le_refl _) _) (Nat.le_refl _) _⟩
    · obtain rfl : k = L.length := by omega
      rw [List.drop_length] at hsum
      have EB := Lib.hid hsum
      have t0 := B1.c 0 rfl
      have t1 := B1.c 1 rfl
      have r0 := B0.c 0 rfl
      have r1 := B0.c 1 rfl
      have f0 := B0.f 0 rfl
      have f1 := B0.f 1 rfl
      clear HA HC HMM HE hsum
      go_wp2_with fail
      have e := EB.out
      unfold Pc.sumF at e
      simp only [Prod.mk.injEq] at e
      obtain ⟨rfl, rfl, rfl⟩ := e
      exact bodyPost_ret (v := .tuple #[.agg #[.int .i64 a, .int .i64 c], .int .i64 0]) (by simp [results, Try.results50, go_sem, r0, r1]) rfl ⟨rfl, below_set (below_set hbb (Nat.le_refl _) _) (Nat.le_refl _) _⟩
namespace Pc
def lenM (s : Rat × Rat) : Int × Int × Int := Rp.subS s.2.num (s.2.den : Int) s.1.num (s.1.den : Int)
/-- Length's answer and error. -/
def lenS (xs : List Raw) : Int × Int × Int := if chk xs = 0 then sumF lenM (xs.map toQ) 0 1 else (0, 0, chk xs)
end Pc
set_option maxHeartbeats 2000000 in
theorem len1_any (s : Rat × Rat) (w : World) (h1 : Pc.Fit s.1) (h2 : Pc.Fit s.2) :
    Calls Try.prog 62 #[.agg #[.int .i64 s.1.num, .int .i64 (s.1.den : Int), .int .i64 s.2.num, .int .i64 (s.2.den : Int)]] w fun e w' => e = .returned (.tuple #[.agg #[.int .i64 (Pc.lenM s).1, .int .i64 (Pc.lenM s).2.1], .int .i64 (Pc.lenM s).2.2]) ∧ Below w.heap.size w w' := by
  have b1 := Pc.fit_bd h1
  have b2 := Pc.fit_bd h2
  have SB := (fun v => Sub_any s.2.num (s.2.den : Int) s.1.num (s.1.den : Int) v (by omega) (by omega) (by omega) (by omega) (by omega) (by omega) (by omega) (by omega))
  have e : Rp.subS s.2.num (s.2.den : Int) s.1.num (s.1.den : Int) = Pc.lenM s := rfl
  rw [e] at SB
  clear e
  generalize Pc.lenM s = R at *
  obtain ⟨R1, R2, R3⟩ := R
  dsimp only at SB
  have SS := Lib.hid SB
  dsimp only
  clear b1 b2 SB h1 h2
  go_enter Try.func62, Try.ntmps62
  go_upto_region 1 with fail
  refine at_worldQ (fun v => Below w.heap.size w v ∧ BK v w.heap.size [.int .i64 s.1.num, .int .i64 (s.1.den : Int), .int .i64 s.2.num, .int .i64 (s.2.den : Int)] ∧ BK v (w.heap.size + 1) [.int .i64 0, .int .i64 0]) ⟨below_al (below_al (Below.refl _ _) _) _, (BK.new w [.int .i64 s.1.num, .int .i64 (s.1.den : Int), .int .i64 s.2.num, .int .i64 (s.2.den : Int)] _).al _, by have b := BK.new (w.alloc (.cells #[.int .i64 s.1.num, .int .i64 (s.1.den : Int), .int .i64 s.2.num, .int .i64 (s.2.den : Int)] 25)) [.int .i64 0, .int .i64 0] 23; simpa only [World.size_alloc] using b⟩ (fun V hS => ?_)
  obtain ⟨hbb, B1, B2⟩ := hS
  have p0 := B1.c 0 rfl
  have p1 := B1.c 1 rfl
  have p2 := B1.c 2 rfl
  have p3 := B1.c 3 rfl
  go_wp2_with fail
  refine (SS.out _).mono ?_
  rintro e w1 ⟨rfl, hb1⟩
  replace hbb := keepB hbb hb1
  replace B2 := B2.keep hb1
  clear hb1 B1 p0 p1 p2 p3
  have r0 := B2.c 0 rfl
  have r1 := B2.c 1 rfl
  have f0 := B2.f 0 rfl
  have f1 := B2.f 1 rfl
  go_wp2_with fail
  exact bodyPost_ret (v := .tuple #[.agg #[.int .i64 R1, .int .i64 R2], .int .i64 R3]) (by simp [results, Try.results62, go_sem, r0, r1]) rfl ⟨rfl, below_set (below_set hbb (by omega) _) (by omega) _⟩
set_option linter.unusedSimpArgs false in
set_option maxHeartbeats 2000000 in
theorem pLength_any (A : Option Addr) (cap : Nat) (xs : List Raw) (w : World) (h : IsS w A xs) :
    Calls Try.prog 17 #[.slice A xs.length cap] w fun e w' => e = .returned (.tuple #[.agg #[.int .i64 (Pc.lenS xs).1, .int .i64 (Pc.lenS xs).2.1], .int .i64 (Pc.lenS xs).2.2]) ∧ Below w.heap.size w w' := by
  have ck := fun v (hv : Below w.heap.size w v) => pChk_any A cap xs v (h.keep hv)
  by_cases hx : Pc.chk xs = 0
  · rw [hx] at ck
    obtain ⟨L, rfl, gL⟩ := Pc.chk_good hx
    have hv : Pc.lenS (L.map Pc.raw) = Pc.sumF Pc.lenM L 0 1 := by unfold Pc.lenS; rw [if_pos hx, Pc.map_toQ_raw]
    rw [hv]
    rw [List.length_map] at ck ⊢
    have SU := fun v (hv : Below w.heap.size w v) => sum_any 62 Pc.lenM A cap L v (by have := gL.len; omega) (h.keep hv) (fun s hs v => by
      obtain ⟨k, hk, rfl⟩ := List.mem_iff_getElem.1 hs
      have hm := Pc.mem_ends1 hk
      rw [Pc.sat_lt hk] at hm
      exact len1_any _ v (gL.fit _ hm.1) (gL.fit _ hm.2)) (fun x v => by go_simp) (fun s hs => Pc.subS_bd _ _ _ _)
    generalize Pc.sumF Pc.lenM L 0 1 = R at *
    obtain ⟨R1, R2, R3⟩ := R
    dsimp only at SU ⊢
    have CK := Lib.hid ck
    have SS := Lib.hid SU
    clear ck hx hv h gL SU
    go_enter Try.func17, Try.ntmps17
    go_upto_region 1 with fail
    refine at_worldQ (fun v => Below w.heap.size w v ∧ BK v w.heap.size [.int .i64 0, .int .i64 0]) ⟨below_al (Below.refl _ _) _, BK.new w [.int .i64 0, .int .i64 0] _⟩ (fun V hS => ?_)
    obtain ⟨hbb, B2⟩ := hS
    go_wp2_with fail
    refine (CK.out _ hbb).mono ?_
    rintro e w1 ⟨rfl, hb1⟩
    replace hbb := keepB hbb hb1
    replace B2 := B2.keep hb1
    clear hb1
    go_wp2_with fail
    refine (SS.out _ hbb).mono ?_
    rintro e w2 ⟨rfl, hb1⟩
    replace hbb := keepB hbb hb1
    replace B2 := B2.keep hb1
    clear hb1
    have r0 := B2.c 0 rfl
    have r1 := B2.c 1 rfl
    have f0 := B2.f 0 rfl
    have f1 := B2.f 1 rfl
    go_wp2_with fail
    exact bodyPost_ret (v := .tuple #[.agg #[.int .i64 R1, .int .i64 R2], .int .i64 R3]) (by simp [results, Try.results17, go_sem, r0, r1]) rfl ⟨rfl, below_set (below_set hbb (Nat.le_refl _) _) (Nat.le_refl _) _⟩
  · have hv : Pc.lenS xs = (0, 0, Pc.chk xs) := by unfold Pc.lenS; rw [if_neg hx]
    rw [hv]
    have n1 : (Pc.chk xs != 0) = true := by rw [bne_iff_ne]; exact hx
    generalize Pc.chk xs = c at *
    have CK := Lib.hid ck
    clear ck hx hv h
    dsimp only
    go_enter Try.func17, Try.ntmps17
    go_upto_region 1 with fail
    refine at_worldQ (fun v => Below w.heap.size w v ∧ BK v w.heap.size [.int .i64 0, .int .i64 0]) ⟨below_al (Below.refl _ _) _, BK.new w [.int .i64 0, .int .i64 0] _⟩ (fun V hS => ?_)
    obtain ⟨hbb, B2⟩ := hS
    go_wp2_with fail
    refine (CK.out _ hbb).mono ?_
    rintro e w1 ⟨rfl, hb1⟩
    replace hbb := keepB hbb hb1
    replace B2 := B2.keep hb1
    clear hb1
    have r0 := B2.c 0 rfl
    have r1 := B2.c 1 rfl
    have f0 := B2.f 0 rfl
    have f1 := B2.f 1 rfl
    go_wp2_with fail
    exact bodyPost_ret (v := .tuple #[.agg #[.int .i64 0, .int .i64 0], .int .i64 c]) (by simp [results, Try.results17, go_sem, r0, r1]) rfl ⟨rfl, below_set (below_set hbb (Nat.le_refl _) _) (Nat.le_refl _) _⟩
end Go.Proofs.Ytnnpmegknlgkoaa
