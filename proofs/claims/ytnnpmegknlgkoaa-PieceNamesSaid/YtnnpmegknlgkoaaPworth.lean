/- Package piece's Worth of pieces that lie in a cake; the reference's Within. -/
import Derived.Test.YtnnpmegknlgkoaaPsums
import Derived.Test.YtnnpmegknlgkoaaValue
import Derived.Test.YtnnpmegknlgkoaaPoint
namespace Go.Proofs.Ytnnpmegknlgkoaa
open Go.RowKit
set_option linter.unusedSimpArgs false in
set_option maxHeartbeats 8000000 in
set_option maxRecDepth 100000 in
theorem sum1_any (g : FuncId) (cv : Value) (mf : Rat × Rat → Int × Int × Int) (A : Option Addr) (cap : Nat) (L : List (Rat × Rat)) (w : World) (hl : L.length ≤ 1000) (h : IsS w A (L.map Pc.raw))
    (hM : ∀ s ∈ L, ∀ v, Below w.heap.size w v → Calls Try.prog g #[.agg #[.int .i64 s.1.num, .int .i64 (s.1.den : Int), .int .i64 s.2.num, .int .i64 (s.2.den : Int)], cv] v fun e w' => e = .returned (.tuple #[.agg #[.int .i64 (mf s).1, .int .i64 (mf s).2.1], .int .i64 (mf s).2.2]) ∧ Below v.heap.size v w')
    (hE : ∀ (x : Value) (v : World), Sem.run Try.prog (callFunc g #[x, cv]) v = .ok (.enter g #[x, cv]) v) (hB : ∀ s ∈ L, I64 (mf s).1 ∧ I64 (mf s).2.1) :
    Calls Try.prog 50 #[.slice A L.length cap, .func (.func g) #[] #[cv]] w fun e w' => e = .returned (.tuple #[.agg #[.int .i64 (Pc.sumF mf L 0 1).1, .int .i64 (Pc.sumF mf L 0 1).2.1], .int .i64 (Pc.sumF mf L 0 1).2.2]) ∧ Below w.heap.size w w' := by
  obtain ⟨b, off, hA, hc⟩ := h.cell
  have HC := Lib.hid hc
  have HA := Lib.hid hA
  have HMM := Lib.hid (show ∀ k, k < L.length → (∀ v, Below w.heap.size w v → Calls Try.prog g #[.agg #[.int .i64 (Pc.sat L k).1.num, .int .i64 ((Pc.sat L k).1.den : Int), .int .i64 (Pc.sat L k).2.num, .int .i64 ((Pc.sat L k).2.den : Int)], cv] v fun e w' => e = .returned (.tuple #[.agg #[.int .i64 (mf (Pc.sat L k)).1, .int .i64 (mf (Pc.sat L k)).2.1], .int .i64 (mf (Pc.sat L k)).2.2]) ∧ Below v.heap.size v w') ∧ I64 (mf (Pc.sat L k)).1 ∧ I64 (mf (Pc.sat L k)).2.1 from fun k hk => by
    rw [Pc.sat_lt hk]
    exact ⟨hM _ (List.getElem_mem hk), hB _ (List.getElem_mem hk)⟩)
  have HE := Lib.hid hE
  obtain ⟨R, hR⟩ : ∃ R, Pc.sumF mf L 0 1 = R := ⟨_, rfl⟩
  rw [hR]
  obtain ⟨R1, R2, R3⟩ := R
  dsimp only
  have HR := Lib.hid hR
  clear h hc hA hM hE hB hR
  go_enter Try.func50, Try.ntmps50
  go_upto_region 2 with fail
  refine at_worldQ (fun v => Below w.heap.size w v ∧ BK v w.heap.size [.int .i64 0, .int .i64 0] ∧ BK v (w.heap.size + 1) [.int .i64 0, .int .i64 1]) ⟨below_al (below_al (Below.refl _ _) _) _, (BK.new w [.int .i64 0, .int .i64 0] _).al _, by have b := BK.new (w.alloc (.cells #[.int .i64 0, .int .i64 0] 23)) [.int .i64 0, .int .i64 1] 23; simpa only [World.size_alloc] using b⟩ (fun V hS => ?_)
  go_wp2_with fail
  go_loopw [8, 9, 10, 14] (fun _ _ _ i W => ∃ (k : Nat) (a c : Int), k ≤ L.length ∧ i = .int .i64 k ∧ Pc.sumF mf (L.drop k) a c = (R1, R2, R3) ∧ (I64 a ∧ I64 c) ∧ Below w.heap.size w W ∧ BK W w.heap.size [.int .i64 0, .int .i64 0] ∧ BK W (w.heap.size + 1) [.int .i64 a, .int .i64 c]) (fun _ _ _ i _ => L.length - (intOf i).toNat)
  case atStart => exact ⟨0, 0, 1, Nat.zero_le _, rfl, HR.out, ⟨⟨by decide, by decide⟩, by decide, by decide⟩, hS.1, hS.2.1, hS.2.2⟩
  case round =>
    clear hS HR
    obtain ⟨k, a, c, hk, rfl, hsum, ⟨ha, hcc⟩, hbb, B0, B1⟩ := hrel
    by_cases hlt : k < L.length
    · have hA' := HA.out (by omega)
      subst hA'
      obtain ⟨s, hs⟩ : ∃ s, Pc.sat L k = s := ⟨_, rfl⟩
      have c0 := keepC hbb (HC.out k hlt).1
      have c1 := keepC hbb (HC.out k hlt).2.1
      have c2 := keepC hbb (HC.out k hlt).2.2.1
      have c3 := keepC hbb (HC.out k hlt).2.2.2
      obtain ⟨hm, hm1, hm2⟩ := HMM.out k hlt
      have hdr : L.drop k = s :: L.drop (k + 1) := by rw [List.drop_eq_getElem_cons hlt, ← Pc.sat_lt hlt, hs]
      rw [hdr] at hsum
      rw [hs] at c0 c1 c2 c3 hm hm1 hm2
      unfold Pc.sumF at hsum
      have hcf := HE.out (.agg #[.int .i64 s.1.num, .int .i64 (s.1.den : Int), .int .i64 s.2.num, .int .i64 (s.2.den : Int)])
      have ad := fun v => Add_any a c (mf s).1 (mf s).2.1 v ha.1 ha.2 hcc.1 hcc.2 hm1.1 hm1.2 hm2.1 hm2.2
      have hab := Pc.addS_bd a c (mf s).1 (mf s).2.1
      generalize Rp.addS a c (mf s).1 (mf s).2.1 = T at *
      obtain ⟨T1, T2, T3⟩ := T
      generalize mf s = M at *
      obtain ⟨M1, M2, M3⟩ := M
      dsimp only at hm ad hsum hab
      have HM := Lib.hid hm
      have AD := Lib.hid ad
      have HAB := Lib.hid hab
      have HSUM := Lib.hid hsum
      clear hm ad hs hdr hm1 hm2 ha hcc hab hsum
      have i1 : (0 : Int) ≤ (k : Int) := by omega
      have i2 : (k : Int) < (L.length : Int) := by omega
      go_upto_region 5 with fail
      refine at_worldQ (fun v => Below w.heap.size w v ∧ BK v w.heap.size [.int .i64 0, .int .i64 0] ∧ BK v (w.heap.size + 1) [.int .i64 a, .int .i64 c] ∧ BK v wr.heap.size [.int .i64 s.1.num, .int .i64 (s.1.den : Int), .int .i64 s.2.num, .int .i64 (s.2.den : Int)]) ⟨below_al hbb _, B0.al _, B1.al _, BK.new wr [.int .i64 s.1.num, .int .i64 (s.1.den : Int), .int .i64 s.2.num, .int .i64 (s.2.den : Int)] _⟩ (fun V5 hS5 => ?_)
      clear hbb B0 B1 c0 c1 c2 c3
      obtain ⟨hbb, B0, B1, B8⟩ := hS5
      have p0 := B8.c 0 rfl
      have p1 := B8.c 1 rfl
      have p2 := B8.c 2 rfl
      have p3 := B8.c 3 rfl
      generalize wr.heap.size = P8 at *
      clear B8
      go_wp2_with fail
      refine (HM.out _ hbb).mono ?_
      rintro e w5 ⟨rfl, hb5⟩
      replace hbb := keepB hbb hb5
      replace B0 := B0.keep hb5
      replace B1 := B1.keep hb5
      clear hb5 HM p0 p1 p2 p3 hcf
      go_upto_region 6 with fail
      refine at_worldQ (fun v => Below w.heap.size w v ∧ BK v w.heap.size [.int .i64 0, .int .i64 0] ∧ BK v (w.heap.size + 1) [.int .i64 a, .int .i64 c] ∧ BK v w5.heap.size [.int .i64 M1, .int .i64 M2]) ⟨below_al hbb _, B0.al _, B1.al _, BK.new w5 [.int .i64 M1, .int .i64 M2] _⟩ (fun V6 hS6 => ?_)
      clear hbb B0 B1
      obtain ⟨hbb, B0, B1, B9⟩ := hS6
      generalize w5.heap.size = P9 at *
      by_cases hM3 : M3 = 0
      · subst hM3
        have e0 : ((0 : Int) == 0) = true := rfl
        have q0 := B9.c 0 rfl
        have q1 := B9.c 1 rfl
        have t0 := B1.c 0 rfl
        have t1 := B1.c 1 rfl
        go_wp2_with fail
        refine (AD.out _).mono ?_
        rintro e w7 ⟨rfl, hb7⟩
        replace hbb := keepB hbb hb7
        replace B0 := B0.keep hb7
        replace B1 := B1.keep hb7
        clear hb7 AD q0 q1 t0 t1 B9
        have t0 := B1.c 0 rfl
        have t1 := B1.c 1 rfl
        have g0 := B1.f 0 rfl
        have g1 := B1.f 1 rfl
        go_upto_region 8 with fail
        refine at_worldQ (fun v => Below w.heap.size w v ∧ BK v w.heap.size [.int .i64 0, .int .i64 0] ∧ BK v (w.heap.size + 1) [.int .i64 T1, .int .i64 T2]) ⟨below_set (below_set hbb (by omega) _) (by omega) _, (B0.far (by omega) _ _).far (by omega) _ _, (B1.set 0 _).set 1 _⟩ (fun V8 hS8 => ?_)
        clear hbb B0 B1 t0 t1 g0 g1
        obtain ⟨hbb, B0, B1⟩ := hS8
        by_cases hT : T3 = 0
        · subst hT
          have hs2 := HSUM.out
          simp only [↓reduceIte] at hs2
          have HS2 := Lib.hid hs2
          have e1 : ((0 : Int) != 0) = false := rfl
          clear hs2 HSUM
          go_wp2_with fail
          go_roundw
          case rel => exact ⟨k + 1, T1, T2, by omega, by go_num, HS2.out, HAB.out, hbb, B0, B1⟩
          case measure => simp [intOf]; omega
        · have hs2 := HSUM.out
          simp only [↓reduceIte, if_neg hT] at hs2
          have EB := Lib.hid hs2.symm
          have e1 : (T3 != 0) = true := by rw [bne_iff_ne]; exact hT
          clear hs2 HSUM hT
          have r0 := B0.c 0 rfl
          have r1 := B0.c 1 rfl
          have f0 := B0.f 0 rfl
          have f1 := B0.f 1 rfl
          go_wp2_with fail
          exact bodyPost_ret (v := .tuple #[.agg #[.int .i64 0, .int .i64 0], .int .i64 T3]) (by simp [results, Try.results50, go_sem, r0, r1]) rfl ⟨by have e := EB.out; simp only [Prod.mk.injEq] at e; obtain ⟨e1', e2', e3'⟩ := e; rw [e1', e2', e3'], below_set (below_set hbb (Nat.le_refl _) _) (Nat.le_refl _) _⟩
      · have hs2 := HSUM.out
        rw [if_neg hM3] at hs2
        have EB := Lib.hid hs2.symm
        have e0 : (M3 == 0) = false := by rw [beq_eq_false_iff_ne]; exact hM3
        have e1 : (M3 != 0) = true := by rw [bne_iff_ne]; exact hM3
        clear hs2 HSUM hM3
        have r0 := B0.c 0 rfl
        have r1 := B0.c 1 rfl
        have f0 := B0.f 0 rfl
        have f1 := B0.f 1 rfl
        go_wp2_with fail
        exact bodyPost_ret (v := .tuple #[.agg #[.int .i64 0, .int .i64 0], .int .i64 M3]) (by simp [results, Try.results50, go_sem, r0, r1]) rfl ⟨by have e := EB.out; simp only [Prod.mk.injEq] at e; obtain ⟨e1', e2', e3'⟩ := e; rw [e1', e2', e3'], below_set (below_set hbb (Nat.le_refl _) _) (Nat.le_refl _) _⟩
    · obtain rfl : k = L.length := by omega
      rw [List.drop_length] at hsum
      have EB := Lib.hid hsum
      have t0 := B1.c 0 rfl
      have t1 := B1.c 1 rfl
      have r0 := B0.c 0 rfl
      have r1 := B0.c 1 rfl
      have f0 := B0.f 0 rfl
      have f1 := B0.f 1 rfl
      clear HA HC HMM HE hsum
      go_wp2_with fail
      have e := EB.out
      unfold Pc.sumF at e
      simp only [Prod.mk.injEq] at e
      obtain ⟨rfl, rfl, rfl⟩ := e
      exact bodyPost_ret (v := .tuple #[.agg #[.int .i64 a, .int .i64 c], .int .i64 0]) (by simp [results, Try.results50, go_sem, r0, r1]) rfl ⟨rfl, below_set (below_set hbb (Nat.le_refl _) _) (Nat.le_refl _) _⟩
namespace Pc
theorem spans_of_good {L : List (Rat × Rat)} (h : Good L) : ∀ s ∈ L, s.1 < s.2 := by
  intro s hs
  obtain ⟨k, hk, rfl⟩ := List.mem_iff_getElem.1 hs
  have e := ends_at hk
  have el := ends_len L
  rw [← sat_lt hk, ← e.1, ← e.2]
  exact inc_at h.inc (by omega) (by omega)
/-- What a span is worth. -/
def wM (cuts dens : List Int) (s : Rat × Rat) : Int × Int × Int := Ck.vgo cuts dens s.1.num (s.1.den : Int) s.2.num (s.2.den : Int) dens.length
/-- A point of the cake. -/
def inC (len : Int) (r : Rat) : Bool := Ck.pt len r.num (r.den : Int)
theorem wM_bd {len : Int} {cuts dens : List Int} (hG : Ck.Good len cuts dens) {s : Rat × Rat} (h1 : Fit s.1) (h2 : Fit s.2) (h : s.1 < s.2) :
    ((wM cuts dens s).2.2 = 0 ∧ Rp.Ok (wM cuts dens s).1 (wM cuts dens s).2.1 ∧ Rp.q (wM cuts dens s).1 (wM cuts dens s).2.1 = Ck.cum cuts dens s.2 dens.length - Ck.cum cuts dens s.1 dens.length) ∨ wM cuts dens s = (0, 0, 16) := by
  have := Ck.vgo_is hG h1 h2 (by rw [Rp.q_self, Rp.q_self]; grind) dens.length (Nat.le_refl _)
  rw [Rp.q_self, Rp.q_self] at this
  exact this
theorem wM_64 {len : Int} {cuts dens : List Int} (hG : Ck.Good len cuts dens) {s : Rat × Rat} (h1 : Fit s.1) (h2 : Fit s.2) (h : s.1 < s.2) : I64 (wM cuts dens s).1 ∧ I64 (wM cuts dens s).2.1 := by
  rcases wM_bd hG h1 h2 h with ⟨_, ⟨o1, o2, o3, o4, _⟩, _⟩ | e
  · unfold I64; omega
  · rw [e]; unfold I64; dsimp only; omega
end Pc
set_option linter.unusedVariables false in
set_option maxHeartbeats 2000000 in
theorem worth1_any (len : Int) (K : Option Addr) (cuts : List Int) (ck : Nat) (Z : Option Addr) (dens : List Int) (cz : Nat) (s : Rat × Rat) (p : Nat) (w0 w : World) (h : IsCake w0 len K cuts Z dens) (hw : Below w0.heap.size w0 w) (hc : Ck.chk len cuts dens = 0) (hs1 : Pc.Fit s.1) (hs2 : Pc.Fit s.2) (i1 : Pc.inC len s.1 = true) (i2 : Pc.inC len s.2 = true) (hlt : s.1 < s.2)
    (b0 : w.cell? ⟨p, 0, none⟩ = some (.int .i64 len)) (b1 : w.cell? ⟨p, 1, none⟩ = some (.slice K cuts.length ck)) (b2 : w.cell? ⟨p, 2, none⟩ = some (.slice Z dens.length cz)) :
    Calls Try.prog 51 #[.agg #[.int .i64 s.1.num, .int .i64 (s.1.den : Int), .int .i64 s.2.num, .int .i64 (s.2.den : Int)], .pointer (some ⟨p, 0, none⟩)] w fun e w' => e = .returned (.tuple #[.agg #[.int .i64 (Pc.wM cuts dens s).1, .int .i64 (Pc.wM cuts dens s).2.1], .int .i64 (Pc.wM cuts dens s).2.2]) ∧ Below w.heap.size w w' := by
  have hv := fun v (hv : Below w0.heap.size w0 v) => value_good len K cuts ck Z dens cz s.1.num (s.1.den : Int) s.2.num (s.2.den : Int) v (h.keep hv) hc i1 i2 (by rw [Rp.q_self, Rp.q_self]; grind)
  have e : Ck.vgo cuts dens s.1.num (s.1.den : Int) s.2.num (s.2.den : Int) dens.length = Pc.wM cuts dens s := rfl
  rw [e] at hv
  clear e
  generalize Pc.wM cuts dens s = R at *
  obtain ⟨R1, R2, R3⟩ := R
  dsimp only at hv ⊢
  have HV := Lib.hid hv
  have hp := lt_of_cell b0
  clear hv h hc hs1 hs2 i1 i2 hlt
  go_enter Try.func51, Try.ntmps51
  go_upto_region 1 with fail
  refine at_worldQ (fun v => Below w.heap.size w v ∧ BK v w.heap.size [.int .i64 s.1.num, .int .i64 (s.1.den : Int), .int .i64 s.2.num, .int .i64 (s.2.den : Int)] ∧ BK v (w.heap.size + 1) [.int .i64 0, .int .i64 0] ∧ v.cell? ⟨p, 0, none⟩ = some (.int .i64 len) ∧ v.cell? ⟨p, 1, none⟩ = some (.slice K cuts.length ck) ∧ v.cell? ⟨p, 2, none⟩ = some (.slice Z dens.length cz)) ⟨below_al (below_al (Below.refl _ _) _) _, (BK.new w [.int .i64 s.1.num, .int .i64 (s.1.den : Int), .int .i64 s.2.num, .int .i64 (s.2.den : Int)] _).al _, by have b := BK.new (w.alloc (.cells #[.int .i64 s.1.num, .int .i64 (s.1.den : Int), .int .i64 s.2.num, .int .i64 (s.2.den : Int)] 25)) [.int .i64 0, .int .i64 0] 23; simpa only [World.size_alloc] using b, cell_alloc (cell_alloc b0 _) _, cell_alloc (cell_alloc b1 _) _, cell_alloc (cell_alloc b2 _) _⟩ (fun V hS => ?_)
  clear b0 b1 b2
  obtain ⟨hbb, B1, B2, b0, b1, b2⟩ := hS
  have p0 := B1.c 0 rfl
  have p1 := B1.c 1 rfl
  have p2 := B1.c 2 rfl
  have p3 := B1.c 3 rfl
  go_wp2_with fail
  refine (HV.out _ (keepB hw hbb)).mono ?_
  rintro e w1 ⟨rfl, hb1⟩
  replace hbb := keepB hbb hb1
  replace B2 := B2.keep hb1
  clear hb1 B1 p0 p1 p2 p3 b0 b1 b2
  have r0 := B2.c 0 rfl
  have r1 := B2.c 1 rfl
  have f0 := B2.f 0 rfl
  have f1 := B2.f 1 rfl
  go_wp2_with fail
  exact bodyPost_ret (v := .tuple #[.agg #[.int .i64 R1, .int .i64 R2], .int .i64 R3]) (by simp [results, Try.results51, go_sem, r0, r1]) rfl ⟨rfl, below_set (below_set hbb (by omega) _) (by omega) _⟩
set_option linter.unusedSimpArgs false in
set_option maxHeartbeats 8000000 in
set_option maxRecDepth 100000 in
theorem worth_good (len : Int) (K : Option Addr) (cuts : List Int) (ck : Nat) (Z : Option Addr) (dens : List Int) (cz : Nat) (A : Option Addr) (cap : Nat) (L : List (Rat × Rat)) (w : World) (h : IsCake w len K cuts Z dens) (hc : Ck.chk len cuts dens = 0) (gL : Pc.Good L) (hin : ∀ r ∈ Pc.ends L, Pc.inC len r = true) (hl : IsS w A (L.map Pc.raw)) :
    Calls Try.prog 12 #[.agg #[.int .i64 len, .slice K cuts.length ck, .slice Z dens.length cz], .slice A L.length cap] w fun e w' => e = .returned (.tuple #[.agg #[.int .i64 (Pc.sumF (Pc.wM cuts dens) L 0 1).1, .int .i64 (Pc.sumF (Pc.wM cuts dens) L 0 1).2.1], .int .i64 (Pc.sumF (Pc.wM cuts dens) L 0 1).2.2]) ∧ Below w.heap.size w w' := by
  have hG := Ck.chk_good hc
  have cc := fun v (hv : Below w.heap.size w v) => ckCheck_any len K cuts ck Z dens cz v (h.keep hv)
  have pc := fun v (hv : Below w.heap.size w v) => pChk_any A cap (L.map Pc.raw) v (hl.keep hv)
  rw [hc] at cc
  rw [Pc.chk_of_good gL] at pc
  rw [List.length_map] at pc
  have hsp : ∀ k, k < L.length → Pc.Fit (Pc.sat L k).1 ∧ Pc.Fit (Pc.sat L k).2 ∧ Pc.inC len (Pc.sat L k).1 = true ∧ Pc.inC len (Pc.sat L k).2 = true := fun k hk => ⟨gL.fit _ (Pc.mem_ends1 hk).1, gL.fit _ (Pc.mem_ends1 hk).2, hin _ (Pc.mem_ends1 hk).1, hin _ (Pc.mem_ends1 hk).2⟩
  have su := fun cv p v (hv : Below w.heap.size w v) (e : cv = .pointer (some ⟨p, 0, none⟩)) (hb : BK v p [.int .i64 len, .slice K cuts.length ck, .slice Z dens.length cz]) => sum1_any 51 cv (Pc.wM cuts dens) A cap L v (by have := gL.len; omega) (hl.keep hv) (fun s hs v' hv' => by
      obtain ⟨k, hk, rfl⟩ := List.mem_iff_getElem.1 hs
      have hm := hsp k hk
      rw [Pc.sat_lt hk] at hm
      subst e
      have hb' := hb.keep hv'
      exact worth1_any len K cuts ck Z dens cz _ p w v' h (keepB hv hv') hc hm.1 hm.2.1 hm.2.2.1 hm.2.2.2 (Pc.spans_of_good gL _ (List.getElem_mem hk)) (hb'.c 0 rfl) (hb'.c 1 rfl) (hb'.c 2 rfl)) (fun x v => by go_simp) (fun s hs => by
      obtain ⟨k, hk, rfl⟩ := List.mem_iff_getElem.1 hs
      have hm := hsp k hk
      rw [Pc.sat_lt hk] at hm
      exact Pc.wM_64 hG hm.1 hm.2.1 (Pc.spans_of_good gL _ (List.getElem_mem hk)))
  obtain ⟨bq, oq, hA, hcq⟩ := hl.cell
  have HC := Lib.hid hcq
  have HA := Lib.hid hA
  have HSP := Lib.hid hsp
  have hL60 : L.length ≤ 60 := gL.len
  have hl0 := hG.len0
  have hl1 := hG.len1
  generalize Pc.sumF (Pc.wM cuts dens) L 0 1 = R at *
  obtain ⟨R1, R2, R3⟩ := R
  dsimp only at su ⊢
  have CC := Lib.hid cc
  have PC := Lib.hid pc
  have SU := Lib.hid su
  clear cc pc su hcq hA hsp h hc gL hin hl hG
  go_enter Try.func12, Try.ntmps12
  go_upto_region 1 with fail
  refine at_worldQ (fun v => Below w.heap.size w v ∧ BK v w.heap.size [.int .i64 len, .slice K cuts.length ck, .slice Z dens.length cz] ∧ BK v (w.heap.size + 1) [.int .i64 0, .int .i64 0]) ⟨below_al (below_al (Below.refl _ _) _) _, (BK.new w [.int .i64 len, .slice K cuts.length ck, .slice Z dens.length cz] _).al _, by have b := BK.new (w.alloc (.cells #[.int .i64 len, .slice K cuts.length ck, .slice Z dens.length cz] 33)) [.int .i64 0, .int .i64 0] 23; simpa only [World.size_alloc] using b⟩ (fun V hS => ?_)
  obtain ⟨hbb, B2, B4⟩ := hS
  have c0 := B2.c 0 rfl
  have c1 := B2.c 1 rfl
  have c2 := B2.c 2 rfl
  go_wp2_with fail
  refine (CC.out _ hbb).mono ?_
  rintro e w1 ⟨rfl, hb1⟩
  replace hbb := keepB hbb hb1
  replace B2 := B2.keep hb1
  replace B4 := B4.keep hb1
  clear hb1 c0 c1 c2
  go_wp2_with fail
  refine (PC.out _ hbb).mono ?_
  rintro e w2 ⟨rfl, hb1⟩
  replace hbb := keepB hbb hb1
  replace B2 := B2.keep hb1
  replace B4 := B4.keep hb1
  clear hb1
  have c0 := B2.c 0 rfl
  go_upto_region 8 with fail
  refine at_worldQ (fun v => Below w.heap.size w v ∧ BK v w.heap.size [.int .i64 len, .slice K cuts.length ck, .slice Z dens.length cz] ∧ BK v (w.heap.size + 1) [.int .i64 0, .int .i64 0] ∧ BK v w2.heap.size [.int .i64 len, .int .i64 1]) ⟨below_al hbb _, B2.al _, B4.al _, BK.new w2 [.int .i64 len, .int .i64 1] _⟩ (fun V8 hS => ?_)
  clear hbb B2 B4 c0
  have hS8 := hS
  clear hS
  generalize w2.heap.size = P8 at *
  go_wp2_with fail
  go_loopw [10, 28] (fun _ t v => ∃ k : Nat, k ≤ L.length ∧ t = .int .i64 k ∧ Below w.heap.size w v ∧ BK v w.heap.size [.int .i64 len, .slice K cuts.length ck, .slice Z dens.length cz] ∧ BK v (w.heap.size + 1) [.int .i64 0, .int .i64 0] ∧ BK v P8 [.int .i64 len, .int .i64 1]) (fun _ t _ => L.length - (intOf t).toNat)
  case atStart => exact ⟨0, Nat.zero_le _, rfl, hS8⟩
  case round =>
    clear hS8
    obtain ⟨k, hk, rfl, hbb, B2, B4, B8⟩ := hrel
    by_cases hlt : k < L.length
    · have hA' := HA.out (by omega)
      subst hA'
      obtain ⟨s, hs⟩ : ∃ s, Pc.sat L k = s := ⟨_, rfl⟩
      have c0 := keepC hbb (HC.out k hlt).1
      have c1 := keepC hbb (HC.out k hlt).2.1
      have c2 := keepC hbb (HC.out k hlt).2.2.1
      have c3 := keepC hbb (HC.out k hlt).2.2.2
      have hf := HSP.out k hlt
      rw [hs] at c0 c1 c2 c3 hf
      have hpt := of_decide_eq_true hf.2.2.2
      have hpf := of_decide_eq_true hf.2.2.1
      have ql : Pc.lessB len 1 s.2.num (s.2.den : Int) = false := by
        refine decide_eq_false fun hh => ?_
        have := (Rp.q_lt hh.1 hh.2.1).1 hh.2.2
        have := hpt.2.2
        omega
      have bd := Pc.fit_bd hf.2.1
      have ls := fun v => pless_any len 1 s.2.num (s.2.den : Int) v ⟨by omega, by omega⟩ ⟨by decide, by decide⟩ ⟨by omega, by omega⟩ ⟨by omega, by omega⟩
      rw [ql] at ls
      have LS := Lib.hid ls
      have g1 : decide (s.1.num < 0) = false := decide_eq_false (by have := hpf.2.1; omega)
      have i1 : (0 : Int) ≤ (k : Int) := by omega
      have i2 : (k : Int) < (L.length : Int) := by omega
      clear ls ql hpt hpf hf hs bd
      go_upto_region 11 with fail
      refine at_worldQ (fun v => Below w.heap.size w v ∧ BK v w.heap.size [.int .i64 len, .slice K cuts.length ck, .slice Z dens.length cz] ∧ BK v (w.heap.size + 1) [.int .i64 0, .int .i64 0] ∧ BK v P8 [.int .i64 len, .int .i64 1] ∧ BK v wr.heap.size [.int .i64 s.1.num, .int .i64 (s.1.den : Int), .int .i64 s.2.num, .int .i64 (s.2.den : Int)]) ⟨below_al hbb _, B2.al _, B4.al _, B8.al _, BK.new wr [.int .i64 s.1.num, .int .i64 (s.1.den : Int), .int .i64 s.2.num, .int .i64 (s.2.den : Int)] _⟩ (fun V11 hS => ?_)
      clear hbb B2 B4 B8 c0 c1 c2 c3
      obtain ⟨hbb, B2, B4, B8, BS⟩ := hS
      have p0 := BS.c 0 rfl
      have p1 := BS.c 1 rfl
      have p2 := BS.c 2 rfl
      have p3 := BS.c 3 rfl
      have e0 := B8.c 0 rfl
      have e1 := B8.c 1 rfl
      generalize wr.heap.size = PS at *
      go_wp2_with fail
      refine (LS.out _).mono ?_
      rintro e w3 ⟨rfl, hb1⟩
      replace hbb := keepB hbb hb1
      replace B2 := B2.keep hb1
      replace B4 := B4.keep hb1
      replace B8 := B8.keep hb1
      clear hb1 BS p0 p1 p2 p3 e0 e1
      go_wp2_with fail
      go_roundw
      case rel => exact ⟨k + 1, by omega, by go_num, hbb, B2, B4, B8⟩
      case measure => (simp [intOf] <;> omega)
    · obtain rfl : k = L.length := by omega
      clear HA HC HSP B8
      go_wp2_with fail
      refine (SU.out _ _ _ hbb rfl B2).mono ?_
      rintro e w4 ⟨rfl, hb1⟩
      replace hbb := keepB hbb hb1
      replace B4 := B4.keep hb1
      clear hb1 B2
      have r0 := B4.c 0 rfl
      have r1 := B4.c 1 rfl
      have f0 := B4.f 0 rfl
      have f1 := B4.f 1 rfl
      go_wp2_with fail
      exact bodyPost_ret (v := .tuple #[.agg #[.int .i64 R1, .int .i64 R2], .int .i64 R3]) (by simp [results, Try.results12, go_sem, r0, r1]) rfl ⟨rfl, below_set (below_set hbb (by omega) _) (by omega) _⟩
end Go.Proofs.Ytnnpmegknlgkoaa
