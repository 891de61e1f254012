/- The reference's layer 15: leased. -/
import Derived.Test.YtncmffhoodfhjaaGreatLya
import Derived.Test.YtncmffhoodfhjaaGreatYn
import Derived.Test.YtncmffhoodfhjaaGreatLxc
namespace Go.Proofs.YtncmffhoodfhjaaGreat
open Go.RowKit
namespace As
theorem own_step {V : List (List Int)} {b : List Nat} (hb : Top V b) (F : Nat → Int) {k : Nat} (hk : k < V.length) {j : Nat} (hj : j < V.length) :
    (if j = b.getD k 0 then F (b.getD k 0) else if b.idxOf j < k then F j else 0) = if b.idxOf j < k + 1 then F j else 0 := by
  obtain ⟨h1, h2⟩ := idx_rm hb hj
  by_cases e : j = b.getD k 0
  · have e2 : b.idxOf j = k := by rw [e, own_idx hb hk]
    rw [if_pos e, if_pos (by omega), e]
  · have e2 : b.idxOf j ≠ k := fun h => e (by rw [← h, h2])
    rw [if_neg e]
    by_cases e3 : b.idxOf j < k
    · rw [if_pos e3, if_pos (by omega)]
    · rw [if_neg e3, if_neg (by omega)]
theorem low_rd {n : Nat} (p : Nat → Int) : (ml n p).map (fun x => x / ((gcl n (ml n p) : Nat) : Int)) = rdp n p ∧ ((n / gcl n (ml n p) : Nat) : Int) = rdd n p := by
  constructor
  · unfold rdp ml
    rw [List.map_map]
    rfl
  · rfl
end As
set_option maxRecDepth 100000 in
set_option maxHeartbeats 8000000 in
theorem rLeased_any (A : Option Addr) (cv : Nat) (V : List (List Int)) (R : Int) (X : Option Addr) (cx : Nat) (p cg : Nat) (G : Nat → Int) (w : World) (ok : As.Ok V) (hgc : As.GC V (As.bst V) G) (r0 : 0 ≤ R) (r1 : R ≤ 10000000) (hM : IsM w A V) (hX : IsI w X (As.al (As.bst V))) (hG : BF w p V.length G) (hbd : ∀ j, j < V.length → -7000000 ≤ G j ∧ G j ≤ 7000000) :
    Calls Tryz.prog 23 #[.agg #[.slice A V.length cv, .int .i64 R], .slice X V.length cx, .slice (some ⟨p, 0, none⟩) V.length cg] w (MvQ X V.length cx (As.fpr V (As.bst V) G) R w) := by
  have hb := As.bst_top ok
  have n1 := ok.n1
  have n6 := ok.n6
  have hc : As.Cont V (As.bst V) (As.fpr V (As.bst V) G) := As.gc_cont hb hgc
  have HSB := Lib.hid (fun j (hj : j < V.length) => As.shp_bd ok hb hc r0 r1 hj)
  have HFP := Lib.hid (fun i (hi : i < V.length) => As.fpr_own hb G hi)
  have HPB := Lib.hid (fun j (hj : j < V.length) => (show -8000000 ≤ As.fpr V (As.bst V) G j ∧ As.fpr V (As.bst V) G j ≤ 8000000 from by
    obtain ⟨k1, _⟩ := As.idx_rm hb hj
    have k2 := hbd _ k1
    have k3 : 0 ≤ As.vo V (As.bst V) ((As.bst V).idxOf j) ∧ As.vo V (As.bst V) ((As.bst V).idxOf j) ≤ 1000000 := ok.bd _ _
    unfold As.fpr; omega))
  have HVO := Lib.hid (fun i => (show 0 ≤ As.vo V (As.bst V) i ∧ As.vo V (As.bst V) i ≤ 1000000 from ok.bd _ _))
  have HGB := Lib.hid hbd
  have HSM := Lib.hid (show As.sm (fun i => As.vo V (As.bst V) i - G i) (List.range V.length) = As.sm (As.fpr V (As.bst V) G) (List.range V.length) from by
    rw [As.fpr_sum hb G, As.sm_sub])
  have HSU := Lib.hid (fun k => As.sm_rs (fun i => As.vo V (As.bst V) i - G i) k)
  have HSR := Lib.hid (fun k (hk : k ≤ V.length) => As.sm_bd2 (f := fun i => As.vo V (As.bst V) i - G i) (M := 8000000) k (fun j hj => by
    have k2 := hbd j (by omega)
    have k3 : 0 ≤ As.vo V (As.bst V) j ∧ As.vo V (As.bst V) j ≤ 1000000 := ok.bd _ _
    omega))
  have HST := Lib.hid (fun k (hk : k < V.length) j (hj : j < V.length) => As.own_step hb (As.fpr V (As.bst V) G) hk hj)
  have HIX := Lib.hid (fun j (hj : j < V.length) => (As.idx_rm hb hj).1)
  have HOWN := Lib.hid (fun k (hk : k < V.length) => As.own_lt hb hk)
  have HLB := Lib.hid (show (As.al (As.bst V)).length = V.length by rw [As.al_len]; exact hb.len)
  have HLO := Lib.hid (fun v g c (hI : IsI v (some ⟨g, 0, none⟩) (ml V.length (As.shp V.length (As.fpr V (As.bst V) G) R))) => r14Lowest_any (some ⟨g, 0, none⟩) c (ml V.length (As.shp V.length (As.fpr V (As.bst V) G) R)) V.length v (ml_len _ _) n1 n6 (fun j hj => by rw [el_ml hj]; have := As.shp_bd ok hb hc r0 r1 hj; omega) hI)
  unfold LoQ at HLO
  rw [(As.low_rd (As.shp V.length (As.fpr V (As.bst V) G) R)).1, (As.low_rd (As.shp V.length (As.fpr V (As.bst V) G) R)).2] at HLO
  have HSH := Lib.hid (show ∀ j, As.shp V.length (As.fpr V (As.bst V) G) R j = As.fpr V (As.bst V) G j * V.length + R - As.sm (As.fpr V (As.bst V) G) (List.range V.length) from fun j => by unfold As.shp; rw [Int.mul_comm])
  have HQ := Lib.hid (show ∀ Y c w', IsI w' Y (As.rdp V.length (As.shp V.length (As.fpr V (As.bst V) G) R)) → (∀ b off, Y = some ⟨b, off, none⟩ → w.heap.size ≤ b) → Below w.heap.size w w' → MvQ X V.length cx (As.fpr V (As.bst V) G) R w (.returned (.agg #[.slice X V.length cx, .slice Y V.length c, .int .i64 (As.rdd V.length (As.shp V.length (As.fpr V (As.bst V) G) R))])) w' from fun Y c w' h1 h2 h3 => ⟨Y, c, rfl, h1, h2, h3⟩)
  have MK := ints_make V.length (by omega)
  have HA := Lib.hid hM
  have HX := Lib.hid hX
  have HG := Lib.hid hG
  have HOK := Lib.hid ok
  generalize As.rdd V.length (As.shp V.length (As.fpr V (As.bst V) G) R) = dn at *
  generalize As.rdp V.length (As.shp V.length (As.fpr V (As.bst V) G) R) = PL at *
  generalize As.fpr V (As.bst V) G = P at *
  clear hM hX hG hbd hc hgc hb ok
  go_enter Tryz.func23, Tryz.ntmps23
  go_upto_region 1 with fail
  refine at_box2 (fun V0 hbb b0 b1 hsz => ?_)
  clear hsz
  have HA := Lib.hid (HA.out.keep hbb)
  have HX := Lib.hid (HX.out.keep hbb)
  have HG := Lib.hid (HG.out.keep hbb)
  have B0 := Lib.hid b0
  have B1 := Lib.hid b1
  have HB := Lib.hid hbb
  clear hbb b0 b1
  go_wp2_with fail
  clear MK
  go_loopw [9, 10] (fun s i W => ∃ k : Nat, k ≤ V.length ∧ i = .int .i64 k ∧ s = .int .i64 (As.sm (fun i => As.vo V (As.bst V) i - G i) (List.range k)) ∧ Hid (Below V0.heap.size V0 W) ∧ Hid (BF W V0.heap.size V.length (fun j => if (As.bst V).idxOf j < k then P j else 0))) (fun _ i _ => V.length - (intOf i).toNat)
  case atStart => exact ⟨0, Nat.zero_le _, rfl, by simp [As.sm], Lib.hid (below_al (Below.refl _ _) _), Lib.hid ((BF.new V0 V.length 3).cong fun j _ => by simp)⟩
  case round =>
    obtain ⟨k, hk, rfl, rfl, HW, HF⟩ := hrel
    by_cases hlt : k < V.length
    · obtain ⟨xb, xo, hX, hxs⟩ := list_at (HX.out.keep HW.out) (j := k) (by rw [HLB.out]; exact hlt)
      obtain ⟨b, off, rb, ro, cc, rfl, hr, hcs⟩ := row_at HOK.out (HA.out.keep HW.out) hlt
      subst hX
      obtain ⟨xb', xo', hX', hxs'⟩ := list_at HX.out (j := k) (by rw [HLB.out]; exact hlt)
      cases hX'
      have hxl := lt_of_cell (hxs' k (by rw [HLB.out]; exact hlt))
      clear hxs'
      have hb0 := HOWN.out k hlt
      have x0 := hxs k (by rw [HLB.out]; exact hlt)
      rw [As.el_al] at x0
      have x1 := (B0.out.keep HW.out).c 0 rfl
      have x5 := (B0.out.keep HW.out).c 1 rfl
      have x2 := hcs _ hb0
      have g1 := (HG.out.keep HW.out).c hlt
      have x3 := HF.out.f hb0
      obtain ⟨old, x4⟩ : ∃ y, wr.cell? ⟨V0.heap.size, (As.bst V).getD k 0, none⟩ = some (.int .i64 y) := ⟨_, HF.out.c hb0⟩
      have hfp := HFP.out k hlt
      have HNEW := Lib.hid ((HF.out.set ((As.bst V).getD k 0) (P ((As.bst V).getD k 0))).cong (HST.out k hlt))
      obtain ⟨v1, v2⟩ := HVO.out k
      obtain ⟨u1, u2⟩ := HGB.out k hlt
      obtain ⟨s1, s2⟩ := HSR.out k (by omega)
      have HS1 := Lib.hid (HSU.out k)
      have hvv : As.vl V k ((As.bst V).getD k 0) = As.vo V (As.bst V) k := rfl
      rw [hvv] at x2
      rw [hfp] at HNEW
      clear hxs hcs hfp hvv
      generalize As.vo V (As.bst V) k = x at *
      generalize G k = gk at *
      generalize (As.bst V).getD k 0 = m at *
      generalize As.sm (fun i => As.vo V (As.bst V) i - G i) (List.range k) = sm0 at *
      have HNW := Lib.hid (show Below V0.heap.size V0 (wr.setCell ⟨V0.heap.size, m, none⟩ (.int .i64 (x - gk))) from HW.out.setCell (Nat.le_refl _) _)
      have HX1 := Lib.hid (show (wr.setCell ⟨V0.heap.size, m, none⟩ (.int .i64 (x - gk))).cell? ⟨V0.heap.size, m, none⟩ = some (.int .i64 (x - gk)) from by
        have := (HF.out.set m (x - gk)).c hb0
        rw [if_pos rfl] at this
        exact this)
      have HX0 := Lib.hid (show (wr.setCell ⟨V0.heap.size, m, none⟩ (.int .i64 (x - gk))).cell? ⟨xb, xo + k, none⟩ = some (.int .i64 m) from cell_far x0 (by omega) _)
      clear hxl
      have i1 : (k : Int) < (V.length : Int) := by omega
      have i2 : (m : Int) < (V.length : Int) := by omega
      have a1 : IntKind.i64.wrap (x - gk) = x - gk := IntWalk.i64_in _ (by omega)
      have a2 : IntKind.i64.wrap (sm0 + (x - gk)) = sm0 + (x - gk) := IntWalk.i64_in _ (by omega)
      go_wp2_with fail
      go_big_region
      clear x0 x1 x2 x3 x4 x5 g1 a1
      have x1 := HX1.out
      have x0 := HX0.out
      go_wp2_with fail
      go_roundw
      case rel => exact ⟨k + 1, by omega, by go_num, by rw [HS1.out], Lib.hid HNW.out.drew, Lib.hid HNEW.out.drew⟩
      case measure => simp [intOf]; omega
    · obtain rfl : k = V.length := by omega
      rw [HSM.out]
      have HF2 := Lib.hid (HF.out.cong (G := P) fun j hj => by rw [if_pos (HIX.out j hj)])
      obtain ⟨s1, s2⟩ := HSR.out V.length (Nat.le_refl _)
      rw [HSM.out] at s1 s2
      go_wp2_with fail
      go_loopw [11] (fun i W => ∃ k : Nat, k ≤ V.length ∧ i = .int .i64 k ∧ Hid (Below V0.heap.size V0 W) ∧ Hid (BF W V0.heap.size V.length (fun j => if j < k then As.shp V.length P R j else P j))) (fun i _ => V.length - (intOf i).toNat)
      case atStart => exact ⟨0, Nat.zero_le _, rfl, HW, Lib.hid (HF2.out.cong fun j _ => by simp)⟩
      case round =>
        clear HW HF HF2
        obtain ⟨k, hk, rfl, HW, HF⟩ := hrel
        by_cases hlt : k < V.length
        · have x1 := HF.out.c hlt
          have x3 := HF.out.f hlt
          rw [if_neg (Nat.lt_irrefl k)] at x1
          have x5 := (B0.out.keep HW.out).c 1 rfl
          obtain ⟨p1, p2⟩ := HPB.out k hlt
          obtain ⟨q1, q2⟩ := HSB.out k hlt
          have hsh := HSH.out k
          have HNEW := Lib.hid ((HF.out.set k (As.shp V.length P R k)).cong (G := fun j => if j < k + 1 then As.shp V.length P R j else P j) fun j _ => by
            by_cases e : j = k
            · subst e; rw [if_pos rfl, if_pos (by omega)]
            · rw [if_neg e]
              by_cases e2 : j < k
              · rw [if_pos e2, if_pos (by omega)]
              · rw [if_neg e2, if_neg (by omega)])
          generalize hsk : As.shp V.length P R k = sk at *
          clear hsk
          generalize As.sm P (List.range V.length) = S at *
          have m1 : -48000000 ≤ P k * V.length ∧ P k * V.length ≤ 48000000 := by
            have k1 : P k * V.length ≤ 8000000 * V.length := Int.mul_le_mul_of_nonneg_right p2 (by omega)
            have k2 : -8000000 * (V.length : Int) ≤ P k * V.length := Int.mul_le_mul_of_nonneg_right p1 (by omega)
            omega
          obtain ⟨m1, m2⟩ := m1
          generalize P k = x at *
          obtain ⟨y, hy⟩ : ∃ y, x * (V.length : Int) = y := ⟨_, rfl⟩
          rw [hy] at m1 m2 hsh
          have a1 : IntKind.i64.wrap (x * (V.length : Int)) = y := by rw [hy]; exact IntWalk.i64_in _ (by omega)
          have a2 : IntKind.i64.wrap (y + R) = y + R := IntWalk.i64_in _ (by omega)
          have a3 : IntKind.i64.wrap (y + R - S) = sk := by rw [← hsh]; exact IntWalk.i64_in _ (by omega)
          have HNW := Lib.hid (show Below V0.heap.size V0 (wr.setCell ⟨V0.heap.size, k, none⟩ (.int .i64 sk)) from HW.out.setCell (Nat.le_refl _) _)
          have i1 : (k : Int) < (V.length : Int) := by omega
          clear hsh hy
          go_wp2_with fail
          go_big_region
          clear x1 x3 x5 a1 a2 a3
          go_wp2_with fail
          go_roundw
          case rel => exact ⟨k + 1, by omega, by go_num, Lib.hid HNW.out.drew, Lib.hid HNEW.out.drew⟩
          case measure => simp [intOf]; omega
        · obtain rfl : k = V.length := by omega
          have hI := (HF.out.cong (G := As.shp V.length P R) fun j hj => by rw [if_pos hj]).isI (fun j hj => by have := HSB.out j hj; unfold I64; omega)
          have HLC := Lib.hid (HLO.out wr _ V.length hI)
          have hv0 := B1.out.lt
          have hvs := HB.out.size
          replace B1 := Lib.hid (B1.out.keep HW.out)
          replace HB := Lib.hid (keepB HB.out HW.out)
          have HWS := Lib.hid HW.out.size
          clear hI HF HLO
          go_wp2_with fail
          refine HLC.out.mono ?_
          rintro e w3 ⟨Y, cY, rfl, hY, hfr, hb⟩
          have hne : ∀ b off, Y = some ⟨b, off, none⟩ → V0.heap.size ≤ b := fun b off e => by
            rcases hfr with h | h
            · rw [h] at e
              simp only [Option.some.injEq, Addr.mk.injEq] at e
              omega
            · have := h b off e
              have := HWS.out
              omega
          have hn1 : ∀ b off, Y = some ⟨b, off, none⟩ → w.heap.size + 1 ≠ b := fun b off e => by have := hne b off e; omega
          have HFR := Lib.hid (show ∀ b off, Y = some ⟨b, off, none⟩ → w.heap.size ≤ b from fun b off e => by have := hne b off e; omega)
          have HIW := Lib.hid (fun k1 u1 k2 u2 k3 u3 => ((hY.far hn1 k1 u1).far hn1 k2 u2).far hn1 k3 u3)
          have HBW := Lib.hid (keepB HB.out hb)
          have hb1 := B1.out.keep hb
          have bb := ((hb1.set 0 (.slice X V.length cx)).set 1 (.slice Y V.length cY)).set 2 (.int .i64 dn)
          have z0 := hb1.c 0 rfl
          have z1 := hb1.c 1 rfl
          have z2 := hb1.c 2 rfl
          have f0 := hb1.f 0 rfl
          have f1 := hb1.f 1 rfl
          have f2 := hb1.f 2 rfl
          have r0' := bb.c 0 rfl
          have r1' := bb.c 1 rfl
          have r2' := bb.c 2 rfl
          have HFIN := Lib.hid (fun v h1 h3 => HQ.out Y cY v h1 HFR.out h3)
          clear bb hb1 hY hfr hne hn1 hb HLC hv0 hvs
          go_wp2_with fail
          exact bodyPost_ret (v := .agg #[.slice X V.length cx, .slice Y V.length cY, .int .i64 dn]) (by simp [results, Tryz.results23, go_sem, r0', r1', r2']) rfl (HFIN.out _ (HIW.out _ _ _ _ _ _) (((HBW.out.setCell (Nat.le_succ _) _).setCell (Nat.le_succ _) _).setCell (Nat.le_succ _) _))
end Go.Proofs.YtncmffhoodfhjaaGreat
