/- Package room: Gains; the reference's Gains. -/
import Derived.Test.YtpiolhjiflohgaaLvc
import Derived.Test.YtpiolhjiflohgaaIow
namespace Go.Proofs.Ytpiolhjiflohgaa
open Go.RowKit
namespace As
/-- What Gains returns. -/
def gnS (V : List (List Int)) (R : Int) (xs ps : List Int) (D : Int) : List Int := if vld V R xs ps D = 0 then gnl V (xs.map Int.toNat) ps D V.length else []
theorem gnl_len (V : List (List Int)) (a : List Nat) (ps : List Int) (D : Int) (k : Nat) : (gnl V a ps D k).length = k := by simp [gnl]
theorem vld_cases (V : List (List Int)) (R : Int) (xs ps : List Int) (D : Int) : vld V R xs ps D = 0 ∨ (vld V R xs ps D != 0) = true ∧ vld V R xs ps D ≠ 0 := by
  by_cases h : vld V R xs ps D = 0
  · exact .inl h
  · exact .inr ⟨by rw [bne_iff_ne]; exact h, h⟩
theorem gnS_no {V : List (List Int)} {R : Int} {xs ps : List Int} {D : Int} (h : vld V R xs ps D ≠ 0) : gnS V R xs ps D = [] := by unfold gnS; rw [if_neg h]
theorem gnS_yes {V : List (List Int)} {R : Int} {a : List Nat} {ps : List Int} {D : Int} (h : vld V R (al a) ps D = 0) : gnS V R (al a) ps D = gnl V a ps D V.length := by unfold gnS; rw [if_pos h, toNat_al]
end As
/-- A valid lease in memory. -/
theorem ls_of {w : World} {A B C : Option Addr} {V : List (List Int)} {R : Int} {xs ps : List Int} {D : Int} (h : As.vld V R xs ps D = 0) (hM : IsM w A V) (hB : IsI w B xs) (hC : IsI w C ps) : ∃ a, xs = As.al a ∧ Ls w A B C V R a ps D := by
  obtain ⟨ok, r0, r1, a, rfl, le⟩ := As.vld_zero h
  exact ⟨a, rfl, ok, r0, r1, le, hM, hB, hC⟩
/-- What Gains gives. -/
def GnQ (w : World) (V : List (List Int)) (R : Int) (xs ps : List Int) (D : Int) (e : Ending) (w' : World) : Prop :=
  ∃ X c, e = .returned (.tuple #[.slice X (As.gnS V R xs ps D).length c, .int .i64 (As.vld V R xs ps D)]) ∧ IsI w' X (As.gnS V R xs ps D) ∧ Below w.heap.size w w'
/-- An int more in a slice of the call's own. -/
theorem own_app {W w3 w6 : World} {v : Value} {o : Obj} {B : Nat} (hB : B = W.heap.size) (hb : Below W.heap.size W w3) (hO : ∀ g, v.ownBlock = some g → B ≤ g) (hg : (w3.alloc o).grownBy w6 v.ownBlock) : Below W.heap.size W w6 := by
  subst hB
  exact (below_al hb o).grown hg (by have := hb.size; simp; omega) hO
theorem gn_i64 {w : World} {A B C : Option Addr} {V : List (List Int)} {R : Int} {a : List Nat} {ps : List Int} {D : Int} (h : Ls w A B C V R a ps D) : ∀ x ∈ As.gnl V a ps D V.length, I64 x := fun x hx => by
  obtain ⟨i, hi, rfl⟩ := List.mem_map.1 hx
  have hi' : i < V.length := by simpa using hi
  have := As.gnF_bd h.ok h.le i (h.lt hi')
  unfold I64; omega
set_option maxRecDepth 100000 in
set_option maxHeartbeats 4000000 in
theorem rmGains_any (A : Option Addr) (cv : Nat) (V : List (List Int)) (R : Int) (B : Option Addr) (ca : Nat) (xs : List Int) (C : Option Addr) (cp : Nat) (ps : List Int) (D : Int) (w : World) (hl : V.length ≤ maxLen) (h : IsM w A V) (hx : xs.length ≤ maxLen) (hB : IsI w B xs) (hpm : ps.length ≤ maxLen) (hC : IsI w C ps) :
    Calls Try.prog 21 #[.agg #[.slice A V.length cv, .int .i64 R], .agg #[.slice B xs.length ca, .slice C ps.length cp, .int .i64 D]] w (GnQ w V R xs ps D) := by
  have CV := fun v (hv : Below w.heap.size w v) => rmValid_any A cv V R B ca xs C cp ps D v hl (h.keep hv) hx (hB.keep hv) hpm (hC.keep hv)
  rcases As.vld_cases V R xs ps D with h0 | ⟨h1, h2⟩
  · rw [h0] at CV
    obtain ⟨a, rfl, hL⟩ := ls_of h0 h hB hC
    have la := hL.la
    have lp := hL.le.len
    have n6 := hL.ok.n6
    have HF := Lib.hid (show ∀ (X : Option Addr) (c Bs : Nat) (w' : World), Own w' Bs (.slice X V.length c) (As.gnl V a ps D V.length) → Below w.heap.size w w' → GnQ w V R (As.al a) ps D (.returned (.tuple #[.slice X V.length c, .int .i64 0])) w' from fun X c Bs w' hO hb => ⟨X, c, by rw [As.gnS_yes h0, As.gnl_len, h0], by
      rw [As.gnS_yes h0]
      exact hO.isI (gn_i64 hL), hb⟩)
    rw [As.al_len, la, lp] at CV ⊢
    have CG := Lib.hid (fun v => gainsAt_any A cv V R B ca V.length C cp V.length D v)
    have CV' := Lib.hid CV
    have HL := Lib.hid hL
    obtain ⟨i0, hi0, hz0, hz1, hz2⟩ := info_parts intInfo
    have HI := Lib.hid hi0
    have HI2 := Lib.hid hz0
    have HI3 := Lib.hid hz1
    have HI4 := Lib.hid hz2
    clear CV h0 h hB hC hL la lp hi0 hz0 hz1 hz2 hx hpm
    go_enter Try.func21, Try.ntmps21
    go_upto_region 1 with fail
    refine at_box2 (fun V0 hbb b0 b1 hsz => ?_)
    clear hsz
    have c0 := b0.c 0 rfl
    have c1 := b0.c 1 rfl
    have k0 := b1.c 0 rfl
    have k1 := b1.c 1 rfl
    have k2 := b1.c 2 rfl
    go_wp2_with fail
    refine (CV'.out _ hbb).mono ?_
    rintro e w1 ⟨rfl, hb1⟩
    replace c0 := keepC hb1 c0
    replace c1 := keepC hb1 c1
    replace k0 := keepC hb1 k0
    replace k1 := keepC hb1 k1
    replace k2 := keepC hb1 k2
    replace hbb := keepB hbb hb1
    clear hb1 b0 b1
    go_wp2_with fail
    refine (CG.out _).mono ?_
    rintro e w2 ⟨p, q, rfl, hX, hb2⟩
    replace k0 := keepC hb2 k0
    have HX := Lib.hid hX
    have HBB := Lib.hid (keepB hbb hb2)
    have HLS := Lib.hid (HL.out.keep (keepB hbb hb2))
    clear hb2 hX c0 c1 k1 k2 hbb
    go_wp2_with fail
    go_loopw [8, 23] (fun v i W => ∃ k : Nat, k ≤ V.length ∧ i = .int .i64 k ∧ Hid (Below w2.heap.size w2 W) ∧ Hid (Own W w2.heap.size v (As.gnl V a ps D k))) (fun _ i _ => V.length - (intOf i).toNat)
    case atStart => exact ⟨0, Nat.zero_le _, rfl, Lib.hid (Below.refl _ _), Lib.hid (Own.nil_ _ _)⟩
    case round =>
      obtain ⟨k, hk, rfl, HW, HO⟩ := hrel
      by_cases hlt : k < V.length
      · obtain ⟨bb, bo, rfl, hcs⟩ := list_at HLS.out.hB (j := k) (by rw [As.al_len, HLS.out.la]; exact hlt)
        have x0 := keepC HW.out (hcs k (by rw [As.al_len, HLS.out.la]; exact hlt))
        rw [As.el_al] at x0
        have hj := HLS.out.lt hlt
        have HG := Lib.hid (rmGain1_any p q A cv V R (some ⟨bb, bo, none⟩) ca a C cp ps D k (a.getD k 0) wr (HLS.out.keep HW.out) (HX.out.keep HW.out) hlt hj)
        have HS := Lib.hid (As.gnl_succ V a ps D k)
        have HLEN := Lib.hid (As.gnl_len V a ps D k)
        clear hcs
        generalize As.gnF V ps D k (a.getD k 0) = x at *
        generalize a.getD k 0 = j at *
        go_wp2_with fail
        refine HG.out.mono ?_
        rintro e w3 ⟨rfl, hb3⟩
        have HO3 := Lib.hid (HO.out.keepB hb3)
        have HW3 := Lib.hid (keepB HW.out hb3)
        have hO := HO3.out
        unfold Own at hO
        rw [HLEN.out] at hO
        have hsz3 := HW3.out.size
        clear hb3 x0
        go_wp2_with (at_builtin; go_loud (refine wpList_append_lies _ rfl _ _ _ rfl w2.heap.size 3 i0 _ 1 8 Try.underlying26 HI.out HI2.out HI3.out HI4.out rfl (by omega) _ k ((As.gnl V a ps D k).map (Value.int .i64)) (by rfl) (World.ownsRow.alloc hO _) ⟨w3.heap.size, 0, none⟩ 1 1 [.int .i64 x] (by rfl) (by rfl) (World.news_of_block (cs := #[.int .i64 x]) (t := 3) (fr := (0, 0)) (heap_alloc_new w3 _)) (by simp [Value.oneCell']) (by omega) (by unfold maxLen; omega) (by omega) (by simp; omega) (w3.heap.size + 1) (by simp) ?_; intro g cap w6 hown1 hgrow hat hglt))
        all_goals exact ⟨⟨k + 1, by omega, by go_num, Lib.hid (own_app rfl HW3.out (fun b hb => (World.ownsRow.lt hO b hb).1) hgrow), Lib.hid (by
          unfold Own
          rw [HS.out, List.length_append, HLEN.out, List.map_append]
          exact hown1)⟩, by simp [intOf]; omega⟩
      · obtain rfl : k = V.length := by omega
        obtain ⟨X, cc, rfl⟩ := HO.out.form
        have hO := HO.out
        rw [As.gnl_len] at hO ⊢
        have HFF := Lib.hid (HF.out X cc _ wr hO (keepB HBB.out HW.out))
        clear hO
        go_wp2_with fail
        go_ret2
        exact HFF.out
  · have HQ := Lib.hid (show ∀ (w' : World), Below w.heap.size w w' → GnQ w V R xs ps D (.returned (.tuple #[.slice none 0 0, .int .i64 (As.vld V R xs ps D)])) w' from fun w' hb => ⟨none, 0, by rw [As.gnS_no h2]; rfl, by rw [As.gnS_no h2]; exact isI_nil _ _, hb⟩)
    generalize As.vld V R xs ps D = c at *
    have CV' := Lib.hid CV
    clear CV h2 h hB hC hl hx hpm
    go_enter Try.func21, Try.ntmps21
    go_upto_region 1 with fail
    refine at_box2 (fun V0 hbb b0 b1 hsz => ?_)
    clear hsz
    have c0 := b0.c 0 rfl
    have c1 := b0.c 1 rfl
    have k0 := b1.c 0 rfl
    have k1 := b1.c 1 rfl
    have k2 := b1.c 2 rfl
    go_wp2_with fail
    refine (CV'.out _ hbb).mono ?_
    rintro e w1 ⟨rfl, hb1⟩
    replace hbb := keepB hbb hb1
    clear hb1 b0 b1 c0 c1 k0 k1 k2
    go_wp2_with fail
    go_ret2
    exact HQ.out _ hbb
end Go.Proofs.Ytpiolhjiflohgaa
