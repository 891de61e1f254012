/- The reference's Gains. Slices of pairs of ints; package room: Envies. The reference of layer 14: Check, Valid. The reference's Envies. The reference of layer 14: Great, SamePairs and Same of equal arguments. -/
import Derived.Test.YtncmffhoodfhjaaYl
import Derived.Test.YtncmffhoodfhjaaYf
import Derived.Deep.RegionHeld3
import Derived.Test.YtncmffhoodfhjaaYg
import Derived.Deep.QuietTactic
import Derived.BigQuiet
import Derived.ChangeKeysEq
namespace Go.Proofs.Ytncmffhoodfhjaa
open Go.RowKit
end Go.Proofs.Ytncmffhoodfhjaa
namespace Go.Proofs.Ytncmffhoodfhjaa
open Go.RowKit
/-- The cells of pairs. -/
def pcs (l : List (Nat × Nat)) : List Value := l.flatMap fun x => [.int .i64 (x.1 : Int), .int .i64 (x.2 : Int)]
theorem pcs_app (l m : List (Nat × Nat)) : pcs (l ++ m) = pcs l ++ pcs m := List.flatMap_append
theorem pcs_len : ∀ (l : List (Nat × Nat)), (pcs l).length = l.length * 2
  | [] => rfl
  | r :: l => by
    have := pcs_len l
    unfold pcs at this ⊢
    simp only [List.flatMap_cons, List.length_append, this, List.length_cons, List.length_nil]
    omega
theorem pcs_at : ∀ {l : List (Nat × Nat)} {k : Nat}, k < l.length → (pcs l)[k * 2]? = some (.int .i64 ((l.getD k (0, 0)).1 : Int)) ∧ (pcs l)[k * 2 + 1]? = some (.int .i64 ((l.getD k (0, 0)).2 : Int))
  | r :: l, 0, _ => ⟨rfl, rfl⟩
  | r :: l, k + 1, h => by
    have ih := pcs_at (l := l) (k := k) (by simpa using h)
    have e : pcs (r :: l) = .int .i64 (r.1 : Int) :: .int .i64 (r.2 : Int) :: pcs l := rfl
    rw [e, show (k + 1) * 2 = k * 2 + 1 + 1 by omega, show k * 2 + 1 + 1 + 1 = (k * 2 + 1) + 1 + 1 by omega]
    simp only [List.getElem?_cons_succ, List.getD_cons_succ]
    exact ih
/-- A slice of pairs. -/
def IsP (w : World) (A : Option Addr) (l : List (Nat × Nat)) : Prop :=
  0 < l.length → ∃ b off, A = some ⟨b, off, none⟩ ∧ ∀ i, i < l.length → w.cell? ⟨b, off + i * 2, none⟩ = some (.int .i64 ((l.getD i (0, 0)).1 : Int)) ∧ w.cell? ⟨b, off + i * 2 + 1, none⟩ = some (.int .i64 ((l.getD i (0, 0)).2 : Int))
theorem IsP.keep {w v : World} {A : Option Addr} {l : List (Nat × Nat)} (h : IsP w A l) (hb : Below w.heap.size w v) : IsP v A l := fun h0 => by
  obtain ⟨b, off, e, hc⟩ := h h0
  exact ⟨b, off, e, fun i hi => ⟨keepC hb (hc i hi).1, keepC hb (hc i hi).2⟩⟩
theorem isP_nil (w : World) (A : Option Addr) : IsP w A [] := fun h => absurd h (by simp)
theorem isP_row {w : World} {B : Nat} {e : TypeId} {A : Option Addr} {n cap : Nat} {l : List (Nat × Nat)} (h : w.ownsRow B e 2 (.slice A n cap) n (pcs l)) (hn : n = l.length) : IsP w A l := fun h0 => by
  obtain ⟨g, cap', hv, _, hlt⟩ := World.ownsRow.form h (by omega)
  simp only [Value.slice.injEq] at hv
  obtain ⟨rfl, _, rfl⟩ := hv
  refine ⟨g, 0, rfl, fun i hi => ?_⟩
  rw [Nat.zero_add, World.ownsRow.cellAt h (i * 2) (by omega), World.ownsRow.cellAt h (i * 2 + 1) (by omega)]
  exact pcs_at hi
theorem pairInfo : (Try.prog.info? 67).map (fun i => (i.zero, i.size, i.bytes)) = some (some (.agg #[.int .i64 0, .int .i64 0]), 2, 16) := by kernel_rfl
namespace As
/-- What Envies returns. -/
def enS (V : List (List Int)) (R : Int) (xs ps : List Int) (D : Int) : List (Nat × Nat) := if vld V R xs ps D = 0 then envl V (xs.map Int.toNat) ps D V.length else []
theorem enS_no {V : List (List Int)} {R : Int} {xs ps : List Int} {D : Int} (h : vld V R xs ps D ≠ 0) : enS V R xs ps D = [] := by unfold enS; rw [if_neg h]
theorem enS_yes {V : List (List Int)} {R : Int} {a : List Nat} {ps : List Int} {D : Int} (h : vld V R (al a) ps D = 0) : enS V R (al a) ps D = envl V a ps D V.length := by unfold enS; rw [if_pos h, toNat_al]
theorem env1_le (V : List (List Int)) (a : List Nat) (ps : List Int) (D : Int) (i m : Nat) : (env1 V a ps D i m).length ≤ m := by
  unfold env1
  rw [List.length_map]
  exact Nat.le_trans (List.length_filter_le _ _) (by simp)
theorem envl_le {V : List (List Int)} (n6 : V.length ≤ 6) (a : List Nat) (ps : List Int) (D : Int) : ∀ k, (envl V a ps D k).length ≤ 6 * k
  | 0 => by simp [envl]
  | k + 1 => by
    rw [envl_succ, List.length_append]
    have := envl_le n6 a ps D k
    have := env1_le V a ps D k V.length
    omega
end As
/-- What Envies gives. -/
def EnQ (w : World) (V : List (List Int)) (R : Int) (xs ps : List Int) (D : Int) (e : Ending) (w' : World) : Prop :=
  ∃ X c, e = .returned (.tuple #[.slice X (As.enS V R xs ps D).length c, .int .i64 (As.vld V R xs ps D)]) ∧ IsP w' X (As.enS V R xs ps D) ∧ Below w.heap.size w w'
/-- Pairs of the call's own. -/
def OwnP (w : World) (B : Nat) (v : Value) (l : List (Nat × Nat)) : Prop := w.ownsRow B 67 2 v l.length (pcs l)
theorem OwnP.form {w : World} {B : Nat} {v : Value} {l : List (Nat × Nat)} (h : OwnP w B v l) : ∃ A cap, v = .slice A l.length cap := by
  rcases h.2 with ⟨h1, h2⟩ | ⟨g, cap, cur, h1, _⟩
  · exact ⟨none, 0, by rw [h1, h2]⟩
  · exact ⟨_, _, h1⟩
set_option maxRecDepth 100000 in
set_option maxHeartbeats 8000000 in
theorem rmEnvies_any (A : Option Addr) (cv : Nat) (V : List (List Int)) (R : Int) (B : Option Addr) (ca : Nat) (xs : List Int) (C : Option Addr) (cp : Nat) (ps : List Int) (D : Int) (w : World) (hl : V.length ≤ maxLen) (h : IsM w A V) (hx : xs.length ≤ maxLen) (hB : IsI w B xs) (hpm : ps.length ≤ maxLen) (hC : IsI w C ps) :
    Calls Try.prog 41 #[.agg #[.slice A V.length cv, .int .i64 R], .agg #[.slice B xs.length ca, .slice C ps.length cp, .int .i64 D]] w (EnQ w V R xs ps D) := by
  have CV := fun v (hv : Below w.heap.size w v) => rmValid_any A cv V R B ca xs C cp ps D v hl (h.keep hv) hx (hB.keep hv) hpm (hC.keep hv)
  rcases As.vld_cases V R xs ps D with h0 | ⟨h1, h2⟩
  · rw [h0] at CV
    obtain ⟨a, rfl, hL⟩ := ls_of h0 h hB hC
    have la := hL.la
    have lp := hL.le.len
    have n6 := hL.ok.n6
    have HF := Lib.hid (show ∀ (X : Option Addr) (c Bs : Nat) (w' : World), OwnP w' Bs (.slice X (As.envl V a ps D V.length).length c) (As.envl V a ps D V.length) → Below w.heap.size w w' → EnQ w V R (As.al a) ps D (.returned (.tuple #[.slice X (As.envl V a ps D V.length).length c, .int .i64 0])) w' from fun X c Bs w' hO hb => ⟨X, c, by rw [As.enS_yes h0, h0], by
      rw [As.enS_yes h0]
      exact isP_row hO rfl, hb⟩)
    rw [As.al_len, la, lp] at CV ⊢
    have CG := Lib.hid (fun v => gainsAt_any A cv V R B ca V.length C cp V.length D v)
    have CV' := Lib.hid CV
    have HL := Lib.hid hL
    have HEL := Lib.hid (As.envl_le n6 a ps D)
    obtain ⟨i0, hi0, hz0, hz1, hz2⟩ := info_parts pairInfo
    have HI := Lib.hid hi0
    have HI2 := Lib.hid hz0
    have HI3 := Lib.hid hz1
    have HI4 := Lib.hid hz2
    clear CV h0 h hB hC hL la lp hi0 hz0 hz1 hz2 hx hpm
    go_enter Try.func41, Try.ntmps41
    go_upto_region 1 with fail
    refine at_box2 (fun V0 hbb b0 b1 hsz => ?_)
    clear hsz
    have c0 := b0.c 0 rfl
    have c1 := b0.c 1 rfl
    have k0 := b1.c 0 rfl
    have k1 := b1.c 1 rfl
    have k2 := b1.c 2 rfl
    go_wp2_with fail
    refine (CV'.out _ hbb).mono ?_
    rintro e w1 ⟨rfl, hb1⟩
    replace c0 := keepC hb1 c0
    replace c1 := keepC hb1 c1
    replace k0 := keepC hb1 k0
    replace k1 := keepC hb1 k1
    replace k2 := keepC hb1 k2
    replace hbb := keepB hbb hb1
    clear hb1 b0 b1
    go_wp2_with fail
    refine (CG.out _).mono ?_
    rintro e w2 ⟨p, q, rfl, hX, hb2⟩
    replace k0 := keepC hb2 k0
    have HX := Lib.hid hX
    have HK0 := Lib.hid k0
    have HBB := Lib.hid (keepB hbb hb2)
    have HLS := Lib.hid (HL.out.keep (keepB hbb hb2))
    clear hb2 hX c0 c1 k1 k2 hbb
    go_wp2_with fail
    clear k0
    go_loopw [8, 25] (fun v i W => ∃ k : Nat, k ≤ V.length ∧ i = .int .i64 k ∧ Hid (Below w2.heap.size w2 W) ∧ Hid (OwnP W w2.heap.size v (As.envl V a ps D k))) (fun _ i _ => V.length - (intOf i).toNat)
    case atStart => exact ⟨0, Nat.zero_le _, rfl, Lib.hid (Below.refl _ _), Lib.hid (World.ownsRow_nil _ _ _ 2)⟩
    case round =>
      obtain ⟨k, hk, rfl, HW, HO⟩ := hrel
      by_cases hlt : k < V.length
      · obtain ⟨bb, bo, rfl, hcs⟩ := list_at HLS.out.hB (j := k) (by rw [As.al_len, HLS.out.la]; exact hlt)
        have HCS := Lib.hid (show ∀ m, m < V.length → w2.cell? ⟨bb, bo + m, none⟩ = some (.int .i64 ((a.getD m 0 : Nat) : Int)) from fun m hm => by
          have := hcs m (by rw [As.al_len, HLS.out.la]; exact hm)
          rwa [As.el_al] at this)
        have x0 := keepC HW.out (HCS.out k hlt)
        have hj := HLS.out.lt hlt
        obtain ⟨j, hje⟩ : ∃ j, a.getD k 0 = j := ⟨_, rfl⟩
        rw [hje] at x0 hj
        have HJE := Lib.hid hje
        clear hje
        have k0 := keepC HW.out HK0.out
        have HS0 := Lib.hid (show As.envl V a ps D k ++ As.env1 V a ps D k 0 = As.envl V a ps D k by simp [As.env1])
        have HSN := Lib.hid (show As.envl V a ps D k ++ As.env1 V a ps D k V.length = As.envl V a ps D (k + 1) from (As.envl_succ V a ps D k).symm)
        have HN1 := Lib.hid (HEL.out k)
        have HN2 := Lib.hid (fun m => As.env1_le V a ps D k m)
        have HOS := Lib.hid (show OwnP wr w2.heap.size u8 (As.envl V a ps D k ++ As.env1 V a ps D k 0) by rw [HS0.out]; exact HO.out)
        clear hcs
        go_wp2_with fail
        go_loopw [8, 33] (fun v i W => ∃ m : Nat, m ≤ V.length ∧ i = .int .i64 m ∧ Hid (Below w2.heap.size w2 W) ∧ Hid (OwnP W w2.heap.size v (As.envl V a ps D k ++ As.env1 V a ps D k m))) (fun _ i _ => V.length - (intOf i).toNat)
        case atStart => exact ⟨0, Nat.zero_le _, rfl, HW, HOS⟩
        case round =>
          clear x0 k0 HO HOS
          obtain ⟨m, hm, rfl, HW, HO⟩ := hrel
          by_cases hltm : m < V.length
          · have x1 := keepC HW.out (HCS.out m hltm)
            have hjm := HLS.out.lt hltm
            have HG1 := Lib.hid (rmGain1_any p q A cv V R (some ⟨bb, bo, none⟩) ca a C cp ps D k (a.getD m 0) wr (HLS.out.keep HW.out) (HX.out.keep HW.out) hlt hjm)
            have HG2 := Lib.hid (fun v (hv : Below w2.heap.size w2 v) => rmGain1_any p q A cv V R (some ⟨bb, bo, none⟩) ca a C cp ps D k j v (HLS.out.keep hv) (HX.out.keep hv) hlt hj)
            have HE := Lib.hid (As.env1_succ V a ps D k m)
            have HD := Lib.hid (show As.env V a ps D k m = decide (As.gnF V ps D k j < As.gnF V ps D k (a.getD m 0)) by rw [← HJE.out]; rfl)
            have hlen : (As.envl V a ps D k ++ As.env1 V a ps D k m).length ≤ 42 := by rw [List.length_append]; have := HN1.out; have := HN2.out m; omega
            obtain ⟨L, hLe⟩ : ∃ L, As.envl V a ps D k ++ As.env1 V a ps D k m = L := ⟨_, rfl⟩
            rw [hLe] at hlen HO
            have HLE := Lib.hid hLe
            obtain ⟨nl, hnl⟩ : ∃ nl, L.length = nl := ⟨_, rfl⟩
            rw [hnl] at hlen
            have HNL := Lib.hid hnl
            generalize As.gnF V ps D k j = x at *
            generalize As.gnF V ps D k (a.getD m 0) = y at *
            generalize a.getD m 0 = jm at *
            clear hLe hnl hjm
            go_wp2_with fail
            refine HG1.out.mono ?_
            rintro e w3 ⟨rfl, hb3⟩
            have HW3 := Lib.hid (keepB HW.out hb3)
            have HO3 := Lib.hid (ownG_keepB HO.out hb3)
            clear x1 hb3
            go_wp2_with fail
            refine (HG2.out _ HW3.out).mono ?_
            rintro e w4 ⟨rfl, hb4⟩
            have HW4 := Lib.hid (keepB HW3.out hb4)
            have HO4 := Lib.hid (ownG_keepB HO3.out hb4)
            have hO := HO4.out
            rw [HNL.out] at hO
            have hsz4 := HW4.out.size
            clear hb4
            by_cases hxy : x < y
            · have d1 : decide (x < y) = true := decide_eq_true hxy
              have HEV := Lib.hid (show As.env V a ps D k m = true by rw [HD.out]; exact d1)
              clear hxy
              go_wp2_with (at_builtin; go_loud (refine wpList_append_lies _ rfl _ _ _ rfl w2.heap.size 67 i0 _ 2 16 Try.underlying61 HI.out HI2.out HI3.out HI4.out rfl (by omega) _ nl (pcs L) (by rfl) (World.ownsRow.alloc hO _) ⟨w4.heap.size, 0, none⟩ 1 1 [.int .i64 (k : Int), .int .i64 (m : Int)] (by rfl) (by rfl) (World.news_of_block (cs := #[.int .i64 (k : Int), .int .i64 (m : Int)]) (t := 67) (fr := (0, 0)) (heap_alloc_new w4 _)) (by simp [Value.oneCell']) (by omega) (by unfold maxLen; omega) (by omega) (by simp; omega) (w4.heap.size + 1) (by simp) ?_; intro g cap w6 hown1 hgrow hat hglt))
              all_goals exact ⟨⟨m + 1, by omega, by go_num, Lib.hid (own_app rfl HW4.out (fun b hb => (World.ownsRow.lt hO b hb).1) hgrow), Lib.hid (by
                unfold OwnP
                rw [HE.out, HEV.out, if_pos rfl, ← List.append_assoc, HLE.out, List.length_append, HNL.out, pcs_app]
                exact hown1)⟩, by simp [intOf]; omega⟩
            · have d1 : decide (x < y) = false := decide_eq_false hxy
              have HEV := Lib.hid (show As.env V a ps D k m = false by rw [HD.out]; exact d1)
              clear hxy
              go_wp2_with fail
              go_roundw
              case rel => exact ⟨m + 1, by omega, by go_num, HW4, Lib.hid (by
                rw [HE.out, HEV.out, if_neg (by simp), List.append_nil, HLE.out]
                exact HO4.out)⟩
              case measure => simp [intOf]; omega
          · obtain rfl : m = V.length := by omega
            rw [HSN.out] at HO
            go_wp2_with fail
            go_roundw
            case rel => exact ⟨k + 1, by omega, by go_num, HW, HO⟩
            case measure => simp [intOf]; omega
      · obtain rfl : k = V.length := by omega
        obtain ⟨X, cc, rfl⟩ := HO.out.form
        have HFF := Lib.hid (HF.out X cc _ wr HO.out (keepB HBB.out HW.out))
        clear HO
        generalize (As.envl V a ps D V.length).length = nn at *
        go_wp2_with fail
        go_ret2
        exact HFF.out
  · have HQ := Lib.hid (show ∀ (w' : World), Below w.heap.size w w' → EnQ w V R xs ps D (.returned (.tuple #[.slice none 0 0, .int .i64 (As.vld V R xs ps D)])) w' from fun w' hb => ⟨none, 0, by rw [As.enS_no h2]; rfl, by rw [As.enS_no h2]; exact isP_nil _ _, hb⟩)
    generalize As.vld V R xs ps D = c at *
    have CV' := Lib.hid CV
    clear CV h2 h hB hC hl hx hpm
    go_enter Try.func41, Try.ntmps41
    go_upto_region 1 with fail
    refine at_box2 (fun V0 hbb b0 b1 hsz => ?_)
    clear hsz
    have c0 := b0.c 0 rfl
    have c1 := b0.c 1 rfl
    have k0 := b1.c 0 rfl
    have k1 := b1.c 1 rfl
    have k2 := b1.c 2 rfl
    go_wp2_with fail
    refine (CV'.out _ hbb).mono ?_
    rintro e w1 ⟨rfl, hb1⟩
    replace hbb := keepB hbb hb1
    clear hb1 b0 b1 c0 c1 k0 k1 k2
    go_wp2_with fail
    go_ret2
    exact HQ.out _ hbb
end Go.Proofs.Ytncmffhoodfhjaa
namespace Go.Proofs.Ytncmffhoodfhjaa
open Go.RowKit
set_option maxHeartbeats 2000000 in
theorem r14Check_any (A : Option Addr) (cv : Nat) (V : List (List Int)) (R : Int) (w : World) (hl : V.length ≤ maxLen) (h : IsM w A V) :
    Calls Try.prog 38 #[.agg #[.slice A V.length cv, .int .i64 R]] w fun e w' => e = .returned (.int .i64 (As.rchk V R)) ∧ Below w.heap.size w w' := by
  have CK := fun v (hv : Below w.heap.size w v) => rCheck_any A cv V v hl (h.keep hv)
  rcases As.rchk_cases V R with ⟨h1, h2, h3, h4⟩ | ⟨h1, h2, h3⟩ | ⟨h1, h2, h3⟩
  · rw [h1]
    simp only [h2] at CK
    have CK' := Lib.hid CK
    have d1 : decide (R < 0) = false := by rw [decide_eq_false_iff_not]; omega
    have d2 : decide (10000000 < R) = false := by rw [decide_eq_false_iff_not]; omega
    clear CK h1 h2 h3 h4 h
    go_enter Try.func38, Try.ntmps38
    go_upto_region 1 with fail
    refine at_box1 (fun V0 hbb b0 hsz => ?_)
    clear hsz
    have c0 := b0.c 0 rfl
    have c1 := b0.c 1 rfl
    go_wp2_with fail
    refine (CK'.out _ hbb).mono ?_
    rintro e w1 ⟨rfl, hb1⟩
    replace c0 := keepC hb1 c0
    replace c1 := keepC hb1 c1
    replace b0 := b0.keep hb1
    replace hbb := keepB hbb hb1
    clear hb1
    go_wp2_with fail
    go_ret
    exact ⟨rfl, hbb⟩
  · rw [h1]
    simp only [h2] at CK
    have CK' := Lib.hid CK
    clear CK h1 h2 h
    by_cases hR : R < 0
    · have d1 : decide (R < 0) = true := by rw [decide_eq_true_eq]; exact hR
      clear h3 hR
      go_enter Try.func38, Try.ntmps38
      go_upto_region 1 with fail
      refine at_box1 (fun V0 hbb b0 hsz => ?_)
      clear hsz
      have c0 := b0.c 0 rfl
      have c1 := b0.c 1 rfl
      go_wp2_with fail
      refine (CK'.out _ hbb).mono ?_
      rintro e w1 ⟨rfl, hb1⟩
      replace c0 := keepC hb1 c0
      replace c1 := keepC hb1 c1
      replace b0 := b0.keep hb1
      replace hbb := keepB hbb hb1
      clear hb1
      go_wp2_with fail
      go_ret
      exact ⟨rfl, hbb⟩
    · have d1 : decide (R < 0) = false := by rw [decide_eq_false_iff_not]; exact hR
      have d2 : decide (10000000 < R) = true := by rw [decide_eq_true_eq]; omega
      clear h3 hR
      go_enter Try.func38, Try.ntmps38
      go_upto_region 1 with fail
      refine at_box1 (fun V0 hbb b0 hsz => ?_)
      clear hsz
      have c0 := b0.c 0 rfl
      have c1 := b0.c 1 rfl
      go_wp2_with fail
      refine (CK'.out _ hbb).mono ?_
      rintro e w1 ⟨rfl, hb1⟩
      replace c0 := keepC hb1 c0
      replace c1 := keepC hb1 c1
      replace b0 := b0.keep hb1
      replace hbb := keepB hbb hb1
      clear hb1
      go_wp2_with fail
      go_ret
      exact ⟨rfl, hbb⟩
  · rw [h1]
    generalize As.chk V = c at *
    have CK' := Lib.hid CK
    clear CK h1 h3 h
    go_enter Try.func38, Try.ntmps38
    go_upto_region 1 with fail
    refine at_box1 (fun V0 hbb b0 hsz => ?_)
    clear hsz
    have c0 := b0.c 0 rfl
    have c1 := b0.c 1 rfl
    go_wp2_with fail
    refine (CK'.out _ hbb).mono ?_
    rintro e w1 ⟨rfl, hb1⟩
    replace c0 := keepC hb1 c0
    replace c1 := keepC hb1 c1
    replace b0 := b0.keep hb1
    replace hbb := keepB hbb hb1
    clear hb1
    go_wp2_with fail
    refine (CK'.out _ hbb).mono ?_
    rintro e w1 ⟨rfl, hb1⟩
    replace c0 := keepC hb1 c0
    replace c1 := keepC hb1 c1
    replace b0 := b0.keep hb1
    replace hbb := keepB hbb hb1
    clear hb1
    go_wp2_with fail
    go_ret
    exact ⟨rfl, hbb⟩
namespace As
theorem leB_no {n : Nat} {R : Int} {xs ps : List Int} {D : Int} {j : Nat} (hj : j < n) (h : prB D (el ps j) = false) : leB n R xs ps D = false := by
  unfold leB
  have : (List.range n).all (fun j => prB D (el ps j)) = false := by rw [List.all_eq_false]; exact ⟨j, by simpa using hj, by rw [h]; simp⟩
  rw [this]
  simp
theorem leB_end {n : Nat} {R : Int} {xs ps : List Int} {D : Int} (ha : isA xs n = true) (hp : ps.length = n) (d1 : 1 ≤ D) (d2 : D ≤ 60) (h : ∀ j, j < n → prB D (el ps j) = true) : leB n R xs ps D = decide (sm (el ps) (List.range n) = D * R) := by
  unfold leB
  have : (List.range n).all (fun j => prB D (el ps j)) = true := by rw [List.all_eq_true]; intro j hj; exact h j (by simpa using hj)
  rw [this, ha, decide_eq_true hp, decide_eq_true d1, decide_eq_true d2]
  simp
theorem prB_bd {D x : Int} (h : prB D x = true) (d1 : 1 ≤ D) (d2 : D ≤ 60) : -1000000000 ≤ x ∧ x ≤ 1000000000 := by
  unfold prB at h
  simp only [Bool.and_eq_true, decide_eq_true_eq] at h
  omega
theorem vld_leB {V : List (List Int)} {R : Int} {xs ps : List Int} {D : Int} (h0 : rchk V R = 0) : vld V R xs ps D = if leB V.length R xs ps D = true then 0 else 8 := by unfold vld; rw [if_pos h0]
end As
set_option maxRecDepth 100000 in
set_option maxHeartbeats 4000000 in
theorem r14Valid_any (A : Option Addr) (cv : Nat) (V : List (List Int)) (R : Int) (B : Option Addr) (ca : Nat) (xs : List Int) (C : Option Addr) (cp : Nat) (ps : List Int) (D : Int) (w : World) (hl : V.length ≤ maxLen) (h : IsM w A V) (hx : xs.length ≤ maxLen) (hB : IsI w B xs) (hC : IsI w C ps) :
    Calls Try.prog 18 #[.agg #[.slice A V.length cv, .int .i64 R], .agg #[.slice B xs.length ca, .slice C ps.length cp, .int .i64 D]] w fun e w' => e = .returned (.int .i64 (As.vld V R xs ps D)) ∧ Below w.heap.size w w' := by
  have CK := fun v (hv : Below w.heap.size w v) => r14Check_any A cv V R v hl (h.keep hv)
  have CV := fun v (hv : Below w.heap.size w v) => rAssigned_any B ca xs V.length v hx (hB.keep hv)
  rcases As.rchk_two V R with ⟨h0, hc, r0, r1⟩ | ⟨h1, h2⟩
  · rw [h0] at CK
    have CK' := Lib.hid CK
    have n6 := (As.chk_ok hc).n6
    by_cases ha : As.isA xs V.length = true
    · rw [ha] at CV
      have CV' := Lib.hid CV
      by_cases hpl : ps.length = V.length
      · have dl : ((ps.length : Int) != V.length) = false := by rw [bne_eq_false_iff_eq]; omega
        by_cases e1 : 1 ≤ D
        · by_cases e2 : D ≤ 60
          · have d1 : decide (D < 1) = false := by rw [decide_eq_false_iff_not]; omega
            have d2 : decide (60 < D) = false := by rw [decide_eq_false_iff_not]; omega
            have m1 : D * R ≤ 60 * 10000000 := Int.mul_le_mul e2 r1 (by omega) (by omega)
            have m0 : 0 ≤ D * R := Int.mul_nonneg (by omega) r0
            obtain ⟨y, hy⟩ : ∃ y, D * R = y := ⟨_, rfl⟩
            have hw : IntKind.i64.wrap (D * R) = y := by rw [IntWalk.i64_in _ (by omega)]; exact hy
            have HV := Lib.hid (As.vld_leB (xs := xs) (ps := ps) (D := D) h0)
            have HNo := Lib.hid (fun j hj hh => @As.leB_no V.length R xs ps D j hj hh)
            have HEnd := Lib.hid (fun hh => @As.leB_end V.length R xs ps D ha hpl e1 e2 hh)
            have HPB := Lib.hid (fun x hh => @As.prB_bd D x hh e1 e2)
            have HY := Lib.hid hy
            have HC := Lib.hid hC
            have HPL := Lib.hid hpl
            rw [hpl] at dl
            clear CK CV h0 hc ha h hB hC m0 m1 hy
            rw [hpl]
            go_enter Try.func18, Try.ntmps18
            go_upto_region 1 with fail
            refine at_box2 (fun V0 hbb b0 b1 hsz => ?_)
            clear hsz
            have c0 := b0.c 0 rfl
            have c1 := b0.c 1 rfl
            have k0 := b1.c 0 rfl
            have k1 := b1.c 1 rfl
            have k2 := b1.c 2 rfl
            go_wp2_with fail
            refine (CK'.out _ hbb).mono ?_
            rintro e w1 ⟨rfl, hb1⟩
            replace c0 := keepC hb1 c0
            replace c1 := keepC hb1 c1
            replace k0 := keepC hb1 k0
            replace k1 := keepC hb1 k1
            replace k2 := keepC hb1 k2
            replace b0 := b0.keep hb1
            replace b1 := b1.keep hb1
            replace hbb := keepB hbb hb1
            clear hb1
            go_wp2_with fail
            refine (CV'.out _ hbb).mono ?_
            rintro e w1 ⟨rfl, hb1⟩
            replace c0 := keepC hb1 c0
            replace c1 := keepC hb1 c1
            replace k0 := keepC hb1 k0
            replace k1 := keepC hb1 k1
            replace k2 := keepC hb1 k2
            replace b0 := b0.keep hb1
            replace b1 := b1.keep hb1
            replace hbb := keepB hbb hb1
            clear hb1
            go_wp2_with fail
            clear dl
            go_loopw [5, 6] (fun s i W => ∃ k : Nat, k ≤ V.length ∧ i = .int .i64 k ∧ s = .int .i64 (As.sm (As.el ps) (List.range k)) ∧ Hid (∀ j, j < k → As.prB D (As.el ps j) = true) ∧ Hid (Below w1.heap.size w1 W)) (fun _ i _ => V.length - (intOf i).toNat)
            case atStart => exact ⟨0, Nat.zero_le _, rfl, rfl, Lib.hid (fun j hj => absurd hj (Nat.not_lt_zero _)), Lib.hid (Below.refl _ _)⟩
            case round =>
              obtain ⟨k, hk, rfl, rfl, HOK, HW⟩ := hrel
              have z1 := keepC HW.out k1
              have z2 := keepC HW.out k2
              have y1 := keepC HW.out c1
              have HBB := Lib.hid (keepB hbb HW.out)
              have HSB := Lib.hid (As.sm_el_bd (ps := ps) (M := 1000000000) (n := k) (fun j hj => HPB.out _ (HOK.out j hj)) k (Nat.le_refl _))
              by_cases hlt : k < V.length
              · obtain ⟨bb, bo, hCe, hcs⟩ := list_at HC.out (j := k) (by rw [HPL.out]; exact hlt)
                subst hCe
                have x0 := keepC HBB.out (hcs k (by rw [HPL.out]; exact hlt))
                have HN := Lib.hid (HNo.out k hlt)
                have HP := Lib.hid (show As.prB D (As.el ps k) = (decide (-10000000 * D ≤ As.el ps k) && decide (As.el ps k ≤ 10000000 * D)) from rfl)
                have ET := Lib.hid (As.sm_range_succ (As.el ps) k)
                obtain ⟨q1, q2⟩ := HC.out.bd k
                obtain ⟨s1, s2⟩ := HSB.out
                have s3 : -6000000000 ≤ As.sm (As.el ps) (List.range k) := by omega
                have s4 : As.sm (As.el ps) (List.range k) ≤ 6000000000 := by omega
                have w1' : IntKind.i64.wrap (-10000000 * D) = -10000000 * D := IntWalk.i64_in _ (by omega)
                have w2' : IntKind.i64.wrap (10000000 * D) = 10000000 * D := IntWalk.i64_in _ (by omega)
                clear hcs s1 s2 HNo
                generalize hxx : As.el ps k = x at *
                have HX := Lib.hid hxx
                generalize As.sm (As.el ps) (List.range k) = s at *
                clear hxx hbb k0 k1 k2 c0 c1 b0 b1
                by_cases h1 : x < -10000000 * D
                · have t1 : decide (x < -10000000 * D) = true := decide_eq_true h1
                  have EB := Lib.hid (HN.out (by rw [HP.out, decide_eq_false (by omega), Bool.false_and]))
                  clear h1 HN HP
                  go_wp2_with fail
                  go_quiet (fail)
                  go_wp2_with fail
                  go_ret
                  exact ⟨by rw [HV.out, EB.out]; rfl, by first | exact HBB.out | exact HBB.out.drew | exact below_drewN HBB.out _⟩
                · have t1 : decide (x < -10000000 * D) = false := decide_eq_false h1
                  by_cases h2 : 10000000 * D < x
                  · have t2 : decide (10000000 * D < x) = true := decide_eq_true h2
                    have EB := Lib.hid (HN.out (by rw [HP.out, decide_eq_false (p := x ≤ 10000000 * D) (by omega), Bool.and_false]))
                    clear h1 h2 HN HP
                    go_wp2_with fail
                    go_quiet (fail)
                    go_wp2_with fail
                    go_ret
                    exact ⟨by rw [HV.out, EB.out]; rfl, by first | exact HBB.out | exact HBB.out.drew | exact below_drewN HBB.out _⟩
                  · have t2 : decide (10000000 * D < x) = false := decide_eq_false h2
                    have EB := Lib.hid (show As.prB D x = true by rw [HP.out, decide_eq_true (show -10000000 * D ≤ x by omega), decide_eq_true (show x ≤ 10000000 * D by omega)]; rfl)
                    obtain ⟨q3, q4⟩ := HPB.out x EB.out
                    clear h1 h2 HN HP q1 q2
                    go_wp2_with fail
                    go_quiet (fail)
                    go_wp2_with fail
                    go_roundw
                    case rel => exact ⟨k + 1, by omega, by go_num, by rw [ET.out], Lib.hid (fun j hj => (Nat.lt_succ_iff_lt_or_eq.1 hj).elim (HOK.out j) (fun e => by rw [e, HX.out]; exact EB.out)), Lib.hid (by first | exact HW.out | exact HW.out.drew | exact below_drewN HW.out _)⟩
                    case measure => simp [intOf]; omega
              · obtain rfl : k = V.length := by omega
                have HE := Lib.hid (HEnd.out HOK.out)
                obtain ⟨s1, s2⟩ := HSB.out
                clear hbb k0 k1 k2 c0 c1 b0 b1 HNo HEnd HC HPL
                generalize As.sm (As.el ps) (List.range V.length) = s at *
                by_cases hs : s = y
                · have t1 : (s != y) = false := by rw [bne_eq_false_iff_eq]; exact hs
                  have HS := Lib.hid hs
                  clear hs s1 s2
                  go_wp2_with fail
                  go_ret
                  exact ⟨by rw [HV.out, HE.out, HS.out, HY.out, decide_eq_true rfl]; rfl, HBB.out⟩
                · have t1 : (s != y) = true := by rw [bne_iff_ne]; exact hs
                  have HS := Lib.hid hs
                  clear hs s1 s2
                  go_wp2_with fail
                  go_ret
                  exact ⟨by rw [HV.out, HE.out, HY.out, decide_eq_false HS.out]; rfl, HBB.out⟩
          · rw [As.vld_no h0 (by rw [As.leB_eq, decide_eq_false e2]; simp)]
            have d1 : decide (D < 1) = false := by rw [decide_eq_false_iff_not]; omega
            have d2 : decide (60 < D) = true := by rw [decide_eq_true_eq]; omega
            clear CK CV h0 hc ha h hB hC hpl
            go_enter Try.func18, Try.ntmps18
            go_upto_region 1 with fail
            refine at_box2 (fun V0 hbb b0 b1 hsz => ?_)
            clear hsz
            have c0 := b0.c 0 rfl
            have c1 := b0.c 1 rfl
            have k0 := b1.c 0 rfl
            have k1 := b1.c 1 rfl
            have k2 := b1.c 2 rfl
            go_wp2_with fail
            refine (CK'.out _ hbb).mono ?_
            rintro e w1 ⟨rfl, hb1⟩
            replace c0 := keepC hb1 c0
            replace c1 := keepC hb1 c1
            replace k0 := keepC hb1 k0
            replace k1 := keepC hb1 k1
            replace k2 := keepC hb1 k2
            replace b0 := b0.keep hb1
            replace b1 := b1.keep hb1
            replace hbb := keepB hbb hb1
            clear hb1
            go_wp2_with fail
            refine (CV'.out _ hbb).mono ?_
            rintro e w1 ⟨rfl, hb1⟩
            replace c0 := keepC hb1 c0
            replace c1 := keepC hb1 c1
            replace k0 := keepC hb1 k0
            replace k1 := keepC hb1 k1
            replace k2 := keepC hb1 k2
            replace b0 := b0.keep hb1
            replace b1 := b1.keep hb1
            replace hbb := keepB hbb hb1
            clear hb1
            go_wp2_with fail
            go_ret
            exact ⟨rfl, hbb⟩
        · rw [As.vld_no h0 (by rw [As.leB_eq, decide_eq_false e1]; simp)]
          have d1 : decide (D < 1) = true := by rw [decide_eq_true_eq]; omega
          clear CK CV h0 hc ha h hB hC hpl
          go_enter Try.func18, Try.ntmps18
          go_upto_region 1 with fail
          refine at_box2 (fun V0 hbb b0 b1 hsz => ?_)
          clear hsz
          have c0 := b0.c 0 rfl
          have c1 := b0.c 1 rfl
          have k0 := b1.c 0 rfl
          have k1 := b1.c 1 rfl
          have k2 := b1.c 2 rfl
          go_wp2_with fail
          refine (CK'.out _ hbb).mono ?_
          rintro e w1 ⟨rfl, hb1⟩
          replace c0 := keepC hb1 c0
          replace c1 := keepC hb1 c1
          replace k0 := keepC hb1 k0
          replace k1 := keepC hb1 k1
          replace k2 := keepC hb1 k2
          replace b0 := b0.keep hb1
          replace b1 := b1.keep hb1
          replace hbb := keepB hbb hb1
          clear hb1
          go_wp2_with fail
          refine (CV'.out _ hbb).mono ?_
          rintro e w1 ⟨rfl, hb1⟩
          replace c0 := keepC hb1 c0
          replace c1 := keepC hb1 c1
          replace k0 := keepC hb1 k0
          replace k1 := keepC hb1 k1
          replace k2 := keepC hb1 k2
          replace b0 := b0.keep hb1
          replace b1 := b1.keep hb1
          replace hbb := keepB hbb hb1
          clear hb1
          go_wp2_with fail
          go_ret
          exact ⟨rfl, hbb⟩
      · rw [As.vld_no h0 (by rw [As.leB_eq, As.apB_len hpl]; simp)]
        have dl : ((ps.length : Int) != V.length) = true := by rw [bne_iff_ne]; omega
        clear CK CV h0 hc ha h hB hC hpl
        go_enter Try.func18, Try.ntmps18
        go_upto_region 1 with fail
        refine at_box2 (fun V0 hbb b0 b1 hsz => ?_)
        clear hsz
        have c0 := b0.c 0 rfl
        have c1 := b0.c 1 rfl
        have k0 := b1.c 0 rfl
        have k1 := b1.c 1 rfl
        have k2 := b1.c 2 rfl
        go_wp2_with fail
        refine (CK'.out _ hbb).mono ?_
        rintro e w1 ⟨rfl, hb1⟩
        replace c0 := keepC hb1 c0
        replace c1 := keepC hb1 c1
        replace k0 := keepC hb1 k0
        replace k1 := keepC hb1 k1
        replace k2 := keepC hb1 k2
        replace b0 := b0.keep hb1
        replace b1 := b1.keep hb1
        replace hbb := keepB hbb hb1
        clear hb1
        go_wp2_with fail
        refine (CV'.out _ hbb).mono ?_
        rintro e w1 ⟨rfl, hb1⟩
        replace c0 := keepC hb1 c0
        replace c1 := keepC hb1 c1
        replace k0 := keepC hb1 k0
        replace k1 := keepC hb1 k1
        replace k2 := keepC hb1 k2
        replace b0 := b0.keep hb1
        replace b1 := b1.keep hb1
        replace hbb := keepB hbb hb1
        clear hb1
        go_wp2_with fail
        go_ret
        exact ⟨rfl, hbb⟩
    · have ha : As.isA xs V.length = false := by simpa using ha
      rw [As.vld_no h0 (by rw [As.leB_eq, ha]; rfl)]
      rw [ha] at CV
      have CV' := Lib.hid CV
      clear CK CV h0 hc ha h hB hC
      go_enter Try.func18, Try.ntmps18
      go_upto_region 1 with fail
      refine at_box2 (fun V0 hbb b0 b1 hsz => ?_)
      clear hsz
      have c0 := b0.c 0 rfl
      have c1 := b0.c 1 rfl
      have k0 := b1.c 0 rfl
      have k1 := b1.c 1 rfl
      have k2 := b1.c 2 rfl
      go_wp2_with fail
      refine (CK'.out _ hbb).mono ?_
      rintro e w1 ⟨rfl, hb1⟩
      replace c0 := keepC hb1 c0
      replace c1 := keepC hb1 c1
      replace k0 := keepC hb1 k0
      replace k1 := keepC hb1 k1
      replace k2 := keepC hb1 k2
      replace b0 := b0.keep hb1
      replace b1 := b1.keep hb1
      replace hbb := keepB hbb hb1
      clear hb1
      go_wp2_with fail
      refine (CV'.out _ hbb).mono ?_
      rintro e w1 ⟨rfl, hb1⟩
      replace c0 := keepC hb1 c0
      replace c1 := keepC hb1 c1
      replace k0 := keepC hb1 k0
      replace k1 := keepC hb1 k1
      replace k2 := keepC hb1 k2
      replace b0 := b0.keep hb1
      replace b1 := b1.keep hb1
      replace hbb := keepB hbb hb1
      clear hb1
      go_wp2_with fail
      go_ret
      exact ⟨rfl, hbb⟩
  · rw [As.vld_err h2]
    generalize As.rchk V R = c at *
    have CK' := Lib.hid CK
    clear CK CV h2 h hB hC
    go_enter Try.func18, Try.ntmps18
    go_upto_region 1 with fail
    refine at_box2 (fun V0 hbb b0 b1 hsz => ?_)
    clear hsz
    have c0 := b0.c 0 rfl
    have c1 := b0.c 1 rfl
    have k0 := b1.c 0 rfl
    have k1 := b1.c 1 rfl
    have k2 := b1.c 2 rfl
    go_wp2_with fail
    refine (CK'.out _ hbb).mono ?_
    rintro e w1 ⟨rfl, hb1⟩
    replace c0 := keepC hb1 c0
    replace c1 := keepC hb1 c1
    replace k0 := keepC hb1 k0
    replace k1 := keepC hb1 k1
    replace k2 := keepC hb1 k2
    replace b0 := b0.keep hb1
    replace b1 := b1.keep hb1
    replace hbb := keepB hbb hb1
    clear hb1
    go_wp2_with fail
    refine (CK'.out _ hbb).mono ?_
    rintro e w1 ⟨rfl, hb1⟩
    replace c0 := keepC hb1 c0
    replace c1 := keepC hb1 c1
    replace k0 := keepC hb1 k0
    replace k1 := keepC hb1 k1
    replace k2 := keepC hb1 k2
    replace b0 := b0.keep hb1
    replace b1 := b1.keep hb1
    replace hbb := keepB hbb hb1
    clear hb1
    go_wp2_with fail
    go_ret
    exact ⟨rfl, hbb⟩
end Go.Proofs.Ytncmffhoodfhjaa
namespace Go.Proofs.Ytncmffhoodfhjaa
open Go.RowKit
set_option maxRecDepth 100000 in
set_option maxHeartbeats 8000000 in
theorem r14Envies_any (A : Option Addr) (cv : Nat) (V : List (List Int)) (R : Int) (B : Option Addr) (ca : Nat) (xs : List Int) (C : Option Addr) (cp : Nat) (ps : List Int) (D : Int) (w : World) (hl : V.length ≤ maxLen) (h : IsM w A V) (hx : xs.length ≤ maxLen) (hB : IsI w B xs) (hC : IsI w C ps) :
    Calls Try.prog 50 #[.agg #[.slice A V.length cv, .int .i64 R], .agg #[.slice B xs.length ca, .slice C ps.length cp, .int .i64 D]] w (EnQ w V R xs ps D) := by
  have CV := fun v (hv : Below w.heap.size w v) => r14Valid_any A cv V R B ca xs C cp ps D v hl (h.keep hv) hx (hB.keep hv) (hC.keep hv)
  rcases As.vld_cases V R xs ps D with h0 | ⟨h1, h2⟩
  · rw [h0] at CV
    obtain ⟨a, rfl, hL⟩ := ls_of h0 h hB hC
    have la := hL.la
    have lp := hL.le.len
    have n6 := hL.ok.n6
    have HF := Lib.hid (show ∀ (X : Option Addr) (c Bs : Nat) (w' : World), OwnP w' Bs (.slice X (As.envl V a ps D V.length).length c) (As.envl V a ps D V.length) → Below w.heap.size w w' → EnQ w V R (As.al a) ps D (.returned (.tuple #[.slice X (As.envl V a ps D V.length).length c, .int .i64 0])) w' from fun X c Bs w' hO hb => ⟨X, c, by rw [As.enS_yes h0, h0], by
      rw [As.enS_yes h0]
      exact isP_row hO rfl, hb⟩)
    rw [As.al_len, la, lp] at CV ⊢
    have CV' := Lib.hid CV
    have HL := Lib.hid hL
    have HEL := Lib.hid (As.envl_le n6 a ps D)
    obtain ⟨i0, hi0, hz0, hz1, hz2⟩ := info_parts pairInfo
    have HI := Lib.hid hi0
    have HI2 := Lib.hid hz0
    have HI3 := Lib.hid hz1
    have HI4 := Lib.hid hz2
    clear CV h0 h hB hC hL la lp hi0 hz0 hz1 hz2 hx
    go_enter Try.func50, Try.ntmps50
    go_upto_region 1 with fail
    refine at_box2 (fun V0 hbb b0 b1 hsz => ?_)
    clear hsz
    have c0 := b0.c 0 rfl
    have c1 := b0.c 1 rfl
    have k0 := b1.c 0 rfl
    have k1 := b1.c 1 rfl
    have k2 := b1.c 2 rfl
    go_wp2_with fail
    refine (CV'.out _ hbb).mono ?_
    rintro e w2 ⟨rfl, hb1⟩
    have HX := Lib.hid (Bx.of (b0.keep hb1) (b1.keep hb1))
    have HBB := Lib.hid (keepB hbb hb1)
    have HLS := Lib.hid (HL.out.keep (keepB hbb hb1))
    clear hb1 b0 b1 hbb c0 c1 k0 k1 k2
    go_wp2_with fail
    go_loopw [6, 7] (fun v i W => ∃ k : Nat, k ≤ V.length ∧ i = .int .i64 k ∧ Hid (Below w2.heap.size w2 W) ∧ Hid (OwnP W w2.heap.size v (As.envl V a ps D k))) (fun _ i _ => V.length - (intOf i).toNat)
    case atStart => exact ⟨0, Nat.zero_le _, rfl, Lib.hid (Below.refl _ _), Lib.hid (World.ownsRow_nil _ _ _ 2)⟩
    case round =>
      obtain ⟨k, hk, rfl, HW, HO⟩ := hrel
      have c0 := keepC HW.out HX.out.p0
      by_cases hlt : k < V.length
      · obtain ⟨bb, bo, rfl, hcs⟩ := list_at HLS.out.hB (j := k) (by rw [As.al_len, HLS.out.la]; exact hlt)
        have HCS := Lib.hid (show ∀ m, m < V.length → w2.cell? ⟨bb, bo + m, none⟩ = some (.int .i64 ((a.getD m 0 : Nat) : Int)) from fun m hm => by
          have := hcs m (by rw [As.al_len, HLS.out.la]; exact hm)
          rwa [As.el_al] at this)
        have x0 := keepC HW.out (HCS.out k hlt)
        have hj := HLS.out.lt hlt
        obtain ⟨j, hje⟩ : ∃ j, a.getD k 0 = j := ⟨_, rfl⟩
        rw [hje] at x0 hj
        have HJE := Lib.hid hje
        clear hje
        have HS0 := Lib.hid (show As.envl V a ps D k ++ As.env1 V a ps D k 0 = As.envl V a ps D k by simp [As.env1])
        have HSN := Lib.hid (show As.envl V a ps D k ++ As.env1 V a ps D k V.length = As.envl V a ps D (k + 1) from (As.envl_succ V a ps D k).symm)
        have HN1 := Lib.hid (HEL.out k)
        have HN2 := Lib.hid (fun m => As.env1_le V a ps D k m)
        have HOS := Lib.hid (show OwnP wr w2.heap.size u6 (As.envl V a ps D k ++ As.env1 V a ps D k 0) by rw [HS0.out]; exact HO.out)
        have XJ := Lib.hid (HCS.out k hlt)
        rw [HJE.out] at XJ
        clear hcs
        go_wp2_with fail
        go_loopw [6, 8] (fun v i W => ∃ m : Nat, m ≤ V.length ∧ i = .int .i64 m ∧ Hid (Below w2.heap.size w2 W) ∧ Hid (OwnP W w2.heap.size v (As.envl V a ps D k ++ As.env1 V a ps D k m))) (fun _ i _ => V.length - (intOf i).toNat)
        case atStart => exact ⟨0, Nat.zero_le _, rfl, HW, HOS⟩
        case round =>
          clear x0 c0 HO HOS
          obtain ⟨m, hm, rfl, HW, HO⟩ := hrel
          have c0 := keepC HW.out HX.out.p0
          by_cases hltm : m < V.length
          · have x1 := HCS.out m hltm
            have hjm := HLS.out.lt hltm
            have HG := Lib.hid (fun v (hv : Below w2.heap.size w2 v) r (hr : r < V.length) => rGain_any A cv V R (some ⟨bb, bo, none⟩) ca a C cp ps D k r v (HLS.out.keep hv) hlt hr)
            have HE := Lib.hid (As.env1_succ V a ps D k m)
            have HD := Lib.hid (show As.env V a ps D k m = decide (As.gnF V ps D k j < As.gnF V ps D k (a.getD m 0)) by rw [← HJE.out]; rfl)
            have hlen : (As.envl V a ps D k ++ As.env1 V a ps D k m).length ≤ 42 := by rw [List.length_append]; have := HN1.out; have := HN2.out m; omega
            obtain ⟨L, hLe⟩ : ∃ L, As.envl V a ps D k ++ As.env1 V a ps D k m = L := ⟨_, rfl⟩
            rw [hLe] at hlen HO
            have HLE := Lib.hid hLe
            obtain ⟨nl, hnl⟩ : ∃ nl, L.length = nl := ⟨_, rfl⟩
            rw [hnl] at hlen
            have HNL := Lib.hid hnl
            generalize As.gnF V ps D k = f at *
            generalize a.getD m 0 = jm at *
            obtain ⟨x, hxe⟩ : ∃ x, f j = x := ⟨_, rfl⟩
            obtain ⟨y, hye⟩ : ∃ y, f jm = y := ⟨_, rfl⟩
            rw [hxe, hye] at HD
            have HXE := Lib.hid hxe
            have HYE := Lib.hid hye
            clear hLe hnl hxe hye
            have HK := Lib.hid (fun v (hv : Below w2.heap.size w2 v) => (show v.cell? ⟨w.heap.size, 0, none⟩ = some (.slice A V.length cv) ∧ v.cell? ⟨w.heap.size, 1, none⟩ = some (.int .i64 R) ∧ v.cell? ⟨w.heap.size + 1, 0, none⟩ = some (.slice (some ⟨bb, bo, none⟩) V.length ca) ∧ v.cell? ⟨w.heap.size + 1, 1, none⟩ = some (.slice C V.length cp) ∧ v.cell? ⟨w.heap.size + 1, 2, none⟩ = some (.int .i64 D) ∧ v.cell? ⟨bb, bo + k, none⟩ = some (.int .i64 j) ∧ v.cell? ⟨bb, bo + m, none⟩ = some (.int .i64 jm) from ⟨keepC hv HX.out.p0, keepC hv HX.out.p1, keepC hv HX.out.q0, keepC hv HX.out.q1, keepC hv HX.out.q2, keepC hv XJ.out, keepC hv x1⟩))
            have HWH := HW.out
            clear x1
            go_upto_region 10 with fail
            go_region_held3 (fun v => v.cell? ⟨w.heap.size, 0, none⟩ = some (.slice A V.length cv) ∧ v.cell? ⟨w.heap.size, 1, none⟩ = some (.int .i64 R) ∧ v.cell? ⟨w.heap.size + 1, 0, none⟩ = some (.slice (some ⟨bb, bo, none⟩) V.length ca) ∧ v.cell? ⟨w.heap.size + 1, 1, none⟩ = some (.slice C V.length cp) ∧ v.cell? ⟨w.heap.size + 1, 2, none⟩ = some (.int .i64 D) ∧ v.cell? ⟨bb, bo + k, none⟩ = some (.int .i64 j) ∧ v.cell? ⟨bb, bo + m, none⟩ = some (.int .i64 jm))
              (first | (exact HK.out _ (by assumption)) | (exact HK.out _ (Below.drew (by assumption))))
              (first
                | (go_at_call 35; have hb9 := hw3; refine (HG.out _ hb9 _ (by assumption)).mono ?_; rw [HXE.out]; rintro e w4 ⟨rfl, hb4⟩; have hw4 : Below w2.heap.size w2 w4 := keepB hb9 hb4; have ho4 : w4.ownsRow w2.heap.size 67 2 u6 L.length (pcs L) := ownG_keepB ho3 hb4; clear hb9)
                | (go_at_call 35; refine (HG.out _ (by first | assumption | exact Below.drew (by assumption)) _ (by assumption)).mono ?_; rw [HYE.out]; rintro e w3 ⟨rfl, hb3⟩; have hw3 : Below w2.heap.size w2 w3 := (by first | exact keepB HW.out hb3 | exact keepB HW.out.drew hb3); have ho3 : w3.ownsRow w2.heap.size 67 2 u6 L.length (pcs L) := (by first | exact ownG_keepB HO.out hb3 | exact ownG_keepB (World.ownsRow.drew HO.out) hb3)))
            have HW4 := Lib.hid hw4
            have HO4 := Lib.hid ho4
            have hO := ho4
            rw [HNL.out] at hO
            have hsz4 := hw4.size
            clear hw3 ho3 hw4 ho4
            by_cases hxy : x < y
            · have d1 : decide (x < y) = true := decide_eq_true hxy
              have HEV := Lib.hid (show As.env V a ps D k m = true by rw [HD.out]; exact d1)
              go_wp2_with (at_builtin; go_loud (refine wpList_append_lies _ rfl _ _ _ rfl w2.heap.size 67 i0 _ 2 16 Try.underlying61 HI.out HI2.out HI3.out HI4.out rfl (by omega) _ nl (pcs L) (by rfl) (World.ownsRow.alloc hO _) ⟨w4.heap.size, 0, none⟩ 1 1 [.int .i64 (k : Int), .int .i64 (m : Int)] (by rfl) (by rfl) (World.news_of_block (cs := #[.int .i64 (k : Int), .int .i64 (m : Int)]) (t := 67) (fr := (0, 0)) (heap_alloc_new w4 _)) (by simp [Value.oneCell']) (by omega) (by unfold maxLen; omega) (by omega) (by simp; omega) (w4.heap.size + 1) (by simp) ?_; intro g cap w6 hown1 hgrow hat hglt))
              have hb6 := own_app rfl HW4.out (fun b hb => (World.ownsRow.lt hO b hb).1) hgrow
              go_roundw
              case rel => exact ⟨m + 1, by omega, by go_num, Lib.hid hb6, Lib.hid (by
                unfold OwnP
                rw [HE.out, HEV.out, if_pos rfl, ← List.append_assoc, HLE.out, List.length_append, HNL.out, pcs_app]
                exact hown1)⟩
              case measure => simp [intOf]; omega
            · have d1 : decide (x < y) = false := decide_eq_false hxy
              have HEV := Lib.hid (show As.env V a ps D k m = false by rw [HD.out]; exact d1)
              go_wp2_with fail
              go_roundw
              case rel => exact ⟨m + 1, by omega, by go_num, HW4, Lib.hid (by
                rw [HE.out, HEV.out, if_neg (by simp), List.append_nil, HLE.out]
                exact HO4.out)⟩
              case measure => simp [intOf]; omega
          · obtain rfl : m = V.length := by omega
            rw [HSN.out] at HO
            go_wp2_with fail
            go_roundw
            case rel => exact ⟨k + 1, by omega, by go_num, HW, HO⟩
            case measure => simp [intOf]; omega
      · obtain rfl : k = V.length := by omega
        obtain ⟨X, cc, rfl⟩ := HO.out.form
        have HFF := Lib.hid (HF.out X cc _ wr HO.out (keepB HBB.out HW.out))
        clear HO
        generalize (As.envl V a ps D V.length).length = nn at *
        go_wp2_with fail
        go_ret2
        exact HFF.out
  · have HQ := Lib.hid (show ∀ (w' : World), Below w.heap.size w w' → EnQ w V R xs ps D (.returned (.tuple #[.slice none 0 0, .int .i64 (As.vld V R xs ps D)])) w' from fun w' hb => ⟨none, 0, by rw [As.enS_no h2]; rfl, by rw [As.enS_no h2]; exact isP_nil _ _, hb⟩)
    generalize As.vld V R xs ps D = c at *
    have CV' := Lib.hid CV
    clear CV h2 h hB hC hl hx
    go_enter Try.func50, Try.ntmps50
    go_upto_region 1 with fail
    refine at_box2 (fun V0 hbb b0 b1 hsz => ?_)
    clear hsz
    have c0 := b0.c 0 rfl
    have c1 := b0.c 1 rfl
    have k0 := b1.c 0 rfl
    have k1 := b1.c 1 rfl
    have k2 := b1.c 2 rfl
    go_wp2_with fail
    refine (CV'.out _ hbb).mono ?_
    rintro e w1 ⟨rfl, hb1⟩
    replace c0 := keepC hb1 c0
    replace c1 := keepC hb1 c1
    replace k0 := keepC hb1 k0
    replace k1 := keepC hb1 k1
    replace k2 := keepC hb1 k2
    replace hbb := keepB hbb hb1
    clear hb1 b0 b1
    go_wp2_with fail
    refine (CV'.out _ hbb).mono ?_
    rintro e w3 ⟨rfl, hb1⟩
    replace hbb := keepB hbb hb1
    clear hb1 c0 c1 k0 k1 k2
    go_wp2_with fail
    go_ret2
    exact HQ.out _ hbb
end Go.Proofs.Ytncmffhoodfhjaa
namespace Go.Proofs.Ytncmffhoodfhjaa
open Go.RowKit
/-- What Great gives. -/
def Gr14 (w : World) (V : List (List Int)) (nx np : Nat) (e : Ending) (w' : World) : Prop :=
  ∃ z, e = .returned (.bool z) ∧ (z = false → (V.length ≠ 6 ∧ V.length ≤ 20 ∧ ∀ i, i < V.length → (V.getD i []).length ≤ 50) ∧ nx ≤ 50 ∧ np ≤ 50) ∧ Below w.heap.size w w'
theorem Gr14.yes {w w' : World} {V : List (List Int)} {nx np : Nat} (h : Below w.heap.size w w') : Gr14 w V nx np (.returned (.bool true)) w' := ⟨true, rfl, fun h => (by cases h), h⟩
theorem Gr14.no {w w' : World} {V : List (List Int)} {nx np : Nat} (h : Below w.heap.size w w') (hV : V.length ≠ 6 ∧ V.length ≤ 20 ∧ ∀ i, i < V.length → (V.getD i []).length ≤ 50) (h1 : nx ≤ 50) (h2 : np ≤ 50) : Gr14 w V nx np (.returned (.bool false)) w' := ⟨false, rfl, fun _ => ⟨hV, h1, h2⟩, h⟩
theorem eq_pair (p q : Int) (v : World) : (Op.equalIn 10000 67 (.agg #[.int .i64 p, .int .i64 q]) (.agg #[.int .i64 p, .int .i64 q])).run Try.prog v = .ok true v := by
  obtain ⟨i0, hi0, hz0, hz1, hz2⟩ := info_parts intInfo
  have h := run_equalIn_array v 9999 #[Value.int .i64 p, .int .i64 q] #[Value.int .i64 p, .int .i64 q] Try.underlying67 hi0
  rw [cellsInt] at h
  refine h.trans ?_
  have r2 : List.range 2 = [0, 1] := rfl
  rw [r2]
  simp only [Op.eqItems]
  go_simp
set_option maxRecDepth 100000 in
set_option maxHeartbeats 4000000 in
theorem samePairs_eq (A : Option Addr) (ca : Nat) (B : Option Addr) (cb : Nat) (l : List (Nat × Nat)) (w : World) (hl : l.length ≤ maxLen) (hA : IsP w A l) (hB : IsP w B l) :
    Calls Try.prog 44 #[.slice A l.length ca, .slice B l.length cb] w fun e w' => e = .returned (.bool true) ∧ Below w.heap.size w w' := by
  unfold maxLen at hl
  have HA := Lib.hid hA
  have HB := Lib.hid hB
  clear hA hB
  have e0 : ((l.length : Int) != l.length) = false := by simp
  go_enter Try.func44, Try.ntmps44
  go_wp2_with fail
  go_loopw [5] (fun i W => ∃ k : Nat, k ≤ l.length ∧ i = .int .i64 k ∧ Below w.heap.size w W) (fun i _ => l.length - (intOf i).toNat)
  case atStart => exact ⟨0, Nat.zero_le _, rfl, Below.refl _ _⟩
  case round =>
    obtain ⟨k, hk, rfl, hbb⟩ := hrel
    by_cases hlt : k < l.length
    · obtain ⟨b1, o1, rfl, h1⟩ := HA.out (by omega)
      obtain ⟨b2, o2, rfl, h2⟩ := HB.out (by omega)
      have x1 := keepC hbb (h1 k hlt).1
      have x2 := keepC hbb (h1 k hlt).2
      have y1 := keepC hbb (h2 k hlt).1
      have y2 := keepC hbb (h2 k hlt).2
      have HBB := Lib.hid hbb
      clear h1 h2
      generalize (((l.getD k (0, 0)).1 : Nat) : Int) = p at *
      generalize (((l.getD k (0, 0)).2 : Nat) : Int) = q at *
      have EQ := eq_pair p q
      go_upto_region 6 with fail
      go_region_held3 (fun v => v.cell? ⟨b1, o1 + k * 2, none⟩ = some (.int .i64 p) ∧ v.cell? ⟨b1, o1 + k * 2 + 1, none⟩ = some (.int .i64 q) ∧ v.cell? ⟨b2, o2 + k * 2, none⟩ = some (.int .i64 p) ∧ v.cell? ⟨b2, o2 + k * 2 + 1, none⟩ = some (.int .i64 q))
        (first | (exact ⟨x1, x2, y1, y2⟩))
        (fail)
      all_goals
        go_wp2_with fail
        go_roundw
        case rel => exact ⟨k + 1, by omega, by go_num, by first | exact HBB.out | exact HBB.out.drew⟩
        case measure => simp [intOf]; omega
    · obtain rfl : k = l.length := by omega
      go_wp2_with fail
      go_ret
      exact ⟨rfl, hbb⟩
set_option maxRecDepth 100000 in
set_option maxHeartbeats 2000000 in
theorem lsame_eq (A : Option Addr) (ca : Nat) (A' : Option Addr) (ca' : Nat) (B : Option Addr) (cb : Nat) (B' : Option Addr) (cb' : Nat) (xs ps : List Int) (nx np : Nat) (D : Int) (w : World) (hx : xs.length ≤ maxLen) (hp : ps.length ≤ maxLen) (ex : nx = xs.length) (ep : np = ps.length) (hA : IsI w A xs) (hA' : IsI w A' xs) (hB : IsI w B ps) (hB' : IsI w B' ps) :
    Calls Try.prog 27 #[.agg #[.slice A nx ca, .slice B np cb, .int .i64 D], .agg #[.slice A' nx ca', .slice B' np cb', .int .i64 D]] w fun e w' => e = .returned (.bool true) ∧ Below w.heap.size w w' := by
  subst ex ep
  have C1 := Lib.hid (fun v (hv : Below w.heap.size w v) => same_eq A ca A' ca' xs v hx (hA.keep hv) (hA'.keep hv))
  have C2 := Lib.hid (fun v (hv : Below w.heap.size w v) => same_eq B cb B' cb' ps v hp (hB.keep hv) (hB'.keep hv))
  have e0 : (D == D) = true := by simp
  clear hA hA' hB hB' hx hp
  generalize xs.length = nx at *
  generalize ps.length = np at *
  go_enter Try.func27, Try.ntmps27
  go_upto_region 1 with fail
  refine at_box2 (fun V0 hbb b0 b1 hsz => ?_)
  clear hsz
  have c0 := b0.c 0 rfl
  have c1 := b0.c 1 rfl
  have c2 := b0.c 2 rfl
  have k0 := b1.c 0 rfl
  have k1 := b1.c 1 rfl
  have k2 := b1.c 2 rfl
  go_wp2_with fail
  refine (C1.out _ hbb).mono ?_
  rintro e w1 ⟨rfl, hb1⟩
  replace c1 := keepC hb1 c1
  replace k1 := keepC hb1 k1
  replace hbb := keepB hbb hb1
  clear hb1 b0 b1 c0 c2 k0 k2
  go_wp2_with fail
  refine (C2.out _ hbb).mono ?_
  rintro e w2 ⟨rfl, hb1⟩
  replace hbb := keepB hbb hb1
  clear hb1 c1 k1
  go_wp2_with fail
  go_ret
  exact ⟨rfl, hbb⟩
end Go.Proofs.Ytncmffhoodfhjaa
