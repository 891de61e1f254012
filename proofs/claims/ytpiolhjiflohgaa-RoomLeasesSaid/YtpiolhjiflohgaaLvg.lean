/- Slices of pairs of ints; package room: Envies. -/
import Derived.Test.YtpiolhjiflohgaaLvd
import Derived.Test.YtpiolhjiflohgaaAfu
import Derived.Deep.RegionHeld3
namespace Go.Proofs.Ytpiolhjiflohgaa
open Go.RowKit
/-- The cells of pairs. -/
def pcs (l : List (Nat × Nat)) : List Value := l.flatMap fun x => [.int .i64 (x.1 : Int), .int .i64 (x.2 : Int)]
theorem pcs_app (l m : List (Nat × Nat)) : pcs (l ++ m) = pcs l ++ pcs m := List.flatMap_append
theorem pcs_len : ∀ (l : List (Nat × Nat)), (pcs l).length = l.length * 2
  | [] => rfl
  | r :: l => by
    have := pcs_len l
    unfold pcs at this ⊢
    simp only [List.flatMap_cons, List.length_append, this, List.length_cons, List.length_nil]
    omega
theorem pcs_at : ∀ {l : List (Nat × Nat)} {k : Nat}, k < l.length → (pcs l)[k * 2]? = some (.int .i64 ((l.getD k (0, 0)).1 : Int)) ∧ (pcs l)[k * 2 + 1]? = some (.int .i64 ((l.getD k (0, 0)).2 : Int))
  | r :: l, 0, _ => ⟨rfl, rfl⟩
  | r :: l, k + 1, h => by
    have ih := pcs_at (l := l) (k := k) (by simpa using h)
    have e : pcs (r :: l) = .int .i64 (r.1 : Int) :: .int .i64 (r.2 : Int) :: pcs l := rfl
    rw [e, show (k + 1) * 2 = k * 2 + 1 + 1 by omega, show k * 2 + 1 + 1 + 1 = (k * 2 + 1) + 1 + 1 by omega]
    simp only [List.getElem?_cons_succ, List.getD_cons_succ]
    exact ih
/-- A slice of pairs. -/
def IsP (w : World) (A : Option Addr) (l : List (Nat × Nat)) : Prop :=
  0 < l.length → ∃ b off, A = some ⟨b, off, none⟩ ∧ ∀ i, i < l.length → w.cell? ⟨b, off + i * 2, none⟩ = some (.int .i64 ((l.getD i (0, 0)).1 : Int)) ∧ w.cell? ⟨b, off + i * 2 + 1, none⟩ = some (.int .i64 ((l.getD i (0, 0)).2 : Int))
theorem IsP.keep {w v : World} {A : Option Addr} {l : List (Nat × Nat)} (h : IsP w A l) (hb : Below w.heap.size w v) : IsP v A l := fun h0 => by
  obtain ⟨b, off, e, hc⟩ := h h0
  exact ⟨b, off, e, fun i hi => ⟨keepC hb (hc i hi).1, keepC hb (hc i hi).2⟩⟩
theorem isP_nil (w : World) (A : Option Addr) : IsP w A [] := fun h => absurd h (by simp)
theorem isP_row {w : World} {B : Nat} {e : TypeId} {A : Option Addr} {n cap : Nat} {l : List (Nat × Nat)} (h : w.ownsRow B e 2 (.slice A n cap) n (pcs l)) (hn : n = l.length) : IsP w A l := fun h0 => by
  obtain ⟨g, cap', hv, _, hlt⟩ := World.ownsRow.form h (by omega)
  simp only [Value.slice.injEq] at hv
  obtain ⟨rfl, _, rfl⟩ := hv
  refine ⟨g, 0, rfl, fun i hi => ?_⟩
  rw [Nat.zero_add, World.ownsRow.cellAt h (i * 2) (by omega), World.ownsRow.cellAt h (i * 2 + 1) (by omega)]
  exact pcs_at hi
theorem pairInfo : (Try.prog.info? 91).map (fun i => (i.zero, i.size, i.bytes)) = some (some (.agg #[.int .i64 0, .int .i64 0]), 2, 16) := by kernel_rfl
namespace As
/-- What Envies returns. -/
def enS (V : List (List Int)) (R : Int) (xs ps : List Int) (D : Int) : List (Nat × Nat) := if vld V R xs ps D = 0 then envl V (xs.map Int.toNat) ps D V.length else []
theorem enS_no {V : List (List Int)} {R : Int} {xs ps : List Int} {D : Int} (h : vld V R xs ps D ≠ 0) : enS V R xs ps D = [] := by unfold enS; rw [if_neg h]
theorem enS_yes {V : List (List Int)} {R : Int} {a : List Nat} {ps : List Int} {D : Int} (h : vld V R (al a) ps D = 0) : enS V R (al a) ps D = envl V a ps D V.length := by unfold enS; rw [if_pos h, toNat_al]
theorem env1_le (V : List (List Int)) (a : List Nat) (ps : List Int) (D : Int) (i m : Nat) : (env1 V a ps D i m).length ≤ m := by
  unfold env1
  rw [List.length_map]
  exact Nat.le_trans (List.length_filter_le _ _) (by simp)
theorem envl_le {V : List (List Int)} (n6 : V.length ≤ 6) (a : List Nat) (ps : List Int) (D : Int) : ∀ k, (envl V a ps D k).length ≤ 6 * k
  | 0 => by simp [envl]
  | k + 1 => by
    rw [envl_succ, List.length_append]
    have := envl_le n6 a ps D k
    have := env1_le V a ps D k V.length
    omega
end As
/-- What Envies gives. -/
def EnQ (w : World) (V : List (List Int)) (R : Int) (xs ps : List Int) (D : Int) (e : Ending) (w' : World) : Prop :=
  ∃ X c, e = .returned (.tuple #[.slice X (As.enS V R xs ps D).length c, .int .i64 (As.vld V R xs ps D)]) ∧ IsP w' X (As.enS V R xs ps D) ∧ Below w.heap.size w w'
/-- Pairs of the call's own. -/
def OwnP (w : World) (B : Nat) (v : Value) (l : List (Nat × Nat)) : Prop := w.ownsRow B 91 2 v l.length (pcs l)
theorem OwnP.form {w : World} {B : Nat} {v : Value} {l : List (Nat × Nat)} (h : OwnP w B v l) : ∃ A cap, v = .slice A l.length cap := by
  rcases h.2 with ⟨h1, h2⟩ | ⟨g, cap, cur, h1, _⟩
  · exact ⟨none, 0, by rw [h1, h2]⟩
  · exact ⟨_, _, h1⟩
set_option maxRecDepth 100000 in
set_option maxHeartbeats 8000000 in
theorem rmEnvies_any (A : Option Addr) (cv : Nat) (V : List (List Int)) (R : Int) (B : Option Addr) (ca : Nat) (xs : List Int) (C : Option Addr) (cp : Nat) (ps : List Int) (D : Int) (w : World) (hl : V.length ≤ maxLen) (h : IsM w A V) (hx : xs.length ≤ maxLen) (hB : IsI w B xs) (hpm : ps.length ≤ maxLen) (hC : IsI w C ps) :
    Calls Try.prog 23 #[.agg #[.slice A V.length cv, .int .i64 R], .agg #[.slice B xs.length ca, .slice C ps.length cp, .int .i64 D]] w (EnQ w V R xs ps D) := by
  have CV := fun v (hv : Below w.heap.size w v) => rmValid_any A cv V R B ca xs C cp ps D v hl (h.keep hv) hx (hB.keep hv) hpm (hC.keep hv)
  rcases As.vld_cases V R xs ps D with h0 | ⟨h1, h2⟩
  · rw [h0] at CV
    obtain ⟨a, rfl, hL⟩ := ls_of h0 h hB hC
    have la := hL.la
    have lp := hL.le.len
    have n6 := hL.ok.n6
    have HF := Lib.hid (show ∀ (X : Option Addr) (c Bs : Nat) (w' : World), OwnP w' Bs (.slice X (As.envl V a ps D V.length).length c) (As.envl V a ps D V.length) → Below w.heap.size w w' → EnQ w V R (As.al a) ps D (.returned (.tuple #[.slice X (As.envl V a ps D V.length).length c, .int .i64 0])) w' from fun X c Bs w' hO hb => ⟨X, c, by rw [As.enS_yes h0, h0], by
      rw [As.enS_yes h0]
      exact isP_row hO rfl, hb⟩)
    rw [As.al_len, la, lp] at CV ⊢
    have CG := Lib.hid (fun v => gainsAt_any A cv V R B ca V.length C cp V.length D v)
    have CV' := Lib.hid CV
    have HL := Lib.hid hL
    have HEL := Lib.hid (As.envl_le n6 a ps D)
    obtain ⟨i0, hi0, hz0, hz1, hz2⟩ := info_parts pairInfo
    have HI := Lib.hid hi0
    have HI2 := Lib.hid hz0
    have HI3 := Lib.hid hz1
    have HI4 := Lib.hid hz2
    clear CV h0 h hB hC hL la lp hi0 hz0 hz1 hz2 hx hpm
    go_enter Try.func23, Try.ntmps23
    go_upto_region 1 with fail
    refine at_box2 (fun V0 hbb b0 b1 hsz => ?_)
    clear hsz
    have c0 := b0.c 0 rfl
    have c1 := b0.c 1 rfl
    have k0 := b1.c 0 rfl
    have k1 := b1.c 1 rfl
    have k2 := b1.c 2 rfl
    go_wp2_with fail
    refine (CV'.out _ hbb).mono ?_
    rintro e w1 ⟨rfl, hb1⟩
    replace c0 := keepC hb1 c0
    replace c1 := keepC hb1 c1
    replace k0 := keepC hb1 k0
    replace k1 := keepC hb1 k1
    replace k2 := keepC hb1 k2
    replace hbb := keepB hbb hb1
    clear hb1 b0 b1
    go_wp2_with fail
    refine (CG.out _).mono ?_
    rintro e w2 ⟨p, q, rfl, hX, hb2⟩
    replace k0 := keepC hb2 k0
    have HX := Lib.hid hX
    have HK0 := Lib.hid k0
    have HBB := Lib.hid (keepB hbb hb2)
    have HLS := Lib.hid (HL.out.keep (keepB hbb hb2))
    clear hb2 hX c0 c1 k1 k2 hbb
    go_wp2_with fail
    clear k0
    go_loopw [8, 25] (fun v i W => ∃ k : Nat, k ≤ V.length ∧ i = .int .i64 k ∧ Hid (Below w2.heap.size w2 W) ∧ Hid (OwnP W w2.heap.size v (As.envl V a ps D k))) (fun _ i _ => V.length - (intOf i).toNat)
    case atStart => exact ⟨0, Nat.zero_le _, rfl, Lib.hid (Below.refl _ _), Lib.hid (World.ownsRow_nil _ _ _ 2)⟩
    case round =>
      obtain ⟨k, hk, rfl, HW, HO⟩ := hrel
      by_cases hlt : k < V.length
      · obtain ⟨bb, bo, rfl, hcs⟩ := list_at HLS.out.hB (j := k) (by rw [As.al_len, HLS.out.la]; exact hlt)
        have HCS := Lib.hid (show ∀ m, m < V.length → w2.cell? ⟨bb, bo + m, none⟩ = some (.int .i64 ((a.getD m 0 : Nat) : Int)) from fun m hm => by
          have := hcs m (by rw [As.al_len, HLS.out.la]; exact hm)
          rwa [As.el_al] at this)
        have x0 := keepC HW.out (HCS.out k hlt)
        have hj := HLS.out.lt hlt
        obtain ⟨j, hje⟩ : ∃ j, a.getD k 0 = j := ⟨_, rfl⟩
        rw [hje] at x0 hj
        have HJE := Lib.hid hje
        clear hje
        have k0 := keepC HW.out HK0.out
        have HS0 := Lib.hid (show As.envl V a ps D k ++ As.env1 V a ps D k 0 = As.envl V a ps D k by simp [As.env1])
        have HSN := Lib.hid (show As.envl V a ps D k ++ As.env1 V a ps D k V.length = As.envl V a ps D (k + 1) from (As.envl_succ V a ps D k).symm)
        have HN1 := Lib.hid (HEL.out k)
        have HN2 := Lib.hid (fun m => As.env1_le V a ps D k m)
        have HOS := Lib.hid (show OwnP wr w2.heap.size u8 (As.envl V a ps D k ++ As.env1 V a ps D k 0) by rw [HS0.out]; exact HO.out)
        clear hcs
        go_wp2_with fail
        go_loopw [8, 33] (fun v i W => ∃ m : Nat, m ≤ V.length ∧ i = .int .i64 m ∧ Hid (Below w2.heap.size w2 W) ∧ Hid (OwnP W w2.heap.size v (As.envl V a ps D k ++ As.env1 V a ps D k m))) (fun _ i _ => V.length - (intOf i).toNat)
        case atStart => exact ⟨0, Nat.zero_le _, rfl, HW, HOS⟩
        case round =>
          clear x0 k0 HO HOS
          obtain ⟨m, hm, rfl, HW, HO⟩ := hrel
          by_cases hltm : m < V.length
          · have x1 := keepC HW.out (HCS.out m hltm)
            have hjm := HLS.out.lt hltm
            have HG1 := Lib.hid (rmGain1_any p q A cv V R (some ⟨bb, bo, none⟩) ca a C cp ps D k (a.getD m 0) wr (HLS.out.keep HW.out) (HX.out.keep HW.out) hlt hjm)
            have HG2 := Lib.hid (fun v (hv : Below w2.heap.size w2 v) => rmGain1_any p q A cv V R (some ⟨bb, bo, none⟩) ca a C cp ps D k j v (HLS.out.keep hv) (HX.out.keep hv) hlt hj)
            have HE := Lib.hid (As.env1_succ V a ps D k m)
            have HD := Lib.hid (show As.env V a ps D k m = decide (As.gnF V ps D k j < As.gnF V ps D k (a.getD m 0)) by rw [← HJE.out]; rfl)
            have hlen : (As.envl V a ps D k ++ As.env1 V a ps D k m).length ≤ 42 := by rw [List.length_append]; have := HN1.out; have := HN2.out m; omega
            obtain ⟨L, hLe⟩ : ∃ L, As.envl V a ps D k ++ As.env1 V a ps D k m = L := ⟨_, rfl⟩
            rw [hLe] at hlen HO
            have HLE := Lib.hid hLe
            obtain ⟨nl, hnl⟩ : ∃ nl, L.length = nl := ⟨_, rfl⟩
            rw [hnl] at hlen
            have HNL := Lib.hid hnl
            generalize As.gnF V ps D k j = x at *
            generalize As.gnF V ps D k (a.getD m 0) = y at *
            generalize a.getD m 0 = jm at *
            clear hLe hnl hjm
            go_wp2_with fail
            refine HG1.out.mono ?_
            rintro e w3 ⟨rfl, hb3⟩
            have HW3 := Lib.hid (keepB HW.out hb3)
            have HO3 := Lib.hid (ownG_keepB HO.out hb3)
            clear x1 hb3
            go_wp2_with fail
            refine (HG2.out _ HW3.out).mono ?_
            rintro e w4 ⟨rfl, hb4⟩
            have HW4 := Lib.hid (keepB HW3.out hb4)
            have HO4 := Lib.hid (ownG_keepB HO3.out hb4)
            have hO := HO4.out
            rw [HNL.out] at hO
            have hsz4 := HW4.out.size
            clear hb4
            by_cases hxy : x < y
            · have d1 : decide (x < y) = true := decide_eq_true hxy
              have HEV := Lib.hid (show As.env V a ps D k m = true by rw [HD.out]; exact d1)
              clear hxy
              go_wp2_with (at_builtin; go_loud (refine wpList_append_lies _ rfl _ _ _ rfl w2.heap.size 91 i0 _ 2 16 Try.underlying54 HI.out HI2.out HI3.out HI4.out rfl (by omega) _ nl (pcs L) (by rfl) (World.ownsRow.alloc hO _) ⟨w4.heap.size, 0, none⟩ 1 1 [.int .i64 (k : Int), .int .i64 (m : Int)] (by rfl) (by rfl) (World.news_of_block (cs := #[.int .i64 (k : Int), .int .i64 (m : Int)]) (t := 91) (fr := (0, 0)) (heap_alloc_new w4 _)) (by simp [Value.oneCell']) (by omega) (by unfold maxLen; omega) (by omega) (by simp; omega) (w4.heap.size + 1) (by simp) ?_; intro g cap w6 hown1 hgrow hat hglt))
              all_goals exact ⟨⟨m + 1, by omega, by go_num, Lib.hid (own_app rfl HW4.out (fun b hb => (World.ownsRow.lt hO b hb).1) hgrow), Lib.hid (by
                unfold OwnP
                rw [HE.out, HEV.out, if_pos rfl, ← List.append_assoc, HLE.out, List.length_append, HNL.out, pcs_app]
                exact hown1)⟩, by simp [intOf]; omega⟩
            · have d1 : decide (x < y) = false := decide_eq_false hxy
              have HEV := Lib.hid (show As.env V a ps D k m = false by rw [HD.out]; exact d1)
              clear hxy
              go_wp2_with fail
              go_roundw
              case rel => exact ⟨m + 1, by omega, by go_num, HW4, Lib.hid (by
                rw [HE.out, HEV.out, if_neg (by simp), List.append_nil, HLE.out]
                exact HO4.out)⟩
              case measure => simp [intOf]; omega
          · obtain rfl : m = V.length := by omega
            rw [HSN.out] at HO
            go_wp2_with fail
            go_roundw
            case rel => exact ⟨k + 1, by omega, by go_num, HW, HO⟩
            case measure => simp [intOf]; omega
      · obtain rfl : k = V.length := by omega
        obtain ⟨X, cc, rfl⟩ := HO.out.form
        have HFF := Lib.hid (HF.out X cc _ wr HO.out (keepB HBB.out HW.out))
        clear HO
        generalize (As.envl V a ps D V.length).length = nn at *
        go_wp2_with fail
        go_ret2
        exact HFF.out
  · have HQ := Lib.hid (show ∀ (w' : World), Below w.heap.size w w' → EnQ w V R xs ps D (.returned (.tuple #[.slice none 0 0, .int .i64 (As.vld V R xs ps D)])) w' from fun w' hb => ⟨none, 0, by rw [As.enS_no h2]; rfl, by rw [As.enS_no h2]; exact isP_nil _ _, hb⟩)
    generalize As.vld V R xs ps D = c at *
    have CV' := Lib.hid CV
    clear CV h2 h hB hC hl hx hpm
    go_enter Try.func23, Try.ntmps23
    go_upto_region 1 with fail
    refine at_box2 (fun V0 hbb b0 b1 hsz => ?_)
    clear hsz
    have c0 := b0.c 0 rfl
    have c1 := b0.c 1 rfl
    have k0 := b1.c 0 rfl
    have k1 := b1.c 1 rfl
    have k2 := b1.c 2 rfl
    go_wp2_with fail
    refine (CV'.out _ hbb).mono ?_
    rintro e w1 ⟨rfl, hb1⟩
    replace hbb := keepB hbb hb1
    clear hb1 b0 b1 c0 c1 k0 k1 k2
    go_wp2_with fail
    go_ret2
    exact HQ.out _ hbb
end Go.Proofs.Ytpiolhjiflohgaa
