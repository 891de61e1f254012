/- The reference's Envies. -/
import Derived.Test.YtpiolhjiflohgaaLvg
import Derived.Test.YtpiolhjiflohgaaLvf
namespace Go.Proofs.Ytpiolhjiflohgaa
open Go.RowKit
set_option maxRecDepth 100000 in
set_option maxHeartbeats 8000000 in
theorem r14Envies_any (A : Option Addr) (cv : Nat) (V : List (List Int)) (R : Int) (B : Option Addr) (ca : Nat) (xs : List Int) (C : Option Addr) (cp : Nat) (ps : List Int) (D : Int) (w : World) (hl : V.length ≤ maxLen) (h : IsM w A V) (hx : xs.length ≤ maxLen) (hB : IsI w B xs) (hC : IsI w C ps) :
    Calls Try.prog 24 #[.agg #[.slice A V.length cv, .int .i64 R], .agg #[.slice B xs.length ca, .slice C ps.length cp, .int .i64 D]] w (EnQ w V R xs ps D) := by
  have CV := fun v (hv : Below w.heap.size w v) => r14Valid_any A cv V R B ca xs C cp ps D v hl (h.keep hv) hx (hB.keep hv) (hC.keep hv)
  rcases As.vld_cases V R xs ps D with h0 | ⟨h1, h2⟩
  · rw [h0] at CV
    obtain ⟨a, rfl, hL⟩ := ls_of h0 h hB hC
    have la := hL.la
    have lp := hL.le.len
    have n6 := hL.ok.n6
    have HF := Lib.hid (show ∀ (X : Option Addr) (c Bs : Nat) (w' : World), OwnP w' Bs (.slice X (As.envl V a ps D V.length).length c) (As.envl V a ps D V.length) → Below w.heap.size w w' → EnQ w V R (As.al a) ps D (.returned (.tuple #[.slice X (As.envl V a ps D V.length).length c, .int .i64 0])) w' from fun X c Bs w' hO hb => ⟨X, c, by rw [As.enS_yes h0, h0], by
      rw [As.enS_yes h0]
      exact isP_row hO rfl, hb⟩)
    rw [As.al_len, la, lp] at CV ⊢
    have CV' := Lib.hid CV
    have HL := Lib.hid hL
    have HEL := Lib.hid (As.envl_le n6 a ps D)
    obtain ⟨i0, hi0, hz0, hz1, hz2⟩ := info_parts pairInfo
    have HI := Lib.hid hi0
    have HI2 := Lib.hid hz0
    have HI3 := Lib.hid hz1
    have HI4 := Lib.hid hz2
    clear CV h0 h hB hC hL la lp hi0 hz0 hz1 hz2 hx
    go_enter Try.func24, Try.ntmps24
    go_upto_region 1 with fail
    refine at_box2 (fun V0 hbb b0 b1 hsz => ?_)
    clear hsz
    have c0 := b0.c 0 rfl
    have c1 := b0.c 1 rfl
    have k0 := b1.c 0 rfl
    have k1 := b1.c 1 rfl
    have k2 := b1.c 2 rfl
    go_wp2_with fail
    refine (CV'.out _ hbb).mono ?_
    rintro e w2 ⟨rfl, hb1⟩
    have HX := Lib.hid (Bx.of (b0.keep hb1) (b1.keep hb1))
    have HBB := Lib.hid (keepB hbb hb1)
    have HLS := Lib.hid (HL.out.keep (keepB hbb hb1))
    clear hb1 b0 b1 hbb c0 c1 k0 k1 k2
    go_wp2_with fail
    go_loopw [6, 7] (fun v i W => ∃ k : Nat, k ≤ V.length ∧ i = .int .i64 k ∧ Hid (Below w2.heap.size w2 W) ∧ Hid (OwnP W w2.heap.size v (As.envl V a ps D k))) (fun _ i _ => V.length - (intOf i).toNat)
    case atStart => exact ⟨0, Nat.zero_le _, rfl, Lib.hid (Below.refl _ _), Lib.hid (World.ownsRow_nil _ _ _ 2)⟩
    case round =>
      obtain ⟨k, hk, rfl, HW, HO⟩ := hrel
      have c0 := keepC HW.out HX.out.p0
      by_cases hlt : k < V.length
      · obtain ⟨bb, bo, rfl, hcs⟩ := list_at HLS.out.hB (j := k) (by rw [As.al_len, HLS.out.la]; exact hlt)
        have HCS := Lib.hid (show ∀ m, m < V.length → w2.cell? ⟨bb, bo + m, none⟩ = some (.int .i64 ((a.getD m 0 : Nat) : Int)) from fun m hm => by
          have := hcs m (by rw [As.al_len, HLS.out.la]; exact hm)
          rwa [As.el_al] at this)
        have x0 := keepC HW.out (HCS.out k hlt)
        have hj := HLS.out.lt hlt
        obtain ⟨j, hje⟩ : ∃ j, a.getD k 0 = j := ⟨_, rfl⟩
        rw [hje] at x0 hj
        have HJE := Lib.hid hje
        clear hje
        have HS0 := Lib.hid (show As.envl V a ps D k ++ As.env1 V a ps D k 0 = As.envl V a ps D k by simp [As.env1])
        have HSN := Lib.hid (show As.envl V a ps D k ++ As.env1 V a ps D k V.length = As.envl V a ps D (k + 1) from (As.envl_succ V a ps D k).symm)
        have HN1 := Lib.hid (HEL.out k)
        have HN2 := Lib.hid (fun m => As.env1_le V a ps D k m)
        have HOS := Lib.hid (show OwnP wr w2.heap.size u6 (As.envl V a ps D k ++ As.env1 V a ps D k 0) by rw [HS0.out]; exact HO.out)
        have XJ := Lib.hid (HCS.out k hlt)
        rw [HJE.out] at XJ
        clear hcs
        go_wp2_with fail
        go_loopw [6, 8] (fun v i W => ∃ m : Nat, m ≤ V.length ∧ i = .int .i64 m ∧ Hid (Below w2.heap.size w2 W) ∧ Hid (OwnP W w2.heap.size v (As.envl V a ps D k ++ As.env1 V a ps D k m))) (fun _ i _ => V.length - (intOf i).toNat)
        case atStart => exact ⟨0, Nat.zero_le _, rfl, HW, HOS⟩
        case round =>
          clear x0 c0 HO HOS
          obtain ⟨m, hm, rfl, HW, HO⟩ := hrel
          have c0 := keepC HW.out HX.out.p0
          by_cases hltm : m < V.length
          · have x1 := HCS.out m hltm
            have hjm := HLS.out.lt hltm
            have HG := Lib.hid (fun v (hv : Below w2.heap.size w2 v) r (hr : r < V.length) => rGain_any A cv V R (some ⟨bb, bo, none⟩) ca a C cp ps D k r v (HLS.out.keep hv) hlt hr)
            have HE := Lib.hid (As.env1_succ V a ps D k m)
            have HD := Lib.hid (show As.env V a ps D k m = decide (As.gnF V ps D k j < As.gnF V ps D k (a.getD m 0)) by rw [← HJE.out]; rfl)
            have hlen : (As.envl V a ps D k ++ As.env1 V a ps D k m).length ≤ 42 := by rw [List.length_append]; have := HN1.out; have := HN2.out m; omega
            obtain ⟨L, hLe⟩ : ∃ L, As.envl V a ps D k ++ As.env1 V a ps D k m = L := ⟨_, rfl⟩
            rw [hLe] at hlen HO
            have HLE := Lib.hid hLe
            obtain ⟨nl, hnl⟩ : ∃ nl, L.length = nl := ⟨_, rfl⟩
            rw [hnl] at hlen
            have HNL := Lib.hid hnl
            generalize As.gnF V ps D k = f at *
            generalize a.getD m 0 = jm at *
            obtain ⟨x, hxe⟩ : ∃ x, f j = x := ⟨_, rfl⟩
            obtain ⟨y, hye⟩ : ∃ y, f jm = y := ⟨_, rfl⟩
            rw [hxe, hye] at HD
            have HXE := Lib.hid hxe
            have HYE := Lib.hid hye
            clear hLe hnl hxe hye
            have HK := Lib.hid (fun v (hv : Below w2.heap.size w2 v) => (show v.cell? ⟨w.heap.size, 0, none⟩ = some (.slice A V.length cv) ∧ v.cell? ⟨w.heap.size, 1, none⟩ = some (.int .i64 R) ∧ v.cell? ⟨w.heap.size + 1, 0, none⟩ = some (.slice (some ⟨bb, bo, none⟩) V.length ca) ∧ v.cell? ⟨w.heap.size + 1, 1, none⟩ = some (.slice C V.length cp) ∧ v.cell? ⟨w.heap.size + 1, 2, none⟩ = some (.int .i64 D) ∧ v.cell? ⟨bb, bo + k, none⟩ = some (.int .i64 j) ∧ v.cell? ⟨bb, bo + m, none⟩ = some (.int .i64 jm) from ⟨keepC hv HX.out.p0, keepC hv HX.out.p1, keepC hv HX.out.q0, keepC hv HX.out.q1, keepC hv HX.out.q2, keepC hv XJ.out, keepC hv x1⟩))
            have HWH := HW.out
            clear x1
            go_upto_region 10 with fail
            go_region_held3 (fun v => v.cell? ⟨w.heap.size, 0, none⟩ = some (.slice A V.length cv) ∧ v.cell? ⟨w.heap.size, 1, none⟩ = some (.int .i64 R) ∧ v.cell? ⟨w.heap.size + 1, 0, none⟩ = some (.slice (some ⟨bb, bo, none⟩) V.length ca) ∧ v.cell? ⟨w.heap.size + 1, 1, none⟩ = some (.slice C V.length cp) ∧ v.cell? ⟨w.heap.size + 1, 2, none⟩ = some (.int .i64 D) ∧ v.cell? ⟨bb, bo + k, none⟩ = some (.int .i64 j) ∧ v.cell? ⟨bb, bo + m, none⟩ = some (.int .i64 jm))
              (first | (exact HK.out _ (by assumption)) | (exact HK.out _ (Below.drew (by assumption))))
              (first
                | (go_at_call 52; have hb9 := hw3; refine (HG.out _ hb9 _ (by assumption)).mono ?_; rw [HXE.out]; rintro e w4 ⟨rfl, hb4⟩; have hw4 : Below w2.heap.size w2 w4 := keepB hb9 hb4; have ho4 : w4.ownsRow w2.heap.size 91 2 u6 L.length (pcs L) := ownG_keepB ho3 hb4; clear hb9)
                | (go_at_call 52; refine (HG.out _ (by first | assumption | exact Below.drew (by assumption)) _ (by assumption)).mono ?_; rw [HYE.out]; rintro e w3 ⟨rfl, hb3⟩; have hw3 : Below w2.heap.size w2 w3 := (by first | exact keepB HW.out hb3 | exact keepB HW.out.drew hb3); have ho3 : w3.ownsRow w2.heap.size 91 2 u6 L.length (pcs L) := (by first | exact ownG_keepB HO.out hb3 | exact ownG_keepB (World.ownsRow.drew HO.out) hb3)))
            have HW4 := Lib.hid hw4
            have HO4 := Lib.hid ho4
            have hO := ho4
            rw [HNL.out] at hO
            have hsz4 := hw4.size
            clear hw3 ho3 hw4 ho4
            by_cases hxy : x < y
            · have d1 : decide (x < y) = true := decide_eq_true hxy
              have HEV := Lib.hid (show As.env V a ps D k m = true by rw [HD.out]; exact d1)
              go_wp2_with (at_builtin; go_loud (refine wpList_append_lies _ rfl _ _ _ rfl w2.heap.size 91 i0 _ 2 16 Try.underlying54 HI.out HI2.out HI3.out HI4.out rfl (by omega) _ nl (pcs L) (by rfl) (World.ownsRow.alloc hO _) ⟨w4.heap.size, 0, none⟩ 1 1 [.int .i64 (k : Int), .int .i64 (m : Int)] (by rfl) (by rfl) (World.news_of_block (cs := #[.int .i64 (k : Int), .int .i64 (m : Int)]) (t := 91) (fr := (0, 0)) (heap_alloc_new w4 _)) (by simp [Value.oneCell']) (by omega) (by unfold maxLen; omega) (by omega) (by simp; omega) (w4.heap.size + 1) (by simp) ?_; intro g cap w6 hown1 hgrow hat hglt))
              have hb6 := own_app rfl HW4.out (fun b hb => (World.ownsRow.lt hO b hb).1) hgrow
              go_roundw
              case rel => exact ⟨m + 1, by omega, by go_num, Lib.hid hb6, Lib.hid (by
                unfold OwnP
                rw [HE.out, HEV.out, if_pos rfl, ← List.append_assoc, HLE.out, List.length_append, HNL.out, pcs_app]
                exact hown1)⟩
              case measure => simp [intOf]; omega
            · have d1 : decide (x < y) = false := decide_eq_false hxy
              have HEV := Lib.hid (show As.env V a ps D k m = false by rw [HD.out]; exact d1)
              go_wp2_with fail
              go_roundw
              case rel => exact ⟨m + 1, by omega, by go_num, HW4, Lib.hid (by
                rw [HE.out, HEV.out, if_neg (by simp), List.append_nil, HLE.out]
                exact HO4.out)⟩
              case measure => simp [intOf]; omega
          · obtain rfl : m = V.length := by omega
            rw [HSN.out] at HO
            go_wp2_with fail
            go_roundw
            case rel => exact ⟨k + 1, by omega, by go_num, HW, HO⟩
            case measure => simp [intOf]; omega
      · obtain rfl : k = V.length := by omega
        obtain ⟨X, cc, rfl⟩ := HO.out.form
        have HFF := Lib.hid (HF.out X cc _ wr HO.out (keepB HBB.out HW.out))
        clear HO
        generalize (As.envl V a ps D V.length).length = nn at *
        go_wp2_with fail
        go_ret2
        exact HFF.out
  · have HQ := Lib.hid (show ∀ (w' : World), Below w.heap.size w w' → EnQ w V R xs ps D (.returned (.tuple #[.slice none 0 0, .int .i64 (As.vld V R xs ps D)])) w' from fun w' hb => ⟨none, 0, by rw [As.enS_no h2]; rfl, by rw [As.enS_no h2]; exact isP_nil _ _, hb⟩)
    generalize As.vld V R xs ps D = c at *
    have CV' := Lib.hid CV
    clear CV h2 h hB hC hl hx
    go_enter Try.func24, Try.ntmps24
    go_upto_region 1 with fail
    refine at_box2 (fun V0 hbb b0 b1 hsz => ?_)
    clear hsz
    have c0 := b0.c 0 rfl
    have c1 := b0.c 1 rfl
    have k0 := b1.c 0 rfl
    have k1 := b1.c 1 rfl
    have k2 := b1.c 2 rfl
    go_wp2_with fail
    refine (CV'.out _ hbb).mono ?_
    rintro e w1 ⟨rfl, hb1⟩
    replace c0 := keepC hb1 c0
    replace c1 := keepC hb1 c1
    replace k0 := keepC hb1 k0
    replace k1 := keepC hb1 k1
    replace k2 := keepC hb1 k2
    replace hbb := keepB hbb hb1
    clear hb1 b0 b1
    go_wp2_with fail
    refine (CV'.out _ hbb).mono ?_
    rintro e w3 ⟨rfl, hb1⟩
    replace hbb := keepB hbb hb1
    clear hb1 c0 c1 k0 k1 k2
    go_wp2_with fail
    go_ret2
    exact HQ.out _ hbb
end Go.Proofs.Ytpiolhjiflohgaa
