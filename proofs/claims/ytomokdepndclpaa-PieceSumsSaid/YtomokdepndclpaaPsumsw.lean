/- The walk of the law PieceSums: it answers true. -/
import Derived.Test.YtomokdepndclpaaQh
import Derived.Test.YtomokdepndclpaaRcheck
import Derived.Test.YtomokdepndclpaaSame
namespace Go.Proofs.Ytomokdepndclpaa
open Go.RowKit
namespace Pc
theorem opP_ends {f : Bool → Bool → Bool} (hf : f false false = false) {A B : List (Rat × Rat)} (hA : Good A) (hB : Good B) {r : Rat} (h : r ∈ ends (opP f A B)) : r ∈ ends A ∨ r ∈ ends B := by
  unfold opP at h
  rw [ends_pairs _ _ (Nat.le_refl _) (even_swp f hf hA.inc hB.inc (ends_even A) (ends_even B))] at h
  exact swp_mem hA.inc hB.inc h
theorem len_adds {La Lb U M : List (Rat × Rat)} (gA : Good La) (gB : Good Lb) (gU : Good U) (gM : Good M) (hs : sumG (fun x => x) U + sumG (fun x => x) M = sumG (fun x => x) La + sumG (fun x => x) Lb)
    (h : decide ((lenS (La.map raw)).2.2 = 0 ∧ (lenS (Lb.map raw)).2.2 = 0 ∧ (lenS (U.map raw)).2.2 = 0 ∧ (lenS (M.map raw)).2.2 = 0) = true) :
    (Rp.Ok (lenS (La.map raw)).1 (lenS (La.map raw)).2.1 ∧ Rp.Ok (lenS (Lb.map raw)).1 (lenS (Lb.map raw)).2.1 ∧ Rp.Ok (lenS (U.map raw)).1 (lenS (U.map raw)).2.1 ∧ Rp.Ok (lenS (M.map raw)).1 (lenS (M.map raw)).2.1) ∧
      Rp.q (lenS (La.map raw)).1 (lenS (La.map raw)).2.1 + Rp.q (lenS (Lb.map raw)).1 (lenS (Lb.map raw)).2.1 = Rp.q (lenS (U.map raw)).1 (lenS (U.map raw)).2.1 + Rp.q (lenS (M.map raw)).1 (lenS (M.map raw)).2.1 := by
  obtain ⟨h1, h2, h3, h4⟩ := of_decide_eq_true h
  have a := lenS_val gA h1
  have b := lenS_val gB h2
  have c := lenS_val gU h3
  have d := lenS_val gM h4
  exact ⟨⟨a.1, b.1, c.1, d.1⟩, by rw [a.2, b.2, c.2, d.2, hs]⟩
theorem worth_val {len : Int} {cuts dens : List Int} (hG : Ck.Good len cuts dens) {L : List (Rat × Rat)} (g : Good L) (h : (sumF (wM cuts dens) L 0 1).2.2 = 0) :
    Rp.Ok (sumF (wM cuts dens) L 0 1).1 (sumF (wM cuts dens) L 0 1).2.1 ∧ Rp.q (sumF (wM cuts dens) L 0 1).1 (sumF (wM cuts dens) L 0 1).2.1 = sumG (fun x => Ck.cum cuts dens x dens.length) L := by
  have := sumF_val (mf := wM cuts dens) (g := fun x => Ck.cum cuts dens x dens.length) (fun s hs h0 => by
    obtain ⟨k, hk, rfl⟩ := List.mem_iff_getElem.1 hs
    have hm := mem_ends1 hk
    rw [sat_lt hk] at hm
    rcases wM_bd hG (g.fit _ hm.1) (g.fit _ hm.2) (spans_of_good g _ (List.getElem_mem hk)) with ⟨_, o, q⟩ | e
    · exact ⟨o, q⟩
    · rw [e] at h0; cases h0) (show Rp.Ok 0 1 by decide) h
  refine ⟨this.1, ?_⟩
  rw [this.2, show Rp.q 0 1 = 0 from rfl]
  grind
theorem worth_adds {len : Int} {cuts dens : List Int} (hG : Ck.Good len cuts dens) {La Lb U M : List (Rat × Rat)} (gA : Good La) (gB : Good Lb) (gU : Good U) (gM : Good M) (hs : ∀ g : Rat → Rat, sumG g U + sumG g M = sumG g La + sumG g Lb)
    (h : decide ((sumF (wM cuts dens) La 0 1).2.2 = 0 ∧ (sumF (wM cuts dens) Lb 0 1).2.2 = 0 ∧ (sumF (wM cuts dens) U 0 1).2.2 = 0 ∧ (sumF (wM cuts dens) M 0 1).2.2 = 0) = true) :
    (Rp.Ok (sumF (wM cuts dens) La 0 1).1 (sumF (wM cuts dens) La 0 1).2.1 ∧ Rp.Ok (sumF (wM cuts dens) Lb 0 1).1 (sumF (wM cuts dens) Lb 0 1).2.1 ∧ Rp.Ok (sumF (wM cuts dens) U 0 1).1 (sumF (wM cuts dens) U 0 1).2.1 ∧ Rp.Ok (sumF (wM cuts dens) M 0 1).1 (sumF (wM cuts dens) M 0 1).2.1) ∧
      Rp.q (sumF (wM cuts dens) La 0 1).1 (sumF (wM cuts dens) La 0 1).2.1 + Rp.q (sumF (wM cuts dens) Lb 0 1).1 (sumF (wM cuts dens) Lb 0 1).2.1 = Rp.q (sumF (wM cuts dens) U 0 1).1 (sumF (wM cuts dens) U 0 1).2.1 + Rp.q (sumF (wM cuts dens) M 0 1).1 (sumF (wM cuts dens) M 0 1).2.1 := by
  obtain ⟨h1, h2, h3, h4⟩ := of_decide_eq_true h
  have a := worth_val hG gA h1
  have b := worth_val hG gB h2
  have c := worth_val hG gU h3
  have d := worth_val hG gM h4
  exact ⟨⟨a.1, b.1, c.1, d.1⟩, by rw [a.2, b.2, c.2, d.2, hs]⟩
end Pc
set_option linter.unusedSimpArgs false in
set_option linter.unusedVariables false in
set_option maxHeartbeats 32000000 in
set_option maxRecDepth 100000 in
theorem sums3_walk (A : Option Addr) (ca : Nat) (xs : List Raw) (B : Option Addr) (cb : Nat) (ys : List Raw) (len : Int) (K : Option Addr) (cuts : List Int) (ck : Nat) (Z : Option Addr) (dens : List Int) (cz : Nat) (w : World) (hlx : xs.length ≤ maxLen) (ha : IsS w A xs) (hly : ys.length ≤ maxLen) (hb : IsS w B ys) (hk : IsCake w len K cuts Z dens) :
    Calls Try.prog 11 #[.slice A xs.length ca, .slice B ys.length cb, .agg #[.int .i64 len, .slice K cuts.length ck, .slice Z dens.length cz]] w fun e w' => e = .returned (.bool true) ∧ Below w.heap.size w w' := by
  have va := fun v (hv : Below w.heap.size w v) => valid_any A ca xs v (ha.keep hv)
  have vb := fun v (hv : Below w.heap.size w v) => valid_any B cb ys v (hb.keep hv)
  have gx := fun v => great_any len K cuts ck Z dens cz v hk.2.1.1 hk.2.1.2
  have kc := fun v (hv : Below w.heap.size w v) => rckCheck_any len K cuts ck Z dens cz v (hk.keep hv)
  by_cases h1 : Pc.validB xs = true
  case neg =>
    have h1 : Pc.validB xs = false := by simpa using h1
    rw [h1] at va
    have VA := Lib.hid va
    clear va vb gx kc ha hb hk h1 hlx hly
    go_enter Try.func11, Try.ntmps11
    have hbb := below_al (Below.refl w.heap.size w) (.cells #[.int .i64 len, .slice K cuts.length ck, .slice Z dens.length cz] 27)
    have x0 := new0 w (.int .i64 len) (.slice K cuts.length ck) (.slice Z dens.length cz) 27
    have x1 := new1 w (.int .i64 len) (.slice K cuts.length ck) (.slice Z dens.length cz) 27
    have x2 := new2 w (.int .i64 len) (.slice K cuts.length ck) (.slice Z dens.length cz) 27
    go_wp2_with fail
    refine (VA.out _ hbb).mono ?_
    rintro e w1 ⟨rfl, hb3⟩
    replace x0 := keepC hb3 x0
    replace x1 := keepC hb3 x1
    replace x2 := keepC hb3 x2
    replace hbb := keepB hbb hb3
    clear hb3
    go_wp2_with fail
    refine (palive_any _).mono ?_
    rintro e w2 ⟨rfl, hb3⟩
    replace x0 := keepC hb3 x0
    replace x1 := keepC hb3 x1
    replace x2 := keepC hb3 x2
    replace hbb := keepB hbb hb3
    clear hb3
    go_wp2_with fail
    go_ret
    exact ⟨by first | rfl | simp, hbb⟩

  rw [h1] at va
  have VA := Lib.hid va
  by_cases h2 : Pc.validB ys = true
  case neg =>
    have h2 : Pc.validB ys = false := by simpa using h2
    rw [h2] at vb
    have VB := Lib.hid vb
    clear va vb gx kc ha hb hk h1 h2 hlx hly
    go_enter Try.func11, Try.ntmps11
    have hbb := below_al (Below.refl w.heap.size w) (.cells #[.int .i64 len, .slice K cuts.length ck, .slice Z dens.length cz] 27)
    have x0 := new0 w (.int .i64 len) (.slice K cuts.length ck) (.slice Z dens.length cz) 27
    have x1 := new1 w (.int .i64 len) (.slice K cuts.length ck) (.slice Z dens.length cz) 27
    have x2 := new2 w (.int .i64 len) (.slice K cuts.length ck) (.slice Z dens.length cz) 27
    go_wp2_with fail
    refine (VA.out _ hbb).mono ?_
    rintro e w1 ⟨rfl, hb3⟩
    replace x0 := keepC hb3 x0
    replace x1 := keepC hb3 x1
    replace x2 := keepC hb3 x2
    replace hbb := keepB hbb hb3
    clear hb3
    go_wp2_with fail
    refine (VB.out _ hbb).mono ?_
    rintro e w2 ⟨rfl, hb3⟩
    replace x0 := keepC hb3 x0
    replace x1 := keepC hb3 x1
    replace x2 := keepC hb3 x2
    replace hbb := keepB hbb hb3
    clear hb3
    go_wp2_with fail
    refine (palive_any _).mono ?_
    rintro e w3 ⟨rfl, hb3⟩
    replace x0 := keepC hb3 x0
    replace x1 := keepC hb3 x1
    replace x2 := keepC hb3 x2
    replace hbb := keepB hbb hb3
    clear hb3
    go_wp2_with fail
    go_ret
    exact ⟨by first | rfl | simp, hbb⟩

  rw [h2] at vb
  have VB := Lib.hid vb
  generalize (decide (60 < cuts.length) || decide (60 < dens.length)) = gb at *
  have GX := Lib.hid gx
  cases gb
  case true =>
    clear va vb gx kc ha hb hk h1 h2 hlx hly
    go_enter Try.func11, Try.ntmps11
    have hbb := below_al (Below.refl w.heap.size w) (.cells #[.int .i64 len, .slice K cuts.length ck, .slice Z dens.length cz] 27)
    have x0 := new0 w (.int .i64 len) (.slice K cuts.length ck) (.slice Z dens.length cz) 27
    have x1 := new1 w (.int .i64 len) (.slice K cuts.length ck) (.slice Z dens.length cz) 27
    have x2 := new2 w (.int .i64 len) (.slice K cuts.length ck) (.slice Z dens.length cz) 27
    go_wp2_with fail
    refine (VA.out _ hbb).mono ?_
    rintro e w1 ⟨rfl, hb3⟩
    replace x0 := keepC hb3 x0
    replace x1 := keepC hb3 x1
    replace x2 := keepC hb3 x2
    replace hbb := keepB hbb hb3
    clear hb3
    go_wp2_with fail
    refine (VB.out _ hbb).mono ?_
    rintro e w2 ⟨rfl, hb3⟩
    replace x0 := keepC hb3 x0
    replace x1 := keepC hb3 x1
    replace x2 := keepC hb3 x2
    replace hbb := keepB hbb hb3
    clear hb3
    go_wp2_with fail
    refine (GX.out _).mono ?_
    rintro e w3 ⟨rfl, hb3⟩
    replace x0 := keepC hb3 x0
    replace x1 := keepC hb3 x1
    replace x2 := keepC hb3 x2
    replace hbb := keepB hbb hb3
    clear hb3
    go_wp2_with fail
    refine (palive_any _).mono ?_
    rintro e w4 ⟨rfl, hb3⟩
    replace x0 := keepC hb3 x0
    replace x1 := keepC hb3 x1
    replace x2 := keepC hb3 x2
    replace hbb := keepB hbb hb3
    clear hb3
    go_wp2_with fail
    go_ret
    exact ⟨by first | rfl | simp, hbb⟩

  case false =>
  obtain ⟨La, rfl, gA, lA⟩ := Pc.valid_good h1
  obtain ⟨Lb, rfl, gB, lB⟩ := Pc.valid_good h2
  have uu := Pc.opP_good (f := (fun x y => x || y)) rfl gA gB (by omega)
  have mm := Pc.opP_good (f := (fun x y => x && y)) rfl gA gB (by omega)
  have hs := fun g => Pc.sumG_both g gA gB
  have sU := Pc.setS_op (f := (fun x y => x || y)) gA gB (by omega)
  have sM := Pc.setS_op (f := (fun x y => x && y)) gA gB (by omega)
  have eU := fun r => Pc.opP_ends (f := (fun x y => x || y)) rfl gA gB (r := r)
  have eM := fun r => Pc.opP_ends (f := (fun x y => x && y)) rfl gA gB (r := r)
  have C1 := fun v (h : IsS v A (La.map Pc.raw)) (k : IsS v B (Lb.map Pc.raw)) => pUnion_any A B ca cb _ _ v h k
  have C3 := fun v (h : IsS v A (La.map Pc.raw)) (k : IsS v B (Lb.map Pc.raw)) => pMeet_any A B ca cb _ _ v h k
  rw [sU] at C1
  rw [sM] at C3
  simp only [List.length_map] at C1 C3 VA VB ⊢
  try dsimp only at C1 C3
  have gU := uu.1
  have gM := mm.1
  clear va vb gx h1 h2 hlx hly uu mm sU sM
  generalize Pc.opP (fun x y => x || y) La Lb = U at *
  generalize Pc.opP (fun x y => x && y) La Lb = M at *
  have la := Pc.len_adds gA gB gU gM (hs _)
  have ad1 := fun v => adds_any (Pc.lenS (La.map Pc.raw)).1 (Pc.lenS (La.map Pc.raw)).2.1 (Pc.lenS (Lb.map Pc.raw)).1 (Pc.lenS (Lb.map Pc.raw)).2.1 (Pc.lenS (U.map Pc.raw)).1 (Pc.lenS (U.map Pc.raw)).2.1 (Pc.lenS (M.map Pc.raw)).1 (Pc.lenS (M.map Pc.raw)).2.1 _ v la
  have LE := fun Zu Zm cu cm v h1 h2 h3 h4 => lengths_any A B Zu Zm ca cb cu cm (La.map Pc.raw) (Lb.map Pc.raw) (U.map Pc.raw) (M.map Pc.raw) v h1 h2 h3 h4
  simp only [List.length_map] at LE
  clear la
  generalize Pc.lenS (La.map Pc.raw) = R1 at ad1 LE
  obtain ⟨a1, b1, e1⟩ := R1
  generalize Pc.lenS (Lb.map Pc.raw) = R2 at ad1 LE
  obtain ⟨a2, b2, e2⟩ := R2
  generalize Pc.lenS (U.map Pc.raw) = R3 at ad1 LE
  obtain ⟨a3, b3, e3⟩ := R3
  generalize Pc.lenS (M.map Pc.raw) = R4 at ad1 LE
  obtain ⟨a4, b4, e4⟩ := R4
  dsimp only at ad1 LE
  generalize decide (e1 = 0 ∧ e2 = 0 ∧ e3 = 0 ∧ e4 = 0) = okl at ad1 LE
  have AD1 := Lib.hid ad1
  have XLE := Lib.hid LE
  clear ad1
  have XC1 := Lib.hid C1
  have XC3 := Lib.hid C3
  have XfU := Lib.hid gU.fit
  have XfM := Lib.hid gM.fit
  have XfUL := Lib.hid (show U.length ≤ maxLen by have := gU.len; unfold maxLen; omega)
  have XfML := Lib.hid (show M.length ≤ maxLen by have := gM.len; unfold maxLen; omega)
  have HG := Lib.hid (And.intro gA (And.intro gB (And.intro gU gM)))
  have HS := Lib.hid hs
  have HEU := Lib.hid eU
  have HEM := Lib.hid eM
  have KC := Lib.hid kc
  clear LE C1 C3 gA gB gU gM hs eU eM lA lB kc
  go_enter Try.func11, Try.ntmps11
  have hbb := below_al (Below.refl w.heap.size w) (.cells #[.int .i64 len, .slice K cuts.length ck, .slice Z dens.length cz] 27)
  have x0 := new0 w (.int .i64 len) (.slice K cuts.length ck) (.slice Z dens.length cz) 27
  have x1 := new1 w (.int .i64 len) (.slice K cuts.length ck) (.slice Z dens.length cz) 27
  have x2 := new2 w (.int .i64 len) (.slice K cuts.length ck) (.slice Z dens.length cz) 27
  have Ia := ha.keep (below_al (Below.refl w.heap.size w) (.cells #[.int .i64 len, .slice K cuts.length ck, .slice Z dens.length cz] 27))
  have Ib := hb.keep (below_al (Below.refl w.heap.size w) (.cells #[.int .i64 len, .slice K cuts.length ck, .slice Z dens.length cz] 27))
  have Ik := hk.keep (below_al (Below.refl w.heap.size w) (.cells #[.int .i64 len, .slice K cuts.length ck, .slice Z dens.length cz] 27))
  clear ha hb
  go_wp2_with fail
  refine (VA.out _ hbb).mono ?_
  rintro e w1 ⟨rfl, hb3⟩
  replace Ia := Ia.keep hb3
  replace Ib := Ib.keep hb3
  replace Ik := Ik.keep hb3
  replace x0 := keepC hb3 x0
  replace x1 := keepC hb3 x1
  replace x2 := keepC hb3 x2
  replace hbb := keepB hbb hb3
  clear hb3
  go_wp2_with fail
  refine (VB.out _ hbb).mono ?_
  rintro e w2 ⟨rfl, hb3⟩
  replace Ia := Ia.keep hb3
  replace Ib := Ib.keep hb3
  replace Ik := Ik.keep hb3
  replace x0 := keepC hb3 x0
  replace x1 := keepC hb3 x1
  replace x2 := keepC hb3 x2
  replace hbb := keepB hbb hb3
  clear hb3
  go_wp2_with fail
  refine (GX.out _).mono ?_
  rintro e w3 ⟨rfl, hb3⟩
  replace Ia := Ia.keep hb3
  replace Ib := Ib.keep hb3
  replace Ik := Ik.keep hb3
  replace x0 := keepC hb3 x0
  replace x1 := keepC hb3 x1
  replace x2 := keepC hb3 x2
  replace hbb := keepB hbb hb3
  clear hb3
  go_wp2_with fail
  refine (XC1.out _ Ia Ib).mono ?_
  rintro e w4 ⟨v1, rfl, hv1⟩
  have hb3 := hv1.bb
  obtain ⟨Z1, c1, rfl, -⟩ := row_cap hv1.row
  have I1 := isS_row hv1.row rfl XfU.out XfUL.out
  clear hv1
  replace Ia := Ia.keep hb3
  replace Ib := Ib.keep hb3
  replace Ik := Ik.keep hb3
  replace x0 := keepC hb3 x0
  replace x1 := keepC hb3 x1
  replace x2 := keepC hb3 x2
  replace hbb := keepB hbb hb3
  clear hb3
  go_wp2_with fail
  refine (XC3.out _ Ia Ib).mono ?_
  rintro e w5 ⟨v2, rfl, hv2⟩
  have hb3 := hv2.bb
  obtain ⟨Z2, c2, rfl, -⟩ := row_cap hv2.row
  have I2 := isS_row hv2.row rfl XfM.out XfML.out
  clear hv2
  replace Ia := Ia.keep hb3
  replace Ib := Ib.keep hb3
  replace Ik := Ik.keep hb3
  replace I1 := I1.keep hb3
  replace x0 := keepC hb3 x0
  replace x1 := keepC hb3 x1
  replace x2 := keepC hb3 x2
  replace hbb := keepB hbb hb3
  clear hb3
  have f0 : ((0 : Int) != 0) = false := rfl
  have f1 : ((0 : Int) == 0) = true := rfl
  go_wp2_with fail
  refine (XLE.out Z1 Z2 c1 c2 _ Ia Ib I1 I2).mono ?_
  rintro e w6 ⟨rfl, hb3⟩
  replace Ia := Ia.keep hb3
  replace Ib := Ib.keep hb3
  replace Ik := Ik.keep hb3
  replace I1 := I1.keep hb3
  replace I2 := I2.keep hb3
  replace x0 := keepC hb3 x0
  replace x1 := keepC hb3 x1
  replace x2 := keepC hb3 x2
  replace hbb := keepB hbb hb3
  clear hb3
  go_wp2_with fail
  refine (AD1.out _).mono ?_
  rintro e w7 ⟨rfl, hb3⟩
  replace Ia := Ia.keep hb3
  replace Ib := Ib.keep hb3
  replace Ik := Ik.keep hb3
  replace I1 := I1.keep hb3
  replace I2 := I2.keep hb3
  replace x0 := keepC hb3 x0
  replace x1 := keepC hb3 x1
  replace x2 := keepC hb3 x2
  replace hbb := keepB hbb hb3
  clear hb3
  go_wp2_with fail
  by_cases hc : Ck.chk len cuts dens = 0
  case neg =>
    as_aux_lemma =>
      have n1 : (Ck.chk len cuts dens != 0) = true := by rw [bne_iff_ne]; exact hc
      refine (KC.out _ hbb).mono ?_
      rintro e w51 ⟨rfl, hb3⟩
      replace hbb := keepB hbb hb3
      clear hb3
      go_wp2_with fail
      refine (palive_any _).mono ?_
      rintro e w52 ⟨rfl, hb3⟩
      replace hbb := keepB hbb hb3
      clear hb3
      go_wp2_with fail
      go_ret
      exact ⟨by first | rfl | simp, hbb⟩
  case pos =>
  have KC0 := KC.out
  rw [hc] at KC0
  have hCG := Ck.chk_good hc
  have wa := fun v h => rWithin_any len A ca La v hCG.len0 hCG.len1 (by have := HG.out.1.len; omega) HG.out.1.fit h
  have wb := fun v h => rWithin_any len B cb Lb v hCG.len0 hCG.len1 (by have := HG.out.2.1.len; omega) HG.out.2.1.fit h
  by_cases w1' : La.all (Pc.inS len) = true
  case neg =>
    as_aux_lemma =>
      have w1' : La.all (Pc.inS len) = false := by simpa using w1'
      rw [w1'] at wa
      have WA := Lib.hid wa
      clear wa wb w1' hc hCG
      refine (KC0 _ hbb).mono ?_
      rintro e w61 ⟨rfl, hb3⟩
      replace Ia := Ia.keep hb3
      replace Ib := Ib.keep hb3
      replace Ik := Ik.keep hb3
      replace x0 := keepC hb3 x0
      replace x1 := keepC hb3 x1
      replace x2 := keepC hb3 x2
      replace hbb := keepB hbb hb3
      clear hb3
      clear KC0
      go_wp2_with fail
      refine (WA.out _ Ia).mono ?_
      rintro e w62 ⟨rfl, hb3⟩
      replace Ia := Ia.keep hb3
      replace Ib := Ib.keep hb3
      replace Ik := Ik.keep hb3
      replace x0 := keepC hb3 x0
      replace x1 := keepC hb3 x1
      replace x2 := keepC hb3 x2
      replace hbb := keepB hbb hb3
      clear hb3
      go_wp2_with fail
      refine (palive_any _).mono ?_
      rintro e w63 ⟨rfl, hb3⟩
      replace Ia := Ia.keep hb3
      replace Ib := Ib.keep hb3
      replace Ik := Ik.keep hb3
      replace x0 := keepC hb3 x0
      replace x1 := keepC hb3 x1
      replace x2 := keepC hb3 x2
      replace hbb := keepB hbb hb3
      clear hb3
      go_wp2_with fail
      go_ret
      exact ⟨by first | rfl | simp, hbb⟩
  case pos =>
  by_cases w2' : Lb.all (Pc.inS len) = true
  case neg =>
    as_aux_lemma =>
      have w2' : Lb.all (Pc.inS len) = false := by simpa using w2'
      rw [w1'] at wa
      rw [w2'] at wb
      have WA := Lib.hid wa
      have WB := Lib.hid wb
      clear wa wb w1' w2' hc hCG
      refine (KC0 _ hbb).mono ?_
      rintro e w71 ⟨rfl, hb3⟩
      replace Ia := Ia.keep hb3
      replace Ib := Ib.keep hb3
      replace Ik := Ik.keep hb3
      replace x0 := keepC hb3 x0
      replace x1 := keepC hb3 x1
      replace x2 := keepC hb3 x2
      replace hbb := keepB hbb hb3
      clear hb3
      clear KC0
      go_wp2_with fail
      refine (WA.out _ Ia).mono ?_
      rintro e w72 ⟨rfl, hb3⟩
      replace Ia := Ia.keep hb3
      replace Ib := Ib.keep hb3
      replace Ik := Ik.keep hb3
      replace x0 := keepC hb3 x0
      replace x1 := keepC hb3 x1
      replace x2 := keepC hb3 x2
      replace hbb := keepB hbb hb3
      clear hb3
      go_wp2_with fail
      refine (WB.out _ Ib).mono ?_
      rintro e w73 ⟨rfl, hb3⟩
      replace Ia := Ia.keep hb3
      replace Ib := Ib.keep hb3
      replace Ik := Ik.keep hb3
      replace x0 := keepC hb3 x0
      replace x1 := keepC hb3 x1
      replace x2 := keepC hb3 x2
      replace hbb := keepB hbb hb3
      clear hb3
      go_wp2_with fail
      refine (palive_any _).mono ?_
      rintro e w74 ⟨rfl, hb3⟩
      replace Ia := Ia.keep hb3
      replace Ib := Ib.keep hb3
      replace Ik := Ik.keep hb3
      replace x0 := keepC hb3 x0
      replace x1 := keepC hb3 x1
      replace x2 := keepC hb3 x2
      replace hbb := keepB hbb hb3
      clear hb3
      go_wp2_with fail
      go_ret
      exact ⟨by first | rfl | simp, hbb⟩
  case pos =>
  as_aux_lemma =>
    have iA := Pc.within_ends w1'
    have iB := Pc.within_ends w2'
    have iU : ∀ r ∈ Pc.ends U, Pc.inC len r = true := fun r hr => (HEU.out r hr).elim (iA r) (iB r)
    have iM : ∀ r ∈ Pc.ends M, Pc.inC len r = true := fun r hr => (HEM.out r hr).elim (iA r) (iB r)
    have wd := Pc.worth_adds hCG HG.out.1 HG.out.2.1 HG.out.2.2.1 HG.out.2.2.2 HS.out
    have ad2 := fun v => adds_any (Pc.sumF (Pc.wM cuts dens) La 0 1).1 (Pc.sumF (Pc.wM cuts dens) La 0 1).2.1 (Pc.sumF (Pc.wM cuts dens) Lb 0 1).1 (Pc.sumF (Pc.wM cuts dens) Lb 0 1).2.1 (Pc.sumF (Pc.wM cuts dens) U 0 1).1 (Pc.sumF (Pc.wM cuts dens) U 0 1).2.1 (Pc.sumF (Pc.wM cuts dens) M 0 1).1 (Pc.sumF (Pc.wM cuts dens) M 0 1).2.1 _ v wd
    have wo := fun v h h1 h2 h3 h4 => worths_good len K cuts ck Z dens cz A B Z1 Z2 ca cb c1 c2 La Lb U M v h hc HG.out.1 HG.out.2.1 HG.out.2.2.1 HG.out.2.2.2 iA iB iU iM h1 h2 h3 h4
    clear wd
    generalize Pc.sumF (Pc.wM cuts dens) La 0 1 = S1 at ad2 wo
    obtain ⟨p1, q1, g1⟩ := S1
    generalize Pc.sumF (Pc.wM cuts dens) Lb 0 1 = S2 at ad2 wo
    obtain ⟨p2, q2, g2⟩ := S2
    generalize Pc.sumF (Pc.wM cuts dens) U 0 1 = S3 at ad2 wo
    obtain ⟨p3, q3, g3⟩ := S3
    generalize Pc.sumF (Pc.wM cuts dens) M 0 1 = S4 at ad2 wo
    obtain ⟨p4, q4, g4⟩ := S4
    dsimp only at ad2 wo
    generalize decide (g1 = 0 ∧ g2 = 0 ∧ g3 = 0 ∧ g4 = 0) = okw at ad2 wo
    have AD2 := Lib.hid ad2
    have WO := Lib.hid wo
    clear ad2 wo
    rw [w1'] at wa
    rw [w2'] at wb
    have WA := Lib.hid wa
    have WB := Lib.hid wb
    clear wa wb w1' w2' hc hCG iA iB iU iM
    refine (KC0 _ hbb).mono ?_
    rintro e w8 ⟨rfl, hb3⟩
    replace Ia := Ia.keep hb3
    replace Ib := Ib.keep hb3
    replace Ik := Ik.keep hb3
    replace I1 := I1.keep hb3
    replace I2 := I2.keep hb3
    replace x0 := keepC hb3 x0
    replace x1 := keepC hb3 x1
    replace x2 := keepC hb3 x2
    replace hbb := keepB hbb hb3
    clear hb3
    clear KC0
    go_wp2_with fail
    refine (WA.out _ Ia).mono ?_
    rintro e w9 ⟨rfl, hb3⟩
    replace Ia := Ia.keep hb3
    replace Ib := Ib.keep hb3
    replace Ik := Ik.keep hb3
    replace I1 := I1.keep hb3
    replace I2 := I2.keep hb3
    replace x0 := keepC hb3 x0
    replace x1 := keepC hb3 x1
    replace x2 := keepC hb3 x2
    replace hbb := keepB hbb hb3
    clear hb3
    go_wp2_with fail
    refine (WB.out _ Ib).mono ?_
    rintro e w10 ⟨rfl, hb3⟩
    replace Ia := Ia.keep hb3
    replace Ib := Ib.keep hb3
    replace Ik := Ik.keep hb3
    replace I1 := I1.keep hb3
    replace I2 := I2.keep hb3
    replace x0 := keepC hb3 x0
    replace x1 := keepC hb3 x1
    replace x2 := keepC hb3 x2
    replace hbb := keepB hbb hb3
    clear hb3
    go_wp2_with fail
    refine (WO.out _ Ik Ia Ib I1 I2).mono ?_
    rintro e w11 ⟨rfl, hb3⟩
    replace Ia := Ia.keep hb3
    replace Ib := Ib.keep hb3
    replace Ik := Ik.keep hb3
    replace I1 := I1.keep hb3
    replace I2 := I2.keep hb3
    replace x0 := keepC hb3 x0
    replace x1 := keepC hb3 x1
    replace x2 := keepC hb3 x2
    replace hbb := keepB hbb hb3
    clear hb3
    go_wp2_with fail
    refine (AD2.out _).mono ?_
    rintro e w12 ⟨rfl, hb3⟩
    replace Ia := Ia.keep hb3
    replace Ib := Ib.keep hb3
    replace Ik := Ik.keep hb3
    replace I1 := I1.keep hb3
    replace I2 := I2.keep hb3
    replace x0 := keepC hb3 x0
    replace x1 := keepC hb3 x1
    replace x2 := keepC hb3 x2
    replace hbb := keepB hbb hb3
    clear hb3
    clear Ia Ib Ik I1 I2 x0 x1 x2
    go_wp2_with fail
    refine (palive_any _).mono ?_
    rintro e w13 ⟨rfl, hb3⟩
    replace hbb := keepB hbb hb3
    clear hb3
    go_wp2_with fail
    go_ret
    exact ⟨by first | rfl | simp, hbb⟩
end Go.Proofs.Ytomokdepndclpaa
