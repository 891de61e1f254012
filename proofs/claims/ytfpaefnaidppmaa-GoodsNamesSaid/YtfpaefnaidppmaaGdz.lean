/- Package goods: Pass, Give. -/
import Derived.Test.YtfpaefnaidppmaaGdx
namespace Go.Proofs.Ytfpaefnaidppmaa
open Go.RowKit
namespace As
/-- What Pass returns, and its error. -/
def psS (V : List (List Int)) (a o : List Int) : List Int := if gvld V a = 0 then (if isA o V.length = true then a.map (ixo o) else []) else []
def psE (V : List (List Int)) (a o : List Int) : Int := if gvld V a = 0 then (if isA o V.length = true then 0 else 2) else gvld V a
theorem psS_yes {V : List (List Int)} {a o : List Int} (h : gvld V a = 0) (h2 : isA o V.length = true) : psS V a o = a.map (ixo o) := by unfold psS; rw [if_pos h, if_pos h2]
theorem psE_yes {V : List (List Int)} {a o : List Int} (h : gvld V a = 0) (h2 : isA o V.length = true) : psE V a o = 0 := by unfold psE; rw [if_pos h, if_pos h2]
theorem psS_arg {V : List (List Int)} {a o : List Int} (h2 : isA o V.length = false) : psS V a o = [] := by unfold psS; rw [h2]; split <;> rfl
theorem psE_arg {V : List (List Int)} {a o : List Int} (h : gvld V a = 0) (h2 : isA o V.length = false) : psE V a o = 2 := by unfold psE; rw [if_pos h, h2]; rfl
theorem psS_no {V : List (List Int)} {a o : List Int} (h : gvld V a ≠ 0) : psS V a o = [] := by unfold psS; rw [if_neg h]
theorem psE_no {V : List (List Int)} {a o : List Int} (h : gvld V a ≠ 0) : psE V a o = gvld V a := by unfold psE; rw [if_neg h]
/-- Is there such a good, and such an agent? -/
def gvB (V : List (List Int)) (a : List Int) (g x : Int) : Bool := decide (0 ≤ g ∧ g < a.length ∧ -1 ≤ x ∧ x < V.length)
/-- What Give returns, and its error. -/
def gvS (V : List (List Int)) (a : List Int) (g x : Int) : List Int := if gvld V a = 0 then (if gvB V a g x = true then a.set g.toNat x else []) else []
def gvE (V : List (List Int)) (a : List Int) (g x : Int) : Int := if gvld V a = 0 then (if gvB V a g x = true then 0 else 2) else gvld V a
theorem gvS_yes {V : List (List Int)} {a : List Int} {g x : Int} (h : gvld V a = 0) (h2 : gvB V a g x = true) : gvS V a g x = a.set g.toNat x := by unfold gvS; rw [if_pos h, if_pos h2]
theorem gvE_yes {V : List (List Int)} {a : List Int} {g x : Int} (h : gvld V a = 0) (h2 : gvB V a g x = true) : gvE V a g x = 0 := by unfold gvE; rw [if_pos h, if_pos h2]
theorem gvS_arg {V : List (List Int)} {a : List Int} {g x : Int} (h2 : gvB V a g x = false) : gvS V a g x = [] := by unfold gvS; rw [h2]; split <;> rfl
theorem gvE_arg {V : List (List Int)} {a : List Int} {g x : Int} (h : gvld V a = 0) (h2 : gvB V a g x = false) : gvE V a g x = 2 := by unfold gvE; rw [if_pos h, h2]; rfl
theorem gvS_no {V : List (List Int)} {a : List Int} {g x : Int} (h : gvld V a ≠ 0) : gvS V a g x = [] := by unfold gvS; rw [if_neg h]
theorem gvE_no {V : List (List Int)} {a : List Int} {g x : Int} (h : gvld V a ≠ 0) : gvE V a g x = gvld V a := by unfold gvE; rw [if_neg h]
theorem ml_map (f : Int → Int) (a : List Int) : ml a.length (fun k => f (el a k)) = a.map f := by
  unfold ml
  refine List.ext_getElem (by simp) fun j h1 h2 => ?_
  simp only [List.getElem_map, List.getElem_range]
  rw [el_lt (by simpa using h1)]
theorem ml_set (a : List Int) (g : Nat) (x : Int) : ml a.length (fun k => if k = g then x else el a k) = a.set g x := by
  unfold ml
  refine List.ext_getElem (by simp) fun j h1 h2 => ?_
  simp only [List.getElem_map, List.getElem_range, List.getElem_set]
  by_cases e : j = g
  · rw [if_pos e, if_pos e.symm]
  · rw [if_neg e, if_neg (fun h => e h.symm), el_lt (by simpa using h1)]
end As
/-- A list of the call's own, and an error. -/
def LsQ (xs : List Int) (c : Int) (w : World) (e : Ending) (w' : World) : Prop := ∃ X cap, e = .returned (.tuple #[.slice X xs.length cap, .int .i64 c]) ∧ IsI w' X xs ∧ Below w.heap.size w w'
theorem LsQ.nil {w w' : World} {c : Int} (hb : Below w.heap.size w w') : LsQ [] c w (.returned (.tuple #[.slice none 0 0, .int .i64 c])) w' := ⟨none, 0, rfl, isI_nil _ _, hb⟩
set_option maxRecDepth 100000 in
set_option maxHeartbeats 8000000 in
theorem gPass_any (A : Option Addr) (cv : Nat) (V : List (List Int)) (BA : Option Addr) (ca : Nat) (a : List Int) (OA : Option Addr) (co : Nat) (o : List Int) (w : World) (hl : V.length ≤ maxLen) (h : IsM w A V) (hal : a.length ≤ maxLen) (hB : IsI w BA a) (hol : o.length ≤ maxLen) (hO : IsI w OA o) :
    Calls Try.prog 24 #[.agg #[.slice A V.length cv], .slice BA a.length ca, .slice OA o.length co] w (LsQ (As.psS V a o) (As.psE V a o) w) := by
  have CV := Lib.hid (fun v (hv : Below w.heap.size w v) => gValid_any A cv V BA ca a v hl (h.keep hv) hal (hB.keep hv))
  rcases As.gvld_ne (V := V) (a := a) with h0 | ⟨h1, h2⟩
  · have hG := gd_of h0 h hB
    have n1 := hG.ok.n1
    have n6 := hG.ok.n6
    have hax : a.length ≤ 10 := by have h1 := hG.al.len; have h2 := hG.ok.m10; omega
    have CO := Lib.hid (fun v (hv : Below w.heap.size w v) => gisOrder_any OA co o V.length v hol (hO.keep hv))
    rw [h0] at CV
    cases hz : As.isA o V.length with
    | false =>
      rw [hz] at CO
      rw [As.psS_arg hz, As.psE_arg h0 hz]
      clear h hB h0 hG hz hO hol
      go_enter Try.func24, Try.ntmps24
      go_upto_region 1 with fail
      refine at_box1 (fun V0 hbb b0 hsz => ?_)
      clear hsz
      have c0 := b0.c 0 rfl
      go_wp2_with fail
      refine (CV.out _ hbb).mono ?_
      rintro e w1 ⟨rfl, hb1⟩
      replace c0 := keepC hb1 c0
      replace hbb := keepB hbb hb1
      clear hb1 b0
      go_wp2_with fail
      refine (CO.out _ hbb).mono ?_
      rintro e w2 ⟨rfl, hb2⟩
      have HBB := Lib.hid (keepB hbb hb2)
      clear hb2 hbb c0
      go_wp2_with fail
      go_ret2
      exact LsQ.nil HBB.out
    | true =>
      rw [hz] at CO
      rw [As.psS_yes h0 hz, As.psE_yes h0 hz]
      have CC := Lib.hid (fun v (hv : Below w.heap.size w v) => gClone_any BA ca a v (by omega) (hB.keep hv))
      have CT := Lib.hid (fun v x (hv : Below w.heap.size w v) => gTurn_any OA co o x v hol (hO.keep hv))
      have HAI := Lib.hid hB
      have HBD := Lib.hid (show ∀ x, I64 (As.ixo o x) from fun x => by
        have h1 := As.ixo_lt o x
        have h2 := hol
        unfold maxLen at h2
        unfold I64
        omega)
      have HF := Lib.hid (show ∀ X c w', (0 < a.length → ∃ g, X = some ⟨g, 0, none⟩ ∧ BF w' g a.length (fun k => As.ixo o (As.el a k))) → Below w.heap.size w w' → LsQ (a.map (As.ixo o)) 0 w (.returned (.tuple #[.slice X a.length c, .int .i64 0])) w' from fun X c w' hX hb => by
        refine ⟨X, c, by rw [List.length_map], ?_, hb⟩
        by_cases hp : 0 < a.length
        · obtain ⟨g, rfl, hbf⟩ := hX hp
          rw [← As.ml_map]
          exact hbf.isI (fun k _ => HBD.out _)
        · have : a = [] := List.length_eq_zero_iff.1 (by omega)
          rw [this]
          exact isI_nil _ _)
      clear h hB h0 hG hz hO
      unfold ClQ at CC
      generalize hm : a.length = m at *
      have HM := Lib.hid hm
      clear hm
      go_enter Try.func24, Try.ntmps24
      go_upto_region 1 with fail
      refine at_box1 (fun V0 hbb b0 hsz => ?_)
      clear hsz
      have c0 := b0.c 0 rfl
      go_wp2_with fail
      refine (CV.out _ hbb).mono ?_
      rintro e w1 ⟨rfl, hb1⟩
      replace c0 := keepC hb1 c0
      replace hbb := keepB hbb hb1
      clear hb1 b0
      go_wp2_with fail
      refine (CO.out _ hbb).mono ?_
      rintro e w2 ⟨rfl, hb2⟩
      replace hbb := keepB hbb hb2
      clear hb2 c0
      go_wp2_with fail
      refine (CC.out _ hbb).mono ?_
      rintro e w3 ⟨X, c, rfl, hX, hb3⟩
      have HB3 := Lib.hid (keepB hbb hb3)
      have HXX := Lib.hid (show ∀ _ : 0 < m, ∃ g, X = some ⟨g, 0, none⟩ ∧ w.heap.size ≤ g ∧ BF w3 g m (As.el a) from fun hp => by
        obtain ⟨g, h1, h2, h3⟩ := hX hp
        exact ⟨g, h1, Nat.le_trans hbb.size h2, h3⟩)
      clear hb3 hbb hX CV CO CC
      go_wp2_with fail
      go_loopw [28] (fun i W => ∃ k : Nat, k ≤ m ∧ i = .int .i64 k ∧ Hid (Below w.heap.size w W) ∧ Hid (∀ _ : 0 < m, ∃ g, X = some ⟨g, 0, none⟩ ∧ w.heap.size ≤ g ∧ BF W g m (fun j => if j < k then As.ixo o (As.el a j) else As.el a j))) (fun i _ => m - (intOf i).toNat)
      case atStart => exact ⟨0, Nat.zero_le _, rfl, HB3, Lib.hid (fun hp => by
        obtain ⟨g, h1, h2, h3⟩ := HXX.out hp
        exact ⟨g, h1, h2, h3.cong fun j _ => by rw [if_neg (by omega)]⟩)⟩
      case round =>
        clear HXX
        obtain ⟨k, hk, rfl, HW, HX⟩ := hrel
        by_cases hlt : k < m
        · obtain ⟨b, off, rfl, hcs⟩ := HAI.out.1 (by rw [HM.out]; omega)
          have x0 := keepC HW.out (hcs k (by rw [HM.out]; exact hlt))
          obtain ⟨g, rfl, hg, hbf⟩ := HX.out (by omega)
          have HBF := Lib.hid hbf
          have HG := Lib.hid hg
          have HT := Lib.hid (CT.out wr (As.el a k) HW.out)
          have HY := Lib.hid (show ∀ W, BF W g m (fun j => if j = k then As.ixo o (As.el a k) else if j < k then As.ixo o (As.el a j) else As.el a j) → BF W g m (fun j => if j < k + 1 then As.ixo o (As.el a j) else As.el a j) from fun W h => h.cong fun j _ => by
            by_cases e : j = k
            · subst e; rw [if_pos rfl, if_pos (by omega)]
            · rw [if_neg e]
              by_cases e2 : j < k
              · rw [if_pos e2, if_pos (by omega)]
              · rw [if_neg e2, if_neg (by omega)])
          clear hcs hbf hg HX
          generalize As.ixo o (As.el a k) = z at *
          generalize As.el a k = x at *
          go_wp2_with fail
          refine HT.out.mono ?_
          rintro e w4 ⟨rfl, hb4⟩
          have HW4 := Lib.hid (keepB HW.out hb4)
          have HBF4 := Lib.hid (HBF.out.keep hb4)
          have y0 := HBF4.out.c hlt
          have y1 := HBF4.out.f hlt
          clear hb4 x0
          go_wp2_with fail
          clear y0 y1
          go_roundw
          case rel => exact ⟨k + 1, by omega, by go_num, Lib.hid (HW4.out.setCell HG.out _), Lib.hid (fun _ => ⟨g, rfl, HG.out, HY.out _ (HBF4.out.set k z)⟩)⟩
          case measure => simp [intOf]; omega
        · obtain rfl : k = m := by omega
          have HFF := Lib.hid (HF.out X c wr (fun hp => by
            obtain ⟨g, h1, _, h3⟩ := HX.out hp
            exact ⟨g, h1, h3.cong fun j hj => by rw [if_pos hj]⟩) HW.out)
          go_wp2_with fail
          go_ret2
          exact HFF.out
  · rw [As.psS_no h2, As.psE_no h2]
    generalize As.gvld V a = c at *
    clear h2 h hB hl hal
    go_enter Try.func24, Try.ntmps24
    go_upto_region 1 with fail
    refine at_box1 (fun V0 hbb b0 hsz => ?_)
    clear hsz
    have c0 := b0.c 0 rfl
    go_wp2_with fail
    refine (CV.out _ hbb).mono ?_
    rintro e w1 ⟨rfl, hb1⟩
    replace hbb := keepB hbb hb1
    clear hb1 b0 c0
    go_wp2_with fail
    go_ret2
    exact LsQ.nil hbb
set_option maxRecDepth 100000 in
set_option maxHeartbeats 8000000 in
theorem gGive_any (A : Option Addr) (cv : Nat) (V : List (List Int)) (BA : Option Addr) (ca : Nat) (a : List Int) (g x : Int) (w : World) (hl : V.length ≤ maxLen) (h : IsM w A V) (hal : a.length ≤ maxLen) (hB : IsI w BA a) (hx : I64 x) :
    Calls Try.prog 26 #[.agg #[.slice A V.length cv], .slice BA a.length ca, .int .i64 g, .int .i64 x] w (LsQ (As.gvS V a g x) (As.gvE V a g x) w) := by
  have CV := Lib.hid (fun v (hv : Below w.heap.size w v) => gValid_any A cv V BA ca a v hl (h.keep hv) hal (hB.keep hv))
  rcases As.gvld_ne (V := V) (a := a) with h0 | ⟨h1, h2⟩
  · have hG := gd_of h0 h hB
    have hax : a.length ≤ 10 := by have h1 := hG.al.len; have h2 := hG.ok.m10; omega
    have CC := Lib.hid (fun v (hv : Below w.heap.size w v) => gClone_any BA ca a v (by omega) (hB.keep hv))
    have HBD := Lib.hid hB.bd
    rw [h0] at CV
    by_cases hy : 0 ≤ g ∧ g < a.length ∧ -1 ≤ x ∧ x < V.length
    · have hz : As.gvB V a g x = true := decide_eq_true hy
      rw [As.gvS_yes h0 hz, As.gvE_yes h0 hz]
      obtain ⟨y1, y2, y3, y4⟩ := hy
      obtain ⟨k, rfl⟩ := Int.eq_ofNat_of_zero_le y1
      rw [Int.toNat_natCast]
      have d1 : decide ((k : Int) < 0) = false := decide_eq_false (by omega)
      have d2 : decide ((a.length : Int) ≤ (k : Int)) = false := decide_eq_false (by omega)
      have d3 : decide (x < -1) = false := decide_eq_false (by omega)
      have d4 : decide ((V.length : Int) ≤ x) = false := decide_eq_false (by omega)
      have hk : k < a.length := by omega
      have HF := Lib.hid (show ∀ p c w', BF w' p a.length (fun j => if j = k then x else As.el a j) → Below w.heap.size w w' → LsQ (a.set k x) 0 w (.returned (.tuple #[.slice (some ⟨p, 0, none⟩) a.length c, .int .i64 0])) w' from fun p c w' hbf hb => by
        refine ⟨_, c, by rw [List.length_set], ?_, hb⟩
        rw [← As.ml_set]
        exact hbf.isI (fun j _ => by
          by_cases e : j = k
          · rw [if_pos e]; exact hx
          · rw [if_neg e]; exact HBD.out j))
      have i1 : (k : Int) < (a.length : Int) := y2
      have i2 : (0 : Int) ≤ (k : Int) := y1
      clear h hB h0 hG hz hx y1 y2 y3 y4 HBD
      unfold ClQ at CC
      go_enter Try.func26, Try.ntmps26
      go_upto_region 1 with fail
      refine at_box1 (fun V0 hbb b0 hsz => ?_)
      clear hsz
      have c0 := b0.c 0 rfl
      go_wp2_with fail
      refine (CV.out _ hbb).mono ?_
      rintro e w1 ⟨rfl, hb1⟩
      replace c0 := keepC hb1 c0
      replace hbb := keepB hbb hb1
      clear hb1 b0
      go_wp2_with fail
      refine (CC.out _ hbb).mono ?_
      rintro e w3 ⟨X, c, rfl, hX, hb3⟩
      obtain ⟨p, rfl, hp, hbf⟩ := hX (by omega)
      have HB3 := Lib.hid (keepB hbb hb3)
      have HP := Lib.hid (Nat.le_trans hbb.size hp)
      have HBF := Lib.hid hbf
      have q0 := hbf.c hk
      have q1 := hbf.f hk
      clear hb3 hbb hX hp hbf CV CC c0
      go_wp2_with fail
      have HFF := Lib.hid (HF.out p c _ (HBF.out.set k x) (HB3.out.setCell HP.out _))
      go_ret2
      exact HFF.out
    · have hz : As.gvB V a g x = false := decide_eq_false hy
      rw [As.gvS_arg hz, As.gvE_arg h0 hz]
      clear h hB h0 hG hz hx HBD CC
      by_cases h1 : g < 0
      · have d1 : decide (g < 0) = true := decide_eq_true h1
        clear hy
        go_enter Try.func26, Try.ntmps26
        go_upto_region 1 with fail
        refine at_box1 (fun V0 hbb b0 hsz => ?_)
        clear hsz
        have c0 := b0.c 0 rfl
        go_wp2_with fail
        refine (CV.out _ hbb).mono ?_
        rintro e w1 ⟨rfl, hb1⟩
        replace c0 := keepC hb1 c0
        replace hbb := keepB hbb hb1
        clear hb1 b0
        go_wp2_with fail
        go_ret2
        exact LsQ.nil hbb
      · have d1 : decide (g < 0) = false := decide_eq_false h1
        by_cases h2 : (a.length : Int) ≤ g
        · have d2 : decide ((a.length : Int) ≤ g) = true := decide_eq_true h2
          clear hy
          go_enter Try.func26, Try.ntmps26
          go_upto_region 1 with fail
          refine at_box1 (fun V0 hbb b0 hsz => ?_)
          clear hsz
          have c0 := b0.c 0 rfl
          go_wp2_with fail
          refine (CV.out _ hbb).mono ?_
          rintro e w1 ⟨rfl, hb1⟩
          replace c0 := keepC hb1 c0
          replace hbb := keepB hbb hb1
          clear hb1 b0
          go_wp2_with fail
          go_ret2
          exact LsQ.nil hbb
        · have d2 : decide ((a.length : Int) ≤ g) = false := decide_eq_false h2
          by_cases h3 : x < -1
          · have d3 : decide (x < -1) = true := decide_eq_true h3
            clear hy
            go_enter Try.func26, Try.ntmps26
            go_upto_region 1 with fail
            refine at_box1 (fun V0 hbb b0 hsz => ?_)
            clear hsz
            have c0 := b0.c 0 rfl
            go_wp2_with fail
            refine (CV.out _ hbb).mono ?_
            rintro e w1 ⟨rfl, hb1⟩
            replace c0 := keepC hb1 c0
            replace hbb := keepB hbb hb1
            clear hb1 b0
            go_wp2_with fail
            go_ret2
            exact LsQ.nil hbb
          · have d3 : decide (x < -1) = false := decide_eq_false h3
            have h4 : (V.length : Int) ≤ x := by omega
            have d4 : decide ((V.length : Int) ≤ x) = true := decide_eq_true h4
            clear hy
            go_enter Try.func26, Try.ntmps26
            go_upto_region 1 with fail
            refine at_box1 (fun V0 hbb b0 hsz => ?_)
            clear hsz
            have c0 := b0.c 0 rfl
            go_wp2_with fail
            refine (CV.out _ hbb).mono ?_
            rintro e w1 ⟨rfl, hb1⟩
            replace c0 := keepC hb1 c0
            replace hbb := keepB hbb hb1
            clear hb1 b0
            go_wp2_with fail
            go_ret2
            exact LsQ.nil hbb
  · rw [As.gvS_no h2, As.gvE_no h2]
    generalize As.gvld V a = c at *
    clear h2 h hB hl hal
    go_enter Try.func26, Try.ntmps26
    go_upto_region 1 with fail
    refine at_box1 (fun V0 hbb b0 hsz => ?_)
    clear hsz
    have c0 := b0.c 0 rfl
    go_wp2_with fail
    refine (CV.out _ hbb).mono ?_
    rintro e w1 ⟨rfl, hb1⟩
    replace hbb := keepB hbb hb1
    clear hb1 b0 c0
    go_wp2_with fail
    go_ret2
    exact LsQ.nil hbb
end Go.Proofs.Ytfpaefnaidppmaa
