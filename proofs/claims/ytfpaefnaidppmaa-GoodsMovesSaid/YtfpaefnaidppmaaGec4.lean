/- The reference of layer 16: Give, Pass. -/
import Derived.Test.YtfpaefnaidppmaaGec
import Derived.Test.YtfpaefnaidppmaaGpm
namespace Go.Proofs.Ytfpaefnaidppmaa
open Go.RowKit
namespace As
theorem take_el {l : List Int} {k : Nat} (h : k < l.length) : l.take (k + 1) = l.take k ++ [el l k] := by
  rw [List.take_add_one, List.getElem?_eq_getElem h, el_lt h]; rfl
/-- The last place of x among the first ones, or -1. -/
def lst (xs : List Int) (x : Int) : Nat → Int
  | 0 => -1
  | i + 1 => if el xs i = x then (i : Int) else lst xs x i
theorem lst_no {xs : List Int} {x : Int} (h : ∀ k, k < xs.length → ¬ el xs k = x) : ∀ i, i ≤ xs.length → lst xs x i = -1
  | 0, _ => rfl
  | i + 1, hi => by
    unfold lst
    rw [if_neg (h i (by omega)), lst_no h i (by omega)]
theorem lst_one {xs : List Int} {x : Int} {j : Nat} (h : ∀ k, k < xs.length → (el xs k = x ↔ k = j)) : ∀ i, i ≤ xs.length → lst xs x i = if j < i then (j : Int) else -1
  | 0, _ => by unfold lst; rw [if_neg (by omega)]
  | i + 1, hi => by
    unfold lst
    rw [lst_one h i (by omega)]
    by_cases e : i = j
    · rw [if_pos ((h i (by omega)).2 e), if_pos (by omega), e]
    · rw [if_neg (fun x => e ((h i (by omega)).1 x))]
      by_cases e2 : j < i
      · rw [if_pos e2, if_pos (by omega)]
      · rw [if_neg e2, if_neg (by omega)]
theorem lst_end {o : List Nat} {n : Nat} (ho : o.Perm (List.range n)) (x : Int) : lst (al o) x n = ixo (al o) x := by
  have hl : (al o).length = n := by rw [al_len]; exact (perm_lt ho).1
  by_cases hm : ∃ k, k < n ∧ x = ((k : Nat) : Int)
  · obtain ⟨k, hk, rfl⟩ := hm
    have hi := ord_idx ho hk
    have key : ∀ j, j < (al o).length → (el (al o) j = (k : Int) ↔ j = o.idxOf k) := fun j hj => by
      rw [el_al]
      constructor
      · intro e
        have e2 : o.getD j 0 = k := by omega
        rw [← e2]; exact (idx_ord ho (by omega)).symm
      · intro e
        rw [e, hi.2]
    rw [lst_one key n (by omega), if_pos hi.1]
    unfold ixo
    rw [if_pos (mem_al.2 (ho.mem_iff.2 (List.mem_range.2 hk))), idx_al]
  · have key : ∀ j, j < (al o).length → ¬ el (al o) j = x := fun j hj e => hm ⟨o.getD j 0, (perm_lt ho).2 j (by omega), by rw [← e, el_al]⟩
    rw [lst_no key n (by omega), ixo_no key]
/-- The allocation that Pass makes, in the making: goods below k are done, and of the order the first i agents are looked at for the good k. -/
def psf (a xs : List Int) (k i j : Nat) : Int := if j < k then ixo xs (el a j) else if j = k then lst xs (el a k) i else 0
/-- .. and between two goods. -/
def psg (a xs : List Int) (k j : Nat) : Int := if j < k then ixo xs (el a j) else 0
end As
set_option maxRecDepth 100000 in
set_option maxHeartbeats 8000000 in
theorem rgGive_any (A : Option Addr) (cv : Nat) (V : List (List Int)) (BA : Option Addr) (ca : Nat) (a : List Int) (g x : Int) (w : World) (hl : V.length ≤ maxLen) (h : IsM w A V) (hal : a.length ≤ maxLen) (hB : IsI w BA a) (hx : I64 x) :
    Calls Try.prog 27 #[.agg #[.slice A V.length cv], .slice BA a.length ca, .int .i64 g, .int .i64 x] w (LsQ (As.gvS V a g x) (As.gvE V a g x) w) := by
  have CV := Lib.hid (fun v (hv : Below w.heap.size w v) => rgValid_any A cv V BA ca a v hl (h.keep hv) hal (hB.keep hv))
  rcases As.gvld_ne (V := V) (a := a) with h0 | ⟨h1, h2⟩
  · have hG := gd_of h0 h hB
    have hax : a.length ≤ 10 := by have h1 := hG.al.len; have h2 := hG.ok.m10; omega
    have HBD := Lib.hid hB.bd
    rw [h0] at CV
    by_cases hy : 0 ≤ g ∧ g < a.length ∧ -1 ≤ x ∧ x < V.length
    · have hz : As.gvB V a g x = true := decide_eq_true hy
      rw [As.gvS_yes h0 hz, As.gvE_yes h0 hz]
      obtain ⟨y1, y2, y3, y4⟩ := hy
      obtain ⟨k, rfl⟩ := Int.eq_ofNat_of_zero_le y1
      rw [Int.toNat_natCast]
      have d1 : decide ((k : Int) < 0) = false := decide_eq_false (by omega)
      have d2 : decide (a.length ≤ k) = false := decide_eq_false (by omega)
      have d3 : decide (x < -1) = false := decide_eq_false (by omega)
      have d4 : decide ((V.length : Int) ≤ x) = false := decide_eq_false (by omega)
      have hk : k < a.length := by omega
      obtain ⟨S, hS⟩ : ∃ S, a.set k x = S := ⟨_, rfl⟩
      have hsl : S.length = a.length := by rw [← hS, List.length_set]
      have HES := Lib.hid (show ∀ j, As.el S j = if j = k then x else As.el a j from fun j => by rw [← hS, As.el_set hk])
      have HTK := Lib.hid (fun j (hj : j < a.length) => @As.take_el S j (by rw [hsl]; exact hj))
      have HTL := Lib.hid (fun j (hj : j ≤ a.length) => (show (S.take j).length = j by rw [List.length_take, hsl]; omega))
      have HF := Lib.hid (show ∀ X c w' Bs, Own w' Bs (.slice X a.length c) (S.take a.length) → Below w.heap.size w w' → LsQ S 0 w (.returned (.tuple #[.slice X a.length c, .int .i64 0])) w' from fun X c w' Bs hO hb => by
        rw [← hsl, List.take_length] at hO
        refine ⟨X, c, by rw [hsl], hO.isI (fun y hyy => ?_), hb⟩
        obtain ⟨j, hj, rfl⟩ := List.mem_iff_getElem.1 hyy
        rw [← el_lt hj, HES.out j]
        by_cases e : j = k
        · rw [if_pos e]; exact hx
        · rw [if_neg e]; exact HBD.out j)
      have HAI := Lib.hid hB
      rw [hS]
      obtain ⟨i0, hi0, hz0, hz1, hz2⟩ := info_parts intInfo
      have HI := Lib.hid hi0
      have HI2 := Lib.hid hz0
      have HI3 := Lib.hid hz1
      have HI4 := Lib.hid hz2
      clear h hB h0 hG hz hx y1 y2 y3 y4 HBD hS hsl hi0 hz0 hz1 hz2
      go_enter Try.func27, Try.ntmps27
      go_upto_region 1 with fail
      refine at_box1 (fun V0 hbb b0 hsz => ?_)
      clear hsz
      have c0 := b0.c 0 rfl
      go_wp2_with fail
      refine (CV.out _ hbb).mono ?_
      rintro e w1 ⟨rfl, hb1⟩
      replace c0 := keepC hb1 c0
      have HB1 := Lib.hid (keepB hbb hb1)
      clear hb1 b0 hbb CV
      go_wp2_with fail
      clear c0
      go_loopw [10, 11] (fun v i W => ∃ j : Nat, j ≤ a.length ∧ i = .int .i64 j ∧ Hid (Below w1.heap.size w1 W) ∧ Hid (Own W w1.heap.size v (S.take j))) (fun _ i _ => a.length - (intOf i).toNat)
      case atStart => exact ⟨0, Nat.zero_le _, rfl, Lib.hid (Below.refl _ _), Lib.hid (Own.nil_ _ _)⟩
      case round =>
        obtain ⟨j, hj, rfl, HW, HO⟩ := hrel
        by_cases hlt : j < a.length
        · obtain ⟨ab, ao, rfl, hac⟩ := HAI.out.1 (by omega)
          have y0 := keepC (keepB HB1.out HW.out) (hac j hlt)
          have ho := HO.out
          unfold Own at ho
          rw [HTL.out j hj] at ho
          have HE := Lib.hid (HES.out j)
          have HTJ := Lib.hid (HTK.out j hlt)
          have hsz := HW.out.size
          clear hac
          by_cases e : j = k
          · have d5 : ((j : Int) == (k : Int)) = true := by rw [beq_iff_eq]; omega
            rw [if_pos e] at HE
            rw [HE.out] at HTJ
            clear e
            generalize As.el a j = y at *
            go_wp2_with (at_builtin; go_loud (refine wpList_append_lies _ rfl _ _ _ rfl w1.heap.size 3 i0 _ 1 8 Try.underlying25 HI.out HI2.out HI3.out HI4.out rfl (by omega) _ j ((S.take j).map (Value.int .i64)) (by rfl) (World.ownsRow.alloc ho _) ⟨wr.heap.size, 0, none⟩ 1 1 [.int .i64 x] (by rfl) (by rfl) (World.news_of_block (cs := #[.int .i64 x]) (t := 3) (fr := (0, 0)) (heap_alloc_new wr _)) (by simp [Value.oneCell']) (by omega) (by unfold maxLen; omega) (by omega) (by simp; omega) (wr.heap.size + 1) (by simp) ?_; intro gg cap w6 hown1 hgrow hat hglt))
            have hw6 := own_app rfl HW.out (fun b hb => (World.ownsRow.lt ho b hb).1) hgrow
            go_roundw
            case rel => exact ⟨j + 1, by omega, by go_num, Lib.hid hw6, Lib.hid (by
              unfold Own
              rw [HTL.out (j + 1) (by omega), HTJ.out, List.map_append]
              exact hown1)⟩
            case measure => simp [intOf]; omega
          · have d5 : ((j : Int) == (k : Int)) = false := by rw [beq_eq_false_iff_ne]; omega
            rw [if_neg e] at HE
            rw [HE.out] at HTJ
            clear e
            generalize As.el a j = y at *
            go_wp2_with (at_builtin; go_loud (refine wpList_append_lies _ rfl _ _ _ rfl w1.heap.size 3 i0 _ 1 8 Try.underlying25 HI.out HI2.out HI3.out HI4.out rfl (by omega) _ j ((S.take j).map (Value.int .i64)) (by rfl) (World.ownsRow.alloc ho _) ⟨wr.heap.size, 0, none⟩ 1 1 [.int .i64 y] (by rfl) (by rfl) (World.news_of_block (cs := #[.int .i64 y]) (t := 3) (fr := (0, 0)) (heap_alloc_new wr _)) (by simp [Value.oneCell']) (by omega) (by unfold maxLen; omega) (by omega) (by simp; omega) (wr.heap.size + 1) (by simp) ?_; intro gg cap w6 hown1 hgrow hat hglt))
            have hw6 := own_app rfl HW.out (fun b hb => (World.ownsRow.lt ho b hb).1) hgrow
            go_roundw
            case rel => exact ⟨j + 1, by omega, by go_num, Lib.hid hw6, Lib.hid (by
              unfold Own
              rw [HTL.out (j + 1) (by omega), HTJ.out, List.map_append]
              exact hown1)⟩
            case measure => simp [intOf]; omega
        · obtain rfl : j = a.length := by omega
          have hO := HO.out
          obtain ⟨X, cc, hv⟩ := hO.form
          rw [HTL.out _ (Nat.le_refl _)] at hv
          subst hv
          have HFF := Lib.hid (HF.out X cc wr _ hO (keepB HB1.out HW.out))
          clear hO
          go_wp2_with fail
          go_ret2
          exact HFF.out
    · have hz : As.gvB V a g x = false := decide_eq_false hy
      rw [As.gvS_arg hz, As.gvE_arg h0 hz]
      clear h hB h0 hG hz hx HBD
      by_cases h1 : g < 0
      · have d1 : decide (g < 0) = true := decide_eq_true h1
        clear hy
        go_enter Try.func27, Try.ntmps27
        go_upto_region 1 with fail
        refine at_box1 (fun V0 hbb b0 hsz => ?_)
        clear hsz
        have c0 := b0.c 0 rfl
        go_wp2_with fail
        refine (CV.out _ hbb).mono ?_
        rintro e w1 ⟨rfl, hb1⟩
        replace c0 := keepC hb1 c0
        replace hbb := keepB hbb hb1
        clear hb1 b0
        go_wp2_with fail
        go_ret2
        exact LsQ.nil hbb
      · have d1 : decide (g < 0) = false := decide_eq_false h1
        by_cases h2 : (a.length : Int) ≤ g
        · have d2 : decide ((a.length : Int) ≤ g) = true := decide_eq_true h2
          clear hy
          go_enter Try.func27, Try.ntmps27
          go_upto_region 1 with fail
          refine at_box1 (fun V0 hbb b0 hsz => ?_)
          clear hsz
          have c0 := b0.c 0 rfl
          go_wp2_with fail
          refine (CV.out _ hbb).mono ?_
          rintro e w1 ⟨rfl, hb1⟩
          replace c0 := keepC hb1 c0
          replace hbb := keepB hbb hb1
          clear hb1 b0
          go_wp2_with fail
          go_ret2
          exact LsQ.nil hbb
        · have d2 : decide ((a.length : Int) ≤ g) = false := decide_eq_false h2
          by_cases h3 : x < -1
          · have d3 : decide (x < -1) = true := decide_eq_true h3
            clear hy
            go_enter Try.func27, Try.ntmps27
            go_upto_region 1 with fail
            refine at_box1 (fun V0 hbb b0 hsz => ?_)
            clear hsz
            have c0 := b0.c 0 rfl
            go_wp2_with fail
            refine (CV.out _ hbb).mono ?_
            rintro e w1 ⟨rfl, hb1⟩
            replace c0 := keepC hb1 c0
            replace hbb := keepB hbb hb1
            clear hb1 b0
            go_wp2_with fail
            go_ret2
            exact LsQ.nil hbb
          · have d3 : decide (x < -1) = false := decide_eq_false h3
            have h4 : (V.length : Int) ≤ x := by omega
            have d4 : decide ((V.length : Int) ≤ x) = true := decide_eq_true h4
            clear hy
            go_enter Try.func27, Try.ntmps27
            go_upto_region 1 with fail
            refine at_box1 (fun V0 hbb b0 hsz => ?_)
            clear hsz
            have c0 := b0.c 0 rfl
            go_wp2_with fail
            refine (CV.out _ hbb).mono ?_
            rintro e w1 ⟨rfl, hb1⟩
            replace c0 := keepC hb1 c0
            replace hbb := keepB hbb hb1
            clear hb1 b0
            go_wp2_with fail
            go_ret2
            exact LsQ.nil hbb
  · rw [As.gvS_no h2, As.gvE_no h2]
    generalize As.gvld V a = c at *
    clear h2 h hB hl hal
    go_enter Try.func27, Try.ntmps27
    go_upto_region 1 with fail
    refine at_box1 (fun V0 hbb b0 hsz => ?_)
    clear hsz
    have c0 := b0.c 0 rfl
    go_wp2_with fail
    refine (CV.out _ hbb).mono ?_
    rintro e w1 ⟨rfl, hb1⟩
    replace hbb := keepB hbb hb1
    replace c0 := keepC hb1 c0
    clear hb1 b0
    go_wp2_with fail
    refine (CV.out _ hbb).mono ?_
    rintro e w2 ⟨rfl, hb2⟩
    replace hbb := keepB hbb hb2
    clear hb2 c0
    go_wp2_with fail
    go_ret2
    exact LsQ.nil hbb
set_option maxRecDepth 100000 in
set_option maxHeartbeats 8000000 in
theorem rgPass_any (A : Option Addr) (cv : Nat) (V : List (List Int)) (BA : Option Addr) (ca : Nat) (a : List Int) (OA : Option Addr) (co : Nat) (o : List Int) (w : World) (hl : V.length ≤ maxLen) (h : IsM w A V) (hal : a.length ≤ maxLen) (hB : IsI w BA a) (hol : o.length ≤ maxLen) (hO : IsI w OA o) :
    Calls Try.prog 25 #[.agg #[.slice A V.length cv], .slice BA a.length ca, .slice OA o.length co] w (LsQ (As.psS V a o) (As.psE V a o) w) := by
  have CV := Lib.hid (fun v (hv : Below w.heap.size w v) => rgValid_any A cv V BA ca a v hl (h.keep hv) hal (hB.keep hv))
  rcases As.gvld_ne (V := V) (a := a) with h0 | ⟨h1, h2⟩
  · have hG := gd_of h0 h hB
    have n1 := hG.ok.n1
    have n6 := hG.ok.n6
    have hax : a.length ≤ 10 := by have h1 := hG.al.len; have h2 := hG.ok.m10; omega
    have CO := Lib.hid (fun v (hv : Below w.heap.size w v) => rAssigned_any OA co o V.length v hol (hO.keep hv))
    rw [h0] at CV
    cases hz : As.isA o V.length with
    | false =>
      rw [hz] at CO
      rw [As.psS_arg hz, As.psE_arg h0 hz]
      clear h hB h0 hG hz hO hol
      go_enter Try.func25, Try.ntmps25
      go_upto_region 1 with fail
      refine at_box1 (fun V0 hbb b0 hsz => ?_)
      clear hsz
      have c0 := b0.c 0 rfl
      go_wp2_with fail
      refine (CV.out _ hbb).mono ?_
      rintro e w1 ⟨rfl, hb1⟩
      replace c0 := keepC hb1 c0
      replace hbb := keepB hbb hb1
      clear hb1 b0
      go_wp2_with fail
      refine (CO.out _ hbb).mono ?_
      rintro e w2 ⟨rfl, hb2⟩
      have HBB := Lib.hid (keepB hbb hb2)
      clear hb2 hbb c0
      go_wp2_with fail
      go_ret2
      exact LsQ.nil HBB.out
    | true =>
      rw [hz] at CO
      rw [As.psS_yes h0 hz, As.psE_yes h0 hz]
      obtain ⟨q, rfl, hp⟩ := As.isA_perm hz
      have hpl : q.length = V.length := (As.perm_lt hp).1
      rw [As.al_len, hpl] at CO hol ⊢
      have HAI := Lib.hid hB
      have HOI := Lib.hid hO
      have HOL := Lib.hid (show (As.al q).length = V.length by rw [As.al_len, hpl])
      have HLE := Lib.hid (As.lst_end hp)
      have HXB := Lib.hid (show ∀ x, I64 (As.ixo (As.al q) x) from fun x => by
        have h1 := As.ixo_lt (As.al q) x
        rw [HOL.out] at h1
        unfold I64
        omega)
      have HF := Lib.hid (show ∀ p w', BF w' p a.length (As.psg a (As.al q) a.length) → Below w.heap.size w w' → LsQ (a.map (As.ixo (As.al q))) 0 w (.returned (.tuple #[.slice (some ⟨p, 0, none⟩) a.length a.length, .int .i64 0])) w' from fun p w' hbf hb => by
        refine ⟨_, a.length, by rw [List.length_map], ?_, hb⟩
        rw [← As.ml_map]
        exact (hbf.cong fun j hj => by unfold As.psg; rw [if_pos hj]).isI (fun j _ => HXB.out _))
      have HMK := Lib.hid (ints_make a.length (by omega))
      generalize hxs : As.al q = xs at *
      have HXS := Lib.hid hxs
      clear h hB h0 hG hz hO hxs hp hpl
      obtain ⟨m, hm⟩ : ∃ m, a.length = m := ⟨_, rfl⟩
      rw [hm] at HF HMK hax ⊢
      have HM := Lib.hid hm
      clear hm
      go_enter Try.func25, Try.ntmps25
      go_upto_region 1 with fail
      refine at_box1 (fun V0 hbb b0 hsz => ?_)
      clear hsz
      have c0 := b0.c 0 rfl
      rw [HM.out] at CV
      go_wp2_with fail
      refine (CV.out _ hbb).mono ?_
      rintro e w1 ⟨rfl, hb1⟩
      replace c0 := keepC hb1 c0
      replace hbb := keepB hbb hb1
      clear hb1 b0
      go_wp2_with fail
      refine (CO.out _ hbb).mono ?_
      rintro e w2 ⟨rfl, hb2⟩
      have HBB := Lib.hid (keepB hbb hb2)
      clear hb2 hbb c0
      have MK := HMK.out
      go_upto_region 6 with fail
      clear MK
      refine at_worldQ (fun v => Below w2.heap.size w2 v ∧ BF v w2.heap.size m (fun _ => 0)) ⟨below_al (Below.refl _ _) _, BF.new _ _ _⟩ (fun V6 hS => ?_)
      obtain ⟨hb6, hbf⟩ := hS
      have HB6 := Lib.hid hb6
      have HF6 := Lib.hid hbf
      obtain ⟨p, hpe⟩ : ∃ p, w2.heap.size = p := ⟨_, rfl⟩
      have HPE := Lib.hid hpe
      rw [hpe] at HF6 ⊢
      clear hb6 hbf hpe
      go_wp2_with fail
      go_loopw [9, 10] (fun k _ W => ∃ j : Nat, j ≤ m ∧ k = .int .i64 j ∧ Hid (Below w2.heap.size w2 W) ∧ Hid (BF W p m (As.psg a xs j))) (fun k _ _ => m - (intOf k).toNat)
      case atStart => exact ⟨0, Nat.zero_le _, rfl, HB6, Lib.hid (HF6.out.cong fun j _ => by unfold As.psg; rw [if_neg (by omega)])⟩
      case round =>
        clear HB6 HF6
        obtain ⟨k, hk, rfl, HW, HBF⟩ := hrel
        by_cases hlt : k < m
        · obtain ⟨ab, ao, rfl, hac⟩ := HAI.out.1 (by rw [HM.out]; omega)
          have HAC := Lib.hid (hac k (by rw [HM.out]; exact hlt))
          have y0 := HBF.out.c hlt
          have y1 := HBF.out.f hlt
          have i1 : (k : Int) < (m : Int) := by omega
          have HN1 := Lib.hid (show BF (wr.setCell ⟨p, k, none⟩ (.int .i64 (-1))) p m (As.psf a xs k 0) from (HBF.out.set k (-1)).cong fun j _ => by
            unfold As.psf As.psg As.lst
            by_cases e : j = k
            · subst e; rw [if_pos rfl, if_neg (by omega), if_pos rfl]
            · rw [if_neg e, if_neg e])
          have HW1 := Lib.hid (show Below w2.heap.size w2 (wr.setCell ⟨p, k, none⟩ (.int .i64 (-1))) from HW.out.setCell (by rw [HPE.out]; exact Nat.le_refl _) _)
          clear hac
          go_wp2_with fail
          clear y0 y1
          go_loopw [10] (fun i W => ∃ j : Nat, j ≤ V.length ∧ i = .int .i64 j ∧ Hid (Below w2.heap.size w2 W) ∧ Hid (BF W p m (As.psf a xs k j))) (fun i _ => V.length - (intOf i).toNat)
          case atStart => exact ⟨0, Nat.zero_le _, rfl, HW1, HN1⟩
          case round =>
            clear HW HBF HW1 HN1
            obtain ⟨i, hi, rfl, HW, HBF⟩ := hrel
            by_cases hlti : i < V.length
            · obtain ⟨ob, oo, rfl, hoc⟩ := HOI.out.1 (by rw [HOL.out]; omega)
              have HOC := Lib.hid (hoc i (by rw [HOL.out]; exact hlti))
              have HK := Lib.hid (fun v (hv : Below w2.heap.size w2 v) => (show v.cell? ⟨ob, oo + i, none⟩ = some (.int .i64 (As.el xs i)) ∧ v.cell? ⟨ab, ao + k, none⟩ = some (.int .i64 (As.el a k)) from ⟨keepC (keepB HBB.out hv) HOC.out, keepC (keepB HBB.out hv) HAC.out⟩))
              have i2 : (i : Int) < (V.length : Int) := by omega
              have hWW := HW.out
              have HST := Lib.hid (show ∀ j, As.psf a xs k (i + 1) j = if j = k then (if As.el xs i = As.el a k then (i : Int) else As.lst xs (As.el a k) i) else As.psf a xs k i j from fun j => by
                unfold As.psf
                by_cases e : j = k
                · subst e; rw [if_neg (by omega), if_pos rfl, if_pos rfl]; rfl
                · rw [if_neg e, if_neg e, if_neg e])
              have HSN := Lib.hid (show ∀ _ : ¬ As.el xs i = As.el a k, ∀ j, As.psf a xs k (i + 1) j = As.psf a xs k i j from fun hn j => by
                rw [HST.out j, if_neg hn]
                unfold As.psf
                by_cases e : j = k
                · subst e; rw [if_pos rfl, if_neg (by omega), if_pos rfl]
                · rw [if_neg e])
              clear hoc
              by_cases hh : As.el xs i = As.el a k
              · have HSY := Lib.hid (show ∀ j, As.psf a xs k (i + 1) j = if j = k then (i : Int) else As.psf a xs k i j from fun j => by rw [HST.out j, if_pos hh])
                have d1 : (As.el xs i == As.el a k) = true := by simpa using hh
                clear hh HST HSN
                generalize As.el xs i = x at *
                generalize As.el a k = y at *
                go_upto_region 13 with fail
                go_region_held3 (fun v => v.cell? ⟨ob, oo + i, none⟩ = some (.int .i64 x) ∧ v.cell? ⟨ab, ao + k, none⟩ = some (.int .i64 y))
                  (first | (exact HK.out _ (by assumption)) | (exact HK.out _ (Below.drew (by assumption))))
                  (fail)
                all_goals
                  have HWD := Lib.hid (Below.drew hWW)
                  have HFD := Lib.hid (HBF.out.drew)
                  have y0 := HFD.out.c hlt
                  have y1 := HFD.out.f hlt
                  clear hWW
                  go_wp2_with fail
                  clear y0 y1
                  go_roundw
                  case rel => exact ⟨i + 1, by omega, by go_num, Lib.hid (HWD.out.setCell (by rw [HPE.out]; exact Nat.le_refl _) _), Lib.hid ((HFD.out.set k (i : Int)).cong fun j _ => (HSY.out j).symm)⟩
                  case measure => simp [intOf]; omega
              · have HSY := Lib.hid (HSN.out hh)
                have d1 : (As.el xs i == As.el a k) = false := by simpa using hh
                clear hh HST HSN
                generalize As.el xs i = x at *
                generalize As.el a k = y at *
                go_upto_region 13 with fail
                go_region_held3 (fun v => v.cell? ⟨ob, oo + i, none⟩ = some (.int .i64 x) ∧ v.cell? ⟨ab, ao + k, none⟩ = some (.int .i64 y))
                  (first | (exact HK.out _ (by assumption)) | (exact HK.out _ (Below.drew (by assumption))))
                  (fail)
                all_goals
                  have HWD := Lib.hid (Below.drew hWW)
                  have HFD := Lib.hid (HBF.out.drew)
                  clear hWW
                  go_wp2_with fail
                  go_roundw
                  case rel => exact ⟨i + 1, by omega, by go_num, HWD, Lib.hid (HFD.out.cong fun j _ => (HSY.out j).symm)⟩
                  case measure => simp [intOf]; omega
            · obtain rfl : i = V.length := by omega
              have HNX := Lib.hid (show BF wr p m (As.psg a xs (k + 1)) from HBF.out.cong fun j _ => by
                unfold As.psf As.psg
                by_cases e : j = k
                · subst e; rw [if_neg (by omega), if_pos rfl, if_pos (by omega), HLE.out]
                · by_cases e2 : j < k
                  · rw [if_pos e2, if_pos (by omega)]
                  · rw [if_neg e2, if_neg e, if_neg (by omega)])
              go_wp2_with fail
              go_roundw
              case rel => exact ⟨k + 1, by omega, by go_num, HW, HNX⟩
              case measure => simp [intOf]; omega
        · obtain rfl : k = m := by omega
          have HFF := Lib.hid (HF.out p wr HBF.out (keepB HBB.out HW.out))
          go_wp2_with fail
          go_ret2
          exact HFF.out
  · rw [As.psS_no h2, As.psE_no h2]
    generalize As.gvld V a = c at *
    clear h2 h hB hl hal
    go_enter Try.func25, Try.ntmps25
    go_upto_region 1 with fail
    refine at_box1 (fun V0 hbb b0 hsz => ?_)
    clear hsz
    have c0 := b0.c 0 rfl
    go_wp2_with fail
    refine (CV.out _ hbb).mono ?_
    rintro e w1 ⟨rfl, hb1⟩
    replace hbb := keepB hbb hb1
    replace c0 := keepC hb1 c0
    clear hb1 b0
    go_wp2_with fail
    refine (CV.out _ hbb).mono ?_
    rintro e w2 ⟨rfl, hb2⟩
    replace hbb := keepB hbb hb2
    clear hb2 c0
    go_wp2_with fail
    go_ret2
    exact LsQ.nil hbb
end Go.Proofs.Ytfpaefnaidppmaa
