/- Package goods: Values. -/
import Derived.Test.YtfpaefnaidppmaaGdw
import Derived.BigRegion
namespace Go.Proofs.Ytfpaefnaidppmaa
open Go.RowKit
namespace As
/-- How long the rows are. -/
def glf (k m n r : Nat) : Nat := if r < k then n else if r = k then m else 0
theorem glf_step (k m n : Nat) : ∀ r, (if r = k then glf k m n k + 1 else glf k m n r) = glf k (m + 1) n r := fun r => by
  unfold glf
  by_cases e : r = k
  · subst e; simp
  · simp [e]
theorem glf_next (k n : Nat) : ∀ r, glf k n n r = glf (k + 1) 0 n r := fun r => by
  unfold glf
  by_cases e : r < k
  · rw [if_pos e, if_pos (by omega)]
  · rw [if_neg e]
    by_cases e2 : r = k
    · subst e2; simp
    · rw [if_neg e2, if_neg (by omega)]; simp
theorem glf_at (k m n : Nat) : glf k m n k = m := by unfold glf; simp
/-- What Values returns. -/
def vlS (V : List (List Int)) (a : List Int) : List (List Int) := if gvld V a = 0 then mm V.length V.length (bw V a) else []
theorem vlS_yes {V : List (List Int)} {a : List Int} (h : gvld V a = 0) : vlS V a = mm V.length V.length (bw V a) := by unfold vlS; rw [if_pos h]
theorem vlS_no {V : List (List Int)} {a : List Int} (h : gvld V a ≠ 0) : vlS V a = [] := by unfold vlS; rw [if_neg h]
theorem bw_small {V : List (List Int)} {a : List Int} (ok : Gok V) (h : Al V.length (gm V) a) (i k : Nat) : 0 ≤ bw V a i k ∧ bw V a i k ≤ 10000 := by
  have h1 := bw_bd (V := V) (a := a) (i := i) (fun g _ => ok.bd i g) k
  have h2 := h.len
  have h3 := ok.m10
  omega
end As
/-- Valid goods and an allocation, in memory. -/
structure Gd (w : World) (A B : Option Addr) (V : List (List Int)) (a : List Int) : Prop where
  ok : As.Gok V
  al : As.Al V.length (As.gm V) a
  hM : IsM w A V
  hB : IsI w B a
theorem Gd.keep {w v : World} {A B : Option Addr} {V : List (List Int)} {a : List Int} (h : Gd w A B V a) (hb : Below w.heap.size w v) : Gd v A B V a := ⟨h.ok, h.al, h.hM.keep hb, h.hB.keep hb⟩
theorem gd_of {w : World} {A B : Option Addr} {V : List (List Int)} {a : List Int} (h : As.gvld V a = 0) (hM : IsM w A V) (hB : IsI w B a) : Gd w A B V a := by
  obtain ⟨h1, h2⟩ := As.gvld_ok h
  exact ⟨As.gchk_ok h1, h2, hM, hB⟩
theorem tg_atG {B : Nat} {W : World} {n : Nat} {F : Nat → Nat → Int} {RV : Nat → Value} {L : Nat → Nat} (t : Tg B W n F RV L) {r : Nat} (hr : r < n) : ∃ A cap, RV r = .slice A (L r) cap := by
  rcases (t.own r hr).2 with ⟨h1, h2⟩ | ⟨g, cap, cur, h1, _⟩
  · exact ⟨none, 0, by rw [h1, h2]⟩
  · exact ⟨_, _, h1⟩
/-- What Values gives. -/
def VlQ (V : List (List Int)) (a : List Int) (w : World) (e : Ending) (w' : World) : Prop := ∃ X c, e = .returned (.tuple #[.slice X (As.vlS V a).length c, .int .i64 (As.gvld V a)]) ∧ IsM w' X (As.vlS V a) ∧ Below w.heap.size w w'
set_option maxRecDepth 100000 in
set_option maxHeartbeats 8000000 in
theorem gValues_any (A : Option Addr) (cv : Nat) (V : List (List Int)) (BA : Option Addr) (ca : Nat) (a : List Int) (w : World) (hl : V.length ≤ maxLen) (h : IsM w A V) (hal : a.length ≤ maxLen) (hB : IsI w BA a) :
    Calls Try.prog 11 #[.agg #[.slice A V.length cv], .slice BA a.length ca] w (VlQ V a w) := by
  have CV := Lib.hid (fun v (hv : Below w.heap.size w v) => gValid_any A cv V BA ca a v hl (h.keep hv) hal (hB.keep hv))
  rcases As.gvld_ne (V := V) (a := a) with h0 | ⟨h1, h2⟩
  · have hG := gd_of h0 h hB
    have n1 := hG.ok.n1
    have n6 := hG.ok.n6
    have HG := Lib.hid hG
    have HMK := Lib.hid (rows_make V.length (by omega))
    have HFIN := Lib.hid (show ∀ B H C w', Tb B w' V.length (As.bw V a) H C → Below w.heap.size w w' → VlQ V a w (.returned (.tuple #[.slice (some ⟨B, 0, none⟩) V.length V.length, .int .i64 0])) w' from fun B H C w' t hb => by
      unfold VlQ
      rw [As.vlS_yes h0, h0, mm_len]
      exact ⟨_, _, rfl, t.isM hl (fun i j hi hj => by
        have := As.bw_small hG.ok hG.al i j
        unfold I64; omega), hb⟩)
    rw [h0] at CV
    obtain ⟨i0, hi0, hz0, hz1, hz2⟩ := info_parts intInfo
    have HI := Lib.hid hi0
    have HI2 := Lib.hid hz0
    have HI3 := Lib.hid hz1
    have HI4 := Lib.hid hz2
    clear h hB h0 hG hi0 hz0 hz1 hz2
    go_enter Try.func11, Try.ntmps11
    go_upto_region 1 with fail
    refine at_box1 (fun V0 hbb b0 hsz => ?_)
    clear hsz
    have c0 := b0.c 0 rfl
    go_wp2_with fail
    refine (CV.out _ hbb).mono ?_
    rintro e w1 ⟨rfl, hb1⟩
    have HB1 := Lib.hid (keepB hbb hb1)
    have HG1 := Lib.hid (HG.out.keep (keepB hbb hb1))
    replace c0 := keepC hb1 c0
    have C0 := Lib.hid c0
    clear hb1 hbb b0 CV HG
    have MK := HMK.out
    go_upto_region 5 with fail
    clear MK c0
    refine at_worldQ (fun v => Below w1.heap.size w1 v ∧ Tg w1.heap.size v V.length (As.bw V a) (fun _ => .slice none 0 0) (fun _ => 0)) ⟨below_al (Below.refl _ _) _, Tg.start w1 V.length _ _⟩ (fun V3 hS => ?_)
    obtain ⟨hb3, htg⟩ := hS
    have HB3 := Lib.hid hb3
    have HTG := Lib.hid htg
    obtain ⟨B, hB⟩ : ∃ B, w1.heap.size = B := ⟨_, rfl⟩
    have HBE := Lib.hid hB
    have c0 := keepC hb3 C0.out
    rw [hB] at HTG ⊢
    clear hb3 htg hB
    go_wp2_with fail
    clear c0
    go_loopw [24] (fun i W => ∃ k : Nat, k ≤ V.length ∧ i = .int .i64 k ∧ ∃ RV, Hid (Tg B W V.length (As.bw V a) RV (As.glf k 0 V.length)) ∧ Hid (Below w1.heap.size w1 W)) (fun i _ => V.length - (intOf i).toNat)
    case atStart => exact ⟨0, Nat.zero_le _, rfl, _, Lib.hid (HTG.out.cong (fun r _ => by unfold As.glf; simp)), HB3⟩
    case round =>
      obtain ⟨k, hk, rfl, RV, HT, HW⟩ := hrel
      by_cases hlt : k < V.length
      · obtain ⟨ab, ao, rfl, hrows⟩ := HG1.out.hM (by omega)
        obtain ⟨R, cr, hrc, -, hRI⟩ := hrows k hlt
        have HRI := Lib.hid hRI
        have HRL := Lib.hid (show (V.getD k []).length = a.length from (HG1.out.ok.row k hlt).trans HG1.out.al.len.symm)
        rw [HRL.out] at hrc
        have r0 := keepC HW.out hrc
        have c0 := keepC HW.out C0.out
        clear hrows hrc hRI
        go_wp2_with fail
        clear c0 r0
        go_loopw [32] (fun i W => ∃ m : Nat, m ≤ V.length ∧ i = .int .i64 m ∧ ∃ RV, Hid (Tg B W V.length (As.bw V a) RV (As.glf k m V.length)) ∧ Hid (Below w1.heap.size w1 W)) (fun i _ => V.length - (intOf i).toNat)
        case atStart => exact ⟨0, Nat.zero_le _, rfl, RV, HT, HW⟩
        case round =>
          clear HT HW
          obtain ⟨m, hm, rfl, RV, HT, HW⟩ := hrel
          by_cases hltm : m < V.length
          · obtain ⟨XA, xc, hXe⟩ := tg_atG HT.out hlt
            have hown := HT.out.own k hlt
            have x0 : wr.cell? ⟨B, k, none⟩ = some (RV k) := HT.out.top.c k (by simp [hlt])
            have xf : wr.frozen? ⟨B, k, none⟩ = false := HT.out.top.f (x := RV k) k (by simp [hlt])
            rw [As.glf_at] at hXe hown
            rw [hXe] at x0 hown
            have HO := Lib.hid hown
            have HXE := Lib.hid hXe
            have hax : a.length ≤ 100 := by have h1 := HG1.out.al.len; have h2 := HG1.out.ok.m10; omega
            have cb := fun v (hv : Below w1.heap.size w1 v) => gBundle_any R cr (V.getD k []) BA ca a m v HRL.out hax (HRI.out.keep hv) (HG1.out.hB.keep hv)
            rw [HRL.out] at cb
            have CB := Lib.hid cb
            clear cb
            have HLE := As.bnl_le (V.getD k []) a m a.length
            have CS := Lib.hid (fun v X c (hX : IsI v X (As.bnl (V.getD k []) a m a.length)) => gSum_any X c (As.bnl (V.getD k []) a m a.length) v (by omega) (fun j hj => by
              obtain ⟨g, hg, e⟩ := As.bnl_mem (r := V.getD k []) (a := a) (k := m) (m := a.length) (x := As.el (As.bnl (V.getD k []) a m a.length) j) (by rw [el_lt hj]; exact List.getElem_mem hj)
              rw [e]
              exact HG1.out.ok.bd k g) hX)
            simp only [As.bnl_bw] at CS
            have HAPP := Lib.hid (fun (u6 : World) (v1 : World) g cap o hb hg hown hat => (HT.out.app (w1 := v1) (w6 := u6) (g := g) (cap := cap) (o := o) (i := k) hb hlt (by rw [hXe]; exact hg) (by rw [As.glf_at]; exact hown) (by rw [hXe]; exact hat)))
            unfold BdQ at CB
            generalize As.bnl (V.getD k []) a m a.length = bl at CB CS HLE
            generalize As.bw V a k m = x at *
            have i1 : (k : Int) < (V.length : Int) := by omega
            have HX0 := Lib.hid x0
            have HXF := Lib.hid xf
            have hsz := HT.out.top.lt
            have hWW := HW.out
            clear hown hXe
            go_upto_region 11 with fail
            refine wp_region_noPanic ?_
            refine region_ordU (S := (fun v => v.cell? ⟨B, k, none⟩ = some (.slice XA m xc))) (fun _ => True) 14 (by kernel_rfl) HX0.out (fun hHeld => ?_)
            refine ordU_take (i := 0) (o := _) (v := ?vu0) rfl (by kernel_rfl) (by kernel_rfl) (by kernel_rfl) (by kernel_rfl) (fun _ _ _ h => h) (Or.inl ⟨by kernel_rfl, ?hyu0⟩) hHeld ?restu0
            case hyu0 => (intro w hSw; go_simp <;> with_reducible rfl)
            try simp only [PPz]
            refine ordU_take (i := 1) (o := _) (v := ?vu1) rfl (by kernel_rfl) (by kernel_rfl) (by kernel_rfl) (by kernel_rfl) (fun _ _ _ h => h) (Or.inl ⟨by kernel_rfl, ?hyu1⟩) hHeld ?restu1
            case hyu1 => (intro w hSw; go_simp <;> with_reducible rfl)
            try simp only [PPz]
            refine ordU_take (i := 2) (o := _) (v := ?vu2) rfl (by kernel_rfl) (by kernel_rfl) (by kernel_rfl) (by kernel_rfl) (fun _ _ _ h => h) (Or.inl ⟨by kernel_rfl, ?hyu2⟩) hHeld ?restu2
            case hyu2 => (intro w hSw; go_simp <;> with_reducible rfl)
            try simp only [PPz]
            refine ordU_take (i := 3) (o := _) (v := ?vu3) rfl (by kernel_rfl) (by kernel_rfl) (by kernel_rfl) (by kernel_rfl) (fun _ _ _ h => h) (Or.inl ⟨by kernel_rfl, ?hyu3⟩) hHeld ?restu3
            case hyu3 => (intro w hSw; go_simp <;> with_reducible rfl)
            try simp only [PPz]
            refine ordU_take (i := 4) (o := _) (v := ?vu4) rfl (by kernel_rfl) (by kernel_rfl) (by kernel_rfl) (by kernel_rfl) (fun _ _ _ h => h) (Or.inl ⟨by kernel_rfl, ?hyu4⟩) hHeld ?restu4
            case hyu4 => (intro w hSw; go_simp <;> with_reducible rfl)
            try simp only [PPz]
            refine ordU_take (i := 5) (o := _) (v := ?vu5) rfl (by kernel_rfl) (by kernel_rfl) (by kernel_rfl) (by kernel_rfl) (fun _ _ _ h => h) (Or.inl ⟨by kernel_rfl, ?hyu5⟩) hHeld ?restu5
            case hyu5 => (intro w hSw; go_simp <;> with_reducible rfl)
            try simp only [PPz]
            refine ordU_take (i := 6) (o := _) (v := ?vu6) rfl (by kernel_rfl) (by kernel_rfl) (by kernel_rfl) (by kernel_rfl) (fun _ _ _ h => h) (Or.inl ⟨by kernel_rfl, ?hyu6⟩) hHeld ?restu6
            case hyu6 => (intro w hSw; go_simp <;> with_reducible rfl)
            try simp only [PPz]
            refine ordU_take (i := 7) (o := _) (v := ?vu7) rfl (by kernel_rfl) (by kernel_rfl) (by kernel_rfl) (by kernel_rfl) (fun _ _ _ h => h) (Or.inl ⟨by kernel_rfl, ?hyu7⟩) hHeld ?restu7
            case hyu7 => (intro w hSw; go_simp <;> with_reducible rfl)
            try simp only [PPz]
            refine ordU_take (i := 8) (o := _) (v := ?vu8) rfl (by kernel_rfl) (by kernel_rfl) (by kernel_rfl) (by kernel_rfl) (fun _ _ _ h => h) (Or.inl ⟨by kernel_rfl, ?hyu8⟩) hHeld ?restu8
            case hyu8 => (intro w hSw; go_simp <;> with_reducible rfl)
            try simp only [PPz]
            refine ordU_ready (rs := [9]) (by kernel_rfl) (by simp) (ReadyU.cons (o := _) rfl (by decide) (fun K hK => ?_) ReadyU.nil)
            go_simp
            refine (CB.out _ hWW.drew).mono ?_
            rintro e w2 ⟨X, c, rfl, hX, hb2⟩
            have HY1 := Lib.hid (keepC (keepB (Below.refl _ _).drew hb2) HX0.out)
            have HBR := Lib.hid (show Below wr.heap.size wr w2 from keepB (Below.refl _ _).drew hb2)
            have HX := Lib.hid hX
            clear hb2 hX
            go_wp2_with fail
            refine hK.out _ _ HY1.out (fun hNew => ?_)
            clear hHeld hK K
            have hHeld := hNew
            clear hNew
            try simp only [PPz]
            refine ordU_ready (rs := [10]) (by kernel_rfl) (by simp) (ReadyU.cons (o := _) rfl (by decide) (fun K hK => ?_) ReadyU.nil)
            go_simp
            refine (CS.out _ X c HX.out).mono ?_
            rintro e w3 ⟨rfl, hw3e⟩
            have hbr : Below wr.heap.size wr w3 := hw3e ▸ HBR.out
            have hw3 : Below w1.heap.size w1 w3 := keepB hWW hbr
            have ho3 := ownG_keepB HO.out hbr
            have hsz3 := hbr.size
            have HY0 := Lib.hid (keepC hbr HX0.out)
            clear hw3e HX HBR HY1
            go_wp2_with fail
            refine hK.out _ _ HY0.out (fun hNew => ?_)
            clear hHeld hK K
            have hHeld := hNew
            clear hNew
            try simp only [PPz]
            refine ordU_ready (rs := [11]) (by kernel_rfl) (by simp) (ReadyU.cons (o := _) rfl (by decide) (fun K hK => ?_) ReadyU.nil)
            go_simp
            refine hK.out _ _ (cell_alloc HY0.out _) (fun hNew => ?_)
            clear hHeld hK K
            have hHeld := hNew
            clear hNew
            try simp only [PPz]
            refine ordU_ready (rs := [12]) (by kernel_rfl) (by simp) (ReadyU.cons (o := _) rfl (by decide) (fun K hK => ?_) ReadyU.nil)
            refine step_append_lies _ (by rfl) _ _ _ (by rfl) (B + 1) 3 i0 _ 1 8 Try.underlying25 HI.out HI2.out HI3.out HI4.out rfl (by omega) (.slice XA m xc) m ((List.range m).map fun j => Value.int .i64 (As.bw V a k j)) (by rfl) (World.ownsRow.alloc ho3 _) ⟨w3.heap.size, 0, none⟩ 1 1 [.int .i64 x] (by rfl) (by rfl) (World.news_of_block (cs := #[.int .i64 x]) (t := 3) (fr := (0, 0)) (heap_alloc_new w3 _)) (by simp [Value.oneCell']) (by omega) (by unfold maxLen; omega) (by omega) (by simp; omega) (w3.heap.size + 1) (by simp) ?_
            intro g cap w6 hown1 hgrow hat hglt
            have hT6 := HAPP.out w6 _ g cap _ hbr hgrow hown1 hat
            simp only [As.glf_at] at hT6
            have HT6 := Lib.hid hT6
            have HW6 := Lib.hid (own_app rfl hw3 (fun b hb => by have := (World.ownsRow.lt ho3 b hb).1; have := HBE.out; omega) hgrow)
            clear hT6
            have t6 := ((HT.out.top.keep hbr).al (.cells #[.int .i64 x] 3)).grownT hgrow (fun e => by have := (World.ownsRow.lt ho3 B e).1; omega)
            have z6 : w6.cell? ⟨B, k, none⟩ = some (RV k) := t6.c k (by simp [hlt])
            have f6 : w6.frozen? ⟨B, k, none⟩ = false := t6.f (x := RV k) k (by simp [hlt])
            have z7 := z6
            rw [HXE.out] at z7
            refine hK.out _ _ z7 (fun hNew => ?_)
            clear hHeld hK K
            have hHeld := hNew
            clear hNew
            try simp only [PPz]
            refine ordU_take (i := 13) (o := _) (v := ?vu13) rfl (by kernel_rfl) (by kernel_rfl) (by kernel_rfl) (by kernel_rfl) (fun _ _ _ h => h) (Or.inl ⟨by kernel_rfl, ?hyu13⟩) hHeld ?restu13
            case hyu13 => (intro w hSw; go_simp <;> with_reducible rfl)
            try simp only [PPz]
            refine ordU_at (by kernel_rfl) ?_
            refine rdy1 14 rfl (fun K hK => ?_)
            go_simp
            clear z6 z7 f6
            refine hK.out _ _ trivial (fun hNew => ?_)
            clear hHeld hK K hNew
            try simp only [PPz]
            refine wpAnyH_done (by kernel_rfl) ?_ _
            refine NoPanic.normal ?_
            go_wp2_with fail
            go_roundw
            case rel => exact ⟨m + 1, by omega, by go_num, _, Lib.hid (HT6.out.cong (fun r _ => by have h9 := As.glf_step k m V.length r; rw [As.glf_at] at h9; exact h9)), Lib.hid (HW6.out.setCell (by rw [HBE.out]; exact Nat.le_refl _) _)⟩
            case measure => simp [intOf]; omega
          · obtain rfl : m = V.length := by omega
            have HT2 := Lib.hid (HT.out.cong (fun r _ => As.glf_next k V.length r))
            go_wp2_with fail
            go_roundw
            case rel => exact ⟨k + 1, by omega, by go_num, RV, HT2, HW⟩
            case measure => simp [intOf]; omega
      · obtain rfl : k = V.length := by omega
        obtain ⟨H, C, htb⟩ := HT.out.tb (fun r hr => by unfold As.glf; rw [if_pos hr])
        have HTB := Lib.hid (HFIN.out B H C wr htb (keepB HB1.out HW.out))
        clear htb HT HTG
        go_wp2_with fail
        go_ret2
        exact HTB.out
  · have HQ := Lib.hid (show ∀ w', Below w.heap.size w w' → VlQ V a w (.returned (.tuple #[.slice none 0 0, .int .i64 (As.gvld V a)])) w' from fun w' hb => by
      unfold VlQ
      rw [As.vlS_no h2]
      exact ⟨_, _, rfl, fun h => absurd h (by simp), hb⟩)
    generalize As.gvld V a = c at *
    clear h2 h hB hl hal
    go_enter Try.func11, Try.ntmps11
    go_upto_region 1 with fail
    refine at_box1 (fun V0 hbb b0 hsz => ?_)
    clear hsz
    have c0 := b0.c 0 rfl
    go_wp2_with fail
    refine (CV.out _ hbb).mono ?_
    rintro e w1 ⟨rfl, hb1⟩
    replace hbb := keepB hbb hb1
    clear hb1 b0 c0
    go_wp2_with fail
    go_ret2
    exact HQ.out _ hbb
end Go.Proofs.Ytfpaefnaidppmaa
