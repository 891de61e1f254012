/- Package room: linksOf. -/
import Derived.Test.YtncmffhoodfhjaaYo
import Derived.Test.YtncmffhoodfhjaaYf
import Derived.Test.YtncmffhoodfhjaaYl
import Derived.BigRegion
namespace Go.Proofs.Ytncmffhoodfhjaa
open Go.RowKit
namespace As
/-- The table of links. -/
def lkt (V : List (List Int)) : List (List Int) := mm V.length V.length (lkm V (bst V))
/-- How long the rows are. -/
def lf (k m n r : Nat) : Nat := if r < k then n else if r = k then m else 0
theorem lf_step (k m n : Nat) : ∀ r, (if r = k then lf k m n k + 1 else lf k m n r) = lf k (m + 1) n r := fun r => by
  unfold lf
  by_cases e : r = k
  · subst e; simp
  · simp [e]
theorem lf_next (k n : Nat) : ∀ r, lf k n n r = lf (k + 1) 0 n r := fun r => by
  unfold lf
  by_cases e : r < k
  · rw [if_pos e, if_pos (by omega)]
  · rw [if_neg e]
    by_cases e2 : r = k
    · subst e2; simp
    · rw [if_neg e2, if_neg (by omega)]; simp
theorem lf_at (k m n : Nat) : lf k m n k = m := by unfold lf; simp
end As
/-- What linksOf gives. -/
def LkQ (V : List (List Int)) (w : World) (e : Ending) (w' : World) : Prop := ∃ G c, e = .returned (.slice (some ⟨G, 0, none⟩) V.length c) ∧ IsM w' (some ⟨G, 0, none⟩) (As.lkt V) ∧ Below w.heap.size w w'
theorem tg_at {B : Nat} {W : World} {n : Nat} {F : Nat → Nat → Int} {RV : Nat → Value} {L : Nat → Nat} (t : Tg B W n F RV L) {r : Nat} (hr : r < n) : ∃ A cap, RV r = .slice A (L r) cap := by
  rcases (t.own r hr).2 with ⟨h1, h2⟩ | ⟨g, cap, cur, h1, _⟩
  · exact ⟨none, 0, by rw [h1, h2]⟩
  · exact ⟨_, _, h1⟩
set_option maxRecDepth 100000 in
set_option maxHeartbeats 8000000 in
theorem linksOf_any (A : Option Addr) (cv : Nat) (V : List (List Int)) (w : World) (hc : As.chk V = 0) (hl : V.length ≤ maxLen) (h : IsM w A V) :
    Calls Try.prog 45 #[.slice A V.length cv] w (LkQ V w) := by
  have ok := As.chk_ok hc
  have ht := As.bst_top ok
  have n1 := ok.n1
  have n6 := ok.n6
  have CA := Lib.hid (asked_any A cv V w hc hl h)
  have MK := rows_make V.length (by omega)
  have HMK := Lib.hid MK
  have HM := Lib.hid h
  have HOKV := Lib.hid ok
  have HTOP := Lib.hid ht
  have HFIN := Lib.hid (show ∀ B H C w', Tb B w' V.length (As.lkm V (As.bst V)) H C → Below w.heap.size w w' → LkQ V w (.returned (.slice (some ⟨B, 0, none⟩) V.length V.length)) w' from fun B H C w' t hb => ⟨B, _, rfl, t.isM hl (fun i j hi hj => by
    have h5 := As.lkm_bd ok.bd (b := As.bst V) i j
    have : (V.length : Int) * 1000000 ≤ 6 * 1000000 := Int.mul_le_mul_of_nonneg_right (by omega) (by omega)
    unfold I64; omega), hb⟩)
  obtain ⟨i0, hi0, hz0, hz1, hz2⟩ := info_parts intInfo
  have HI := Lib.hid hi0
  have HI2 := Lib.hid hz0
  have HI3 := Lib.hid hz1
  have HI4 := Lib.hid hz2
  clear h hc MK ok ht hi0 hz0 hz1 hz2
  go_enter Try.func45, Try.ntmps45
  go_wp2_with fail
  refine CA.out.mono ?_
  rintro e w1 ⟨p, q, tb, rfl, hAk, hb1⟩
  have HB1 := Lib.hid hb1
  have HAK := Lib.hid hAk
  have HM1 := Lib.hid (HM.out.keep hb1)
  have MK := HMK.out
  clear hb1 hAk CA HM
  go_upto_region 4 with fail
  clear MK
  refine at_worldQ (fun v => Below w1.heap.size w1 v ∧ Tg w1.heap.size v V.length (As.wt V (As.bst V)) (fun _ => .slice none 0 0) (fun _ => 0)) ⟨below_al (Below.refl _ _) _, Tg.start w1 V.length _ _⟩ (fun V3 hS => ?_)
  obtain ⟨hb3, htg⟩ := hS
  have HB3 := Lib.hid hb3
  have HTG := Lib.hid htg
  obtain ⟨B, hB⟩ : ∃ B, w1.heap.size = B := ⟨_, rfl⟩
  have HBE := Lib.hid hB
  rw [hB] at HTG ⊢
  clear hb3 htg hB
  go_wp2_with fail
  go_loopw [18] (fun i W => ∃ k : Nat, k ≤ V.length ∧ i = .int .i64 k ∧ ∃ RV, Hid (Tg B W V.length (As.wt V (As.bst V)) RV (As.lf k 0 V.length)) ∧ Hid (Below w1.heap.size w1 W)) (fun i _ => V.length - (intOf i).toNat)
  case atStart => exact ⟨0, Nat.zero_le _, rfl, _, Lib.hid (HTG.out.cong (fun r _ => by unfold As.lf; simp)), HB3⟩
  case round =>
    obtain ⟨k, hk, rfl, RV, HT, HW⟩ := hrel
    by_cases hlt : k < V.length
    · go_wp2_with fail
      go_loopw [22] (fun i W => ∃ m : Nat, m ≤ V.length ∧ i = .int .i64 m ∧ ∃ RV, Hid (Tg B W V.length (As.wt V (As.bst V)) RV (As.lf k m V.length)) ∧ Hid (Below w1.heap.size w1 W)) (fun i _ => V.length - (intOf i).toNat)
      case atStart => exact ⟨0, Nat.zero_le _, rfl, RV, HT, HW⟩
      case round =>
        obtain ⟨m, hm, rfl, RV, HT, HW⟩ := hrel
        by_cases hltm : m < V.length
        · obtain ⟨XA, xc, hXe⟩ := tg_at HT.out hlt
          have hown := HT.out.own k hlt
          have x0 : wr.cell? ⟨B, k, none⟩ = some (RV k) := HT.out.top.c k (by simp [hlt])
          have xf : wr.frozen? ⟨B, k, none⟩ = false := HT.out.top.f (x := RV k) k (by simp [hlt])
          rw [As.lf_at] at hXe hown
          rw [hXe] at x0 hown
          have HO := Lib.hid hown
          have HXE := Lib.hid hXe
          have CC := Lib.hid (fun v (hv : Below w1.heap.size w1 v) => asked1_any p q tb A cv V (As.bst V) k m v HOKV.out HTOP.out.perm (HM1.out.keep hv) (HAK.out.keep hv) hlt hltm)
          have HAPP := Lib.hid (fun (u6 : World) (v1 : World) g cap o hb hg hown hat => (HT.out.app (w1 := v1) (w6 := u6) (g := g) (cap := cap) (o := o) (i := k) hb hlt (by rw [hXe]; exact hg) (by rw [As.lf_at]; exact hown) (by rw [hXe]; exact hat)))
          generalize As.wt V (As.bst V) k m = x at *
          have i1 : (k : Int) < (V.length : Int) := by omega
          have HX0 := Lib.hid x0
          have HXF := Lib.hid xf
          have hsz := HT.out.top.lt
          have hWW := HW.out
          clear hown hXe
          go_upto_region 10 with fail
          refine wp_region_noPanic ?_
          refine region_ordU (S := (fun v => v.cell? ⟨B, k, none⟩ = some (.slice XA m xc))) (fun _ => True) 13 (by kernel_rfl) HX0.out (fun hHeld => ?_)
          refine ordU_take (i := 0) (o := _) (v := ?vu0) rfl (by kernel_rfl) (by kernel_rfl) (by kernel_rfl) (by kernel_rfl) (fun _ _ _ h => h) (Or.inl ⟨by kernel_rfl, ?hyu0⟩) hHeld ?restu0
          case hyu0 => (intro w hSw; go_simp <;> with_reducible rfl)
          try simp only [PPz]
          refine ordU_take (i := 1) (o := _) (v := ?vu1) rfl (by kernel_rfl) (by kernel_rfl) (by kernel_rfl) (by kernel_rfl) (fun _ _ _ h => h) (Or.inl ⟨by kernel_rfl, ?hyu1⟩) hHeld ?restu1
          case hyu1 => (intro w hSw; go_simp <;> with_reducible rfl)
          try simp only [PPz]
          refine ordU_take (i := 2) (o := _) (v := ?vu2) rfl (by kernel_rfl) (by kernel_rfl) (by kernel_rfl) (by kernel_rfl) (fun _ _ _ h => h) (Or.inl ⟨by kernel_rfl, ?hyu2⟩) hHeld ?restu2
          case hyu2 => (intro w hSw; go_simp <;> with_reducible rfl)
          try simp only [PPz]
          refine ordU_take (i := 3) (o := _) (v := ?vu3) rfl (by kernel_rfl) (by kernel_rfl) (by kernel_rfl) (by kernel_rfl) (fun _ _ _ h => h) (Or.inl ⟨by kernel_rfl, ?hyu3⟩) hHeld ?restu3
          case hyu3 => (intro w hSw; go_simp <;> with_reducible rfl)
          try simp only [PPz]
          refine ordU_take (i := 4) (o := _) (v := ?vu4) rfl (by kernel_rfl) (by kernel_rfl) (by kernel_rfl) (by kernel_rfl) (fun _ _ _ h => h) (Or.inl ⟨by kernel_rfl, ?hyu4⟩) hHeld ?restu4
          case hyu4 => (intro w hSw; go_simp <;> with_reducible rfl)
          try simp only [PPz]
          refine ordU_take (i := 5) (o := _) (v := ?vu5) rfl (by kernel_rfl) (by kernel_rfl) (by kernel_rfl) (by kernel_rfl) (fun _ _ _ h => h) (Or.inl ⟨by kernel_rfl, ?hyu5⟩) hHeld ?restu5
          case hyu5 => (intro w hSw; go_simp <;> with_reducible rfl)
          try simp only [PPz]
          refine ordU_take (i := 6) (o := _) (v := ?vu6) rfl (by kernel_rfl) (by kernel_rfl) (by kernel_rfl) (by kernel_rfl) (fun _ _ _ h => h) (Or.inl ⟨by kernel_rfl, ?hyu6⟩) hHeld ?restu6
          case hyu6 => (intro w hSw; go_simp <;> with_reducible rfl)
          try simp only [PPz]
          refine ordU_take (i := 7) (o := _) (v := ?vu7) rfl (by kernel_rfl) (by kernel_rfl) (by kernel_rfl) (by kernel_rfl) (fun _ _ _ h => h) (Or.inl ⟨by kernel_rfl, ?hyu7⟩) hHeld ?restu7
          case hyu7 => (intro w hSw; go_simp <;> with_reducible rfl)
          try simp only [PPz]
          refine ordU_take (i := 8) (o := _) (v := ?vu8) rfl (by kernel_rfl) (by kernel_rfl) (by kernel_rfl) (by kernel_rfl) (fun _ _ _ h => h) (Or.inl ⟨by kernel_rfl, ?hyu8⟩) hHeld ?restu8
          case hyu8 => (intro w hSw; go_simp <;> with_reducible rfl)
          try simp only [PPz]
          refine ordU_ready (rs := [9]) (by kernel_rfl) (by simp) (ReadyU.cons (o := _) rfl (by decide) (fun K hK => ?_) ReadyU.nil)
          go_simp
          refine (CC.out _ hWW.drew).mono ?_
          rintro e w3 ⟨rfl, hb3⟩
          have hbr : Below wr.heap.size wr w3 := keepB (Below.refl _ _).drew hb3
          have hw3 : Below w1.heap.size w1 w3 := keepB hWW hbr
          have ho3 := ownG_keepB HO.out hbr
          have hsz3 := hbr.size
          have HY0 := Lib.hid (keepC hbr HX0.out)
          clear hb3
          go_wp2_with fail
          refine hK.out _ _ HY0.out (fun hNew => ?_)
          clear hHeld hK K
          have hHeld := hNew
          clear hNew
          try simp only [PPz]
          refine ordU_ready (rs := [10]) (by kernel_rfl) (by simp) (ReadyU.cons (o := _) rfl (by decide) (fun K hK => ?_) ReadyU.nil)
          go_simp
          refine hK.out _ _ (cell_alloc HY0.out _) (fun hNew => ?_)
          clear hHeld hK K
          have hHeld := hNew
          clear hNew
          try simp only [PPz]
          refine ordU_ready (rs := [11]) (by kernel_rfl) (by simp) (ReadyU.cons (o := _) rfl (by decide) (fun K hK => ?_) ReadyU.nil)
          refine step_append_lies _ (by rfl) _ _ _ (by rfl) (B + 1) 3 i0 _ 1 8 Try.underlying25 HI.out HI2.out HI3.out HI4.out rfl (by omega) (.slice XA m xc) m ((List.range m).map fun j => Value.int .i64 (As.wt V (As.bst V) k j)) (by rfl) (World.ownsRow.alloc ho3 _) ⟨w3.heap.size, 0, none⟩ 1 1 [.int .i64 x] (by rfl) (by rfl) (World.news_of_block (cs := #[.int .i64 x]) (t := 3) (fr := (0, 0)) (heap_alloc_new w3 _)) (by simp [Value.oneCell']) (by omega) (by unfold maxLen; omega) (by omega) (by simp; omega) (w3.heap.size + 1) (by simp) ?_
          intro g cap w6 hown1 hgrow hat hglt
          have hT6 := HAPP.out w6 _ g cap _ hbr hgrow hown1 hat
          simp only [As.lf_at] at hT6
          have HT6 := Lib.hid hT6
          have HW6 := Lib.hid (own_app rfl hw3 (fun b hb => by have := (World.ownsRow.lt ho3 b hb).1; have := HBE.out; omega) hgrow)
          clear hT6
          have t6 := ((HT.out.top.keep hbr).al (.cells #[.int .i64 x] 3)).grownT hgrow (fun e => by have := (World.ownsRow.lt ho3 B e).1; omega)
          have z6 : w6.cell? ⟨B, k, none⟩ = some (RV k) := t6.c k (by simp [hlt])
          have f6 : w6.frozen? ⟨B, k, none⟩ = false := t6.f (x := RV k) k (by simp [hlt])
          have z7 := z6
          rw [HXE.out] at z7
          refine hK.out _ _ z7 (fun hNew => ?_)
          clear hHeld hK K
          have hHeld := hNew
          clear hNew
          try simp only [PPz]
          refine ordU_take (i := 12) (o := _) (v := ?vu12) rfl (by kernel_rfl) (by kernel_rfl) (by kernel_rfl) (by kernel_rfl) (fun _ _ _ h => h) (Or.inl ⟨by kernel_rfl, ?hyu12⟩) hHeld ?restu12
          case hyu12 => (intro w hSw; go_simp <;> with_reducible rfl)
          try simp only [PPz]
          refine ordU_at (by kernel_rfl) ?_
          refine rdy1 13 rfl (fun K hK => ?_)
          go_simp
          clear z6 z7 f6
          refine hK.out _ _ trivial (fun hNew => ?_)
          clear hHeld hK K hNew
          try simp only [PPz]
          refine wpAnyH_done (by kernel_rfl) ?_ _
          refine NoPanic.normal ?_
          go_wp2_with fail
          go_roundw
          case rel => exact ⟨m + 1, by omega, by go_num, _, Lib.hid (HT6.out.cong (fun r _ => by have h9 := As.lf_step k m V.length r; rw [As.lf_at] at h9; exact h9)), Lib.hid (HW6.out.setCell (by rw [HBE.out]; exact Nat.le_refl _) _)⟩
          case measure => simp [intOf]; omega
        · obtain rfl : m = V.length := by omega
          have HT2 := Lib.hid (HT.out.cong (fun r _ => As.lf_next k V.length r))
          go_wp2_with fail
          go_roundw
          case rel => exact ⟨k + 1, by omega, by go_num, RV, HT2, HW⟩
          case measure => simp [intOf]; omega
    · obtain rfl : k = V.length := by omega
      obtain ⟨H, C, htb⟩ := HT.out.tb (fun r hr => by unfold As.lf; rw [if_pos hr])
      have HTB := Lib.hid htb
      clear htb HT HTG
      go_wp2_with fail
      go_loopw [41] (fun i W => ∃ v : Nat, v ≤ V.length ∧ i = .int .i64 v ∧ ∃ F, Hid (Tb B W V.length F H C) ∧ Hid (As.LI V (As.bst V) v 0 0 F) ∧ Hid (Below w1.heap.size w1 W)) (fun i _ => V.length - (intOf i).toNat)
      case atStart => exact ⟨0, Nat.zero_le _, rfl, _, HTB, Lib.hid (As.LI.start HTOP.out), HW⟩
      case round =>
        clear HTB HW
        obtain ⟨v, hv, rfl, F, HT, HL, HW⟩ := hrel
        by_cases hltv : v < V.length
        · go_wp2_with fail
          go_loopw [45] (fun i W => ∃ f : Nat, f ≤ V.length ∧ i = .int .i64 f ∧ ∃ F, Hid (Tb B W V.length F H C) ∧ Hid (As.LI V (As.bst V) v f 0 F) ∧ Hid (Below w1.heap.size w1 W)) (fun i _ => V.length - (intOf i).toNat)
          case atStart => exact ⟨0, Nat.zero_le _, rfl, F, HT, HL, HW⟩
          case round =>
            clear HT HL HW
            obtain ⟨f, hf, rfl, F, HT, HL, HW⟩ := hrel
            by_cases hltf : f < V.length
            · go_wp2_with fail
              go_loopw [49] (fun i W => ∃ t : Nat, t ≤ V.length ∧ i = .int .i64 t ∧ ∃ F, Hid (Tb B W V.length F H C) ∧ Hid (As.LI V (As.bst V) v f t F) ∧ Hid (Below w1.heap.size w1 W)) (fun i _ => V.length - (intOf i).toNat)
              case atStart => exact ⟨0, Nat.zero_le _, rfl, F, HT, HL, HW⟩
              case round =>
                clear HT HL HW
                obtain ⟨t, ht, rfl, F, HT, HL, HW⟩ := hrel
                by_cases hltt : t < V.length
                · have x1 := (HT.out.rows f hltf).2.c hltt
                  have x2 := (HT.out.rows f hltf).2.c hltv
                  have x3 := (HT.out.rows v hltv).2.c hltt
                  have x4 := (HT.out.rows f hltf).2.f hltt
                  have x5 := HT.out.c hltf
                  have x6 := HT.out.c hltv
                  have hHf := (HT.out.rows f hltf).1
                  obtain ⟨e11, e12⟩ := HL.out.bd HOKV.out.bd n6 hltf hltt
                  obtain ⟨e21, e22⟩ := HL.out.bd HOKV.out.bd n6 hltf hltv
                  obtain ⟨e31, e32⟩ := HL.out.bd HOKV.out.bd n6 hltv hltt
                  have HNL := Lib.hid (HL.out.step HTOP.out hltv hltf hltt)
                  have HNT := Lib.hid (HT.out.set (i := f) (k := t) hltf (max (F f t) (F f v + F v t)))
                  generalize hNF : (fun i j => if i = f ∧ j = t then max (F f t) (F f v + F v t) else F i j) = NF at *
                  clear hNF
                  generalize F f t = a at *
                  generalize F f v = b at *
                  generalize F v t = c at *
                  have HNB := Lib.hid (show Below w1.heap.size w1 (wr.setCell ⟨H f, t, none⟩ (.int .i64 (max a (b + c)))) from HW.out.setCell (by rw [HBE.out]; exact Nat.le_of_lt hHf) _)
                  have i1 : (v : Int) < (V.length : Int) := by omega
                  have i2 : (f : Int) < (V.length : Int) := by omega
                  have i3 : (t : Int) < (V.length : Int) := by omega
                  have a1 : IntKind.i64.wrap (b + c) = b + c := IntWalk.i64_in _ (by omega)
                  go_wp2_with fail
                  go_big_region
                  clear a1 x1 x2 x3 x4 x5 x6
                  first | rw [imax] | skip
                  go_wp2_with fail
                  go_roundw
                  case rel => exact ⟨t + 1, by omega, by go_num, NF, Lib.hid (HNT.out.keep (Below.refl _ _).drew), HNL, Lib.hid HNB.out.drew⟩
                  case measure => simp [intOf]; omega
                · obtain rfl : t = V.length := by omega
                  go_wp2_with fail
                  go_roundw
                  case rel => exact ⟨f + 1, by omega, by go_num, F, HT, Lib.hid HL.out.row, HW⟩
                  case measure => simp [intOf]; omega
            · obtain rfl : f = V.length := by omega
              go_wp2_with fail
              go_roundw
              case rel => exact ⟨v + 1, by omega, by go_num, F, HT, Lib.hid HL.out.next, HW⟩
              case measure => simp [intOf]; omega
        · obtain rfl : v = V.length := by omega
          have HF := Lib.hid (HFIN.out B H C wr (HT.out.cong (fun i j hi hj => HL.out.fin HTOP.out hi hj)) (keepB HB1.out HW.out))
          go_wp2_with fail
          go_ret
          exact HF.out
end Go.Proofs.Ytncmffhoodfhjaa
