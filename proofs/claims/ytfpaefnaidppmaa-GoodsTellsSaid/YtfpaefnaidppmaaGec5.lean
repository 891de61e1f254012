/- The reference of layer 16: Values. -/
import Derived.Test.YtfpaefnaidppmaaGec
import Derived.Test.YtfpaefnaidppmaaGet
namespace Go.Proofs.Ytfpaefnaidppmaa
open Go.RowKit
theorem Tw.isMv {w W : World} {B n m : Nat} {F : Nat → Nat → Int} {H C : Nat → Nat} {A : Option Addr} {cap : Nat} (t : Tw w W B n m F (.slice A m cap) H C) (h0 : 0 < m) (hn : n ≤ maxLen) (hb : ∀ i j, i < m → j < n → I64 (F i j)) : IsM W A (mm m n F) := by
  obtain ⟨g, cap', hv, _⟩ := t.form h0
  simp only [Value.slice.injEq] at hv
  obtain ⟨rfl, -, rfl⟩ := hv
  exact t.isM hn hb
set_option maxRecDepth 100000 in
set_option maxHeartbeats 8000000 in
theorem rgValues_any (A : Option Addr) (cv : Nat) (V : List (List Int)) (BA : Option Addr) (ca : Nat) (a : List Int) (w : World) (hl : V.length ≤ maxLen) (h : IsM w A V) (hal : a.length ≤ maxLen) (hB : IsI w BA a) :
    Calls Try.prog 12 #[.agg #[.slice A V.length cv], .slice BA a.length ca] w (VlQ V a w) := by
  have CV := Lib.hid (fun v (hv : Below w.heap.size w v) => rgValid_any A cv V BA ca a v hl (h.keep hv) hal (hB.keep hv))
  rcases As.gvld_ne (V := V) (a := a) with h0 | ⟨h1, h2⟩
  · have hG := gd_of h0 h hB
    have n1 := hG.ok.n1
    have n6 := hG.ok.n6
    have HG := Lib.hid hG
    have HFIN := Lib.hid (show ∀ w1 X c H C B w', Tw w1 w' B V.length V.length (As.bw V a) (.slice X V.length c) H C → Below w.heap.size w w' → VlQ V a w (.returned (.tuple #[.slice X V.length c, .int .i64 0])) w' from fun w1 X c H C B w' t hb => by
      unfold VlQ
      rw [As.vlS_yes h0, h0, mm_len]
      exact ⟨_, _, rfl, t.isMv (by omega) hl (fun i j hi hj => by
        have := As.bw_small hG.ok hG.al i j
        unfold I64; omega), hb⟩)
    have CW := Lib.hid (fun i k (hi : i < V.length) v (hv : Below w.heap.size w v) => rgWorth_any A cv V BA ca a i k v (HG.out.keep hv) hi)
    rw [h0] at CV
    obtain ⟨i0, hi0, hz0, hz1, hz2⟩ := info_parts intInfo
    have HI := Lib.hid hi0
    have HI2 := Lib.hid hz0
    have HI3 := Lib.hid hz1
    have HI4 := Lib.hid hz2
    obtain ⟨j0, kj0, kz0, kz1, kz2⟩ := info_parts rowInfo
    have HJ := Lib.hid kj0
    have HJ2 := Lib.hid kz0
    have HJ3 := Lib.hid kz1
    have HJ4 := Lib.hid kz2
    clear h hB h0 hG hi0 hz0 hz1 hz2 kj0 kz0 kz1 kz2 HG
    go_enter Try.func12, Try.ntmps12
    go_upto_region 1 with fail
    refine at_box1 (fun V0 hbb b0 hsz => ?_)
    clear hsz
    have c0 := b0.c 0 rfl
    go_wp2_with fail
    refine (CV.out _ hbb).mono ?_
    rintro e w1 ⟨rfl, hb1⟩
    have HB1 := Lib.hid (keepB hbb hb1)
    replace c0 := keepC hb1 c0
    have C0 := Lib.hid c0
    clear hb1 hbb b0 CV
    have HT0 := Lib.hid (T3.nil w1 V.length (As.bw V a) (fun _ => 0) (fun _ => 0) (fun _ => 0))
    go_wp2_with fail
    clear c0
    go_loopw [6, 7, 8, 9] (fun v i _ _ W => ∃ k : Nat, k ≤ V.length ∧ i = .int .i64 k ∧ ∃ H C, Hid (T3 w1 W w1.heap.size V.length k 0 (As.bw V a) (fun _ => 0) v (.slice none 0 0) H C)) (fun _ i _ _ _ => V.length - (intOf i).toNat)
    case atStart => exact ⟨0, Nat.zero_le _, rfl, _, _, HT0⟩
    case round =>
      clear HT0
      obtain ⟨k, hk, rfl, H, C, HT⟩ := hrel
      have hbW := HT.out.tw.bb
      have c0 := keepC hbW C0.out
      by_cases hlt : k < V.length
      · have HT4 := Lib.hid (T4.start HT.out)
        clear hbW
        go_wp2_with fail
        clear c0
        go_loopw [8, 9] (fun vr j W => ∃ y : Nat, y ≤ V.length ∧ j = .int .i64 y ∧ Hid (T4 w1 W w1.heap.size V.length k 0 (As.bw V a) (fun _ => 0) u6 (.slice none 0 0) H C vr y)) (fun _ j _ => V.length - (intOf j).toNat)
        case atStart => exact ⟨0, Nat.zero_le _, rfl, HT4⟩
        case round =>
          clear HT4 HT
          obtain ⟨y, hy, rfl, HR⟩ := hrel
          have hbW := HR.out.t.tw.bb
          have c0 := keepC hbW C0.out
          by_cases hlty : y < V.length
          · have CX := Lib.hid (CW.out k y hlt wr (keepB HB1.out hbW))
            obtain ⟨x, hx⟩ : ∃ x, As.bw V a k y = x := ⟨_, rfl⟩
            have HXE := Lib.hid hx
            rw [hx] at CX
            clear hx
            go_wp2_with fail
            refine CX.out.mono ?_
            rintro e w3 ⟨rfl, hb3⟩
            have HR3 := Lib.hid (HR.out.keep hb3)
            have ho3 := HR3.out.ro
            have hbW3 := HR3.out.t.tw.bb.size
            have HAPP := Lib.hid (fun g cap w6 o hg hown hat => T4.app (g := g) (cap := cap) (W' := w6) (o := o) HR3.out hg hown hat)
            rw [HXE.out] at HAPP
            clear hb3 c0 hbW
            go_wp2_with (at_builtin; go_loud (refine wpList_append_lies _ rfl _ _ _ rfl w1.heap.size 3 i0 _ 1 8 Try.underlying25 HI.out HI2.out HI3.out HI4.out rfl (by omega) _ y ((List.range y).map fun j => Value.int .i64 (As.bw V a k j)) (by rfl) (World.ownsRow.alloc ho3 _) ⟨w3.heap.size, 0, none⟩ 1 1 [.int .i64 x] (by rfl) (by rfl) (World.news_of_block (cs := #[.int .i64 x]) (t := 3) (fr := (0, 0)) (heap_alloc_new w3 _)) (by simp [Value.oneCell']) (by omega) (by unfold maxLen; omega) (by omega) (by simp; omega) (w3.heap.size + 1) (by simp) ?_; intro g cap w6 hown1 hgrow hat hglt))
            have HN := Lib.hid (HAPP.out g cap w6 _ hgrow hown1 hat)
            go_roundw
            case rel => exact ⟨y + 1, by omega, by go_num, HN⟩
            case measure => simp [intOf]; omega
          · obtain rfl : y = V.length := by omega
            obtain ⟨g', cap', hvr, -, -, -⟩ := own_block HR.out.ro (by omega)
            subst hvr
            have HROW := Lib.hid (fun g cap w9 o hg hown hat => T4.row (g := g) (cap := cap) (W' := w9) (o := o) HR.out (by omega) hg hown hat)
            have hot := HR.out.t.tw.own
            have hsz := hbW.size
            clear hbW
            go_wp2_with (at_builtin; go_loud (refine wpList_append_lies _ rfl _ _ _ rfl w1.heap.size 25 j0 _ 1 24 Try.underlying22 HJ.out HJ2.out HJ3.out HJ4.out rfl (by omega) _ k (rvs V.length H C k) (by rfl) (World.ownsRow.alloc hot _) ⟨wr.heap.size, 0, none⟩ 1 1 [.slice (some ⟨g', 0, none⟩) V.length cap'] (by rfl) (by rfl) (World.news_of_block (cs := #[.slice (some ⟨g', 0, none⟩) V.length cap']) (t := 25) (fr := (0, 0)) (heap_alloc_new wr _)) (by simp [Value.oneCell']) (by omega) (by unfold maxLen; omega) (by omega) (by simp; omega) (wr.heap.size + 1) (by simp) ?_; intro g cap w6 hown1 hgrow hat hglt))
            have HN := Lib.hid (HROW.out g cap w6 _ hgrow hown1 hat)
            go_roundw
            case rel => exact ⟨k + 1, by omega, by go_num, _, _, HN⟩
            case measure => simp [intOf]; omega
      · obtain rfl : k = V.length := by omega
        have hO := HT.out.tw
        obtain ⟨X, cc, hv⟩ := row_formT hO.own
        subst hv
        have HFF := Lib.hid (HFIN.out w1 X cc H C _ wr hO (keepB HB1.out hbW))
        clear hO hbW HT
        go_wp2_with fail
        go_ret2
        exact HFF.out
  · have HQ := Lib.hid (show ∀ w', Below w.heap.size w w' → VlQ V a w (.returned (.tuple #[.slice none 0 0, .int .i64 (As.gvld V a)])) w' from fun w' hb => by
      unfold VlQ
      rw [As.vlS_no h2]
      exact ⟨_, _, rfl, fun h => absurd h (by simp), hb⟩)
    generalize As.gvld V a = c at *
    clear h2 h hB hl hal
    go_enter Try.func12, Try.ntmps12
    go_upto_region 1 with fail
    refine at_box1 (fun V0 hbb b0 hsz => ?_)
    clear hsz
    have c0 := b0.c 0 rfl
    go_wp2_with fail
    refine (CV.out _ hbb).mono ?_
    rintro e w1 ⟨rfl, hb1⟩
    replace hbb := keepB hbb hb1
    replace c0 := keepC hb1 c0
    clear hb1 b0
    go_wp2_with fail
    refine (CV.out _ hbb).mono ?_
    rintro e w2 ⟨rfl, hb2⟩
    replace hbb := keepB hbb hb2
    clear hb2 c0
    go_wp2_with fail
    go_ret2
    exact HQ.out _ hbb
end Go.Proofs.Ytfpaefnaidppmaa
