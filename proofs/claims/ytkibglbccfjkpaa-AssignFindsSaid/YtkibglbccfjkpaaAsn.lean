/- Package assign: Harm. -/
import Derived.Test.YtkibglbccfjkpaaAsl
import Derived.Test.YtkibglbccfjkpaaAsj
import Derived.Deep.RegionHeld3
namespace Go.Proofs.Ytkibglbccfjkpaa
open Go.RowKit
namespace As
/-- The harm of an agent: the least price of its item. -/
def hmF (V : List (List Int)) (i : Nat) : Int := el (lp V (bst V)) ((bst V).getD i 0)
def hml (V : List (List Int)) : List Int := if chk V = 0 then ml V.length (hmF V) else []
theorem hm_eq {V : List (List Int)} (ok : Ok V) {i : Nat} (hi : i < V.length) : gw V i - (wr V (bst V) - vl V i ((bst V).getD i 0)) = hmF V i := by
  have ok' := zr_ok ok hi
  refine harm (bst_top ok) hi (V' := zr V i) (zr_len V i) (fun j => by rw [zr_vl V hi, if_pos rfl]) (fun k j hk => by rw [zr_vl V hi, if_neg hk]) (fun a ha => ?_) ?_
  · exact opt_ge _ _ a ha
  · have := fb_spec (zr V i) (List.range V.length) ok'.nn (by rw [zr_len]; simp)
    exact ⟨_, this.1, this.2⟩
theorem gw_bd {V : List (List Int)} (ok : Ok V) {i : Nat} (hi : i < V.length) : 0 ≤ gw V i ∧ gw V i ≤ 6000000 := by
  have ok' := zr_ok ok hi
  have h := mst_bd (V := zr V i) ok'.n6 (le_of_vl fun k j => (ok'.bd k j).2) (2 ^ (zr V i).length - 1)
  rw [mst_all ok'.n6, zr_len] at h
  exact h
theorem wr_top {V : List (List Int)} (ok : Ok V) : 0 ≤ wr V (bst V) ∧ wr V (bst V) ≤ 6000000 := by
  have h := mst_bd (V := V) ok.n6 (le_of_vl fun k j => (ok.bd k j).2) (2 ^ V.length - 1)
  rw [mst_all ok.n6, ← bst_wr ok] at h
  exact h
theorem hmF_bd {V : List (List Int)} (ok : Ok V) (i : Nat) (hi : i < V.length) : 0 ≤ hmF V i ∧ hmF V i ≤ 1000000 := by
  have ht := bst_top ok
  exact ⟨lp_nn ht _, lp_bound ht (by omega) ok.bd (own_lt ht hi)⟩
end As
/-- What Harm gives. -/
def HarmQ (V : List (List Int)) (w : World) (e : Ending) (w' : World) : Prop := ∃ A c, e = .returned (.tuple #[.slice A (As.hml V).length c, .int .i64 (As.chk V)]) ∧ IsI w' A (As.hml V) ∧ Below w.heap.size w w'
theorem cell_lt {w : World} {b o : Nat} {x : Value} (h : w.cell? ⟨b, o, none⟩ = some x) : b < w.heap.size := World.block_lt_of_cell? w _ h
/-- What holds in a round's region, whatever is stored at its own place. -/
structure HmS (w : World) (g n k ab ao : Nat) (F : Nat → Int) (a : List Nat) (v : World) : Prop where
  bb : Below w.heap.size w v
  lt : g < v.heap.size
  oth : ∀ j, j < n → j ≠ k → v.cell? ⟨g, j, none⟩ = some (.int .i64 (F j)) ∧ v.frozen? ⟨g, j, none⟩ = false
  ac : ∀ i, i < n → v.cell? ⟨ab, ao + i, none⟩ = some (.int .i64 ((a.getD i 0 : Nat) : Int))
theorem HmS.keep {w : World} {g n k ab ao : Nat} {F : Nat → Int} {a : List Nat} {v v' : World} (h : HmS w g n k ab ao F a v) (hb : Below v.heap.size v v') : HmS w g n k ab ao F a v' :=
  ⟨keepB h.bb hb, Nat.lt_of_lt_of_le h.lt hb.size, fun j hj hk => ⟨keepC hb (h.oth j hj hk).1, keepF hb (h.oth j hj hk).1 (h.oth j hj hk).2⟩, fun i hi => keepC hb (h.ac i hi)⟩
theorem HmS.set {w : World} {g n k ab ao : Nat} {F : Nat → Int} {a : List Nat} {v : World} (h : HmS w g n k ab ao F a v) (hw : w.heap.size ≤ g) (hab : ab < g) (x : Value) : HmS w g n k ab ao F a (v.setCell ⟨g, k, none⟩ x) :=
  ⟨h.bb.setCell hw _, by rw [World.size_setCell]; exact h.lt, fun j hj hk => ⟨by
    rw [World.cell?_setCell_other _ _ _ _ (by intro e; injection e with _ e; exact hk e.symm)]
    exact (h.oth j hj hk).1, froz_set (h.oth j hj hk).2 _ _⟩, fun i hi => cell_far (h.ac i hi) (by omega) _⟩
theorem HmS.bf {w : World} {g n k ab ao : Nat} {F G : Nat → Int} {a : List Nat} {v : World} (h : HmS w g n k ab ao F a v) (hc : v.cell? ⟨g, k, none⟩ = some (.int .i64 (G k))) (hf : v.frozen? ⟨g, k, none⟩ = false) (hG : ∀ j, j < n → j ≠ k → F j = G j) : BF v g n G := by
  refine ⟨h.lt, fun j x e => ?_⟩
  obtain ⟨hj, e2⟩ := List.getElem?_eq_some_iff.1 e
  simp only [List.length_map, List.length_range] at hj
  simp only [List.getElem_map, List.getElem_range] at e2
  subst e2
  by_cases e3 : j = k
  · subst e3; exact ⟨hc, hf⟩
  · rw [← hG j hj e3]; exact h.oth j hj e3
set_option maxRecDepth 100000 in
set_option maxHeartbeats 4000000 in
theorem asHarm_any (A : Option Addr) (cv : Nat) (V : List (List Int)) (w : World) (hl : V.length ≤ maxLen) (h : IsM w A V) :
    Calls Try.prog 16 #[.slice A V.length cv] w (HarmQ V w) := by
  have CK := asCheck_any A cv V w hl h
  rcases As.chk_cases V with h0 | ⟨h1, h2⟩
  · have ok := As.chk_ok h0
    have ht := As.bst_top ok
    have n1 := ok.n1
    have n6 := ok.n6
    have e1 : As.hml V = ml V.length (As.hmF V) := by unfold As.hml; rw [if_pos h0]
    have e3 := ht.len
    have e4 := (As.perm_lt ht.perm).2
    rw [h0] at CK
    have CF := Lib.hid (fun v (hv : Below w.heap.size w v) => firstBest_any A cv V v ok (h.keep hv))
    have CV := Lib.hid (fun v B c (hv : Below w.heap.size w v) (hI : IsI v B (As.al (As.bst V))) => asValueOf_any A cv V B c (As.bst V) v ok (h.keep hv) hI e3 e4)
    have CW := Lib.hid (fun v k (hk : k < V.length) (hv : Below w.heap.size w v) => gwo_any A cv V k v ok (h.keep hv) hk)
    have HQ := Lib.hid (show ∀ (g : Nat) (w' : World), BF w' g V.length (As.hmF V) → Below w.heap.size w w' → HarmQ V w (.returned (.tuple #[.slice (some ⟨g, 0, none⟩) V.length V.length, .int .i64 0])) w' from fun g w' hf hb => ⟨some ⟨g, 0, none⟩, V.length, by rw [e1, h0, ml_len], by
      have hI := hf.isI (fun k hk => by
        have q := As.hmF_bd ok k hk
        unfold I64; omega)
      rw [e1]; exact hI, hb⟩)
    have HEQ := Lib.hid (fun i (hi : i < V.length) => As.hm_eq ok hi)
    have HGB := Lib.hid (fun i (hi : i < V.length) => As.gw_bd ok hi)
    have hwb := As.wr_top ok
    have HOKV := Lib.hid ok
    have HE4 := Lib.hid e4
    have HE3 := Lib.hid e3
    obtain ⟨b, off, rfl, hrows⟩ := h (by omega)
    have HR := Lib.hid hrows
    have MK := ints_make V.length (by omega)
    have CK' := Lib.hid CK
    generalize As.wr V (As.bst V) = z at *
    clear CK h0 ok ht e1 e3 e4 h hrows hl
    go_enter Try.func16, Try.ntmps16
    go_wp2_with fail
    refine CK'.out.mono ?_
    rintro e w1 ⟨rfl, hb1⟩
    go_wp2_with fail
    refine (CF.out _ hb1).mono ?_
    rintro e w2 ⟨B, c, rfl, hI, hb2⟩
    have hbb := keepB hb1 hb2
    have CV' := Lib.hid (CV.out w2 B c hbb hI)
    have HI := Lib.hid hI
    clear hb1 hb2 hI CV CF CK'
    go_wp2_with fail
    refine CV'.out.mono ?_
    rintro e w3 ⟨rfl, hb3⟩
    have hbb3 := keepB hbb hb3
    obtain ⟨ab, ao, rfl, hac⟩ := (HI.out.keep hb3).1 (by rw [As.al_len, HE3.out]; omega)
    have HA := Lib.hid (show ∀ i, i < V.length → w3.cell? ⟨ab, ao + i, none⟩ = some (.int .i64 (((As.bst V).getD i 0 : Nat) : Int)) from fun i hi => by
      have := hac i (by rw [As.al_len, HE3.out]; omega)
      rwa [As.el_al] at this)
    have labs := cell_lt (HA.out 0 (by omega))
    clear hb3 hbb HI CV' hac
    obtain ⟨g, hg⟩ : ∃ g, w3.heap.size = g := ⟨_, rfl⟩
    have HG := Lib.hid hg
    have hwg : w.heap.size ≤ g := by have := hbb3.size; omega
    have HB3 := Lib.hid hbb3
    have HABG := Lib.hid (show ab < g by omega)
    clear labs
    clear hbb3 hg
    go_wp2_with fail
    clear MK
    rw [HG.out]
    go_loopw [25] (fun i W => ∃ k : Nat, k ≤ V.length ∧ i = .int .i64 k ∧ BF W g V.length (fun j => if j < k then As.hmF V j else 0) ∧ Below w.heap.size w W ∧ (∀ i, i < V.length → W.cell? ⟨ab, ao + i, none⟩ = some (.int .i64 (((As.bst V).getD i 0 : Nat) : Int)))) (fun i _ => V.length - (intOf i).toNat)
    case atStart => exact ⟨0, Nat.zero_le _, rfl, by rw [← HG.out]; exact (BF.new _ _ _).cong (fun k hk => by simp), below_al HB3.out _, fun i hi => cell_alloc (HA.out i hi) _⟩
    case round =>
      obtain ⟨k, hk, rfl, hbf, hbb, hac⟩ := hrel
      have HAC := Lib.hid hac
      clear hac
      by_cases hlt : k < V.length
      · obtain ⟨R, c', hc, hrl, hI⟩ := HR.out k hlt
        rw [HOKV.out.row k hlt] at hc
        have hj := HE4.out k hlt
        obtain ⟨rb, ro, rfl, hcs⟩ := hI.1 (by rw [HOKV.out.row k hlt]; omega)
        have q1 : w.cell? ⟨rb, ro + (As.bst V).getD k 0, none⟩ = some (.int .i64 (As.vl V k ((As.bst V).getD k 0))) := hcs _ (by rw [HOKV.out.row k hlt]; omega)
        have l1 := cell_lt hc
        have l2 := cell_lt q1
        have x1 := keepC hbb q1
        have x2 := keepC hbb hc
        have x3 := HAC.out k hlt
        have b1 := HOKV.out.bd k ((As.bst V).getD k 0)
        have b2 := HGB.out k hlt
        have HE := Lib.hid (HEQ.out k hlt)
        have CW' := Lib.hid (fun v => CW.out v k hlt)
        clear hcs hI hrl hc q1
        generalize (As.bst V).getD k 0 = o at x1 x2 x3 b1 HE hj
        generalize As.vl V k o = y at *
        generalize As.gw V k = H at *
        obtain ⟨b11, b12⟩ := b1
        obtain ⟨b21, b22⟩ := b2
        obtain ⟨z1, z2⟩ := hwb
        have i1 : (k : Int) < (V.length : Int) := by omega
        have i3 : (o : Int) < (V.length : Int) := by omega
        have a1 : IntKind.i64.wrap (z - y) = z - y := IntWalk.i64_in _ (by omega)
        have a2 : IntKind.i64.wrap (H - (z - y)) = H - (z - y) := IntWalk.i64_in _ (by omega)
        go_upto_region 10 with fail
        have f3 := hbf.f hlt
        have f4 := hbf.c hlt
        have labg := HABG.out
        have hS0 : HmS w g V.length k ab ao (fun j => if j < k then As.hmF V j else 0) (As.bst V) wr := ⟨hbb, hbf.lt, fun j hj hjk => ⟨hbf.c hj, hbf.f hj⟩, HAC.out⟩
        clear hbf hbb HAC x3
        go_region_held3 (fun v => HmS w g V.length k ab ao (fun j => if j < k then As.hmF V j else 0) (As.bst V) v ∧ v.cell? ⟨b, off + k, none⟩ = some (.slice (some ⟨rb, ro, none⟩) V.length c') ∧ v.cell? ⟨rb, ro + o, none⟩ = some (.int .i64 y) ∧ v.cell? ⟨g, k, none⟩ = some (vat v g k) ∧ v.frozen? ⟨g, k, none⟩ = false)
          (first
            | (exact ⟨hS0.keep (Below.refl _ _).drew, x2, x1, vat_of f4, f3⟩)
            | (obtain ⟨k0, k1, k2, k3, k4⟩ := ‹HmS _ _ _ _ _ _ _ _ _ ∧ _›; exact ⟨k0.keep hb3, keepC hb3 k1, keepC hb3 k2, vat_of (keepC hb3 k3), keepF hb3 k3 k4⟩)
            | (obtain ⟨k0, k1, k2, k3, k4⟩ := ‹HmS _ _ _ _ _ _ _ _ _ ∧ _›; exact ⟨k0.set hwg labg _, cell_far k1 (by omega) _, cell_far k2 (by omega) _, vat_set k3 _ _, froz_set k4 _ _⟩))
          (first
            | (go_at_call 38; obtain ⟨k0, k1, k2, k3, k4⟩ := ‹HmS _ _ _ _ _ _ _ _ _ ∧ _›; refine (CW'.out _ k0.bb).mono ?_; rintro e w5 ⟨rfl, hb3⟩))
        all_goals
          rename_i hHeld
          clear k0 k1 k2 k3 k4
          obtain ⟨k0, -, -, k3, k4⟩ := hHeld
          have hce := res_last k3
          have HBF := Lib.hid (k0.bf (G := fun j => if j < k + 1 then As.hmF V j else 0) (by rw [if_pos (by omega), ← HE.out]; exact hce) k4 (fun j hj hjk => by
            by_cases e : j < k
            · rw [if_pos e, if_pos (by omega)]
            · rw [if_neg e, if_neg (by omega)]))
          have hbb2 := k0.bb
          have HAC2 := Lib.hid k0.ac
          clear k0 k3 k4 hce a1 a2 x1 x2 f3 f4
          go_wp2_with fail
          go_roundw
          case rel => exact ⟨k + 1, by omega, by go_num, HBF.out, hbb2, HAC2.out⟩
          case measure => simp [intOf]; omega
      · obtain rfl : k = V.length := by omega
        go_wp2_with fail
        go_ret2
        exact HQ.out g _ (hbf.cong (fun j hj => by rw [if_pos hj])) hbb
  · have HQ := Lib.hid (show ∀ (w' : World), Below w.heap.size w w' → HarmQ V w (.returned (.tuple #[.slice none 0 0, .int .i64 (As.chk V)])) w' from fun w' hb => ⟨none, 0, by unfold As.hml; rw [if_neg h2]; rfl, by unfold As.hml; rw [if_neg h2]; exact isI_nil _ _, hb⟩)
    generalize As.chk V = c at *
    have CK' := Lib.hid CK
    clear CK h2 h hl
    go_enter Try.func16, Try.ntmps16
    go_wp2_with fail
    refine CK'.out.mono ?_
    rintro e w1 ⟨rfl, hb1⟩
    go_wp2_with fail
    go_ret2
    exact HQ.out w1 hb1
end Go.Proofs.Ytkibglbccfjkpaa
