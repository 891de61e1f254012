/- Package assign: firstBest. Package assign: leastPrices. Package assign: Best, Prices. Package assign: slices.Clone of rows, greatestWithout. Mathematics of layer 14: which leases are valid, gains, envies, the even lease. The reference of layer 13: Twin of any lists. Slices of slices of ints of the call's own; the reference's Twin of layer 13. Package assign: firstBest, Best: where the result lies. Tables of ints that are made row by row, and filled. -/
import Derived.Test.YtncmffhoodfhjaaYe
import Derived.Test.YtncmffhoodfhjaaYd
import Derived.Test.YtncmffhoodfhjaaYb
import Derived.Lib.Slices
namespace Go.Proofs.Ytncmffhoodfhjaa
open Go.RowKit
namespace As
/-- The best assignment. -/
def bst (V : List (List Int)) : List Nat := fb V (List.range V.length)
/-- Does an item leave the greatest value possible? -/
def hit (V : List (List Int)) (i s m : Nat) : Prop := s.testBit m = true ∧ vl V i m + mst V (wo s m) = mst V s
theorem mst_at {V : List (List Int)} {s i : Nat} (h : (its V.length s).length + i = V.length) : mst V s = opt (V.drop i) (its V.length s) := by
  unfold mst; rw [show V.length - (its V.length s).length = i by omega]
theorem its_sorted (n s : Nat) : (its n s).Pairwise (· < ·) := List.Pairwise.filter _ List.pairwise_lt_range
theorem fb_step {V : List (List Int)} (n6 : V.length ≤ 6) {i s m : Nat} (hs : s < 64) (hi : i < V.length) (hl : (its V.length s).length + i = V.length) (hm : m < V.length) (h : hit V i s m) (hno : ∀ j, j < m → ¬ hit V i s j) :
    fb (V.drop i) (its V.length s) = m :: fb (V.drop (i + 1)) (its V.length (wo s m)) ∧ (its V.length (wo s m)).length + (i + 1) = V.length := by
  have e2 := fun j hj hb => its_erase s hs V.length (by omega) j hj hb
  have e3 := fun j hj hb => its_wo_len s hs V.length (by omega) j hj hb
  have key : ∀ j, j ∈ its V.length s → (el V[i] j + opt (V.drop (i + 1)) ((its V.length s).erase j) = opt (V[i] :: V.drop (i + 1)) (its V.length s) ↔ hit V i s j) := by
    intro j hj
    have hj' := mem_its.1 hj
    unfold hit
    rw [mst_at hl, mst_at (i := i + 1) (by have := e3 j hj'.1 hj'.2; omega), e2 j hj'.1 hj'.2, List.drop_eq_getElem_cons hi]
    have e1 : vl V i j = el V[i] j := by unfold vl; rw [getD_lt hi]
    rw [e1]
    exact ⟨fun h => ⟨hj'.2, h⟩, fun h => h.2⟩
  have hmem : m ∈ its V.length s := mem_its.2 ⟨hm, h.1⟩
  have hfind : (its V.length s).find? (fun j => decide (el V[i] j + opt (V.drop (i + 1)) ((its V.length s).erase j) = opt (V[i] :: V.drop (i + 1)) (its V.length s))) = some m := by
    obtain ⟨L1, L2, hsp, hna⟩ := List.eq_append_cons_of_mem hmem
    rw [List.find?_eq_some_iff_append]
    refine ⟨by simpa using (key m hmem).2 h, L1, L2, hsp, fun a ha => ?_⟩
    have hsr := its_sorted V.length s
    have hain : a ∈ its V.length s := by rw [hsp]; simp [ha]
    rw [hsp] at hsr
    have := (List.pairwise_append.1 hsr).2.2 a ha m (by simp)
    have hn := hno a this
    have := mt (key a hain).1 hn
    simpa using this
  refine ⟨?_, by have := e3 m hm h.1; omega⟩
  rw [List.drop_eq_getElem_cons hi]
  simp only [fb]
  rw [hfind]
  simp only
  rw [e2 m hm h.1]
theorem fb_hit {V : List (List Int)} (n6 : V.length ≤ 6) (hn : Nn V) {i s : Nat} (hs : s < 64) (hi : i < V.length) (hl : (its V.length s).length + i = V.length) : ∃ m, m < V.length ∧ hit V i s m := by
  have hL : its V.length s ≠ [] := by intro e; rw [e] at hl; simp at hl; omega
  obtain ⟨j, hj, he⟩ := opt_at (r := V[i]) (R := V.drop (i + 1)) (hn _ (List.getElem_mem hi)) hL
  have hj' := mem_its.1 hj
  refine ⟨j, hj'.1, hj'.2, ?_⟩
  have e3 := its_wo_len s hs V.length (by omega) j hj'.1 hj'.2
  rw [mst_at hl, mst_at (i := i + 1) (by omega), ← its_erase s hs V.length (by omega) j hj'.1 hj'.2, List.drop_eq_getElem_cons hi]
  have e1 : vl V i j = el V[i] j := by unfold vl; rw [getD_lt hi]
  rw [e1]
  exact he
theorem al_snoc (T : List Nat) (m : Nat) : al (T ++ [m]) = al T ++ [(m : Int)] := by unfold al; rw [List.map_append]; rfl
end As
/-- firstBest between two rows. -/
structure FbI (V : List (List Int)) (w W : World) (B N i s : Nat) (v : Value) : Prop where
  lt : s < N
  len : (As.its V.length s).length + i = V.length
  T : ∃ T : List Nat, T.length = i ∧ T ++ As.fb (V.drop i) (As.its V.length s) = As.bst V ∧ Own W B v (As.al T)
  bf : BF W w.heap.size N (As.mst V)
  bb : Below w.heap.size w W
  hB : B ≤ W.heap.size
  gB : w.heap.size < B
theorem FbI.keep {V : List (List Int)} {w W W' : World} {B N i s : Nat} {v : Value} (h : FbI V w W B N i s v) (hb : Below W.heap.size W W') : FbI V w W' B N i s v := by
  obtain ⟨T, h1, h2, h3⟩ := h.T
  exact ⟨h.lt, h.len, ⟨T, h1, h2, h3.keepB hb⟩, h.bf.keep hb, keepB h.bb hb, Nat.le_trans h.hB hb.size, h.gB⟩
/-- What firstBest gives. -/
def FbQ (V : List (List Int)) (w : World) (e : Ending) (w' : World) : Prop := ∃ A c, e = .returned (.slice A V.length c) ∧ IsI w' A (As.al (As.bst V)) ∧ Below w.heap.size w w'
set_option linter.unusedSimpArgs false in
set_option maxRecDepth 100000 in
set_option maxHeartbeats 4000000 in
theorem firstBest_any (A : Option Addr) (cv : Nat) (V : List (List Int)) (w : World) (ok : As.Ok V) (h : IsM w A V) :
    Calls Try.prog 48 #[.slice A V.length cv] w (FbQ V w) := by
  have n1 := ok.n1
  have n6 := ok.n6
  have CG := Lib.hid (greatest_any A cv V w ok h)
  obtain ⟨p1, p2, -⟩ := As.pow_bd V.length (by omega)
  have hall := As.its_all V.length (by omega)
  obtain ⟨b, off, rfl, hrows⟩ := h (by omega)
  have HR := Lib.hid hrows
  have HOKV := Lib.hid ok
  clear h hrows ok
  generalize 2 ^ V.length = N at *
  have HALL := Lib.hid hall
  clear hall
  obtain ⟨i0, hi0, hz0, hz1, hz2⟩ := info_parts intInfo
  have HI := Lib.hid hi0
  have HI2 := Lib.hid hz0
  have HI3 := Lib.hid hz1
  have HI4 := Lib.hid hz2
  clear hi0 hz0 hz1 hz2
  have e1 : (N : Int) - 1 = ((N - 1 : Nat) : Int) := by omega
  go_enter Try.func48, Try.ntmps48
  go_wp2_with fail
  refine CG.out.mono ?_
  rintro e w1 ⟨rfl, hbf, hbb⟩
  obtain ⟨B, hBe⟩ : ∃ B, w1.heap.size = B := ⟨_, rfl⟩
  have hF : FbI V w w1 B N 0 (N - 1) (.slice none 0 0) := ⟨by omega, by rw [HALL.out]; simp, ⟨[], rfl, by rw [HALL.out]; rfl, Own.nil_ _ _⟩, hbf, hbb, by omega, by have := hbf.lt; omega⟩
  have HF := Lib.hid hF
  clear hF hbf hbb hBe CG HALL
  go_wp2_with fail
  clear e1
  go_loopw [4, 5, 18] (fun l v i W => ∃ k s : Nat, k ≤ V.length ∧ i = .int .i64 k ∧ l = .int .i64 s ∧ FbI V w W B N k s v) (fun _ _ i _ => V.length - (intOf i).toNat)
  case atStart => exact ⟨0, N - 1, Nat.zero_le _, rfl, rfl, HF.out⟩
  case round =>
    clear HF
    obtain ⟨k, s, hk, rfl, rfl, hF⟩ := hrel
    by_cases hlt : k < V.length
    · have hs64 : s < 64 := by have := hF.lt; omega
      obtain ⟨R, c, hc, hrl, hI⟩ := HR.out k hlt
      rw [HOKV.out.row k hlt] at hc
      obtain ⟨rb, ro, rfl, hcs⟩ := hI.1 (by rw [HOKV.out.row k hlt]; omega)
      have HC := Lib.hid (show ∀ j, j < V.length → w.cell? ⟨rb, ro + j, none⟩ = some (.int .i64 (As.vl V k j)) from fun j hj => hcs j (by rw [HOKV.out.row k hlt]; omega))
      have c1 := keepC hF.bb hc
      have HF := Lib.hid hF
      clear hcs hI hrl hc hF
      go_wp2_with fail
      clear c1
      go_loopw [4, 5, 24] (fun l v i W => l = .int .i64 s ∧ v = u5 ∧ ∃ m : Nat, m ≤ V.length ∧ i = .int .i64 m ∧ Hid (∀ j, j < m → ¬ As.hit V k s j) ∧ FbI V w W B N k s u5) (fun _ _ i _ => V.length - (intOf i).toNat)
      case atStart => exact ⟨rfl, rfl, 0, Nat.zero_le _, rfl, Lib.hid (fun j hj => absurd hj (Nat.not_lt_zero _)), HF.out⟩
      case round =>
        clear HF
        obtain ⟨rfl, rfl, m, hm, rfl, HNO, hF⟩ := hrel
        by_cases hltm : m < V.length
        · have c2 := keepC hF.bb (HC.out m hltm)
          have hW := without_any s m wr hs64 (by omega)
          have HNX := Lib.hid (fun (hp : ¬ As.hit V k s m) j (hj : j < m + 1) => by
            rcases Nat.lt_or_ge j m with h1 | h1
            · exact HNO.out j h1
            · obtain rfl : j = m := by omega
              exact hp)
          cases htb : s.testBit m
          · rw [As.wo_ne s hs64 m (by omega) htb] at hW
            have HW := Lib.hid hW
            have HT := Lib.hid (HNX.out (fun h => by have := h.1; rw [htb] at this; cases this))
            have d1 : ((s : Int) != s) = false := by simp
            have HF := Lib.hid hF
            generalize As.vl V k m = x at *
            clear hW htb hF HNX HNO
            go_wp2_with fail
            refine HW.out.mono ?_
            rintro e w2 ⟨rfl, hb1⟩
            have HF' := Lib.hid (HF.out.keep hb1)
            clear hb1 HF
            go_wp2_with fail
            go_quiet (fail)
            go_wp2_with fail
            go_roundw
            case rel => exact ⟨rfl, rfl, m + 1, by omega, by go_num, HT, HF'.out.keep (below_drewN (Below.refl _ _) _)⟩
            case measure => simp [intOf]; omega
          · have hwl := As.wo_lt s hs64 m (by omega) htb
            have HSTEP := Lib.hid (fun hv => As.fb_step n6 hs64 hlt hF.len hltm (show As.hit V k s m from ⟨htb, hv⟩) HNO.out)
            have HNY := Lib.hid (fun (hv : ¬ As.vl V k m + As.mst V (As.wo s m) = As.mst V s) => HNX.out (fun h => hv h.2))
            have b1 := HOKV.out.bd k m
            have b2 := As.mst_bd n6 (As.le_of_vl fun i j => (HOKV.out.bd i j).2) (As.wo s m)
            have b3 := As.mst_bd n6 (As.le_of_vl fun i j => (HOKV.out.bd i j).2) s
            obtain ⟨r, hr⟩ : ∃ r, As.wo s m = r := ⟨_, rfl⟩
            rw [hr] at hW hwl HSTEP HNY b2
            have hsN := hF.lt
            have HW := Lib.hid hW
            have HF := Lib.hid hF
            have d1 : ((r : Int) != s) = true := by rw [bne_iff_ne]; omega
            generalize hL : As.mst V s = L at *
            generalize hM : As.mst V r = M at *
            have HLM := Lib.hid (And.intro hL hM)
            generalize As.vl V k m = x at *
            clear hW htb hF HNX HNO hr hL hM
            obtain ⟨b11, b12⟩ := b1
            obtain ⟨b21, b22⟩ := b2
            obtain ⟨b31, b32⟩ := b3
            go_wp2_with fail
            refine HW.out.mono ?_
            rintro e w2 ⟨rfl, hb1⟩
            have HF' := Lib.hid (HF.out.keep hb1)
            clear hb1 HF
            have x1 := HF'.out.bf.c (k := s) hsN
            have x2 := HF'.out.bf.c (k := r) (by omega)
            rw [HLM.out.1] at x1
            rw [HLM.out.2] at x2
            have i1 : (s : Int) < (N : Int) := by omega
            have i2 : (r : Int) < (N : Int) := by omega
            have a1 : IntKind.i64.wrap (x + M) = x + M := IntWalk.i64_in _ (by omega)
            by_cases hv : x + M = L
            · have d2 : ((x + M) == L) = true := by rw [beq_iff_eq]; exact hv
              obtain ⟨q1, q2⟩ := HSTEP.out hv
              have Q1 := Lib.hid q1
              have Q2 := Lib.hid q2
              clear q1 q2 hv HSTEP HNY HLM
              go_wp2_with fail
              go_quiet (fail)
              go_upto_region 12 with fail
              refine at_worldQ (fun v => FbI V w v B N k s u5) (HF'.out.keep (below_drewN (Below.refl _ _) _)) (fun W5 hF5 => ?_)
              clear x1 x2 a1 d2 d1 HF' HW
              obtain ⟨T, hT1, hT2, hO⟩ := hF5.T
              have HT1 := Lib.hid hT1
              have HT2 := Lib.hid hT2
              have hBW := hF5.hB
              unfold Own at hO
              rw [As.al_len, hT1] at hO
              have HF5 := Lib.hid hF5
              clear hT1 hT2 hF5
              go_wp2_with (at_builtin; go_loud (refine wpList_append_lies _ rfl _ _ _ rfl B 3 i0 _ 1 8 Try.underlying25 HI.out HI2.out HI3.out HI4.out rfl (by omega) _ k ((As.al T).map (Value.int .i64)) (by rfl) (World.ownsRow.alloc hO _) ⟨W5.heap.size, 0, none⟩ 1 1 [.int .i64 (m : Int)] (by rfl) (by rfl) (World.news_of_block (cs := #[.int .i64 (m : Int)]) (t := 3) (fr := (0, 0)) (heap_alloc_new W5 _)) (by simp [Value.oneCell']) (by omega) (by unfold maxLen; omega) (by omega) (by simp; omega) (W5.heap.size + 1) (by simp) ?_; intro g cap w6 hown1 hgrow hat hglt))
              all_goals
                refine ⟨⟨k + 1, r, by omega, by go_num, rfl, ?_⟩, by simp [intOf]; omega⟩
                have hgB := HF5.out.gB
                have hsz := HF5.out.bb.size
                refine ⟨by omega, Q2.out, ⟨T ++ [m], by rw [List.length_append, HT1.out]; rfl, ?_, ?_⟩, (HF5.out.bf.al _).grown hgrow (fun e => ?_), (below_al HF5.out.bb _).grown hgrow (by simp; omega) (fun j ej => ?_), ?_, hgB⟩
                · rw [List.append_assoc, ← HT2.out, Q1.out]
                  rfl
                · unfold Own
                  rw [As.al_snoc, List.length_append, As.al_len, HT1.out, List.map_append]
                  exact hown1
                · have := (World.ownsRow.lt hO _ e).1
                  omega
                · have := (World.ownsRow.lt hO j ej).1
                  omega
                · have := hgrow.size
                  simp at this
                  omega
            · have d2 : ((x + M) == L) = false := by rw [beq_eq_false_iff_ne]; exact hv
              have HT := Lib.hid (HNY.out hv)
              clear hv HSTEP HNY HLM
              go_wp2_with fail
              go_quiet (fail)
              go_wp2_with fail
              clear x1 x2 a1
              go_roundw
              case rel => exact ⟨rfl, rfl, m + 1, by omega, by go_num, HT, HF'.out.keep (below_drewN (Below.refl _ _) _)⟩
              case measure => simp [intOf]; omega
        · exfalso
          obtain ⟨j, hj, hh⟩ := As.fb_hit n6 HOKV.out.nn hs64 hlt hF.len
          exact HNO.out j (by omega) hh
    · obtain rfl : k = V.length := by omega
      obtain ⟨T, h1, h2, h3⟩ := hF.T
      have hl0 : As.its V.length s = [] := List.eq_nil_of_length_eq_zero (by have := hF.len; omega)
      rw [hl0, List.drop_length] at h2
      have h2' : T = As.bst V := by simpa [As.fb] using h2
      obtain ⟨A', cc, rfl⟩ := h3.form
      rw [As.al_len, h1] at h3 ⊢
      have hI := h3.isI (fun x hx => by
        obtain ⟨j, hj, rfl⟩ := List.mem_map.1 hx
        have hpm := (As.fb_spec V (List.range V.length) HOKV.out.nn (by simp)).1
        rw [h2'] at hj
        have := hpm.mem_iff.1 hj
        have : j < V.length := by simpa using this
        unfold I64; omega)
      rw [h2'] at hI
      have HI9 := Lib.hid hI
      have hbb := hF.bb
      clear hI h3 h2' h2 hl0 hF h1
      go_wp2_with fail
      exact bodyPost_ret (v := .slice A' V.length cc) (by simp [results, Try.results48, go_sem]) rfl ⟨A', cc, rfl, HI9.out, hbb⟩
end Go.Proofs.Ytncmffhoodfhjaa
namespace Go.Proofs.Ytncmffhoodfhjaa
open Go.RowKit
namespace As
theorem el_rx {V : List (List Int)} {b : List Nat} {p : List Int} {i j : Nat} (h : j < p.length) (k : Nat) : el (rx V b i p j) k = if k = j then max (el p j) (el p (b.getD i 0) + vl V i j - vl V i (b.getD i 0)) else el p k := by
  unfold rx; exact el_set h
/-- A state of the prices. -/
structure St (V : List (List Int)) (b : List Nat) (P : List Int) : Prop where
  pr : Pr V b P
  nn : ∀ y, 0 ≤ el P y
theorem St.le {V : List (List Int)} {b : List Nat} {P Q : List Int} (h : St V b P) (hq : Pr V b Q) (hl : Le P Q) : St V b Q := ⟨hq, fun y => Int.le_trans (h.nn y) (hl y)⟩
theorem st_rnds {V : List (List Int)} {b : List Nat} (hb : Top V b) (k : Nat) : St V b (rnds V b k) := ⟨rnds_pr hb k, rnds_nn hb k⟩
theorem st_rnd {V : List (List Int)} {b : List Nat} (hb : Top V b) {P : List Int} (h : St V b P) {k : Nat} (hk : k ≤ V.length) : St V b (rnd V b P k) := h.le (rnd_pr hb h.pr k hk) (rnd_le hb h.pr k hk)
theorem st_row {V : List (List Int)} {b : List Nat} (hb : Top V b) {P : List Int} (h : St V b P) {i k : Nat} (hi : i < V.length) (hk : k ≤ V.length) : St V b (row V b P i k) := h.le (row_pr hb h.pr hi k hk) (row_le hb h.pr hi k hk)
theorem st_bd {V : List (List Int)} {b : List Nat} (hb : Top V b) {P : List Int} (h : St V b P) (h0 : 0 < V.length) (hV : ∀ i j, 0 ≤ vl V i j ∧ vl V i j ≤ 1000000) {y : Nat} (hy : y < V.length) : 0 ≤ el P y ∧ el P y ≤ 1000000 :=
  ⟨h.nn y, Int.le_trans (pr_le hb h.pr hy) (lp_bound hb h0 hV hy)⟩
end As
set_option maxRecDepth 100000 in
set_option maxHeartbeats 4000000 in
theorem leastPrices_any (A : Option Addr) (cv : Nat) (V : List (List Int)) (B : Option Addr) (ca : Nat) (a : List Nat) (w : World) (ok : As.Ok V) (ht : As.Top V a) (h : IsM w A V) (hB : IsI w B (As.al a)) :
    Calls Try.prog 80 #[.slice A V.length cv, .slice B V.length ca] w fun e w' => e = .returned (.slice (some ⟨w.heap.size, 0, none⟩) V.length V.length) ∧ BF w' w.heap.size V.length (As.el (As.lp V a)) ∧ Below w.heap.size w w' := by
  have n1 := ok.n1
  have n6 := ok.n6
  obtain ⟨hl, hlt⟩ := As.perm_lt ht.perm
  obtain ⟨b, off, rfl, hrows⟩ := h (by omega)
  obtain ⟨ab, ao, rfl, hac⟩ := hB.1 (by rw [As.al_len]; omega)
  have HR := Lib.hid hrows
  have HA := Lib.hid (show ∀ i, i < V.length → w.cell? ⟨ab, ao + i, none⟩ = some (.int .i64 ((a.getD i 0 : Nat) : Int)) from fun i hi => by
    have := hac i (by rw [As.al_len]; omega)
    rwa [As.el_al] at this)
  have HLT := Lib.hid hlt
  have HOKV := Lib.hid ok
  have HTOP := Lib.hid ht
  have MK := ints_make V.length (by omega)
  clear h hrows ok hB hac hl hlt ht
  go_enter Try.func80, Try.ntmps80
  go_wp2_with fail
  clear MK
  go_loopw [15] (fun i W => ∃ t : Nat, t ≤ V.length ∧ i = .int .i64 t ∧ BF W w.heap.size V.length (As.el (As.rnds V a t)) ∧ Below w.heap.size w W) (fun i _ => V.length - (intOf i).toNat)
  case atStart => exact ⟨0, Nat.zero_le _, rfl, (BF.new _ _ _).cong (fun k hk => by simp [As.rnds, As.el, hk]), below_al (Below.refl _ _) _⟩
  case round =>
    obtain ⟨t, htl, rfl, hbf, hbb⟩ := hrel
    by_cases hltt : t < V.length
    · have HST := Lib.hid (As.st_rnds HTOP.out t)
      have HNEXT := Lib.hid (show As.rnd V a (As.rnds V a t) V.length = As.rnds V a (t + 1) from rfl)
      have HZ := Lib.hid (show As.rnd V a (As.rnds V a t) 0 = As.rnds V a t from rfl)
      generalize As.rnds V a t = P0 at *
      go_wp2_with fail
      go_loopw [19] (fun i W => ∃ k : Nat, k ≤ V.length ∧ i = .int .i64 k ∧ BF W w.heap.size V.length (As.el (As.rnd V a P0 k)) ∧ Below w.heap.size w W) (fun i _ => V.length - (intOf i).toNat)
      case atStart => exact ⟨0, Nat.zero_le _, rfl, by rw [HZ.out]; exact hbf, hbb⟩
      case round =>
        clear hbf hbb
        obtain ⟨k, hk, rfl, hbf, hbb⟩ := hrel
        by_cases hltk : k < V.length
        · have HST1 := Lib.hid (As.st_rnd HTOP.out HST.out (k := k) (by omega))
          have HNEXT1 := Lib.hid (As.rnd_succ V a P0 k)
          have HZ1 := Lib.hid (show As.row V a (As.rnd V a P0 k) k 0 = As.rnd V a P0 k from rfl)
          generalize As.rnd V a P0 k = P1 at *
          obtain ⟨R, c, hc, hrl, hI⟩ := HR.out k hltk
          rw [HOKV.out.row k hltk] at hc
          have hj := HLT.out k hltk
          obtain ⟨rb, ro, rfl, hcs⟩ := hI.1 (by rw [HOKV.out.row k hltk]; omega)
          have HCS := Lib.hid (show ∀ j, j < V.length → w.cell? ⟨rb, ro + j, none⟩ = some (.int .i64 (As.vl V k j)) from fun j hj => hcs j (by rw [HOKV.out.row k hltk]; omega))
          have HC1 := Lib.hid hc
          have c1 := keepC hbb (HA.out k hltk)
          have c2 := keepC hbb hc
          have b2 := HOKV.out.bd k (a.getD k 0)
          have q1 := HCS.out (a.getD k 0) hj
          have HRX := Lib.hid (fun (P : List Int) (m : Nat) (hm : m < P.length) => As.el_rx (V := V) (b := a) (p := P) (i := k) (j := m) hm)
          clear hcs hI hrl hc
          generalize hown : a.getD k 0 = o at *
          generalize As.vl V k o = y at *
          have Q1 := Lib.hid q1
          clear q1 hown
          go_wp2_with fail
          clear c1 c2
          go_loopw [29] (fun i W => ∃ m : Nat, m ≤ V.length ∧ i = .int .i64 m ∧ BF W w.heap.size V.length (As.el (As.row V a P1 k m)) ∧ Below w.heap.size w W) (fun i _ => V.length - (intOf i).toNat)
          case atStart => exact ⟨0, Nat.zero_le _, rfl, by rw [HZ1.out]; exact hbf, hbb⟩
          case round =>
            clear hbf hbb
            obtain ⟨m, hm, rfl, hbf, hbb⟩ := hrel
            by_cases hltm : m < V.length
            · have hst := As.st_row HTOP.out HST1.out (i := k) (k := m) hltk (by omega)
              have HNX := Lib.hid (show ∀ i, As.el (As.row V a P1 k (m + 1)) i = if i = m then max (As.el (As.row V a P1 k m) m) (As.el (As.row V a P1 k m) o + As.vl V k m - y) else As.el (As.row V a P1 k m) i from fun i => by
                rw [As.row_succ]
                exact HRX.out _ m (by rw [hst.pr.len]; exact hltm) i)
              have e1 := As.st_bd HTOP.out hst (by omega) HOKV.out.bd hltm
              have e2 := As.st_bd HTOP.out hst (by omega) HOKV.out.bd hj
              have e3 := HOKV.out.bd k m
              have x1 := hbf.c hltm
              have x2 := hbf.c hj
              have x3 := hbf.f hltm
              have x4 := keepC hbb (HCS.out m hltm)
              have x5 := keepC hbb HC1.out
              have x6 := keepC hbb Q1.out
              clear hst
              generalize As.row V a P1 k m = P at *
              generalize As.el P m = pm at *
              generalize As.el P o = po1 at *
              generalize As.vl V k m = x at *
              obtain ⟨b21, b22⟩ := b2
              obtain ⟨e11, e12⟩ := e1
              obtain ⟨e21, e22⟩ := e2
              obtain ⟨e31, e32⟩ := e3
              have i1 : (k : Int) < (V.length : Int) := by omega
              have i2 : (m : Int) < (V.length : Int) := by omega
              have i3 : (o : Int) < (V.length : Int) := by omega
              have a1 : IntKind.i64.wrap (po1 + x) = po1 + x := IntWalk.i64_in _ (by omega)
              have a2 : IntKind.i64.wrap (po1 + x - y) = po1 + x - y := IntWalk.i64_in _ (by omega)
              go_wp2_with fail
              go_big_region
              clear a1 a2 x1 x2 x3 x4 x5 x6
              go_wp2_with fail
              go_roundw
              case rel => exact ⟨m + 1, by omega, by go_num, ((hbf.set m _).drew).cong (fun i _ => by rw [imax]; exact (HNX.out i).symm), (hbb.setCell (Nat.le_refl _) _).drew⟩
              case measure => simp [intOf]; omega
            · obtain rfl : m = V.length := by omega
              go_wp2_with fail
              go_roundw
              case rel => exact ⟨k + 1, by omega, by go_num, by rw [HNEXT1.out]; exact hbf, hbb⟩
              case measure => simp [intOf]; omega
        · obtain rfl : k = V.length := by omega
          go_wp2_with fail
          go_roundw
          case rel => exact ⟨t + 1, by omega, by go_num, by rw [← HNEXT.out]; exact hbf, hbb⟩
          case measure => simp [intOf]; omega
    · obtain rfl : t = V.length := by omega
      go_wp2_with fail
      go_ret
      exact ⟨rfl, hbf, hbb⟩
end Go.Proofs.Ytncmffhoodfhjaa
namespace Go.Proofs.Ytncmffhoodfhjaa
open Go.RowKit
namespace As
theorem bst_top {V : List (List Int)} (ok : Ok V) : Top V (bst V) := by
  have h := fb_spec V (List.range V.length) ok.nn (by simp)
  exact ⟨h.1, fun a ha => by rw [show wr V (bst V) = opt V (List.range V.length) from h.2]; exact opt_ge V _ a ha⟩
theorem bst_wr {V : List (List Int)} (ok : Ok V) : wr V (bst V) = opt V (List.range V.length) := (fb_spec V (List.range V.length) ok.nn (by simp)).2
/-- Best's list and value, and Prices' list. -/
def bsl (V : List (List Int)) : List Nat := if chk V = 0 then bst V else []
def bsv (V : List (List Int)) : Int := if chk V = 0 then wr V (bst V) else 0
def prl (V : List (List Int)) : List Int := if chk V = 0 then lp V (bst V) else []
theorem ml_el {zs : List Int} {n : Nat} (h : zs.length = n) : (List.range n).map (el zs) = zs := by
  subst h
  refine List.ext_getElem (by simp) fun i h1 h2 => ?_
  simp only [List.getElem_map, List.getElem_range]
  unfold el; simp [h2]
end As
/-- What Best gives. -/
def BestQ (V : List (List Int)) (w : World) (e : Ending) (w' : World) : Prop := ∃ A c, e = .returned (.tuple #[.slice A (As.bsl V).length c, .int .i64 (As.bsv V), .int .i64 (As.chk V)]) ∧ IsI w' A (As.al (As.bsl V)) ∧ Below w.heap.size w w'
/-- What Prices gives. -/
def PricesQ (V : List (List Int)) (w : World) (e : Ending) (w' : World) : Prop := ∃ A c, e = .returned (.tuple #[.slice A (As.prl V).length c, .int .i64 (As.chk V)]) ∧ IsI w' A (As.prl V) ∧ Below w.heap.size w w'
theorem isI_nil (w : World) (A : Option Addr) : IsI w A [] := ⟨fun h => absurd h (by simp), by simp⟩
set_option maxHeartbeats 2000000 in
theorem asBest_any (A : Option Addr) (cv : Nat) (V : List (List Int)) (w : World) (hl : V.length ≤ maxLen) (h : IsM w A V) :
    Calls Try.prog 15 #[.slice A V.length cv] w (BestQ V w) := by
  have CK := asCheck_any A cv V w hl h
  rcases As.chk_cases V with h0 | ⟨h1, h2⟩
  · have ok := As.chk_ok h0
    have ht := As.bst_top ok
    have e1 : As.bsl V = As.bst V := by unfold As.bsl; rw [if_pos h0]
    have e2 : As.bsv V = As.wr V (As.bst V) := by unfold As.bsv; rw [if_pos h0]
    have e3 := ht.len
    rw [h0] at CK
    have CF := Lib.hid (fun v (hv : Below w.heap.size w v) => firstBest_any A cv V v ok (h.keep hv))
    have CV := Lib.hid (fun v B c (hv : Below w.heap.size w v) (hI : IsI v B (As.al (As.bst V))) => asValueOf_any A cv V B c (As.bst V) v ok (h.keep hv) hI e3 (fun i hi => by exact (As.perm_lt ht.perm).2 i hi))
    have HQ := Lib.hid (show ∀ (B : Option Addr) (c : Nat) (w' : World), IsI w' B (As.al (As.bst V)) → Below w.heap.size w w' → BestQ V w (.returned (.tuple #[.slice B V.length c, .int .i64 (As.wr V (As.bst V)), .int .i64 0])) w' from fun B c w' hI hb => ⟨B, c, by rw [e1, e2, h0, e3], by rw [e1]; exact hI, hb⟩)
    generalize As.wr V (As.bst V) = z at *
    have CK' := Lib.hid CK
    clear CK h0 ok ht e1 e2 e3 h
    go_enter Try.func15, Try.ntmps15
    go_wp2_with fail
    refine CK'.out.mono ?_
    rintro e w1 ⟨rfl, hb1⟩
    go_wp2_with fail
    refine (CF.out _ hb1).mono ?_
    rintro e w2 ⟨B, c, rfl, hI, hb2⟩
    have hbb := keepB hb1 hb2
    have CV' := Lib.hid (CV.out w2 B c hbb hI)
    have HI := Lib.hid hI
    clear hb1 hb2 hI CV
    go_wp2_with fail
    refine CV'.out.mono ?_
    rintro e w3 ⟨rfl, hb3⟩
    have hbb3 := keepB hbb hb3
    have HI3 := Lib.hid (HI.out.keep hb3)
    clear hb3 hbb HI CV'
    go_wp2_with fail
    go_ret3
    exact HQ.out B c w3 HI3.out hbb3
  · have HQ := Lib.hid (show ∀ (w' : World), Below w.heap.size w w' → BestQ V w (.returned (.tuple #[.slice none 0 0, .int .i64 0, .int .i64 (As.chk V)])) w' from fun w' hb => ⟨none, 0, by unfold As.bsl As.bsv; rw [if_neg h2, if_neg h2]; rfl, by unfold As.bsl; rw [if_neg h2]; exact isI_nil _ _, hb⟩)
    generalize As.chk V = c at *
    have CK' := Lib.hid CK
    clear CK h2 h hl
    go_enter Try.func15, Try.ntmps15
    go_wp2_with fail
    refine CK'.out.mono ?_
    rintro e w1 ⟨rfl, hb1⟩
    go_wp2_with fail
    go_ret3
    exact HQ.out w1 hb1
set_option maxHeartbeats 2000000 in
theorem asPrices_any (A : Option Addr) (cv : Nat) (V : List (List Int)) (w : World) (hl : V.length ≤ maxLen) (h : IsM w A V) :
    Calls Try.prog 60 #[.slice A V.length cv] w (PricesQ V w) := by
  have CK := asCheck_any A cv V w hl h
  rcases As.chk_cases V with h0 | ⟨h1, h2⟩
  · have ok := As.chk_ok h0
    have ht := As.bst_top ok
    have e1 : As.prl V = As.lp V (As.bst V) := by unfold As.prl; rw [if_pos h0]
    have e3 := As.lp_len ht
    rw [h0] at CK
    have CF := Lib.hid (fun v (hv : Below w.heap.size w v) => firstBest_any A cv V v ok (h.keep hv))
    have CV := Lib.hid (fun v B c (hv : Below w.heap.size w v) (hI : IsI v B (As.al (As.bst V))) => leastPrices_any A cv V B c (As.bst V) v ok ht (h.keep hv) hI)
    have HQ := Lib.hid (show ∀ (g : Nat) (w' : World), BF w' g V.length (As.el (As.lp V (As.bst V))) → Below w.heap.size w w' → PricesQ V w (.returned (.tuple #[.slice (some ⟨g, 0, none⟩) V.length V.length, .int .i64 0])) w' from fun g w' hf hb => ⟨some ⟨g, 0, none⟩, V.length, by rw [e1, h0, e3], by
      have hI := hf.isI (fun k hk => by
        have q1 := As.lp_nn ht k
        have q2 := As.lp_bound ht (by omega) ok.bd hk
        unfold I64; omega)
      unfold ml at hI
      rw [As.ml_el e3] at hI
      rw [e1]; exact hI, hb⟩)
    have CK' := Lib.hid CK
    clear CK h0 ok ht e1 e3 h
    go_enter Try.func60, Try.ntmps60
    go_wp2_with fail
    refine CK'.out.mono ?_
    rintro e w1 ⟨rfl, hb1⟩
    go_wp2_with fail
    refine (CF.out _ hb1).mono ?_
    rintro e w2 ⟨B, c, rfl, hI, hb2⟩
    have hbb := keepB hb1 hb2
    have CV' := Lib.hid (CV.out w2 B c hbb hI)
    clear hb1 hb2 hI CV
    go_wp2_with fail
    refine CV'.out.mono ?_
    rintro e w3 ⟨rfl, hbf, hb3⟩
    have hbb3 := keepB hbb hb3
    have HI3 := Lib.hid hbf
    clear hb3 hbb hbf CV'
    go_wp2_with fail
    go_ret2
    exact HQ.out _ w3 HI3.out hbb3
  · have HQ := Lib.hid (show ∀ (w' : World), Below w.heap.size w w' → PricesQ V w (.returned (.tuple #[.slice none 0 0, .int .i64 (As.chk V)])) w' from fun w' hb => ⟨none, 0, by unfold As.prl; rw [if_neg h2]; rfl, by unfold As.prl; rw [if_neg h2]; exact isI_nil _ _, hb⟩)
    generalize As.chk V = c at *
    have CK' := Lib.hid CK
    clear CK h2 h hl
    go_enter Try.func60, Try.ntmps60
    go_wp2_with fail
    refine CK'.out.mono ?_
    rintro e w1 ⟨rfl, hb1⟩
    go_wp2_with fail
    go_ret2
    exact HQ.out w1 hb1
end Go.Proofs.Ytncmffhoodfhjaa
namespace Go.Proofs.Ytncmffhoodfhjaa
open Go.RowKit
theorem rowInfo : (Try.prog.info? 25).map (fun i => (i.zero, i.size, i.bytes)) = some (some (.slice none 0 0), 1, 24) := by kernel_rfl
/-- A row of the call's own, as a block. -/
theorem own_block {w : World} {B n : Nat} {e : TypeId} {v : Value} {xs : List Value} (h : w.ownsRow B e 1 v n xs) (hn : 0 < n) : ∃ g cap, v = .slice (some ⟨g, 0, none⟩) n cap ∧ B ≤ g ∧ n ≤ cap ∧ BK w g xs := by
  rcases h.2 with ⟨_, h0⟩ | ⟨g, cap, cur, hv, hb, hg, hc, _, hs, ht⟩
  · omega
  · have hlt : g < w.heap.size := (Array.getElem?_eq_some_iff.1 hg).1
    refine ⟨g, cap, hv, hb, hc, hlt, fun j x ej => ?_⟩
    rw [← ht] at ej
    have hj : cur[j]? = some x := by
      rw [List.getElem?_take] at ej
      split at ej
      · simpa using ej
      · cases ej
    constructor
    · simp [World.cell?, hg, hj]
    · simp [World.frozen?, hg]
/-- The rows of bids as values. -/
def Rvs (w : World) (V : List (List Int)) (RV : Nat → Value) : Prop := ∀ i, i < V.length → ∃ R c, RV i = .slice R (V.getD i []).length c ∧ (V.getD i []).length ≤ maxLen ∧ IsI w R (V.getD i [])
theorem rvs_of {w : World} {V : List (List Int)} {b off : Nat} (h : ∀ i, i < V.length → ∃ R c, w.cell? ⟨b, off + i, none⟩ = some (.slice R (V.getD i []).length c) ∧ (V.getD i []).length ≤ maxLen ∧ IsI w R (V.getD i [])) :
    ∃ RV : Nat → Value, (∀ i, i < V.length → w.cell? ⟨b, off + i, none⟩ = some (RV i)) ∧ Rvs w V RV := by
  have key : ∀ i, i < V.length → ∃ x : Value, w.cell? ⟨b, off + i, none⟩ = some x ∧ ∃ R c, x = .slice R (V.getD i []).length c ∧ (V.getD i []).length ≤ maxLen ∧ IsI w R (V.getD i []) := fun i hi => by
    obtain ⟨R, c, h1, h2⟩ := h i hi
    exact ⟨_, h1, R, c, rfl, h2⟩
  obtain ⟨f, hf⟩ := Go.Deep.choose_lt key
  exact ⟨f, fun i hi => (hf i hi).1, fun i hi => (hf i hi).2⟩
/-- What Clone gives. -/
def CloneQ (n : Nat) (RV : Nat → Value) (w : World) (e : Ending) (w' : World) : Prop := ∃ g c, e = .returned (.slice (some ⟨g, 0, none⟩) n c) ∧ w.heap.size ≤ g ∧ BK w' g ((List.range n).map RV) ∧ Below w.heap.size w w'
namespace As
/-- Bids with a list put to 0. -/
def zr (V : List (List Int)) (i : Nat) : List (List Int) := V.set i (List.replicate V.length 0)
theorem zr_len (V : List (List Int)) (i : Nat) : (zr V i).length = V.length := by simp [zr]
theorem zr_get (V : List (List Int)) {i k : Nat} (hi : i < V.length) : (zr V i).getD k [] = if k = i then List.replicate V.length 0 else V.getD k [] := by
  unfold zr
  simp only [List.getD_eq_getElem?_getD]
  by_cases e : k = i
  · subst e; rw [if_pos rfl, List.getElem?_set_self hi]; rfl
  · rw [if_neg e, List.getElem?_set_ne (by omega)]
theorem zr_vl (V : List (List Int)) {i : Nat} (hi : i < V.length) (k j : Nat) : vl (zr V i) k j = if k = i then 0 else vl V k j := by
  unfold vl
  rw [zr_get V hi]
  by_cases e : k = i
  · rw [if_pos e, if_pos e]
    unfold el
    simp only [List.getD_eq_getElem?_getD, List.getElem?_replicate]
    split <;> rfl
  · rw [if_neg e, if_neg e]
theorem zr_ok {V : List (List Int)} (h : Ok V) {i : Nat} (hi : i < V.length) : Ok (zr V i) := by
  refine ⟨by rw [zr_len]; exact h.n1, by rw [zr_len]; exact h.n6, fun k hk => ?_, fun k j => ?_⟩
  · rw [zr_len] at hk ⊢
    rw [zr_get V hi]
    split
    · simp
    · exact h.row k hk
  · rw [zr_vl V hi]
    split
    · omega
    · exact h.bd k j
/-- What all items can be worth for the others. -/
def gw (V : List (List Int)) (i : Nat) : Int := opt (zr V i) (List.range V.length)
theorem mst_all {V : List (List Int)} (n6 : V.length ≤ 6) : mst V (2 ^ V.length - 1) = opt V (List.range V.length) := by
  unfold mst
  rw [its_all V.length (by omega)]
  simp
end As
end Go.Proofs.Ytncmffhoodfhjaa
namespace Go.Proofs.Ytncmffhoodfhjaa.As
/-- What Check of a flat returns. -/
def rchk (V : List (List Int)) (R : Int) : Int := if chk V = 0 then if 0 ≤ R ∧ R ≤ 10000000 then 0 else 8 else chk V
theorem rchk_cases (V : List (List Int)) (R : Int) : (rchk V R = 0 ∧ chk V = 0 ∧ 0 ≤ R ∧ R ≤ 10000000) ∨ (rchk V R = 8 ∧ chk V = 0 ∧ ¬ (0 ≤ R ∧ R ≤ 10000000)) ∨ (rchk V R = chk V ∧ (chk V != 0) = true ∧ chk V ≠ 0) := by
  unfold rchk
  rcases chk_cases V with h | ⟨h1, h2⟩
  · by_cases hR : 0 ≤ R ∧ R ≤ 10000000
    · exact .inl ⟨by rw [if_pos h, if_pos hR], h, hR⟩
    · exact .inr (.inl ⟨by rw [if_pos h, if_neg hR], h, hR⟩)
  · exact .inr (.inr ⟨by rw [if_neg h2], h1, h2⟩)
/-- A price in bounds. -/
def prB (D x : Int) : Bool := decide (-10000000 * D ≤ x) && decide (x ≤ 10000000 * D)
/-- A lease of n rooms for a rent. -/
def leB (n : Nat) (R : Int) (xs ps : List Int) (D : Int) : Bool := isA xs n && decide (ps.length = n) && decide (1 ≤ D) && decide (D ≤ 60) && (List.range n).all (fun j => prB D (el ps j)) && decide (sm (el ps) (List.range n) = D * R)
structure Le14 (n : Nat) (R : Int) (a : List Nat) (ps : List Int) (D : Int) : Prop where
  perm : a.Perm (List.range n)
  len : ps.length = n
  d1 : 1 ≤ D
  d60 : D ≤ 60
  pb : ∀ j, j < n → -10000000 * D ≤ el ps j ∧ el ps j ≤ 10000000 * D
  sum : sm (el ps) (List.range n) = D * R
theorem leB_iff {n : Nat} {R : Int} {xs ps : List Int} {D : Int} : leB n R xs ps D = true ↔ ∃ a, xs = al a ∧ Le14 n R a ps D := by
  unfold leB prB
  simp only [Bool.and_eq_true, decide_eq_true_eq, List.all_eq_true, List.mem_range]
  constructor
  · rintro ⟨⟨⟨⟨⟨h1, h2⟩, h3⟩, h4⟩, h5⟩, h6⟩
    obtain ⟨a, ha, hp⟩ := isA_perm h1
    exact ⟨a, ha, hp, h2, h3, h4, h5, h6⟩
  · rintro ⟨a, rfl, h⟩
    exact ⟨⟨⟨⟨⟨perm_isA h.perm, h.len⟩, h.d1⟩, h.d60⟩, h.pb⟩, h.sum⟩
/-- What Valid returns. -/
def vld (V : List (List Int)) (R : Int) (xs ps : List Int) (D : Int) : Int := if rchk V R = 0 then if leB V.length R xs ps D = true then 0 else 8 else rchk V R
theorem vld_zero {V : List (List Int)} {R : Int} {xs ps : List Int} {D : Int} (h : vld V R xs ps D = 0) : Ok V ∧ 0 ≤ R ∧ R ≤ 10000000 ∧ ∃ a, xs = al a ∧ Le14 V.length R a ps D := by
  unfold vld at h
  rcases rchk_cases V R with ⟨h1, h2, h3⟩ | ⟨h1, _⟩ | ⟨h1, _, h3⟩
  · rw [if_pos h1] at h
    by_cases hl : leB V.length R xs ps D = true
    · exact ⟨chk_ok h2, h3.1, h3.2, leB_iff.1 hl⟩
    · rw [if_neg hl] at h; omega
  · rw [if_neg (by omega), h1] at h; omega
  · rw [if_neg (by omega), h1] at h; omega
/-- What an agent would gain with a room, times the denominator. -/
def gnF (V : List (List Int)) (ps : List Int) (D : Int) (i j : Nat) : Int := vl V i j * D - el ps j
theorem gnF_bd {V : List (List Int)} (ok : Ok V) {R : Int} {a : List Nat} {ps : List Int} {D : Int} (h : Le14 V.length R a ps D) (i : Nat) {j : Nat} (hj : j < V.length) : -600000000 ≤ gnF V ps D i j ∧ gnF V ps D i j ≤ 660000000 := by
  have h1 := h.pb j hj
  have h2 := ok.bd i j
  have h3 := h.d1
  have h4 := h.d60
  have h5 : 0 * D ≤ vl V i j * D := Int.mul_le_mul_of_nonneg_right h2.1 (by omega)
  have h6 : vl V i j * D ≤ 1000000 * D := Int.mul_le_mul_of_nonneg_right h2.2 (by omega)
  unfold gnF; omega
/-- The gains. -/
def gnl (V : List (List Int)) (a : List Nat) (ps : List Int) (D : Int) (k : Nat) : List Int := (List.range k).map fun i => gnF V ps D i (a.getD i 0)
theorem gnl_succ (V : List (List Int)) (a : List Nat) (ps : List Int) (D : Int) (k : Nat) : gnl V a ps D (k + 1) = gnl V a ps D k ++ [gnF V ps D k (a.getD k 0)] := by simp [gnl, List.range_succ]
/-- Does i envy k? -/
def env (V : List (List Int)) (a : List Nat) (ps : List Int) (D : Int) (i k : Nat) : Bool := decide (gnF V ps D i (a.getD i 0) < gnF V ps D i (a.getD k 0))
/-- Whom i envies among the first m. -/
def env1 (V : List (List Int)) (a : List Nat) (ps : List Int) (D : Int) (i m : Nat) : List (Nat × Nat) := ((List.range m).filter (env V a ps D i)).map fun k => (i, k)
def envl (V : List (List Int)) (a : List Nat) (ps : List Int) (D : Int) (k : Nat) : List (Nat × Nat) := (List.range k).flatMap fun i => env1 V a ps D i V.length
theorem env1_succ (V : List (List Int)) (a : List Nat) (ps : List Int) (D : Int) (i m : Nat) : env1 V a ps D i (m + 1) = env1 V a ps D i m ++ if env V a ps D i m = true then [(i, m)] else [] := by
  unfold env1
  rw [List.range_succ, List.filter_append, List.map_append]
  congr 1
  by_cases h : env V a ps D i m = true
  · simp [h]
  · simp [h]
theorem envl_succ (V : List (List Int)) (a : List Nat) (ps : List Int) (D : Int) (k : Nat) : envl V a ps D (k + 1) = envl V a ps D k ++ env1 V a ps D k V.length := by simp [envl, List.range_succ]
theorem envl_nil {V : List (List Int)} {a : List Nat} {ps : List Int} {D : Int} (ha : a.Perm (List.range V.length)) : envl V a ps D V.length = [] ↔ Cont (sc D V) a (el ps) := by
  have la : a.length = V.length := by simpa using ha.length_eq
  unfold envl
  rw [List.flatMap_eq_nil_iff]
  have hi1 : ∀ i, env1 V a ps D i V.length = [] ↔ ∀ k, k < V.length → gnF V ps D i (a.getD k 0) ≤ gnF V ps D i (a.getD i 0) := fun i => by
    unfold env1 env
    rw [List.map_eq_nil_iff, List.filter_eq_nil_iff]
    simp only [List.mem_range, decide_eq_true_eq, Int.not_lt]
  have hg : ∀ i j, D * vl V i j - el ps j = gnF V ps D i j := fun i j => by unfold gnF; rw [Int.mul_comm]
  constructor
  · intro h i j hi hj
    rw [sc_len] at hi hj
    have hja : j ∈ a := ha.mem_iff.2 (List.mem_range.2 hj)
    have hk := List.idxOf_lt_length_iff.2 hja
    have e : a.getD (a.idxOf j) 0 = j := by rw [getD_lt hk]; exact List.getElem_idxOf hk
    have := (hi1 i).1 (h i (List.mem_range.2 hi)) (a.idxOf j) (by omega)
    rw [e] at this
    rw [sc_vl, sc_vl, hg, hg]
    exact this
  · intro h i hi
    refine (hi1 i).2 fun k hk => ?_
    have hka := List.mem_range.1 (ha.mem_iff.1 (getD_mem (a := a) (i := k) (by omega)))
    have := h i (a.getD k 0) (by rw [sc_len]; exact List.mem_range.1 hi) (by rw [sc_len]; exact hka)
    rw [sc_vl, sc_vl, hg, hg] at this
    exact this
/-- Prices with the least denominator. -/
def rdp (n : Nat) (p : Nat → Int) : List Int := (List.range n).map fun j => p j / (gcl n ((List.range n).map p) : Nat)
def rdd (n : Nat) (p : Nat → Int) : Int := ((n / gcl n ((List.range n).map p) : Nat) : Int)
/-- Reduced prices without envy are a lease without envy. -/
theorem rd_ok {V : List (List Int)} {b : List Nat} {R : Int} {p : Nat → Int} (n1 : 1 ≤ V.length) (n6 : V.length ≤ 6) (hb : b.Perm (List.range V.length)) (hc : Cont (sc V.length V) b p) (hs : sm p (List.range V.length) = V.length * R)
    (hbd : ∀ j, j < V.length → -10000000 * (V.length : Int) ≤ p j ∧ p j ≤ 10000000 * (V.length : Int)) : Le14 V.length R b (rdp V.length p) (rdd V.length p) ∧ Cont (sc (rdd V.length p) V) b (el (rdp V.length p)) ∧
      ∃ g : Nat, 1 ≤ g ∧ (g : Int) * rdd V.length p = V.length ∧ ∀ j, j < V.length → (g : Int) * el (rdp V.length p) j = p j := by
  obtain ⟨k1, k2⟩ := (gcl_dvs ((List.range V.length).map p) V.length _).1 (Nat.dvd_refl _)
  have g1 := gcl_pos (den := V.length) (by omega) ((List.range V.length).map p)
  unfold rdp rdd
  generalize gcl V.length ((List.range V.length).map p) = g at *
  have e1 : ((g : Nat) : Int) * ((V.length / g : Nat) : Int) = V.length := by
    rw [← Int.natCast_mul, Nat.mul_div_cancel' k1]
  have e2 : ∀ j, j < V.length → (g : Int) * el ((List.range V.length).map fun j => p j / (g : Int)) j = p j := fun j hj => by
    have : el ((List.range V.length).map fun j => p j / (g : Int)) j = p j / (g : Int) := by unfold el; simp [hj]
    rw [this]
    exact Int.mul_ediv_cancel' (k2 (p j) (List.mem_map.2 ⟨j, List.mem_range.2 hj, rfl⟩))
  have hd1 : 1 ≤ ((V.length / g : Nat) : Int) := by
    have := Nat.div_pos (Nat.le_of_dvd (by omega) k1) g1
    omega
  have hd6 : ((V.length / g : Nat) : Int) ≤ V.length := by
    have := Nat.div_le_self V.length g
    omega
  have hlen : ((List.range V.length).map fun j => p j / (g : Int)).length = V.length := by simp
  generalize ((List.range V.length).map fun j => p j / (g : Int)) = ps at *
  generalize ((V.length / g : Nat) : Int) = D at *
  have hgp : (0 : Int) < g := by omega
  refine ⟨⟨hb, hlen, hd1, by omega, fun j hj => ?_, ?_⟩, fun i j hi hj => ?_, g, by omega, e1, e2⟩
  · have h1 := hbd j hj
    have h2 := e2 j hj
    have e3 : 10000000 * (V.length : Int) = (g : Int) * (10000000 * D) := by rw [← e1]; rw [← Int.mul_assoc, ← Int.mul_assoc, Int.mul_comm (g : Int) 10000000]
    have e4 : (g : Int) * (-(10000000 * D)) = -((g : Int) * (10000000 * D)) := Int.mul_neg _ _
    constructor
    · have h3 : (g : Int) * (-(10000000 * D)) ≤ (g : Int) * el ps j := by rw [h2, e4]; omega
      have := Int.le_of_mul_le_mul_left h3 hgp
      omega
    · have h3 : (g : Int) * el ps j ≤ (g : Int) * (10000000 * D) := by rw [h2]; omega
      exact Int.le_of_mul_le_mul_left h3 hgp
  · have h1 : (g : Int) * sm (el ps) (List.range V.length) = (g : Int) * (D * R) := by
      rw [← sm_mul, ← Int.mul_assoc, e1, ← hs]
      exact sm_congr fun j hj => e2 j (List.mem_range.1 hj)
    exact Int.eq_of_mul_eq_mul_left (by omega) h1
  · rw [sc_len] at hi hj
    have lb : b.length = V.length := by simpa using hb.length_eq
    have hbi := List.mem_range.1 (hb.mem_iff.1 (getD_mem (a := b) (i := i) (by omega)))
    have h1 := hc i j (by rw [sc_len]; exact hi) (by rw [sc_len]; exact hj)
    rw [sc_vl, sc_vl, ← e1, ← e2 j hj, ← e2 _ hbi, Int.mul_assoc, Int.mul_assoc, ← Int.mul_sub, ← Int.mul_sub] at h1
    have := Int.le_of_mul_le_mul_left h1 hgp
    rw [sc_vl, sc_vl]
    exact this
/-- The even lease is a lease without envy. -/
theorem even_ok {V : List (List Int)} {b : List Nat} {R : Int} (ok : Ok V) (hb : Top V b) (r0 : 0 ≤ R) (r1 : R ≤ 10000000) : Le14 V.length R b (rdp V.length (evp V b R)) (rdd V.length (evp V b R)) ∧ Cont (sc (rdd V.length (evp V b R)) V) b (el (rdp V.length (evp V b R))) := by
  have n1 := ok.n1
  have h := rd_ok n1 ok.n6 hb.perm (evp_cont hb R) (evp_sum V b R) (fun j hj => by
    have := evp_bd hb (by omega) ok.bd r0 r1 hj
    omega)
  exact ⟨h.1, h.2.1⟩
end Go.Proofs.Ytncmffhoodfhjaa.As
namespace Go.Proofs.Ytncmffhoodfhjaa
open Go.RowKit
theorem ownG_keepB {W W' : World} {B : Nat} {e : TypeId} {sz n : Nat} {v : Value} {cs : List Value} (h : W.ownsRow B e sz v n cs) (hb : Below W.heap.size W W') : W'.ownsRow B e sz v n cs :=
  World.ownsRow.kept (row := none) h ⟨hb.os, hb.tape, hb.output, hb.size, fun k hk _ => hb.block k hk⟩ (by
    rcases v.ownBlock with _ | g
    · exact .inl rfl
    · exact .inr (by simp))
theorem ownG_grown {W W' : World} {B : Nat} {e : TypeId} {sz n : Nat} {v : Value} {cs : List Value} {row : Option Nat} (h : W.ownsRow B e sz v n cs) (hg : W.grownBy W' row) (hne : ∀ b, v.ownBlock = some b → row ≠ some b) : W'.ownsRow B e sz v n cs :=
  World.ownsRow.kept (row := row) h hg (by
    cases hv : v.ownBlock with
    | none => exact .inl rfl
    | some b => exact .inr (fun e => hne b hv e.symm))
/-- A slice of rows that is being made. -/
structure TwG (w W : World) (V : List (List Int)) (k : Nat) (v : Value) (cs : List Value) : Prop where
  bb : Below w.heap.size w W
  own : W.ownsRow w.heap.size 25 1 v k cs
  len : cs.length = k
  rows : ∀ i, i < k → ∃ h c, cs[i]? = some (.slice (some ⟨h, 0, none⟩) (V.getD i []).length c) ∧ v.ownBlock ≠ some h ∧ BF W h (V.getD i []).length (As.el (V.getD i []))
theorem TwG.keep {w W W' : World} {V : List (List Int)} {k : Nat} {v : Value} {cs : List Value} (t : TwG w W V k v cs) (hb : Below W.heap.size W W') : TwG w W' V k v cs :=
  ⟨keepB t.bb hb, ownG_keepB t.own hb, t.len, fun i hi => by
    obtain ⟨h, c, h1, h2, h3⟩ := t.rows i hi
    exact ⟨h, c, h1, h2, h3.keep hb⟩⟩
/-- Behind an append to a literal that was made at the end. -/
theorem TwG.lit {w W W' : World} {V : List (List Int)} {k : Nat} {v : Value} {cs : List Value} (t : TwG w W V k v cs) (o : Obj) (hg : (W.alloc o).grownBy W' (some W.heap.size)) : TwG w W' V k v cs := by
  have t1 := t.keep (below_al (Below.refl _ _) o)
  refine ⟨t1.bb.grown hg t1.bb.size (fun b e => by have := t.bb.size; injection e with e; omega), ownG_grown t1.own hg (fun b e e2 => by
    have := (World.ownsRow.lt t.own b e).2
    injection e2 with e2; omega), t.len, fun i hi => ?_⟩
  obtain ⟨h, c, h1, h2, h3⟩ := t.rows i hi
  exact ⟨h, c, h1, h2, (h3.al o).grown hg (fun e2 => by have := h3.lt; injection e2 with e2; omega)⟩
/-- A row more. -/
theorem TwG.row {w W w1 w4 : World} {V : List (List Int)} {k h c g cap : Nat} {v : Value} {cs : List Value} {o : Obj} (t : TwG w W V k v cs) (t1 : TwG w w1 V k v cs) (hbf : BF w1 h (V.getD k []).length (As.el (V.getD k []))) (hh : W.heap.size ≤ h)
    (hg : (w1.alloc o).grownBy w4 v.ownBlock) (hown : w4.ownsRow w.heap.size 25 1 (.slice (some ⟨g, 0, none⟩) (k + 1) cap) (k + 1) (cs ++ [.slice (some ⟨h, 0, none⟩) (V.getD k []).length c])) (hat : v.ownBlock = some g ∨ g = w1.heap.size + 1) :
    TwG w w4 V (k + 1) (.slice (some ⟨g, 0, none⟩) (k + 1) cap) (cs ++ [.slice (some ⟨h, 0, none⟩) (V.getD k []).length c]) := by
  have t2 := t1.keep (below_al (Below.refl _ _) o)
  have hv : ∀ b, v.ownBlock = some b → b < W.heap.size := fun b hb => (World.ownsRow.lt t.own b hb).2
  have hvh : v.ownBlock ≠ some h := fun e => by have := hv h e; omega
  refine ⟨t2.bb.grown hg t2.bb.size (fun b e => (World.ownsRow.lt t.own b e).1), hown, by rw [List.length_append, t.len]; rfl, fun i hi => ?_⟩
  by_cases e : i = k
  · subst e
    refine ⟨h, c, by rw [List.getElem?_append_right (by rw [t.len]; exact Nat.le_refl _), t.len]; simp, fun e2 => ?_, (hbf.al o).grown hg hvh⟩
    have hgh : g = h := by simpa [Value.ownBlock] using e2
    rcases hat with e3 | e3
    · have := hv g e3; omega
    · have := hbf.lt; omega
  · obtain ⟨h', c', x1, x2, x3⟩ := t.rows i (by omega)
    obtain ⟨h'', c'', y1, y2, y3⟩ := t1.rows i (by omega)
    have hhe : h'' = h' ∧ c'' = c' := by
      rw [x1] at y1
      simp only [Option.some.injEq, Value.slice.injEq, Addr.mk.injEq] at y1
      exact ⟨y1.1.1.symm, y1.2.2.symm⟩
    obtain ⟨rfl, rfl⟩ := hhe
    refine ⟨h'', c'', by rw [List.getElem?_append_left (by rw [t.len]; omega)]; exact x1, fun e2 => ?_, (y3.al o).grown hg x2⟩
    have hgh : g = h'' := by simpa [Value.ownBlock] using e2
    rcases hat with e3 | e3
    · exact x2 (by rw [e3, hgh])
    · have := y3.lt; omega
/-- What Twin gives. -/
def TwGQ (V : List (List Int)) (w : World) (e : Ending) (w' : World) : Prop := ∃ A c, e = .returned (.slice A V.length c) ∧ IsM w' A V ∧ Below w.heap.size w w'
theorem TwG.isM {w W : World} {V : List (List Int)} {A : Option Addr} {c : Nat} {cs : List Value} (t : TwG w W V V.length (.slice A V.length c) cs) (hr : ∀ i, i < V.length → (V.getD i []).length ≤ maxLen) (hb : ∀ i j, I64 (As.el (V.getD i []) j)) : IsM W A V := by
  intro h0
  obtain ⟨g, cap, hv, _, _, hbk⟩ := own_block t.own h0
  simp only [Value.slice.injEq] at hv
  obtain ⟨rfl, -, -⟩ := hv
  refine ⟨g, 0, rfl, fun i hi => ?_⟩
  obtain ⟨h, c', h1, h2, h3⟩ := t.rows i hi
  have hI := h3.isI (fun j _ => hb i j)
  have e : ml (V.getD i []).length (As.el (V.getD i [])) = V.getD i [] := by
    unfold ml
    refine List.ext_getElem (by simp) fun j q1 q2 => ?_
    simp only [List.getElem_map, List.getElem_range]
    exact el_lt q2
  rw [e] at hI
  rw [Nat.zero_add]
  exact ⟨_, _, hbk.c i h1, hr i hi, hI⟩
theorem bfOf {w : World} {B n h c : Nat} {F : Nat → Int} (ho : w.ownsRow B 3 1 (.slice (some ⟨h, 0, none⟩) n c) n ((List.range n).map fun j => Value.int .i64 (F j))) (hn : n ≠ 0) : BF w h n F := by
  obtain ⟨g, cap, hv, _, _, hbk⟩ := own_block ho (by omega)
  simp only [Value.slice.injEq, Option.some.injEq, Addr.mk.injEq] at hv
  obtain ⟨⟨rfl, -, -⟩, -, -⟩ := hv
  exact hbk
theorem append_none (A : Option Addr) (h c : Nat) (v : World) : (Builtin.append_ #[25, 25] 25 #[.slice (some ⟨h, 0, none⟩) 0 0, .slice A 0 c]).run Try.prog v = .ok (.slice (some ⟨h, 0, none⟩) 0 0) v := by
  obtain ⟨i0, hi0, hz0, hz1, hz2⟩ := info_parts intInfo
  cases A <;> simp [Builtin.append_, run_underlying Try.underlying25, sizeOf, typeInfo, hi0, Builtin.lenOf, Builtin.firstCells, loadCells, loadCellsFrom, storeCells]
end Go.Proofs.Ytncmffhoodfhjaa
namespace Go.Proofs.Ytncmffhoodfhjaa
open Go.RowKit
/-- The rows' values. -/
def rvs (n : Nat) (H C : Nat → Nat) (m : Nat) : List Value := (List.range m).map fun i => Value.slice (some ⟨H i, 0, none⟩) n (C i)
theorem rvs_snoc (n : Nat) (H C : Nat → Nat) (m h c : Nat) : rvs n H C m ++ [.slice (some ⟨h, 0, none⟩) n c] = rvs n (fun i => if i = m then h else H i) (fun i => if i = m then c else C i) (m + 1) := by
  unfold rvs
  rw [List.range_succ, List.map_append]
  congr 1
  · refine List.map_congr_left fun i hi => ?_
    have : i ≠ m := by have := List.mem_range.1 hi; omega
    simp [this]
  · simp
/-- A slice of m rows of n ints each, all of the call's own, blocks from B on. -/
structure Tw (w W : World) (B n m : Nat) (F : Nat → Nat → Int) (v : Value) (H C : Nat → Nat) : Prop where
  bb : Below w.heap.size w W
  hB : w.heap.size ≤ B ∧ B ≤ W.heap.size
  own : W.ownsRow B 25 1 v m (rvs n H C m)
  rows : ∀ i, i < m → B ≤ H i ∧ BF W (H i) n (F i)
  ds : ∀ i j, i < m → j < m → i ≠ j → H i ≠ H j
  top : ∀ i, i < m → v.ownBlock ≠ some (H i)
theorem Tw.nil (w W : World) (B n : Nat) (F : Nat → Nat → Int) (H C : Nat → Nat) (hb : Below w.heap.size w W) (hB : w.heap.size ≤ B ∧ B ≤ W.heap.size) : Tw w W B n 0 F (.slice none 0 0) H C :=
  ⟨hb, hB, World.ownsRow_nil _ _ _ _, fun i h => absurd h (by omega), fun i j h => absurd h (by omega), fun i h => absurd h (by omega)⟩
theorem own_keepB {W W' : World} {B : Nat} {e : TypeId} {sz n : Nat} {v : Value} {cs : List Value} (h : W.ownsRow B e sz v n cs) (hb : Below W.heap.size W W') : W'.ownsRow B e sz v n cs :=
  World.ownsRow.kept (row := none) h ⟨hb.os, hb.tape, hb.output, hb.size, fun k hk _ => hb.block k hk⟩ (by
    rcases v.ownBlock with _ | g
    · exact .inl rfl
    · exact .inr (by simp))
theorem own_grown {W W' : World} {B : Nat} {e : TypeId} {sz n : Nat} {v : Value} {cs : List Value} {row : Option Nat} (h : W.ownsRow B e sz v n cs) (hg : W.grownBy W' row) (hne : ∀ b, v.ownBlock = some b → row ≠ some b) : W'.ownsRow B e sz v n cs :=
  World.ownsRow.kept (row := row) h hg (by
    cases hv : v.ownBlock with
    | none => exact .inl rfl
    | some b => exact .inr (fun e => hne b hv e.symm))
theorem Tw.keep {w W W' : World} {B n m : Nat} {F : Nat → Nat → Int} {v : Value} {H C : Nat → Nat} (h : Tw w W B n m F v H C) (hb : Below W.heap.size W W') : Tw w W' B n m F v H C :=
  ⟨keepB h.bb hb, ⟨h.hB.1, Nat.le_trans h.hB.2 hb.size⟩, own_keepB h.own hb, fun i hi => ⟨(h.rows i hi).1, (h.rows i hi).2.keep hb⟩, h.ds, h.top⟩
/-- Something that lies beside the rows has grown. -/
theorem Tw.grown {w W W' : World} {B n m : Nat} {F : Nat → Nat → Int} {v : Value} {H C : Nat → Nat} {row : Option Nat} (h : Tw w W B n m F v H C) (hg : W.grownBy W' row) (hrow : ∀ b, row = some b → B ≤ b) (h1 : ∀ b, v.ownBlock = some b → row ≠ some b) (h2 : ∀ i, i < m → row ≠ some (H i)) : Tw w W' B n m F v H C :=
  ⟨h.bb.grown hg (Nat.le_trans h.hB.1 h.hB.2) (fun j e => Nat.le_trans h.hB.1 (hrow j e)), ⟨h.hB.1, Nat.le_trans h.hB.2 hg.size⟩, own_grown h.own hg h1, fun i hi => ⟨(h.rows i hi).1, (h.rows i hi).2.grown hg (h2 i hi)⟩, h.ds, h.top⟩
/-- A row more: its block h is behind all, and the slice's own block has grown. -/
theorem Tw.app {w W W' : World} {B n m h c g cap : Nat} {F : Nat → Nat → Int} {v : Value} {H C : Nat → Nat} (t : Tw w W B n m F v H C) (hh : B ≤ h) (hbf : BF W h n (F m)) (hne : ∀ i, i < m → H i ≠ h) (hv : v.ownBlock ≠ some h)
    (hg : W.grownBy W' v.ownBlock) (hown : W'.ownsRow B 25 1 (.slice (some ⟨g, 0, none⟩) (m + 1) cap) (m + 1) (rvs n H C m ++ [.slice (some ⟨h, 0, none⟩) n c])) (hat : v.ownBlock = some g ∨ g = W.heap.size) :
    Tw w W' B n (m + 1) F (.slice (some ⟨g, 0, none⟩) (m + 1) cap) (fun i => if i = m then h else H i) (fun i => if i = m then c else C i) := by
  have hvB := World.ownsRow.lt t.own
  refine ⟨t.bb.grown hg (Nat.le_trans t.hB.1 t.hB.2) (fun j e => Nat.le_trans t.hB.1 (hvB j e).1), ⟨t.hB.1, Nat.le_trans t.hB.2 hg.size⟩, ?_, fun i hi => ?_, fun i j hi hj hij => ?_, fun i hi => ?_⟩
  · rw [← rvs_snoc]; exact hown
  · by_cases e : i = m
    · subst e
      simp only [if_true]
      exact ⟨hh, hbf.grown hg hv⟩
    · simp only [if_neg e]
      have := t.rows i (by omega)
      exact ⟨this.1, this.2.grown hg (t.top i (by omega))⟩
  · by_cases e1 : i = m
    · subst e1
      simp only [if_true, if_neg (fun x => hij x.symm : ¬ j = i)]
      exact fun e => hne j (by omega) e.symm
    · by_cases e2 : j = m
      · subst e2
        simp only [if_true, if_neg e1]
        exact hne i (by omega)
      · simp only [if_neg e1, if_neg e2]
        exact t.ds i j (by omega) (by omega) hij
  · by_cases e : i = m
    · subst e
      simp only [if_true]
      intro e2
      have hgh : g = h := by simpa [Value.ownBlock] using e2
      subst hgh
      rcases hat with e3 | e3
      · exact hv e3
      · have := hbf.lt; omega
    · simp only [if_neg e]
      intro e2
      have hgh : g = H i := by simpa [Value.ownBlock] using e2
      rcases hat with e3 | e3
      · exact t.top i (by omega) (by rw [e3, hgh])
      · have := (t.rows i (by omega)).2.lt; omega
/-- A row is written to. -/
theorem Tw.set {w W : World} {B n m i k : Nat} {F : Nat → Nat → Int} {v : Value} {H C : Nat → Nat} (t : Tw w W B n m F v H C) (hi : i < m) (x : Int) : Tw w (W.setCell ⟨H i, k, none⟩ (.int .i64 x)) B n m (fun r j => if r = i ∧ j = k then x else F r j) v H C := by
  have hr := t.rows i hi
  have hg : W.grownBy (W.setCell ⟨H i, k, none⟩ (.int .i64 x)) (some (H i)) := ⟨rfl, rfl, rfl, by simp [World.setCell], fun b _ hb => Below.heap_setCell W ⟨H i, k, none⟩ _ b (fun e => hb (by rw [e]))⟩
  refine ⟨t.bb.setCell (Nat.le_trans t.hB.1 hr.1) _, ⟨t.hB.1, by rw [World.size_setCell]; exact t.hB.2⟩, own_grown t.own hg (fun b hb e => t.top i hi (by rw [hb]; exact e.symm)), fun r hrm => ⟨(t.rows r hrm).1, ?_⟩, t.ds, t.top⟩
  by_cases e : r = i
  · subst e
    exact (hr.2.set k x).cong fun j _ => by simp
  · refine ((t.rows r hrm).2.far (t.ds i r hi hrm (fun x => e x.symm)) k _).cong fun j _ => ?_
    rw [if_neg (fun h => e h.1)]
theorem Tw.cong {w W : World} {B n m : Nat} {F G : Nat → Nat → Int} {v : Value} {H C : Nat → Nat} (t : Tw w W B n m F v H C) (h : ∀ i j, i < m → j < n → F i j = G i j) : Tw w W B n m G v H C :=
  ⟨t.bb, t.hB, t.own, fun i hi => ⟨(t.rows i hi).1, (t.rows i hi).2.cong fun j hj => h i j hi hj⟩, t.ds, t.top⟩
/-- The lists that it holds. -/
def mm (m n : Nat) (F : Nat → Nat → Int) : List (List Int) := (List.range m).map fun i => ml n (F i)
theorem mm_len (m n : Nat) (F : Nat → Nat → Int) : (mm m n F).length = m := by simp [mm]
theorem mm_get {m n : Nat} {F : Nat → Nat → Int} {i : Nat} (h : i < m) : (mm m n F).getD i [] = ml n (F i) := by unfold mm; simp [List.getD, h]
theorem Tw.form {w W : World} {B n m : Nat} {F : Nat → Nat → Int} {v : Value} {H C : Nat → Nat} (t : Tw w W B n m F v H C) (h0 : 0 < m) : ∃ g cap, v = .slice (some ⟨g, 0, none⟩) m cap ∧ B ≤ g ∧ g < W.heap.size ∧ (∀ i, i < m → g ≠ H i) ∧ ∀ i, i < m → W.cell? ⟨g, i, none⟩ = some (.slice (some ⟨H i, 0, none⟩) n (C i)) := by
  obtain ⟨g, cap, hv, hg, _, hbk⟩ := own_block t.own h0
  refine ⟨g, cap, hv, hg, hbk.lt, fun i hi e => t.top i hi (by rw [hv, e]; rfl), fun i hi => ?_⟩
  exact hbk.c i (by unfold rvs; simp [hi])
theorem Tw.isM {w W : World} {B n m g cap : Nat} {F : Nat → Nat → Int} {H C : Nat → Nat} (t : Tw w W B n m F (.slice (some ⟨g, 0, none⟩) m cap) H C) (hn : n ≤ maxLen) (hb : ∀ i j, i < m → j < n → I64 (F i j)) : IsM W (some ⟨g, 0, none⟩) (mm m n F) := by
  intro h0
  rw [mm_len] at h0
  obtain ⟨g', cap', hv, _, _, _, hc⟩ := t.form h0
  simp only [Value.slice.injEq, Option.some.injEq, Addr.mk.injEq] at hv
  obtain ⟨⟨rfl, -, -⟩, -, rfl⟩ := hv
  refine ⟨g, 0, rfl, fun i hi => ?_⟩
  rw [mm_len] at hi
  rw [mm_get hi, Nat.zero_add, ml_len]
  exact ⟨_, _, hc i hi, hn, (t.rows i hi).2.isI fun j hj => hb i j hi hj⟩
/-- Behind an append to a literal that was made at the end. -/
theorem Tw.lit {w W W' : World} {B n m : Nat} {F : Nat → Nat → Int} {v : Value} {H C : Nat → Nat} (t : Tw w W B n m F v H C) (o : Obj) (hg : (W.alloc o).grownBy W' (some W.heap.size)) : Tw w W' B n m F v H C :=
  (t.keep (below_al (Below.refl _ _) o)).grown hg (fun b e => by have := t.hB.2; injection e with e; omega) (fun b e e2 => by
    have := (World.ownsRow.lt t.own b e).2
    injection e2 with e2; omega) (fun i hi e2 => by
    have := (t.rows i hi).2.lt
    injection e2 with e2; omega)
theorem Tw.row {w W w1 w4 : World} {B B' n k h c g cap : Nat} {F : Nat → Nat → Int} {v : Value} {H C : Nat → Nat} {o : Obj} (t : Tw w W B n k F v H C) (t1 : Tw w w1 B n k F v H C) (hn : 0 < n)
    (ho : w1.ownsRow B' 3 1 (.slice (some ⟨h, 0, none⟩) n c) n ((List.range n).map fun j => Value.int .i64 (F k j))) (hh : W.heap.size ≤ h)
    (hg : (w1.alloc o).grownBy w4 v.ownBlock) (hown : w4.ownsRow B 25 1 (.slice (some ⟨g, 0, none⟩) (k + 1) cap) (k + 1) (rvs n H C k ++ [.slice (some ⟨h, 0, none⟩) n c])) (hat : v.ownBlock = some g ∨ g = w1.heap.size + 1) :
    Tw w w4 B n (k + 1) F (.slice (some ⟨g, 0, none⟩) (k + 1) cap) (fun i => if i = k then h else H i) (fun i => if i = k then c else C i) := by
  obtain ⟨g', cap', hv, _, _, hbk⟩ := own_block ho hn
  simp only [Value.slice.injEq, Option.some.injEq, Addr.mk.injEq] at hv
  obtain ⟨⟨rfl, -, -⟩, -, rfl⟩ := hv
  have hbf : BF w1 h n (F k) := hbk
  refine (t1.keep (below_al (Below.refl _ _) o)).app (Nat.le_trans t.hB.2 hh) (hbf.al o) (fun i hi => ?_) (fun e => ?_) hg hown (by simpa using hat)
  · have := (t.rows i hi).2.lt
    omega
  · have := (World.ownsRow.lt t.own h e).2
    omega
/-- What Twin gives. -/
def TwinQ (n : Nat) (F : Nat → Nat → Int) (w : World) (e : Ending) (w' : World) : Prop := ∃ v H C, e = .returned v ∧ Tw w w' w.heap.size n n F v H C
end Go.Proofs.Ytncmffhoodfhjaa
namespace Go.Proofs.Ytncmffhoodfhjaa
open Go.RowKit
/-- What firstBest gives, and that it is new. -/
def FbQ2 (V : List (List Int)) (w : World) (e : Ending) (w' : World) : Prop := ∃ A c, e = .returned (.slice A V.length c) ∧ IsI w' A (As.al (As.bst V)) ∧ (∀ b off, A = some ⟨b, off, none⟩ → w.heap.size ≤ b) ∧ Below w.heap.size w w'
set_option linter.unusedSimpArgs false in
set_option maxRecDepth 100000 in
set_option maxHeartbeats 4000000 in
theorem firstBest2_any (A : Option Addr) (cv : Nat) (V : List (List Int)) (w : World) (ok : As.Ok V) (h : IsM w A V) :
    Calls Try.prog 48 #[.slice A V.length cv] w (FbQ2 V w) := by
  have n1 := ok.n1
  have n6 := ok.n6
  have CG := Lib.hid (greatest_any A cv V w ok h)
  obtain ⟨p1, p2, -⟩ := As.pow_bd V.length (by omega)
  have hall := As.its_all V.length (by omega)
  obtain ⟨b, off, rfl, hrows⟩ := h (by omega)
  have HR := Lib.hid hrows
  have HOKV := Lib.hid ok
  clear h hrows ok
  generalize 2 ^ V.length = N at *
  have HALL := Lib.hid hall
  clear hall
  obtain ⟨i0, hi0, hz0, hz1, hz2⟩ := info_parts intInfo
  have HI := Lib.hid hi0
  have HI2 := Lib.hid hz0
  have HI3 := Lib.hid hz1
  have HI4 := Lib.hid hz2
  clear hi0 hz0 hz1 hz2
  have e1 : (N : Int) - 1 = ((N - 1 : Nat) : Int) := by omega
  go_enter Try.func48, Try.ntmps48
  go_wp2_with fail
  refine CG.out.mono ?_
  rintro e w1 ⟨rfl, hbf, hbb⟩
  obtain ⟨B, hBe⟩ : ∃ B, w1.heap.size = B := ⟨_, rfl⟩
  have hF : FbI V w w1 B N 0 (N - 1) (.slice none 0 0) := ⟨by omega, by rw [HALL.out]; simp, ⟨[], rfl, by rw [HALL.out]; rfl, Own.nil_ _ _⟩, hbf, hbb, by omega, by have := hbf.lt; omega⟩
  have HF := Lib.hid hF
  clear hF hbf hbb hBe CG HALL
  go_wp2_with fail
  clear e1
  go_loopw [4, 5, 18] (fun l v i W => ∃ k s : Nat, k ≤ V.length ∧ i = .int .i64 k ∧ l = .int .i64 s ∧ FbI V w W B N k s v) (fun _ _ i _ => V.length - (intOf i).toNat)
  case atStart => exact ⟨0, N - 1, Nat.zero_le _, rfl, rfl, HF.out⟩
  case round =>
    clear HF
    obtain ⟨k, s, hk, rfl, rfl, hF⟩ := hrel
    by_cases hlt : k < V.length
    · have hs64 : s < 64 := by have := hF.lt; omega
      obtain ⟨R, c, hc, hrl, hI⟩ := HR.out k hlt
      rw [HOKV.out.row k hlt] at hc
      obtain ⟨rb, ro, rfl, hcs⟩ := hI.1 (by rw [HOKV.out.row k hlt]; omega)
      have HC := Lib.hid (show ∀ j, j < V.length → w.cell? ⟨rb, ro + j, none⟩ = some (.int .i64 (As.vl V k j)) from fun j hj => hcs j (by rw [HOKV.out.row k hlt]; omega))
      have c1 := keepC hF.bb hc
      have HF := Lib.hid hF
      clear hcs hI hrl hc hF
      go_wp2_with fail
      clear c1
      go_loopw [4, 5, 24] (fun l v i W => l = .int .i64 s ∧ v = u5 ∧ ∃ m : Nat, m ≤ V.length ∧ i = .int .i64 m ∧ Hid (∀ j, j < m → ¬ As.hit V k s j) ∧ FbI V w W B N k s u5) (fun _ _ i _ => V.length - (intOf i).toNat)
      case atStart => exact ⟨rfl, rfl, 0, Nat.zero_le _, rfl, Lib.hid (fun j hj => absurd hj (Nat.not_lt_zero _)), HF.out⟩
      case round =>
        clear HF
        obtain ⟨rfl, rfl, m, hm, rfl, HNO, hF⟩ := hrel
        by_cases hltm : m < V.length
        · have c2 := keepC hF.bb (HC.out m hltm)
          have hW := without_any s m wr hs64 (by omega)
          have HNX := Lib.hid (fun (hp : ¬ As.hit V k s m) j (hj : j < m + 1) => by
            rcases Nat.lt_or_ge j m with h1 | h1
            · exact HNO.out j h1
            · obtain rfl : j = m := by omega
              exact hp)
          cases htb : s.testBit m
          · rw [As.wo_ne s hs64 m (by omega) htb] at hW
            have HW := Lib.hid hW
            have HT := Lib.hid (HNX.out (fun h => by have := h.1; rw [htb] at this; cases this))
            have d1 : ((s : Int) != s) = false := by simp
            have HF := Lib.hid hF
            generalize As.vl V k m = x at *
            clear hW htb hF HNX HNO
            go_wp2_with fail
            refine HW.out.mono ?_
            rintro e w2 ⟨rfl, hb1⟩
            have HF' := Lib.hid (HF.out.keep hb1)
            clear hb1 HF
            go_wp2_with fail
            go_quiet (fail)
            go_wp2_with fail
            go_roundw
            case rel => exact ⟨rfl, rfl, m + 1, by omega, by go_num, HT, HF'.out.keep (below_drewN (Below.refl _ _) _)⟩
            case measure => simp [intOf]; omega
          · have hwl := As.wo_lt s hs64 m (by omega) htb
            have HSTEP := Lib.hid (fun hv => As.fb_step n6 hs64 hlt hF.len hltm (show As.hit V k s m from ⟨htb, hv⟩) HNO.out)
            have HNY := Lib.hid (fun (hv : ¬ As.vl V k m + As.mst V (As.wo s m) = As.mst V s) => HNX.out (fun h => hv h.2))
            have b1 := HOKV.out.bd k m
            have b2 := As.mst_bd n6 (As.le_of_vl fun i j => (HOKV.out.bd i j).2) (As.wo s m)
            have b3 := As.mst_bd n6 (As.le_of_vl fun i j => (HOKV.out.bd i j).2) s
            obtain ⟨r, hr⟩ : ∃ r, As.wo s m = r := ⟨_, rfl⟩
            rw [hr] at hW hwl HSTEP HNY b2
            have hsN := hF.lt
            have HW := Lib.hid hW
            have HF := Lib.hid hF
            have d1 : ((r : Int) != s) = true := by rw [bne_iff_ne]; omega
            generalize hL : As.mst V s = L at *
            generalize hM : As.mst V r = M at *
            have HLM := Lib.hid (And.intro hL hM)
            generalize As.vl V k m = x at *
            clear hW htb hF HNX HNO hr hL hM
            obtain ⟨b11, b12⟩ := b1
            obtain ⟨b21, b22⟩ := b2
            obtain ⟨b31, b32⟩ := b3
            go_wp2_with fail
            refine HW.out.mono ?_
            rintro e w2 ⟨rfl, hb1⟩
            have HF' := Lib.hid (HF.out.keep hb1)
            clear hb1 HF
            have x1 := HF'.out.bf.c (k := s) hsN
            have x2 := HF'.out.bf.c (k := r) (by omega)
            rw [HLM.out.1] at x1
            rw [HLM.out.2] at x2
            have i1 : (s : Int) < (N : Int) := by omega
            have i2 : (r : Int) < (N : Int) := by omega
            have a1 : IntKind.i64.wrap (x + M) = x + M := IntWalk.i64_in _ (by omega)
            by_cases hv : x + M = L
            · have d2 : ((x + M) == L) = true := by rw [beq_iff_eq]; exact hv
              obtain ⟨q1, q2⟩ := HSTEP.out hv
              have Q1 := Lib.hid q1
              have Q2 := Lib.hid q2
              clear q1 q2 hv HSTEP HNY HLM
              go_wp2_with fail
              go_quiet (fail)
              go_upto_region 12 with fail
              refine at_worldQ (fun v => FbI V w v B N k s u5) (HF'.out.keep (below_drewN (Below.refl _ _) _)) (fun W5 hF5 => ?_)
              clear x1 x2 a1 d2 d1 HF' HW
              obtain ⟨T, hT1, hT2, hO⟩ := hF5.T
              have HT1 := Lib.hid hT1
              have HT2 := Lib.hid hT2
              have hBW := hF5.hB
              unfold Own at hO
              rw [As.al_len, hT1] at hO
              have HF5 := Lib.hid hF5
              clear hT1 hT2 hF5
              go_wp2_with (at_builtin; go_loud (refine wpList_append_lies _ rfl _ _ _ rfl B 3 i0 _ 1 8 Try.underlying25 HI.out HI2.out HI3.out HI4.out rfl (by omega) _ k ((As.al T).map (Value.int .i64)) (by rfl) (World.ownsRow.alloc hO _) ⟨W5.heap.size, 0, none⟩ 1 1 [.int .i64 (m : Int)] (by rfl) (by rfl) (World.news_of_block (cs := #[.int .i64 (m : Int)]) (t := 3) (fr := (0, 0)) (heap_alloc_new W5 _)) (by simp [Value.oneCell']) (by omega) (by unfold maxLen; omega) (by omega) (by simp; omega) (W5.heap.size + 1) (by simp) ?_; intro g cap w6 hown1 hgrow hat hglt))
              all_goals
                refine ⟨⟨k + 1, r, by omega, by go_num, rfl, ?_⟩, by simp [intOf]; omega⟩
                have hgB := HF5.out.gB
                have hsz := HF5.out.bb.size
                refine ⟨by omega, Q2.out, ⟨T ++ [m], by rw [List.length_append, HT1.out]; rfl, ?_, ?_⟩, (HF5.out.bf.al _).grown hgrow (fun e => ?_), (below_al HF5.out.bb _).grown hgrow (by simp; omega) (fun j ej => ?_), ?_, hgB⟩
                · rw [List.append_assoc, ← HT2.out, Q1.out]
                  rfl
                · unfold Own
                  rw [As.al_snoc, List.length_append, As.al_len, HT1.out, List.map_append]
                  exact hown1
                · have := (World.ownsRow.lt hO _ e).1
                  omega
                · have := (World.ownsRow.lt hO j ej).1
                  omega
                · have := hgrow.size
                  simp at this
                  omega
            · have d2 : ((x + M) == L) = false := by rw [beq_eq_false_iff_ne]; exact hv
              have HT := Lib.hid (HNY.out hv)
              clear hv HSTEP HNY HLM
              go_wp2_with fail
              go_quiet (fail)
              go_wp2_with fail
              clear x1 x2 a1
              go_roundw
              case rel => exact ⟨rfl, rfl, m + 1, by omega, by go_num, HT, HF'.out.keep (below_drewN (Below.refl _ _) _)⟩
              case measure => simp [intOf]; omega
        · exfalso
          obtain ⟨j, hj, hh⟩ := As.fb_hit n6 HOKV.out.nn hs64 hlt hF.len
          exact HNO.out j (by omega) hh
    · obtain rfl : k = V.length := by omega
      obtain ⟨T, h1, h2, h3⟩ := hF.T
      have hl0 : As.its V.length s = [] := List.eq_nil_of_length_eq_zero (by have := hF.len; omega)
      rw [hl0, List.drop_length] at h2
      have h2' : T = As.bst V := by simpa [As.fb] using h2
      obtain ⟨A', cc, rfl⟩ := h3.form
      rw [As.al_len, h1] at h3 ⊢
      have hI := h3.isI (fun x hx => by
        obtain ⟨j, hj, rfl⟩ := List.mem_map.1 hx
        have hpm := (As.fb_spec V (List.range V.length) HOKV.out.nn (by simp)).1
        rw [h2'] at hj
        have := hpm.mem_iff.1 hj
        have : j < V.length := by simpa using this
        unfold I64; omega)
      rw [h2'] at hI
      have HI9 := Lib.hid hI
      have HFR := Lib.hid (show ∀ b off, A' = some ⟨b, off, none⟩ → w.heap.size ≤ b from fun b off e => by
        subst e
        have := h3.lt b rfl
        have := hF.gB
        omega)
      have hbb := hF.bb
      clear hI h3 h2' h2 hl0 hF h1
      go_wp2_with fail
      exact bodyPost_ret (v := .slice A' V.length cc) (by simp [results, Try.results48, go_sem]) rfl ⟨A', cc, rfl, HI9.out, HFR.out, hbb⟩
set_option maxHeartbeats 2000000 in
theorem asBest2_any (A : Option Addr) (cv : Nat) (V : List (List Int)) (w : World) (hc : As.chk V = 0) (hl : V.length ≤ maxLen) (h : IsM w A V) :
    Calls Try.prog 15 #[.slice A V.length cv] w fun e w' => ∃ B c, e = .returned (.tuple #[.slice B V.length c, .int .i64 (As.wr V (As.bst V)), .int .i64 0]) ∧ IsI w' B (As.al (As.bst V)) ∧ (∀ b off, B = some ⟨b, off, none⟩ → w.heap.size ≤ b) ∧ Below w.heap.size w w' := by
  have CK := asCheck_any A cv V w hl h
  have ok := As.chk_ok hc
  have ht := As.bst_top ok
  have e3 := ht.len
  rw [hc] at CK
  have CF := Lib.hid (fun v (hv : Below w.heap.size w v) => firstBest2_any A cv V v ok (h.keep hv))
  have CV := Lib.hid (fun v B c (hv : Below w.heap.size w v) (hI : IsI v B (As.al (As.bst V))) => asValueOf_any A cv V B c (As.bst V) v ok (h.keep hv) hI e3 (fun i hi => by exact (As.perm_lt ht.perm).2 i hi))
  generalize As.wr V (As.bst V) = z at *
  have CK' := Lib.hid CK
  clear CK hc ok ht e3 h
  go_enter Try.func15, Try.ntmps15
  go_wp2_with fail
  refine CK'.out.mono ?_
  rintro e w1 ⟨rfl, hb1⟩
  go_wp2_with fail
  refine (CF.out _ hb1).mono ?_
  rintro e w2 ⟨B, c, rfl, hI, hfr, hb2⟩
  have hbb := keepB hb1 hb2
  have CV' := Lib.hid (CV.out w2 B c hbb hI)
  have HI := Lib.hid hI
  have HFR := Lib.hid (show ∀ b off, B = some ⟨b, off, none⟩ → w.heap.size ≤ b from fun b off e => Nat.le_trans hb1.size (hfr b off e))
  clear hb1 hb2 hI CV hfr
  go_wp2_with fail
  refine CV'.out.mono ?_
  rintro e w3 ⟨rfl, hb3⟩
  have hbb3 := keepB hbb hb3
  have HI3 := Lib.hid (HI.out.keep hb3)
  clear hb3 hbb HI CV'
  go_wp2_with fail
  go_ret3
  exact ⟨B, c, rfl, HI3.out, HFR.out, hbb3⟩
end Go.Proofs.Ytncmffhoodfhjaa
namespace Go.Proofs.Ytncmffhoodfhjaa
open Go.RowKit
theorem rows_make (n : Nat) (hn : n ≤ 1000) (v : World) : Sem.run Try.prog (Instr.makeSlice 22 (.int .i64 (n : Int)) (.int .i64 (n : Int))) v = .ok (.slice (some ⟨v.heap.size, 0, none⟩) n n) (v.alloc (.cells (Array.replicate n (Value.slice none 0 0)) 25)) := by
  have h := run_make_row' (P := Try.prog) 22 25 (.slice none 0 0) 24 (by kernel_rfl) (by kernel_rfl) rfl .i64 .i64 n (by omega) (by omega) v
  have e : madeCells #[Value.slice none 0 0] n = Array.replicate n (Value.slice none 0 0) := by
    apply Array.ext
    · simp [madeCells]
    · intro i h1 h2
      simp [madeCells, Nat.mod_one]
  rw [e] at h
  exact h
theorem BK.nils (v : World) (n : Nat) (t : TypeId) : BK (v.alloc (.cells (Array.replicate n (Value.slice none 0 0)) t)) v.heap.size ((List.range n).map fun _ => Value.slice none 0 0) := by
  have e : (List.range n).map (fun _ => Value.slice none 0 0) = List.replicate n (.slice none 0 0) := List.ext_getElem (by simp) fun k h1 h2 => by simp
  rw [e, ← List.toArray_replicate]
  exact BK.new _ _ _
theorem BK.grownT {W W' : World} {g : Nat} {l : List Value} {row : Option Nat} (h : BK W g l) (hg : W.grownBy W' row) (hne : row ≠ some g) : BK W' g l := by
  have hlt := h.lt
  have hb := hg.block g hlt hne.symm
  refine ⟨Nat.lt_of_lt_of_le hlt hg.size, fun j x e => ?_⟩
  have := BK.c h j e
  have h2 := BK.f h j e
  unfold World.cell? at this ⊢
  unfold World.frozen? at h2 ⊢
  dsimp only at this h2 ⊢
  rw [hb]
  exact ⟨this, h2⟩
theorem gby_setL (W : World) (g k : Nat) (x : Value) : W.grownBy (W.setCell ⟨g, k, none⟩ x) (some g) := ⟨rfl, rfl, rfl, by simp [World.setCell], fun b _ hb => Below.heap_setCell W ⟨g, k, none⟩ _ b (fun e => hb (by rw [e]))⟩
/-- A table in the making: block B holds its rows, each of the call's own. -/
structure Tg (B : Nat) (W : World) (n : Nat) (F : Nat → Nat → Int) (RV : Nat → Value) (L : Nat → Nat) : Prop where
  top : BK W B ((List.range n).map RV)
  own : ∀ r, r < n → W.ownsRow (B + 1) 3 1 (RV r) (L r) ((List.range (L r)).map fun j => Value.int .i64 (F r j))
  ds : ∀ r s b, r < n → s < n → r ≠ s → (RV r).ownBlock = some b → (RV s).ownBlock ≠ some b
theorem Tg.cong {B : Nat} {W : World} {n : Nat} {F : Nat → Nat → Int} {RV : Nat → Value} {L M : Nat → Nat} (t : Tg B W n F RV L) (h : ∀ r, r < n → L r = M r) : Tg B W n F RV M :=
  ⟨t.top, fun r hr => by rw [← h r hr]; exact t.own r hr, t.ds⟩
theorem Tg.start (v : World) (n : Nat) (F : Nat → Nat → Int) (t : TypeId) : Tg v.heap.size (v.alloc (.cells (Array.replicate n (Value.slice none 0 0)) t)) n F (fun _ => .slice none 0 0) (fun _ => 0) :=
  ⟨BK.nils v n t, fun r _ => World.ownsRow_nil _ _ _ 1, fun r s b _ _ _ e => by cases e⟩
theorem Tg.app {B : Nat} {W w1 w6 : World} {n i g cap : Nat} {F : Nat → Nat → Int} {RV : Nat → Value} {L : Nat → Nat} {o : Obj} (t : Tg B W n F RV L) (hb : Below W.heap.size W w1) (hi : i < n)
    (hg : (w1.alloc o).grownBy w6 (RV i).ownBlock) (hown : w6.ownsRow (B + 1) 3 1 (.slice (some ⟨g, 0, none⟩) (L i + 1) cap) (L i + 1) (((List.range (L i)).map fun j => Value.int .i64 (F i j)) ++ [.int .i64 (F i (L i))])) (hat : (RV i).ownBlock = some g ∨ g = w1.heap.size + 1) :
    Tg B (w6.setCell ⟨B, i, none⟩ (.slice (some ⟨g, 0, none⟩) (L i + 1) cap)) n F (fun r => if r = i then .slice (some ⟨g, 0, none⟩) (L i + 1) cap else RV r) (fun r => if r = i then L i + 1 else L r) := by
  have hlt : ∀ r b, r < n → (RV r).ownBlock = some b → B + 1 ≤ b ∧ b < W.heap.size := fun r b hr e => World.ownsRow.lt (t.own r hr) b e
  have hgB : B + 1 ≤ g := (World.ownsRow.lt hown g rfl).1
  have htop := (t.top.keep hb).al o
  refine ⟨?_, fun r hr => ?_, fun r s b hr hs hrs e => ?_⟩
  · have h1 := (htop.grownT hg (fun e => by have := (hlt i B hi e).1; omega)).set i (.slice (some ⟨g, 0, none⟩) (L i + 1) cap)
    have e : ((List.range n).map RV).set i (.slice (some ⟨g, 0, none⟩) (L i + 1) cap) = (List.range n).map (fun r => if r = i then .slice (some ⟨g, 0, none⟩) (L i + 1) cap else RV r) := List.ext_getElem (by simp) fun j h1 h2 => by
      simp only [List.getElem_set, List.getElem_map, List.getElem_range]
      by_cases e : i = j
      · rw [if_pos e, if_pos e.symm]
      · rw [if_neg e, if_neg (fun x => e x.symm)]
    rw [e] at h1
    exact h1
  · have hset := gby_setL w6 B i (.slice (some ⟨g, 0, none⟩) (L i + 1) cap)
    by_cases e : r = i
    · subst e
      simp only [if_true]
      have h2 := ownG_grown hown hset (fun b hb2 => by
        have : g = b := by simpa [Value.ownBlock] using hb2
        intro e3; injection e3 with e3; omega)
      rw [List.range_succ, List.map_append]
      exact h2
    · simp only [if_neg e]
      have h1 := ownG_keepB (ownG_keepB (t.own r hr) hb) (below_al (Below.refl _ _) o)
      have h2 := ownG_grown h1 hg (fun b hb2 => fun e2 => t.ds i r b hi hr (fun x => e x.symm) e2 hb2)
      exact ownG_grown h2 hset (fun b hb2 => by
        have := (hlt r b hr hb2).1
        intro e3; injection e3 with e3; omega)
  · have hnew : ∀ x, x < n → x ≠ i → (RV x).ownBlock ≠ some g := fun x hx hxi e2 => by
      rcases hat with h1 | h1
      · exact t.ds i x g hi hx (fun y => hxi y.symm) h1 e2
      · have h3 := (hlt x g hx e2).2
        have h4 := hb.size
        omega
    by_cases e1 : r = i
    · subst e1
      simp only [if_true] at e
      have hgb : g = b := by simpa [Value.ownBlock] using e
      subst hgb
      simp only [if_neg (fun x => hrs x.symm : ¬ s = r)]
      exact hnew s hs (fun x => hrs x.symm)
    · simp only [if_neg e1] at e
      by_cases e2 : s = i
      · subst e2
        simp only [if_true]
        intro e3
        have hgb : g = b := by simpa [Value.ownBlock] using e3
        subst hgb
        exact hnew r hr e1 e
      · simp only [if_neg e2]
        exact t.ds r s b hr hs hrs e
/-- A table of rows of n ints each. -/
structure Tb (B : Nat) (W : World) (n : Nat) (F : Nat → Nat → Int) (H C : Nat → Nat) : Prop where
  top : BK W B ((List.range n).map fun r => Value.slice (some ⟨H r, 0, none⟩) n (C r))
  rows : ∀ r, r < n → B < H r ∧ BF W (H r) n (F r)
  ds : ∀ r s, r < n → s < n → r ≠ s → H r ≠ H s
theorem Tg.tb {B : Nat} {W : World} {n : Nat} {F : Nat → Nat → Int} {RV : Nat → Value} {L : Nat → Nat} (t : Tg B W n F RV L) (hL : ∀ r, r < n → L r = n) : ∃ H C, Tb B W n F H C := by
  by_cases h0 : n = 0
  · subst h0
    exact ⟨fun _ => 0, fun _ => 0, t.top, fun r hr => absurd hr (by omega), fun r s hr => absurd hr (by omega)⟩
  have key : ∀ r, r < n → ∃ x : Nat × Nat, RV r = .slice (some ⟨x.1, 0, none⟩) n x.2 ∧ B < x.1 ∧ BF W x.1 n (F r) := fun r hr => by
    have ho := t.own r hr
    rw [hL r hr] at ho
    obtain ⟨g, cap, hv, hg, _, hbk⟩ := own_block ho (by omega)
    exact ⟨(g, cap), hv, hg, hbk⟩
  obtain ⟨f, hf⟩ := Go.Deep.choose_lt key
  refine ⟨fun r => (f r).1, fun r => (f r).2, ?_, fun r hr => (hf r hr).2, fun r s hr hs hrs e => ?_⟩
  · have e : (List.range n).map RV = (List.range n).map fun r => Value.slice (some ⟨(f r).1, 0, none⟩) n (f r).2 := List.map_congr_left fun r hr => (hf r (by simpa using hr)).1
    rw [← e]
    exact t.top
  · have h1 := (hf r hr).1
    have h2 := (hf s hs).1
    exact t.ds r s (f r).1 hr hs hrs (by rw [h1]; rfl) (by rw [h2, ← e]; rfl)
theorem Tb.c {B : Nat} {W : World} {n : Nat} {F : Nat → Nat → Int} {H C : Nat → Nat} (t : Tb B W n F H C) {r : Nat} (hr : r < n) : W.cell? ⟨B, r, none⟩ = some (.slice (some ⟨H r, 0, none⟩) n (C r)) := t.top.c r (by simp [hr])
theorem Tb.keep {B : Nat} {W W' : World} {n : Nat} {F : Nat → Nat → Int} {H C : Nat → Nat} (t : Tb B W n F H C) (hb : Below W.heap.size W W') : Tb B W' n F H C :=
  ⟨t.top.keep hb, fun r hr => ⟨(t.rows r hr).1, (t.rows r hr).2.keep hb⟩, t.ds⟩
theorem Tb.set {B : Nat} {W : World} {n i k : Nat} {F : Nat → Nat → Int} {H C : Nat → Nat} (t : Tb B W n F H C) (hi : i < n) (x : Int) : Tb B (W.setCell ⟨H i, k, none⟩ (.int .i64 x)) n (fun r j => if r = i ∧ j = k then x else F r j) H C := by
  refine ⟨t.top.far (fun e => by have := (t.rows i hi).1; omega) _ _, fun r hr => ⟨(t.rows r hr).1, ?_⟩, t.ds⟩
  by_cases e : r = i
  · subst e
    exact ((t.rows r hr).2.set k x).cong fun j _ => by simp
  · refine ((t.rows r hr).2.far (t.ds i r hi hr (fun x => e x.symm)) k _).cong fun j _ => ?_
    rw [if_neg (fun h => e h.1)]
theorem Tb.cong {B : Nat} {W : World} {n : Nat} {F G : Nat → Nat → Int} {H C : Nat → Nat} (t : Tb B W n F H C) (h : ∀ i j, i < n → j < n → F i j = G i j) : Tb B W n G H C :=
  ⟨t.top, fun r hr => ⟨(t.rows r hr).1, (t.rows r hr).2.cong fun j hj => h r j hr hj⟩, t.ds⟩
theorem Tb.isM {B : Nat} {W : World} {n : Nat} {F : Nat → Nat → Int} {H C : Nat → Nat} (t : Tb B W n F H C) (hn : n ≤ maxLen) (hb : ∀ i j, i < n → j < n → I64 (F i j)) : IsM W (some ⟨B, 0, none⟩) (mm n n F) := by
  intro h0
  refine ⟨B, 0, rfl, fun i hi => ?_⟩
  rw [mm_len] at hi
  rw [mm_get hi, Nat.zero_add, ml_len]
  exact ⟨_, _, t.c hi, hn, (t.rows i hi).2.isI fun j hj => hb i j hi hj⟩
end Go.Proofs.Ytncmffhoodfhjaa
