import Derived.Test.YtnnpmegknlgkoaaRows
import Derived.Test.YtnnpmegknlgkoaaGb
import Derived.Test.YtnnpmegknlgkoaaSe
import Derived.Test.YtnnpmegknlgkoaaTrl
/- The law TrimSteps. -/
namespace Go.Proofs.Ytnnpmegknlgkoaa
open Go.RowKit
/-- A desk that stays whatever is written to two boxes. -/
def DkS (p7 p10 : Nat) (L : List Qr) (A : Option Addr) (cs : List CkR) (Q : Option Addr) (W : World) : Prop := ∀ W', GB (fun b => b = p7 ∨ b = p10) W W' → IsCs W' A cs ∧ IsQs W' Q L
section
variable {p7 p10 : Nat} {L : List Qr} {A Q : Option Addr} {cs : List CkR} {W W' w : World}
theorem DkS.gb (h : DkS p7 p10 L A cs Q W) (hg : GB (fun b => b = p7 ∨ b = p10) W W') : DkS p7 p10 L A cs Q W' := fun U hU => h U (hg.comp hU)
theorem DkS.keep (h : DkS p7 p10 L A cs Q W) (hb : Below W.heap.size W W') : DkS p7 p10 L A cs Q W' := h.gb ((GB.refl _ W).below hb)
theorem DkS.is (h : DkS p7 p10 L A cs Q W) : IsCs W A cs ∧ IsQs W Q L := h W (GB.refl _ W)
theorem DkS.old (h : IsCs w A cs) (hb : Below w.heap.size w W) (h1 : w.heap.size ≤ p7) (h2 : w.heap.size ≤ p10) : DkS p7 p10 [] A cs Q W := fun _ hU =>
  ⟨h.keep (hU.toBelow hb (fun k hk => by rcases hk with rfl | rfl <;> assumption) hb.size), isQs_nil _ _⟩
theorem DkS.fd {lo ca cq : Nat} {Wd : World} (h : FD Wd lo A ca cs Q cq L) (hm : Mid lo Wd W) (hk : ∀ k, lo ≤ k → k < Wd.heap.size → k ≠ p7 ∧ k ≠ p10) : DkS p7 p10 L A cs Q W := fun _ hU =>
  have hf := FD.mid h (hm.gb hU (fun k h1 h2 e => e.elim (hk k h1 h2).1 (hk k h1 h2).2))
  ⟨hf.isCs, hf.isQs⟩
end
/-- Ahead of a turn. -/
structure StS (D : List CkD) (nn p7 p10 B : Nat) (s : Ch.St) (w2 : World) (v : Value) (W : World) (A : Option Addr) (ca : Nat) (cs : List CkR) (Q : Option Addr) (cq : Nat) : Prop where
  b7 : BK W p7 [.slice A nn ca, .slice Q s.L.length cq]
  cl : cs.length = nn
  dt : cs.map Ak.dat = D
  dk : DkS p7 p10 s.L A cs Q W
  b10 : BK W p10 [.int .i64 s.a, .int .i64 s.b]
  ow : Own W B v (s.l.map fun (j : Nat) => (j : Int))
  bb : Below w2.heap.size w2 W
namespace Ch
/-- Those left behind a turn. -/
theorem left_eq {l : List Nat} {x : Nat} (h : l.Pairwise (· < ·)) : l.eraseIdx (l.idxOf x) = l.filter (fun j => j != x) := by
  have hn : l.Nodup := h.imp (fun h => Nat.ne_of_lt h)
  rw [← hn.erase_eq_filter, List.erase_eq_eraseIdx_of_idxOf]
  rfl
theorem take_snoc {l : List Nat} {k : Nat} (h : k < l.length) : l.take (k + 1) = l.take k ++ [l.getD k 0] := by
  rw [List.take_succ_eq_append_getElem h]
  simp [h]
end Ch
set_option linter.unusedSimpArgs false in
set_option maxHeartbeats 8000000 in
set_option maxRecDepth 100000 in
theorem steps_walk (A : Option Addr) (ca : Nat) (cs : List CkR) (w : World) (h : IsCs w A cs) :
    Calls Try.prog 7 #[.slice A cs.length ca] w fun e w' => e = .returned (.bool true) ∧ Below w.heap.size w w' := by
  have ft := fit8_any A ca cs w h
  cases hft : Ch.fitP8 (cs.map Ak.dat)
  case false =>
    rw [hft] at ft
    have FT := Lib.hid ft
    clear ft hft h
    go_enter Try.func7, Try.ntmps7
    go_wp2_with fail
    refine FT.out.mono ?_
    rintro e w1 ⟨rfl, hb⟩
    go_wp2_with fail
    refine (alive8_any _).mono ?_
    rintro e w2 ⟨rfl, hb2⟩
    go_wp2_with fail
    go_ret
    exact ⟨rfl, keepB hb hb2⟩
  rw [hft] at ft
  have hc := Ch.fit8_of hft
  obtain ⟨D, hD⟩ : ∃ z, cs.map Ak.dat = z := ⟨_, rfl⟩
  rw [hD] at hc
  have hgd := Ak.chkS_good hc
  have hn6 := hgd.l1
  have hn1 := hgd.l0
  obtain ⟨nn, hnn⟩ : ∃ z, cs.length = z := ⟨_, rfl⟩
  have hDl : D.length = nn := by rw [← hD, List.length_map, hnn]
  obtain ⟨n, hn⟩ : ∃ z : Int, z = (D.length : Nat) := ⟨_, rfl⟩
  obtain ⟨len, hlen⟩ : ∃ z, (Ak.dAt D 0).1 = z := ⟨_, rfl⟩
  obtain ⟨s0, hs0⟩ : ∃ z : Ch.St, z = ⟨0, 1, List.range nn, []⟩ := ⟨_, rfl⟩
  have hs0' : s0 = ⟨0, 1, List.range D.length, []⟩ := by rw [hDl]; exact hs0
  have inv := fun i (hi : i < nn) => Ch.inv_sts hc hn hlen i (by omega)
  have gds := fun i (hi : i < nn) => Ch.sgood_sts hc hn hlen i (by omega)
  rw [← hs0'] at inv gds
  rw [hDl] at gds
  have run := fun v (hv : Below w.heap.size w v) => tmrun_any D n len nn A ca cs s0 hs0 v (h.keep hv) hD hc hn hDl.symm hlen gds
  obtain ⟨T, hT⟩ : ∃ z, ((List.range nn).map fun k => Ch.rtn D n len (Ch.sts D n len s0 k)) = z := ⟨_, rfl⟩
  have hTk : ∀ k, k < nn → T.getD k Ch.tnz = Ch.rtn D n len (Ch.sts D n len s0 k) := fun k hk => by
    rw [← hT]
    simp [hk]
  have hTl : T.length = nn := by rw [← hT]; simp
  have rd := fun k (hk : k < nn) A2 ca2 cs2 Q2 cq2 g cg v (a1 : IsCs v A2 cs2) (a2 : IsQs v Q2 (Ch.sts D n len s0 k).L) (a3 : cs2.map Ak.dat = D) (a4 : BK v g (((Ch.sts D n len s0 k).l.map fun (j : Nat) => (j : Int)).map (Value.int .i64))) =>
    tmround_any D n len (Ch.sts D n len s0 k) A2 ca2 cs2 Q2 cq2 g cg v a1 a2 a3 hc hn hlen a4 (by have := (gds k hk).2; omega) (by have := (gds k hk).2; omega) (gds k hk).1 (fun j hj => by
      have hp := List.pairwise_iff_getElem.1 (inv k hk).so j (j + 1) (by omega) hj (by omega)
      simpa [show j < (Ch.sts D n len s0 k).l.length by omega, hj] using hp) (pt_spec (inv k hk).pt).1 (pt_spec (inv k hk).pt).2.1 ((inv k hk).lt_end hc hn (by have := (gds k hk).2; omega)) (Ch.ok_len hc hlen)
  rw [hT] at run
  rw [hnn] at ft run ⊢
  have FT := Lib.hid ft
  have RUN := Lib.hid run
  have HTK := Lib.hid hTk
  have HTL := Lib.hid hTl
  have RD := Lib.hid rd
  have INV := Lib.hid inv
  have GDS := Lib.hid gds
  have HD := Lib.hid hD
  have HNN := Lib.hid hnn
  have HS0 := Lib.hid hs0
  have HDL := Lib.hid hDl
  rw [hDl] at hn6 hn1
  obtain ⟨i0, hi0, hz0, hz1, hz2⟩ := info_parts intInfo
  have HI := Lib.hid hi0
  have HI2 := Lib.hid hz0
  have HI3 := Lib.hid hz1
  have HI4 := Lib.hid hz2
  have HCS := Lib.hid h
  clear ft hft run hT hTk hTl rd inv gds hD hnn hs0 hs0' hDl hgd hc hn hlen hi0 hz0 hz1 hz2 h
  go_enter Try.func7, Try.ntmps7
  go_wp2_with fail
  refine FT.out.mono ?_
  rintro e w1 ⟨rfl, hb⟩
  have hbb := hb
  clear hb FT
  go_wp2_with fail
  refine (RUN.out _ hbb).mono ?_
  rintro e w2 ⟨Pp, tv, Q, nq, cq, G, rfl, hb, hrow, -, -, hqs, hnq⟩
  obtain ⟨g, cap, rfl, -, -⟩ := World.ownsRow.form hrow (by omega)
  have hts := isTs_row hrow HTL.out.symm
  obtain ⟨tb, tq, hta, htc⟩ := hts
  have hta2 := hta (by rw [HTL.out]; omega)
  simp only [Option.some.injEq, Addr.mk.injEq] at hta2
  obtain ⟨rfl, rfl, -⟩ := hta2
  have HTC := Lib.hid htc
  have HQS := Lib.hid hqs
  have HNQ := Lib.hid hnq
  clear hta htc hqs hnq hrow RUN
  replace hbb := keepB hbb hb
  clear hb
  have hw2 := hbb.size
  go_upto_region 7 with fail
  refine at_worldQ (fun v => Below w2.heap.size w2 v ∧ BK v (w2.heap.size + 1) [.slice A nn ca, .slice none 0 0] ∧ v.heap.size = w2.heap.size + 2) ⟨below_al (below_al (Below.refl _ _) _) _, (by have b := BK.new (w2.alloc (.cells #[.slice (some ⟨Pp, 0, none⟩) nn nn] 67)) [.slice A nn ca, .slice none 0 0] 49; simpa only [World.size_alloc] using b), by simp⟩ (fun V hS => ?_)
  obtain ⟨hb2, B7, hVs⟩ := hS
  obtain ⟨p7, hp7⟩ : ∃ z, w2.heap.size + 1 = z := ⟨_, rfl⟩
  rw [hp7] at B7 ⊢
  have hp7a : w2.heap.size + 1 ≤ p7 := by omega
  have hp7b : p7 < w2.heap.size + 2 := by omega
  clear hp7
  go_wp2_with fail
  go_loopw [8, 9] (fun s i W => ∃ k : Nat, k ≤ nn ∧ i = .int .i64 k ∧ Own W (w2.heap.size + 2) s (Ch.rng k) ∧ Below w2.heap.size w2 W ∧ BK W p7 [.slice A nn ca, .slice none 0 0] ∧ w2.heap.size + 2 ≤ W.heap.size) (fun _ i _ => nn - (intOf i).toNat)
  case atStart => exact ⟨0, Nat.zero_le _, rfl, Own.nil_ _ _, hb2, B7, by omega⟩
  case round =>
    clear hb2 B7 hVs
    obtain ⟨k, hk, rfl, hO, hb2, B7, hws⟩ := hrel
    by_cases hlt : k < nn
    · have i2 : (k : Int) < (nn : Int) := by omega
      have HT := Lib.hid (Ch.rng_succ k)
      have HL := Lib.hid (Ch.rng_len k)
      obtain ⟨T, hT⟩ : ∃ T, Ch.rng k = T := ⟨_, rfl⟩
      rw [hT] at hO
      have HT2 := Lib.hid hT
      have hnT : T.length = k := by rw [← hT]; exact Ch.rng_len k
      obtain ⟨nE, hE'⟩ : ∃ z, T.length = z := ⟨_, rfl⟩
      have hE := Lib.hid hE'
      have hk6 : nE ≤ 6 := by omega
      unfold Own at hO
      rw [hE'] at hO
      clear hT hnT hE'
      go_wp2_with (at_builtin; refine wpList_append_lies _ rfl _ _ _ rfl (w2.heap.size + 2) 3 i0 _ 1 8 Try.underlying31 HI.out HI2.out HI3.out HI4.out rfl (by omega) _ nE (T.map (Value.int .i64)) (by rfl) (World.ownsRow.alloc hO _) ⟨wr.heap.size, 0, none⟩ 1 1 [.int .i64 (k : Int)] (by rfl) (by rfl) (World.news_of_block (cs := #[.int .i64 (k : Int)]) (t := 3) (fr := (0, 0)) (heap_alloc_new wr _)) (by simp [Value.oneCell']) (by omega) (by unfold maxLen; omega) (by omega) (by simp; omega) (wr.heap.size + 1) (by simp) ?_; intro g9 cap9 w9 hown1 hgrow hat hglt)
      all_goals
        (try go_wp2_with fail)
        go_roundw
        case rel =>
          refine ⟨k + 1, by omega, by go_num, ?_, ?_, ?_, ?_⟩
          · rw [HT.out, HT2.out]
            unfold Own
            rw [List.length_append, hE.out, List.map_append]
            exact hown1
          · exact (below_al hb2 _).grown hgrow (by simp; omega) (fun j ej => by
              have := (World.ownsRow.lt hO j ej).1
              omega)
          · exact (B7.al _).grown hgrow (fun e => by
              have := (World.ownsRow.lt hO p7 e).1
              omega)
          · have := hgrow.size
            simp at this
            omega
        case measure => (simp [intOf] <;> omega)
    · obtain rfl : k = nn := by omega
      have i2 : ¬ (k : Int) < (k : Int) := by omega
      go_wp2_with fail
      refine (rOf_any _ _).mono ?_
      rintro e w3 ⟨rfl, hb⟩
      replace hb2 := keepB hb2 hb
      replace B7 := B7.keep hb
      replace hO := hO.keepB hb
      have hw3 := B7.lt
      have hws3 := hb.size
      clear hb i2
      go_upto_region 13 with fail
      refine at_worldQ (fun v => Below w2.heap.size w2 v ∧ BK v p7 [.slice A k ca, .slice none 0 0] ∧ BK v w3.heap.size [.int .i64 0, .int .i64 1] ∧ Own v (w2.heap.size + 2) _ (Ch.rng k) ∧ v.heap.size = w3.heap.size + 1) ⟨below_al hb2 _, B7.al _, BK.new _ _ _, hO.keepB (below_al (Below.refl _ _) _), by simp⟩ (fun V3 hS => ?_)
      clear hb2 B7 hO
      obtain ⟨hb2, B7, B10, hO, hVs3⟩ := hS
      obtain ⟨p10, hp10⟩ : ∃ z, w3.heap.size = z := ⟨_, rfl⟩
      rw [hp10] at B10 hw3 ⊢
      have hp10a : w2.heap.size + 2 ≤ p10 := by omega
      have hp10b : p10 < V3.heap.size := by omega
      clear hp10 hws3 hVs3 hws hk
      obtain ⟨nn, hnk⟩ : ∃ z, k = z := ⟨_, rfl⟩
      subst hnk
      go_wp2_with fail
      go_loopw [8, 11] (fun s i W => ∃ (j : Nat) (A2 : Option Addr) (ca2 : Nat) (cs2 : List CkR) (Q2 : Option Addr) (cq2 : Nat), j ≤ k ∧ i = .int .i64 (j : Nat) ∧ StS D k p7 p10 (w2.heap.size + 2) (Ch.sts D n len s0 j) w2 s W A2 ca2 cs2 Q2 cq2) (fun _ i _ => k - (intOf i).toNat)
      case atStart =>
        refine ⟨0, A, ca, cs, none, 0, Nat.zero_le _, rfl, ?_⟩
        have e0 : Ch.sts D n len s0 0 = ⟨0, 1, List.range k, []⟩ := HS0.out
        rw [e0]
        exact ⟨B7, HNN.out, HD.out, DkS.old HCS.out (hbb.trans (hb2.mono hw2)) (by omega) (by omega), B10, hO, hb2⟩
      case round =>
        clear hb2 B7 B10 hO hlt hp10b
        obtain ⟨j, A2, ca2, cs2, Q2, cq2, hjk, rfl, hst⟩ := hrel
        obtain ⟨wi, hwi⟩ : ∃ wi : World, wi = wr := ⟨_, rfl⟩
        subst hwi
        obtain ⟨s, hs⟩ : ∃ z, Ch.sts D n len s0 j = z := ⟨_, rfl⟩
        by_cases hlt : j < k
        · obtain ⟨b7, cl, dt, dk, b10, ow, bb⟩ := hst
          rw [hs] at b7 dk b10 ow
          have hiv := INV.out j hlt
          have hgd := GDS.out j hlt
          have hrd := RD.out j hlt
          rw [hs] at hiv hgd hrd
          have hll := hgd.2
          have hlag := hgd.1.ag
          rw [HDL.out] at hlag
          unfold Own at ow
          rw [List.length_map] at ow
          obtain ⟨gr, cr, rfl, hgr, hcr, hBr⟩ := bk_rown ow (by omega)
          have hr := hrd A2 ca2 cs2 Q2 cq2 gr cr wi dk.is.1 dk.is.2 dt hBr
          rw [cl] at hr
          have hrl := Ch.rout_len (D := D) (n := n) (s := s) (by omega)
          have hnx : Ch.sts D n len s0 (j + 1) = Ch.rnx D n len s := by rw [← hs]; rfl
          have hnL : (Ch.rnx D n len s).L = (Ch.rout D n s).2.2 := rfl
          have hnl : (Ch.rnx D n len s).l = s.l.eraseIdx (s.l.idxOf (Ch.rtn D n len s).ag) := rfl
          have hnab : (Ch.rnx D n len s).a = (Ch.rtn D n len s).x ∧ (Ch.rnx D n len s).b = (Ch.rtn D n len s).y := ⟨rfl, rfl⟩
          rw [Ch.left_eq hiv.so] at hnl
          obtain ⟨y0, y1, y2, y3, y4, y5⟩ := HTC.out j (by rw [HTL.out]; exact hlt)
          rw [HTK.out j hlt, hs] at y0 y1 y2 y3 y4 y5
          have hL1 := hrl.1
          have hL2 := hrl.2.1
          rw [← hnL] at hL1 hL2
          have hLg := hgd.1.lg
          generalize Ch.rtn D n len s = tn at *
          obtain ⟨sn, hsn⟩ : ∃ z, Ch.rnx D n len s = z := ⟨_, rfl⟩
          rw [hsn] at hr hnx hnl hnab hL1 hL2
          obtain ⟨ag, ta, tb, tx, ty, tt⟩ := tn
          unfold RdQ at hr
          dsimp only at y0 y1 y2 y3 y4 y5 hr hnl hnab
          simp only [Nat.zero_add, Nat.add_zero] at y0 y1 y2 y3 y4 y5
          obtain ⟨sl, hsl⟩ : ∃ z, s.l = z := ⟨_, rfl⟩
          obtain ⟨sa, hsa⟩ : ∃ z, s.a = z := ⟨_, rfl⟩
          obtain ⟨sb, hsb⟩ : ∃ z, s.b = z := ⟨_, rfl⟩
          obtain ⟨nq2, hnq2⟩ : ∃ z, s.L.length = z := ⟨_, rfl⟩
          obtain ⟨ln, hln⟩ : ∃ z, s.l.length = z := ⟨_, rfl⟩
          obtain ⟨nqn, hnqn⟩ : ∃ z, sn.L.length = z := ⟨_, rfl⟩
          rw [hln] at hll hL2 hLg
          rw [hnq2] at hL1 hL2 hLg
          rw [hnqn] at hL1 hL2
          rw [hnqn, hsa, hsb, hnq2, hln] at hr
          rw [hsa, hsb] at b10
          rw [hnq2] at b7
          rw [hln]
          rw [hsl] at hBr hlag hnl hln
          have HLL := Lib.hid hll
          have h1ln : 1 ≤ ln := by omega
          have h6ln : ln ≤ 6 := by omega
          clear hll
          have HR := Lib.hid hr
          have HNX := Lib.hid hnx
          have HNL := Lib.hid hnl
          have HNA := Lib.hid hnab
          have HNN2 := Lib.hid hnqn
          have HLN := Lib.hid hln
          have HLA := Lib.hid hlag
          have HBR := Lib.hid hBr
          clear hr hnx hnl hnab hnqn hln hlag hsl hsa hsb hnq2 hs hrd hrl hnL hiv hgd ow dk cl dt hsn hBr
          have p0 := b7.c 0 rfl
          have p1 := b7.c 1 rfl
          have q0 := b10.c 0 rfl
          have q1 := b10.c 1 rfl
          have i1 : (j : Int) < (k : Int) := by omega
          have ij0 : (0 : Int) ≤ (j : Int) := by omega
          go_wp2_with fail
          refine HR.out.mono ?_
          rintro e w5 ⟨A3, m3, ca3, Q3, nq3, cq3, cs3, lo3, Wd3, rfl, hb5, hm3, hnq3, hd3, hfd3, hmd3, hge3⟩
          have hm4 : m3 = k := by
            rw [hm3, ← HDL.out, ← hd3, List.length_map]
          subst hm4
          have hn4 : nq3 = nqn := hnq3
          subst hn4
          have hbr5 := HBR.out.keep hb5
          have hp7l := b7.lt
          have hp10l := b10.lt
          have hge4 : ∀ u, lo3 ≤ u → u < Wd3.heap.size → u ≠ p7 ∧ u ≠ p10 := fun u h1 h2 => by
            have := hge3 u h1 h2
            exact ⟨by omega, by omega⟩
          replace b7 := b7.keep hb5
          replace b10 := b10.keep hb5
          replace bb := keepB bb hb5
          have hs5 := hb5.size
          have HF3 := Lib.hid hfd3
          have HG3 := Lib.hid hge4
          have HM3 := Lib.hid hm3
          have HD3 := Lib.hid hd3
          clear hm3 hnq3 hd3 hfd3 hge3 hge4 HR hb5 p0 p1 q0 q1 HBR
          go_upto_region 17 with fail
          refine at_worldQ (fun v => Below w2.heap.size w2 v ∧ BK v p7 [.slice A2 m3 ca2, .slice Q2 nq2 cq2] ∧ BK v p10 [.int .i64 sa, .int .i64 sb] ∧ BK v w5.heap.size [.slice A3 m3 ca3, .slice Q3 nq3 cq3] ∧ BK v (w5.heap.size + 1) [.int .i64 (ag : Nat), .int .i64 ta, .int .i64 tb, .int .i64 tx, .int .i64 ty, .int .i64 (tt : Nat)] ∧ Mid lo3 Wd3 v ∧ BK v gr ((sl.map fun (j : Nat) => (j : Int)).map (Value.int .i64)) ∧ w5.heap.size + 2 ≤ v.heap.size) ⟨below_al (below_al bb _) _, (b7.al _).al _, (b10.al _).al _, (BK.new w5 [.slice A3 m3 ca3, .slice Q3 nq3 cq3] 49).al _, (by have b := BK.new (w5.alloc (.cells #[.slice A3 m3 ca3, .slice Q3 nq3 cq3] 49)) [.int .i64 (ag : Nat), .int .i64 ta, .int .i64 tb, .int .i64 tx, .int .i64 ty, .int .i64 (tt : Nat)] 75; simpa only [World.size_alloc] using b), (hmd3.al _).al _, (hbr5.al _).al _, by simp⟩ (fun V5 hS => ?_)
          clear bb b7 b10 hmd3 hbr5
          obtain ⟨bb, b7, b10, BN, BT, hmd, hbr, hs52⟩ := hS
          have d1 := b7.c 1 rfl
          have n1 := BN.c 1 rfl
          have t0 := BT.c 0 rfl
          have t1 := BT.c 1 rfl
          have t2 := BT.c 2 rfl
          have t3 := BT.c 3 rfl
          have t4 := BT.c 4 rfl
          have t5 := BT.c 5 rfl
          replace y0 := keepC bb y0
          replace y1 := keepC bb y1
          replace y2 := keepC bb y2
          replace y3 := keepC bb y3
          replace y4 := keepC bb y4
          replace y5 := keepC bb y5
          have k1 : (-9223372036854775808 : Int) ≤ 2 * (ln : Int) ∧ 2 * (ln : Int) ≤ 9223372036854775807 := by omega
          have k2 : (-9223372036854775808 : Int) ≤ (nq2 : Int) + 2 * (ln : Int) ∧ (nq2 : Int) + 2 * (ln : Int) ≤ 9223372036854775807 := by omega
          have k3 : (-9223372036854775808 : Int) ≤ (nq2 : Int) + 2 * (ln : Int) - 1 ∧ (nq2 : Int) + 2 * (ln : Int) - 1 ≤ 9223372036854775807 := by omega
          have z1 : IntKind.i64.wrap (2 * (ln : Int)) = 2 * (ln : Int) := IntWalk.i64_in _ k1
          have z2 : IntKind.i64.wrap ((nq2 : Int) + 2 * (ln : Int)) = (nq2 : Int) + 2 * (ln : Int) := IntWalk.i64_in _ k2
          have z3 : IntKind.i64.wrap ((nq2 : Int) + 2 * (ln : Int) - 1) = (nq2 : Int) + 2 * (ln : Int) - 1 := IntWalk.i64_in _ k3
          have x1 : ¬ (nq3 : Int) < (nq2 : Int) := by omega
          have x2 : ¬ (nq2 : Int) + 2 * (ln : Int) - 1 < (nq3 : Int) := by omega
          clear k1 k2 k3
          refine wp_region_noPanic ?_
          refine wp_region_held_drew (S := (Below V5.heap.size V5)) (by kernel_rfl) ((Below.refl _ _).drew) (fun hHeld => ?_)
          refine at_anyH (Below V5.heap.size V5) hHeld (fun we0 hNew => ?_)
          clear hHeld
          have hHeld := hNew
          clear hNew
          refine wpAnyH_take (i := 0) (oi := _) (v := ?ve1) rfl (by kernel_rfl) (by kernel_rfl) (by kernel_rfl) (fun _ _ _ h => h) (Or.inl ⟨by kernel_rfl, ?hye1⟩) hHeld ?reste1
          case hye1 => (intro w hSw; go_simp; first | done | (with_reducible rfl))
          try simp only [Act.put, PA, PB]
          refine wpAnyH_take (i := 1) (oi := _) (v := ?ve2) rfl (by kernel_rfl) (by kernel_rfl) (by kernel_rfl) (fun _ _ _ h => h) (Or.inl ⟨by kernel_rfl, ?hye2⟩) hHeld ?reste2
          case hye2 => (intro w hSw; go_simp; first | done | (with_reducible rfl))
          try simp only [Act.put, PA, PB]
          refine wpAnyH_take (i := 2) (oi := _) (v := ?ve3) rfl (by kernel_rfl) (by kernel_rfl) (by kernel_rfl) (fun _ _ _ h => h) (Or.inl ⟨by kernel_rfl, ?hye3⟩) hHeld ?reste3
          case hye3 => (intro w hSw; go_simp; first | done | (with_reducible rfl))
          try simp only [Act.put, PA, PB]
          refine wpAnyH_take (i := 3) (oi := _) (v := ?ve4) rfl (by kernel_rfl) (by kernel_rfl) (by kernel_rfl) (fun _ _ _ h => h) (Or.inl ⟨by kernel_rfl, ?hye4⟩) hHeld ?reste4
          case hye4 => (intro w hSw; have kt0 := keepC hSw t0; have kt1 := keepC hSw t1; have kt2 := keepC hSw t2; have kt3 := keepC hSw t3; have kt4 := keepC hSw t4; have kt5 := keepC hSw t5; have ky0 := keepC hSw y0; have ky1 := keepC hSw y1; have ky2 := keepC hSw y2; have ky3 := keepC hSw y3; have ky4 := keepC hSw y4; have ky5 := keepC hSw y5; have kn1 := keepC hSw n1; have kd1 := keepC hSw d1; go_simp; first | done | (with_reducible rfl))
          try simp only [Act.put, PA, PB]
          refine wpAnyH_take (i := 4) (oi := _) (v := ?ve5) rfl (by kernel_rfl) (by kernel_rfl) (by kernel_rfl) (fun _ _ _ h => h) (Or.inl ⟨by kernel_rfl, ?hye5⟩) hHeld ?reste5
          case hye5 => (intro w hSw; go_simp; first | done | (with_reducible rfl))
          try simp only [Act.put, PA, PB]
          refine wpAnyH_take (i := 5) (oi := _) (v := ?ve6) rfl (by kernel_rfl) (by kernel_rfl) (by kernel_rfl) (fun _ _ _ h => h) (Or.inl ⟨by kernel_rfl, ?hye6⟩) hHeld ?reste6
          case hye6 => (intro w hSw; go_simp; first | done | (with_reducible rfl))
          try simp only [Act.put, PA, PB]
          refine wpAnyH_take (i := 6) (oi := _) (v := ?ve7) rfl (by kernel_rfl) (by kernel_rfl) (by kernel_rfl) (fun _ _ _ h => h) (Or.inl ⟨by kernel_rfl, ?hye7⟩) hHeld ?reste7
          case hye7 => (intro w hSw; go_simp; first | done | (with_reducible rfl))
          try simp only [Act.put, PA, PB]
          refine wpAnyH_take (i := 7) (oi := _) (v := ?ve8) rfl (by kernel_rfl) (by kernel_rfl) (by kernel_rfl) (fun _ _ _ h => h) (Or.inl ⟨by kernel_rfl, ?hye8⟩) hHeld ?reste8
          case hye8 => (intro w hSw; have kt0 := keepC hSw t0; have kt1 := keepC hSw t1; have kt2 := keepC hSw t2; have kt3 := keepC hSw t3; have kt4 := keepC hSw t4; have kt5 := keepC hSw t5; have ky0 := keepC hSw y0; have ky1 := keepC hSw y1; have ky2 := keepC hSw y2; have ky3 := keepC hSw y3; have ky4 := keepC hSw y4; have ky5 := keepC hSw y5; have kn1 := keepC hSw n1; have kd1 := keepC hSw d1; go_simp; first | done | (with_reducible rfl))
          try simp only [Act.put, PA, PB]
          refine wpAnyH_take (i := 8) (oi := _) (v := ?ve9) rfl (by kernel_rfl) (by kernel_rfl) (by kernel_rfl) (fun _ _ _ h => h) (Or.inl ⟨by kernel_rfl, ?hye9⟩) hHeld ?reste9
          case hye9 => (intro w hSw; go_simp; first | done | (with_reducible rfl))
          try simp only [Act.put, PA, PB]
          refine wpAnyH_take (i := 9) (oi := _) (v := ?ve10) rfl (by kernel_rfl) (by kernel_rfl) (by kernel_rfl) (fun _ _ _ h => h) (Or.inl ⟨by kernel_rfl, ?hye10⟩) hHeld ?reste10
          case hye10 => (intro w hSw; go_simp; first | done | (with_reducible rfl))
          try simp only [Act.put, PA, PB]
          refine wpAnyH_take (i := 10) (oi := _) (v := ?ve11) rfl (by kernel_rfl) (by kernel_rfl) (by kernel_rfl) (fun _ _ _ h => h) (Or.inl ⟨by kernel_rfl, ?hye11⟩) hHeld ?reste11
          case hye11 => (intro w hSw; go_simp; first | done | (with_reducible rfl))
          try simp only [Act.put, PA, PB]
          refine wpAnyH_take (i := 11) (oi := _) (v := ?ve12) rfl (by kernel_rfl) (by kernel_rfl) (by kernel_rfl) (fun _ _ _ h => h) (Or.inl ⟨by kernel_rfl, ?hye12⟩) hHeld ?reste12
          case hye12 => (intro w hSw; go_simp; first | done | (with_reducible rfl))
          try simp only [Act.put, PA, PB]
          refine wpAnyH_take (i := 12) (oi := _) (v := ?ve13) rfl (by kernel_rfl) (by kernel_rfl) (by kernel_rfl) (fun _ _ _ h => h) (Or.inl ⟨by kernel_rfl, ?hye13⟩) hHeld ?reste13
          case hye13 => (intro w hSw; have kt0 := keepC hSw t0; have kt1 := keepC hSw t1; have kt2 := keepC hSw t2; have kt3 := keepC hSw t3; have kt4 := keepC hSw t4; have kt5 := keepC hSw t5; have ky0 := keepC hSw y0; have ky1 := keepC hSw y1; have ky2 := keepC hSw y2; have ky3 := keepC hSw y3; have ky4 := keepC hSw y4; have ky5 := keepC hSw y5; have kn1 := keepC hSw n1; have kd1 := keepC hSw d1; go_simp; first | done | (with_reducible rfl))
          try simp only [Act.put, PA, PB]
          refine wpAnyH_take (i := 13) (oi := _) (v := ?ve14) rfl (by kernel_rfl) (by kernel_rfl) (by kernel_rfl) (fun _ _ _ h => h) (Or.inl ⟨by kernel_rfl, ?hye14⟩) hHeld ?reste14
          case hye14 => (intro w hSw; go_simp; first | done | (with_reducible rfl))
          try simp only [Act.put, PA, PB]
          refine wpAnyH_take (i := 14) (oi := _) (v := ?ve15) rfl (by kernel_rfl) (by kernel_rfl) (by kernel_rfl) (fun _ _ _ h => h) (Or.inl ⟨by kernel_rfl, ?hye15⟩) hHeld ?reste15
          case hye15 => (intro w hSw; go_simp; first | done | (with_reducible rfl))
          try simp only [Act.put, PA, PB]
          refine wpAnyH_take (i := 15) (oi := _) (v := ?ve16) rfl (by kernel_rfl) (by kernel_rfl) (by kernel_rfl) (fun _ _ _ h => h) (Or.inl ⟨by kernel_rfl, ?hye16⟩) hHeld ?reste16
          case hye16 => (intro w hSw; have kt0 := keepC hSw t0; have kt1 := keepC hSw t1; have kt2 := keepC hSw t2; have kt3 := keepC hSw t3; have kt4 := keepC hSw t4; have kt5 := keepC hSw t5; have ky0 := keepC hSw y0; have ky1 := keepC hSw y1; have ky2 := keepC hSw y2; have ky3 := keepC hSw y3; have ky4 := keepC hSw y4; have ky5 := keepC hSw y5; have kn1 := keepC hSw n1; have kd1 := keepC hSw d1; go_simp; first | done | (with_reducible rfl))
          try simp only [Act.put, PA, PB]
          refine wpAnyH_take (i := 16) (oi := _) (v := ?ve17) rfl (by kernel_rfl) (by kernel_rfl) (by kernel_rfl) (fun _ _ _ h => h) (Or.inl ⟨by kernel_rfl, ?hye17⟩) hHeld ?reste17
          case hye17 => (intro w hSw; go_simp; first | done | (with_reducible rfl))
          try simp only [Act.put, PA, PB]
          refine wpAnyH_take (i := 17) (oi := _) (v := .bool false) rfl (by kernel_rfl) (by kernel_rfl) (by kernel_rfl) (fun _ _ _ h => h) (Or.inl ⟨by kernel_rfl, ?_⟩) hHeld ?_
          · intro w hSw
            go_simp
            first | done | omega
          try simp only [Act.put, PA, PB]
          refine wpAnyH_take (i := 18) (oi := _) (v := ?ve19) rfl (by kernel_rfl) (by kernel_rfl) (by kernel_rfl) (fun _ _ _ h => h) (Or.inl ⟨by kernel_rfl, ?hye19⟩) hHeld ?reste19
          case hye19 => (intro w hSw; go_simp; first | done | (with_reducible rfl))
          try simp only [Act.put, PA, PB]
          refine wpAnyH_take (i := 19) (oi := _) (v := ?ve20) rfl (by kernel_rfl) (by kernel_rfl) (by kernel_rfl) (fun _ _ _ h => h) (Or.inl ⟨by kernel_rfl, ?hye20⟩) hHeld ?reste20
          case hye20 => (intro w hSw; go_simp; first | done | (with_reducible rfl))
          try simp only [Act.put, PA, PB]
          refine wpAnyH_take (i := 20) (oi := _) (v := ?ve21) rfl (by kernel_rfl) (by kernel_rfl) (by kernel_rfl) (fun _ _ _ h => h) (Or.inl ⟨by kernel_rfl, ?hye21⟩) hHeld ?reste21
          case hye21 => (intro w hSw; go_simp; first | done | (with_reducible rfl))
          try simp only [Act.put, PA, PB]
          refine wpAnyH_take (i := 21) (oi := _) (v := ?ve22) rfl (by kernel_rfl) (by kernel_rfl) (by kernel_rfl) (fun _ _ _ h => h) (Or.inl ⟨by kernel_rfl, ?hye22⟩) hHeld ?reste22
          case hye22 => (intro w hSw; have kt0 := keepC hSw t0; have kt1 := keepC hSw t1; have kt2 := keepC hSw t2; have kt3 := keepC hSw t3; have kt4 := keepC hSw t4; have kt5 := keepC hSw t5; have ky0 := keepC hSw y0; have ky1 := keepC hSw y1; have ky2 := keepC hSw y2; have ky3 := keepC hSw y3; have ky4 := keepC hSw y4; have ky5 := keepC hSw y5; have kn1 := keepC hSw n1; have kd1 := keepC hSw d1; go_simp; first | done | (with_reducible rfl))
          try simp only [Act.put, PA, PB]
          refine wpAnyH_take (i := 22) (oi := _) (v := ?ve23) rfl (by kernel_rfl) (by kernel_rfl) (by kernel_rfl) (fun _ _ _ h => h) (Or.inl ⟨by kernel_rfl, ?hye23⟩) hHeld ?reste23
          case hye23 => (intro w hSw; go_simp; first | done | (with_reducible rfl))
          try simp only [Act.put, PA, PB]
          refine wpAnyH_take (i := 23) (oi := _) (v := ?ve24) rfl (by kernel_rfl) (by kernel_rfl) (by kernel_rfl) (fun _ _ _ h => h) (Or.inl ⟨by kernel_rfl, ?hye24⟩) hHeld ?reste24
          case hye24 => (intro w hSw; go_simp; first | done | (with_reducible rfl))
          try simp only [Act.put, PA, PB]
          refine wpAnyH_take (i := 24) (oi := _) (v := ?ve25) rfl (by kernel_rfl) (by kernel_rfl) (by kernel_rfl) (fun _ _ _ h => h) (Or.inl ⟨by kernel_rfl, ?hye25⟩) hHeld ?reste25
          case hye25 => (intro w hSw; have kt0 := keepC hSw t0; have kt1 := keepC hSw t1; have kt2 := keepC hSw t2; have kt3 := keepC hSw t3; have kt4 := keepC hSw t4; have kt5 := keepC hSw t5; have ky0 := keepC hSw y0; have ky1 := keepC hSw y1; have ky2 := keepC hSw y2; have ky3 := keepC hSw y3; have ky4 := keepC hSw y4; have ky5 := keepC hSw y5; have kn1 := keepC hSw n1; have kd1 := keepC hSw d1; go_simp; first | done | (with_reducible rfl))
          try simp only [Act.put, PA, PB]
          refine wpAnyH_take (i := 25) (oi := _) (v := ?ve26) rfl (by kernel_rfl) (by kernel_rfl) (by kernel_rfl) (fun _ _ _ h => h) (Or.inl ⟨by kernel_rfl, ?hye26⟩) hHeld ?reste26
          case hye26 => (intro w hSw; go_simp; first | done | (with_reducible rfl))
          try simp only [Act.put, PA, PB]
          refine wpAnyH_take (i := 26) (oi := _) (v := ?ve27) rfl (by kernel_rfl) (by kernel_rfl) (by kernel_rfl) (fun _ _ _ h => h) (Or.inl ⟨by kernel_rfl, ?hye27⟩) hHeld ?reste27
          case hye27 => (intro w hSw; go_simp; first | done | (with_reducible rfl))
          try simp only [Act.put, PA, PB]
          refine wpAnyH_take (i := 27) (oi := _) (v := ?ve28) rfl (by kernel_rfl) (by kernel_rfl) (by kernel_rfl) (fun _ _ _ h => h) (Or.inl ⟨by kernel_rfl, ?hye28⟩) hHeld ?reste28
          case hye28 => (intro w hSw; go_simp; first | done | (with_reducible rfl))
          try simp only [Act.put, PA, PB]
          refine wpAnyH_take (i := 28) (oi := _) (v := ?ve29) rfl (by kernel_rfl) (by kernel_rfl) (by kernel_rfl) (fun _ _ _ h => h) (Or.inl ⟨by kernel_rfl, ?hye29⟩) hHeld ?reste29
          case hye29 => (intro w hSw; go_simp; first | done | (with_reducible rfl))
          try simp only [Act.put, PA, PB]
          refine wpAnyH_take (i := 29) (oi := _) (v := ?ve30) rfl (by kernel_rfl) (by kernel_rfl) (by kernel_rfl) (fun _ _ _ h => h) (Or.inl ⟨by kernel_rfl, ?hye30⟩) hHeld ?reste30
          case hye30 => (intro w hSw; go_simp; first | done | (with_reducible rfl))
          try simp only [Act.put, PA, PB]
          refine wpAnyH_take (i := 30) (oi := _) (v := ?ve31) rfl (by kernel_rfl) (by kernel_rfl) (by kernel_rfl) (fun _ _ _ h => h) (Or.inl ⟨by kernel_rfl, ?hye31⟩) hHeld ?reste31
          case hye31 => (intro w hSw; go_simp; first | done | (with_reducible rfl))
          try simp only [Act.put, PA, PB]
          refine wpAnyH_take (i := 31) (oi := _) (v := .bool false) rfl (by kernel_rfl) (by kernel_rfl) (by kernel_rfl) (fun _ _ _ h => h) (Or.inl ⟨by kernel_rfl, ?_⟩) hHeld ?_
          · intro w hSw
            go_simp
            first | done | omega
          try simp only [Act.put, PA, PB]
          refine wpAnyH_take (i := 32) (oi := _) (v := ?ve33) rfl (by kernel_rfl) (by kernel_rfl) (by kernel_rfl) (fun _ _ _ h => h) (Or.inl ⟨by kernel_rfl, ?hye33⟩) hHeld ?reste33
          case hye33 => (intro w hSw; go_simp; first | done | (with_reducible rfl))
          try simp only [Act.put, PA, PB]
          refine wpAnyH_done (by kernel_rfl) ?_ _
          refine NoPanic.normal ?_
          skip
          replace bb := keepB bb hHeld
          replace b7 := b7.keep hHeld
          replace b10 := b10.keep hHeld
          replace BN := BN.keep hHeld
          replace BT := BT.keep hHeld
          replace hmd := hmd.call hHeld
          replace hbr := hbr.keep hHeld
          have hse := hHeld.size
          clear hHeld d1 n1 t0 t1 t2 t3 t4 t5 y0 y1 y2 y3 y4 y5 z1 z2 z3 x1 x2
          go_wp2_with fail
          obtain ⟨ve, hve⟩ : ∃ ve : World, ve = we0 := ⟨_, rfl⟩
          subst hve
          go_loopw [15, 16] (fun s i W => ∃ u : Nat, u ≤ ln ∧ i = .int .i64 u ∧ Own W ve.heap.size s (((sl.take u).filter (fun x => x != ag)).map fun (x : Nat) => (x : Int)) ∧ Below ve.heap.size ve W) (fun _ i _ => ln - (intOf i).toNat)
          case atStart => exact ⟨0, Nat.zero_le _, rfl, by rw [List.take_zero]; exact Own.nil_ _ _, Below.refl _ _⟩
          case round =>
            obtain ⟨u, hu, rfl, hOw, hbi⟩ := hrel
            have hbi2 := hbi.size
            by_cases hul : u < ln
            · have hus : u < sl.length := by rw [HLN.out]; exact hul
              have u1 : (u : Int) < (ln : Int) := by omega
              have u0 : (0 : Int) ≤ (u : Int) := by omega
              have hlc : ((sl.map fun (j : Nat) => (j : Int)).map (Value.int .i64))[u]? = some (Value.int .i64 ((sl.getD u 0 : Nat) : Int)) := by simp [hus]
              have lc := (hbr.keep hbi).c u hlc
              clear hlc
              have tg := (BT.keep hbi).c 0 rfl
              have HTK2 := Lib.hid (Ch.take_snoc hus)
              generalize sl.getD u 0 = x at *
              clear hus
              go_upto_region 23 with fail
              refine at_worldQ (fun v => Below ve.heap.size ve v ∧ Own v ve.heap.size _ (((sl.take u).filter (fun x => x != ag)).map fun (x : Nat) => (x : Int)) ∧ v.cell? ⟨gr, u, none⟩ = some (.int .i64 (x : Nat)) ∧ v.cell? ⟨w5.heap.size + 1, 0, none⟩ = some (.int .i64 (ag : Nat))) ⟨hbi, hOw, lc, tg⟩ (fun V6 hS => ?_)
              clear hbi hOw lc tg hbi2
              obtain ⟨hbi, hOw, lc, tg⟩ := hS
              by_cases hx : x = ag
              · have x1 : (x : Int) = (ag : Int) := by rw [hx]
                refine wp_region_noPanic ?_
                refine wp_region_held_drew (S := (Below V6.heap.size V6)) (by kernel_rfl) ((Below.refl _ _).drew) (fun hHeld => ?_)
                refine at_anyH (Below V6.heap.size V6) hHeld (fun wf0 hNew => ?_)
                clear hHeld
                have hHeld := hNew
                clear hNew
                refine wpAnyH_take (i := 0) (oi := _) (v := ?vf1) rfl (by kernel_rfl) (by kernel_rfl) (by kernel_rfl) (fun _ _ _ h => h) (Or.inl ⟨by kernel_rfl, ?hyf1⟩) hHeld ?restf1
                case hyf1 => (intro w hSw; go_simp; first | done | (with_reducible rfl))
                try simp only [Act.put, PA, PB]
                refine wpAnyH_take (i := 1) (oi := _) (v := ?vf2) rfl (by kernel_rfl) (by kernel_rfl) (by kernel_rfl) (fun _ _ _ h => h) (Or.inl ⟨by kernel_rfl, ?hyf2⟩) hHeld ?restf2
                case hyf2 => (intro w hSw; go_simp; first | done | (with_reducible rfl))
                try simp only [Act.put, PA, PB]
                refine wpAnyH_take (i := 2) (oi := _) (v := ?vf3) rfl (by kernel_rfl) (by kernel_rfl) (by kernel_rfl) (fun _ _ _ h => h) (Or.inl ⟨by kernel_rfl, ?hyf3⟩) hHeld ?restf3
                case hyf3 => (intro w hSw; go_simp; first | done | (with_reducible rfl))
                try simp only [Act.put, PA, PB]
                refine wpAnyH_take (i := 3) (oi := _) (v := ?vf4) rfl (by kernel_rfl) (by kernel_rfl) (by kernel_rfl) (fun _ _ _ h => h) (Or.inl ⟨by kernel_rfl, ?hyf4⟩) hHeld ?restf4
                case hyf4 => (intro w hSw; have klc := keepC hSw lc; have ktg := keepC hSw tg; go_simp; first | done | (with_reducible rfl))
                try simp only [Act.put, PA, PB]
                refine wpAnyH_take (i := 4) (oi := _) (v := ?vf5) rfl (by kernel_rfl) (by kernel_rfl) (by kernel_rfl) (fun _ _ _ h => h) (Or.inl ⟨by kernel_rfl, ?hyf5⟩) hHeld ?restf5
                case hyf5 => (intro w hSw; go_simp; first | done | (with_reducible rfl))
                try simp only [Act.put, PA, PB]
                refine wpAnyH_take (i := 5) (oi := _) (v := ?vf6) rfl (by kernel_rfl) (by kernel_rfl) (by kernel_rfl) (fun _ _ _ h => h) (Or.inl ⟨by kernel_rfl, ?hyf6⟩) hHeld ?restf6
                case hyf6 => (intro w hSw; have klc := keepC hSw lc; have ktg := keepC hSw tg; go_simp; first | done | (with_reducible rfl))
                try simp only [Act.put, PA, PB]
                refine wpAnyH_take (i := 6) (oi := _) (v := .bool false) rfl (by kernel_rfl) (by kernel_rfl) (by kernel_rfl) (fun _ _ _ h => h) (Or.inl ⟨by kernel_rfl, ?_⟩) hHeld ?_
                · intro w hSw
                  go_simp
                  first | done | exact x1
                try simp only [Act.put, PA, PB]
                refine wpAnyH_done (by kernel_rfl) ?_ _
                refine NoPanic.normal ?_
                replace hbi := keepB hbi hHeld
                replace hOw := hOw.keepB hHeld
                replace lc := keepC hHeld lc
                replace tg := keepC hHeld tg
                clear hHeld
                go_wp2_with fail
                go_roundw
                case rel =>
                  refine ⟨u + 1, by omega, by go_num, ?_, hbi⟩
                  rw [HTK2.out, List.filter_append]
                  have : [x].filter (fun x => x != ag) = [] := by simp [hx]
                  rw [this, List.append_nil]
                  exact hOw
                case measure => (simp [intOf] <;> omega)
              · have x1 : ¬ (x : Int) = (ag : Int) := by omega
                refine wp_region_noPanic ?_
                refine wp_region_held_drew (S := (Below V6.heap.size V6)) (by kernel_rfl) ((Below.refl _ _).drew) (fun hHeld => ?_)
                refine at_anyH (Below V6.heap.size V6) hHeld (fun wg0 hNew => ?_)
                clear hHeld
                have hHeld := hNew
                clear hNew
                refine wpAnyH_take (i := 0) (oi := _) (v := ?vg1) rfl (by kernel_rfl) (by kernel_rfl) (by kernel_rfl) (fun _ _ _ h => h) (Or.inl ⟨by kernel_rfl, ?hyg1⟩) hHeld ?restg1
                case hyg1 => (intro w hSw; go_simp; first | done | (with_reducible rfl))
                try simp only [Act.put, PA, PB]
                refine wpAnyH_take (i := 1) (oi := _) (v := ?vg2) rfl (by kernel_rfl) (by kernel_rfl) (by kernel_rfl) (fun _ _ _ h => h) (Or.inl ⟨by kernel_rfl, ?hyg2⟩) hHeld ?restg2
                case hyg2 => (intro w hSw; go_simp; first | done | (with_reducible rfl))
                try simp only [Act.put, PA, PB]
                refine wpAnyH_take (i := 2) (oi := _) (v := ?vg3) rfl (by kernel_rfl) (by kernel_rfl) (by kernel_rfl) (fun _ _ _ h => h) (Or.inl ⟨by kernel_rfl, ?hyg3⟩) hHeld ?restg3
                case hyg3 => (intro w hSw; go_simp; first | done | (with_reducible rfl))
                try simp only [Act.put, PA, PB]
                refine wpAnyH_take (i := 3) (oi := _) (v := ?vg4) rfl (by kernel_rfl) (by kernel_rfl) (by kernel_rfl) (fun _ _ _ h => h) (Or.inl ⟨by kernel_rfl, ?hyg4⟩) hHeld ?restg4
                case hyg4 => (intro w hSw; have klc := keepC hSw lc; have ktg := keepC hSw tg; go_simp; first | done | (with_reducible rfl))
                try simp only [Act.put, PA, PB]
                refine wpAnyH_take (i := 4) (oi := _) (v := ?vg5) rfl (by kernel_rfl) (by kernel_rfl) (by kernel_rfl) (fun _ _ _ h => h) (Or.inl ⟨by kernel_rfl, ?hyg5⟩) hHeld ?restg5
                case hyg5 => (intro w hSw; go_simp; first | done | (with_reducible rfl))
                try simp only [Act.put, PA, PB]
                refine wpAnyH_take (i := 5) (oi := _) (v := ?vg6) rfl (by kernel_rfl) (by kernel_rfl) (by kernel_rfl) (fun _ _ _ h => h) (Or.inl ⟨by kernel_rfl, ?hyg6⟩) hHeld ?restg6
                case hyg6 => (intro w hSw; have klc := keepC hSw lc; have ktg := keepC hSw tg; go_simp; first | done | (with_reducible rfl))
                try simp only [Act.put, PA, PB]
                refine wpAnyH_take (i := 6) (oi := _) (v := .bool true) rfl (by kernel_rfl) (by kernel_rfl) (by kernel_rfl) (fun _ _ _ h => h) (Or.inl ⟨by kernel_rfl, ?_⟩) hHeld ?_
                · intro w hSw
                  go_simp
                  first | done | exact x1
                try simp only [Act.put, PA, PB]
                refine wpAnyH_done (by kernel_rfl) ?_ _
                refine NoPanic.normal ?_
                replace hbi := keepB hbi hHeld
                replace hOw := hOw.keepB hHeld
                replace lc := keepC hHeld lc
                replace tg := keepC hHeld tg
                clear hHeld
                have lc2 := lc
                have HXX := Lib.hid (show ((sl.take (u + 1)).filter (fun x => x != ag)).map (fun (x : Nat) => (x : Int)) = ((sl.take u).filter (fun x => x != ag)).map (fun (x : Nat) => (x : Int)) ++ [(x : Int)] by
                  rw [HTK2.out, List.filter_append, List.map_append]
                  have : [x].filter (fun x => x != ag) = [x] := by simp [hx]
                  rw [this]
                  rfl)
                obtain ⟨T, hT⟩ : ∃ T, ((sl.take u).filter (fun x => x != ag)).map (fun (x : Nat) => (x : Int)) = T := ⟨_, rfl⟩
                have hTl : T.length ≤ u := by
                  rw [← hT, List.length_map]
                  have h1 := List.length_filter_le (fun x => x != ag) (sl.take u)
                  have h2 := List.length_take_le u sl
                  omega
                rw [hT] at hOw
                have HT2 := Lib.hid hT
                obtain ⟨nE, hE'⟩ : ∃ z, T.length = z := ⟨_, rfl⟩
                have hE := Lib.hid hE'
                have hk6 : nE ≤ 6 := by omega
                unfold Own at hOw
                rw [hE'] at hOw
                clear hT hTl hE' lc2
                have hbi2 := hbi.size
                go_wp2_with (at_builtin; refine wpList_append_lies _ rfl _ _ _ rfl (ve.heap.size) 3 i0 _ 1 8 Try.underlying31 HI.out HI2.out HI3.out HI4.out rfl (by omega) _ nE (T.map (Value.int .i64)) (by rfl) (World.ownsRow.alloc hOw _) ⟨wg0.heap.size, 0, none⟩ 1 1 [.int .i64 (x : Int)] (by rfl) (by rfl) (World.news_of_block (cs := #[.int .i64 (x : Int)]) (t := 3) (fr := (0, 0)) (heap_alloc_new wg0 _)) (by simp [Value.oneCell']) (by omega) (by unfold maxLen; omega) (by omega) (by simp; omega) (wg0.heap.size + 1) (by simp) ?_; intro g9 cap9 w9 hown1 hgrow hat hglt)
                all_goals
                  (try go_wp2_with fail)
                  go_roundw
                  case rel =>
                    refine ⟨u + 1, by omega, by go_num, ?_, ?_⟩
                    · rw [HXX.out, HT2.out]
                      unfold Own
                      rw [List.length_append, hE.out, List.map_append]
                      exact hown1
                    · exact (below_al hbi _).grown hgrow (by have := hbi.size; simp; omega) (fun j ej => (World.ownsRow.lt hOw j ej).1)
                  case measure => (simp [intOf] <;> omega)
            · obtain rfl : u = ln := by omega
              have u1 : ¬ (u : Int) < (u : Int) := by omega
              have htk : sl.take u = sl := List.take_of_length_le (by rw [HLN.out]; exact Nat.le_refl _)
              rw [htk] at hOw
              clear htk
              have hbv := keepB bb hbi
              replace b7 := b7.keep hbi
              replace b10 := b10.keep hbi
              replace BN := BN.keep hbi
              replace BT := BT.keep hbi
              replace hmd := hmd.call hbi
              go_upto_region 25 with fail
              refine at_worldQ (fun v => Below w2.heap.size w2 v ∧ Own v ve.heap.size _ ((sl.filter (fun x => x != ag)).map fun (x : Nat) => (x : Int)) ∧ BK v p7 [.slice A2 m3 ca2, .slice Q2 nq2 cq2] ∧ BK v p10 [.int .i64 sa, .int .i64 sb] ∧ BK v w5.heap.size [.slice A3 m3 ca3, .slice Q3 nq3 cq3] ∧ BK v (w5.heap.size + 1) [.int .i64 (ag : Nat), .int .i64 ta, .int .i64 tb, .int .i64 tx, .int .i64 ty, .int .i64 (tt : Nat)] ∧ Mid lo3 Wd3 v) ⟨hbv, hOw, b7, b10, BN, BT, hmd⟩ (fun V7 hS => ?_)
              clear hbv hOw b7 b10 BN BT hmd bb hbr hbi hbi2
              obtain ⟨bb, hOw, B7, B10, BN, BT, hmd⟩ := hS
              have c0 := BN.c 0 rfl
              have c1 := BN.c 1 rfl
              have x3 := BT.c 3 rfl
              have x4 := BT.c 4 rfl
              refine wp_region_noPanic ?_
              refine wp_region_held_drew (S := (GB (fun b => b = p7 ∨ b = p10) V7)) (by kernel_rfl) ((GB.refl _ _).drew) (fun hHeld => ?_)
              refine at_anyH (fun v => GB (fun b => b = p7 ∨ b = p10) V7 v ∧ BK v (p7) [.slice A2 m3 ca2, .slice Q2 nq2 cq2] ∧ BK v (p10) [.int .i64 sa, .int .i64 sb]) ⟨hHeld, B7.drew, B10.drew⟩ (fun wk0 hNew => ?_)
              clear hHeld B7 B10
              obtain ⟨hHeld, B7, B10⟩ := hNew
              refine wpAnyH_take (i := 0) (oi := _) (v := ?vk1) rfl (by kernel_rfl) (by kernel_rfl) (by kernel_rfl) (fun _ _ _ h => h) (Or.inl ⟨by kernel_rfl, ?hyk1⟩) hHeld ?restk1
              case hyk1 => (intro w hSw; have kc0 := hSw.cell (by omega) c0; have kc1 := hSw.cell (by omega) c1; have kx3 := hSw.cell (by omega) x3; have kx4 := hSw.cell (by omega) x4; go_simp; first | done | (with_reducible rfl))
              try simp only [Act.put, PA, PB]
              refine wpAnyH_take (i := 1) (oi := _) (v := ?vk2) rfl (by kernel_rfl) (by kernel_rfl) (by kernel_rfl) (fun _ _ _ h => h) (Or.inl ⟨by kernel_rfl, ?hyk2⟩) hHeld ?restk2
              case hyk2 => (intro w hSw; go_simp; first | done | (with_reducible rfl))
              try simp only [Act.put, PA, PB]
              refine wpAnyH_take (i := 2) (oi := _) (v := ?vk3) rfl (by kernel_rfl) (by kernel_rfl) (by kernel_rfl) (fun _ _ _ h => h) (Or.inl ⟨by kernel_rfl, ?hyk3⟩) hHeld ?restk3
              case hyk3 => (intro w hSw; go_simp; first | done | (with_reducible rfl))
              try simp only [Act.put, PA, PB]
              refine wpAnyH_take (i := 3) (oi := _) (v := ?vk4) rfl (by kernel_rfl) (by kernel_rfl) (by kernel_rfl) (fun _ _ _ h => h) (Or.inl ⟨by kernel_rfl, ?hyk4⟩) hHeld ?restk4
              case hyk4 => (intro w hSw; have kc0 := hSw.cell (by omega) c0; have kc1 := hSw.cell (by omega) c1; have kx3 := hSw.cell (by omega) x3; have kx4 := hSw.cell (by omega) x4; go_simp; first | done | (with_reducible rfl))
              try simp only [Act.put, PA, PB]
              refine wpAnyH_ready (rs := [4]) (by kernel_rfl) (by simp) (AllReadyH.cons (o := _) rfl (fun K hK => ?_) AllReadyH.nil)
              have n0 := B7.c 0 rfl
              have f0 := B7.f 0 rfl
              have n1 := B7.c 1 rfl
              have f1 := B7.f 1 rfl
              go_simp
              clear n0 f0 n1 f1
              refine hK.out _ _ ((hHeld.set (.inl (.inl rfl)) _).set (.inl (.inl rfl)) _) (fun hNew => ?_)
              clear hHeld hK K
              have hHeld := hNew
              clear hNew
              try simp only [Act.put, PA, PB]
              refine at_anyH (fun v => GB (fun b => b = p7 ∨ b = p10) V7 v ∧ BK v (p7) [.slice A3 m3 ca3, .slice Q3 nq3 cq3] ∧ BK v (p10) [.int .i64 sa, .int .i64 sb]) ⟨hHeld, ((B7.set 0 _).set 1 _), ((B10.far (by omega) _ _).far (by omega) _ _)⟩ (fun wk5 hS => ?_)
              clear hHeld B7 B10
              obtain ⟨hHeld, B7, B10⟩ := hS
              refine wpAnyH_take (i := 5) (oi := _) (v := ?vk6) rfl (by kernel_rfl) (by kernel_rfl) (by kernel_rfl) (fun _ _ _ h => h) (Or.inl ⟨by kernel_rfl, ?hyk6⟩) hHeld ?restk6
              case hyk6 => (intro w hSw; go_simp; first | done | (with_reducible rfl))
              try simp only [Act.put, PA, PB]
              refine wpAnyH_ready (rs := [6]) (by kernel_rfl) (by simp) (AllReadyH.cons (o := _) rfl (fun K hK => ?_) AllReadyH.nil)
              have n0 := B10.c 0 rfl
              have f0 := B10.f 0 rfl
              have n1 := B10.c 1 rfl
              have f1 := B10.f 1 rfl
              go_simp
              clear n0 f0 n1 f1
              refine hK.out _ _ ((hHeld.set (.inl (.inr rfl)) _).set (.inl (.inr rfl)) _) (fun hNew => ?_)
              clear hHeld hK K
              have hHeld := hNew
              clear hNew
              try simp only [Act.put, PA, PB]
              refine at_anyH (fun v => GB (fun b => b = p7 ∨ b = p10) V7 v ∧ BK v (p7) [.slice A3 m3 ca3, .slice Q3 nq3 cq3] ∧ BK v (p10) [.int .i64 tx, .int .i64 ty]) ⟨hHeld, ((B7.far (by omega) _ _).far (by omega) _ _), ((B10.set 0 _).set 1 _)⟩ (fun wk7 hS => ?_)
              clear hHeld B7 B10
              obtain ⟨hHeld, B7, B10⟩ := hS
              refine wpAnyH_done (by kernel_rfl) ?_ _
              refine NoPanic.normal ?_
              have hmd2 := hmd.gb hHeld (fun k h1 h2 e => by
                have := HG3.out k h1 h2
                omega)
              have hbb9 := hHeld.toBelow bb (fun k hk => by omega) (by have := bb.size; omega)
              have how9 := Own.mono (row_mid (B := ve.heap.size) hOw ⟨hHeld.size, fun k h1 h2 => hHeld.block k h2 (by omega)⟩) (show w2.heap.size + 2 ≤ ve.heap.size by omega)
              go_wp2_with fail
              go_roundw
              case rel =>
                refine ⟨j + 1, A3, ca3, cs3, Q3, cq3, by omega, by go_num, ?_⟩
                rw [HNX.out]
                exact ⟨by rw [HNN2.out]; exact B7, HM3.out.symm, HD3.out, DkS.fd HF3.out hmd2 HG3.out, by rw [HNA.out.1, HNA.out.2]; exact B10, by rw [HNL.out]; exact how9, hbb9⟩
              case measure => (simp [intOf] <;> omega)
        · obtain rfl : j = k := by omega
          have i1 : ¬ (j : Int) < (j : Int) := by omega
          obtain ⟨b7, cl, dt, dk, b10, ow, bb⟩ := hst
          have hqs := HQS.out
          have hnq := HNQ.out
          rw [hs] at b7 dk hqs hnq
          have dq := dk.is.2
          have sm := rSameLogs_any Q2 Q cq2 cq s.L s.L wi dq (hqs.keep bb)
          rw [decide_eq_true rfl] at sm
          obtain ⟨nL, hnL⟩ : ∃ z, s.L.length = z := ⟨_, rfl⟩
          rw [hnL] at b7 hnq sm
          subst hnq
          have SM := Lib.hid sm
          clear sm dq dk hqs hnL hs ow cl dt b10
          have p1 := b7.c 1 rfl
          go_wp2_with fail
          refine SM.out.mono ?_
          rintro e w8 ⟨rfl, hb8⟩
          have hb9 := keepB (hbb.trans (bb.mono hw2)) hb8
          clear hb8 p1 b7
          go_wp2_with fail
          refine (alive8_any _).mono ?_
          rintro e w9 ⟨rfl, hb⟩
          replace hb9 := keepB hb9 hb
          clear hb
          go_wp2_with fail
          go_ret
          exact ⟨rfl, hb9⟩
end Go.Proofs.Ytnnpmegknlgkoaa

/- Proved: for any slice of cakes, nil too, valid or not, the law TrimSteps answers true and leaves its argument as it was. No condition. -/
namespace Go.Proofs.Ytnnpmegknlgkoaa.lawTrimSteps
open Go.ChangeShapes Go.WideShapes Go.ChangeAt Go.RowKit Go.Joins

theorem types_ok : ∀ t ∈ Try.f7.params.toList, Try.prog.readableRec t = true ∧ t < Try.prog.types.size := by
  have h : (Try.f7.params.toList.all fun t => Try.prog.readableRec t && decide (t < Try.prog.types.size)) = true := by kernel_rfl
  intro t ht
  have := List.all_eq_true.1 h t ht
  simpa using this

set_option maxRecDepth 100000 in
theorem contract (H : Type) (enc : TypeId × Value → H) (W : World) (base : Nat) (args : Array Value) (ds gs : List (DataW H)) (before : List MemPlace)
    (hval : ∀ (j : Nat) t v, Try.f7.params[j]? = some t → args[j]? = some v → Value.okWide Try.prog W .any base t v)
    (hW : DataW.Whole enc Try.prog Try.f7.params.toList Rows.trimStepsSpec.vars false W args.toList ds gs before) :
    Calls Try.prog 7 args W fun e W' => ∃ v, e = .returned v ∧ Rows.trimStepsSpec.post enc Try.prog Try.f7 false true false false W args v W' := by
  have hW' := hW
  obtain ⟨p, q, hA0, hV, rfl, hfz, hnd⟩ := hW
  have hA : DataW.TrodAll enc Try.prog W 0 (fun _ => true) true Try.f7.params.toList args.toList ds p := hA0
  rw [Try.params7] at hA hval
  obtain ⟨v0, vs0, d0, ds0, p0, q0, hargs, rfl, rfl, h0, r0⟩ := trodAll_cons hA
  obtain ⟨rfl, rfl, rfl⟩ := trodAll_nil r0
  obtain rfl : args = #[v0] := by cases args; simp_all
  obtain ⟨rfl, rfl⟩ := trodVars_none hV
  clear hA0
  obtain ⟨A0, cap0, xs0, rfl, wx0⟩ := open_cakes (hval 0 45 v0 rfl rfl) h0
  refine (steps_walk A0 cap0 xs0 W wx0).mono fun e W' ⟨he, hg⟩ => ?_
  subst he
  exact ⟨_, rfl, post_bool_below laidOut types_ok rfl hW' (fun _ _ _ => (trodAll_cons_mk (shut_bool Try.underlying4 _) trodAll_mk0)) rfl rfl hg (ok_one (by kernel_rfl) rfl (okWide_bool_mk Try.underlying4 _))⟩

set_option maxRecDepth 100000 in
theorem lifted (os : Os) (started : os.Started) (H : Type) (enc : TypeId × Value → H) :
    ReturnsInHanded {} Try.checked os 7 .any (Rows.trimStepsSpec.pre6 enc Try.prog Try.f7 Rows.trimStepsRow.domain false) (Rows.trimStepsSpec.post enc Try.prog Try.f7 false true false false) := by
  refine returnsInHanded_of_change (C := Try.checked) own started (by kernel_rfl) Try.func7
    (ChangeSpec.witness6 (enc := enc) (C := Try.checked) false ⟨#[], #[.slice none 0 0], []⟩ 8 (by kernel_rfl) (by kernel_rfl) (by kernel_rfl) (by kernel_rfl)) ?_
  intro W base args ds gs before hval hW _ _
  exact contract H enc W base args ds gs before hval hW

theorem proved : Rows.TrimStepsSaid :=
  OpenClaim.holds_of_wide 7 Try.f7 rfl rfl rfl rfl rfl rfl rfl ⟨rfl, rfl, rfl, rfl, rfl⟩ rfl rfl rfl rfl rfl (by kernel_rfl) Try.func7 (by kernel_rfl)
    (of_decide_eq_true (by kernel_rfl)) (by unfold Func.isWrapper; first | (rw [if_pos (by decide +kernel)]; kernel_rfl) | (rw [if_neg (by decide +kernel)]; exact ⟨rfl, rfl⟩))
    (fun os started H enc _ => lifted os started H enc)
end Go.Proofs.Ytnnpmegknlgkoaa.lawTrimSteps
