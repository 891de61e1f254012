/- The law KnifeSpans. -/
import Derived.Test.YtniagnldiegamaaGreatRsp
import Derived.Test.YtniagnldiegamaaGreatWf
import Derived.Test.YtniagnldiegamaaGreatGi
set_option linter.unusedSimpArgs false
set_option maxHeartbeats 8000000
set_option maxRecDepth 100000
namespace Go.Proofs.YtniagnldiegamaaGreat
open Go.RowKit
namespace Kn
/-- The span of an agent. -/
def spS (T : List Sp) (k : Nat) : Int × Int × Int × Int := match T.find? (fun s => s.1 == k) with
  | some t => (t.2.1, t.2.2.1, t.2.2.2.1, t.2.2.2.2)
  | none => (0, 0, 0, 0)
theorem find_sm {T : List Sp} {j : Nat} (h : j ∈ T.map fun t => t.1) : ∃ t ∈ T, t.1 = j ∧ T.find? (fun s => s.1 == j) = some t := by
  obtain ⟨t, ht, e⟩ := List.mem_map.1 h; have hf : (T.find? (fun s => s.1 == j)).isSome = true := List.find?_isSome.2 ⟨t, ht, by simp [e]⟩; obtain ⟨s, hs⟩ := Option.isSome_iff_exists.1 hf; have h1 := List.find?_some hs; exact ⟨s, List.mem_of_find?_eq_some hs, by simpa using h1, hs⟩
theorem pvs_all {T : List Sp} {G : Nat → Nat} {nn : Nat} (h : ∀ k, k < nn → k ∈ T.map fun t => t.1) : pvs nn T G (fun _ => Value.slice none 0 0) = (List.range nn).map fun k => .slice (some ⟨G k, 0, none⟩) 1 1 := by
  unfold pvs
  refine List.map_congr_left fun k hk => ?_
  unfold pv
  rw [if_pos (h k (List.mem_range.1 hk))]
theorem spS_bk {T : List Sp} {G : Nat → Nat} {v : World} (h : ∀ t ∈ T, BK v (G t.1) (spc t)) {k : Nat} (hk : k ∈ T.map fun t => t.1) : BK v (G k) (qcells4 (spS T k)) := by
  obtain ⟨t, ht, e, hf⟩ := find_sm hk
  unfold spS
  rw [hf]; have := h t ht; rw [e] at this; exact this
end Kn
theorem sameDiv_nil (w : World) : Calls Tryz.prog 13 #[.agg #[.slice none 0 0], .agg #[.slice none 0 0]] w fun e w' => e = .returned (.bool true) ∧ Below w.heap.size w w' := by
  go_enter Tryz.func13, Tryz.ntmps13
  go_upto_region 1 with fail
  refine at_box2 (fun V hbb B0 B1 hVs => ?_); have BX := B0; have BY := B1; clear B0 B1 hVs; have x0 := BX.c 0 rfl; have y0 := BY.c 0 rfl; (go_wp2_with fail); clear x0 y0
  go_loopw [5] (fun i W => i = .int .i64 0 ∧ Below w.heap.size w W ∧ BK W w.heap.size [.slice none 0 0] ∧ BK W (w.heap.size + 1) [.slice none 0 0]) (fun _ _ => 0)
  case atStart => exact ⟨rfl, hbb, BX, BY⟩
  case round =>
    clear hbb BX BY; obtain ⟨rfl, hbb, BX, BY⟩ := hrel; have x0 := BX.c 0 rfl; have y0 := BY.c 0 rfl; (go_wp2_with fail)
    go_ret
    exact ⟨rfl, hbb⟩
theorem sameL_nil (w : World) : Calls Tryz.prog 26 #[.slice none 0 0, .slice none 0 0] w fun e w' => e = .returned (.bool true) ∧ Below w.heap.size w w' := by
  go_enter Tryz.func26, Tryz.ntmps26
  go_wp2_with fail
  go_loopw [5] (fun i W => i = .int .i64 0 ∧ Below w.heap.size w W) (fun _ _ => 0)
  case atStart => exact ⟨rfl, Below.refl _ _⟩
  case round =>
    obtain ⟨rfl, hbb⟩ := hrel; (go_wp2_with fail)
    go_ret
    exact ⟨rfl, hbb⟩
theorem knspans_bad (A : Option Addr) (ca : Nat) (cs : List CkR) (z : Int) (w : World) (h : IsCs w A cs) (hz : Ak.chkS (cs.map Ak.dat) 0 = z) (hne : z ≠ 0) :
    Calls Tryz.prog 24 #[.slice A cs.length ca] w fun e w' => e = .returned (.tuple #[.agg #[.slice none 0 0], .slice none 0 0, .slice none 0 0, .int .i64 z]) ∧ Below w.heap.size w w' := by
  have op := fun v (hv : Below w.heap.size w v) => askOpen_any A ca cs v (h.keep hv)
  unfold OpenQ at op
  rw [hz] at op; have OP := Lib.hid op; have HNZ := Lib.hid hne
  have n1 : (z != 0) = true := by rw [bne_iff_ne]; exact hne
  clear op hz h hne
  go_enter Tryz.func24, Tryz.ntmps24
  go_upto_region 1 with fail
  refine at_box1 (fun V hbb B0 hVs => ?_); clear hVs; (go_wp2_with fail); refine (OP.out _ hbb).mono ?_; rintro e w1 ⟨hb, ⟨_, rfl⟩ | ⟨he, _⟩⟩
  rotate_left
  · exact absurd he HNZ.out
  replace hbb := keepB hbb hb; replace B0 := B0.keep hb; clear hb; have hsBD := hbb.size
  go_upto_region 2 with fail
  refine at_worldQ (fun v => Below w.heap.size w v ∧ BK v (w.heap.size) [.slice none 0 0] ∧ BK v w1.heap.size [.slice none 0 0, .slice none 0 0]) ⟨below_al hbb _, B0.al _, BK.new _ _ _⟩ (fun VBD hS => ?_); clear hbb B0; obtain ⟨hbb, B0, BD⟩ := hS; obtain ⟨pBD, hpBD⟩ : ∃ z, w1.heap.size = z := ⟨_, rfl⟩; rw [hpBD] at BD hsBD  ⊢; clear hpBD; have r0 := B0.c 0 rfl; have g0 := B0.f 0 rfl; (go_wp2_with fail); exact bodyPost_ret (v := .tuple #[.agg #[.slice none 0 0], .slice none 0 0, .slice none 0 0, .int .i64 z]) (by simp [results, Tryz.results24, go_sem, r0]) rfl ⟨rfl, below_set hbb (by omega) _⟩
theorem rspans_bad (A : Option Addr) (ca : Nat) (cs : List CkR) (z : Int) (w : World) (h : IsCs w A cs) (hz : Ak.chkS (cs.map Ak.dat) 0 = z) (hne : z ≠ 0) :
    Calls Tryz.prog 25 #[.slice A cs.length ca] w fun e w' => e = .returned (.tuple #[.agg #[.slice none 0 0], .slice none 0 0, .slice none 0 0, .int .i64 z]) ∧ Below w.heap.size w w' := by
  have op := fun v (hv : Below w.heap.size w v) => ropen_any A ca cs v (h.keep hv)
  unfold OpenQ at op
  rw [hz] at op; have OP := Lib.hid op; have HNZ := Lib.hid hne
  have n1 : (z != 0) = true := by rw [bne_iff_ne]; exact hne
  clear op hz h hne
  go_enter Tryz.func25, Tryz.ntmps25
  go_upto_region 1 with fail
  refine at_box1 (fun V hbb B0 hVs => ?_); clear hVs; (go_wp2_with fail); refine (OP.out _ hbb).mono ?_; rintro e w1 ⟨hb, ⟨_, rfl⟩ | ⟨he, _⟩⟩
  rotate_left
  · exact absurd he HNZ.out
  replace hbb := keepB hbb hb; replace B0 := B0.keep hb; clear hb; have hsBD := hbb.size
  go_upto_region 2 with fail
  refine at_worldQ (fun v => Below w.heap.size w v ∧ BK v (w.heap.size) [.slice none 0 0] ∧ BK v w1.heap.size [.slice none 0 0, .slice none 0 0]) ⟨below_al hbb _, B0.al _, BK.new _ _ _⟩ (fun VBD hS => ?_); clear hbb B0; obtain ⟨hbb, B0, BD⟩ := hS; obtain ⟨pBD, hpBD⟩ : ∃ z, w1.heap.size = z := ⟨_, rfl⟩; rw [hpBD] at BD hsBD  ⊢; clear hpBD; have r0 := B0.c 0 rfl; have g0 := B0.f 0 rfl; (go_wp2_with fail); exact bodyPost_ret (v := .tuple #[.agg #[.slice none 0 0], .slice none 0 0, .slice none 0 0, .int .i64 z]) (by simp [results, Tryz.results25, go_sem, r0]) rfl ⟨rfl, below_set hbb (by omega) _⟩
theorem kspans_walk (A : Option Addr) (ca : Nat) (cs : List CkR) (w : World) (h : IsCs w A cs) :
    Calls Tryz.prog 6 #[.slice A cs.length ca] w fun e w' => e = .returned (.bool true) ∧ Below w.heap.size w w' := by
  have gr := rGreatCakes_any A ca cs w h
  cases hg : Ak.greatCs (cs.map Ak.dat)
  case true =>
    rw [hg] at gr; have GR := Lib.hid gr; clear gr hg h
    go_enter Tryz.func6, Tryz.ntmps6
    (go_wp2_with fail); refine GR.out.mono ?_; rintro e w1 ⟨rfl, hb⟩; (go_wp2_with fail)
    go_ret
    exact ⟨rfl, hb⟩
  rw [hg] at gr; have GR := Lib.hid gr; clear gr hg; obtain ⟨z, hz⟩ : ∃ z, Ak.chkS (cs.map Ak.dat) 0 = z := ⟨_, rfl⟩
  by_cases hne : z = 0
  · subst hne
    have hc := hz; obtain ⟨D, hD⟩ : ∃ z, cs.map Ak.dat = z := ⟨_, rfl⟩; rw [hD] at hc; have hgd := Ak.chkS_good hc; have hn6 := hgd.l1; have hn1 := hgd.l0; obtain ⟨nn, hnn⟩ : ∃ z, cs.length = z := ⟨_, rfl⟩
    have hDl : D.length = nn := by rw [← hD, List.length_map, hnn]
    obtain ⟨n, hn⟩ : ∃ z : Int, z = (D.length : Nat) := ⟨_, rfl⟩; obtain ⟨len, hlen⟩ : ∃ z, (Ak.dAt D 0).1 = z := ⟨_, rfl⟩
    have ks := fun v (hv : Below w.heap.size w v) => knspans_any D n len nn A ca cs v (h.keep hv) hD hc hnn hlen hn (fun k hk => Kn.tk_new hc hn hlen (by omega))
    have rs := fun v (hv : Below w.heap.size w v) => rspans_any D n len nn A ca cs v (h.keep hv) hD hc hnn hlen hn
    have hall : ∀ k, k < nn → k ∈ (Kn.Tk D n len nn).map fun t => t.1 := fun k hk => by
      have hp := Kn.tk_perm hc hn hlen; rw [hDl] at hp; exact hp.mem_iff.2 (List.mem_range.2 hk)
    have hol := Kn.ors_len D n len nn; rw [hDl] at hn6; have KS := Lib.hid ks; have RS := Lib.hid rs; have ALL := Lib.hid hall; have HOL := Lib.hid hol; rw [hnn] at GR ⊢; clear ks rs hall hol hc hz hD hgd hn1 hnn hDl hn hlen h
    unfold RunK at KS RS
    go_enter Tryz.func6, Tryz.ntmps6
    (go_wp2_with fail); refine GR.out.mono ?_; rintro e w1 ⟨rfl, hb⟩; have hbb := hb; clear hb GR; (go_wp2_with fail); refine (KS.out _ hbb).mono ?_; rintro e w2 ⟨Pp, go, co, Q, q, cq, G, rfl, hb, hq, hqs, hbo, hbp, hbg⟩; replace hbb := keepB hbb hb; clear hb KS; have HQ := Lib.hid hqs; have HO := Lib.hid hbo; have HP := Lib.hid hbp; have HG := Lib.hid hbg; have HQL := Lib.hid hq; clear hqs hbo hbp hbg hq
    go_upto_region 4 with fail
    refine at_worldQ (fun v => Below w.heap.size w v ∧ BK v w2.heap.size [.slice (some ⟨Pp, 0, none⟩) nn nn] ∧ Below w2.heap.size w2 v) ⟨below_al hbb _, BK.new _ _ _, below_al (Below.refl _ _) _⟩ (fun V4 hS => ?_); clear hbb; obtain ⟨hbb, B3, h24⟩ := hS; obtain ⟨p3, hp3⟩ : ∃ z, w2.heap.size = z := ⟨_, rfl⟩; rw [hp3] at B3 ⊢; replace HQ := Lib.hid (HQ.out.keep h24); replace HO := Lib.hid (HO.out.keep h24); replace HP := Lib.hid (HP.out.keep h24); replace HG := Lib.hid (fun t ht => (HG.out t ht).keep h24); clear h24 hp3; (go_wp2_with fail); refine (RS.out _ hbb).mono ?_; rintro e w3 ⟨Pp2, go2, co2, Q2, q2, cq2, G2, rfl, hb, hq2, hqs2, hbo2, hbp2, hbg2⟩; replace hbb := keepB hbb hb; replace B3 := B3.keep hb; replace HQ := Lib.hid (HQ.out.keep hb); replace HO := Lib.hid (HO.out.keep hb); replace HP := Lib.hid (HP.out.keep hb); replace HG := Lib.hid (fun t ht => (HG.out t ht).keep hb); have HQ2 := Lib.hid hqs2; have HO2 := Lib.hid hbo2; have HP2 := Lib.hid hbp2; have HG2 := Lib.hid hbg2; have HQL2 := Lib.hid hq2; clear hb RS hqs2 hbo2 hbp2 hbg2 hq2
    go_upto_region 5 with fail
    refine at_worldQ (fun v => Below w.heap.size w v ∧ BK v p3 [.slice (some ⟨Pp, 0, none⟩) nn nn] ∧ BK v w3.heap.size [.slice (some ⟨Pp2, 0, none⟩) nn nn] ∧ Below w3.heap.size w3 v) ⟨below_al hbb _, B3.al _, BK.new _ _ _, below_al (Below.refl _ _) _⟩ (fun V5 hS => ?_); clear hbb B3; obtain ⟨hbb, B3, B7, h35⟩ := hS; obtain ⟨p7, hp7⟩ : ∃ z, w3.heap.size = z := ⟨_, rfl⟩; rw [hp7] at B7 ⊢; have hp1 := HP.out.keep h35; have hp2 := HP2.out.keep h35; rw [Kn.pvs_all ALL.out] at hp1 hp2; have sd := sameDivN_eq Pp Pp2 nn G G2 (Kn.spS (Kn.Tk D n len nn)) V5 hn6 hp1 hp2 (fun k hk => Kn.spS_bk (fun t ht => (HG.out t ht).keep h35) (ALL.out k hk)) (fun k hk => Kn.spS_bk (fun t ht => (HG2.out t ht).keep h35) (ALL.out k hk)); have SD := Lib.hid sd
    have so := fun v (hv : Below V5.heap.size V5 v) => sameL_eq go go2 nn co co2 (Kn.ors D n len nn) v HOL.out hn6 ((HO.out.keep h35).keep hv) ((HO2.out.keep h35).keep hv)
    have sl := fun v (hv : Below V5.heap.size V5 v) => rSameLogs_any Q Q2 cq cq2 (Kn.sts D n len nn).L (Kn.sts D n len nn).L v ((HQ.out.keep h35).keep hv) ((HQ2.out.keep h35).keep hv)
    rw [decide_eq_true rfl] at sl; have el := HQL.out; have el2 := HQL2.out; rw [el] at sl; have eq2 : q2 = q := el2.symm.trans el; subst eq2; have SO := Lib.hid so; have SL := Lib.hid sl; clear sd so sl hp1 hp2 h35 hp7 el el2 HQ HO HP HG HQ2 HO2 HP2 HG2 HQL HQL2 HOL; have d0 := B3.c 0 rfl; have d1 := B7.c 0 rfl; (go_wp2_with fail); refine SD.out.mono ?_; rintro e w5 ⟨rfl, hb⟩; have hb5 := hb; clear hb SD d0 d1 B3 B7; (go_wp2_with fail); refine (SO.out _ hb5).mono ?_; rintro e w6 ⟨rfl, hb⟩; replace hb5 := keepB hb5 hb; clear hb SO; (go_wp2_with fail); refine (SL.out _ hb5).mono ?_; rintro e w7 ⟨rfl, hb⟩; replace hb5 := keepB hb5 hb; replace hbb := keepB hbb hb5; clear hb SL hb5; (go_wp2_with fail)
    go_ret
    exact ⟨rfl, hbb⟩
  · have ks := fun v (hv : Below w.heap.size w v) => knspans_bad A ca cs z v (h.keep hv) hz hne
    have rs := fun v (hv : Below w.heap.size w v) => rspans_bad A ca cs z v (h.keep hv) hz hne
    have sl := fun v => rSameLogs_any none none 0 0 [] [] v (isQs_nil v none) (isQs_nil v none)
    rw [decide_eq_true rfl] at sl; have KS := Lib.hid ks; have RS := Lib.hid rs; have SL := Lib.hid sl
    simp only [List.length_nil] at SL
    have ez : (z == z) = true := by simp
    clear ks rs sl hz hne h
    go_enter Tryz.func6, Tryz.ntmps6
    (go_wp2_with fail); refine GR.out.mono ?_; rintro e w1 ⟨rfl, hb⟩; have hbb := hb; clear hb GR; (go_wp2_with fail); refine (KS.out _ hbb).mono ?_; rintro e w2 ⟨rfl, hb⟩; replace hbb := keepB hbb hb; clear hb KS
    go_upto_region 4 with fail
    refine at_worldQ (fun v => Below w.heap.size w v ∧ BK v w2.heap.size [.slice none 0 0]) ⟨below_al hbb _, BK.new _ _ _⟩ (fun V4 hS => ?_); clear hbb; obtain ⟨hbb, B3⟩ := hS; obtain ⟨p3, hp3⟩ : ∃ z, w2.heap.size = z := ⟨_, rfl⟩; rw [hp3] at B3 ⊢; clear hp3; (go_wp2_with fail); refine (RS.out _ hbb).mono ?_; rintro e w3 ⟨rfl, hb⟩; replace hbb := keepB hbb hb; replace B3 := B3.keep hb; clear hb RS
    go_upto_region 5 with fail
    refine at_worldQ (fun v => Below w.heap.size w v ∧ BK v p3 [.slice none 0 0] ∧ BK v w3.heap.size [.slice none 0 0]) ⟨below_al hbb _, B3.al _, BK.new _ _ _⟩ (fun V5 hS => ?_); clear hbb B3; obtain ⟨hbb, B3, B7⟩ := hS; obtain ⟨p7, hp7⟩ : ∃ z, w3.heap.size = z := ⟨_, rfl⟩; rw [hp7] at B7 ⊢; clear hp7; have d0 := B3.c 0 rfl; have d1 := B7.c 0 rfl; (go_wp2_with fail); refine (sameDiv_nil _).mono ?_; rintro e w5 ⟨rfl, hb⟩; replace hbb := keepB hbb hb; clear hb d0 d1 B3 B7; (go_wp2_with fail); refine (sameL_nil _).mono ?_; rintro e w6 ⟨rfl, hb⟩; replace hbb := keepB hbb hb; clear hb; (go_wp2_with fail); refine (SL.out _).mono ?_; rintro e w7 ⟨rfl, hb⟩; replace hbb := keepB hbb hb; clear hb SL; (go_wp2_with fail)
    go_ret
    exact ⟨rfl, hbb⟩
end Go.Proofs.YtniagnldiegamaaGreat
