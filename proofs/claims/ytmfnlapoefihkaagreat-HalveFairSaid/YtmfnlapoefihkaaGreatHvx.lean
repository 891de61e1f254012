/- The law HalveFair. -/
import Derived.Test.YtmfnlapoefihkaaGreatHvw
import Derived.Test.YtmfnlapoefihkaaGreatWg
namespace Go.Proofs.YtmfnlapoefihkaaGreat
open Go.RowKit
theorem bits19 : ∀ k, k < 5 → (bits BinOp.and IntKind.u8 19 (Pf.pw k) == 0) = !Pf.bt19 k := fun k hk => by
  have : k = 0 ∨ k = 1 ∨ k = 2 ∨ k = 3 ∨ k = 4 := by omega
  rcases this with rfl | rfl | rfl | rfl | rfl <;> decide
namespace Hv
open Ck Ch
section
variable {D : List CkD} {n len : Int} {nn : Nat}
/-- The piece of an agent, in memory. -/
def pcR (T : List Sp) (G : Nat → Nat) (j : Nat) : Pf.PcR := match T.find? (fun t => t.1 == j) with
  | some t => ⟨some ⟨G j, 0, none⟩, 1, [(Rp.q t.2.1 t.2.2.1, Rp.q t.2.2.2.1 t.2.2.2.2)]⟩
  | none => ⟨none, 0, []⟩
theorem lnF_of (hc : Ak.chkS D 0 = 0) (hn : n = (D.length : Nat)) (hlen : (Ak.dAt D 0).1 = len) (hnn : D.length = nn) {T : List Sp} (hp : (T.map fun t => t.1).Perm (List.range nn)) (hch : Chn (0, 1) T (len, 1)) (hpc : ∀ t ∈ T, PcP D n len t) (G : Nat → Nat) :
    Pf.LnF D ((List.range nn).map (pcR T G)) nn len (fun k => (T.getD k (0, 0, 0, 0, 0)).1) (Pq len T) := by
  have hl : T.length = nn := by have := hp.length_eq; simpa using this
  have g0 := (Ak.chkS_good hc).l0; have hnd : (T.map fun t => t.1).Nodup := hp.nodup_iff.2 List.nodup_range
  have at_ : ∀ k (hk : k < nn), T.getD k (0, 0, 0, 0, 0) = T[k]'(by omega) := fun k hk => by simp [hl, hk]
  have pq_ : ∀ k (hk : k < nn), Pq len T k = Rp.q (T[k]'(by omega)).2.1 (T[k]'(by omega)).2.2.1 := fun k hk => by
    unfold Pq
    rw [List.getElem?_eq_getElem (by omega)]
  have pe_ : ∀ k (hk : k < nn), Pq len T (k + 1) = Rp.q (T[k]'(by omega)).2.2.2.1 (T[k]'(by omega)).2.2.2.2 := fun k hk => (pq_end hch k (by omega)).symm
  have pc_ : ∀ k (hk : k < nn), PcP D n len (T[k]'(by omega)) := fun k hk => hpc _ (List.getElem_mem _)
  have hN : Pq len T nn = (len : Rat) := by
    unfold Pq
    rw [List.getElem?_eq_none (by omega)]
  refine ⟨hc, hnn, hlen, by simp, ?_, fun k hk => ?_, ?_, hN, fun k hk => ?_, fun k hk => ?_, fun k hk => ?_, fun k hk => ?_⟩
  · have e : (List.range nn).map (fun k => (T.getD k (0, 0, 0, 0, 0)).1) = T.map fun t => t.1 := List.ext_getElem (by simp [hl]) (fun k h1 h2 => by
      have hk : k < nn := by simpa using h1
      simp [hl, hk])
    rw [e]; exact hp
  · have hm : (T.getD k (0, 0, 0, 0, 0)).1 < nn := List.mem_range.1 (hp.mem_iff.1 (List.mem_map.2 ⟨_, by rw [at_ k hk]; exact List.getElem_mem _, rfl⟩))
    have e : ∀ x, x < nn → Pf.pat ((List.range nn).map (pcR T G)) x = pcR T G x := fun x hx => by
      unfold Pf.pat
      simp [hx]
    rw [e _ hm, at_ k hk]
    unfold pcR
    rw [find_nd hnd _ (List.getElem_mem _), pq_ k hk, pe_ k hk]
  · rw [pq_ 0 (by omega)]
    cases T with
    | nil => simp at hl; omega
    | cons t T =>
      have e : (t.2.1, t.2.2.1) = ((0 : Int), (1 : Int)) := hch.1; rw [Prod.mk.injEq] at e
      show Rp.q t.2.1 t.2.2.1 = 0
      rw [e.1, e.2]; exact Rp.q_one 0
  · rw [pq_ k hk, pe_ k hk]
    exact (pc_ k hk).ac
  · by_cases e : k = nn
    · rw [e, hN]
      have := ok_len hc hlen
      unfold Pc.Fit
      rw [← Rp.q_one, Rp.q_num this, Rp.q_denI this]; exact this
    · have := (pt_spec (pc_ k (by omega)).pa).1
      rw [pq_ k (by omega)]
      unfold Pc.Fit
      rw [Rp.q_num this, Rp.q_denI this]; exact this
  · rw [pq_ k hk, pe_ k hk]
    exact (pc_ k hk).dd
  · have e : n = ((nn : Nat) : Int) := by rw [hn, hnn]
    rw [pq_ k hk, pe_ k hk, at_ k hk, ← e]; exact (pc_ k hk).own
end
theorem find_some {T : List Sp} {j : Nat} (h : j ∈ T.map fun t => t.1) : ∃ t ∈ T, t.1 = j ∧ T.find? (fun s => s.1 == j) = some t := by
  obtain ⟨t, ht, e⟩ := List.mem_map.1 h; have hf : (T.find? (fun s => s.1 == j)).isSome = true := List.find?_isSome.2 ⟨t, ht, by simp [e]⟩; obtain ⟨s, hs⟩ := Option.isSome_iff_exists.1 hf; have h1 := List.find?_some hs; exact ⟨s, List.mem_of_find?_eq_some hs, by simpa using h1, hs⟩
/-- The pieces of a run, as proof takes them. -/
theorem pcs_isPs {D : List CkD} {n len : Int} {w : World} {Pp nn : Nat} {T : List Sp} {G : Nat → Nat} (hp : (T.map fun t => t.1).Perm (List.range nn)) (hpc : ∀ t ∈ T, PcP D n len t) (hB : BK w Pp (pvs nn T G (fun _ => Value.slice none 0 0))) (hG : ∀ t ∈ T, BK w (G t.1) (spc t)) : IsPs w (some ⟨Pp, 0, none⟩) ((List.range nn).map (pcR T G)) := by
  have hpa : ∀ k, k < nn → Pf.pat ((List.range nn).map (pcR T G)) k = pcR T G k := fun k hk => by
    unfold Pf.pat
    simp [hk]
  refine ⟨⟨Pp, 0, fun _ => rfl, fun k hk => ?_⟩, fun k hk => ?_⟩
  · have hk : k < nn := by simpa using hk
    have hm : k ∈ T.map fun t => t.1 := hp.mem_iff.2 (List.mem_range.2 hk)
    obtain ⟨t, _, _, hf⟩ := find_some hm; rw [hpa k hk, Nat.zero_add]; refine hB.c k ?_
    unfold pvs
    rw [List.getElem?_map, List.getElem?_range hk]
    unfold pcR pv
    rw [hf]
    simp [hm]
  · have hk : k < nn := by simpa using hk
    have hm : k ∈ T.map fun t => t.1 := hp.mem_iff.2 (List.mem_range.2 hk)
    obtain ⟨t, ht, e, hf⟩ := find_some hm; have o1 := (pt_spec (hpc t ht).pa).1; have o2 := (pt_spec (hpc t ht).pc).1; have hb := hG t ht; rw [e] at hb; rw [hpa k hk]
    unfold pcR
    rw [hf]
    show IsS w (some ⟨G k, 0, none⟩) [Pc.raw (Rp.q t.2.1 t.2.2.1, Rp.q t.2.2.2.1 t.2.2.2.2)]
    have er : Pc.raw (Rp.q t.2.1 t.2.2.1, Rp.q t.2.2.2.1 t.2.2.2.2) = ⟨t.2.1, t.2.2.1, t.2.2.2.1, t.2.2.2.2⟩ := by
      unfold Pc.raw
      rw [Rp.q_num o1, Rp.q_denI o1, Rp.q_num o2, Rp.q_denI o2]
    rw [er]; refine ⟨fun _ => ⟨G k, 0, rfl, fun i hi => ?_⟩, fun z hz => ?_, by simp [maxLen]⟩
    · obtain rfl : i = 0 := by simpa using hi
      exact ⟨hb.c 0 rfl, hb.c 1 rfl, hb.c 2 rfl, hb.c 3 rfl⟩
    · rw [List.mem_singleton.1 hz]
      obtain ⟨a1, a2, a3, a4, _⟩ := o1; obtain ⟨b1, b2, b3, b4, _⟩ := o2
      unfold Pc.Raw64 I64
      dsimp only
      omega
end Hv
set_option linter.unusedSimpArgs false in
set_option maxHeartbeats 8000000 in
set_option maxRecDepth 100000 in
theorem hfair_walk (A : Option Addr) (ca : Nat) (cs : List CkR) (w : World) (h : IsCs w A cs) :
    Calls Tryz.prog 3 #[.slice A cs.length ca] w fun e w' => e = .returned (.bool true) ∧ Below w.heap.size w w' := by
  have ft := Hv.fit_any A ca cs w h
  cases hft : Hv.fitP (cs.map Ak.dat)
  case false =>
    rw [hft] at ft; have FT := Lib.hid ft; clear ft hft h
    go_enter Tryz.func3, Tryz.ntmps3
    (go_wp2_with fail); refine FT.out.mono ?_; rintro e w1 ⟨rfl, hb⟩; (go_wp2_with fail); refine (alive9_any _).mono ?_; rintro e w2 ⟨rfl, hb2⟩; (go_wp2_with fail)
    go_ret
    exact ⟨rfl, keepB hb hb2⟩
  rw [hft] at ft; have hc := Hv.fit_of hft; obtain ⟨D, hD⟩ : ∃ z, cs.map Ak.dat = z := ⟨_, rfl⟩; rw [hD] at hc; have hgd := Ak.chkS_good hc; have hn6 := hgd.l1; have hn1 := hgd.l0; obtain ⟨nn, hnn⟩ : ∃ z, cs.length = z := ⟨_, rfl⟩
  have hDl : D.length = nn := by rw [← hD, List.length_map, hnn]
  obtain ⟨n, hn⟩ : ∃ z : Int, z = (D.length : Nat) := ⟨_, rfl⟩; obtain ⟨len, hlen⟩ : ∃ z, (Ak.dAt D 0).1 = z := ⟨_, rfl⟩; have hall := Hv.run_all hc hn hlen 6 (List.range nn) 0 1 len 1 1 [] (by simp; omega) (Hv.top_inv hc hn hlen hDl)
  have run := fun v (hv : Below w.heap.size w v) => hvrun_any D len nn A ca cs v (h.keep hv) hD hc hnn hlen hall.1
  have lgl := Hv.top_len hc hn hlen hDl; have hag := Hv.run_ag 6 _ _ _ _ _ _ hall.1; obtain ⟨hF, -, hrt, hch, hpc⟩ := hall; have lgr := hrt (fun q hq => by cases hq)
  have lnf := fun G => Hv.lnF_of hc hn hlen hDl hag hch hpc G
  generalize Hv.run D len 6 (List.range nn) 0 1 len 1 [] = R at *
  obtain ⟨L, T⟩ := R; dsimp only at lgl hag lgr hch hpc lnf
  have hbd : Hv.bd nn ≤ 30 := by
    have : nn = 1 ∨ nn = 2 ∨ nn = 3 ∨ nn = 4 ∨ nn = 5 ∨ nn = 6 := by omega
    rcases this with e | e | e | e | e | e <;> rw [e] <;> decide
  have rep := Hv.rep_all hc lgr (by omega); subst hD
  have ips := fun (v : World) (Pp : Nat) (G : Nat → Nat) (hB : BK v Pp (Hv.pvs nn T G (fun _ => Value.slice none 0 0))) (hG : ∀ t ∈ T, BK v (G t.1) (Hv.spc t)) => Hv.pcs_isPs hag hpc hB hG
  have rpl := fun v (hv : Below w.heap.size w v) Q cq (hq : IsQs v Q L) => askReplay_any A ca cs Q cq L v (h.keep hv) hq
  rw [rep] at rpl
  have bnd := fun v => hvbound_any nn v (by omega) (by omega)
  have mk := fun (G : Nat → Nat) (Pp cp : Nat) v (hv : Below w.heap.size w v) (hp : IsPs v (some ⟨Pp, 0, none⟩) ((List.range nn).map (Hv.pcR T G))) =>
    pfmake_any A (some ⟨Pp, 0, none⟩) ca cp cs ((List.range nn).map (Hv.pcR T G)) v (h.keep hv) hp (lnf G).dv (by rw [(lnf G).cat_len]; omega) (by rw [(lnf G).cat_len]; omega) (by rw [hnn]; exact (lnf G).hz) (fun ws hw a ha => (lnf G).hd (by rw [hnn] at hw; exact hw) (by omega))
  have ac := fun (G : Nat → Nat) (Pp cp : Nat) (g cv : Nat) (vs : List Pf.RwR) v (hv : Below w.heap.size w v) (hp : IsPs v (some ⟨Pp, 0, none⟩) ((List.range nn).map (Hv.pcR T G))) (hvs : IsWs v (some ⟨g, 0, none⟩) vs) (hvl : vs.map Pf.RwR.l = ((List.range cs.length).map fun k => (List.range cs.length).map (Pf.wp (cs.map Ak.dat) ((List.range nn).map (Hv.pcR T G)) k))) =>
    (pfaccept_any 19 Pf.bt19 bits19 (by decide) (by decide) A (some ⟨Pp, 0, none⟩) (some ⟨g, 0, none⟩) ca cp cv cs ((List.range nn).map (Hv.pcR T G)) vs v (h.keep hv) hp hvs hvl (lnf G).dv (by rw [(lnf G).cat_len]; omega) (by rw [(lnf G).cat_len]; omega) (by rw [hnn]; exact (lnf G).hz)).mono (R' := fun e w' => e = .returned (.tuple #[.bool true, .int .i64 0]) ∧ Below v.heap.size v w') (by
      rintro e w' ⟨hb, F, ws, rfl, hrw, hF⟩; refine ⟨?_, hb⟩
      rw [(lnf G).claims hnn hrw hF])
  simp only [List.length_map, List.length_range] at mk ac
  rw [hnn] at ft rpl mk ac ⊢; obtain ⟨m, hm⟩ : ∃ z, L.length = z := ⟨_, rfl⟩; obtain ⟨bd, hbd2⟩ : ∃ z, Hv.bd nn = z := ⟨_, rfl⟩; rw [hbd2] at bnd lgl; rw [hm] at rpl lgl
  have hml : ¬ (m : Int) > bd := by omega
  have hml2 : ¬ bd < (m : Int) := hml
  have hmm : ((m : Int) != (m : Int)) = false := by simp
  have FT := Lib.hid ft; have RUN := Lib.hid run; have IPS := Lib.hid ips; have RPL := Lib.hid rpl; have BND := Lib.hid bnd; have MK := Lib.hid mk; have AC := Lib.hid ac; have HM := Lib.hid hm; have HNN := Lib.hid hnn; have H := Lib.hid h; clear ft run ips rpl bnd mk ac hm h hbd hbd2 rep lnf lgr lgl hag hF hrt hch hpc hn hlen hgd hc hft hn6 hn1 hDl hnn
  unfold RunH at RUN
  dsimp only at RUN
  go_enter Tryz.func3, Tryz.ntmps3
  (go_wp2_with fail); refine FT.out.mono ?_; rintro e w1 ⟨rfl, hb⟩; have hbb := hb; clear hb FT; (go_wp2_with fail); refine (RUN.out _ hbb).mono ?_; rintro e w2 ⟨Pp, Q, nq, cq, G, rfl, hb, hnq, hq, hpp, hpg⟩; rw [HM.out] at hnq; subst hnq; have hps := IPS.out _ Pp G hpp hpg; replace hbb := keepB hbb hb; clear hb hpp hpg RUN IPS
  go_upto_region 4 with fail
  refine at_worldQ (fun v => Below w.heap.size w v ∧ BK v w2.heap.size [.slice (some ⟨Pp, 0, none⟩) nn nn] ∧ IsQs v Q L ∧ IsPs v (some ⟨Pp, 0, none⟩) ((List.range nn).map (Hv.pcR T G))) ⟨below_al hbb _, BK.new _ _ _, hq.keep (below_al (Below.refl _ _) _), hps.keep (below_al (Below.refl _ _) _)⟩ (fun V4 hS => ?_); clear hbb hq hps; obtain ⟨hbb, B3, hq, hps⟩ := hS; obtain ⟨p3, hp3⟩ : ∃ z, w2.heap.size = z := ⟨_, rfl⟩; rw [hp3] at B3 ⊢; clear hp3; have HQ := Lib.hid hq; have HPS := Lib.hid hps; clear hq hps; (go_wp2_with fail); refine (BND.out _).mono ?_; rintro e w5 ⟨rfl, hb5⟩; (go_wp2_with fail); refine (RPL.out _ (keepB hbb hb5) Q cq (HQ.out.keep hb5)).mono ?_; rintro e w6 ⟨rfl, hb6⟩; have hb7 := keepB hb5 hb6; replace hbb := keepB hbb hb7; replace B3 := B3.keep hb7; have HPS2 := Lib.hid (HPS.out.keep hb7); clear hb5 hb6 hb7 HPS HQ BND RPL; have d0 := B3.c 0 rfl; (go_wp2_with fail); refine (MK.out G Pp nn _ hbb HPS2.out).mono ?_; rintro e w7 ⟨hb, F, g, ws, rs, rfl, hws, hrw, -⟩; obtain ⟨c, hcc⟩ : ∃ z, Pf.hs (fun _ => true) F 5 = z := ⟨_, rfl⟩; rw [hcc]; rw [HNN.out] at hrw; have HRW := Lib.hid hrw
  have hwl : ws.length = nn := by have := congrArg List.length hrw; simpa using this
  replace hbb := keepB hbb hb; replace B3 := B3.keep hb; have HPS := Lib.hid (HPS2.out.keep hb); have HWS := Lib.hid hws.isWs; clear hb d0 HPS2 hws hrw hcc MK
  go_upto_region 7 with fail
  refine at_worldQ (fun v => Below w.heap.size w v ∧ BK v p3 [.slice (some ⟨Pp, 0, none⟩) nn nn] ∧ BK v w7.heap.size [.int .u8 c, .slice (some ⟨g, 0, none⟩) nn nn] ∧ IsWs v (some ⟨g, 0, none⟩) ws ∧ IsPs v (some ⟨Pp, 0, none⟩) ((List.range nn).map (Hv.pcR T G))) ⟨below_al hbb _, B3.al _, BK.new _ _ _, HWS.out.keep (below_al (Below.refl _ _) _), HPS.out.keep (below_al (Below.refl _ _) _)⟩ (fun V7 hS => ?_); clear hbb B3 HWS HPS; obtain ⟨hbb, B3, B11, hws, hps⟩ := hS; obtain ⟨p11, hp11⟩ : ∃ z, w7.heap.size = z := ⟨_, rfl⟩; rw [hp11] at B11 ⊢; clear hp11; have d0 := B3.c 0 rfl; have c1 := B11.c 1 rfl; have ac := AC.out G Pp nn g nn ws V7 hbb hps hws HRW.out; rw [hwl] at ac; have AC2 := Lib.hid ac; clear ac AC hws hps hwl HRW; (go_wp2_with fail); refine AC2.out.mono ?_; rintro e w8 ⟨rfl, hb8⟩; replace hbb := keepB hbb hb8; clear hb8 AC2 d0 c1 B3 B11; (go_wp2_with fail); refine (alive9_any _).mono ?_; rintro e w9 ⟨rfl, hb9⟩; (go_wp2_with fail)
  go_ret
  exact ⟨rfl, keepB hbb hb9⟩
end Go.Proofs.YtmfnlapoefihkaaGreat

