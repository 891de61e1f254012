/- The reference's Spans of valid cakes. -/
import Derived.Test.YtniagnldiegamaaGreatKnt
import Derived.Test.YtniagnldiegamaaGreatRas
import Derived.Deep.CutBlock
import Derived.Deep.DeepCutAuto
namespace Go.Proofs.YtniagnldiegamaaGreat
open Go.RowKit
theorem runk_mk {D : List CkD} {n len : Int} {nn : Nat} {w w' : World} {Pp go co : Nat} {Q : Option Addr} {q cq : Nat} {G : Nat → Nat} (h1 : Below w.heap.size w w') (h2 : (Kn.sts D n len nn).L.length = q) (h3 : IsQs w' Q (Kn.sts D n len nn).L) (h4 : BK w' go ((Kn.ors D n len nn).map (Value.int .i64))) (h5 : BK w' Pp (Kn.pvs nn (Kn.Tk D n len nn) G (fun _ => Value.slice none 0 0))) (h6 : ∀ t ∈ Kn.Tk D n len nn, BK w' (G t.1) (Kn.spc t)) :
    RunK D n len nn w (.returned (.tuple #[.agg #[.slice (some ⟨Pp, 0, none⟩) nn nn], .slice (some ⟨go, 0, none⟩) nn co, .slice Q q cq, .int .i64 0])) w' := ⟨Pp, go, co, Q, q, cq, G, rfl, h1, h2, h3, h4, h5, h6⟩
theorem Kn.gb_tr {F F' : Nat → Prop} {U V W : World} (h : GB F U V) (k : GB F' V W) (hF : ∀ j, F' j → F j ∨ U.heap.size ≤ j) : GB F U W :=
  ⟨k.os.trans h.os, k.tape.trans h.tape, k.output.trans h.output, Nat.le_trans h.size k.size, fun j hj hn => (k.block j (Nat.lt_of_lt_of_le hj h.size) (fun e => (hF j e).elim hn (by omega))).trans (h.block j hj hn)⟩
set_option linter.unusedSimpArgs false in
set_option maxHeartbeats 8000000 in
set_option maxRecDepth 100000 in
theorem rspans_any (D : List CkD) (n len : Int) (nn : Nat) (A : Option Addr) (ca : Nat) (cs : List CkR) (w : World) (h : IsCs w A cs) (hD : cs.map Ak.dat = D) (hc : Ak.chkS D 0 = 0) (hnn : cs.length = nn) (hlen : (Ak.dAt D 0).1 = len) (hn : n = (D.length : Nat)) :
    Calls Tryz.prog 25 #[.slice A nn ca] w (RunK D n len nn w) := by
  obtain ⟨i0, hi0, hz0, hz1, hz2⟩ := info_parts intInfo; have HI := Lib.hid hi0; have HI2 := Lib.hid hz0; have HI3 := Lib.hid hz1; have HI4 := Lib.hid hz2; clear hi0 hz0 hz1 hz2
  have op := fun v (hv : Below w.heap.size w v) => ropen_any A ca cs v (h.keep hv)
  rw [hD, hnn] at op
  unfold OpenQ at op
  have hgd := Ak.chkS_good hc
  have hDl : D.length = nn := by rw [← hD, List.length_map, hnn]
  have hn6 : nn ≤ 6 := by rw [← hDl]; exact hgd.l1
  have hn1 : 1 ≤ nn := by rw [← hDl]; exact hgd.l0
  have hnil : List.replicate nn (Value.slice none 0 0) = ((List.range nn).map (fun _ => Value.slice none 0 0)) := List.ext_getElem (by simp) (fun k h1 h2 => by simp); have SG := Lib.hid (fun k (hk : k < nn) => Kn.sgood_sts hc hn hlen k (by omega)); have NW := Lib.hid (fun k (hk : k < nn) => Kn.tk_new hc hn hlen (k := k) (by omega)); have RA := Lib.hid (fun k (hk : k < nn) => Kn.rst_all hc hn hlen (k := k) (by omega)); have AG := Lib.hid (fun k (hk : k < nn) => (show Kn.agk D n len k < nn by rw [← hDl]; exact List.mem_range.1 ((Kn.tk_perm hc hn hlen).mem_iff.1 (List.mem_map.2 ⟨Kn.spk D n len k, List.mem_map.2 ⟨k, List.mem_range.2 (by omega), rfl⟩, rfl⟩)))); have IV := Lib.hid (fun k (hk : k < nn) => Kn.inv_sts hc hn hlen k (by omega)); have MP := Lib.hid (fun k (hk : k < nn) j hj => Kn.mk_pt hc hn hlen (k := k) (by omega) (j := j) hj); have OL := Lib.hid (Kn.ok_len hc hlen)
  have lcell : ∃ cb co, A = some ⟨cb, co, none⟩ ∧ w.cell? ⟨cb, co, none⟩ = some (.int .i64 len) := by
    obtain ⟨cb, co, hA, hcl⟩ := h.at_; refine ⟨cb, co, hA (by omega), ?_⟩; have h0 := (hcl 0 (by omega)).1; rw [← hlen, ← hD, Ak.dAt_map cs (by omega), show (Ak.dat (Ak.cat cs 0)).1 = (Ak.cat cs 0).len from rfl]
    simpa using h0
  obtain ⟨cb, co, rfl, hlc⟩ := lcell; have OP := Lib.hid op; have HC := Lib.hid hc; have HDL := Lib.hid hDl; have HN := Lib.hid hn; clear op hc hDl hlen hgd hD h hnn hn
  go_enter Tryz.func25, Tryz.ntmps25
  go_upto_region 1 with fail
  refine at_box1 (fun V hbb B0 hVs => ?_); (go_wp2_with fail); refine (OP.out _ hbb).mono ?_; rintro e w1 ⟨hb, ⟨hne, _⟩ | ⟨_, A1, ca1, cs1, Q1, cq1, rfl, hd1, hfd⟩⟩
  · exact absurd HC.out hne
  have hcl1 : cs1.length = nn := by rw [← HDL.out, ← hd1, List.length_map]
  rw [hcl1]; have HD1 := Lib.hid hd1; have HCL1 := Lib.hid hcl1; clear hd1 hcl1 OP; have hv1 := hb.size; replace hbb := keepB hbb hb; replace B0 := B0.keep hb; clear hb
  go_upto_region 4 with fail
  refine at_worldQ (fun v => Below w.heap.size w v ∧ BK v w.heap.size [.slice none 0 0] ∧ BK v w1.heap.size [.slice A1 nn ca1, .slice Q1 0 cq1] ∧ GB (fun _ => False) w1 v ∧ v.heap.size = w1.heap.size + 1) ⟨below_al hbb _, B0.al _, BK.new _ _ _, (GB.refl _ _).al _, by simp only [World.size_alloc]⟩ (fun V4 hS => ?_); clear hbb B0; obtain ⟨hbb, B0, BD, hG, hs4⟩ := hS; have hmk := knspan_make nn (by omega)
  go_upto_region 5 with fail
  refine at_worldQ (fun v => Below w.heap.size w v ∧ BK v w.heap.size [.slice none 0 0] ∧ BK v w1.heap.size [.slice A1 nn ca1, .slice Q1 0 cq1] ∧ BK v (w1.heap.size + 1) ((List.range nn).map (fun _ => Value.slice none 0 0)) ∧ BK v (w1.heap.size + 2) [.slice (some ⟨w1.heap.size + 1, 0, none⟩) nn nn] ∧ GB (fun _ => False) w1 v ∧ v.heap.size = w1.heap.size + 3) ⟨below_al (below_al hbb _) _, (B0.al _).al _, (BD.al _).al _, (by
    have b := (BK.new V4 (List.replicate nn (Value.slice none 0 0)) 74).al (.cells #[.slice (some ⟨w1.heap.size + 1, 0, none⟩) nn nn] 38); rw [List.toArray_replicate, hs4] at b; rw [← hnil]
    exact b), (by
    have b := BK.new (V4.alloc (.cells (Array.replicate nn (Value.slice none 0 0)) 74)) [.slice (some ⟨w1.heap.size + 1, 0, none⟩) nn nn] 38
    simpa only [World.size_alloc, hs4] using b), (hG.al _).al _, by simp [hs4]⟩ (fun V5 hS => ?_)
  clear hbb B0 BD hG hs4 hmk; obtain ⟨hbb, B0, BD, BP, BO, hG, hs5⟩ := hS; have hmk := rbool_make nn (by omega)
  go_upto_region 6 with fail
  refine at_worldQ (fun v => Below w.heap.size w v ∧ BK v w.heap.size [.slice none 0 0] ∧ BK v w1.heap.size [.slice A1 nn ca1, .slice Q1 0 cq1] ∧ BK v (w1.heap.size + 1) ((List.range nn).map (fun _ => Value.slice none 0 0)) ∧ BK v (w1.heap.size + 2) [.slice (some ⟨w1.heap.size + 1, 0, none⟩) nn nn] ∧ BK v (w1.heap.size + 3) (Kn.hadl (List.range nn) nn) ∧ GB (fun _ => False) w1 v ∧ v.heap.size = w1.heap.size + 4) ⟨below_al hbb _, B0.al _, BD.al _, BP.al _, BO.al _, (by
    have b := rbk_had V5 nn; rw [hs5] at b
    exact b), hG.al _, by simp [hs5]⟩ (fun V6 hS => ?_)
  clear hbb B0 BD BP BO hG hs5 hmk; obtain ⟨hbb, B0, BD, BP, BO, BH, hG, hs6⟩ := hS; have y0 := keepC hbb hlc
  have i0z : 0 < nn := by omega
  go_cut [10, 11] (fun x z v => ∃ p q : Nat, x = .pointer (some ⟨p, 0, none⟩) ∧ z = .pointer (some ⟨q, 0, none⟩) ∧ V6.heap.size ≤ p ∧ V6.heap.size ≤ q ∧ p ≠ q ∧ BK v p [.int .i64 0, .int .i64 1] ∧ BK v q [.int .i64 len, .int .i64 1] ∧ Below V6.heap.size V6 v)
  case first =>
    refine wp_region_held_drew (S := (Below V6.heap.size V6)) (by kernel_rfl) ((Below.refl _ _).drew) (fun hHeld => ?_); refine at_anyH (Below V6.heap.size V6) hHeld (fun ws0 hNew => ?_); clear hHeld; have hHeld := hNew; clear hNew; refine tkd 1 ?_; refine tkd 2 ?_; refine tkd 3 ?_; (try simp only [PPz]); refine tkm 4 rfl hHeld (fun w hSw => by have ky0 := keepC hSw y0; go_simp <;> with_reducible rfl) ?_; (try simp only [PPz]); refine dag (fun G a => ∀ pX pY W, Below V6.heap.size V6 W → BK W pX [.int .i64 0, .int .i64 0] → V6.heap.size ≤ pX → BK W pY [.int .i64 0, .int .i64 0] → V6.heap.size ≤ pY → pX ≠ pY → G 2 #[true, true, true, true, true, true, true, true, false, false] ((((a.put (some 33) (.agg #[.int .i64 0, .int .i64 1])).put (some 38) (.agg #[.int .i64 len, .int .i64 1])).put (some 10) (.pointer (some ⟨pX, 0, none⟩))).put (some 11) (.pointer (some ⟨pY, 0, none⟩))) W) ?_ (fun Ns0 => ?_)
    ·
     intro pX pY wss0 hHeld BX hX BY hY dXY; (try simp only [PPz]); refine rdy1 8 rfl (fun K hK => ?_); have n0 := BX.c 0 rfl; have f0 := BX.f 0 rfl; have n1 := BX.c 1 rfl; have f1 := BX.f 1 rfl; go_simp; clear n0 f0 n1 f1; refine hK.out _ _ (below_set (below_set hHeld (by omega) _) (by omega) _) (fun hNew => ?_); replace hHeld := hNew; clear hNew hK K; (try simp only [PPz]); refine at_anyH (fun v => Below V6.heap.size V6 v ∧ BK v pX [.int .i64 0, .int .i64 1] ∧ BK v pY [.int .i64 0, .int .i64 0]) ⟨hHeld, ((BX.set 0 _).set 1 _), ((BY.far (by omega) _ _).far (by omega) _ _)⟩ (fun ws5 hS => ?_); clear hHeld BX BY; obtain ⟨hHeld, BX, BY⟩ := hS; refine rdy1 9 rfl (fun K hK => ?_); have n0 := BY.c 0 rfl; have f0 := BY.f 0 rfl; have n1 := BY.c 1 rfl; have f1 := BY.f 1 rfl; go_simp; clear n0 f0 n1 f1; refine hK.out _ _ (below_set (below_set hHeld (by omega) _) (by omega) _) (fun hNew => ?_); replace hHeld := hNew; clear hNew hK K; (try simp only [PPz]); refine at_anyH (fun v => Below V6.heap.size V6 v ∧ BK v pX [.int .i64 0, .int .i64 1] ∧ BK v pY [.int .i64 len, .int .i64 1]) ⟨hHeld, ((BX.far (by omega) _ _).far (by omega) _ _), ((BY.set 0 _).set 1 _)⟩ (fun ws6 hS => ?_); clear hHeld BX BY; obtain ⟨hHeld, BX, BY⟩ := hS; refine wpAnyH_done (by kernel_rfl) ?_ _; (go_wp2_with fail)
     go_meet
     exact ⟨_, _, rfl, rfl, hX, hY, dXY, BX, BY, hHeld⟩
    refine dag (fun G a => ∀ pX W, Below V6.heap.size V6 W → BK W pX [.int .i64 0, .int .i64 0] → V6.heap.size ≤ pX → G 3 #[true, true, true, true, true, true, true, false, false, false] (((a.put (some 33) (.agg #[.int .i64 0, .int .i64 1])).put (some 38) (.agg #[.int .i64 len, .int .i64 1])).put (some 10) (.pointer (some ⟨pX, 0, none⟩))) W) ?_ (fun Ns1 => ?_)
    ·
     intro pX wss1 hHeld BX hX; (try simp only [PPz]); refine rdy1 7 rfl (fun K hK => ?_); go_simp; refine hK.out _ _ (below_al hHeld _) (fun hNew => ?_); have hY : V6.heap.size ≤ wss1.heap.size := hHeld.size; have dXY := BX.lt; replace hHeld := hNew; clear hNew hK K; (try simp only [PPz]); refine at_anyH (fun v => Below V6.heap.size V6 v ∧ BK v pX [.int .i64 0, .int .i64 0] ∧ BK v wss1.heap.size [.int .i64 0, .int .i64 0]) ⟨hHeld, BX.al _, BK.new _ _ _⟩ (fun ws7 hS => ?_); clear hHeld BX; obtain ⟨hHeld, BX, BY⟩ := hS; exact dag_use (Ns0.out _ _ _ hHeld BX hX BY hY (by omega)) (by kernel_rfl) (by kernel_rfl)
    refine dag (fun G a => ∀ pY W, Below V6.heap.size V6 W → BK W pY [.int .i64 0, .int .i64 0] → V6.heap.size ≤ pY → G 3 #[true, true, true, true, true, true, false, true, false, false] (((a.put (some 33) (.agg #[.int .i64 0, .int .i64 1])).put (some 38) (.agg #[.int .i64 len, .int .i64 1])).put (some 11) (.pointer (some ⟨pY, 0, none⟩))) W) ?_ (fun Ns2 => ?_)
    ·
     intro pY wss2 hHeld BY hY; (try simp only [PPz]); refine rdy1 6 rfl (fun K hK => ?_); go_simp; refine hK.out _ _ (below_al hHeld _) (fun hNew => ?_); have hX : V6.heap.size ≤ wss2.heap.size := hHeld.size; have dYX := BY.lt; replace hHeld := hNew; clear hNew hK K; (try simp only [PPz]); refine at_anyH (fun v => Below V6.heap.size V6 v ∧ BK v pY [.int .i64 0, .int .i64 0] ∧ BK v wss2.heap.size [.int .i64 0, .int .i64 0]) ⟨hHeld, BY.al _, BK.new _ _ _⟩ (fun ws8 hS => ?_); clear hHeld BY; obtain ⟨hHeld, BY, BX⟩ := hS; exact dag_use (Ns0.out _ _ _ hHeld BX hX BY hY (by omega)) (by kernel_rfl) (by kernel_rfl)
    refine dag (fun G a => ∀ pX pY W, Below V6.heap.size V6 W → BK W pX [.int .i64 0, .int .i64 0] → V6.heap.size ≤ pX → BK W pY [.int .i64 0, .int .i64 0] → V6.heap.size ≤ pY → pX ≠ pY → G 3 #[true, true, true, true, true, false, true, true, false, false] (((a.put (some 33) (.agg #[.int .i64 0, .int .i64 1])).put (some 10) (.pointer (some ⟨pX, 0, none⟩))).put (some 11) (.pointer (some ⟨pY, 0, none⟩))) W) ?_ (fun Ns3 => ?_)
    ·
     intro pX pY wss3 hHeld BX hX BY hY dXY; (try simp only [PPz]); refine rdy1 5 rfl (fun K hK => ?_); go_simp; refine (rOf_any len _).mono ?_; rintro e ws9 ⟨rfl, hb3⟩; (go_wp2_with fail); refine hK.out _ _ (keepB hHeld hb3) (fun hNew => ?_); replace BX := BX.keep hb3; replace BY := BY.keep hb3; replace hHeld := hNew; clear hNew hK K hb3; (try simp only [PPz]); exact dag_use (Ns0.out _ _ _ hHeld BX hX BY hY (by omega)) (by kernel_rfl) (by kernel_rfl)
    refine dag (fun G a => ∀ pX W, Below V6.heap.size V6 W → BK W pX [.int .i64 0, .int .i64 0] → V6.heap.size ≤ pX → G 4 #[true, true, true, true, true, false, true, false, false, false] ((a.put (some 33) (.agg #[.int .i64 0, .int .i64 1])).put (some 10) (.pointer (some ⟨pX, 0, none⟩))) W) ?_ (fun Ns4 => ?_)
    ·
     intro pX wss4 hHeld BX hX; (try simp only [PPz]); refine rdy2 5 7 rfl rfl (fun K hK => ?_) (fun K hK => ?_)
     ·
      go_simp; refine (rOf_any len _).mono ?_; rintro e ws10 ⟨rfl, hb3⟩; (go_wp2_with fail); refine hK.out _ _ (keepB hHeld hb3) (fun hNew => ?_); replace BX := BX.keep hb3; replace hHeld := hNew; clear hNew hK K hb3; (try simp only [PPz]); exact dag_use (Ns1.out _ _ hHeld BX hX) (by kernel_rfl) (by kernel_rfl)
     ·
      go_simp; refine hK.out _ _ (below_al hHeld _) (fun hNew => ?_); have hY : V6.heap.size ≤ wss4.heap.size := hHeld.size; have dXY := BX.lt; replace hHeld := hNew; clear hNew hK K; (try simp only [PPz]); refine at_anyH (fun v => Below V6.heap.size V6 v ∧ BK v pX [.int .i64 0, .int .i64 0] ∧ BK v wss4.heap.size [.int .i64 0, .int .i64 0]) ⟨hHeld, BX.al _, BK.new _ _ _⟩ (fun ws11 hS => ?_); clear hHeld BX; obtain ⟨hHeld, BX, BY⟩ := hS; exact dag_use (Ns3.out _ _ _ hHeld BX hX BY hY (by omega)) (by kernel_rfl) (by kernel_rfl)
    refine dag (fun G a => ∀ pY W, Below V6.heap.size V6 W → BK W pY [.int .i64 0, .int .i64 0] → V6.heap.size ≤ pY → G 4 #[true, true, true, true, true, false, false, true, false, false] ((a.put (some 33) (.agg #[.int .i64 0, .int .i64 1])).put (some 11) (.pointer (some ⟨pY, 0, none⟩))) W) ?_ (fun Ns5 => ?_)
    ·
     intro pY wss5 hHeld BY hY; (try simp only [PPz]); refine rdy2 5 6 rfl rfl (fun K hK => ?_) (fun K hK => ?_)
     ·
      go_simp; refine (rOf_any len _).mono ?_; rintro e ws12 ⟨rfl, hb3⟩; (go_wp2_with fail); refine hK.out _ _ (keepB hHeld hb3) (fun hNew => ?_); replace BY := BY.keep hb3; replace hHeld := hNew; clear hNew hK K hb3; (try simp only [PPz]); exact dag_use (Ns2.out _ _ hHeld BY hY) (by kernel_rfl) (by kernel_rfl)
     ·
      go_simp; refine hK.out _ _ (below_al hHeld _) (fun hNew => ?_); have hX : V6.heap.size ≤ wss5.heap.size := hHeld.size; have dYX := BY.lt; replace hHeld := hNew; clear hNew hK K; (try simp only [PPz]); refine at_anyH (fun v => Below V6.heap.size V6 v ∧ BK v pY [.int .i64 0, .int .i64 0] ∧ BK v wss5.heap.size [.int .i64 0, .int .i64 0]) ⟨hHeld, BY.al _, BK.new _ _ _⟩ (fun ws13 hS => ?_); clear hHeld BY; obtain ⟨hHeld, BY, BX⟩ := hS; exact dag_use (Ns3.out _ _ _ hHeld BX hX BY hY (by omega)) (by kernel_rfl) (by kernel_rfl)
    refine dag (fun G a => ∀ pX pY W, Below V6.heap.size V6 W → BK W pX [.int .i64 0, .int .i64 0] → V6.heap.size ≤ pX → BK W pY [.int .i64 0, .int .i64 0] → V6.heap.size ≤ pY → pX ≠ pY → G 4 #[false, true, true, true, true, false, true, true, false, false] ((a.put (some 10) (.pointer (some ⟨pX, 0, none⟩))).put (some 11) (.pointer (some ⟨pY, 0, none⟩))) W) ?_ (fun Ns6 => ?_)
    ·
     intro pX pY wss6 hHeld BX hX BY hY dXY; (try simp only [PPz]); refine rdy1 0 rfl (fun K hK => ?_); go_simp; refine (rOf_any 0 _).mono ?_; rintro e ws14 ⟨rfl, hb3⟩; (go_wp2_with fail); refine hK.out _ _ (keepB hHeld hb3) (fun hNew => ?_); replace BX := BX.keep hb3; replace BY := BY.keep hb3; replace hHeld := hNew; clear hNew hK K hb3; (try simp only [PPz]); exact dag_use (Ns3.out _ _ _ hHeld BX hX BY hY (by omega)) (by kernel_rfl) (by kernel_rfl)
    refine rdy3 0 6 7 rfl rfl rfl (fun K hK => ?_) (fun K hK => ?_) (fun K hK => ?_)
    ·
     go_simp; refine (rOf_any 0 _).mono ?_; rintro e ws15 ⟨rfl, hb3⟩; (go_wp2_with fail); refine hK.out _ _ (keepB hHeld hb3) (fun hNew => ?_); replace hHeld := hNew; clear hNew hK K hb3; (try simp only [PPz]); refine rdy3 5 6 7 rfl rfl rfl (fun K hK => ?_) (fun K hK => ?_) (fun K hK => ?_)
     ·
      go_simp; refine (rOf_any len _).mono ?_; rintro e ws16 ⟨rfl, hb3⟩; (go_wp2_with fail); refine hK.out _ _ (keepB hHeld hb3) (fun hNew => ?_); replace hHeld := hNew; clear hNew hK K hb3; (try simp only [PPz]); refine rdy2 6 7 rfl rfl (fun K hK => ?_) (fun K hK => ?_)
      ·
       go_simp; refine hK.out _ _ (below_al hHeld _) (fun hNew => ?_); have hX : V6.heap.size ≤ ws16.heap.size := hHeld.size; replace hHeld := hNew; clear hNew hK K; (try simp only [PPz]); refine at_anyH (fun v => Below V6.heap.size V6 v ∧ BK v ws16.heap.size [.int .i64 0, .int .i64 0]) ⟨hHeld, BK.new _ _ _⟩ (fun ws17 hS => ?_); clear hHeld; obtain ⟨hHeld, BX⟩ := hS; exact dag_use (Ns1.out _ _ hHeld BX hX) (by kernel_rfl) (by kernel_rfl)
      ·
       go_simp; refine hK.out _ _ (below_al hHeld _) (fun hNew => ?_); have hY : V6.heap.size ≤ ws16.heap.size := hHeld.size; replace hHeld := hNew; clear hNew hK K; (try simp only [PPz]); refine at_anyH (fun v => Below V6.heap.size V6 v ∧ BK v ws16.heap.size [.int .i64 0, .int .i64 0]) ⟨hHeld, BK.new _ _ _⟩ (fun ws18 hS => ?_); clear hHeld; obtain ⟨hHeld, BY⟩ := hS; exact dag_use (Ns2.out _ _ hHeld BY hY) (by kernel_rfl) (by kernel_rfl)
     ·
      go_simp; refine hK.out _ _ (below_al hHeld _) (fun hNew => ?_); have hX : V6.heap.size ≤ ws15.heap.size := hHeld.size; replace hHeld := hNew; clear hNew hK K; (try simp only [PPz]); refine at_anyH (fun v => Below V6.heap.size V6 v ∧ BK v ws15.heap.size [.int .i64 0, .int .i64 0]) ⟨hHeld, BK.new _ _ _⟩ (fun ws19 hS => ?_); clear hHeld; obtain ⟨hHeld, BX⟩ := hS; exact dag_use (Ns4.out _ _ hHeld BX hX) (by kernel_rfl) (by kernel_rfl)
     ·
      go_simp; refine hK.out _ _ (below_al hHeld _) (fun hNew => ?_); have hY : V6.heap.size ≤ ws15.heap.size := hHeld.size; replace hHeld := hNew; clear hNew hK K; (try simp only [PPz]); refine at_anyH (fun v => Below V6.heap.size V6 v ∧ BK v ws15.heap.size [.int .i64 0, .int .i64 0]) ⟨hHeld, BK.new _ _ _⟩ (fun ws20 hS => ?_); clear hHeld; obtain ⟨hHeld, BY⟩ := hS; exact dag_use (Ns5.out _ _ hHeld BY hY) (by kernel_rfl) (by kernel_rfl)
    ·
     go_simp; refine hK.out _ _ (below_al hHeld _) (fun hNew => ?_); have hX : V6.heap.size ≤ ws0.heap.size := hHeld.size; replace hHeld := hNew; clear hNew hK K; (try simp only [PPz]); refine at_anyH (fun v => Below V6.heap.size V6 v ∧ BK v ws0.heap.size [.int .i64 0, .int .i64 0]) ⟨hHeld, BK.new _ _ _⟩ (fun ws21 hS => ?_); clear hHeld; obtain ⟨hHeld, BX⟩ := hS; refine rdy2 0 7 rfl rfl (fun K hK => ?_) (fun K hK => ?_)
     ·
      go_simp; refine (rOf_any 0 _).mono ?_; rintro e ws22 ⟨rfl, hb3⟩; (go_wp2_with fail); refine hK.out _ _ (keepB hHeld hb3) (fun hNew => ?_); replace BX := BX.keep hb3; replace hHeld := hNew; clear hNew hK K hb3; (try simp only [PPz]); exact dag_use (Ns4.out _ _ hHeld BX hX) (by kernel_rfl) (by kernel_rfl)
     ·
      go_simp; refine hK.out _ _ (below_al hHeld _) (fun hNew => ?_); have hY : V6.heap.size ≤ ws21.heap.size := hHeld.size; have dXY := BX.lt; replace hHeld := hNew; clear hNew hK K; (try simp only [PPz]); refine at_anyH (fun v => Below V6.heap.size V6 v ∧ BK v ws0.heap.size [.int .i64 0, .int .i64 0] ∧ BK v ws21.heap.size [.int .i64 0, .int .i64 0]) ⟨hHeld, BX.al _, BK.new _ _ _⟩ (fun ws23 hS => ?_); clear hHeld BX; obtain ⟨hHeld, BX, BY⟩ := hS; exact dag_use (Ns6.out _ _ _ hHeld BX hX BY hY (by omega)) (by kernel_rfl) (by kernel_rfl)
    ·
     go_simp; refine hK.out _ _ (below_al hHeld _) (fun hNew => ?_); have hY : V6.heap.size ≤ ws0.heap.size := hHeld.size; replace hHeld := hNew; clear hNew hK K; (try simp only [PPz]); refine at_anyH (fun v => Below V6.heap.size V6 v ∧ BK v ws0.heap.size [.int .i64 0, .int .i64 0]) ⟨hHeld, BK.new _ _ _⟩ (fun ws24 hS => ?_); clear hHeld; obtain ⟨hHeld, BY⟩ := hS; refine rdy2 0 6 rfl rfl (fun K hK => ?_) (fun K hK => ?_)
     ·
      go_simp; refine (rOf_any 0 _).mono ?_; rintro e ws25 ⟨rfl, hb3⟩; (go_wp2_with fail); refine hK.out _ _ (keepB hHeld hb3) (fun hNew => ?_); replace BY := BY.keep hb3; replace hHeld := hNew; clear hNew hK K hb3; (try simp only [PPz]); exact dag_use (Ns5.out _ _ hHeld BY hY) (by kernel_rfl) (by kernel_rfl)
     ·
      go_simp; refine hK.out _ _ (below_al hHeld _) (fun hNew => ?_); have hX : V6.heap.size ≤ ws24.heap.size := hHeld.size; have dYX := BY.lt; replace hHeld := hNew; clear hNew hK K; (try simp only [PPz]); refine at_anyH (fun v => Below V6.heap.size V6 v ∧ BK v ws0.heap.size [.int .i64 0, .int .i64 0] ∧ BK v ws24.heap.size [.int .i64 0, .int .i64 0]) ⟨hHeld, BY.al _, BK.new _ _ _⟩ (fun ws26 hS => ?_); clear hHeld BY; obtain ⟨hHeld, BY, BX⟩ := hS; exact dag_use (Ns6.out _ _ _ hHeld BX hX BY hY (by omega)) (by kernel_rfl) (by kernel_rfl)
  case rest =>
  obtain ⟨ba, be, rfl, rfl, hba, hbe, hne, BA, BE, hb7⟩ := hcut; have hbw := keepB hbb hb7; replace B0 := B0.keep hb7; replace BD := BD.keep hb7; replace BP := BP.keep hb7; replace BO := BO.keep hb7; replace BH := BH.keep hb7; have hG7 : GB (fun _ => False) w1 wc := hG.below hb7; have hs7 := hb7.size; clear hbb hb7 hG y0; rw [hVs] at hfd hv1; obtain ⟨bx, hbx⟩ : ∃ z, w1.heap.size = z := ⟨_, rfl⟩
  have hK : ∀ (F : Nat → Prop), (∀ k, F k → k < w.heap.size + 1 ∨ w1.heap.size ≤ k) → Kn.DkP F wc A1 cs1 Q1 [] := fun F hF w' k => by
    have hm : Mid (w.heap.size + 1) w1 wc := Kn.mid_gb (Mid.refl (w.heap.size + 1) w1) hG7 (fun j h1 h2 e => e); have hf := hfd.mid (Kn.mid_gb hm k (fun j h1 h2 e => by have := hF j e; omega)); exact ⟨hf.isCs, hf.isQs⟩
  rw [hbx] at BD BP BO BH hv1 hs6 hK ⊢; obtain ⟨no, hno⟩ : ∃ z, wc.heap.size = z := ⟨_, rfl⟩; have lba := BA.lt; have lbe := BE.lt; rw [hno] at lba lbe hs7; obtain ⟨P, hP⟩ : ∃ P : Kn.Pl, P = ⟨bx, bx + 1, bx + 2, bx + 3, ba, be, no⟩ := ⟨_, rfl⟩
  have e1 : bx = P.bx := by rw [hP]
  have e2 : bx + 1 = P.Pp := by rw [hP]
  have e3 : bx + 2 = P.bo := by rw [hP]
  have e4 : bx + 3 = P.ge := by rw [hP]
  have e5 : ba = P.ba := by rw [hP]
  have e6 : be = P.be := by rw [hP]
  have e7 : no = P.no := by rw [hP]
  have PL : Kn.PlOk P w.heap.size := by
    constructor <;> omega
  have dk0 : Kn.DkP (Kn.RF P w.heap.size (.slice none 0 0)) wc A1 cs1 Q1 [] := by
    refine hK _ (fun j hj => ?_)
    rcases hj with (hj | hj | hj | hj | hj | hj | hj) | hj
    all_goals first | omega | cases hj
  have bh0 : BK wc P.ge (Kn.hadl (Kn.sts D n len 0).l nn) := by
    rw [← e4, show (Kn.sts D n len 0).l = List.range D.length from rfl, HDL.out]; exact BH
  rw [e1] at BD; rw [e3, e2] at BO; rw [e5] at BA; rw [e6] at BE; rw [e2] at BP; have or0 : Own wc P.no (.slice none 0 0) (Kn.ors D n len 0) := World.ownsRow_nil _ _ _ _; have I0 : Kn.RI D n len w nn P 0 (.slice none 0 0) A1 ca1 cs1 Q1 0 cq1 (fun _ => 0) wc := ⟨hbw, B0, BD, BO, bh0, BA, BE, BP, fun t ht => (List.not_mem_nil ht).elim, or0, dk0, HCL1.out, rfl, HD1.out, by omega⟩; have HPL := Lib.hid PL; rw [e4, show bx + 1 + 1 = P.bo from e3, e5, e6, e1]
  (try rw [e2])
  clear BD BP BO BH BA BE hbw B0 hfd hK hG7 PL dk0 bh0 or0 hP e1 e2 e3 e4 e5 e6 e7 hbx hno hs6 hv1 lba lbe hs7 hba hbe hne hVs HCL1 HD1; (go_wp2_with fail)
  go_loopw [12] (fun s W => ∃ (k : Nat) (A : Option Addr) (ca : Nat) (cs : List CkR) (Q : Option Addr) (q cq : Nat) (G : Nat → Nat), k ≤ nn ∧ Kn.RI D n len w nn P k s A ca cs Q q cq G W) (fun s _ => nn - (match s with | .slice _ m _ => m | _ => 0))
  case atStart => exact ⟨0, _, _, _, _, _, _, _, Nat.zero_le _, I0⟩
  case round =>
    clear I0; obtain ⟨k, A, ca, cs, Q, q, cq, G, hk, SI⟩ := hrel; obtain ⟨W0, hW0⟩ : ∃ W0 : World, W0 = wr := ⟨_, rfl⟩; subst hW0; obtain ⟨sA, sc, hs⟩ := SI.or.form; rw [Kn.ors_len] at hs; subst hs
    by_cases hkn : k < nn
    · have i1 : (k : Int) < (nn : Int) := by omega
      have e0 := SI.be.c 0 rfl; have e1_ := SI.be.c 1 rfl
      go_upto_region 9 with fail
      have e1 := e1_
      go_cut [13, 14] (fun x z v => x = .int .i64 (-1) ∧ ∃ p : Nat, z = .pointer (some ⟨p, 0, none⟩) ∧ W0.heap.size ≤ p ∧ BK v p [.int .i64 len, .int .i64 1] ∧ GB (fun _ => False) W0 v)
      case first =>
        refine wp_region_held_drew (S := (GB (fun _ => False) W0)) (by kernel_rfl) ((GB.refl _ _).drew) (fun hHeld => ?_); refine at_anyH (fun v => GB (fun _ => False) W0 v) hHeld (fun wn0 hNew => ?_); clear hHeld; have hHeld := hNew; clear hNew; refine tkm 0 rfl hHeld (fun w hSw => by have ke0 := hSw.cell (fun h => h) e0; have ke1 := hSw.cell (fun h => h) e1; go_simp <;> with_reducible rfl) ?_; (try simp only [PPz]); refine rdy1 1 rfl (fun K hK => ?_); go_simp; refine hK.out _ _ (hHeld.al _) (fun hNew => ?_); have ht : W0.heap.size ≤ wn0.heap.size := hHeld.size; replace hHeld := hNew; clear hNew hK K; (try simp only [PPz]); refine at_anyH (fun v => GB (fun _ => False) W0 v ∧ BK v (wn0.heap.size) [.int .i64 0, .int .i64 0]) ⟨hHeld, BK.new _ _ _⟩ (fun wn2 hS => ?_); clear hHeld; obtain ⟨hHeld, Bt⟩ := hS; refine tkd 2 ?_; (try simp only [PPz]); refine rdy1 3 rfl (fun K hK => ?_); have n0 := Bt.c 0 rfl; have f0 := Bt.f 0 rfl; have n1 := Bt.c 1 rfl; have f1 := Bt.f 1 rfl; go_simp; clear n0 f0 n1 f1; refine hK.out _ _ ((hHeld.set (.inr ht) _).set (.inr ht) _) (fun hNew => ?_); replace hHeld := hNew; clear hNew hK K; (try simp only [PPz]); refine at_anyH (fun v => GB (fun _ => False) W0 v ∧ BK v (wn0.heap.size) [.int .i64 len, .int .i64 1]) ⟨hHeld, ((Bt.set 0 _).set 1 _)⟩ (fun wn4 hS => ?_); clear hHeld Bt; obtain ⟨hHeld, Bt⟩ := hS; refine wpAnyH_done (by kernel_rfl) ?_ _; (go_wp2_with fail)
        go_meet
        exact ⟨rfl, _, rfl, ht, Bt, hHeld⟩
      case rest =>
      obtain ⟨rfl, b14, rfl, h14, B14, hg9⟩ := hcut; clear e0 e1 e1_; have hfl := SI.fl; have hfg := SI.fg HPL.out; have hz9 := hg9.size; have l14 := B14.lt; have dk9 : Kn.DkP (fun j => Kn.RF P w.heap.size (.slice sA k sc) j ∨ j = b14) wc A cs Q (Kn.sts D n len k).L := Kn.dk_next SI.dk (Kn.gb_weak hg9 (fun _ h => h.elim)) (fun j hj => hj.imp id (fun e => by omega)); have bh9 := SI.bh.gb hg9 (fun h => h); have be9 := SI.be.gb hg9 (fun h => h); have ba9 := SI.ba.gb hg9 (fun h => h); have bd9 := SI.bd.gb hg9 (fun h => h); have bbw := (hg9.toBelow SI.bb (fun _ h => h.elim) SI.bb.size); have HS := Lib.hid SI; have HDK := Lib.hid dk9; have HG9 := Lib.hid hg9
      obtain ⟨R, hR⟩ : ∃ R : Nat → Int × Int × Int, R = fun i => Kn.rst D n len (Kn.sts D n len k) ((Kn.sts D n len k).l.filter fun j => decide (j < i)) := ⟨_, rfl⟩
      obtain ⟨LG, hL⟩ : ∃ LG : Nat → List Qr, LG = fun i => Kn.rlg D n (Kn.sts D n len k) ((Kn.sts D n len k).l.filter fun j => decide (j < i)) := ⟨_, rfl⟩
      have hRv : ∀ i, R i = Kn.rst D n len (Kn.sts D n len k) ((Kn.sts D n len k).l.filter fun j => decide (j < i)) := fun i => by rw [hR]
      have hLv : ∀ i, LG i = Kn.rlg D n (Kn.sts D n len k) ((Kn.sts D n len k).l.filter fun j => decide (j < i)) := fun i => by rw [hL]
      clear hR hL; have hln := (IV.out k hkn).ln; rw [HDL.out] at hln
      have R0 : R 0 = (-1, len, 1) := by rw [hRv, Kn.filt_zero]; rfl
      have L0 : LG 0 = (Kn.sts D n len k).L := by rw [hLv, Kn.filt_zero]; unfold Kn.rlg; split <;> simp
      have RS : ∀ i, R (i + 1) = (if i ∈ (Kn.sts D n len k).l then Kn.rs1 D n len (Kn.sts D n len k) (R i) i else R i) := fun i => by
        rw [hRv, hRv, Kn.filt_succ (SG.out k hkn).1.nd]
        split
        · rw [Kn.rst_snoc]
        · rw [List.append_nil]
      have LS : ∀ i, LG (i + 1) = (if i ∈ (Kn.sts D n len k).l ∧ k + 1 < nn then LG i ++ [Kn.qM D n (Kn.sts D n len k).a (Kn.sts D n len k).b i] else LG i) := fun i => by
        rw [hLv, hLv, Kn.filt_succ (SG.out k hkn).1.nd]
        by_cases h1 : i ∈ (Kn.sts D n len k).l
        · rw [if_pos h1]
          by_cases h2 : k + 1 < nn
          · rw [if_pos ⟨h1, h2⟩, Kn.rlg_snoc _ _ _ _ _ (by omega)]
          · rw [if_neg (fun h => h2 h.2)]
            unfold Kn.rlg
            rw [if_pos (by omega), if_pos (by omega)]
        · rw [if_neg h1, if_neg (fun h => h1 h.1), List.append_nil]
      have RN : R nn = (((Kn.agk D n len k : Nat) : Int), (Kn.stp D n len (Kn.sts D n len k)).2) := by
        rw [hRv, Kn.filt_all (fun j hj => by have := (SG.out k hkn).1.lt j hj; rw [HDL.out] at this; exact this)]; exact RA.out k hkn
      have LN : LG nn = (Kn.sts D n len (k + 1)).L := by
        rw [hLv, Kn.filt_all (fun j hj => by have := (SG.out k hkn).1.lt j hj; rw [HDL.out] at this; exact this)]
        rfl
      have LB : ∀ i, i ≤ nn → (LG i).length ≤ 50 := fun i hi => by
        have h1 : (LG i).length ≤ (Kn.sts D n len k).L.length + (Kn.sts D n len k).l.length := by
          rw [hLv]
          unfold Kn.rlg
          split
          · omega
          · rw [List.length_append, List.length_map]
            have := List.length_filter_le (fun j => decide (j < i)) (Kn.sts D n len k).l
            omega
        have h2 := (IV.out k hkn).lg; rw [HDL.out] at h2; have h3 : nn * (nn + 1) ≤ 6 * 7 := Nat.mul_le_mul hn6 (by omega)
        omega
      have OR : ∀ i, Rp.Ok (R i).2.1 (R i).2.2 := fun i => by
        induction i with
        | zero => rw [R0]; exact OL.out
        | succ i ih =>
          rw [RS]
          split
          · next hm =>
            unfold Kn.rs1
            split
            · show Rp.Ok (Kn.rmk D n len (Kn.sts D n len k) i).1 (Kn.rmk D n len (Kn.sts D n len k) i).2
              unfold Kn.rmk
              split
              · exact OL.out
              · exact (pt_spec (MP.out k hkn i hm).2).1
            · exact ih
          · exact ih
      have HOR := Lib.hid OR; have HFL := Lib.hid hfl; clear OR; have HRS := Lib.hid RS; have HLS := Lib.hid LS; have HRN := Lib.hid RN; have HLN := Lib.hid LN; have HLB := Lib.hid LB; have HB9 := Lib.hid bbw; have HQ0 := Lib.hid SI.ql; have HCL := Lib.hid SI.cl; have HCD := Lib.hid SI.cd; have HKN := Lib.hid hkn; have hPx := HPL.out; obtain ⟨p1, p2, p3, p4, p5, p6, p7, p8, p9⟩ := hPx; have hnoW := SI.nw; clear hRv hLv SI dk9 hg9 RS LS RN LN LB hfl hfg; (go_wp2_with fail)
      go_loopw [13, 15] (fun x y W => ∃ (i : Nat) (A : Option Addr) (ca : Nat) (cs : List CkR) (Q : Option Addr) (q cq : Nat), i ≤ nn ∧ y = .int .i64 (i : Nat) ∧ x = .int .i64 (R i).1 ∧ GB (fun j => j = P.bx ∨ j = b14) wc W ∧ BK W P.bx [.slice A nn ca, .slice Q q cq] ∧ BK W b14 [.int .i64 (R i).2.1, .int .i64 (R i).2.2] ∧ Kn.DkP (fun j => Kn.RF P w.heap.size (.slice sA k sc) j ∨ j = b14) W A cs Q (LG i) ∧ cs.length = nn ∧ (LG i).length = q ∧ cs.map Ak.dat = D) (fun _ y _ => nn - (intOf y).toNat)
      case atStart => exact ⟨0, A, ca, cs, Q, q, cq, Nat.zero_le _, rfl, by rw [R0], GB.refl _ _, bd9, by rw [R0]; exact B14, by rw [L0]; exact HDK.out, HCL.out, by rw [L0]; exact HQ0.out, HCD.out⟩
      case round =>
        clear bd9 B14; obtain ⟨i, A, ca, cs, Q, q, cq, hi, rfl, rfl, hG, BD, BT, hdk, hcl, hql, hcd⟩ := hrel; obtain ⟨W1, hW1⟩ : ∃ W1 : World, W1 = wr := ⟨_, rfl⟩; subst hW1
        by_cases hin : i < nn
        · have j1 : (i : Int) < (nn : Int) := by omega
          have j0 : (0 : Int) ≤ (i : Int) := by omega
          have hgs := hG.size; have bh := bh9.gb hG (fun h => by omega); have hc0 := bh.c i (Kn.hadl_at hin)
          by_cases hil : i ∈ (Kn.sts D n len k).l
          · rw [decide_eq_false (fun h => h hil)] at hc0
            obtain ⟨⟨r0, r1, r2⟩, hri⟩ : ∃ z, R i = z := ⟨_, rfl⟩; rw [hri] at BT ⊢; dsimp only at BT ⊢; have be := be9.gb hG (fun h => by omega); have e0 := be.c 0 rfl; have e1 := be.c 1 rfl; have lbt := BT.lt; have lbd := BD.lt; have HQL := Lib.hid hql; have HCC := Lib.hid hcl; have HCE := Lib.hid hcd; clear hql hcl hcd
            go_upto_region 15 with fail
            refine at_worldQ (fun v => GB (fun j => j = P.bx ∨ j = b14) wc v ∧ BK v P.bx [.slice A nn ca, .slice Q q cq] ∧ BK v b14 [.int .i64 r1, .int .i64 r2] ∧ BK v W1.heap.size [.int .i64 len, .int .i64 1] ∧ Kn.DkP (fun j => Kn.RF P w.heap.size (.slice sA k sc) j ∨ j = b14) v A cs Q (LG i)) ⟨hG.al _, BD.al _, BT.al _, BK.new _ _ _, hdk.keep ((GB.refl _ _).al _)⟩ (fun V15 hS => ?_); clear hG BD BT hdk be e0 e1 bh hc0; obtain ⟨hG, BD, BT, BX, hdk⟩ := hS; obtain ⟨b16, h16⟩ : ∃ z, W1.heap.size = z := ⟨_, rfl⟩; rw [h16] at BX lbt lbd hgs ⊢; clear h16; have lx := BX.lt; have hg15 := hG.size; have hw1 : IntKind.i64.wrap ((k : Int) + 1) = (k : Int) + 1 := IntWalk.i64_in _ (by omega)
            by_cases hs : k + 1 < nn
            · have hs1 : (k : Int) + 1 < (nn : Int) := by omega
              have hmk := MP.out k hkn i hil; have hsg := (SG.out k hkn).1; have hbq := HLB.out i (by omega)
              have hpm : Kn.rmk D n len (Kn.sts D n len k) i = ((Kn.mkQ D n (Kn.sts D n len k).a (Kn.sts D n len k).b i).1, (Kn.mkQ D n (Kn.sts D n len k).a (Kn.sts D n len k).b i).2.1) := by
                unfold Kn.rmk
                rw [if_neg (by have := (IV.out k hkn).ln; rw [HDL.out] at this; omega)]
              have hom := (pt_spec hmk.2).1
              have h64 : Ak.Q64 (Kn.qM D n (Kn.sts D n len k).a (Kn.sts D n len k).b i) := by
                have a1 := hsg.sh i hil; have a2 := hsg.ia; have a3 := hsg.ib; have b1 := hom.1; have b2 := hom.2.1; have b3 := hom.2.2.1; have b4 := hom.2.2.2.1
                unfold Kn.qM Ak.Q64
                unfold I64 at *
                dsimp only
                refine ⟨?_, ?_, ?_, ?_, ?_, ?_, ?_, ?_⟩
                all_goals omega
              have hkx : Ak.kS (Ak.dAt D i) (Kn.sts D n len k).a (Kn.sts D n len k).b (Ch.sh n (Ak.dAt D i)).1 (Ch.sh n (Ak.dAt D i)).2.1 = ((Kn.mkQ D n (Kn.sts D n len k).a (Kn.sts D n len k).b i).1, (Kn.mkQ D n (Kn.sts D n len k).a (Kn.sts D n len k).b i).2.1, 0) := by
                have e : Ak.kS (Ak.dAt D i) (Kn.sts D n len k).a (Kn.sts D n len k).b (Ch.sh n (Ak.dAt D i)).1 (Ch.sh n (Ak.dAt D i)).2.1 = Kn.mkQ D n (Kn.sts D n len k).a (Kn.sts D n len k).b i := rfl; rw [e, ← hmk.1]
              have sh := fun v (hv : GB (fun _ => False) V15 v) => rshare_any A ca cs Q q cq i n v (hdk v (Kn.gb_weak hv (fun _ h => h.elim))).1 (by rw [HCE.out]; exact HC.out) (by rw [HCC.out]; omega) (by rw [HCC.out, HN.out, HDL.out])
              have am := fun v (hv : GB (fun _ => False) V15 v) => rqmark_any D A ca cs Q (LG i) cq q i (Kn.sts D n len k).a (Kn.sts D n len k).b (Ch.sh n (Ak.dAt D i)).1 (Ch.sh n (Ak.dAt D i)).2.1 (Kn.mkQ D n (Kn.sts D n len k).a (Kn.sts D n len k).b i).1 (Kn.mkQ D n (Kn.sts D n len k).a (Kn.sts D n len k).b i).2.1 v (hdk v (Kn.gb_weak hv (fun _ h => h.elim))).1 (hdk v (Kn.gb_weak hv (fun _ h => h.elim))).2 HCE.out HC.out (by rw [HCC.out]; omega) HQL.out (by have := HQL.out; omega) h64 hkx
              rw [HCE.out, HCC.out] at sh; rw [HCC.out] at am; have ba := ba9.gb hG (fun h => by omega); have HQE : Hid (Kn.qM D n (Kn.sts D n len k).a (Kn.sts D n len k).b i = ⟨(i : Nat), 2, (Kn.sts D n len k).a, (Kn.sts D n len k).b, (Ch.sh n (Ak.dAt D i)).1, (Ch.sh n (Ak.dAt D i)).2.1, (Kn.mkQ D n (Kn.sts D n len k).a (Kn.sts D n len k).b i).1, (Kn.mkQ D n (Kn.sts D n len k).a (Kn.sts D n len k).b i).2.1⟩) := Lib.hid rfl; obtain ⟨⟨h1, h2, h3⟩, hsh⟩ : ∃ z, Ch.sh n (Ak.dAt D i) = z := ⟨_, rfl⟩; obtain ⟨⟨mx, my, mz⟩, hmq⟩ : ∃ z, Kn.mkQ D n (Kn.sts D n len k).a (Kn.sts D n len k).b i = z := ⟨_, rfl⟩; rw [hsh] at sh am HQE; rw [hmq] at am hpm hom HQE; dsimp only at sh am hpm hom HQE; obtain ⟨sa, hsa⟩ : ∃ z, (Kn.sts D n len k).a = z := ⟨_, rfl⟩; obtain ⟨sb, hsb⟩ : ∃ z, (Kn.sts D n len k).b = z := ⟨_, rfl⟩; rw [hsa, hsb] at am ba HQE; have SH := Lib.hid sh; have AM := Lib.hid am; have HPM := Lib.hid hpm; have HOM := Lib.hid hom
              have hlse : LG (i + 1) = LG i ++ [⟨(i : Nat), 2, sa, sb, h1, h2, mx, my⟩] := by rw [HLS.out i, if_pos ⟨hil, hs⟩, hsa, hsb, HQE.out]
              have HLE := Lib.hid hlse; clear sh am hpm hom hsh hmq hsa hsb h64 hkx hmk hsg hbq hlse hdk HQE; have p0 := BD.c 0 rfl; have p1 := BD.c 1 rfl; have a0 := ba.c 0 rfl; have a1 := ba.c 1 rfl; clear ba; have BD9 := BD; have BX9 := BX
              go_upto_region 16 with fail
              refine wp_region_noPanic ?_; refine region_ordU (S := (GB (fun _ => False) V15)) (GB (fun k => k = P.bx ∨ k = b16) V15) 11 (by kernel_rfl) ((GB.refl _ _).drew) (fun hHeld => ?_); refine at_ordU (fun v => GB (fun _ => False) V15 v) hHeld (fun wc0 hNew => ?_); clear hHeld; have hHeld := hNew; clear hNew; refine ordU_take (i := 0) (o := _) (v := ?vc1) rfl (by kernel_rfl) (by kernel_rfl) (by kernel_rfl) (by kernel_rfl) (fun _ _ _ h => h) (Or.inl ⟨by kernel_rfl, ?hyc1⟩) hHeld ?restc1
              case hyc1 => (intro w hSw; have kp0 := hSw.cell (fun h => h) p0; have kp1 := hSw.cell (fun h => h) p1; have ka0 := hSw.cell (fun h => h) a0; have ka1 := hSw.cell (fun h => h) a1; go_simp <;> with_reducible rfl)
              (try simp only [PPz]); refine ordU_take (i := 1) (o := _) (v := ?vc2) rfl (by kernel_rfl) (by kernel_rfl) (by kernel_rfl) (by kernel_rfl) (fun _ _ _ h => h) (Or.inl ⟨by kernel_rfl, ?hyc2⟩) hHeld ?restc2
              case hyc2 => (intro w hSw; go_simp <;> with_reducible rfl)
              (try simp only [PPz]); refine ordU_take (i := 2) (o := _) (v := ?vc3) rfl (by kernel_rfl) (by kernel_rfl) (by kernel_rfl) (by kernel_rfl) (fun _ _ _ h => h) (Or.inl ⟨by kernel_rfl, ?hyc3⟩) hHeld ?restc3
              case hyc3 => (intro w hSw; have kp0 := hSw.cell (fun h => h) p0; have kp1 := hSw.cell (fun h => h) p1; have ka0 := hSw.cell (fun h => h) a0; have ka1 := hSw.cell (fun h => h) a1; go_simp <;> with_reducible rfl)
              (try simp only [PPz]); refine ordU_take (i := 3) (o := _) (v := ?vc4) rfl (by kernel_rfl) (by kernel_rfl) (by kernel_rfl) (by kernel_rfl) (fun _ _ _ h => h) (Or.inl ⟨by kernel_rfl, ?hyc4⟩) hHeld ?restc4
              case hyc4 => (intro w hSw; have kp0 := hSw.cell (fun h => h) p0; have kp1 := hSw.cell (fun h => h) p1; have ka0 := hSw.cell (fun h => h) a0; have ka1 := hSw.cell (fun h => h) a1; go_simp <;> with_reducible rfl)
              (try simp only [PPz]); refine ordU_take (i := 4) (o := _) (v := ?vc5) rfl (by kernel_rfl) (by kernel_rfl) (by kernel_rfl) (by kernel_rfl) (fun _ _ _ h => h) (Or.inl ⟨by kernel_rfl, ?hyc5⟩) hHeld ?restc5
              case hyc5 => (intro w hSw; go_simp <;> with_reducible rfl)
              (try simp only [PPz]); refine ordU_ready (rs := [5]) (by kernel_rfl) (by simp) (ReadyU.cons (o := _) rfl (by decide) (fun K hK => ?_) ReadyU.nil); go_simp; refine (SH.out _ hHeld).mono ?_; rintro e wc6 ⟨rfl, hb3⟩; (go_wp2_with fail); refine hK.out _ _ (hHeld.below hb3) (fun hNew => ?_); replace hHeld := hNew; clear hNew hK K hb3; (try simp only [PPz]); refine ordU_ready (rs := [6]) (by kernel_rfl) (by simp) (ReadyU.cons (o := _) rfl (by decide) (fun K hK => ?_) ReadyU.nil); go_simp; refine (AM.out _ hHeld).mono ?_; rintro e wc7 ⟨A2, ca2, l2, g2, cap2, rfl, hb3, hd2, hfd⟩
              have hl2 : l2.length = nn := by rw [← HDL.out, ← hd2, List.length_map]
              rw [hl2]; have hfk := FDk.mk hfd; have hlo16 := hHeld.size; have HL2 := Lib.hid hl2; have HD2 := Lib.hid hd2; clear hl2 hd2 hfd; (go_wp2_with fail); refine hK.out _ _ (hHeld.below hb3) (fun hNew => ?_); replace hHeld := hNew; clear hNew hK K hb3; (try simp only [PPz]); refine ordU_take (i := 7) (o := _) (v := ?vc8) rfl (by kernel_rfl) (by kernel_rfl) (by kernel_rfl) (by kernel_rfl) (fun _ _ _ h => h) (Or.inl ⟨by kernel_rfl, ?hyc8⟩) hHeld ?restc8
              case hyc8 => (intro w hSw; go_simp <;> with_reducible rfl)
              (try simp only [PPz]); refine ordU_take (i := 8) (o := _) (v := ?vc9) rfl (by kernel_rfl) (by kernel_rfl) (by kernel_rfl) (by kernel_rfl) (fun _ _ _ h => h) (Or.inl ⟨by kernel_rfl, ?hyc9⟩) hHeld ?restc9
              case hyc9 => (intro w hSw; go_simp <;> with_reducible rfl)
              (try simp only [PPz]); refine ordU_take2 (i := 9) (o := _) (v := ?vc10) rfl (by kernel_rfl) (by kernel_rfl) (by kernel_rfl) (by decide) (fun  _ _ _ h => h) (Or.inl ⟨by kernel_rfl, ?hyc10⟩) (Or.inl ⟨by kernel_rfl, ?hzc10⟩) hHeld ?restc10
              case hyc10 => (intro w hSw; go_simp <;> with_reducible rfl)
              case hzc10 => (intro w hSw; go_simp <;> with_reducible rfl)
              (try simp only [PPz]); refine ordU_take2 (i := 10) (o := _) (v := ?vc11) rfl (by kernel_rfl) (by kernel_rfl) (by kernel_rfl) (by decide) (fun  _ _ _ h => h) (Or.inl ⟨by kernel_rfl, ?hyc11⟩) (Or.inl ⟨by kernel_rfl, ?hzc11⟩) hHeld ?restc11
              case hyc11 => (intro w hSw; go_simp <;> with_reducible rfl)
              case hzc11 => (intro w hSw; go_simp <;> with_reducible rfl)
              (try simp only [PPz]); refine ordU_at (by kernel_rfl) ?_; replace BD := BD.gb hHeld (fun h => by omega); replace BX := BX.gb hHeld (fun h => by omega); replace hHeld : GB (fun k => k = P.bx ∨ k = b16) V15 wc7 := Kn.gb_weak hHeld (fun k hk => False.elim hk); refine rdy1 11 rfl (fun K hK => ?_); have n0 := BD.c 0 rfl; have f0 := BD.f 0 rfl; have n1 := BD.c 1 rfl; have f1 := BD.f 1 rfl; go_simp; clear n0 f0 n1 f1; refine hK.out _ _ ((hHeld.set (.inl (.inl rfl)) _).set (.inl (.inl rfl)) _) (fun hNew => ?_); replace hHeld := hNew; clear hNew hK K; (try simp only [PPz]); refine at_anyH (fun v => GB (fun k => k = P.bx ∨ k = b16) V15 v ∧ BK v (P.bx) [.slice A2 nn ca2, .slice (some ⟨g2, 0, none⟩) (q + 1) cap2] ∧ BK v (b16) [.int .i64 len, .int .i64 1] ∧ FDk v wc6.heap.size A2 ca2 l2 (some ⟨g2, 0, none⟩) cap2 (LG i ++ [⟨(i : Nat), 2, sa, sb, h1, h2, mx, my⟩])) ⟨hHeld, ((BD.set 0 _).set 1 _), ((BX.far (by omega) _ _).far (by omega) _ _), ((hfk.set (by omega) _).set (by omega) _)⟩ (fun wc12 hS => ?_); clear hHeld BD BX hfk; obtain ⟨hHeld, BD, BX, hfk⟩ := hS; refine rdy1 12 rfl (fun K hK => ?_); have n0 := BX.c 0 rfl; have f0 := BX.f 0 rfl; have n1 := BX.c 1 rfl; have f1 := BX.f 1 rfl; go_simp; clear n0 f0 n1 f1; refine hK.out _ _ ((hHeld.set (.inl (.inr rfl)) _).set (.inl (.inr rfl)) _) (fun hNew => ?_); replace hHeld := hNew; clear hNew hK K; (try simp only [PPz]); refine at_anyH (fun v => GB (fun k => k = P.bx ∨ k = b16) V15 v ∧ BK v (P.bx) [.slice A2 nn ca2, .slice (some ⟨g2, 0, none⟩) (q + 1) cap2] ∧ BK v (b16) [.int .i64 mx, .int .i64 my] ∧ FDk v wc6.heap.size A2 ca2 l2 (some ⟨g2, 0, none⟩) cap2 (LG i ++ [⟨(i : Nat), 2, sa, sb, h1, h2, mx, my⟩])) ⟨hHeld, ((BD.far (by omega) _ _).far (by omega) _ _), ((BX.set 0 _).set 1 _), ((hfk.set (by omega) _).set (by omega) _)⟩ (fun wc13 hS => ?_); clear hHeld BD BX hfk; obtain ⟨hHeld, BD, BX, hfk⟩ := hS; refine tkd 13 ?_; (try simp only [PPz]); refine wpAnyH_done (by kernel_rfl) ?_ _; refine NoPanic.normal ?_; have hfd2 := hfk.f; have HGV := Lib.hid (Kn.gb_tr hG hHeld (fun j hj => by rcases hj with hj | hj <;> omega))
              have HDKV : Hid (Kn.DkP (fun j => Kn.RF P w.heap.size (.slice sA k sc) j ∨ j = b14) _ A2 l2 (some ⟨g2, 0, none⟩) (LG (i + 1))) := Lib.hid (by
                rw [HLE.out]
                exact Kn.fd_dkp hfd2 (fun j hj => by rcases hj with hj | hj; have := HFL.out j hj; omega; omega))
              have HQLV : Hid ((LG (i + 1)).length = q + 1) := Lib.hid (by rw [HLE.out, List.length_append, HQL.out]; rfl); have HCCV := HL2; have HCEV := HD2; replace BT := BT.gb hHeld (by omega); clear hHeld p0 p1 a0 a1 hfk hfd2 SH AM hG hlo16; have hr := HRS.out i; rw [if_pos hil, hri] at hr
              unfold Kn.rs1 at hr
              rw [HPM.out] at hr; dsimp only at hr; have lx16 := BX.lt
              by_cases hw0 : r0 < 0
              · rw [if_pos (.inl hw0)] at hr
                have HR := Lib.hid hr; clear hr
                go_upto_region 20 with fail
                refine at_worldQ (fun v => GB (fun j => j = P.bx ∨ j = b14) wc v ∧ BK v P.bx [.slice A2 nn ca2, .slice (some ⟨g2, 0, none⟩) (q + 1) cap2] ∧ BK v b14 [.int .i64 r1, .int .i64 r2] ∧ BK v b16 [.int .i64 mx, .int .i64 my] ∧ Kn.DkP (fun j => Kn.RF P w.heap.size (.slice sA k sc) j ∨ j = b14) v A2 l2 (some ⟨g2, 0, none⟩) (LG (i + 1))) ⟨HGV.out, BD, BT, BX, HDKV.out⟩ (fun V20u hS => ?_); clear BD BT BX HDKV HGV; obtain ⟨hGV, BD, BT, BX, hDKV⟩ := hS; have x0 := BX.c 0 rfl; have x1 := BX.c 1 rfl; have HGV := Lib.hid hGV; have HDKV := Lib.hid hDKV; clear hGV hDKV
              
                refine wp_region_noPanic ?_; refine wp_region_held_drew (S := (GB (fun k => k = b14) V20u)) (by kernel_rfl) ((GB.refl _ _).drew) (fun hHeld => ?_); refine at_anyH (fun v => GB (fun k => k = b14) V20u v ∧ BK v (b14) [.int .i64 r1, .int .i64 r2]) ⟨hHeld, BT.drew⟩ (fun wua0 hNew => ?_); clear hHeld BT; obtain ⟨hHeld, BT⟩ := hNew; refine tkd 0 ?_; (try simp only [PPz]); refine tkm 1 rfl hHeld (fun w hSw => by have kx0 := hSw.cell (by omega) x0; have kx1 := hSw.cell (by omega) x1; go_simp <;> with_reducible rfl) ?_; (try simp only [PPz]); refine tkd 2 ?_; (try simp only [PPz]); refine rdy1 3 rfl (fun K hK => ?_); have n0 := BT.c 0 rfl; have f0 := BT.f 0 rfl; have n1 := BT.c 1 rfl; have f1 := BT.f 1 rfl; go_simp; clear n0 f0 n1 f1; refine hK.out _ _ ((hHeld.set (.inl rfl) _).set (.inl rfl) _) (fun hNew => ?_); replace hHeld := hNew; clear hNew hK K; (try simp only [PPz]); refine at_anyH (fun v => GB (fun k => k = b14) V20u v ∧ BK v (b14) [.int .i64 mx, .int .i64 my]) ⟨hHeld, ((BT.set 0 _).set 1 _)⟩ (fun wua4 hS => ?_); clear hHeld BT; obtain ⟨hHeld, BT⟩ := hS; refine wpAnyH_done (by kernel_rfl) ?_ _; refine NoPanic.normal ?_; have HGX := Lib.hid (Kn.gb_comp HGV.out (Kn.gb_weak hHeld (fun j e => .inr e))); have HDK3 := Lib.hid (HDKV.out.keep (Kn.gb_weak hHeld (fun j e => .inr e))); replace BD := BD.gb hHeld (by omega); clear hHeld x0 x1; (go_wp2_with fail)
                go_roundw
                case rel => exact ⟨i + 1, A2, ca2, l2, (some ⟨g2, 0, none⟩), (q + 1), cap2, by omega, by go_num, by rw [HR.out], HGX.out, BD, by rw [HR.out]; exact BT, HDK3.out, HCCV.out, HQLV.out, HCEV.out⟩
                case measure => (simp [intOf] <;> omega)
              · have x0 := BX.c 0 rfl
                have x1 := BX.c 1 rfl; have t0 := BT.c 0 rfl; have t1 := BT.c 1 rfl; have hor := HOR.out i; rw [hri] at hor
                have le := fun v => Less_any mx my r1 r2 HOM.out hor v
                clear hor
                by_cases hlt : Rp.q mx my < Rp.q r1 r2
                · rw [if_pos (.inr hlt)] at hr
                  rw [decide_eq_true hlt] at le; have HR := Lib.hid hr; have LE := Lib.hid le; clear hr le hlt; (go_wp2_with fail); refine (LE.out _).mono ?_; rintro e wl ⟨rfl, hb⟩; clear x0 x1 t0 t1; replace BX := BX.keep hb; replace BT := BT.keep hb; replace BD := BD.keep hb; replace HGV := Lib.hid (HGV.out.below hb); replace HDKV := Lib.hid (HDKV.out.keep ((GB.refl _ _).below hb)); clear hb LE
                  go_upto_region 20 with fail
                  refine at_worldQ (fun v => GB (fun j => j = P.bx ∨ j = b14) wc v ∧ BK v P.bx [.slice A2 nn ca2, .slice (some ⟨g2, 0, none⟩) (q + 1) cap2] ∧ BK v b14 [.int .i64 r1, .int .i64 r2] ∧ BK v b16 [.int .i64 mx, .int .i64 my] ∧ Kn.DkP (fun j => Kn.RF P w.heap.size (.slice sA k sc) j ∨ j = b14) v A2 l2 (some ⟨g2, 0, none⟩) (LG (i + 1))) ⟨HGV.out, BD, BT, BX, HDKV.out⟩ (fun V20u hS => ?_); clear BD BT BX HDKV HGV; obtain ⟨hGV, BD, BT, BX, hDKV⟩ := hS; have x0 := BX.c 0 rfl; have x1 := BX.c 1 rfl; have HGV := Lib.hid hGV; have HDKV := Lib.hid hDKV; clear hGV hDKV
              
                  refine wp_region_noPanic ?_; refine wp_region_held_drew (S := (GB (fun k => k = b14) V20u)) (by kernel_rfl) ((GB.refl _ _).drew) (fun hHeld => ?_); refine at_anyH (fun v => GB (fun k => k = b14) V20u v ∧ BK v (b14) [.int .i64 r1, .int .i64 r2]) ⟨hHeld, BT.drew⟩ (fun wub0 hNew => ?_); clear hHeld BT; obtain ⟨hHeld, BT⟩ := hNew; refine tkd 0 ?_; (try simp only [PPz]); refine tkm 1 rfl hHeld (fun w hSw => by have kx0 := hSw.cell (by omega) x0; have kx1 := hSw.cell (by omega) x1; go_simp <;> with_reducible rfl) ?_; (try simp only [PPz]); refine tkd 2 ?_; (try simp only [PPz]); refine rdy1 3 rfl (fun K hK => ?_); have n0 := BT.c 0 rfl; have f0 := BT.f 0 rfl; have n1 := BT.c 1 rfl; have f1 := BT.f 1 rfl; go_simp; clear n0 f0 n1 f1; refine hK.out _ _ ((hHeld.set (.inl rfl) _).set (.inl rfl) _) (fun hNew => ?_); replace hHeld := hNew; clear hNew hK K; (try simp only [PPz]); refine at_anyH (fun v => GB (fun k => k = b14) V20u v ∧ BK v (b14) [.int .i64 mx, .int .i64 my]) ⟨hHeld, ((BT.set 0 _).set 1 _)⟩ (fun wub4 hS => ?_); clear hHeld BT; obtain ⟨hHeld, BT⟩ := hS; refine wpAnyH_done (by kernel_rfl) ?_ _; refine NoPanic.normal ?_; have HGX := Lib.hid (Kn.gb_comp HGV.out (Kn.gb_weak hHeld (fun j e => .inr e))); have HDK3 := Lib.hid (HDKV.out.keep (Kn.gb_weak hHeld (fun j e => .inr e))); replace BD := BD.gb hHeld (by omega); clear hHeld x0 x1; (go_wp2_with fail)
                  go_roundw
                  case rel => exact ⟨i + 1, A2, ca2, l2, (some ⟨g2, 0, none⟩), (q + 1), cap2, by omega, by go_num, by rw [HR.out], HGX.out, BD, by rw [HR.out]; exact BT, HDK3.out, HCCV.out, HQLV.out, HCEV.out⟩
                  case measure => (simp [intOf] <;> omega)
                · rw [if_neg (fun h => h.elim hw0 hlt)] at hr
                  rw [decide_eq_false hlt] at le; have HR := Lib.hid hr; have LE := Lib.hid le; clear hr le hlt; (go_wp2_with fail); refine (LE.out _).mono ?_; rintro e wl ⟨rfl, hb⟩; clear x0 x1 t0 t1; replace BT := BT.keep hb; replace BD := BD.keep hb; have HGX := Lib.hid (HGV.out.below hb); have HDK3 := Lib.hid (HDKV.out.keep ((GB.refl _ _).below hb)); clear hb LE BX; (go_wp2_with fail)
                  go_roundw
                  case rel => exact ⟨i + 1, A2, ca2, l2, (some ⟨g2, 0, none⟩), (q + 1), cap2, by omega, by go_num, by rw [HR.out], HGX.out, BD, by rw [HR.out]; exact BT, HDK3.out, HCCV.out, HQLV.out, HCEV.out⟩
                  case measure => (simp [intOf] <;> omega)
            · have hs1 : ¬ (k : Int) + 1 < (nn : Int) := by omega
              have hpm : Kn.rmk D n len (Kn.sts D n len k) i = (len, 1) := by
                unfold Kn.rmk
                rw [if_pos (by have := (IV.out k hkn).ln; rw [HDL.out] at this; omega)]
              have HPX := Lib.hid hpm; have HOX := OL; have HGV := Lib.hid hG; have HDKV : Hid (Kn.DkP (fun j => Kn.RF P w.heap.size (.slice sA k sc) j ∨ j = b14) V15 A cs Q (LG (i + 1))) := Lib.hid (by rw [HLS.out i, if_neg (fun h => hs h.2)]; exact hdk); have HQLV : Hid ((LG (i + 1)).length = q) := Lib.hid (by rw [HLS.out i, if_neg (fun h => hs h.2)]; exact HQL.out); have HCCV := HCC; have HCEV := HCE; clear hpm hG hdk; have hr := HRS.out i; rw [if_pos hil, hri] at hr
              unfold Kn.rs1 at hr
              rw [HPX.out] at hr; dsimp only at hr; have lx16 := BX.lt
              by_cases hw0 : r0 < 0
              · rw [if_pos (.inl hw0)] at hr
                have HR := Lib.hid hr; clear hr
                go_upto_region 20 with fail
                refine at_worldQ (fun v => GB (fun j => j = P.bx ∨ j = b14) wc v ∧ BK v P.bx [.slice A nn ca, .slice Q q cq] ∧ BK v b14 [.int .i64 r1, .int .i64 r2] ∧ BK v b16 [.int .i64 len, .int .i64 1] ∧ Kn.DkP (fun j => Kn.RF P w.heap.size (.slice sA k sc) j ∨ j = b14) v A cs Q (LG (i + 1))) ⟨HGV.out, BD, BT, BX, HDKV.out⟩ (fun V20s hS => ?_); clear BD BT BX HDKV HGV; obtain ⟨hGV, BD, BT, BX, hDKV⟩ := hS; have x0 := BX.c 0 rfl; have x1 := BX.c 1 rfl; have HGV := Lib.hid hGV; have HDKV := Lib.hid hDKV; clear hGV hDKV

                refine wp_region_noPanic ?_; refine wp_region_held_drew (S := (GB (fun k => k = b14) V20s)) (by kernel_rfl) ((GB.refl _ _).drew) (fun hHeld => ?_); refine at_anyH (fun v => GB (fun k => k = b14) V20s v ∧ BK v (b14) [.int .i64 r1, .int .i64 r2]) ⟨hHeld, BT.drew⟩ (fun wsa0 hNew => ?_); clear hHeld BT; obtain ⟨hHeld, BT⟩ := hNew; refine tkd 0 ?_; (try simp only [PPz]); refine tkm 1 rfl hHeld (fun w hSw => by have kx0 := hSw.cell (by omega) x0; have kx1 := hSw.cell (by omega) x1; go_simp <;> with_reducible rfl) ?_; (try simp only [PPz]); refine tkd 2 ?_; (try simp only [PPz]); refine rdy1 3 rfl (fun K hK => ?_); have n0 := BT.c 0 rfl; have f0 := BT.f 0 rfl; have n1 := BT.c 1 rfl; have f1 := BT.f 1 rfl; go_simp; clear n0 f0 n1 f1; refine hK.out _ _ ((hHeld.set (.inl rfl) _).set (.inl rfl) _) (fun hNew => ?_); replace hHeld := hNew; clear hNew hK K; (try simp only [PPz]); refine at_anyH (fun v => GB (fun k => k = b14) V20s v ∧ BK v (b14) [.int .i64 len, .int .i64 1]) ⟨hHeld, ((BT.set 0 _).set 1 _)⟩ (fun wsa4 hS => ?_); clear hHeld BT; obtain ⟨hHeld, BT⟩ := hS; refine wpAnyH_done (by kernel_rfl) ?_ _; refine NoPanic.normal ?_; have HGX := Lib.hid (Kn.gb_comp HGV.out (Kn.gb_weak hHeld (fun j e => .inr e))); have HDK3 := Lib.hid (HDKV.out.keep (Kn.gb_weak hHeld (fun j e => .inr e))); replace BD := BD.gb hHeld (by omega); clear hHeld x0 x1; (go_wp2_with fail)
                go_roundw
                case rel => exact ⟨i + 1, A, ca, cs, Q, q, cq, by omega, by go_num, by rw [HR.out], HGX.out, BD, by rw [HR.out]; exact BT, HDK3.out, HCCV.out, HQLV.out, HCEV.out⟩
                case measure => (simp [intOf] <;> omega)
              · have x0 := BX.c 0 rfl
                have x1 := BX.c 1 rfl; have t0 := BT.c 0 rfl; have t1 := BT.c 1 rfl; have hor := HOR.out i; rw [hri] at hor
                have le := fun v => Less_any len 1 r1 r2 HOX.out hor v
                clear hor
                by_cases hlt : Rp.q len 1 < Rp.q r1 r2
                · rw [if_pos (.inr hlt)] at hr
                  rw [decide_eq_true hlt] at le; have HR := Lib.hid hr; have LE := Lib.hid le; clear hr le hlt; (go_wp2_with fail); refine (LE.out _).mono ?_; rintro e wl ⟨rfl, hb⟩; clear x0 x1 t0 t1; replace BX := BX.keep hb; replace BT := BT.keep hb; replace BD := BD.keep hb; replace HGV := Lib.hid (HGV.out.below hb); replace HDKV := Lib.hid (HDKV.out.keep ((GB.refl _ _).below hb)); clear hb LE
                  go_upto_region 20 with fail
                  refine at_worldQ (fun v => GB (fun j => j = P.bx ∨ j = b14) wc v ∧ BK v P.bx [.slice A nn ca, .slice Q q cq] ∧ BK v b14 [.int .i64 r1, .int .i64 r2] ∧ BK v b16 [.int .i64 len, .int .i64 1] ∧ Kn.DkP (fun j => Kn.RF P w.heap.size (.slice sA k sc) j ∨ j = b14) v A cs Q (LG (i + 1))) ⟨HGV.out, BD, BT, BX, HDKV.out⟩ (fun V20s hS => ?_); clear BD BT BX HDKV HGV; obtain ⟨hGV, BD, BT, BX, hDKV⟩ := hS; have x0 := BX.c 0 rfl; have x1 := BX.c 1 rfl; have HGV := Lib.hid hGV; have HDKV := Lib.hid hDKV; clear hGV hDKV

                  refine wp_region_noPanic ?_; refine wp_region_held_drew (S := (GB (fun k => k = b14) V20s)) (by kernel_rfl) ((GB.refl _ _).drew) (fun hHeld => ?_); refine at_anyH (fun v => GB (fun k => k = b14) V20s v ∧ BK v (b14) [.int .i64 r1, .int .i64 r2]) ⟨hHeld, BT.drew⟩ (fun wsb0 hNew => ?_); clear hHeld BT; obtain ⟨hHeld, BT⟩ := hNew; refine tkd 0 ?_; (try simp only [PPz]); refine tkm 1 rfl hHeld (fun w hSw => by have kx0 := hSw.cell (by omega) x0; have kx1 := hSw.cell (by omega) x1; go_simp <;> with_reducible rfl) ?_; (try simp only [PPz]); refine tkd 2 ?_; (try simp only [PPz]); refine rdy1 3 rfl (fun K hK => ?_); have n0 := BT.c 0 rfl; have f0 := BT.f 0 rfl; have n1 := BT.c 1 rfl; have f1 := BT.f 1 rfl; go_simp; clear n0 f0 n1 f1; refine hK.out _ _ ((hHeld.set (.inl rfl) _).set (.inl rfl) _) (fun hNew => ?_); replace hHeld := hNew; clear hNew hK K; (try simp only [PPz]); refine at_anyH (fun v => GB (fun k => k = b14) V20s v ∧ BK v (b14) [.int .i64 len, .int .i64 1]) ⟨hHeld, ((BT.set 0 _).set 1 _)⟩ (fun wsb4 hS => ?_); clear hHeld BT; obtain ⟨hHeld, BT⟩ := hS; refine wpAnyH_done (by kernel_rfl) ?_ _; refine NoPanic.normal ?_; have HGX := Lib.hid (Kn.gb_comp HGV.out (Kn.gb_weak hHeld (fun j e => .inr e))); have HDK3 := Lib.hid (HDKV.out.keep (Kn.gb_weak hHeld (fun j e => .inr e))); replace BD := BD.gb hHeld (by omega); clear hHeld x0 x1; (go_wp2_with fail)
                  go_roundw
                  case rel => exact ⟨i + 1, A, ca, cs, Q, q, cq, by omega, by go_num, by rw [HR.out], HGX.out, BD, by rw [HR.out]; exact BT, HDK3.out, HCCV.out, HQLV.out, HCEV.out⟩
                  case measure => (simp [intOf] <;> omega)
                · rw [if_neg (fun h => h.elim hw0 hlt)] at hr
                  rw [decide_eq_false hlt] at le; have HR := Lib.hid hr; have LE := Lib.hid le; clear hr le hlt; (go_wp2_with fail); refine (LE.out _).mono ?_; rintro e wl ⟨rfl, hb⟩; clear x0 x1 t0 t1; replace BT := BT.keep hb; replace BD := BD.keep hb; have HGX := Lib.hid (HGV.out.below hb); have HDK3 := Lib.hid (HDKV.out.keep ((GB.refl _ _).below hb)); clear hb LE BX; (go_wp2_with fail)
                  go_roundw
                  case rel => exact ⟨i + 1, A, ca, cs, Q, q, cq, by omega, by go_num, by rw [HR.out], HGX.out, BD, by rw [HR.out]; exact BT, HDK3.out, HCCV.out, HQLV.out, HCEV.out⟩
                  case measure => (simp [intOf] <;> omega)
          · rw [decide_eq_true hil] at hc0
            have hr := HRS.out i; have hl := HLS.out i; rw [if_neg hil] at hr; rw [if_neg (fun h => hil h.1)] at hl; have HR := Lib.hid hr; have HL := Lib.hid hl; have HDK2 := Lib.hid hdk; have HGG := Lib.hid hG; have HQL := Lib.hid hql; have HCC := Lib.hid hcl; have HCE := Lib.hid hcd; clear hr hl hil hdk hG hql hcl hcd; (go_wp2_with fail)
            go_roundw
            case rel => exact ⟨i + 1, A, ca, cs, Q, q, cq, by omega, by go_num, by rw [HR.out], HGG.out, BD, by rw [HR.out]; exact BT, by rw [HL.out]; exact HDK2.out, HCC.out, by rw [HL.out]; exact HQL.out, HCE.out⟩
            case measure => (simp [intOf] <;> omega)
        · skip
          obtain rfl : nn = i := by omega
          have j1 : ¬ (nn : Int) < (nn : Int) := by omega
          rw [HRN.out] at BT ⊢; dsimp only at BT ⊢; rw [HLN.out] at hdk hql; have hfl := AG.out k hkn; have hnw := NW.out k hkn; obtain ⟨fi, hfi⟩ : ∃ z, Kn.agk D n len k = z := ⟨_, rfl⟩; obtain ⟨sx, hsx⟩ : ∃ z, (Kn.stp D n len (Kn.sts D n len k)).2.1 = z := ⟨_, rfl⟩; obtain ⟨sy, hsy⟩ : ∃ z, (Kn.stp D n len (Kn.sts D n len k)).2.2 = z := ⟨_, rfl⟩; obtain ⟨sa, hsa⟩ : ∃ z, (Kn.sts D n len k).a = z := ⟨_, rfl⟩; obtain ⟨sb, hsb⟩ : ∃ z, (Kn.sts D n len k).b = z := ⟨_, rfl⟩; rw [hsx, hsy] at BT; rw [hfi] at hfl ⊢; have X2 := (HS.out.b2.gb HG9.out (fun h => h)).gb hG (fun h => by omega); have XO := (HS.out.bo.gb HG9.out (fun h => h)).gb hG (fun h => by omega); have XH := (HS.out.bh.gb HG9.out (fun h => h)).gb hG (fun h => by omega); have XA := (HS.out.ba.gb HG9.out (fun h => h)).gb hG (fun h => by omega); have XE := (HS.out.be.gb HG9.out (fun h => h)).gb hG (fun h => by omega); have XP := (HS.out.bp.gb HG9.out (fun h => h)).gb hG (fun h => by omega); rw [hsa, hsb] at XA; have HFI := Lib.hid hfi; have HSX := Lib.hid hsx; have HSY := Lib.hid hsy; have HSA := Lib.hid hsa; have HSB := Lib.hid hsb; have HDKN := Lib.hid hdk; have HQLN := Lib.hid hql; have HCLN := Lib.hid hcl; have HCDN := Lib.hid hcd; have HNWN := Lib.hid hnw; have HGI := Lib.hid hG; have hgs := hG.size; have lz1 := XP.lt; have lz2 := XH.lt; have lz3 := XA.lt; have lz4 := BD.lt; have lz5 := BT.lt; have lz6 := XE.lt; have lz7 := XO.lt; clear hfi hsx hsy hsa hsb hdk hql hcl hcd hnw hG bh9 be9 ba9 RA HRS HLS HRN HLN HLB; obtain ⟨vo, hvo⟩ : ∃ z, (Kn.pvs nn (Kn.Tk D n len k) G (fun _ => Value.slice none 0 0))[fi]? = some z := ⟨_, List.getElem?_eq_getElem (by unfold Kn.pvs; simp; exact hfl)⟩
          have m1 : (0 : Int) ≤ (fi : Int) := by omega
          have m2 : (fi : Int) < (nn : Int) := by omega
          have c0 := XO.c 0 rfl; have a0 := XA.c 0 rfl; have a1 := XA.c 1 rfl; have t0 := BT.c 0 rfl; have t1 := BT.c 1 rfl; have q0 := (XP.al (.cells #[.int .i64 sa, .int .i64 sb, .int .i64 sx, .int .i64 sy] 87)).c fi hvo; have q1 := (XP.al (.cells #[.int .i64 sa, .int .i64 sb, .int .i64 sx, .int .i64 sy] 87)).f fi hvo
          go_upto_region 22 with fail
          refine at_worldQ (fun v => BK v W1.heap.size [.int .i64 sa, .int .i64 sb, .int .i64 sx, .int .i64 sy] ∧ BK v P.bx [.slice A nn ca, .slice Q q cq] ∧ BK v w.heap.size [.slice none 0 0] ∧ BK v P.bo [.slice (some ⟨P.Pp, 0, none⟩) nn nn] ∧ BK v P.ge (Kn.hadl (Kn.sts D n len k).l nn) ∧ BK v P.ba [.int .i64 sa, .int .i64 sb] ∧ BK v P.be [.int .i64 len, .int .i64 1] ∧ BK v P.Pp ((Kn.pvs nn (Kn.Tk D n len k) G (fun _ => Value.slice none 0 0)).set fi (.slice (some ⟨W1.heap.size, 0, none⟩) 1 1)) ∧ BK v b14 [.int .i64 sx, .int .i64 sy] ∧ GB (fun j => j = P.Pp) W1 v ∧ v.heap.size = W1.heap.size + 1) ⟨(by have b := BK.new (W1.setCell ⟨P.Pp, fi, none⟩ (.slice (some ⟨W1.heap.size, 0, none⟩) 1 1)) [.int .i64 sa, .int .i64 sb, .int .i64 sx, .int .i64 sy] 87; simpa only [World.size_setCell] using b), (BD.far (by omega) _ _).al _, (X2.far (by omega) _ _).al _, (XO.far (by omega) _ _).al _, (XH.far (by omega) _ _).al _, (XA.far (by omega) _ _).al _, (XE.far (by omega) _ _).al _, (XP.set fi _).al _, (BT.far (by omega) _ _).al _, ((GB.refl (fun j => j = P.Pp) W1).set (.inl rfl) _).al _, by simp⟩ (fun V22 hS => ?_); clear BD X2 XO XH XA XE XP BT c0 a0 a1 t0 t1 q0 q1 hvo; obtain ⟨ZG, BD, X2, XO, XH, XA, XE, XP, BT, hG22, hs22⟩ := hS; obtain ⟨gz, hgz⟩ : ∃ z, W1.heap.size = z := ⟨_, rfl⟩; rw [hgz] at ZG XP hs22 lz1 lz2 lz3 lz4 lz5 lz6 lz7 hgs; have HGZ := Lib.hid hgz; clear hgz; have had := Kn.hadl_at (l := (Kn.sts D n len k).l) hfl; have h0 := XH.c fi had; have h1 := XH.f fi had
          go_upto_region 23 with fail
          refine at_worldQ (fun v => BK v gz [.int .i64 sa, .int .i64 sb, .int .i64 sx, .int .i64 sy] ∧ BK v P.bx [.slice A nn ca, .slice Q q cq] ∧ BK v w.heap.size [.slice none 0 0] ∧ BK v P.bo [.slice (some ⟨P.Pp, 0, none⟩) nn nn] ∧ BK v P.ge ((Kn.hadl (Kn.sts D n len k).l nn).set fi (.bool true)) ∧ BK v P.ba [.int .i64 sa, .int .i64 sb] ∧ BK v P.be [.int .i64 len, .int .i64 1] ∧ BK v P.Pp ((Kn.pvs nn (Kn.Tk D n len k) G (fun _ => Value.slice none 0 0)).set fi (.slice (some ⟨gz, 0, none⟩) 1 1)) ∧ BK v b14 [.int .i64 sx, .int .i64 sy] ∧ GB (fun j => j = P.Pp ∨ j = P.ge) W1 v ∧ v.heap.size = gz + 1) ⟨ZG.far (by omega) _ _, BD.far (by omega) _ _, X2.far (by omega) _ _, XO.far (by omega) _ _, XH.set fi _, XA.far (by omega) _ _, XE.far (by omega) _ _, XP.far (by omega) _ _, BT.far (by omega) _ _, (Kn.gb_weak hG22 (fun j e => .inl e)).set (.inl (.inr rfl)) _, by simp [hs22]⟩ (fun V23 hS => ?_); clear ZG BD X2 XO XH XA XE XP BT h0 h1 had hG22 hs22; obtain ⟨ZG, BD, X2, XO, XH, XA, XE, XP, BT, hG23, hs23⟩ := hS; have hGT : GB (fun j => j = P.bx ∨ j = P.Pp ∨ j = P.ge) W0 V23 := Kn.gb_tr (Kn.gb_tr (Kn.gb_weak HG9.out (fun _ h => h.elim)) HGI.out (fun j hj => by omega)) hG23 (fun j hj => by omega); have hmid : Mid P.no W0 V23 := Kn.mid_gb (Mid.refl P.no W0) hGT (fun j g1 g2 e => by omega); have hO := row_mid HS.out.or hmid; obtain ⟨T, hT⟩ : ∃ T, Kn.ors D n len k = T := ⟨_, rfl⟩
          have hnT : T.length = k := by rw [← hT]; exact Kn.ors_len D n len k
          rw [hT] at hO; have HT := Lib.hid hT; obtain ⟨nE, hE'⟩ : ∃ z, T.length = z := ⟨_, rfl⟩; have HE := Lib.hid hE'
          have hk6 : nE ≤ 6 := by omega
          have hEk : nE = k := by omega
          have HEK := Lib.hid hEk; rw [hE'] at hO
          have hrw := fun j e => HS.out.or.lt j e
          have HRW := Lib.hid hrw
          have hno9 : P.no ≤ V23.heap.size := by omega
          have HS23 := Lib.hid hs23; have HHGT := Lib.hid hGT; have hHG23 := Lib.hid hG23; have ho2 : V23.ownsRow P.no 3 1 (.slice sA k sc) nE (T.map (Value.int .i64)) := hO; clear hT hnT hE' hmid hs23 hO hGT hG23 hrw hEk
          go_upto_region 24 with (at_builtin; go_loud (refine wpList_append_lies _ rfl _ _ _ rfl P.no 3 i0 _ 1 8 Tryz.underlying59 HI.out HI2.out HI3.out HI4.out rfl (by omega) _ nE (T.map (Value.int .i64)) (by rfl) (World.ownsRow.alloc ho2 _) ⟨V23.heap.size, 0, none⟩ 1 1 [.int .i64 (fi : Int)] (by rfl) (by rfl) (World.news_of_block (cs := #[.int .i64 (fi : Int)]) (t := 3) (fr := (0, 0)) (heap_alloc_new V23 _)) (by simp [Value.oneCell']) (by omega) (by unfold maxLen; omega) (by omega) (by simp; omega) (V23.heap.size + 1) (by simp) ?_); intro g co W24 hown hgrow hat hglt)
          have gr : ∀ {p : Nat} {l : List Value}, BK V23 p l → (p < P.no ∨ W0.heap.size ≤ p) → BK W24 p l := fun h hp => (h.al _).grown hgrow (fun e => by have := HRW.out _ e; omega)
          replace ZG := gr ZG (by omega); replace BD := gr BD (by omega); replace X2 := gr X2 (by omega); replace XO := gr XO (by omega); replace XH := gr XH (by omega); replace XA := gr XA (by omega); replace XE := gr XE (by omega); replace XP := gr XP (by omega); replace BT := gr BT (by omega); have hG24 : GB (Kn.RF P w.heap.size (.slice sA k sc)) W0 W24 := Kn.gb_grown ((Kn.gb_weak HHGT.out (fun j hj => .inl (by omega))).al _) hgrow (fun j e => .inr e); have hG24b : GB (fun j => Kn.RF P w.heap.size (.slice sA k sc) j ∨ j = b14) W1 W24 := Kn.gb_grown ((Kn.gb_weak hHG23.out (fun j hj => .inl (.inl (by omega)))).al _) hgrow (fun j e => .inl (.inr e)); have hga : (Value.slice sA k sc).ownBlock = some g ∨ gz < g := hat.imp id (fun h => by have := HS23.out; omega); have hl24 := hG24.size; have HOWN := Lib.hid hown; have HG24 := Lib.hid hG24; have HG24B := Lib.hid hG24b; clear gr hgrow hat ho2 hno9 hown hG24 hG24b; have t0 := BT.c 0 rfl; have t1 := BT.c 1 rfl; have n0 := XA.c 0 rfl; have n1 := XA.c 1 rfl; have f0 := XA.f 0 rfl; have f1 := XA.f 1 rfl; (go_wp2_with fail)
          go_roundw
          case rel =>
            obtain rfl := HFI.out; obtain rfl := HSX.out; obtain rfl := HSY.out; refine ⟨k + 1, A, ca, cs, Q, q, cq, _, by omega, HS.out.step HPL.out (gz := gz) ((HG24.out.set (.inl (.inl (by omega))) _).set (.inl (.inl (by omega))) _) (by omega) (fun j e => ?_) ((X2.far (by omega) _ _).far (by omega) _ _) ((BD.far (by omega) _ _).far (by omega) _ _) ((XO.far (by omega) _ _).far (by omega) _ _) ?_ ((XA.set 0 _).set 1 _) ((XE.far (by omega) _ _).far (by omega) _ _) ((XP.far (by omega) _ _).far (by omega) _ _) ?_ ?_ HNWN.out (Kn.dk_next HDKN.out ((HG24B.out.set (.inl (.inl (.inl (by omega)))) _).set (.inl (.inl (.inl (by omega)))) _) (fun j hj => ?_)) HCLN.out HQLN.out HCDN.out⟩
            · have e : g = j := by simpa [Value.ownBlock] using e
              subst e; exact hga
            · rw [Kn.st_l, ← Kn.hadl_set ((SG.out k hkn).1.nd.imp (fun h => Nat.ne_of_lt h))]
              exact (XH.far (by omega) _ _).far (by omega) _ _
            · have hz := (ZG.far (show P.ba ≠ gz by omega) 0 (.int .i64 (Kn.stp D n len (Kn.sts D n len k)).2.1)).far (show P.ba ≠ gz by omega) 1 (.int .i64 (Kn.stp D n len (Kn.sts D n len k)).2.2)
              rw [← HSA.out, ← HSB.out] at hz; exact hz
            · unfold Own
              rw [List.length_append, List.map_append, HT.out, HE.out]; have ho := row_far (row_far HOWN.out (NB := P.ba) (off := 0) (fun e => by have e : g = P.ba := (by simpa [Value.ownBlock] using e); rcases hga with h | h; have := HRW.out g h; omega; omega) (.int .i64 (Kn.stp D n len (Kn.sts D n len k)).2.1)) (NB := P.ba) (off := 1) (fun e => by have e : g = P.ba := (by simpa [Value.ownBlock] using e); rcases hga with h | h; have := HRW.out g h; omega; omega) (.int .i64 (Kn.stp D n len (Kn.sts D n len k)).2.2)
              simpa only [HEK.out, List.length_singleton, List.map_cons, List.map_nil] using ho
            · rcases hj with hj | hj
              · exact .inl (.inl (.inl hj))
              · have e : g = j := by simpa [Value.ownBlock] using hj
                subst e
                rcases hga with h | h
                · exact .inl (.inl (.inr h))
                · exact .inr (by have := HGZ.out; omega)
          case measure =>
            show nn - (nE + 1) < nn - k
            have := HEK.out
            omega
    · obtain rfl : nn = k := by omega
      have j1 : ¬ (nn : Int) < (nn : Int) := by omega
      have hPx := HPL.out; obtain ⟨p1, p2, p3, p4, p5, p6, p7, p8, p9⟩ := hPx; have ho := SI.or
      unfold Own at ho
      rw [Kn.ors_len] at ho; obtain ⟨go, co, hso, hgo, hco, BO⟩ := knbk_rown ho hn1
      simp only [Value.slice.injEq, true_and] at hso
      obtain ⟨rfl, rfl⟩ := hso; have HBB := Lib.hid SI.bb; have HDKE := Lib.hid SI.dk; have HBO := Lib.hid BO; have HBP := Lib.hid SI.bp; have HSP := Lib.hid SI.sp; have HQL := Lib.hid SI.ql; have lgo := BO.lt
      go_upto_region 25 with fail
      refine at_worldQ (fun v => BK v w.heap.size [.slice none 0 0] ∧ BK v P.bo [.slice (some ⟨P.Pp, 0, none⟩) nn nn] ∧ BK v P.bx [.slice A nn ca, .slice Q q cq] ∧ v = W0) ⟨SI.b2, SI.bo, SI.bd, rfl⟩ (fun WE hS => ?_); obtain ⟨BR, XO, BD, hWE⟩ := hS; subst hWE; clear SI ho BO; have o0 := XO.c 0 rfl; have d1 := BD.c 1 rfl; clear XO BD; refine wp_region_noPanic ?_; refine wp_region_held_drew (S := (GB (fun j => j = w.heap.size) WE)) (by kernel_rfl) ((GB.refl _ _).drew) (fun hHeld => ?_); refine at_anyH (fun v => GB (fun j => j = w.heap.size) WE v ∧ BK v (w.heap.size) [.slice none 0 0]) ⟨hHeld, BR.drew⟩ (fun wy0 hNew => ?_); clear hHeld BR; obtain ⟨hHeld, BR⟩ := hNew; refine tkm 0 rfl hHeld (fun w hSw => by have ko0 := hSw.cell (by omega) o0; have kd1 := hSw.cell (by omega) d1; go_simp <;> with_reducible rfl) ?_; (try simp only [PPz]); refine tkd 1 ?_; refine tkd 2 ?_; (try simp only [PPz]); refine tkm 3 rfl hHeld (fun w hSw => by have ko0 := hSw.cell (by omega) o0; have kd1 := hSw.cell (by omega) d1; go_simp <;> with_reducible rfl) ?_; (try simp only [PPz]); refine rdy1 4 rfl (fun K hK => ?_); have n0 := BR.c 0 rfl; have f0 := BR.f 0 rfl; go_simp; clear n0 f0; refine hK.out _ _ (hHeld.set (.inl rfl) _) (fun hNew => ?_); replace hHeld := hNew; clear hNew hK K; (try simp only [PPz]); refine at_anyH (fun v => GB (fun j => j = w.heap.size) WE v ∧ BK v (w.heap.size) [.slice (some ⟨P.Pp, 0, none⟩) nn nn]) ⟨hHeld, (BR.set 0 _)⟩ (fun wy5 hS => ?_); clear hHeld BR; obtain ⟨hHeld, BR⟩ := hS; refine tkd 5 ?_; refine tkd 6 ?_; refine tkd 7 ?_; (try simp only [PPz]); refine wpAnyH_done (by kernel_rfl) ?_ _; refine NoPanic.normal ?_; have r0 := BR.c 0 rfl; have hbb3 := hHeld.toBelow HBB.out (fun k hk => Nat.le_of_eq hk.symm) HBB.out.size; have hqs := (HDKE.out _ (Kn.gb_weak hHeld (fun j e => .inl (.inl e)))).2; have bor := HBO.out.gb hHeld (fun h => by omega); have bpv := HBP.out.gb hHeld (fun h => by omega)
      have bsp := fun t ht => (HSP.out t ht).2.gb hHeld (fun h => (HSP.out t ht).1 (.inl (.inl h)))
      have HA := Lib.hid hbb3; have HB := Lib.hid hqs; have HC2 := Lib.hid bor; have HD2 := Lib.hid bpv; have HE2 := Lib.hid bsp; clear hbb3 hqs bor bpv bsp hHeld o0 d1; (go_wp2_with fail); exact bodyPost_ret (v := .tuple #[.agg #[.slice (some ⟨P.Pp, 0, none⟩) nn nn], .slice (some ⟨go, 0, none⟩) nn sc, .slice Q q cq, .int .i64 0]) (by simp [results, Tryz.results25, go_sem, r0]) rfl (runk_mk HA.out HQL.out HB.out HC2.out HD2.out HE2.out)
end Go.Proofs.YtniagnldiegamaaGreat
