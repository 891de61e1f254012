/- Package trim: the closure of rounds: what it hands on, round by round. -/
import Derived.OwnWalkIn
import Derived.TacticsInMore
import Derived.LoopNIn
import Derived.LoopIn
import Derived.Test.YtpcdggkajindbaaGreatHt
import Derived.Test.YtpcdggkajindbaaGreatHr
import Derived.Deep.CutBlock
import Derived.Deep.DeepCutAuto
namespace Go.Proofs.YtpcdggkajindbaaGreat
open Go.RowKit
/-- The length of a slice that a slot holds. -/
def lenOf : Value → Nat
  | .slice _ n _ => n
  | _ => 0
/-- What stands when so many rounds are over. -/
structure RndS (D : List CkD) (n len : Int) (s0 : Ch.St) {nn : Nat} (J : Nat → List (Ch.El nn) → World → Prop) (Bd Bt p3 g n1 z : Nat) (Ws : List Nat) (i : Nat) (pre : List (Ch.El nn)) (v : World) (A : Option Addr) (ca : Nat) (cs : List CkR) (Q : Option Addr) (cq : Nat) (lo : Nat) (Wd : World) : Prop where
  ln : pre.length = i
  tn : pre.map Ch.El.tn = (List.range i).map fun k => Ch.rtn D n len (Ch.sts D n len s0 k)
  jj : J n1 pre v
  nv : n1 ≤ v.heap.size
  bd : BK v Bd [.slice A cs.length ca, .slice Q (Ch.sts D n len s0 i).L.length cq]
  bf : BK v p3 [.int .i64 (Ch.sts D n len s0 i).a, .int .i64 (Ch.sts D n len s0 i).b]
  bl : BK v g (((Ch.sts D n len s0 i).l.map fun (j : Nat) => (j : Int)).map (Value.int .i64))
  dt : cs.map Ak.dat = D
  fd : FD Wd lo A ca cs Q cq (Ch.sts D n len s0 i).L
  md : Mid lo Wd v
  sp : ∀ k, lo ≤ k → k < Wd.heap.size → k ≠ Bd ∧ k ≠ p3 ∧ k ≠ g ∧ k ∉ Ws ∧ rowOf v Bt ≠ some k ∧ k ≠ z
  ls : ∀ x, pre.getLast? = some x → x.Q = Q ∧ x.nq = (Ch.sts D n len s0 i).L.length ∧ x.cq = cq
/-- What the iterator leaves: the turns, and the last desk. -/
def RndE (D : List CkD) (n len : Int) (s0 : Ch.St) (z nn : Nat) (Ws : List Nat) (xs : List (Ch.El nn)) (W : World) : Prop :=
  xs.map Ch.El.tn = (List.range nn).map (fun k => Ch.rtn D n len (Ch.sts D n len s0 k)) ∧ ∃ (A : Option Addr) (ca : Nat) (cs : List CkR) (Q : Option Addr) (cq lo : Nat) (Wd : World), FD Wd lo A ca cs Q cq (Ch.sts D n len s0 nn).L ∧ Mid lo Wd W ∧ (∀ k, lo ≤ k → k < Wd.heap.size → k ≠ z ∧ k ∉ Ws) ∧ ∀ x, xs.getLast? = some x → x.Q = Q ∧ x.nq = (Ch.sts D n len s0 nn).L.length ∧ x.cq = cq
theorem RndE.gb {D : List CkD} {n len : Int} {s0 : Ch.St} {z nn : Nat} {Ws : List Nat} {xs : List (Ch.El nn)} {A B : World} (h : RndE D n len s0 z nn Ws xs A) (hg : GB (fun k => k = z) A B) : RndE D n len s0 z nn Ws xs B := by
  obtain ⟨h1, A', ca, cs, Q, cq, lo, Wd, h2, h3, h4, h5⟩ := h; exact ⟨h1, A', ca, cs, Q, cq, lo, Wd, h2, ⟨Nat.le_trans h3.size hg.size, fun k k1 k2 => (hg.block k (Nat.lt_of_lt_of_le k2 h3.size) (h4 k k1 k2).1).trans (h3.block k k1 k2)⟩, h4, h5⟩
theorem Mid.gb {B : Nat} {F : Nat → Prop} {Wd V W : World} (h : Mid B Wd V) (hg : GB F V W) (hF : ∀ k, B ≤ k → k < Wd.heap.size → ¬ F k) : Mid B Wd W :=
  ⟨Nat.le_trans h.size hg.size, fun k h1 h2 => (hg.block k (Nat.lt_of_lt_of_le h2 h.size) (hF k h1 h2)).trans (h.block k h1 h2)⟩
theorem getD_geN {l : List Nat} {k : Nat} (h : k < l.length) : l.getD k 0 = l[k] := by simp [h]
theorem eraseIdx_map {l : List Nat} {q : Nat} : ((l.map fun (j : Nat) => (j : Int)).eraseIdx q) = (l.eraseIdx q).map fun (j : Nat) => (j : Int) := by
  refine List.ext_getElem (by simp [List.length_eraseIdx]) fun k h1 h2 => ?_
  simp only [List.getElem_map, List.getElem_eraseIdx]
  split <;> rfl
/-- A block that lies as it lay. -/
structure BKK (W : World) (p : Nat) (l : List Value) : Prop where
  bk : BK W p l
section
variable {W W' : World} {p : Nat} {l : List Value}
theorem BKK.call (h : BKK W p l) (hb : Below W.heap.size W W') : BKK W' p l := ⟨h.bk.keep hb⟩
theorem BKK.al (h : BKK W p l) (o : Obj) : BKK (W.alloc o) p l := ⟨h.bk.al o⟩
theorem BKK.size (h : BKK W p l) : p + 1 ≤ W.heap.size := h.bk.lt
theorem BKK.set (h : BKK W p l) {q o : Nat} (hq : q ≠ p) (u : Value) : BKK (W.setCell ⟨q, o, none⟩ u) p l := ⟨h.bk.far hq o u⟩
end
set_option linter.unusedSimpArgs false in
set_option maxHeartbeats 8000000 in
set_option maxRecDepth 100000 in
theorem rounds_in (D : List CkD) (n len : Int) (nn : Nat) (A : Option Addr) (ca : Nat) (cs : List CkR) (Q : Option Addr) (cq lo Bd Bt z : Nat) (Ws : List Nat) (L0 : List Qr) (s0 : Ch.St) (hs0 : s0 = ⟨0, 1, List.range nn, L0⟩) (Wd W : World) (nf : Nat) (hnf : 1 ≤ nf)
    (hc : Ak.chkS D 0 = 0) (hn : n = (D.length : Nat)) (hnn : nn = D.length) (hlen : (Ak.dAt D 0).1 = len) (hD : cs.map Ak.dat = D) (hfd : FD Wd lo A ca cs Q cq L0) (hmd : Mid lo Wd W) (hbd : BK W Bd [.slice A cs.length ca, .slice Q L0.length cq])
    (hs : ∀ i, i < nn → Ch.SGood D n (Ch.sts D n len s0 i) ∧ (Ch.sts D n len s0 i).l.length = nn - i) (hBdW : Bd ∉ Ws) (hBt : Bt ∈ Ws) (hWs : ∀ k ∈ Ws, k < W.heap.size) (hz : z < W.heap.size) (_ : z ≠ Bd)
    (hsp : ∀ k, lo ≤ k → k < Wd.heap.size → k ≠ Bd ∧ k ∉ Ws ∧ k ≠ z) :
    SeqR Fence.wide nf Tryz.prog 64 #[.pointer (some ⟨Bd, 0, none⟩)] Ch.El.enc Bd Bt Ws (RndE D n len s0 z nn Ws) nn W := fun l J hJ hJr h0 hY => by
  have hgd := Ak.chkS_good hc
  have hn6 : nn ≤ 6 := by rw [hnn]; exact hgd.l1
  have hn1 : 1 ≤ nn := by rw [hnn]; exact hgd.l0
  have hcl : cs.length = nn := by rw [hnn, ← hD, List.length_map]
  have hBdl := hbd.lt
  have evy := fun v => tmevery_any A cs.length ca Q L0.length cq v (by omega) (by omega)
  rw [hcl] at evy
  have S0 : ∀ (p3 g : Nat) (v : World), Below W.heap.size W v → W.heap.size ≤ p3 → W.heap.size ≤ g → p3 < v.heap.size → g < v.heap.size → BK v p3 [.int .i64 0, .int .i64 1] → BK v g ((Ch.rng nn).map (Value.int .i64)) → ∃ n1, W.heap.size ≤ n1 ∧ p3 < n1 ∧ g < n1 ∧ RndS D n len s0 J Bd Bt p3 g n1 z Ws 0 [] v A ca cs Q cq lo Wd := fun p3 g v hv h3 hg h3l hgl b3 bg =>
    by
    subst hs0
    exact ⟨v.heap.size, hv.size, h3l, hgl, rfl, rfl, h0 _ v hv hv.size, Nat.le_refl _, hbd.keep hv, b3, by
      have : Ch.rng nn = (List.range nn).map fun (j : Nat) => (j : Int) := rfl
      rw [this] at bg
      exact bg, hD, hfd, hmd.call hv, fun k h1 h2 => by
      have := hsp k h1 h2; have h3 := hmd.size; refine ⟨this.1, by omega, by omega, this.2.1, fun hr => ?_, this.2.2⟩; have := hJr _ _ v k (h0 _ v hv hv.size) hr; have := hv.size
      omega, fun x hx => by simp at hx⟩
  have HS0 := Lib.hid S0; have HC := Lib.hid hc; have HNN := Lib.hid hnn; have HN := Lib.hid hn; have HLN := Lib.hid hlen; have HJ := Lib.hid hJ; have HJR := Lib.hid hJr; have HY := Lib.hid hY; have HSG := Lib.hid hs; have HWS := Lib.hid hWs; have HBW := Lib.hid hBdW; have HBT := Lib.hid hBt; have EVY := Lib.hid evy; have WH0 := Lib.hid (fun v => tmwhole_any 0 v); have HCL := Lib.hid hcl; have HN6 := Lib.hid hn6; have p0 := hbd.c 0 rfl; have p1 := hbd.c 1 rfl; rw [hcl] at p0; clear evy S0 hs0 hc hn hnn hlen hD hfd hmd hs hBdW hBt hWs hsp h0 hJ hJr hY hgd hcl
  show CallsIn Fence.wide nf Tryz.prog 64 #[.func (.yield l) #[] #[], .pointer (some ⟨Bd, 0, none⟩)] W _
  refine callsIn_of_wp Tryz.func64 rfl trivial ?_ rfl; refine wpIn_wide.2 ?_
  simp only [Tryz.ntmps64, List.size_toArray, List.length_cons, List.length_nil, Nat.reduceAdd, Nat.reduceSub, Array.replicate_succ, Array.replicate_zero, List.push_toArray, List.append_toArray, List.nil_append, List.cons_append]
  obtain ⟨nq0, hnq0⟩ : ∃ z, L0.length = z := ⟨_, rfl⟩; rw [hnq0] at p1 EVY
  go_upto_region 0 with fail
  go_cut [3, 4] (fun x y v => ∃ p3 g cap : Nat, x = .pointer (some ⟨p3, 0, none⟩) ∧ y = .slice (some ⟨g, 0, none⟩) nn cap ∧ BK v p3 [.int .i64 0, .int .i64 1] ∧ BK v g ((Ch.rng nn).map (Value.int .i64)) ∧ nn ≤ cap ∧ W.heap.size ≤ p3 ∧ W.heap.size ≤ g ∧ p3 ≠ g ∧ Below W.heap.size W v)
  case first =>
    refine wp_region_held_drew (S := (GB (fun _ => False) W)) (by kernel_rfl) ((GB.refl _ _).drew) (fun hHeld => ?_); refine at_anyH (fun v => GB (fun _ => False) W v) hHeld (fun wa0 hNew => ?_); clear hHeld; have hHeld := hNew; clear hNew; refine tkn 1 ?va1 rfl ?hya1 hHeld ?resta1
    case hya1 => (intro w hSw; have kp0 := hSw.cell (fun h => h) p0; have kp1 := hSw.cell (fun h => h) p1; go_simp; first | done | (with_reducible rfl))
    (try simp only [PPz]); refine rdy2 0 3 rfl rfl (fun K hK => ?_) (fun K hK => ?_)
    ·
      go_simp; refine (WH0.out _).mono ?_; rintro e wa2 ⟨rfl, hb3⟩; (go_wp2_with fail); refine hK.out _ _ (hHeld.below hb3) (fun hNew => ?_); clear hb3; clear hHeld hK K; have hHeld := hNew; clear hNew; (try simp only [PPz]); refine rdy2 2 3 rfl rfl (fun K hK => ?_) (fun K hK => ?_)
      ·
        go_simp; refine (EVY.out _).mono ?_; rintro e wa3 ⟨g, cap, rfl, hg, hcap, hbg, hb3⟩; have hgV := Nat.le_trans hHeld.size hg; have hgl := hbg.lt; replace hbg := BKK.mk hbg; (go_wp2_with fail); refine hK.out _ _ (hHeld.below hb3) (fun hNew => ?_); clear hb3; clear hHeld hK K; have hHeld := hNew; clear hNew; (try simp only [PPz]); refine rdy1 3 rfl (fun K hK => ?_); go_simp; refine hK.out _ _ (hHeld.al _) (fun hNew => ?_); have hF : W.heap.size ≤ wa3.heap.size := hHeld.size; clear hHeld hK K; have hHeld := hNew; clear hNew; (try simp only [PPz]); have gFhbg := hbg.size; refine at_anyH (fun v => GB (fun _ => False) W v ∧ BK v (wa3.heap.size) [.int .i64 0, .int .i64 0] ∧ BKK v g ((Ch.rng nn).map (Value.int .i64))) ⟨hHeld, BK.new _ _ _, hbg.al _⟩ (fun wa4 hS => ?_); clear hHeld hbg; obtain ⟨hHeld, BF, hbg⟩ := hS; refine rdy1 4 rfl (fun K hK => ?_); have n0 := BF.c 0 rfl; have f0 := BF.f 0 rfl; have n1 := BF.c 1 rfl; have f1 := BF.f 1 rfl; go_simp; clear n0 f0 n1 f1; refine hK.out _ _ ((hHeld.set (.inr hF) _).set (.inr hF) _) (fun hNew => ?_); clear hHeld hK K; have hHeld := hNew; clear hNew; (try simp only [PPz]); refine at_anyH (fun v => GB (fun _ => False) W v ∧ BK v (wa3.heap.size) [.int .i64 0, .int .i64 1] ∧ BKK v g ((Ch.rng nn).map (Value.int .i64))) ⟨hHeld, ((BF.set 0 _).set 1 _), ((hbg.set (by omega) _).set (by omega) _)⟩ (fun wa5 hS => ?_); clear hHeld BF hbg; obtain ⟨hHeld, BF, hbg⟩ := hS; refine tkn 5 ?va6 rfl ?hya6 hHeld ?resta6
        case hya6 => (intro w hSw; go_simp; first | done | (with_reducible rfl))
        (try simp only [PPz]); refine wpAnyH_done (by kernel_rfl) ?_ _; (go_wp2_with fail)
        go_meet
        exact ⟨_, g, cap, rfl, rfl, BF, hbg.bk, hcap, hF, hgV, by omega, hHeld.toBelow (Below.refl _ _) (fun k hk => hk.elim) (Nat.le_refl _)⟩
      ·
        go_simp; refine hK.out _ _ (hHeld.al _) (fun hNew => ?_); have hF : W.heap.size ≤ wa2.heap.size := hHeld.size; clear hHeld hK K; have hHeld := hNew; clear hNew; (try simp only [PPz]); refine at_anyH (fun v => GB (fun _ => False) W v ∧ BK v (wa2.heap.size) [.int .i64 0, .int .i64 0]) ⟨hHeld, BK.new _ _ _⟩ (fun wa7 hS => ?_); clear hHeld; obtain ⟨hHeld, BF⟩ := hS; refine rdy1 2 rfl (fun K hK => ?_); go_simp; refine (EVY.out _).mono ?_; rintro e wa8 ⟨g, cap, rfl, hg, hcap, hbg, hb3⟩; have hgV := Nat.le_trans hHeld.size hg; have hgl := hbg.lt; replace hbg := BKK.mk hbg; (go_wp2_with fail); refine hK.out _ _ (hHeld.below hb3) (fun hNew => ?_); have cF := BF.lt; replace BF := BF.keep hb3; clear hb3; clear hHeld hK K; have hHeld := hNew; clear hNew; (try simp only [PPz]); refine rdy1 4 rfl (fun K hK => ?_); have n0 := BF.c 0 rfl; have f0 := BF.f 0 rfl; have n1 := BF.c 1 rfl; have f1 := BF.f 1 rfl; go_simp; clear n0 f0 n1 f1; refine hK.out _ _ ((hHeld.set (.inr hF) _).set (.inr hF) _) (fun hNew => ?_); clear hHeld hK K; have hHeld := hNew; clear hNew; (try simp only [PPz]); refine at_anyH (fun v => GB (fun _ => False) W v ∧ BK v (wa2.heap.size) [.int .i64 0, .int .i64 1] ∧ BKK v g ((Ch.rng nn).map (Value.int .i64))) ⟨hHeld, ((BF.set 0 _).set 1 _), ((hbg.set (by omega) _).set (by omega) _)⟩ (fun wa9 hS => ?_); clear hHeld BF hbg; obtain ⟨hHeld, BF, hbg⟩ := hS; refine tkn 5 ?va10 rfl ?hya10 hHeld ?resta10
        case hya10 => (intro w hSw; go_simp; first | done | (with_reducible rfl))
        (try simp only [PPz]); refine wpAnyH_done (by kernel_rfl) ?_ _; (go_wp2_with fail)
        go_meet
        exact ⟨_, g, cap, rfl, rfl, BF, hbg.bk, hcap, hF, hgV, by omega, hHeld.toBelow (Below.refl _ _) (fun k hk => hk.elim) (Nat.le_refl _)⟩
    ·
      go_simp; refine hK.out _ _ (hHeld.al _) (fun hNew => ?_); have hF : W.heap.size ≤ wa0.heap.size := hHeld.size; clear hHeld hK K; have hHeld := hNew; clear hNew; (try simp only [PPz]); refine at_anyH (fun v => GB (fun _ => False) W v ∧ BK v (wa0.heap.size) [.int .i64 0, .int .i64 0]) ⟨hHeld, BK.new _ _ _⟩ (fun wa11 hS => ?_); clear hHeld; obtain ⟨hHeld, BF⟩ := hS; refine rdy1 0 rfl (fun K hK => ?_); go_simp; refine (WH0.out _).mono ?_; rintro e wa12 ⟨rfl, hb3⟩; (go_wp2_with fail); refine hK.out _ _ (hHeld.below hb3) (fun hNew => ?_); replace BF := BF.keep hb3; clear hb3; clear hHeld hK K; have hHeld := hNew; clear hNew; (try simp only [PPz]); refine rdy1 2 rfl (fun K hK => ?_); go_simp; refine (EVY.out _).mono ?_; rintro e wa13 ⟨g, cap, rfl, hg, hcap, hbg, hb3⟩; have hgV := Nat.le_trans hHeld.size hg; have hgl := hbg.lt; replace hbg := BKK.mk hbg; (go_wp2_with fail); refine hK.out _ _ (hHeld.below hb3) (fun hNew => ?_); have cF := BF.lt; replace BF := BF.keep hb3; clear hb3; clear hHeld hK K; have hHeld := hNew; clear hNew; (try simp only [PPz]); refine rdy1 4 rfl (fun K hK => ?_); have n0 := BF.c 0 rfl; have f0 := BF.f 0 rfl; have n1 := BF.c 1 rfl; have f1 := BF.f 1 rfl; go_simp; clear n0 f0 n1 f1; refine hK.out _ _ ((hHeld.set (.inr hF) _).set (.inr hF) _) (fun hNew => ?_); clear hHeld hK K; have hHeld := hNew; clear hNew; (try simp only [PPz]); refine at_anyH (fun v => GB (fun _ => False) W v ∧ BK v (wa0.heap.size) [.int .i64 0, .int .i64 1] ∧ BKK v g ((Ch.rng nn).map (Value.int .i64))) ⟨hHeld, ((BF.set 0 _).set 1 _), ((hbg.set (by omega) _).set (by omega) _)⟩ (fun wa14 hS => ?_); clear hHeld BF hbg; obtain ⟨hHeld, BF, hbg⟩ := hS; refine tkn 5 ?va15 rfl ?hya15 hHeld ?resta15
      case hya15 => (intro w hSw; go_simp; first | done | (with_reducible rfl))
      (try simp only [PPz]); refine wpAnyH_done (by kernel_rfl) ?_ _; (go_wp2_with fail)
      go_meet
      exact ⟨_, g, cap, rfl, rfl, BF, hbg.bk, hcap, hF, hgV, by omega, hHeld.toBelow (Below.refl _ _) (fun k hk => hk.elim) (Nat.le_refl _)⟩
  case rest =>
    obtain ⟨p3, g, cap, rfl, rfl, BF, BG, hcap, hp3, hg, hpg, hb⟩ := hcut; have hS := HS0.out p3 g _ hb hp3 hg BF.lt BG.lt BF BG; obtain ⟨n1, hn1W, hp3n, hgn, hS⟩ := hS; clear BF BG hb p0 p1 HS0 EVY WH0; (go_wp2_with fail)
    go_loopw [4] (fun x v => ∃ (i : Nat) (pre : List (Ch.El nn)) (A2 : Option Addr) (ca2 : Nat) (cs2 : List CkR) (Q2 : Option Addr) (cq2 lo2 : Nat) (Wd2 : World), i ≤ nn ∧ x = .slice (some ⟨g, 0, none⟩) (nn - i) cap ∧ RndS D n len s0 J Bd Bt p3 g n1 z Ws i pre v A2 ca2 cs2 Q2 cq2 lo2 Wd2) (fun x _ => lenOf x)
    case atStart => exact ⟨0, [], A, ca, cs, Q, cq, lo, Wd, Nat.zero_le _, rfl, hS⟩
    case round =>
      clear hS; obtain ⟨i, pre, A2, ca2, cs2, Q2, cq2, lo2, Wd2, hi, rfl, hR⟩ := hrel
      by_cases hlt : i < nn
      · obtain ⟨G, hl⟩ := HSG.out i hlt
        obtain ⟨s, hs⟩ : ∃ s, Ch.sts D n len s0 i = s := ⟨_, rfl⟩
        have hnx : Ch.sts D n len s0 (i + 1) = Ch.rnx D n len s := by rw [← hs]; rfl
        have htn := hR.tn; have hbl := hR.bl; have hbd := hR.bd; have hbf := hR.bf; have hfd := hR.fd; have hjj := hR.jj; have hnv := hR.nv; have hln := hR.ln; have hsp := hR.sp; rw [hs] at G hl hbl hbd hbf hfd; obtain ⟨k, hk⟩ : ∃ k, nn - i = k := ⟨_, rfl⟩; rw [hk] at hl ⊢
        have hk6 : k ≤ 6 := by have := HN6.out; omega
        have px := tmplayedx_any D n len s A2 ca2 cs2 Q2 cq2 g cap lo2 Wd2 wr hfd hR.md hR.dt HC.out HN.out HLN.out hbl (by omega) (by omega) G
        unfold PxQ at px
        rw [hl] at px; have hom := Ch.rout_mem (D := D) (n := n) (s := s) (by omega)
        have ho1 : (Ch.rout D n s).1 < nn := by rw [HNN.out]; exact G.ag _ hom
        have hq := List.idxOf_lt_length_of_mem hom
        have hqe : s.l.getD (s.l.idxOf (Ch.rout D n s).1) 0 = (Ch.rout D n s).1 := by simp [hq]
        have hnd : ∀ j, j < s.l.length → j ≠ s.l.idxOf (Ch.rout D n s).1 → s.l.getD j 0 ≠ (Ch.rout D n s).1 := fun j hj hne e => hne (by
          have hp := List.pairwise_iff_getElem.1 G.nd
          have e2 : s.l[j] = s.l[s.l.idxOf (Ch.rout D n s).1] := by
            rw [← getD_geN hj, ← getD_geN hq, e, hqe]
          rcases Nat.lt_trichotomy j (s.l.idxOf (Ch.rout D n s).1) with h | h | h
          · exact absurd e2 (hp _ _ hj hq h)
          · exact h
          · exact absurd e2.symm (hp _ _ hq hj h))
        have hLx : (Ch.rnx D n len s).L = (Ch.rout D n s).2.2 := rfl; have hax : (Ch.rnx D n len s).a = (Ch.rto D n len s).1 := rfl; have hbx : (Ch.rnx D n len s).b = (Ch.rto D n len s).2 := rfl; have hlx : (Ch.rnx D n len s).l = s.l.eraseIdx (s.l.idxOf (Ch.rout D n s).1) := rfl; have hrt : Ch.rtn D n len s = ⟨(Ch.rout D n s).1, s.a, s.b, (Ch.rto D n len s).1, (Ch.rto D n len s).2, (Ch.rout D n s).2.1⟩ := rfl; obtain ⟨ro, hro⟩ : ∃ ro, Ch.rout D n s = ro := ⟨_, rfl⟩; rw [hro] at px hq hqe hnd hLx hlx hrt ho1; obtain ⟨tx, htx⟩ : ∃ z, (Ch.rto D n len s).1 = z := ⟨_, rfl⟩; obtain ⟨ty, hty⟩ : ∃ z, (Ch.rto D n len s).2 = z := ⟨_, rfl⟩; rw [htx, hty] at px hrt; rw [htx] at hax; rw [hty] at hbx; obtain ⟨o1, o2, o3⟩ := ro; dsimp only at px hq hqe hnd hLx hlx hrt ho1; obtain ⟨sa, hsa⟩ : ∃ z, s.a = z := ⟨_, rfl⟩; obtain ⟨sb, hsb⟩ : ∃ z, s.b = z := ⟨_, rfl⟩; rw [hsa, hsb] at px hrt hbf; obtain ⟨m2, hm2⟩ : ∃ z, cs2.length = z := ⟨_, rfl⟩; obtain ⟨nq2, hnq2⟩ : ∃ z, s.L.length = z := ⟨_, rfl⟩; rw [hm2, hnq2] at px hbd; obtain ⟨sl, hsl⟩ : ∃ z, s.l = z := ⟨_, rfl⟩; rw [hsl] at hl hbl hq hqe hnd hlx; have hBt := HWS.out Bt HBT.out; have PX := Lib.hid px; have HO1 := Lib.hid ho1; have HQ := Lib.hid hq; have HQE := Lib.hid hqe; have HND := Lib.hid hnd; have HLX := Lib.hid hLx; have HLX2 := Lib.hid hlx; have HAX := Lib.hid hax; have HBX := Lib.hid hbx; have HRT := Lib.hid hrt; have HTN := Lib.hid htn; have HS := Lib.hid hs; have HNX := Lib.hid hnx; have HL := Lib.hid hl; have HK := Lib.hid hk; have HLNG := Lib.hid hln; have HSP := Lib.hid hsp; have HBL := Lib.hid hbl
        have i1 : (0 : Int) < (k : Int) := by omega
        have r0 := hbd.c 0 rfl; have r1 := hbd.c 1 rfl; have f0 := hbf.c 0 rfl; have f1 := hbf.c 1 rfl; clear px hom ho1 hq hqe hnd hLx hlx hax hbx hrt hro htx hty hsa hsb hm2 hnq2 hsl hs hnx htn hl hln hsp hfd G hR hbl; (go_wp2_with fail); refine PX.out.mono ?_; rintro e w2 ⟨A3, m3, ca3, Q3, nq3, cq3, cs3, lo3, Wd3, rfl, hb, hm3, hnq3, hd3, hfd3, hmd3, hiv⟩; have HM3 := Lib.hid hm3; have HNQ3 := Lib.hid hnq3; have HD3 := Lib.hid hd3; clear hm3 hnq3 hd3 r0 r1 f0 f1 PX
        go_upto_region 3 with fail
        refine at_worldQ (fun v => Below w2.heap.size w2 v ∧ BK v w2.heap.size [.slice A3 m3 ca3, .slice Q3 nq3 cq3, .int .i64 (o1 : Nat), .int .i64 sa, .int .i64 sb, .int .i64 tx, .int .i64 ty, .int .i64 (o2 : Nat)] ∧ v.heap.size = w2.heap.size + 1) ⟨below_al (Below.refl _ _) _, BK.new _ _ _, by simp⟩ (fun V3 hS => ?_); obtain ⟨hb23, BR, hV3⟩ := hS; have hb3 : Below wr.heap.size wr V3 := keepB hb hb23; have hws := hb.size; have hj3 := HJ.out n1 pre wr V3 hjj ((GB.refl _ _).below hb3); have hrow : rowOf V3 Bt = rowOf wr Bt := rowOf_eq (hb3.cell (p := ⟨Bt, 0, none⟩) (show Bt < wr.heap.size by omega))
        have hnr : ∀ k, k < n1 ∨ wr.heap.size ≤ k → rowOf V3 Bt ≠ some k := fun k hk he => by
          rw [hrow] at he; have := HJR.out n1 pre wr k hjj he
          omega
        obtain ⟨x, hx⟩ : ∃ x : Ch.El nn, (⟨A3, m3, ca3, Q3, nq3, cq3, o1, sa, sb, tx, ty, o2, HO1.out⟩ : Ch.El nn) = x := ⟨_, rfl⟩; obtain ⟨fn, tmps, assign, body, hy, hRd⟩ := HY.out n1 pre x V3 hj3 hn1W (by omega) (by have := HLNG.out; omega); have HX := Lib.hid hx
        have he : Ch.El.enc x = #[.agg #[.slice A3 m3 ca3, .slice Q3 nq3 cq3, .int .i64 (o1 : Nat), .int .i64 sa, .int .i64 sb, .int .i64 tx, .int .i64 ty, .int .i64 (o2 : Nat)], .int .i64 0] := by rw [← hx]; rfl
        rw [he] at hy; have hbd3 := hbd.keep hb3; have hbf3 := hbf.keep hb3; have hbl3 := HBL.out.keep hb3; have s0' := BR.c 0 rfl; have s1' := BR.c 1 rfl; have s2' := BR.c 2 rfl; have s3' := BR.c 3 rfl; have s4' := BR.c 4 rfl; have s5' := BR.c 5 rfl; have s6' := BR.c 6 rfl; have s7' := BR.c 7 rfl; clear hx he hbd hbf hj3 HBL; refine (wpIn_wide (n := nf)).1 ?_
        gi_wp2
        refine hRd.mono ?_; rintro e W3 ⟨rfl, hJ3, hkp⟩; have hsz := hkp.gb.size
        have hF : ∀ k, k < n1 ∨ wr.heap.size ≤ k → k ∉ Ws → ¬ (k ∈ Ws ∨ rowOf V3 Bt = some k) := fun k h1 h2 h3 => h3.elim h2 (hnr k h1)
        have hWn : ∀ k, W.heap.size ≤ k → k ∉ Ws := fun k h1 h2 => by
          have := HWS.out k h2
          omega
        have BD := hbd3.gb hkp.gb (hF Bd (.inl (by omega)) HBW.out); have BF := hbf3.gb hkp.gb (hF p3 (.inl hp3n) (hWn p3 hp3)); have BL := hbl3.gb hkp.gb (hF g (.inl hgn) (hWn g hg)); have BR3 := BR.gb hkp.gb (hF w2.heap.size (.inr (by omega)) (hWn _ (by omega)))
        have hmd4 := (hmd3.call hb23).gb hkp.gb (fun k h1 h2 => by
          rcases hiv k h1 h2 with h | h
          · have h3 := HSP.out k h.1 h.2
            exact fun h4 => h4.elim h3.2.2.2.1 (by rw [hrow]; exact h3.2.2.2.2.1)
          · exact hF k (.inr h) (hWn k (by omega)))
        have HSP3 := Lib.hid (show ∀ k, lo3 ≤ k → k < Wd3.heap.size → k ≠ Bd ∧ k ≠ p3 ∧ k ≠ g ∧ k ∉ Ws ∧ rowOf W3 Bt ≠ some k ∧ k ≠ z from fun k h1 h2 => by
          have hk3 : rowOf W3 Bt = some k → rowOf V3 Bt = some k := fun h => (hkp.row k h).resolve_right (by have := hmd3.size; omega)
          rcases hiv k h1 h2 with h | h
          · have h3 := HSP.out k h.1 h.2
            exact ⟨h3.1, h3.2.1, h3.2.2.1, h3.2.2.2.1, fun h => h3.2.2.2.2.1 (by rw [← hrow]; exact hk3 h), h3.2.2.2.2.2⟩
          · exact ⟨by omega, by omega, by omega, hWn k (by omega), fun h5 => hnr k (.inr h) (hk3 h5), by omega⟩)
        have hPRn := BR3.lt
        have hrD : w2.heap.size ≠ Bd := by omega
        have hrF : w2.heap.size ≠ p3 := by omega
        have hrG : w2.heap.size ≠ g := by omega
        have hBtD : Bt ≠ Bd := fun h => HBW.out (h ▸ HBT.out)
        have hBtF : Bt ≠ p3 := by omega
        have hBtG : Bt ≠ g := by omega
        have hBDF : Bd ≠ p3 := by omega
        have hBDG : Bd ≠ g := by omega
        have hnW3 : n1 ≤ W3.heap.size := by omega
        obtain ⟨PR, hPR⟩ : ∃ z, w2.heap.size = z := ⟨_, rfl⟩; rw [hPR] at BR3 hrD hrF hrG hPRn
        simp only [hPR]
        have HFD3 := Lib.hid hfd3; have HMD4 := Lib.hid hmd4; have HJ3 := Lib.hid hJ3; clear s0' s1' s2' s3' s4' s5' s6' s7' hb hb23 hb3 BR hbd3 hbf3 hbl3 hkp hF hnr hrow hRd hy hmd3 hmd4 hfd3 hJ3 hiv hV3 hws hPR; have r0 := BR3.c 0 rfl; have r1 := BR3.c 1 rfl; have r2 := BR3.c 2 rfl; have r5 := BR3.c 5 rfl; have r6 := BR3.c 6 rfl
        gi_wp2
        go_upto_region 4 with fail
        refine wp_region_noPanic ?_; refine wp_region_held_drew (S := (GB (fun k => k = Bd ∨ k = p3) W3)) (by kernel_rfl) ((GB.refl _ _).drew) (fun hHeld => ?_); refine at_anyH (fun v => GB (fun k => k = Bd ∨ k = p3) W3 v ∧ BK v (Bd) [.slice A2 m2 ca2, .slice Q2 nq2 cq2] ∧ BK v (p3) [.int .i64 sa, .int .i64 sb]) ⟨hHeld, BD.drew, BF.drew⟩ (fun wd0 hNew => ?_); clear hHeld BD BF; obtain ⟨hHeld, BD, BF⟩ := hNew; refine tkn 0 ?vd1 rfl ?hyd1 hHeld ?restd1
        case hyd1 => (intro w hSw; go_simp; first | done | (with_reducible rfl))
        (try simp only [PPz]); refine tkn 1 ?vd2 rfl ?hyd2 hHeld ?restd2
        case hyd2 => (intro w hSw; have kr0 := hSw.cell (by omega) r0; have kr1 := hSw.cell (by omega) r1; have kr5 := hSw.cell (by omega) r5; have kr6 := hSw.cell (by omega) r6; go_simp; first | done | (with_reducible rfl))
        (try simp only [PPz]); refine tkn 2 ?vd3 rfl ?hyd3 hHeld ?restd3
        case hyd3 => (intro w hSw; go_simp; first | done | (with_reducible rfl))
        (try simp only [PPz]); refine tkn 3 ?vd4 rfl ?hyd4 hHeld ?restd4
        case hyd4 => (intro w hSw; go_simp; first | done | (with_reducible rfl))
        (try simp only [PPz]); refine tkn 4 ?vd5 rfl ?hyd5 hHeld ?restd5
        case hyd5 => (intro w hSw; have kr0 := hSw.cell (by omega) r0; have kr1 := hSw.cell (by omega) r1; have kr5 := hSw.cell (by omega) r5; have kr6 := hSw.cell (by omega) r6; go_simp; first | done | (with_reducible rfl))
        (try simp only [PPz]); refine rdy1 5 rfl (fun K hK => ?_); have n0 := BD.c 0 rfl; have f0 := BD.f 0 rfl; have n1 := BD.c 1 rfl; have f1 := BD.f 1 rfl; go_simp; clear n0 f0 n1 f1; refine hK.out _ _ ((hHeld.set (.inl (.inl rfl)) _).set (.inl (.inl rfl)) _) (fun hNew => ?_); clear hHeld hK K; have hHeld := hNew; clear hNew; (try simp only [PPz]); refine at_anyH (fun v => GB (fun k => k = Bd ∨ k = p3) W3 v ∧ BK v (Bd) [.slice A3 m3 ca3, .slice Q3 nq3 cq3] ∧ BK v (p3) [.int .i64 sa, .int .i64 sb]) ⟨hHeld, ((BD.set 0 _).set 1 _), ((BF.far (by omega) _ _).far (by omega) _ _)⟩ (fun wd6 hS => ?_); clear hHeld BD BF; obtain ⟨hHeld, BD, BF⟩ := hS; refine rdy1 6 rfl (fun K hK => ?_); have n0 := BF.c 0 rfl; have f0 := BF.f 0 rfl; have n1 := BF.c 1 rfl; have f1 := BF.f 1 rfl; go_simp; clear n0 f0 n1 f1; refine hK.out _ _ ((hHeld.set (.inl (.inr rfl)) _).set (.inl (.inr rfl)) _) (fun hNew => ?_); clear hHeld hK K; have hHeld := hNew; clear hNew; (try simp only [PPz]); refine at_anyH (fun v => GB (fun k => k = Bd ∨ k = p3) W3 v ∧ BK v (Bd) [.slice A3 m3 ca3, .slice Q3 nq3 cq3] ∧ BK v (p3) [.int .i64 tx, .int .i64 ty]) ⟨hHeld, ((BD.far (by omega) _ _).far (by omega) _ _), ((BF.set 0 _).set 1 _)⟩ (fun wd7 hS => ?_); clear hHeld BD BF; obtain ⟨hHeld, BD, BF⟩ := hS; refine wpAnyH_done (by kernel_rfl) ?_ _; refine NoPanic.normal ?_
        skip
        have hHeld4 := hHeld; have BL4 := BL.gb hHeld (by omega); have q2 := hHeld.cell (by omega) r2; clear r0 r1 r2 r5 r6 hHeld
        have dl := tmdelete_any g cap (sl.map fun (j : Nat) => (j : Int)) (sl.idxOf o1) (o1 : Nat) PR _ BL4 (by rw [List.length_map]; exact HQ.out) (by rw [List.length_map, HL.out]; exact hk6) (by rw [List.length_map, HL.out]; omega) (by have h1 := HQ.out; have h2 := HQE.out; simp [h1] <;> simpa [h1] using h2) (fun j hj hne => by
          have hj' : j < sl.length := by simpa using hj
          have h2 := HND.out j hj' hne
          simp [hj'] at h2 ⊢
          omega) hrG q2
        rw [List.length_map, HL.out] at dl; have DL := Lib.hid dl; clear dl q2 BL4; (go_wp2_with fail); refine DL.out.mono ?_; rintro e W5 ⟨rfl, hG5, hB5⟩; (go_wp2_with fail)
        go_roundw
        case rel =>
          refine ⟨i + 1, pre ++ [x], A3, ca3, cs3, Q3, cq3, lo3, Wd3, by omega, by rw [show nn - (i + 1) = k - 1 by omega], ?_⟩; have hg35 : GB (fun k => k = Bd ∨ k = p3 ∨ k = g) W3 W5 := (hHeld4.to fun k _ h => h.imp id .inl).comp (hG5.to fun k _ h => .inr (.inr h)); refine ⟨by rw [List.length_append, HLNG.out]; rfl, ?_, ?_, by have := hg35.size; omega, ?_, ?_, ?_, HD3.out, ?_, ?_, ?_, ?_⟩
          · rw [List.map_append, HTN.out, List.range_succ, List.map_append]
            congr 1
            simp only [List.map_cons, List.map_nil]
            rw [HS.out, HRT.out, ← HX.out]
            rfl
          · exact HJ.out n1 _ W3 W5 HJ3.out (hg35.to fun k _ h => by rcases h with h | h | h <;> first | exact .inl h | exact .inr ⟨by omega, by omega⟩)
          · rw [HNX.out, HLX.out, ← HNQ3.out, ← HM3.out]
            exact BD.gb hG5 (by omega)
          · rw [HNX.out, HAX.out, HBX.out]
            exact BF.gb hG5 (by omega)
          · rw [HNX.out, HLX2.out, ← eraseIdx_map]
            exact hB5
          · rw [HNX.out, HLX.out]
            exact HFD3.out
          · exact HMD4.out.gb hg35 (fun k h1 h2 h3 => by
              have := HSP3.out k h1 h2
              rcases h3 with h3 | h3 | h3
              · exact this.1 h3
              · exact this.2.1 h3
              · exact this.2.2.1 h3)
          · intro k h1 h2
            have h3 := HSP3.out k h1 h2; have hr : rowOf W5 Bt = rowOf W3 Bt := rowOf_eq (World.cell?_of_block (a := ⟨Bt, 0, none⟩) (hg35.block Bt (by omega) (by omega))); exact ⟨h3.1, h3.2.1, h3.2.2.1, h3.2.2.2.1, by rw [hr]; exact h3.2.2.2.2.1, h3.2.2.2.2.2⟩
          · intro y hy
            have : x = y := by simpa using hy
            subst this; rw [← HX.out, HNX.out, HLX.out]; exact ⟨rfl, HNQ3.out, rfl⟩
        case measure =>
          show k - 1 < k
          omega
      · obtain rfl : i = nn := by omega
        have e0 : i - i = 0 := by omega
        rw [e0]; (go_wp2_with fail)
        go_end0
        exact ⟨⟨_, rfl⟩, n1, pre, hn1W, ⟨hR.tn, A2, ca2, cs2, Q2, cq2, lo2, Wd2, hR.fd, hR.md, fun k h1 h2 => ⟨(hR.sp k h1 h2).2.2.2.2.2, (hR.sp k h1 h2).2.2.2.1⟩, hR.ls⟩, hR.jj⟩
end Go.Proofs.YtpcdggkajindbaaGreat

