/- Package choose: whole, other, half. Package choose: afterCut. -/
import Derived.Test.YtniagnldiegamaaGreatGk
import Derived.Test.YtniagnldiegamaaGreatSd
import Derived.Test.YtniagnldiegamaaGreatGm
import Derived.Test.YtniagnldiegamaaGreatMake
import Derived.Test.YtniagnldiegamaaGreatWk
set_option linter.unusedSimpArgs false
set_option maxHeartbeats 8000000
set_option maxRecDepth 100000
namespace Go.Proofs.YtniagnldiegamaaGreat
open Go.RowKit
theorem GB.weak {F F' : Nat → Prop} {V W : World} (h : GB F V W) (hF : ∀ k, F k → F' k) : GB F' V W := ⟨h.os, h.tape, h.output, h.size, fun k hk hn => h.block k hk (fun hf => hn (hF k hf))⟩
theorem FD.call {W W' : World} {B ca cq : Nat} {A Q : Option Addr} {l : List CkR} {L : List Qr} (h : FD W B A ca l Q cq L) (hb : Below W.heap.size W W') : FD W' B A ca l Q cq L := h.keep hb
theorem FD.al {W : World} {B ca cq : Nat} {A Q : Option Addr} {l : List CkR} {L : List Qr} (h : FD W B A ca l Q cq L) (o : Obj) : FD (W.alloc o) B A ca l Q cq L := h.keep (below_al (Below.refl _ _) _)
/-- What a query that has an answer gives. -/
theorem PutQ.yes {D : List CkD} {qs : List Qr} {q0 q : Qr} {w w' : World} {e : Ending} (h : PutQ D qs q0 w e w') (hE : Ak.putE D qs.length q0 = 0) (hT : Ak.told D q0 = q) :
    ∃ (A : Option Addr) (m ca : Nat) (Q : Option Addr) (n cq : Nat) (l : List CkR), e = .returned (.tuple #[.agg #[.slice A m ca, .slice Q n cq], .agg #[.int .i64 q.x, .int .i64 q.y], .int .i64 0]) ∧ Below w.heap.size w w' ∧ m = l.length ∧ n = (qs ++ [q]).length ∧ l.map Ak.dat = D ∧ FD w' w.heap.size A ca l Q cq (qs ++ [q]) := by
  obtain ⟨hb, ⟨hn, _⟩ | ⟨_, A, ca, l, Q, cq, he, hd, hf⟩⟩ := h
  · exact absurd hE hn
  · rw [hT] at he hf
    exact ⟨A, l.length, ca, Q, _, cq, l, he, hb, rfl, rfl, hd, hf⟩
theorem chwhole_any (n : Int) (w : World) : Calls Tryz.prog 54 #[.int .i64 n] w fun e w' => e = .returned (.agg #[.int .i64 n, .int .i64 1]) ∧ Below w.heap.size w w' := by
  go_enter Tryz.func54, Tryz.ntmps54
  go_wp2
  exact bodyPost_ret (v := .agg #[.int .i64 n, .int .i64 1]) (by simp [results, Tryz.results54, go_sem]) rfl ⟨rfl, (Below.refl _ _).alloc (Nat.le_refl _) _⟩
theorem chother_any (k j : Int) (h : (k = 0 ∧ j = 1) ∨ (k = 1 ∧ j = 0)) (w : World) : Calls Tryz.prog 60 #[.int .i64 k] w fun e w' => e = .returned (.int .i64 j) ∧ Below w.heap.size w w' := by
  rcases h with ⟨rfl, rfl⟩ | ⟨rfl, rfl⟩
  all_goals
    go_enter Tryz.func60, Tryz.ntmps60
    go_wp2
    go_ret
    exact ⟨rfl, Below.refl _ _⟩
theorem chhalf_any (A : Option Addr) (ca : Nat) (cs : List CkR) (Q : Option Addr) (m cq k : Nat) (w : World) (h : IsCs w A cs) (hm : m ≤ maxLen) (hc : Ak.chkS (cs.map Ak.dat) m = 0) (hk : k < cs.length) :
    Calls Tryz.prog 111 #[.agg #[.slice A cs.length ca, .slice Q m cq], .int .i64 k] w fun e w' => e = .returned (.agg #[.int .i64 (Ch.hf (Ak.dAt (cs.map Ak.dat) k)).1, .int .i64 (Ch.hf (Ak.dAt (cs.map Ak.dat) k)).2.1]) ∧ Below w.heap.size w w' := by
  have hgd := Ak.chkS_good hc; have hck := hgd.all (Ak.dat (Ak.cat cs k)) (List.mem_map_of_mem (Ak.cat_mem hk))
  have tt := fun v (hv : Below w.heap.size w v) => askTotal_good A ca cs Q m cq k v (h.keep hv) hm hc hk
  rw [Ak.dAt_map cs hk]
  have ht : Ck.totS (Ak.cat cs k).len (Ak.cat cs k).cuts (Ak.cat cs k).dens = (Ck.tot (Ak.cat cs k).cuts (Ak.cat cs k).dens (Ak.cat cs k).dens.length, 0) := by
    unfold Ck.totS
    rw [if_pos (show Ck.chk (Ak.cat cs k).len (Ak.cat cs k).cuts (Ak.cat cs k).dens = 0 from hck)]
  rw [ht] at tt; have hG := Ck.chk_good (show Ck.chk _ _ _ = 0 from hck); have t0 := (Ck.tot_bd hG _ (Nat.le_refl _)).1; have t1 := (Ck.tot_bd hG _ (Nat.le_refl _)).2; have l1 := hG.len1; have la := hG.last; have hf : Ch.hf (Ak.dat (Ak.cat cs k)) = Rp.makeS (Ck.tot (Ak.cat cs k).cuts (Ak.cat cs k).dens (Ak.cat cs k).dens.length) 2 := rfl
  dsimp only [Ak.dat] at l1 la t0 t1
  dsimp only at tt; rw [hf]
  have t2 : Ck.tot (Ak.cat cs k).cuts (Ak.cat cs k).dens (Ak.cat cs k).dens.length ≤ 12000 := by omega
  clear hf ht la l1 t1 hG hck hgd
  generalize Ck.tot (Ak.cat cs k).cuts (Ak.cat cs k).dens (Ak.cat cs k).dens.length = T at *
  have mk := fun v => Make_any T 2 (by omega) (by omega) (by decide) (by decide) v
  generalize Rp.makeS T 2 = M at *
  obtain ⟨M1, M2, M3⟩ := M; dsimp only at mk ⊢; have TT := Lib.hid tt; have MK := Lib.hid mk; clear tt mk h hm hc hk t0 t2
  go_enter Tryz.func111, Tryz.ntmps111
  go_upto_region 1 with fail
  refine at_box2 (fun V hbb B0 B1 hVs => ?_); have p0 := B0.c 0 rfl; have p1 := B0.c 1 rfl; (go_wp2_with fail); refine (TT.out _ hbb).mono ?_; rintro e w1 ⟨rfl, hb⟩; clear p0 p1; replace hbb := keepB hbb hb; replace B1 := B1.keep hb; clear hb B0; (go_wp2_with fail); refine (MK.out _).mono ?_; rintro e w2 ⟨rfl, hb⟩; replace hbb := keepB hbb hb; replace B1 := B1.keep hb; clear hb
  go_upto_region 3 with fail
  refine at_worldQ (fun v => Below w.heap.size w v ∧ BK v (w.heap.size + 1) [.int .i64 0, .int .i64 0] ∧ BK v w2.heap.size [.int .i64 M1, .int .i64 M2]) ⟨below_al hbb _, B1.al _, BK.new _ _ _⟩ (fun V3 hS => ?_); have hw2 := hbb.size; clear hbb B1; obtain ⟨hbb, B1, B2⟩ := hS; have a0 := B2.c 0 rfl; have a1 := B2.c 1 rfl; have r0 := B1.c 0 rfl; have r1 := B1.c 1 rfl; have g0 := B1.f 0 rfl; have g1 := B1.f 1 rfl; (go_wp2_with fail); exact bodyPost_ret (v := .agg #[.int .i64 M1, .int .i64 M2]) (by simp [results, Tryz.results111, go_sem, r0, r1]) rfl ⟨rfl, by repeat (first | exact hbb | refine below_set ?_ (by omega) _)⟩
end Go.Proofs.YtniagnldiegamaaGreat
namespace Go.Proofs.YtniagnldiegamaaGreat
open Go.RowKit
/-- A state that a step gives. -/
def StQ (D : List CkD) (L : List Qr) (k s x y : Int) (b : Bool) (w : World) (e : Ending) (w' : World) : Prop :=
  ∃ (A : Option Addr) (m ca : Nat) (Q : Option Addr) (n cq : Nat) (l : List CkR), e = .returned (.agg #[.slice A m ca, .slice Q n cq, .int .i64 k, .int .i64 s, .int .i64 x, .int .i64 y, .bool b]) ∧ Below w.heap.size w w' ∧ m = l.length ∧ n = L.length ∧ l.map Ak.dat = D ∧ FD w' w.heap.size A ca l Q cq L
theorem afterCut_good (A : Option Addr) (ca : Nat) (cs : List CkR) (Q : Option Addr) (qs : List Qr) (cq : Nat) (k : Nat) (st x y : Int) (b : Bool) (h1 h2 : Int) (q : Qr) (w : World) (h : IsCs w A cs) (hq : IsQs w Q qs) (hc : Ak.chkS (cs.map Ak.dat) qs.length = 0) (hk : k < cs.length) (hh : Ch.hf (Ak.dAt (cs.map Ak.dat) k) = (h1, h2, 0)) (b1 : I64 h1) (b2 : I64 h2)
    (hE : Ak.putE (cs.map Ak.dat) qs.length ⟨k, 2, 0, 1, h1, h2, 0, 0⟩ = 0) (hT : Ak.told (cs.map Ak.dat) ⟨k, 2, 0, 1, h1, h2, 0, 0⟩ = q) :
    Calls Tryz.prog 85 #[.agg #[.slice A cs.length ca, .slice Q qs.length cq, .int .i64 k, .int .i64 st, .int .i64 x, .int .i64 y, .bool b]] w (StQ (cs.map Ak.dat) (qs ++ [q]) k 1 q.x q.y b w) := by
  have hlc := h.len
  unfold maxLen at hlc
  have mk := fun v (hv : Below w.heap.size w v) => askMark_any A ca cs Q qs cq k 0 1 h1 h2 v (h.keep hv) (hq.keep hv) ⟨by omega, by omega⟩ ⟨by decide, by decide⟩ ⟨by decide, by decide⟩ b1 b2
  have hf := fun v (hv : Below w.heap.size w v) => chhalf_any A ca cs Q qs.length cq k v (h.keep hv) hq.len hc hk
  rw [hh] at hf; dsimp only at hf
  have wh := fun v => chwhole_any 0 v
  generalize cs.map Ak.dat = D at *
  have HE := Lib.hid hE; have HT := Lib.hid hT; have MK := Lib.hid mk; have HF := Lib.hid hf; have WH := Lib.hid wh; clear mk hf wh hE hT h hq hc hh b1 b2 hk
  unfold StQ
  obtain ⟨qx, hqx⟩ : ∃ z, q.x = z := ⟨_, rfl⟩; obtain ⟨qy, hqy⟩ : ∃ z, q.y = z := ⟨_, rfl⟩; have HQX := Lib.hid hqx; have HQY := Lib.hid hqy; rw [hqx, hqy]; clear hqx hqy
  go_enter Tryz.func85, Tryz.ntmps85
  go_upto_region 1 with fail
  refine at_box2 (fun V hbb B0 B1 hVs => ?_); have p0 := B0.c 0 rfl; have p1 := B0.c 1 rfl; have p2 := B0.c 2 rfl; refine wp_region_noPanic ?_; refine region_ordU (S := (GB (fun _ => False) V)) (GB (fun k => k = w.heap.size) V) 16 (by kernel_rfl) ((GB.refl _ _).drew) (fun hHeld => ?_); refine at_ordU (fun v => GB (fun _ => False) V v) hHeld (fun wu0 hNew => ?_); clear hHeld; have hHeld := hNew; clear hNew; refine ordU_take (i := 0) (o := _) (v := ?vu1) rfl (by kernel_rfl) (by kernel_rfl) (by kernel_rfl) (by kernel_rfl) (fun _ _ _ h => h) (Or.inl ⟨by kernel_rfl, ?hyu1⟩) hHeld ?restu1
  case hyu1 => (intro w hSw; go_simp <;> with_reducible rfl)
  (try simp only [PPz]); refine ordU_take (i := 1) (o := _) (v := ?vu2) rfl (by kernel_rfl) (by kernel_rfl) (by kernel_rfl) (by kernel_rfl) (fun _ _ _ h => h) (Or.inl ⟨by kernel_rfl, ?hyu2⟩) hHeld ?restu2
  case hyu2 => (intro w hSw; have kp0 := hSw.cell (fun h => h) p0; have kp1 := hSw.cell (fun h => h) p1; have kp2 := hSw.cell (fun h => h) p2; go_simp <;> with_reducible rfl)
  (try simp only [PPz]); refine ordU_take (i := 2) (o := _) (v := ?vu3) rfl (by kernel_rfl) (by kernel_rfl) (by kernel_rfl) (by kernel_rfl) (fun _ _ _ h => h) (Or.inl ⟨by kernel_rfl, ?hyu3⟩) hHeld ?restu3
  case hyu3 => (intro w hSw; go_simp <;> with_reducible rfl)
  (try simp only [PPz]); refine ordU_take (i := 3) (o := _) (v := ?vu4) rfl (by kernel_rfl) (by kernel_rfl) (by kernel_rfl) (by kernel_rfl) (fun _ _ _ h => h) (Or.inl ⟨by kernel_rfl, ?hyu4⟩) hHeld ?restu4
  case hyu4 => (intro w hSw; have kp0 := hSw.cell (fun h => h) p0; have kp1 := hSw.cell (fun h => h) p1; have kp2 := hSw.cell (fun h => h) p2; go_simp <;> with_reducible rfl)
  (try simp only [PPz]); refine ordU_take (i := 5) (o := _) (v := ?vu5) rfl (by kernel_rfl) (by kernel_rfl) (by kernel_rfl) (by kernel_rfl) (fun _ _ _ h => h) (Or.inl ⟨by kernel_rfl, ?hyu5⟩) hHeld ?restu5
  case hyu5 => (intro w hSw; go_simp <;> with_reducible rfl)
  (try simp only [PPz]); refine ordU_take (i := 6) (o := _) (v := ?vu6) rfl (by kernel_rfl) (by kernel_rfl) (by kernel_rfl) (by kernel_rfl) (fun _ _ _ h => h) (Or.inl ⟨by kernel_rfl, ?hyu6⟩) hHeld ?restu6
  case hyu6 => (intro w hSw; have kp0 := hSw.cell (fun h => h) p0; have kp1 := hSw.cell (fun h => h) p1; have kp2 := hSw.cell (fun h => h) p2; go_simp <;> with_reducible rfl)
  (try simp only [PPz]); refine ordU_take (i := 7) (o := _) (v := ?vu7) rfl (by kernel_rfl) (by kernel_rfl) (by kernel_rfl) (by kernel_rfl) (fun _ _ _ h => h) (Or.inl ⟨by kernel_rfl, ?hyu7⟩) hHeld ?restu7
  case hyu7 => (intro w hSw; go_simp <;> with_reducible rfl)
  (try simp only [PPz]); refine ordU_take (i := 8) (o := _) (v := ?vu8) rfl (by kernel_rfl) (by kernel_rfl) (by kernel_rfl) (by kernel_rfl) (fun _ _ _ h => h) (Or.inl ⟨by kernel_rfl, ?hyu8⟩) hHeld ?restu8
  case hyu8 => (intro w hSw; have kp0 := hSw.cell (fun h => h) p0; have kp1 := hSw.cell (fun h => h) p1; have kp2 := hSw.cell (fun h => h) p2; go_simp <;> with_reducible rfl)
  (try simp only [PPz]); refine ordU_ready (rs := [4]) (by kernel_rfl) (by simp) (ReadyU.cons (o := _) rfl (by decide) (fun K hK => ?_) ReadyU.nil); go_simp; refine (WH.out _).mono ?_; rintro e wu9 ⟨rfl, hb3⟩; (go_wp2_with fail); refine hK.out _ _ (hHeld.below hb3) (fun hNew => ?_); replace hHeld := hNew; clear hNew hK K hb3; (try simp only [PPz]); refine ordU_ready (rs := [9]) (by kernel_rfl) (by simp) (ReadyU.cons (o := _) rfl (by decide) (fun K hK => ?_) ReadyU.nil); go_simp; refine (HF.out _ (hHeld.toBelow hbb (fun k hk => hk.elim) (by omega))).mono ?_; rintro e wu10 ⟨rfl, hb3⟩; (go_wp2_with fail); refine hK.out _ _ (hHeld.below hb3) (fun hNew => ?_); replace hHeld := hNew; clear hNew hK K hb3; (try simp only [PPz]); refine ordU_ready (rs := [10]) (by kernel_rfl) (by simp) (ReadyU.cons (o := _) rfl (by decide) (fun K hK => ?_) ReadyU.nil); go_simp; refine (MK.out _ (hHeld.toBelow hbb (fun k hk => hk.elim) (by omega))).mono ?_; rintro e wu11 hput; obtain ⟨A2, m2, ca2, Q2, n2, cq2, l2, rfl, hb3, hm2, hn2, hd2, hfd⟩ := hput.yes HE.out HT.out; have HM2 := Lib.hid hm2; have HN2 := Lib.hid hn2; have HD2 := Lib.hid hd2; clear hm2 hn2 hd2; rw [HQX.out, HQY.out]; have hm := Mid.refl wu10.heap.size wu11; have hvw := hHeld.size; (go_wp2_with fail); refine hK.out _ _ (hHeld.below hb3) (fun hNew => ?_); replace hHeld := hNew; clear hNew hK K hb3; (try simp only [PPz]); refine ordU_take (i := 11) (o := _) (v := ?vu12) rfl (by kernel_rfl) (by kernel_rfl) (by kernel_rfl) (by kernel_rfl) (fun _ _ _ h => h) (Or.inl ⟨by kernel_rfl, ?hyu12⟩) hHeld ?restu12
  case hyu12 => (intro w hSw; go_simp <;> with_reducible rfl)
  (try simp only [PPz]); refine ordU_take (i := 12) (o := _) (v := ?vu13) rfl (by kernel_rfl) (by kernel_rfl) (by kernel_rfl) (by kernel_rfl) (fun _ _ _ h => h) (Or.inl ⟨by kernel_rfl, ?hyu13⟩) hHeld ?restu13
  case hyu13 => (intro w hSw; go_simp <;> with_reducible rfl)
  (try simp only [PPz]); refine ordU_take2 (i := 13) (o := _) (v := ?vu14) rfl (by kernel_rfl) (by kernel_rfl) (by kernel_rfl) (by decide) (fun  _ _ _ h => h) (Or.inl ⟨by kernel_rfl, ?hyu14⟩) (Or.inl ⟨by kernel_rfl, ?hzu14⟩) hHeld ?restu14
  case hyu14 => (intro w hSw; go_simp <;> with_reducible rfl)
  case hzu14 => (intro w hSw; go_simp <;> with_reducible rfl)
  (try simp only [PPz]); refine ordU_take2 (i := 14) (o := _) (v := ?vu15) rfl (by kernel_rfl) (by kernel_rfl) (by kernel_rfl) (by decide) (fun  _ _ _ h => h) (Or.inl ⟨by kernel_rfl, ?hyu15⟩) (Or.inl ⟨by kernel_rfl, ?hzu15⟩) hHeld ?restu15
  case hyu15 => (intro w hSw; go_simp <;> with_reducible rfl)
  case hzu15 => (intro w hSw; go_simp <;> with_reducible rfl)
  (try simp only [PPz]); refine ordU_take (i := 15) (o := _) (v := ?vu16) rfl (by kernel_rfl) (by kernel_rfl) (by kernel_rfl) (by kernel_rfl) (fun _ _ _ h => h) (Or.inl ⟨by kernel_rfl, ?hyu16⟩) hHeld ?restu16
  case hyu16 => (intro w hSw; go_simp <;> with_reducible rfl)
  (try simp only [PPz]); refine ordU_at (by kernel_rfl) ?_; replace B0 := B0.gb hHeld (fun h => h); replace hHeld : GB (fun k => k = w.heap.size) V wu11 := hHeld.weak (fun k hk => hk.elim); refine rdy1 16 rfl (fun K hK => ?_); have n0 := B0.c 0 rfl; have f0 := B0.f 0 rfl; have n1 := B0.c 1 rfl; have f1 := B0.f 1 rfl; go_simp; clear n0 f0 n1 f1; refine hK.out _ _ ((hHeld.set (.inl rfl) _).set (.inl rfl) _) (fun hNew => ?_); replace hHeld := hNew; clear hNew hK K; (try simp only [PPz]); refine at_anyH (fun v => GB (fun k => k = w.heap.size) V v ∧ BK v (w.heap.size) [.slice A2 m2 ca2, .slice Q2 n2 cq2, .int .i64 k, .int .i64 st, .int .i64 x, .int .i64 y, .bool b] ∧ Mid wu10.heap.size wu11 v) ⟨hHeld, ((B0.set 0 _).set 1 _), ((hm.set (by omega) _).set (by omega) _)⟩ (fun wu17 hS => ?_); clear hHeld B0 hm; obtain ⟨hHeld, B0, hm⟩ := hS; refine tkd 17 ?_; (try simp only [PPz]); refine rdy1 18 rfl (fun K hK => ?_); have n0 := B0.c 4 rfl; have f0 := B0.f 4 rfl; have n1 := B0.c 5 rfl; have f1 := B0.f 5 rfl; go_simp; clear n0 f0 n1 f1; refine hK.out _ _ ((hHeld.set (.inl rfl) _).set (.inl rfl) _) (fun hNew => ?_); replace hHeld := hNew; clear hNew hK K; (try simp only [PPz]); refine at_anyH (fun v => GB (fun k => k = w.heap.size) V v ∧ BK v (w.heap.size) [.slice A2 m2 ca2, .slice Q2 n2 cq2, .int .i64 k, .int .i64 st, .int .i64 qx, .int .i64 qy, .bool b] ∧ Mid wu10.heap.size wu11 v) ⟨hHeld, ((B0.set 4 _).set 5 _), ((hm.set (by omega) _).set (by omega) _)⟩ (fun wu19 hS => ?_); clear hHeld B0 hm; obtain ⟨hHeld, B0, hm⟩ := hS; refine wpAnyH_done (by kernel_rfl) ?_ _; refine NoPanic.normal ?_; have hbb2 := hHeld.toBelow hbb (fun k hk => by omega) (by omega); have B1 := B1.gb hHeld (by omega); have hfd2 := hfd.mid hm; have hlt := B1.lt; clear hfd; have xa0 := B0.c 0 rfl; have xa1 := B0.c 1 rfl; have xa2 := B0.c 2 rfl; have xa3 := B0.c 3 rfl; have xa4 := B0.c 4 rfl; have xa5 := B0.c 5 rfl; have xa6 := B0.c 6 rfl; have xb0 := B0.f 0 rfl; have xb1 := B0.f 1 rfl; have xb2 := B0.f 2 rfl; have xb3 := B0.f 3 rfl; have xb4 := B0.f 4 rfl; have xb5 := B0.f 5 rfl; have xb6 := B0.f 6 rfl; have ya0 := B1.c 0 rfl; have ya1 := B1.c 1 rfl; have ya2 := B1.c 2 rfl; have ya3 := B1.c 3 rfl; have ya4 := B1.c 4 rfl; have ya5 := B1.c 5 rfl; have ya6 := B1.c 6 rfl; have yb0 := B1.f 0 rfl; have yb1 := B1.f 1 rfl; have yb2 := B1.f 2 rfl; have yb3 := B1.f 3 rfl; have yb4 := B1.f 4 rfl; have yb5 := B1.f 5 rfl; have yb6 := B1.f 6 rfl; (go_wp2_with fail); exact bodyPost_ret (v := .agg #[.slice A2 m2 ca2, .slice Q2 n2 cq2, .int .i64 k, .int .i64 1, .int .i64 qx, .int .i64 qy, .bool b]) (by simp [results, Tryz.results85, go_sem, ya0, ya1, ya2, ya3, ya4, ya5, ya6]) rfl ⟨A2, m2, ca2, Q2, n2, cq2, l2, rfl, (below_set (below_set (below_set (below_set (below_set (below_set (below_set (below_set hbb2 (by omega) _) (by omega) _) (by omega) _) (by omega) _) (by omega) _) (by omega) _) (by omega) _) (by omega) _), HM2.out, HN2.out, HD2.out, (((((((((hfd2.set (by omega) _).set (by omega) _).set (by omega) _).set (by omega) _).set (by omega) _).set (by omega) _).set (by omega) _).set (by omega) _).mono (by omega))⟩
end Go.Proofs.YtniagnldiegamaaGreat

