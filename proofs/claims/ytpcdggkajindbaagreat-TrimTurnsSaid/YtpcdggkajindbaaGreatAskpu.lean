/- Package ask's put. -/
import Derived.Test.YtpcdggkajindbaaGreatAskan
import Derived.Test.YtpcdggkajindbaaGreatAskco
namespace Go.Proofs.YtpcdggkajindbaaGreat
open Go.RowKit
namespace Ak
/-- The error of a query that is put. -/
def putE (D : List CkD) (m : Nat) (q : Qr) : Int := if chkS D m ≠ 0 then chkS D m else if (ansS D q).2.2 ≠ 0 then (ansS D q).2.2 else if m = 2000 then 4 else 0
def told (D : List CkD) (q : Qr) : Qr := { q with x := (ansS D q).1, y := (ansS D q).2.1 }
end Ak
theorem IsCG.mono {V : World} {B B' : Nat} {row : Option Nat} {c : CkR} (h : IsCG V B row c) (hb : B' ≤ B) : IsCG V B' row c := ⟨h.1, h.2.1, h.2.2.1.mono hb, h.2.2.2.mono hb⟩
/-- A desk of the call's own, in blocks from B on. -/
structure FD (W : World) (B : Nat) (A : Option Addr) (ca : Nat) (l : List CkR) (Q : Option Addr) (cq : Nat) (qs : List Qr) : Prop where
  row : W.ownsRow B 48 3 (.slice A l.length ca) l.length (Ak.cellsC l)
  all : ∀ c ∈ l, IsCG W B none c
  log : W.ownsRow B 85 8 (.slice Q qs.length cq) qs.length (Ak.cellsQ qs)
  q64 : ∀ q ∈ qs, Ak.Q64 q
  lc : l.length ≤ maxLen
  lq : qs.length ≤ maxLen
section
variable {W W' : World} {B B' : Nat} {A : Option Addr} {ca : Nat} {l : List CkR} {Q : Option Addr} {cq : Nat} {qs : List Qr}
theorem FD.isCs (h : FD W B A ca l Q cq qs) : IsCs W A l := isCs_row h.row rfl (fun c hc => (h.all c hc).isC) h.lc
theorem FD.isQs (h : FD W B A ca l Q cq qs) : IsQs W Q qs := isQs_row h.log rfl h.q64 h.lq
theorem FD.keep (h : FD W B A ca l Q cq qs) (hb : Below W.heap.size W W') : FD W' B A ca l Q cq qs := ⟨row_keep h.row hb, fun c hc => (h.all c hc).keep hb, row_keep h.log hb, h.q64, h.lc, h.lq⟩
theorem FD.mono (h : FD W B A ca l Q cq qs) (hb : B' ≤ B) : FD W B' A ca l Q cq qs := ⟨World.ownsRow.mono h.row hb, fun c hc => (h.all c hc).mono hb, World.ownsRow.mono h.log hb, h.q64, h.lc, h.lq⟩
theorem FD.set (h : FD W B A ca l Q cq qs) {p o : Nat} (hp : p < B) (u : Value) : FD (W.setCell ⟨p, o, none⟩ u) B A ca l Q cq qs :=
  ⟨row_far h.row (fun e => by have := (World.ownsRow.lt h.row p e).1; omega) u, fun c hc => (h.all c hc).set hp u, row_far h.log (fun e => by have := (World.ownsRow.lt h.log p e).1; omega) u, h.q64, h.lc, h.lq⟩
end
/-- What a query that is put gives. -/
def PutQ (D : List CkD) (qs : List Qr) (q : Qr) (w : World) (e : Ending) (w' : World) : Prop :=
  Below w.heap.size w w' ∧ ((Ak.putE D qs.length q ≠ 0 ∧ e = .returned (.tuple #[.agg #[.slice none 0 0, .slice none 0 0], .agg #[.int .i64 0, .int .i64 0], .int .i64 (Ak.putE D qs.length q)])) ∨
    (Ak.putE D qs.length q = 0 ∧ ∃ A ca l Q cq, e = .returned (.tuple #[.agg #[.slice A l.length ca, .slice Q (qs ++ [Ak.told D q]).length cq], .agg #[.int .i64 (Ak.told D q).x, .int .i64 (Ak.told D q).y], .int .i64 0]) ∧ l.map Ak.dat = D ∧ FD w' w.heap.size A ca l Q cq (qs ++ [Ak.told D q])))
set_option linter.unusedSimpArgs false in
set_option maxHeartbeats 8000000 in
set_option maxRecDepth 100000 in
theorem put_any (A : Option Addr) (ca : Nat) (cs : List CkR) (Q : Option Addr) (qs : List Qr) (cq : Nat) (ag kd a b c d x y : Int) (w : World) (h : IsCs w A cs) (hq : IsQs w Q qs) (hqq : Ak.Q64 ⟨ag, kd, a, b, c, d, x, y⟩) :
    Calls Tryz.prog 136 #[.agg #[.slice A cs.length ca, .slice Q qs.length cq], .agg #[.int .i64 ag, .int .u8 kd, .int .i64 a, .int .i64 b, .int .i64 c, .int .i64 d, .int .i64 x, .int .i64 y]] w (PutQ (cs.map Ak.dat) qs ⟨ag, kd, a, b, c, d, x, y⟩ w) := by
  unfold PutQ
  have ch := fun v (hv : Below w.heap.size w v) => askCheck_any A ca cs Q qs.length cq v hq.len (h.keep hv)
  by_cases h1 : Ak.chkS (cs.map Ak.dat) qs.length = 0
  · have hgd := Ak.chkS_good h1
    have l1 := hgd.l1
    have q1 := hgd.q1
    rw [List.length_map] at l1
    have hgc : ∀ c ∈ cs, Ak.ckD (Ak.dat c) = 0 := fun c hc => hgd.all _ (List.mem_map_of_mem hc)
    have ha := ansS_ans (cs := cs.map Ak.dat) ⟨ag, kd, a, b, c, d, x, y⟩ hgd.all
    obtain ⟨r, hr⟩ : ∃ r, Ak.ansS (cs.map Ak.dat) ⟨ag, kd, a, b, c, d, x, y⟩ = r := ⟨_, rfl⟩
    have hbd := ha.bd
    have an := fun v (hv : Below w.heap.size w v) => answer_any A ca cs Q qs.length cq ag kd a b c d x y v (h.keep hv) hgc hqq r hr
    rw [h1] at ch
    have hpe : Ak.putE (cs.map Ak.dat) qs.length ⟨ag, kd, a, b, c, d, x, y⟩ = if r.2.2 ≠ 0 then r.2.2 else if qs.length = 2000 then 4 else 0 := by
      unfold Ak.putE
      rw [if_neg (by rw [h1]; decide), hr]
    have htl : Ak.told (cs.map Ak.dat) ⟨ag, kd, a, b, c, d, x, y⟩ = ⟨ag, kd, a, b, c, d, r.1, r.2.1⟩ := by unfold Ak.told; rw [hr]
    rw [hr] at hbd
    have cp := fun v (hv : Below w.heap.size w v) => copied_any A ca cs Q qs cq v (h.keep hv) (hq.keep hv) hgc l1 (by omega)
    obtain ⟨R1, R2, R3⟩ := r
    dsimp only at an hpe htl hbd
    have HQ6 := Lib.hid (show ∀ z ∈ qs ++ [Ak.told (cs.map Ak.dat) ⟨ag, kd, a, b, c, d, x, y⟩], Ak.Q64 z from fun z hz => (List.mem_append.1 hz).elim (hq.all z) (fun hz => by
      have e : z = Ak.told (cs.map Ak.dat) ⟨ag, kd, a, b, c, d, x, y⟩ := by simpa using hz
      rw [e, htl]
      obtain ⟨k1, k2, k3, k4, k5, k6, _, _⟩ := hqq
      exact ⟨k1, k2, k3, k4, k5, k6, hbd.1, hbd.2.1⟩))
    have HTX := Lib.hid (show (Ak.told (cs.map Ak.dat) ⟨ag, kd, a, b, c, d, x, y⟩).x = R1 by rw [htl])
    have HTY := Lib.hid (show (Ak.told (cs.map Ak.dat) ⟨ag, kd, a, b, c, d, x, y⟩).y = R2 by rw [htl])
    have HTQ := Lib.hid (show Ak.cellsQ [Ak.told (cs.map Ak.dat) ⟨ag, kd, a, b, c, d, x, y⟩] = [.int .i64 ag, .int .u8 kd, .int .i64 a, .int .i64 b, .int .i64 c, .int .i64 d, .int .i64 R1, .int .i64 R2] by rw [htl]; rfl)
    have CH := Lib.hid ch
    have AN := Lib.hid an
    have CP := Lib.hid cp
    have HPE := Lib.hid hpe
    clear ch an cp hpe htl hbd ha hr hgc hgd h1 h hq hqq
    by_cases h2 : R3 = 0
    · subst h2
      by_cases h3 : qs.length = 2000
      · have HP := Lib.hid (HPE.out.trans (by rw [if_neg (by decide), if_pos h3]))
        clear HPE CP HQ6 HTX HTY HTQ
        have d3 : ((qs.length : Int) == 2000) = true := by rw [beq_iff_eq]; omega
        clear h3
        go_enter Tryz.func136, Tryz.ntmps136
        go_upto_region 1 with fail
        refine at_worldQ (fun v => Below w.heap.size w v ∧ BK v w.heap.size [.slice A cs.length ca, .slice Q qs.length cq] ∧ BK v (w.heap.size + 1) [.int .i64 ag, .int .u8 kd, .int .i64 a, .int .i64 b, .int .i64 c, .int .i64 d, .int .i64 x, .int .i64 y] ∧ BK v (w.heap.size + 2) [.slice none 0 0, .slice none 0 0] ∧ BK v (w.heap.size + 3) [.int .i64 0, .int .i64 0]) ⟨below_al (below_al (below_al (below_al (Below.refl _ _) _) _) _) _, (((BK.new w [.slice A cs.length ca, .slice Q qs.length cq] _).al _).al _).al _, by have b := ((BK.new (w.alloc (.cells #[.slice A cs.length ca, .slice Q qs.length cq] 65)) [.int .i64 ag, .int .u8 kd, .int .i64 a, .int .i64 b, .int .i64 c, .int .i64 d, .int .i64 x, .int .i64 y] 85).al (.cells #[.slice none 0 0, .slice none 0 0] 65)).al (.cells #[.int .i64 0, .int .i64 0] 44); simpa only [World.size_alloc] using b, by have b := (BK.new ((w.alloc (.cells #[.slice A cs.length ca, .slice Q qs.length cq] 65)).alloc (.cells #[.int .i64 ag, .int .u8 kd, .int .i64 a, .int .i64 b, .int .i64 c, .int .i64 d, .int .i64 x, .int .i64 y] 85)) [.slice none 0 0, .slice none 0 0] 65).al (.cells #[.int .i64 0, .int .i64 0] 44); simpa only [World.size_alloc] using b, by have b := BK.new (((w.alloc (.cells #[.slice A cs.length ca, .slice Q qs.length cq] 65)).alloc (.cells #[.int .i64 ag, .int .u8 kd, .int .i64 a, .int .i64 b, .int .i64 c, .int .i64 d, .int .i64 x, .int .i64 y] 85)).alloc (.cells #[.slice none 0 0, .slice none 0 0] 65)) [.int .i64 0, .int .i64 0] 44; simpa only [World.size_alloc] using b⟩ (fun V hS => ?_)
        obtain ⟨hbb, BD, BQ, B4, B5⟩ := hS
        have p0 := BD.c 0 rfl
        have p1 := BD.c 1 rfl
        go_wp2_with fail
        refine (CH.out _ hbb).mono ?_
        rintro e w1 ⟨rfl, hb1⟩
        clear p0 p1
        replace hbb := keepB hbb hb1
        replace BD := BD.keep hb1
        replace BQ := BQ.keep hb1
        replace B4 := B4.keep hb1
        replace B5 := B5.keep hb1
        clear hb1
        have p0 := BD.c 0 rfl
        have p1 := BD.c 1 rfl
        have e0 : ((0 : Int) != 0) = false := rfl
        go_upto_region 5 with fail
        clear p0 p1
        refine at_worldQ (fun v => Below w.heap.size w v ∧ BK v w.heap.size [.slice A cs.length ca, .slice Q qs.length cq] ∧ BK v (w.heap.size + 1) [.int .i64 ag, .int .u8 kd, .int .i64 a, .int .i64 b, .int .i64 c, .int .i64 d, .int .i64 x, .int .i64 y] ∧ BK v (w.heap.size + 2) [.slice none 0 0, .slice none 0 0] ∧ BK v (w.heap.size + 3) [.int .i64 0, .int .i64 0] ∧ BK v w1.heap.size [.slice A cs.length ca, .slice Q qs.length cq]) ⟨below_al hbb _, BD.al _, BQ.al _, B4.al _, B5.al _, BK.new w1 [.slice A cs.length ca, .slice Q qs.length cq] _⟩ (fun V2 hS => ?_)
        have h84 : w.heap.size + 3 < w1.heap.size := B5.lt
        clear hbb BD BQ B4 B5
        obtain ⟨hbb, BD, BQ, B4, B5, B8⟩ := hS
        generalize w1.heap.size = P8 at *
        have p0 := B8.c 0 rfl
        have p1 := B8.c 1 rfl
        have y0 := BQ.c 0 rfl
        have y1 := BQ.c 1 rfl
        have y2 := BQ.c 2 rfl
        have y3 := BQ.c 3 rfl
        have y4 := BQ.c 4 rfl
        have y5 := BQ.c 5 rfl
        have y6 := BQ.c 6 rfl
        have y7 := BQ.c 7 rfl
        go_wp2_with fail
        refine (AN.out _ hbb).mono ?_
        rintro e w2 ⟨rfl, hb1⟩
        clear p0 p1
        clear y0 y1 y2 y3 y4 y5 y6 y7
        replace hbb := keepB hbb hb1
        replace BD := BD.keep hb1
        replace BQ := BQ.keep hb1
        replace B4 := B4.keep hb1
        replace B5 := B5.keep hb1
        replace B8 := B8.keep hb1
        clear hb1
        have y6 := BQ.c 6 rfl
        have y7 := BQ.c 7 rfl
        have z6 := BQ.f 6 rfl
        have z7 := BQ.f 7 rfl
        go_upto_region 6 with fail
        clear y6 y7 z6 z7
        refine at_worldQ (fun v => Below w.heap.size w v ∧ BK v w.heap.size [.slice A cs.length ca, .slice Q qs.length cq] ∧ BK v (w.heap.size + 1) [.int .i64 ag, .int .u8 kd, .int .i64 a, .int .i64 b, .int .i64 c, .int .i64 d, .int .i64 R1, .int .i64 R2] ∧ BK v (w.heap.size + 2) [.slice none 0 0, .slice none 0 0] ∧ BK v (w.heap.size + 3) [.int .i64 0, .int .i64 0] ∧ BK v P8 [.slice A cs.length ca, .slice Q qs.length cq]) ⟨below_set (below_set hbb (by omega) _) (by omega) _, (BD.far (by omega) _ _).far (by omega) _ _, (BQ.set 6 _).set 7 _, (B4.far (by omega) _ _).far (by omega) _ _, (B5.far (by omega) _ _).far (by omega) _ _, (B8.far (by omega) _ _).far (by omega) _ _⟩ (fun V3 hS => ?_)
        clear hbb BD BQ B4 B5 B8
        obtain ⟨hbb, BD, BQ, B4, B5, B8⟩ := hS
        have p1 := B8.c 1 rfl
        have r0 := B4.c 0 rfl
        have f0 := B4.f 0 rfl
        have t0 := B5.c 0 rfl
        have g0 := B5.f 0 rfl
        have r1 := B4.c 1 rfl
        have f1 := B4.f 1 rfl
        have t1 := B5.c 1 rfl
        have g1 := B5.f 1 rfl
        go_wp2_with fail
        exact bodyPost_ret (v := .tuple #[.agg #[.slice none 0 0, .slice none 0 0], .agg #[.int .i64 0, .int .i64 0], .int .i64 (4)]) (by simp [results, Tryz.results136, go_sem, r0, r1, t0, t1]) rfl ⟨below_set (below_set (below_set (below_set hbb (by omega) _) (by omega) _) (by omega) _) (by omega) _, .inl ⟨by rw [HP.out]; decide, by rw [HP.out]⟩⟩
      · have HPE := Lib.hid (HPE.out.trans (by rw [if_neg (by decide), if_neg h3]))
        have d3 : ((qs.length : Int) == 2000) = false := by rw [beq_eq_false_iff_ne]; omega
        obtain ⟨i0, hi0, hz0, hz1, hz2⟩ := info_parts queryInfo
        have HIN := Lib.hid hi0
        have HIZ := Lib.hid hz0
        have HS1 := Lib.hid hz1
        have HS2 := Lib.hid hz2
        clear hi0 hz0 hz1 hz2 h3
        go_enter Tryz.func136, Tryz.ntmps136
        go_upto_region 1 with fail
        refine at_worldQ (fun v => Below w.heap.size w v ∧ BK v w.heap.size [.slice A cs.length ca, .slice Q qs.length cq] ∧ BK v (w.heap.size + 1) [.int .i64 ag, .int .u8 kd, .int .i64 a, .int .i64 b, .int .i64 c, .int .i64 d, .int .i64 x, .int .i64 y] ∧ BK v (w.heap.size + 2) [.slice none 0 0, .slice none 0 0] ∧ BK v (w.heap.size + 3) [.int .i64 0, .int .i64 0]) ⟨below_al (below_al (below_al (below_al (Below.refl _ _) _) _) _) _, (((BK.new w [.slice A cs.length ca, .slice Q qs.length cq] _).al _).al _).al _, by have b := ((BK.new (w.alloc (.cells #[.slice A cs.length ca, .slice Q qs.length cq] 65)) [.int .i64 ag, .int .u8 kd, .int .i64 a, .int .i64 b, .int .i64 c, .int .i64 d, .int .i64 x, .int .i64 y] 85).al (.cells #[.slice none 0 0, .slice none 0 0] 65)).al (.cells #[.int .i64 0, .int .i64 0] 44); simpa only [World.size_alloc] using b, by have b := (BK.new ((w.alloc (.cells #[.slice A cs.length ca, .slice Q qs.length cq] 65)).alloc (.cells #[.int .i64 ag, .int .u8 kd, .int .i64 a, .int .i64 b, .int .i64 c, .int .i64 d, .int .i64 x, .int .i64 y] 85)) [.slice none 0 0, .slice none 0 0] 65).al (.cells #[.int .i64 0, .int .i64 0] 44); simpa only [World.size_alloc] using b, by have b := BK.new (((w.alloc (.cells #[.slice A cs.length ca, .slice Q qs.length cq] 65)).alloc (.cells #[.int .i64 ag, .int .u8 kd, .int .i64 a, .int .i64 b, .int .i64 c, .int .i64 d, .int .i64 x, .int .i64 y] 85)).alloc (.cells #[.slice none 0 0, .slice none 0 0] 65)) [.int .i64 0, .int .i64 0] 44; simpa only [World.size_alloc] using b⟩ (fun V hS => ?_)
        obtain ⟨hbb, BD, BQ, B4, B5⟩ := hS
        have p0 := BD.c 0 rfl
        have p1 := BD.c 1 rfl
        go_wp2_with fail
        refine (CH.out _ hbb).mono ?_
        rintro e w1 ⟨rfl, hb1⟩
        clear p0 p1
        replace hbb := keepB hbb hb1
        replace BD := BD.keep hb1
        replace BQ := BQ.keep hb1
        replace B4 := B4.keep hb1
        replace B5 := B5.keep hb1
        clear hb1
        have p0 := BD.c 0 rfl
        have p1 := BD.c 1 rfl
        have e0 : ((0 : Int) != 0) = false := rfl
        go_upto_region 5 with fail
        clear p0 p1
        refine at_worldQ (fun v => Below w.heap.size w v ∧ BK v w.heap.size [.slice A cs.length ca, .slice Q qs.length cq] ∧ BK v (w.heap.size + 1) [.int .i64 ag, .int .u8 kd, .int .i64 a, .int .i64 b, .int .i64 c, .int .i64 d, .int .i64 x, .int .i64 y] ∧ BK v (w.heap.size + 2) [.slice none 0 0, .slice none 0 0] ∧ BK v (w.heap.size + 3) [.int .i64 0, .int .i64 0] ∧ BK v w1.heap.size [.slice A cs.length ca, .slice Q qs.length cq]) ⟨below_al hbb _, BD.al _, BQ.al _, B4.al _, B5.al _, BK.new w1 [.slice A cs.length ca, .slice Q qs.length cq] _⟩ (fun V2 hS => ?_)
        have h84 : w.heap.size + 3 < w1.heap.size := B5.lt
        clear hbb BD BQ B4 B5
        obtain ⟨hbb, BD, BQ, B4, B5, B8⟩ := hS
        generalize w1.heap.size = P8 at *
        have p0 := B8.c 0 rfl
        have p1 := B8.c 1 rfl
        have y0 := BQ.c 0 rfl
        have y1 := BQ.c 1 rfl
        have y2 := BQ.c 2 rfl
        have y3 := BQ.c 3 rfl
        have y4 := BQ.c 4 rfl
        have y5 := BQ.c 5 rfl
        have y6 := BQ.c 6 rfl
        have y7 := BQ.c 7 rfl
        go_wp2_with fail
        refine (AN.out _ hbb).mono ?_
        rintro e w2 ⟨rfl, hb1⟩
        clear p0 p1
        clear y0 y1 y2 y3 y4 y5 y6 y7
        replace hbb := keepB hbb hb1
        replace BD := BD.keep hb1
        replace BQ := BQ.keep hb1
        replace B4 := B4.keep hb1
        replace B5 := B5.keep hb1
        replace B8 := B8.keep hb1
        clear hb1
        have y6 := BQ.c 6 rfl
        have y7 := BQ.c 7 rfl
        have z6 := BQ.f 6 rfl
        have z7 := BQ.f 7 rfl
        go_upto_region 6 with fail
        clear y6 y7 z6 z7
        refine at_worldQ (fun v => Below w.heap.size w v ∧ BK v w.heap.size [.slice A cs.length ca, .slice Q qs.length cq] ∧ BK v (w.heap.size + 1) [.int .i64 ag, .int .u8 kd, .int .i64 a, .int .i64 b, .int .i64 c, .int .i64 d, .int .i64 R1, .int .i64 R2] ∧ BK v (w.heap.size + 2) [.slice none 0 0, .slice none 0 0] ∧ BK v (w.heap.size + 3) [.int .i64 0, .int .i64 0] ∧ BK v P8 [.slice A cs.length ca, .slice Q qs.length cq]) ⟨below_set (below_set hbb (by omega) _) (by omega) _, (BD.far (by omega) _ _).far (by omega) _ _, (BQ.set 6 _).set 7 _, (B4.far (by omega) _ _).far (by omega) _ _, (B5.far (by omega) _ _).far (by omega) _ _, (B8.far (by omega) _ _).far (by omega) _ _⟩ (fun V3 hS => ?_)
        clear hbb BD BQ B4 B5 B8
        obtain ⟨hbb, BD, BQ, B4, B5, B8⟩ := hS
        have p0 := B8.c 0 rfl
        have p1 := B8.c 1 rfl
        go_wp2_with fail
        refine (CP.out _ hbb).mono ?_
        rintro e w4 ⟨N, rv, lv, l, rfl, hdat, hcr, hlog, hlv⟩
        obtain ⟨R, cr, rfl, _⟩ := Ak.row_cap hcr.row
        obtain ⟨Q2, cq2, rfl, _⟩ := Ak.row_cap hlog
        clear p0 p1
        have hb1 := hcr.bb
        have hV3 : P8 < V3.heap.size := B8.lt
        replace hbb := keepB hbb hb1
        replace BQ := BQ.keep hb1
        replace B4 := B4.keep hb1
        replace B5 := B5.keep hb1
        have hNV := hcr.hw
        have hll : l.length ≤ 6 := by have := congrArg List.length hdat; simp at this; omega
        have HDAT := Lib.hid hdat
        clear hb1 B8 BD
        have r0 := B4.c 0 rfl
        have r1 := B4.c 1 rfl
        have f0 := B4.f 0 rfl
        have f1 := B4.f 1 rfl
        go_upto_region 11 with fail
        clear r0 r1 f0 f1
        refine at_worldQ (fun v => Below w.heap.size w v ∧ N + 1 ≤ v.heap.size ∧ BK v (w.heap.size + 1) [.int .i64 ag, .int .u8 kd, .int .i64 a, .int .i64 b, .int .i64 c, .int .i64 d, .int .i64 R1, .int .i64 R2] ∧ BK v (w.heap.size + 2) [(Value.slice R l.length cr), .slice Q2 qs.length cq2] ∧ BK v (w.heap.size + 3) [.int .i64 0, .int .i64 0] ∧ v.ownsRow (N + 1) 48 3 (Value.slice R l.length cr) l.length (Ak.cellsC l) ∧ (∀ x ∈ l, IsCG v (N + 1) (Value.slice R l.length cr).ownBlock x) ∧ v.ownsRow V3.heap.size 85 8 (.slice Q2 qs.length cq2) qs.length (Ak.cellsQ qs))
          ⟨below_set (below_set hbb (by omega) _) (by omega) _, by rw [World.size_setCell, World.size_setCell]; exact hcr.hB, (BQ.far (by omega) _ _).far (by omega) _ _, (B4.set 0 _).set 1 _, (B5.far (by omega) _ _).far (by omega) _ _, row_far (row_far hcr.row (fun e => by have := (World.ownsRow.lt hcr.row _ e).1; omega) _) (fun e => by have := (World.ownsRow.lt hcr.row _ e).1; omega) _, fun x hx => ((hcr.all x hx).set (by omega) _).set (by omega) _, row_far (row_far hlog (fun e => by have := (World.ownsRow.lt hlog _ e).1; omega) _) (fun e => by have := (World.ownsRow.lt hlog _ e).1; omega) _⟩ (fun V11 hS => ?_)
        clear hbb BQ B4 B5 hcr hlog
        obtain ⟨hbb, hNs, BQ, B4, B5, hrow, hall, hlog⟩ := hS
        have HLV := Lib.hid hlv
        have HALL := Lib.hid hall
        have HROW := Lib.hid hrow
        have HLOG := Lib.hid hlog
        have HB4 := Lib.hid B4
        have HB5 := Lib.hid B5
        have HBQ := Lib.hid BQ
        have H8 := Lib.hid (Ak.cellsQ_len qs)
        clear hlv hall hdat hrow hlog
        have r1 := B4.c 1 rfl
        have y0 := BQ.c 0 rfl
        have y1 := BQ.c 1 rfl
        have y2 := BQ.c 2 rfl
        have y3 := BQ.c 3 rfl
        have y4 := BQ.c 4 rfl
        have y5 := BQ.c 5 rfl
        have y6 := BQ.c 6 rfl
        have y7 := BQ.c 7 rfl
        have hV11 : w.heap.size + 3 < V11.heap.size := B5.lt
        clear B4 B5 BQ
        go_upto_region 12 with (at_builtin; refine wpList_append_lies _ rfl _ _ _ rfl V3.heap.size 85 i0 _ 8 64 Tryz.underlying28 HIN.out HIZ.out HS1.out HS2.out rfl (by omega) (.slice Q2 qs.length cq2) qs.length (Ak.cellsQ qs) (by rfl) (row_keep HLOG.out (below_al (Below.refl _ _) _)) ⟨V11.heap.size, 0, none⟩ 1 1 [.int .i64 ag, .int .u8 kd, .int .i64 a, .int .i64 b, .int .i64 c, .int .i64 d, .int .i64 R1, .int .i64 R2] (by rfl) (by rfl) (fun j u hj => by rw [Addr.add_lit, Nat.zero_add]; exact (BK.new V11 [.int .i64 ag, .int .u8 kd, .int .i64 a, .int .i64 b, .int .i64 c, .int .i64 d, .int .i64 R1, .int .i64 R2] 85).c j hj) (by intro u hu; simp at hu; rcases hu with rfl | rfl | rfl | rfl | rfl | rfl | rfl | rfl <;> rfl) (by omega) (by unfold maxLen; omega) (by omega) (by rw [World.size_alloc]; omega) (V11.heap.size + 1) (by simp) ?_; intro g cap w5 hown hgrow hat hlt; have hnl : ∀ p, p ≤ w.heap.size + 3 → (Value.slice Q2 qs.length cq2).ownBlock ≠ some p := (fun p hp e => by have := (World.ownsRow.lt HLOG.out _ e).1; omega); have C4 := (HB4.out.al (.cells #[.int .i64 ag, .int .u8 kd, .int .i64 a, .int .i64 b, .int .i64 c, .int .i64 d, .int .i64 R1, .int .i64 R2] 85)).grown hgrow (hnl _ (by omega)); have m1 := C4.c 1 rfl; have k1 := C4.f 1 rfl)
        clear r1 m1 k1
        clear y0 y1 y2 y3 y4 y5 y6 y7
        have hnw : ∀ j, (Value.slice Q2 qs.length cq2).ownBlock = some j → j < N := HLV.out
        have hgg : g < N ∨ N + 1 ≤ g := by
          rcases hat with e | e
          · exact .inl (hnw g e)
          · exact .inr (by omega)
        have hV3g : V3.heap.size ≤ g := (World.ownsRow.lt hown g rfl).1
        refine at_worldQ (fun v => Below w.heap.size w v ∧ w.heap.size ≤ v.heap.size ∧ BK v (w.heap.size + 1) [.int .i64 ag, .int .u8 kd, .int .i64 a, .int .i64 b, .int .i64 c, .int .i64 d, .int .i64 R1, .int .i64 R2] ∧ BK v (w.heap.size + 2) [(Value.slice R l.length cr), (Value.slice (some ⟨g, 0, none⟩) (qs.length + 1) cap)] ∧ BK v (w.heap.size + 3) [.int .i64 0, .int .i64 0] ∧ v.ownsRow (N + 1) 48 3 (Value.slice R l.length cr) l.length (Ak.cellsC l) ∧ (∀ x ∈ l, IsCG v (N + 1) (Value.slice R l.length cr).ownBlock x) ∧ v.ownsRow V3.heap.size 85 8 (Value.slice (some ⟨g, 0, none⟩) (qs.length + 1) cap) (qs.length + 1) (Ak.cellsQ qs ++ [.int .i64 ag, .int .u8 kd, .int .i64 a, .int .i64 b, .int .i64 c, .int .i64 d, .int .i64 R1, .int .i64 R2]))
          ⟨below_set ((below_al hbb _).grown hgrow (by rw [World.size_alloc]; omega) (fun j e => by have := (World.ownsRow.lt HLOG.out _ e).1; omega)) (by omega) _, by rw [World.size_setCell]; have := hgrow.size; rw [World.size_alloc] at this; omega, ((HBQ.out.al _).grown hgrow (hnl _ (by omega))).far (by omega) _ _, C4.set 1 _, ((HB5.out.al _).grown hgrow (hnl _ (by omega))).far (by omega) _ _, row_far (World.ownsRow.kept (row_keep HROW.out (below_al (Below.refl _ _) _)) hgrow (by
              by_cases h0 : (Value.slice R l.length cr).ownBlock = none
              · exact .inl h0
              · right
                intro e
                rcases hv : (Value.slice R l.length cr).ownBlock with _ | j
                · exact h0 hv
                · have h1 := (World.ownsRow.lt HROW.out j hv).1
                  rw [hv] at e
                  have h2 := hnw j e.symm
                  omega)) (fun e => by have := (World.ownsRow.lt HROW.out _ e).1; omega) _, fun x hx => (IsCG.set (p := w.heap.size + 2) (o := 1) (by
              have h0 := (HALL.out x hx).keep (below_al (Below.refl _ _) (.cells #[.int .i64 ag, .int .u8 kd, .int .i64 a, .int .i64 b, .int .i64 c, .int .i64 d, .int .i64 R1, .int .i64 R2] 85))
              have h1 := (h0.far (row' := (Value.slice Q2 qs.length cq2).ownBlock) (fun j e => by have := hnw j e; omega)).grown (row' := (Value.slice Q2 qs.length cq2).ownBlock) hgrow (fun j e => .inl e)
              refine ⟨h1.1, h1.2.1, ?_, ?_⟩
              · refine ⟨fun hz => ?_, h1.2.2.1.2⟩
                obtain ⟨g1, o1, e1, b1, _, c1⟩ := h1.2.2.1.1 hz
                obtain ⟨g2, o2, e2, _, n2, _⟩ := h0.2.2.1.1 hz
                rw [e1] at e2
                injection e2 with e2
                injection e2 with e2 _
                subst e2
                exact ⟨g1, o1, e1, b1, n2, c1⟩
              · refine ⟨fun hz => ?_, h1.2.2.2.2⟩
                obtain ⟨g1, o1, e1, b1, _, c1⟩ := h1.2.2.2.1 hz
                obtain ⟨g2, o2, e2, _, n2, _⟩ := h0.2.2.2.1 hz
                rw [e1] at e2
                injection e2 with e2
                injection e2 with e2 _
                subst e2
                exact ⟨g1, o1, e1, b1, n2, c1⟩) (by omega) _), row_far hown (fun e => by
              have e : g = w.heap.size + 2 := by simpa [Value.ownBlock] using e
              omega) _⟩ (fun V12 hS => ?_)
        clear hbb HB4 HB5 HBQ C4 HALL HROW HLOG hown hgrow hat hnl hNs
        obtain ⟨hbb, hBV, BQ, B4, B5, hrow, hall, hlog⟩ := hS
        have HALL := Lib.hid hall
        have HROW := Lib.hid hrow
        have HLOG := Lib.hid (show V12.ownsRow V3.heap.size 85 8 (Value.slice (some ⟨g, 0, none⟩) (qs.length + 1) cap) (qs.length + 1) (Ak.cellsQ (qs ++ [Ak.told (cs.map Ak.dat) ⟨ag, kd, a, b, c, d, x, y⟩])) by rw [Ak.cellsQ_app, HTQ.out]; exact hlog)
        have HLM := Lib.hid (show l.length ≤ maxLen by unfold maxLen; omega)
        clear hall hrow hlog
        have hne : ¬ (w.heap.size + 1 = w.heap.size + 2 ∨ w.heap.size + 1 = w.heap.size + 3) := by omega
        have c6 := BQ.c 6 rfl
        have c7 := BQ.c 7 rfl
        refine wp_region_noPanic ?_
        refine wp_region_held_drew (S := (GB (fun k => k = w.heap.size + 2 ∨ k = w.heap.size + 3) V12)) (by kernel_rfl) ((GB.refl _ _).drew) (fun hHeld => ?_)
        refine at_anyH (fun v => GB (fun k => k = w.heap.size + 2 ∨ k = w.heap.size + 3) V12 v ∧ BK v (w.heap.size + 2) [(Value.slice R l.length cr), (Value.slice (some ⟨g, 0, none⟩) (qs.length + 1) cap)] ∧ BK v (w.heap.size + 3) [.int .i64 0, .int .i64 0]) ⟨hHeld, B4.drew, B5.drew⟩ (fun wy0 hNew => ?_)
        clear hHeld B4 B5
        obtain ⟨hHeld, B4, B5⟩ := hNew
        refine tkn 1 ?vy1 rfl ?hyy1 hHeld ?resty1
        case hyy1 => (intro w hSw; go_simp; first | done | (with_reducible rfl))
        try simp only [PPz]
        refine tkn 2 ?vy2 rfl ?hyy2 hHeld ?resty2
        case hyy2 => (intro w hSw; have kc6 := hSw.cell hne c6; have kc7 := hSw.cell hne c7; go_simp; first | done | (with_reducible rfl))
        try simp only [PPz]
        refine rdy1 0 rfl (fun K hK => ?_)
        have n0 := B4.c 0 rfl
        have n1 := B4.c 1 rfl
        go_simp
        clear n0 n1
        refine hK.out _ _ hHeld (fun hNew => ?_)
        clear hHeld hK K
        have hHeld := hNew
        clear hNew
        try simp only [PPz]
        refine rdy1 3 rfl (fun K hK => ?_)
        have n0 := B4.c 0 rfl
        have f0 := B4.f 0 rfl
        have n1 := B4.c 1 rfl
        have f1 := B4.f 1 rfl
        go_simp
        clear n0 f0 n1 f1
        refine hK.out _ _ ((hHeld.set (.inl (.inl rfl)) _).set (.inl (.inl rfl)) _) (fun hNew => ?_)
        clear hHeld hK K
        have hHeld := hNew
        clear hNew
        try simp only [PPz]
        refine at_anyH (fun v => GB (fun k => k = w.heap.size + 2 ∨ k = w.heap.size + 3) V12 v ∧ BK v (w.heap.size + 2) [(Value.slice R l.length cr), (Value.slice (some ⟨g, 0, none⟩) (qs.length + 1) cap)] ∧ BK v (w.heap.size + 3) [.int .i64 0, .int .i64 0]) ⟨hHeld, ((B4.set 0 _).set 1 _), ((B5.far (by omega) _ _).far (by omega) _ _)⟩ (fun wy4 hS => ?_)
        clear hHeld B4 B5
        obtain ⟨hHeld, B4, B5⟩ := hS
        refine rdy1 4 rfl (fun K hK => ?_)
        have n0 := B5.c 0 rfl
        have f0 := B5.f 0 rfl
        have n1 := B5.c 1 rfl
        have f1 := B5.f 1 rfl
        go_simp
        clear n0 f0 n1 f1
        refine hK.out _ _ ((hHeld.set (.inl (.inr rfl)) _).set (.inl (.inr rfl)) _) (fun hNew => ?_)
        clear hHeld hK K
        have hHeld := hNew
        clear hNew
        try simp only [PPz]
        refine at_anyH (fun v => GB (fun k => k = w.heap.size + 2 ∨ k = w.heap.size + 3) V12 v ∧ BK v (w.heap.size + 2) [(Value.slice R l.length cr), (Value.slice (some ⟨g, 0, none⟩) (qs.length + 1) cap)] ∧ BK v (w.heap.size + 3) [.int .i64 R1, .int .i64 R2]) ⟨hHeld, ((B4.far (by omega) _ _).far (by omega) _ _), ((B5.set 0 _).set 1 _)⟩ (fun wy5 hS => ?_)
        clear hHeld B4 B5
        obtain ⟨hHeld, B4, B5⟩ := hS
        refine tkn 5 ?vy6 rfl ?hyy6 hHeld ?resty6
        case hyy6 => (intro w hSw; go_simp; first | done | (with_reducible rfl))
        try simp only [PPz]
        refine wpAnyH_done (by kernel_rfl) ?_ _
        refine NoPanic.normal ?_
        have hbb' := hHeld.toBelow hbb (fun k hk => by omega) hBV
        have hfd : FD wy5 w.heap.size R cr l (some ⟨g, 0, none⟩) cap (qs ++ [Ak.told (cs.map Ak.dat) ⟨ag, kd, a, b, c, d, x, y⟩]) :=
          ⟨World.ownsRow.mono (row_gb HROW.out hHeld (fun j e hh => by have := (World.ownsRow.lt HROW.out j e).1; omega)) (by omega), fun x hx => ((HALL.out x hx).gb (row' := none) hHeld (fun j hj => .inl (by omega)) (fun j e => by cases e)).mono (by omega), by
            rw [show (qs ++ [Ak.told (cs.map Ak.dat) ⟨ag, kd, a, b, c, d, x, y⟩]).length = qs.length + 1 by simp]
            exact World.ownsRow.mono (row_gb HLOG.out hHeld (fun j e hh => by have := (World.ownsRow.lt HLOG.out j e).1; omega)) (by omega), HQ6.out, HLM.out, by simp [maxLen]; omega⟩
        have r0 := B4.c 0 rfl
        have r1 := B4.c 1 rfl
        have t0 := B5.c 0 rfl
        have t1 := B5.c 1 rfl
        clear hHeld hbb
        go_wp2_with fail
        exact bodyPost_ret (v := .tuple #[.agg #[(Value.slice R l.length cr), (Value.slice (some ⟨g, 0, none⟩) (qs.length + 1) cap)], .agg #[.int .i64 R1, .int .i64 R2], .int .i64 0]) (by simp [results, Tryz.results136, go_sem, r0, r1, t0, t1]) rfl ⟨hbb', .inr ⟨HPE.out, R, cr, l, _, cap, by rw [HTX.out, HTY.out]; simp, HDAT.out, hfd⟩⟩
    · have HP := Lib.hid (HPE.out.trans (if_pos h2))
      have HNZ := Lib.hid h2
      have n3 : (R3 != 0) = true := by rw [bne_iff_ne]; exact h2
      clear HPE CP HQ6 HTX HTY HTQ h2
      go_enter Tryz.func136, Tryz.ntmps136
      go_upto_region 1 with fail
      refine at_worldQ (fun v => Below w.heap.size w v ∧ BK v w.heap.size [.slice A cs.length ca, .slice Q qs.length cq] ∧ BK v (w.heap.size + 1) [.int .i64 ag, .int .u8 kd, .int .i64 a, .int .i64 b, .int .i64 c, .int .i64 d, .int .i64 x, .int .i64 y] ∧ BK v (w.heap.size + 2) [.slice none 0 0, .slice none 0 0] ∧ BK v (w.heap.size + 3) [.int .i64 0, .int .i64 0]) ⟨below_al (below_al (below_al (below_al (Below.refl _ _) _) _) _) _, (((BK.new w [.slice A cs.length ca, .slice Q qs.length cq] _).al _).al _).al _, by have b := ((BK.new (w.alloc (.cells #[.slice A cs.length ca, .slice Q qs.length cq] 65)) [.int .i64 ag, .int .u8 kd, .int .i64 a, .int .i64 b, .int .i64 c, .int .i64 d, .int .i64 x, .int .i64 y] 85).al (.cells #[.slice none 0 0, .slice none 0 0] 65)).al (.cells #[.int .i64 0, .int .i64 0] 44); simpa only [World.size_alloc] using b, by have b := (BK.new ((w.alloc (.cells #[.slice A cs.length ca, .slice Q qs.length cq] 65)).alloc (.cells #[.int .i64 ag, .int .u8 kd, .int .i64 a, .int .i64 b, .int .i64 c, .int .i64 d, .int .i64 x, .int .i64 y] 85)) [.slice none 0 0, .slice none 0 0] 65).al (.cells #[.int .i64 0, .int .i64 0] 44); simpa only [World.size_alloc] using b, by have b := BK.new (((w.alloc (.cells #[.slice A cs.length ca, .slice Q qs.length cq] 65)).alloc (.cells #[.int .i64 ag, .int .u8 kd, .int .i64 a, .int .i64 b, .int .i64 c, .int .i64 d, .int .i64 x, .int .i64 y] 85)).alloc (.cells #[.slice none 0 0, .slice none 0 0] 65)) [.int .i64 0, .int .i64 0] 44; simpa only [World.size_alloc] using b⟩ (fun V hS => ?_)
      obtain ⟨hbb, BD, BQ, B4, B5⟩ := hS
      have p0 := BD.c 0 rfl
      have p1 := BD.c 1 rfl
      go_wp2_with fail
      refine (CH.out _ hbb).mono ?_
      rintro e w1 ⟨rfl, hb1⟩
      clear p0 p1
      replace hbb := keepB hbb hb1
      replace BD := BD.keep hb1
      replace BQ := BQ.keep hb1
      replace B4 := B4.keep hb1
      replace B5 := B5.keep hb1
      clear hb1
      have p0 := BD.c 0 rfl
      have p1 := BD.c 1 rfl
      have e0 : ((0 : Int) != 0) = false := rfl
      go_upto_region 5 with fail
      clear p0 p1
      refine at_worldQ (fun v => Below w.heap.size w v ∧ BK v w.heap.size [.slice A cs.length ca, .slice Q qs.length cq] ∧ BK v (w.heap.size + 1) [.int .i64 ag, .int .u8 kd, .int .i64 a, .int .i64 b, .int .i64 c, .int .i64 d, .int .i64 x, .int .i64 y] ∧ BK v (w.heap.size + 2) [.slice none 0 0, .slice none 0 0] ∧ BK v (w.heap.size + 3) [.int .i64 0, .int .i64 0] ∧ BK v w1.heap.size [.slice A cs.length ca, .slice Q qs.length cq]) ⟨below_al hbb _, BD.al _, BQ.al _, B4.al _, B5.al _, BK.new w1 [.slice A cs.length ca, .slice Q qs.length cq] _⟩ (fun V2 hS => ?_)
      have h84 : w.heap.size + 3 < w1.heap.size := B5.lt
      clear hbb BD BQ B4 B5
      obtain ⟨hbb, BD, BQ, B4, B5, B8⟩ := hS
      generalize w1.heap.size = P8 at *
      have p0 := B8.c 0 rfl
      have p1 := B8.c 1 rfl
      have y0 := BQ.c 0 rfl
      have y1 := BQ.c 1 rfl
      have y2 := BQ.c 2 rfl
      have y3 := BQ.c 3 rfl
      have y4 := BQ.c 4 rfl
      have y5 := BQ.c 5 rfl
      have y6 := BQ.c 6 rfl
      have y7 := BQ.c 7 rfl
      go_wp2_with fail
      refine (AN.out _ hbb).mono ?_
      rintro e w2 ⟨rfl, hb1⟩
      clear p0 p1
      clear y0 y1 y2 y3 y4 y5 y6 y7
      replace hbb := keepB hbb hb1
      replace BD := BD.keep hb1
      replace BQ := BQ.keep hb1
      replace B4 := B4.keep hb1
      replace B5 := B5.keep hb1
      replace B8 := B8.keep hb1
      clear hb1
      have y6 := BQ.c 6 rfl
      have y7 := BQ.c 7 rfl
      have z6 := BQ.f 6 rfl
      have z7 := BQ.f 7 rfl
      go_upto_region 6 with fail
      clear y6 y7 z6 z7
      refine at_worldQ (fun v => Below w.heap.size w v ∧ BK v w.heap.size [.slice A cs.length ca, .slice Q qs.length cq] ∧ BK v (w.heap.size + 1) [.int .i64 ag, .int .u8 kd, .int .i64 a, .int .i64 b, .int .i64 c, .int .i64 d, .int .i64 R1, .int .i64 R2] ∧ BK v (w.heap.size + 2) [.slice none 0 0, .slice none 0 0] ∧ BK v (w.heap.size + 3) [.int .i64 0, .int .i64 0] ∧ BK v P8 [.slice A cs.length ca, .slice Q qs.length cq]) ⟨below_set (below_set hbb (by omega) _) (by omega) _, (BD.far (by omega) _ _).far (by omega) _ _, (BQ.set 6 _).set 7 _, (B4.far (by omega) _ _).far (by omega) _ _, (B5.far (by omega) _ _).far (by omega) _ _, (B8.far (by omega) _ _).far (by omega) _ _⟩ (fun V3 hS => ?_)
      clear hbb BD BQ B4 B5 B8
      obtain ⟨hbb, BD, BQ, B4, B5, B8⟩ := hS
      have r0 := B4.c 0 rfl
      have f0 := B4.f 0 rfl
      have t0 := B5.c 0 rfl
      have g0 := B5.f 0 rfl
      have r1 := B4.c 1 rfl
      have f1 := B4.f 1 rfl
      have t1 := B5.c 1 rfl
      have g1 := B5.f 1 rfl
      go_wp2_with fail
      exact bodyPost_ret (v := .tuple #[.agg #[.slice none 0 0, .slice none 0 0], .agg #[.int .i64 0, .int .i64 0], .int .i64 (R3)]) (by simp [results, Tryz.results136, go_sem, r0, r1, t0, t1]) rfl ⟨below_set (below_set (below_set (below_set hbb (by omega) _) (by omega) _) (by omega) _) (by omega) _, .inl ⟨by rw [HP.out]; exact HNZ.out, by rw [HP.out]⟩⟩
  · have HNZ := Lib.hid h1
    have HP := Lib.hid (show Ak.putE (cs.map Ak.dat) qs.length ⟨ag, kd, a, b, c, d, x, y⟩ = Ak.chkS (cs.map Ak.dat) qs.length by unfold Ak.putE; rw [if_pos h1])
    have n1 : (Ak.chkS (cs.map Ak.dat) qs.length != 0) = true := by rw [bne_iff_ne]; exact h1
    generalize Ak.chkS (cs.map Ak.dat) qs.length = z at *
    have CH := Lib.hid ch
    clear ch h1 h hq hqq
    go_enter Tryz.func136, Tryz.ntmps136
    go_upto_region 1 with fail
    refine at_worldQ (fun v => Below w.heap.size w v ∧ BK v w.heap.size [.slice A cs.length ca, .slice Q qs.length cq] ∧ BK v (w.heap.size + 1) [.int .i64 ag, .int .u8 kd, .int .i64 a, .int .i64 b, .int .i64 c, .int .i64 d, .int .i64 x, .int .i64 y] ∧ BK v (w.heap.size + 2) [.slice none 0 0, .slice none 0 0] ∧ BK v (w.heap.size + 3) [.int .i64 0, .int .i64 0]) ⟨below_al (below_al (below_al (below_al (Below.refl _ _) _) _) _) _, (((BK.new w [.slice A cs.length ca, .slice Q qs.length cq] _).al _).al _).al _, by have b := ((BK.new (w.alloc (.cells #[.slice A cs.length ca, .slice Q qs.length cq] 65)) [.int .i64 ag, .int .u8 kd, .int .i64 a, .int .i64 b, .int .i64 c, .int .i64 d, .int .i64 x, .int .i64 y] 85).al (.cells #[.slice none 0 0, .slice none 0 0] 65)).al (.cells #[.int .i64 0, .int .i64 0] 44); simpa only [World.size_alloc] using b, by have b := (BK.new ((w.alloc (.cells #[.slice A cs.length ca, .slice Q qs.length cq] 65)).alloc (.cells #[.int .i64 ag, .int .u8 kd, .int .i64 a, .int .i64 b, .int .i64 c, .int .i64 d, .int .i64 x, .int .i64 y] 85)) [.slice none 0 0, .slice none 0 0] 65).al (.cells #[.int .i64 0, .int .i64 0] 44); simpa only [World.size_alloc] using b, by have b := BK.new (((w.alloc (.cells #[.slice A cs.length ca, .slice Q qs.length cq] 65)).alloc (.cells #[.int .i64 ag, .int .u8 kd, .int .i64 a, .int .i64 b, .int .i64 c, .int .i64 d, .int .i64 x, .int .i64 y] 85)).alloc (.cells #[.slice none 0 0, .slice none 0 0] 65)) [.int .i64 0, .int .i64 0] 44; simpa only [World.size_alloc] using b⟩ (fun V hS => ?_)
    obtain ⟨hbb, BD, BQ, B4, B5⟩ := hS
    have p0 := BD.c 0 rfl
    have p1 := BD.c 1 rfl
    go_wp2_with fail
    refine (CH.out _ hbb).mono ?_
    rintro e w1 ⟨rfl, hb1⟩
    clear p0 p1
    replace hbb := keepB hbb hb1
    replace BD := BD.keep hb1
    replace BQ := BQ.keep hb1
    replace B4 := B4.keep hb1
    replace B5 := B5.keep hb1
    clear hb1
    have r0 := B4.c 0 rfl
    have f0 := B4.f 0 rfl
    have t0 := B5.c 0 rfl
    have g0 := B5.f 0 rfl
    have r1 := B4.c 1 rfl
    have f1 := B4.f 1 rfl
    have t1 := B5.c 1 rfl
    have g1 := B5.f 1 rfl
    go_wp2_with fail
    exact bodyPost_ret (v := .tuple #[.agg #[.slice none 0 0, .slice none 0 0], .agg #[.int .i64 0, .int .i64 0], .int .i64 (z)]) (by simp [results, Tryz.results136, go_sem, r0, r1, t0, t1]) rfl ⟨below_set (below_set (below_set (below_set hbb (by omega) _) (by omega) _) (by omega) _) (by omega) _, .inl ⟨by rw [HP.out]; exact HNZ.out, by rw [HP.out]⟩⟩
end Go.Proofs.YtpcdggkajindbaaGreat

